/- The contracts of the model's l8Files, l8Form, l8Same. -/
import Derived.Test.YtiilkkdbifhojaaDkS2
namespace Go.Proofs.Ytiilkkdbifhojaa
open Go.ChangeShapes Go.WideShapes Go.ChangeAt Go.RowKit
set_option linter.unusedVariables false
set_option maxRecDepth 100000
theorem later_val {P : Program} {f : FuncId} {args : Array Value} {W : World} {x : Later W} {b b' : Bool} (e : b = b') (h : Calls P f args x.w fun e w'' => e = .returned (.bool b) ∧ ∃ y : Later W, w'' = y.w) : Calls P f args x.w fun e w'' => e = .returned (.bool b') ∧ ∃ y : Later W, w'' = y.w := by rw [← e]; exact h
theorem later_int2 {P : Program} {f : FuncId} {args : Array Value} {W : World} {x : Later W} {b b' : Int} (e : b = b') (h : Calls P f args x.w fun e w'' => e = .returned (.int .i64 b) ∧ ∃ y : Later W, w'' = y.w) : Calls P f args x.w fun e w'' => e = .returned (.int .i64 b') ∧ ∃ y : Later W, w'' = y.w := by rw [← e]; exact h
def SmG0 (l : List Fl) : Prop := ∀ f ∈ l, f.nm.size ≤ 4194304 ∧ f.da.size ≤ 4194304
def SmG (l : List Fl) : Prop := ∀ f ∈ l, f.nm.size ≤ 4194304 ∧ f.da.size ≤ 67108864
theorem SmG0.up {l : List Fl} (h : SmG0 l) : SmG l := fun f hf => by have := h f hf; exact ⟨by omega, by omega⟩
theorem SmF.g0 {l : List Fl} (h : SmF l) : SmG0 l := fun f hf => by have := h f hf; exact ⟨by omega, by omega⟩
theorem SmF.g {l : List Fl} (h : SmF l) : SmG l := fun f hf => by have := h f hf; exact ⟨by omega, by omega⟩
theorem filesB_end {l : List Fl} (h60 : l.length ≤ 60) (h : allTo (flB l) l.length = true) : filesB l = decide ((datL l : Int) ≤ 200000) := by simp [filesB, h60, h]
theorem filesB_no {l : List Fl} {k : Nat} (hk : k < l.length) (h : flB l k = false) : filesB l = false := by simp [filesB, allTo_false hk h]
theorem le_of_not {x y : ByteArray} (h : Op.bytesLess x.toList y.toList = false) (h' : Op.bytesLess y.toList x.toList = false) : (y.toList == x.toList) = true := by
  rw [less_eq] at h h'
  simp only [decide_eq_false_iff_not] at h h'
  exact beq_iff_eq.2 (List.le_antisymm (List.not_lt.1 h) (List.not_lt.1 h'))
theorem not_le_of {x y : ByteArray} (h : Op.bytesLess x.toList y.toList = true) : Op.bytesLess y.toList x.toList = false ∧ (y.toList == x.toList) = false := by
  rw [less_eq] at h ⊢
  simp only [decide_eq_true_eq] at h
  refine ⟨by simpa using List.le_of_lt h, ?_⟩
  rw [beq_eq_false_iff_ne]
  intro e
  rw [e] at h
  exact List.lt_irrefl _ h
set_option maxHeartbeats 4000000 in
theorem l8Files_any (a : Option Addr) (l : List Fl) (cap : Nat) (w : World) (hl : l.length ≤ 1048576) (hs : SmG l) (h : RowAt 2 flCells w a l) :
    Calls Try.prog 23 #[.slice a l.length cap] w fun e w' => e = .returned (.bool (filesB l)) ∧ Below w.heap.size w w' := by
  have HC : Hid _ := hide h
  have HS : Hid _ := hide hs
  clear h hs
  by_cases h60 : l.length ≤ 60
  · have a2 : ¬ (60 : Int) < (l.length : Int) := by omega
    go_enter Try.func23, Try.ntmps23
    go_wp2
    go_loopw [3, 4] (fun s i wr => ∃ (k : Nat) (z : Nat), k ≤ l.length ∧ i = .int .i64 (k : Int) ∧ s = .int .i64 (z : Int) ∧ Hid (z = datL (l.take k)) ∧ z ≤ 4093640704 ∧ Hid (Below w.heap.size w wr) ∧ Hid (allTo (flB l) k = true)) (fun s i wr => l.length - (intOf i).toNat)
    case atStart => exact ⟨0, 0, Nat.zero_le _, rfl, rfl, hide (by simp [datL]), by omega, hide (Below.refl _ _), hide rfl⟩
    case round =>
      obtain ⟨k, z, hk, rfl, rfl, HZ, hz, HB, HG⟩ := hrel
      by_cases hlt : k < l.length
      · have hlt' : (k : Int) < (l.length : Int) := by omega
        obtain ⟨b, off, rfl, hb, c0, c1⟩ := fl_row (HC.out.below HB.out) k hlt
        have s1 := (HS.out _ (List.getElem_mem hlt)).1
        have s2 := (HS.out _ (List.getElem_mem hlt)).2
        have HZ2 : Hid (z + (l[k]).da.size = datL (l.take (k + 1))) := hide (by rw [HZ.out, datL_next l k hlt])
        have hz2 : z + (l[k]).da.size ≤ 4093640704 := by rw [HZ2.out]; exact dat_take (by omega) (fun f hf => (HS.out f hf).2) _
        have d0 := later_cell c0
        have d1 := later_cell c1
        have hne : Nonempty (Later wr) := later_there _
        cases q1 : nmB (l[k]).nm
        · have HR : Hid (filesB l = false) := hide (filesB_no hlt (by rw [flB_at hlt, q1]; rfl))
          go_wp2_with fail
          refine wp_region_later wr (by kernel_rfl) (by kernel_rfl) ((Below.refl _ _).drew) ?_
          repeat (go_big_quiet_step (first | (go_at_call 46; exact later_val q1 (later_same (l8Name_any _ _ s1)))))
          refine wpQuiet_nil ?_
          intro _ hw'
          obtain ⟨nx, rfl⟩ := hw'
          go_wp2
          go_ret
          exact ⟨by rw [HR.out]; rfl, below_trans HB.out nx.below⟩
        · by_cases hz0 : k = 0
          · have hri : Hid (risesN l k = true) := hide (by rw [hz0]; rfl)
            have hz' : decide ((0 : Int) < (k : Int)) = false := by simp; omega
            have hz'' : decide (0 < k) = false := by simp; omega
            clear hz0
            have HG2 : Hid (allTo (flB l) (k + 1) = true) := hide (allTo_step HG.out (by rw [flB_at hlt, q1, hri.out]; rfl))
            go_wp2_with fail
            refine wp_region_later wr (by kernel_rfl) (by kernel_rfl) ((Below.refl _ _).drew) ?_
            repeat (go_big_quiet_step (first | (go_at_call 46; exact later_val q1 (later_same (l8Name_any _ _ s1)))))
            refine wpQuiet_nil ?_
            intro _ hw'
            obtain ⟨nx, rfl⟩ := hw'
            have e1 := d1 nx
            go_wp2
            exact ⟨⟨k + 1, z + (l[k]).da.size, by omega, by go_num, by go_num, HZ2, hz2, hide (below_trans HB.out nx.below), HG2⟩, by simp [intOf]; omega⟩
          · obtain ⟨m, hm⟩ : ∃ m, k = m + 1 := ⟨k - 1, by omega⟩
            have hm3 : m < l.length := by omega
            obtain ⟨b', off', heq, _, p0, _⟩ := fl_row (HC.out.below HB.out) m hm3
            simp only [Option.some.injEq, Addr.mk.injEq, and_true] at heq
            obtain ⟨rfl, rfl⟩ := heq
            have f0 := later_cell p0
            have hz' : (0 : Int) < (k : Int) := by omega
            have hm1 : IntKind.i64.wrap ((k : Int) - 1) = (m : Int) := wrap_pred hm (by omega)
            have hm2 : (m : Int) < (l.length : Int) := by omega
            have hz'' : 0 < k := by omega
            have hrs : risesN l k = Op.bytesLess (l[m]).nm.toList (l[k]).nm.toList := by subst hm; exact rises_fl hlt
            cases q2 : Op.bytesLess (l[m]).nm.toList (l[k]).nm.toList
            · have HR : Hid (filesB l = false) := hide (filesB_no hlt (by rw [flB_at hlt, q1, hrs, q2]; rfl))
              clear hrs hm hz0
              cases e1 : Op.bytesLess (l[k]).nm.toList (l[m]).nm.toList
              · have e2 := le_of_not q2 e1
                go_wp2_with fail
                refine wp_region_later wr (by kernel_rfl) (by kernel_rfl) ((Below.refl _ _).drew) ?_
                repeat (go_big_quiet_step (first | (go_at_call 46; exact later_val q1 (later_same (l8Name_any _ _ s1)))))
                refine wpQuiet_nil ?_
                intro _ hw'
                obtain ⟨nx, rfl⟩ := hw'
                go_wp2
                go_ret
                exact ⟨by rw [HR.out]; rfl, below_trans HB.out nx.below⟩
              · go_wp2_with fail
                refine wp_region_later wr (by kernel_rfl) (by kernel_rfl) ((Below.refl _ _).drew) ?_
                repeat (go_big_quiet_step (first | (go_at_call 46; exact later_val q1 (later_same (l8Name_any _ _ s1)))))
                refine wpQuiet_nil ?_
                intro _ hw'
                obtain ⟨nx, rfl⟩ := hw'
                go_wp2
                go_ret
                exact ⟨by rw [HR.out]; rfl, below_trans HB.out nx.below⟩
            · have HG2 : Hid (allTo (flB l) (k + 1) = true) := hide (allTo_step HG.out (by rw [flB_at hlt, q1, hrs, q2]; rfl))
              obtain ⟨t1, t2⟩ := not_le_of q2
              clear hrs hm hz0
              go_wp2_with fail
              refine wp_region_later wr (by kernel_rfl) (by kernel_rfl) ((Below.refl _ _).drew) ?_
              repeat (go_big_quiet_step (first | (go_at_call 46; exact later_val q1 (later_same (l8Name_any _ _ s1)))))
              refine wpQuiet_nil ?_
              intro _ hw'
              obtain ⟨nx, rfl⟩ := hw'
              have e1 := d1 nx
              go_wp2
              exact ⟨⟨k + 1, z + (l[k]).da.size, by omega, by go_num, by go_num, HZ2, hz2, hide (below_trans HB.out nx.below), HG2⟩, by simp [intOf]; omega⟩
      · have hk' : ¬ (k : Int) < (l.length : Int) := by omega
        have HE : Hid (filesB l = decide ((z : Int) ≤ 200000)) := hide (by
          have hkk : k = l.length := by omega
          have h1 := HG.out
          rw [hkk] at h1
          rw [filesB_end h60 h1, HZ.out, hkk, List.take_length])
        clear HZ
        go_wp2
        go_ret
        exact ⟨by rw [HE.out]; rfl, HB.out⟩
  · have HR : Hid (filesB l = false) := hide (by simp [filesB, h60])
    have a2 : (60 : Int) < (l.length : Int) := by omega
    go_enter Try.func23, Try.ntmps23
    go_wp2
    go_ret
    exact ⟨by rw [HR.out]; rfl, Below.refl _ _⟩
set_option maxHeartbeats 4000000 in
theorem l8Same_any (a c : Option Addr) (l l' : List Fl) (ca cc : Nat) (w : World) (hl : l.length ≤ 1048576) (hl' : l'.length ≤ 1048576) (h : RowAt 2 flCells w a l) (h' : RowAt 2 flCells w c l') :
    Calls Try.prog 26 #[.slice a l.length ca, .slice c l'.length cc] w fun e w' => e = .returned (.bool (decide (l = l'))) ∧ Below w.heap.size w w' := by
  have HC : Hid _ := hide h
  have HC' : Hid _ := hide h'
  clear h h'
  by_cases hln : l.length = l'.length
  · have hln' : ((l.length : Int) != (l'.length : Int)) = false := by simp; omega
    have HLN : Hid _ := hide hln
    clear hln
    go_enter Try.func26, Try.ntmps26
    go_wp2
    go_loopw [5] (fun i wr => ∃ (k : Nat), k ≤ l.length ∧ i = .int .i64 (k : Int) ∧ Hid (Below w.heap.size w wr) ∧ Hid (∀ j (hj : j < l.length) (hj' : j < l'.length), j < k → l[j] = l'[j])) (fun i wr => l.length - (intOf i).toNat)
    case atStart => exact ⟨0, Nat.zero_le _, rfl, hide (Below.refl _ _), hide (fun j _ _ hj => by omega)⟩
    case round =>
      obtain ⟨k, hk, rfl, HB, HE⟩ := hrel
      by_cases hlt : k < l.length
      · have hlt' : (k : Int) < (l.length : Int) := by omega
        have hl2 : k < l'.length := by have := HLN.out; omega
        have hl3 : (k : Int) < (l'.length : Int) := by omega
        obtain ⟨b, off, rfl, hb, c0, c1⟩ := fl_row (HC.out.below HB.out) k hlt
        obtain ⟨b', off', rfl, hb', p0, p1⟩ := fl_row (HC'.out.below HB.out) k hl2
        by_cases he : l[k] = l'[k]
        · have HE2 : Hid (∀ j (hj : j < l.length) (hj' : j < l'.length), j < k + 1 → l[j] = l'[j]) := hide (fun j hj hj' hjk => by
            rcases Nat.lt_or_ge j k with h | h
            · exact HE.out j hj hj' h
            · obtain rfl : j = k := by omega
              exact he)
          rw [← he] at p0 p1
          clear he
          go_wp2_with fail
          go_quiet (fail)
          go_wp2
          exact ⟨⟨k + 1, by omega, by go_num, hide (below_drewN HB.out _), HE2⟩, by simp [intOf]; omega⟩
        · have HR : Hid (decide (l = l') = false) := hide (by simp; intro e; exact he (by simp [e]))
          have hnn : ((l[k]).nm.toList == (l'[k]).nm.toList && (l[k]).da.toList == (l'[k]).da.toList) = false := by
            rw [Bool.eq_false_iff]
            intro e
            simp only [Bool.and_eq_true] at e
            exact he (by
              have e1 := beq_bytes.1 e.1
              have e2 := beq_bytes.1 e.2
              revert e1 e2
              cases l[k]; cases l'[k]; simp_all)
          clear he
          cases e1 : ((l[k]).nm.toList == (l'[k]).nm.toList)
          · go_wp2_with fail
            go_quiet (fail)
            go_wp2
            go_ret
            exact ⟨by rw [HR.out]; rfl, below_drewN HB.out _⟩
          · rw [e1, Bool.true_and] at hnn
            go_wp2_with fail
            go_quiet (fail)
            go_wp2
            go_ret
            exact ⟨by rw [HR.out]; rfl, below_drewN HB.out _⟩
      · have hk' : ¬ (k : Int) < (l.length : Int) := by omega
        have HR : Hid (decide (l = l') = true) := hide (by
          simp only [decide_eq_true_eq]
          have := HLN.out
          exact List.ext_getElem this (fun i h1 h2 => HE.out i h1 h2 (by omega)))
        go_wp2
        go_ret
        exact ⟨by rw [HR.out]; rfl, HB.out⟩
  · have HR : Hid (decide (l = l') = false) := hide (by simp; intro e; exact hln (by rw [e]))
    have hln' : ((l.length : Int) != (l'.length : Int)) = true := by simp; omega
    go_enter Try.func26, Try.ntmps26
    go_wp2
    go_ret
    exact ⟨by rw [HR.out]; rfl, Below.refl _ _⟩
end Go.Proofs.Ytiilkkdbifhojaa
