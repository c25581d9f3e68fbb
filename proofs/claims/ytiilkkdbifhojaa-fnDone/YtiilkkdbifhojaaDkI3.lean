/- The contract of the program's filesOk. -/
import Derived.Test.YtiilkkdbifhojaaDkI2
namespace Go.Proofs.Ytiilkkdbifhojaa
open Go.ChangeShapes Go.WideShapes Go.ChangeAt Go.RowKit Go.Maps
set_option linter.unusedVariables false
set_option maxRecDepth 100000
theorem srt_of {l : List Fl} (h : allTo (flB l) l.length = true) : Srt l := by
  have step : ∀ d i (hi : i + d + 1 < l.length), (l[i]'(by omega)).nm.toList < (l[i + d + 1]).nm.toList := by
    intro d
    induction d with
    | zero =>
      intro i hi
      have h2 := allTo_get h hi
      rw [flB_at hi, rises_fl (m := i) hi] at h2
      simp only [Bool.and_eq_true] at h2
      exact less_iff.1 h2.2
    | succ d ih =>
      intro i hi
      have h1 := ih i (by omega)
      have hi2 : (i + d + 1) + 1 < l.length := hi
      have h2 := allTo_get h hi2
      rw [flB_at hi2, rises_fl (m := i + d + 1) hi2] at h2
      simp only [Bool.and_eq_true] at h2
      exact List.lt_trans h1 (less_iff.1 h2.2)
  unfold Srt
  rw [List.pairwise_iff_getElem]
  intro i j hi hj hij
  have := step (j - i - 1) i (by omega)
  have e : i + (j - i - 1) + 1 = j := by omega
  simp only [e] at this
  exact this
theorem filesB_srt {l : List Fl} (h : filesB l = true) : Srt l := srt_of (filesB_parts h).2.1
theorem dat_take0 {l : List Fl} (h60 : l.length ≤ 61) (hs : ∀ f ∈ l, f.da.size ≤ 4194304) (k : Nat) : datL (l.take k) ≤ 255852544 := by
  have h1 := datL_bd (l := l.take k) (M := 4194304) (fun f hf => hs f (List.mem_of_mem_take hf))
  have h2 : (l.take k).length ≤ 61 := by rw [List.length_take]; omega
  have h3 : 4194304 * (l.take k).length ≤ 4194304 * 61 := Nat.mul_le_mul_left _ h2
  omega
set_option maxHeartbeats 4000000 in
theorem filesOk_any (a : Option Addr) (l : List Fl) (cap : Nat) (w : World) (hl : l.length ≤ 1048576) (hs : SmG0 l) (h : RowAt 2 flCells w a l) :
    Calls Try.prog 18 #[.slice a l.length cap] w fun e w' => e = .returned (.bool (filesB l)) ∧ Below w.heap.size w w' := by
  have HC : Hid _ := hide h
  have HS : Hid _ := hide hs
  clear h hs
  by_cases h60 : l.length ≤ 60
  · have a2 : ¬ (60 : Int) < (l.length : Int) := by omega
    go_enter Try.func18, Try.ntmps18
    go_wp2
    go_loopw [10] (fun i wr => ∃ (k : Nat), k ≤ l.length ∧ i = .int .i64 (k : Int) ∧ Hid (Below w.heap.size w wr) ∧ Hid (allTo (flB l) k = true)) (fun i wr => l.length - (intOf i).toNat)
    case atStart => exact ⟨0, Nat.zero_le _, rfl, hide (Below.refl _ _), hide rfl⟩
    case round =>
      obtain ⟨k, hk, rfl, HB, HG⟩ := hrel
      by_cases hlt : k < l.length
      · have hlt' : (k : Int) < (l.length : Int) := by omega
        obtain ⟨b, off, rfl, hb, c0, c1⟩ := fl_row (HC.out.below HB.out) k hlt
        have s1 := (HS.out _ (List.getElem_mem hlt)).1
        have d0 : ∀ y : Later (wr.alloc (.cells #[.string (l[k]).nm, .string (l[k]).da] 52)), y.w.cell? ⟨wr.heap.size, 0, none⟩ = some (.string (l[k]).nm) := later_cell (World.cell?_alloc_at _ _ _ _ rfl)
        have hne : Nonempty (Later (wr.alloc (.cells #[.string (l[k]).nm, .string (l[k]).da] 52))) := later_there _
        by_cases hz0 : k = 0
        · have hri : Hid (risesN l k = true) := hide (by rw [hz0]; rfl)
          have hz' : decide ((0 : Int) < (k : Int)) = false := by simp; omega
          have hz'' : decide (0 < k) = false := by simp; omega
          clear hz0
          cases q1 : nmB (l[k]).nm
          · have HR : Hid (filesB l = false) := hide (filesB_no hlt (by rw [flB_at hlt, q1]; rfl))
            go_wp2_with fail
            refine wp_region_later (wr.alloc (.cells #[.string (l[k]).nm, .string (l[k]).da] 52)) (by kernel_rfl) (by kernel_rfl) ((Below.refl _ _).drew) ?_
            repeat (go_big_quiet_step (first | (go_at_call 40; exact later_val q1 (later_same (fileNameOk_any _ _ s1)))))
            refine wpQuiet_nil ?_
            intro _ hw'
            obtain ⟨nx, rfl⟩ := hw'
            go_wp2
            go_ret
            exact ⟨by rw [HR.out]; rfl, below_trans (below_alloc HB.out _) nx.below⟩
          · have HG2 : Hid (allTo (flB l) (k + 1) = true) := hide (allTo_step HG.out (by rw [flB_at hlt, q1, hri.out]; rfl))
            go_wp2_with fail
            refine wp_region_later (wr.alloc (.cells #[.string (l[k]).nm, .string (l[k]).da] 52)) (by kernel_rfl) (by kernel_rfl) ((Below.refl _ _).drew) ?_
            repeat (go_big_quiet_step (first | (go_at_call 40; exact later_val q1 (later_same (fileNameOk_any _ _ s1)))))
            refine wpQuiet_nil ?_
            intro _ hw'
            obtain ⟨nx, rfl⟩ := hw'
            go_wp2
            exact ⟨⟨k + 1, by omega, by go_num, hide (below_trans (below_alloc HB.out _) nx.below), HG2⟩, by simp [intOf]; omega⟩
        · obtain ⟨m, hm⟩ : ∃ m, k = m + 1 := ⟨k - 1, by omega⟩
          have hm3 : m < l.length := by omega
          obtain ⟨b', off', heq, hb', p0, _⟩ := fl_row (HC.out.below HB.out) m hm3
          simp only [Option.some.injEq, Addr.mk.injEq, and_true] at heq
          obtain ⟨rfl, rfl⟩ := heq
          have f0 : ∀ y : Later (wr.alloc (.cells #[.string (l[k]).nm, .string (l[k]).da] 52)), y.w.cell? ⟨b, off + m * 2, none⟩ = some (.string (l[m]).nm) := later_old hb' p0
          have hz' : (0 : Int) < (k : Int) := by omega
          have hm1 : IntKind.i64.wrap ((k : Int) - 1) = (m : Int) := wrap_pred hm (by omega)
          have hm2 : (m : Int) < (l.length : Int) := by omega
          have hz'' : 0 < k := by omega
          have hrs : risesN l k = Op.bytesLess (l[m]).nm.toList (l[k]).nm.toList := by subst hm; exact rises_fl hlt
          cases q2 : Op.bytesLess (l[m]).nm.toList (l[k]).nm.toList
          · have HR : Hid (filesB l = false) := hide (filesB_no hlt (by rw [flB_at hlt, hrs, q2]; simp))
            clear hrs hm hz0
            cases q1 : nmB (l[k]).nm
            · skip
              go_wp2_with fail
              refine wp_region_later (wr.alloc (.cells #[.string (l[k]).nm, .string (l[k]).da] 52)) (by kernel_rfl) (by kernel_rfl) ((Below.refl _ _).drew) ?_
              repeat (go_big_quiet_step (first | (go_at_call 40; exact later_val q1 (later_same (fileNameOk_any _ _ s1)))))
              refine wpQuiet_nil ?_
              intro _ hw'
              obtain ⟨nx, rfl⟩ := hw'
              go_wp2
              go_ret
              exact ⟨by rw [HR.out]; rfl, below_trans (below_alloc HB.out _) nx.below⟩
            · skip
              go_wp2_with fail
              refine wp_region_later (wr.alloc (.cells #[.string (l[k]).nm, .string (l[k]).da] 52)) (by kernel_rfl) (by kernel_rfl) ((Below.refl _ _).drew) ?_
              repeat (go_big_quiet_step (first | (go_at_call 40; exact later_val q1 (later_same (fileNameOk_any _ _ s1)))))
              refine wpQuiet_nil ?_
              intro _ hw'
              obtain ⟨nx, rfl⟩ := hw'
              go_wp2
              go_ret
              exact ⟨by rw [HR.out]; rfl, below_trans (below_alloc HB.out _) nx.below⟩
          · cases q1 : nmB (l[k]).nm
            · have HR : Hid (filesB l = false) := hide (filesB_no hlt (by rw [flB_at hlt, q1]; rfl))
              clear hrs hm hz0
              go_wp2_with fail
              refine wp_region_later (wr.alloc (.cells #[.string (l[k]).nm, .string (l[k]).da] 52)) (by kernel_rfl) (by kernel_rfl) ((Below.refl _ _).drew) ?_
              repeat (go_big_quiet_step (first | (go_at_call 40; exact later_val q1 (later_same (fileNameOk_any _ _ s1)))))
              refine wpQuiet_nil ?_
              intro _ hw'
              obtain ⟨nx, rfl⟩ := hw'
              go_wp2
              go_ret
              exact ⟨by rw [HR.out]; rfl, below_trans (below_alloc HB.out _) nx.below⟩
            · have HG2 : Hid (allTo (flB l) (k + 1) = true) := hide (allTo_step HG.out (by rw [flB_at hlt, q1, hrs, q2]; rfl))
              clear hrs hm hz0
              go_wp2_with fail
              refine wp_region_later (wr.alloc (.cells #[.string (l[k]).nm, .string (l[k]).da] 52)) (by kernel_rfl) (by kernel_rfl) ((Below.refl _ _).drew) ?_
              repeat (go_big_quiet_step (first | (go_at_call 40; exact later_val q1 (later_same (fileNameOk_any _ _ s1)))))
              refine wpQuiet_nil ?_
              intro _ hw'
              obtain ⟨nx, rfl⟩ := hw'
              go_wp2
              exact ⟨⟨k + 1, by omega, by go_num, hide (below_trans (below_alloc HB.out _) nx.below), HG2⟩, by simp [intOf]; omega⟩
      · have hk' : ¬ (k : Int) < (l.length : Int) := by omega
        have HA : Hid (allTo (flB l) l.length = true) := hide (by
          have h1 := HG.out
          rw [show k = l.length by omega] at h1
          exact h1)
        have HE : Hid (filesB l = fitB l) := hide (by
          rw [filesB_end h60 HA.out, fitB, decide_eq_true (show (l.length : Int) ≤ 60 by omega)]
          rfl)
        go_wp2_with fail
        refine (shelfOf_any a l cap wr h60 HS.out (srt_of HA.out) (HC.out.below HB.out)).mono ?_
        rintro e w2 ⟨hb2, m, β, rfl, hsh⟩
        have HB2 : Hid _ := hide (below_trans HB.out hb2)
        have HSH : Hid _ := hide hsh
        have HDL : Hid (datL l ≤ 1000000000) := hide (by
          have := dat_take0 (l := l) (by omega) (fun f hf => (HS.out f hf).2) l.length
          rw [List.take_length] at this
          omega)
        clear hb2 hsh
        go_wp2_with fail
        refine (fits_any _ _ _ l β w2 HDL.out HSH.out).mono ?_
        rintro e w3 ⟨rfl, hb3⟩
        have HB3 : Hid _ := hide (below_trans HB2.out hb3)
        clear hb3
        go_wp2
        go_ret
        exact ⟨by rw [HE.out]; rfl, HB3.out⟩
  · have HR : Hid (filesB l = false) := hide (by simp [filesB, h60])
    have a2 : (60 : Int) < (l.length : Int) := by omega
    go_enter Try.func18, Try.ntmps18
    go_wp2
    go_ret
    exact ⟨by rw [HR.out]; rfl, Below.refl _ _⟩
end Go.Proofs.Ytiilkkdbifhojaa
