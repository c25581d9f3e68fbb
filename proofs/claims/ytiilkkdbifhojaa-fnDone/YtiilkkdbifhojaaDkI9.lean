/- The contract of the program's DiskOk. -/
import Derived.Test.YtiilkkdbifhojaaDkI8
namespace Go.Proofs.Ytiilkkdbifhojaa
open Go.ChangeShapes Go.WideShapes Go.ChangeAt Go.RowKit Go.Maps
set_option linter.unusedVariables false
set_option maxRecDepth 100000
set_option maxHeartbeats 4000000 in
theorem equal_any (a c : Option Addr) (l l' : List Fl) (ca cc : Nat) (w : World) (hl : l.length ≤ 1048576) (hl' : l'.length ≤ 1048576) (h : RowAt 2 flCells w a l) (h' : RowAt 2 flCells w c l') :
    Calls Try.prog 21 #[.slice a l.length ca, .slice c l'.length cc] w fun e w' => e = .returned (.bool (decide (l = l'))) ∧ Below w.heap.size w w' := by
  have HC : Hid _ := hide h
  have HC' : Hid _ := hide h'
  clear h h'
  by_cases hln : l.length = l'.length
  · have hln' : ((l.length : Int) != (l'.length : Int)) = false := by simp; omega
    have HLN : Hid _ := hide hln
    clear hln
    go_enter Try.func21, Try.ntmps21
    go_wp2
    go_loopw [13] (fun i wr => ∃ (k : Nat), k ≤ l.length ∧ i = .int .i64 (k : Int) ∧ Hid (Below w.heap.size w wr) ∧ Hid (∀ j (hj : j < l.length) (hj' : j < l'.length), j < k → l[j] = l'[j])) (fun i wr => l.length - (intOf i).toNat)
    case atStart => exact ⟨0, Nat.zero_le _, rfl, hide (Below.refl _ _), hide (fun j _ _ hj => by omega)⟩
    case round =>
      obtain ⟨k, hk, rfl, HB, HE⟩ := hrel
      by_cases hlt : k < l.length
      · have hlt' : (k : Int) < (l.length : Int) := by omega
        have hl2 : k < l'.length := by have := HLN.out; omega
        have hl3 : (k : Int) < (l'.length : Int) := by omega
        obtain ⟨b, off, rfl, hb, c0, c1⟩ := fl_row (HC.out.below HB.out) k hlt
        obtain ⟨b', off', rfl, hb', p0, p1⟩ := fl_row (HC'.out.below HB.out) k hl2
        by_cases he : l[k] = l'[k]
        · have HE2 : Hid (∀ j (hj : j < l.length) (hj' : j < l'.length), j < k + 1 → l[j] = l'[j]) := hide (fun j hj hj' hjk => by
            rcases Nat.lt_or_ge j k with h | h
            · exact HE.out j hj hj' h
            · obtain rfl : j = k := by omega
              exact he)
          rw [← he] at p0 p1
          clear he
          go_wp2_with fail
          go_quiet (fail)
          go_wp2
          exact ⟨⟨k + 1, by omega, by go_num, hide (below_drewN HB.out _), HE2⟩, by simp [intOf]; omega⟩
        · have HR : Hid (decide (l = l') = false) := hide (by simp; intro e; exact he (by simp [e]))
          have hnn : ((l[k]).nm.toList == (l'[k]).nm.toList && (l[k]).da.toList == (l'[k]).da.toList) = false := by
            rw [Bool.eq_false_iff]
            intro e
            simp only [Bool.and_eq_true] at e
            exact he (by
              have e1 := beq_bytes.1 e.1
              have e2 := beq_bytes.1 e.2
              revert e1 e2
              cases l[k]; cases l'[k]; simp_all)
          clear he
          cases e1 : ((l[k]).nm.toList == (l'[k]).nm.toList)
          · go_wp2_with fail
            go_quiet (fail)
            go_wp2
            go_ret
            exact ⟨by rw [HR.out]; rfl, below_drewN HB.out _⟩
          · rw [e1, Bool.true_and] at hnn
            go_wp2_with fail
            go_quiet (fail)
            go_wp2
            go_ret
            exact ⟨by rw [HR.out]; rfl, below_drewN HB.out _⟩
      · have hk' : ¬ (k : Int) < (l.length : Int) := by omega
        have HR : Hid (decide (l = l') = true) := hide (by
          simp only [decide_eq_true_eq]
          have := HLN.out
          exact List.ext_getElem this (fun i h1 h2 => HE.out i h1 h2 (by omega)))
        go_wp2
        go_ret
        exact ⟨by rw [HR.out]; rfl, HB.out⟩
  · have HR : Hid (decide (l = l') = false) := hide (by simp; intro e; exact hln (by rw [e]))
    have hln' : ((l.length : Int) != (l'.length : Int)) = true := by simp; omega
    go_enter Try.func21, Try.ntmps21
    go_wp2
    go_ret
    exact ⟨by rw [HR.out]; rfl, Below.refl _ _⟩
theorem flB_of {l : List Fl} (hs : Srt l) (hn : ∀ f ∈ l, nmB f.nm = true) : allTo (flB l) l.length = true := by
  have : ∀ k, k ≤ l.length → allTo (flB l) k = true := by
    intro k
    induction k with
    | zero => intro _; rfl
    | succ k ih =>
      intro hk
      refine allTo_step (ih (by omega)) ?_
      have hlt : k < l.length := by omega
      rw [flB_at hlt, hn _ (List.getElem_mem hlt), Bool.true_and]
      cases k with
      | zero => rfl
      | succ m =>
        rw [rises_fl hlt]
        exact less_iff.2 (List.pairwise_iff_getElem.1 hs m (m + 1) (by omega) hlt (by omega))
  exact this _ (Nat.le_refl _)
theorem filesB_nms {l : List Fl} (h : filesB l = true) : ∀ f ∈ l, nmB f.nm = true := fun f hf => by
  obtain ⟨i, hi, rfl⟩ := List.getElem_of_mem hf
  have := allTo_get (filesB_parts h).2.1 hi
  rw [flB_at hi] at this
  simp only [Bool.and_eq_true] at this
  exact this.1
theorem fit_files {l : List Fl} (hs : Srt l) (hn : ∀ f ∈ l, nmB f.nm = true) : filesB l = fitB l := by
  simp only [filesB, fitB, flB_of hs hn, Bool.and_true]
  congr 1
  exact decide_eq_decide.2 (by omega)
theorem doL_files {l : List Fl} {o : Dp} (h : filesB l = true) (hf : formB o = true) : filesB (doL l o).1 = fitB (doL l o).1 := by
  have hs := filesB_srt h
  have hn := filesB_nms h
  have hnm : nmB o.nm = true := by simp only [formB, Bool.and_eq_true] at hf; exact hf.1.2
  have htn : (o.kind == 2) = true → nmB o.tn = true := fun q => by
    simp only [formB, q, if_true, Bool.and_eq_true] at hf
    exact hf.2.1
  unfold doL
  split
  · refine fit_files (srt_putL hs _ _) (fun f hf => ?_)
    rcases (mem_putL hs).1 hf with rfl | ⟨hf, _⟩
    · exact hnm
    · exact hn f hf
  · split
    · exact fit_files hs hn
    · simp only
      split
      · rename_i q
        refine fit_files (srt_putL (srt_cutL hs _) _ _) (fun f hf => ?_)
        rcases (mem_putL (srt_cutL hs _)).1 hf with rfl | ⟨hf, _⟩
        · exact htn q
        · exact hn f (mem_cutL.1 hf).1
      · exact fit_files (srt_cutL hs _) (fun f hf => hn f (mem_cutL.1 hf).1)
theorem step_did {l : List Fl} {o : Dp} (h : filesB l = true) : (didV l o = 0 ∧ stepL l o = some (doL l o).1 ∧ formB o = true ∧ (doL l o).2 = true ∧ filesB (doL l o).1 = true) ∨ ((didV l o != 0) = true ∧ stepL l o = none) := by
  unfold didV stepL
  cases hf : formB o with
  | false => exact .inr ⟨by simp, by simp⟩
  | true =>
    rw [doL_files h hf]
    cases hd : (doL l o).2 with
    | false => exact .inr ⟨by simp, by simp⟩
    | true =>
      cases hb : fitB (doL l o).1 with
      | false => exact .inr ⟨by simp, by simp⟩
      | true => exact .inl ⟨by simp, by simp, rfl, rfl, rfl⟩
theorem doL_dat {l : List Fl} {o : Dp} (h : filesB l = true) (ho : SmO o) : datL (doL l o).1 ≤ 1000000000 := by
  obtain ⟨h1, h2⟩ := doL_small h ho
  have h3 := datL_bd (l := (doL l o).1) (M := 4194304) (fun f hf => (h1 f hf).2)
  have h4 : 4194304 * (doL l o).1.length ≤ 4194304 * 200 := Nat.mul_le_mul_left _ h2
  omega
abbrev S1c (p : Addr) (u : Value) (W x : World) : Prop := x.cell? p = some u ∧ Hid (Below W.heap.size W x)
theorem S1c.of {p : Addr} {u : Value} {W x : World} (h1 : W.cell? p = some u) (b : Below W.heap.size W x) : S1c p u W x := ⟨below_keeps b _ _ h1, hide b⟩
theorem S1c.on {p : Addr} {u : Value} {W x y : World} (h : S1c p u W x) (b : Below x.heap.size x y) : S1c p u W y := ⟨below_keeps b _ _ h.1, hide (below_trans h.2.out b)⟩
set_option maxHeartbeats 8000000 in
theorem implDiskOk_any (la sa oa : Option Addr) (lc sc oc : Nat) (live safe : List Fl) (ops : List Dp) (w : World) (hl : live.length ≤ 1048576) (hs : safe.length ≤ 1048576) (hn : ops.length ≤ 1048576) (gl : SmF live) (gs : SmF safe) (go : ∀ o ∈ ops, SmO o)
    (h1 : RowAt 2 flCells w la live) (h2 : RowAt 2 flCells w sa safe) (h3 : RowAt 4 dpCells w oa ops) :
    Calls Try.prog 7 #[.agg #[.slice la live.length lc, .slice sa safe.length sc, .slice oa ops.length oc]] w fun e w' => e = .returned (.bool (diskB ⟨live, safe, ops⟩)) ∧ Below w.heap.size w w' := by
  have H1 : Hid _ := hide h1
  have H2 : Hid _ := hide h2
  have H3 : Hid _ := hide h3
  have GO : Hid _ := hide go
  clear h1 h2 h3 go
  have HX0 : Hid (Below (w.heap.size + 1) (w.alloc (.cells #[.slice la live.length lc, .slice sa safe.length sc, .slice oa ops.length oc] 27)) (w.alloc (.cells #[.slice la live.length lc, .slice sa safe.length sc, .slice oa ops.length oc] 27))) := hide (Below.refl _ _)
  by_cases h200 : ops.length ≤ 200
  · have a2 : ¬ (200 : Int) < (ops.length : Int) := by omega
    go_enter Try.func7, Try.ntmps7
    go_wp2_with fail
    refine (filesOk_any la live lc _ hl gl.g0 (H1.out.below (box_old HX0.out))).mono ?_
    rintro e w1 ⟨rfl, hb1⟩
    have HX1 : Hid _ := hide (box_on HX0.out hb1)
    clear hb1 HX0
    obtain ⟨x0, x1, x2⟩ := box3 HX1.out
    have xl := box_lt HX1.out
    cases q1 : filesB live
    · have HR : Hid (diskB ⟨live, safe, ops⟩ = false) := hide (by simp [diskB, q1])
      go_wp2
      go_ret
      exact ⟨by rw [HR.out]; rfl, box_old HX1.out⟩
    · go_wp2_with fail
      refine (filesOk_any sa safe sc _ hs gs.g0 (H2.out.below (box_old HX1.out))).mono ?_
      rintro e w2 ⟨rfl, hb2⟩
      have HX2 : Hid _ := hide (box_on HX1.out hb2)
      clear hb2 HX1 x0 x1 x2 xl
      obtain ⟨x0, x1, x2⟩ := box3 HX2.out
      have xl := box_lt HX2.out
      cases q2 : filesB safe
      · have HR : Hid (diskB ⟨live, safe, ops⟩ = false) := hide (by simp [diskB, q2])
        go_wp2
        go_ret
        exact ⟨by rw [HR.out]; rfl, box_old HX2.out⟩
      · have HRUN : Hid _ := hide (diskB_run q1 q2 h200)
        have HQ2 : Hid _ := hide q2
        have h60 : live.length ≤ 60 := (filesB_parts q1).1
        have hs60 : safe.length ≤ 60 := (filesB_parts q2).1
        go_wp2_with fail
        refine (shelfOf_any sa safe sc w2 hs60 gs.g0 (filesB_srt q2) (H2.out.below (box_old HX2.out))).mono ?_
        rintro e w3 ⟨hb3, m, β, rfl, hsh⟩
        have HX3 : Hid _ := hide (box_on HX2.out hb3)
        have HSH : Hid _ := hide (hsh.mono hs60)
        have HBS : Hid (w.heap.size + 1 ≤ w2.heap.size) := hide xl
        clear hb3 hsh HX2 x0 x1 x2 xl q1 q2
        obtain ⟨x0, x1, x2⟩ := box3 HX3.out
        have xl := box_lt HX3.out
        generalize w2.heap.size = base at *
        go_wp2
        go_loopw [28] (fun i wr => ∃ (k : Nat) (now : List Fl) (β : ByteArray → Bd), k ≤ ops.length ∧ i = .int .i64 (k : Int) ∧ Hid (runL safe (ops.take k) = some now) ∧ Hid (filesB now = true) ∧ Hid (Shelf base m now β (60 + k) wr) ∧ Hid (Below (w.heap.size + 1) (w.alloc (.cells #[.slice la live.length lc, .slice sa safe.length sc, .slice oa ops.length oc] 27)) wr)) (fun i wr => ops.length - (intOf i).toNat)
        case atStart => exact ⟨0, safe, β, Nat.zero_le _, rfl, hide rfl, HQ2, HSH, HX3⟩
        case round =>
          clear HSH HX3 x0 x1 x2 xl
          obtain ⟨k, now, β, hk, rfl, HRK, HFN, HSH, HX⟩ := hrel
          obtain ⟨x0, x1, x2⟩ := box3 HX.out
          have xl := box_lt HX.out
          by_cases hlt : k < ops.length
          · have hlt' : (k : Int) < (ops.length : Int) := by omega
            obtain ⟨b, off, rfl, hb, c0, c1, c2, c3⟩ := dp_row (H3.out.below (box_old HX.out)) k hlt
            have HSO : Hid (SmO ops[k]) := hide (GO.out _ (List.getElem_mem hlt))
            have HW2 : Hid (Below wr.heap.size wr (wr.alloc (.cells #[.int .i64 (ops[k]).kind, .string (ops[k]).nm, .string (ops[k]).tn, .string (ops[k]).da] 36))) := hide (below_alloc (Below.refl _ _) _)
            have HSD : Hid _ := hide (step_did (o := ops[k]) HFN.out)
            have HBB : Hid _ := hide HSH.out.base_le
            go_wp2_with fail
            refine (did_any base m (60 + k) now β ops[k] _ HSO.out (by omega) (by have := (filesB_parts HFN.out).2.2; omega) (doL_dat HFN.out HSO.out) (HSH.out.below HW2.out)).mono ?_
            rintro e w4 ⟨rfl, hb4, hsh4⟩
            have HX4 : Hid (Below (w.heap.size + 1) (w.alloc (.cells #[.slice la live.length lc, .slice sa safe.length sc, .slice (some ⟨b, off, none⟩) ops.length oc] 27)) w4) := hide ((HX.out.trans (HW2.out.mono xl)).trans (hb4.mono HBS.out))
            have HS4 : Hid _ := hide hsh4
            clear hb4 hsh4 HX x0 x1 x2 xl c0 c1 c2 c3 hb HW2
            rcases HSD.out with ⟨d0, d1, d2, d3, d4⟩ | ⟨d0, d1⟩
            · obtain ⟨β4, hsh5⟩ := HS4.out d2 d3
              have HS5 : Hid (Shelf base m (doL now ops[k]).1 β4 (60 + (k + 1)) w4) := hide hsh5
              have HRK2 : Hid (runL safe (ops.take (k + 1)) = some (doL now ops[k]).1) := hide (by rw [runL_next safe ops k hlt HRK.out]; exact d1)
              have HD4 : Hid _ := hide d4
              rw [d0]
              clear d0 d1 d2 d3 d4 hsh5 HS4 HSD
              go_wp2
              exact ⟨⟨k + 1, _, β4, by omega, by go_num, HRK2, HD4, HS5, HX4⟩, by simp [intOf]; omega⟩
            · have HR : Hid (diskB ⟨live, safe, ops⟩ = false) := hide (diskB_stop hlt HRK.out d1)
              clear d1 HS4 HSD
              generalize didV now ops[k] = dv at *
              go_wp2
              go_ret
              exact ⟨by rw [HR.out]; rfl, box_old HX4.out⟩
          · have hk' : ¬ (k : Int) < (ops.length : Int) := by omega
            have HRR : Hid (diskB ⟨live, safe, ops⟩ = decide (now = live)) := hide (by
              have := HRK.out
              rw [List.take_of_length_le (by omega)] at this
              rw [HRUN.out, this]
              rfl)
            have hn60 : now.length ≤ 60 := (filesB_parts HFN.out).1
            have hnd : datL now ≤ 200000 := (filesB_parts HFN.out).2.2
            have HFL : Hid (∀ x, S1c ⟨w.heap.size, 0, none⟩ (.slice la live.length lc) wr x → Calls Try.prog 22 #[.map (some m)] x fun e w' => NewF now x e w') := hide (fun x hx => files_any base m (60 + k) now β x (by omega) (by omega) (by omega) (HSH.out.below hx.2.out))
            go_wp2_with fail
            go_region_held3 (fun x => x.cell? ⟨w.heap.size, 0, none⟩ = some (.slice la live.length lc) ∧ Hid (Below wr.heap.size wr x))
              (first | with_reducible exact S1c.of x0 (Below.refl _ _).drew | with_reducible exact S1c.on (by assumption) (by assumption) | with_reducible assumption)
              (first
                | (go_at_call 22; refine (HFL.out _ (by assumption)).mono ?_; rintro e w4 ⟨hb4, v4, rfl, ho4⟩; obtain ⟨a4, c4, rfl, hr4, _⟩ := own_read ho4; have HR4 : Hid _ := hide hr4; clear ho4 hr4)
                | (go_at_call 21; refine (equal_any a4 la now live c4 lc _ (by omega) (by omega) HR4.out (H1.out.below (below_trans (box_old HX.out) (by assumption : S1c ⟨w.heap.size, 0, none⟩ (.slice la live.length lc) wr _).2.out))).mono ?_; rintro e w5 ⟨rfl, hb5⟩))
            have HE : Hid (Below w.heap.size w w5) := hide (below_trans (box_old HX.out) (by assumption : S1c ⟨w.heap.size, 0, none⟩ (.slice la live.length lc) wr w5).2.out)
            clear hb4 hb5
            go_wp2
            go_ret
            exact ⟨by rw [HRR.out]; rfl, HE.out⟩
  · have a2 : (200 : Int) < (ops.length : Int) := by omega
    have HR : Hid (diskB ⟨live, safe, ops⟩ = false) := hide (by simp [diskB, h200])
    go_enter Try.func7, Try.ntmps7
    go_wp2
    go_ret
    exact ⟨by rw [HR.out]; rfl, box_old HX0.out⟩
end Go.Proofs.Ytiilkkdbifhojaa
