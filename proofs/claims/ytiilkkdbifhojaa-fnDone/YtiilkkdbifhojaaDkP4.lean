/- Do of the model and of the program. -/
import Derived.Test.YtiilkkdbifhojaaDkP3
import Derived.Test.YtiilkkdbifhojaaDkH
namespace Go.Proofs.Ytiilkkdbifhojaa
open Go.ChangeShapes Go.WideShapes Go.ChangeAt Go.RowKit
set_option linter.unusedVariables false
set_option maxRecDepth 100000
def doCv (live safe : List Fl) (ops : List Dp) (o : Dp) : Int := bif diskB ⟨live, safe, ops⟩ then actC live ops o else 1
def doLv (live safe : List Fl) (ops : List Dp) (o : Dp) : List Fl := bif diskB ⟨live, safe, ops⟩ then actL live ops o else []
def doSv (live safe : List Fl) (ops : List Dp) (o : Dp) : List Fl := bif diskB ⟨live, safe, ops⟩ then safe else []
def doOv (live safe : List Fl) (ops : List Dp) (o : Dp) : List Dp := bif diskB ⟨live, safe, ops⟩ then actO live ops o else []
theorem diskB_parts {live safe : List Fl} {ops : List Dp} (h : diskB ⟨live, safe, ops⟩ = true) : filesB live = true ∧ filesB safe = true ∧ ops.length ≤ 200 := by
  simp only [diskB, Bool.and_eq_true, decide_eq_true_eq] at h
  exact ⟨h.1.1.1, h.1.1.2, h.1.2⟩
theorem do_no {live safe : List Fl} {ops : List Dp} {o : Dp} (h : diskB ⟨live, safe, ops⟩ = false) : doCv live safe ops o = 1 ∧ doLv live safe ops o = [] ∧ doSv live safe ops o = [] ∧ doOv live safe ops o = [] := by simp [doCv, doLv, doSv, doOv, h]
theorem do_yes {live safe : List Fl} {ops : List Dp} {o : Dp} (h : diskB ⟨live, safe, ops⟩ = true) : doCv live safe ops o = actC live ops o ∧ doLv live safe ops o = actL live ops o ∧ doSv live safe ops o = safe ∧ doOv live safe ops o = actO live ops o := by simp [doCv, doLv, doSv, doOv, h]
/-- the program's code and the model's -/
theorem did_act {live : List Fl} {ops : List Dp} {o : Dp} (h : filesB live = true) : (didV live o = 2 ∧ actC live ops o = 2) ∨ (didV live o = 3 ∧ actC live ops o = 3) ∨ (didV live o = 4 ∧ actC live ops o = 4) ∨
    (didV live o = 0 ∧ formB o = true ∧ (doL live o).2 = true ∧ filesB (doL live o).1 = true) := by
  unfold didV actC
  cases hf : formB o with
  | false => exact .inl ⟨by simp, by simp⟩
  | true =>
    cases hd : (doL live o).2 with
    | false => exact .inr (.inl ⟨by simp, by simp⟩)
    | true =>
      rw [doL_files h hf]
      cases hq : fitB (doL live o).1 with
      | false => exact .inr (.inr (.inl ⟨by simp, by simp⟩))
      | true => exact .inr (.inr (.inr ⟨by simp, rfl, rfl, rfl⟩))
theorem RowsD.setN {base : Nat} {L S : List Fl} {O : List Dp} {v1 v2 v3 : Value} {x : World} (h : RowsD base L S O v1 v2 v3 x) {g o : Nat} {u : Value} (hg : x.heap.size ≤ g) : RowsD base L S O v1 v2 v3 (x.setCell ⟨g, o, none⟩ u) :=
  ⟨h.r1.kept (grown_set _ _ _ _) (.inr (fun q => by have := (h.r1.lt _ q).2; omega)), h.r2.kept (grown_set _ _ _ _) (.inr (fun q => by have := (h.r2.lt _ q).2; omega)), h.r3.kept (grown_set _ _ _ _) (.inr (fun q => by have := (h.r3.lt _ q).2; omega)), h.s12, h.s13, h.s23⟩
set_option maxHeartbeats 8000000 in
theorem specDo_any (la sa oa : Option Addr) (lc sc oc : Nat) (live safe : List Fl) (ops : List Dp) (o : Dp) (w : World) (hm : SmD live safe ops) (ho : SmO o) (hc1 : la = none → lc = 0) (hc2 : sa = none → sc = 0) (hc3 : oa = none → oc = 0) (h : DkAt w la sa oa live safe ops) :
    Calls Try.prog 14 #[.agg #[.slice la live.length lc, .slice sa safe.length sc, .slice oa ops.length oc], .agg #[.int .i64 o.kind, .string o.nm, .string o.tn, .string o.da]] w fun e w' => DiskC (doCv live safe ops o) (doLv live safe ops o) (doSv live safe ops o) (doOv live safe ops o) w e w' := by
  have HL : Hid _ := hide h
  have HO : Hid _ := hide ho
  have HC1 : Hid _ := hide hc1
  have HC2 : Hid _ := hide hc2
  have HC3 : Hid _ := hide hc3
  have HM : Hid _ := hide hm
  have HZ : Hid (live.length ≤ 1048576 ∧ safe.length ≤ 1048576 ∧ ops.length ≤ 1048576) := hide ⟨hm.1.1, hm.2.1.1, hm.2.2.1⟩
  clear hm
  clear h ho hc1 hc2 hc3
  obtain ⟨w0, hwa⟩ : ∃ wa, wa = (((w.alloc (.cells #[.slice la live.length lc, .slice sa safe.length sc, .slice oa ops.length oc] 27)).alloc (.cells #[.int .i64 o.kind, .string o.nm, .string o.tn, .string o.da] 36)).alloc (.cells #[.slice none 0 0, .slice none 0 0, .slice none 0 0] 27)) := ⟨_, rfl⟩
  have HW : Hid ((((w.alloc (.cells #[.slice la live.length lc, .slice sa safe.length sc, .slice oa ops.length oc] 27)).alloc (.cells #[.int .i64 o.kind, .string o.nm, .string o.tn, .string o.da] 36)).alloc (.cells #[.slice none 0 0, .slice none 0 0, .slice none 0 0] 27)) = w0) := hide hwa.symm
  have KX0 : Hid (Blk w.heap.size [.slice la live.length lc, .slice sa safe.length sc, .slice oa ops.length oc] w0) := hide (by rw [hwa]; exact (Blk.new.alloc _).alloc _)
  have KO0 : Hid (Blk (w.heap.size + 1) [.int .i64 o.kind, .string o.nm, .string o.tn, .string o.da] w0) := hide (by rw [hwa]; exact Blk.alloc (by simpa using Blk.new (w := w.alloc (.cells #[.slice la live.length lc, .slice sa safe.length sc, .slice oa ops.length oc] 27)) (cur := [.int .i64 o.kind, .string o.nm, .string o.tn, .string o.da]) (T := 36)) _)
  have KR0 : Hid (Blk (w.heap.size + 1 + 1) [.slice none 0 0, .slice none 0 0, .slice none 0 0] w0) := hide (by rw [hwa]; exact (by simpa using Blk.new (w := (w.alloc (.cells #[.slice la live.length lc, .slice sa safe.length sc, .slice oa ops.length oc] 27)).alloc (.cells #[.int .i64 o.kind, .string o.nm, .string o.tn, .string o.da] 36)) (cur := [.slice none 0 0, .slice none 0 0, .slice none 0 0]) (T := 27)))
  have HX0 : Hid (Below w.heap.size w w0 ∧ w.heap.size + 3 ≤ w0.heap.size) := hide ⟨by rw [hwa]; exact below_alloc (below_alloc (below_alloc (Below.refl _ _) _) _) _, by rw [hwa]; simp⟩
  clear hwa
  go_enter Try.func14, Try.ntmps14
  go_wp2_with fail
  rw [HW.out]
  have hd0 := HL.out.below HX0.out.1
  refine (specDiskOk_any la sa oa lc sc oc live safe ops w0 HM.out.1.1 HM.out.2.1.1 HM.out.2.2.1 HM.out.1.f HM.out.2.1.f HM.out.2.2.2 HC2.out hd0.r1 hd0.r2 hd0.r3).mono ?_
  rintro e w1 ⟨rfl, hb1⟩
  clear hd0
  have HX1 : Hid (Below w.heap.size w w1 ∧ w.heap.size + 3 ≤ w1.heap.size) := hide ⟨below_trans HX0.out.1 hb1, Nat.le_trans HX0.out.2 hb1.size⟩
  have KX1 : Hid _ := hide (KX0.out.below hb1)
  have KO1 : Hid _ := hide (KO0.out.below hb1)
  have KR1 : Hid _ := hide (KR0.out.below hb1)
  clear hb1 KX0 KO0 KR0 HX0
  have x0 := KX1.out.c 0 _ rfl
  have x1 := KX1.out.c 1 _ rfl
  have x2 := KX1.out.c 2 _ rfl
  have o0 := KO1.out.c 0 _ rfl
  have o1 := KO1.out.c 1 _ rfl
  have o2 := KO1.out.c 2 _ rfl
  have o3 := KO1.out.c 3 _ rfl
  cases hB : diskB ⟨live, safe, ops⟩
  · obtain ⟨e1, e2, e3, e4⟩ := do_no (o := o) hB
    have HE : Hid (DiskC (doCv live safe ops o) (doLv live safe ops o) (doSv live safe ops o) (doOv live safe ops o) w (.returned (.tuple #[.agg #[.slice none 0 0, .slice none 0 0, .slice none 0 0], .int .i64 1])) (((w1.setCell ⟨w.heap.size + 1 + 1, 0, none⟩ (.slice none 0 0)).setCell ⟨w.heap.size + 1 + 1, 1, none⟩ (.slice none 0 0)).setCell ⟨w.heap.size + 1 + 1, 2, none⟩ (.slice none 0 0))) := hide (by
        rw [e1, e2, e3, e4]
        exact disk_zero HX1.out.1)
    have HS : Hid (∃ Y, (((w1.setCell ⟨w.heap.size + 1 + 1, 0, none⟩ (.slice none 0 0)).setCell ⟨w.heap.size + 1 + 1, 1, none⟩ (.slice none 0 0)).setCell ⟨w.heap.size + 1 + 1, 2, none⟩ (.slice none 0 0)) = Y ∧ Blk (w.heap.size + 1 + 1) [.slice none 0 0, .slice none 0 0, .slice none 0 0] Y) := hide ⟨_, rfl, (((KR1.out).set 0 (.slice none 0 0) (by simp)).set 1 (.slice none 0 0) (by simp)).set 2 (.slice none 0 0) (by simp)⟩
    have y0 := (KR1.out).c 0 _ rfl
    have y1 := (KR1.out).c 1 _ rfl
    have y2 := (KR1.out).c 2 _ rfl
    have f0 := (KR1.out).f 0
    have f1 := (KR1.out).f 1
    have f2 := (KR1.out).f 2
    go_wp2
    obtain ⟨Y, hY, kY⟩ := HS.out
    rw [hY] at HE ⊢
    have z0 := kY.c 0 _ rfl
    have z1 := kY.c 1 _ rfl
    have z2 := kY.c 2 _ rfl
    exact bodyPost_ret (v := .tuple #[.agg #[.slice none 0 0, .slice none 0 0, .slice none 0 0], .int .i64 1]) (by simp [results, Try.results14, go_sem, z0, z1, z2]) rfl HE.out
  · obtain ⟨e1, e2, e3, e4⟩ := do_yes (o := o) hB
    obtain ⟨q1, q2, q3⟩ := diskB_parts hB
    go_wp2_with fail
    refine (l8Act_any la sa oa lc sc oc live safe ops o w1 q1 HZ.out.2.1 (by omega) HO.out HC1.out HC2.out HC3.out (HL.out.below HX1.out.1)).mono ?_
    rintro e w2 ⟨hb2, v1, v2, v3, rfl, hrow⟩
    obtain ⟨a1, c1, a2, c2, a3, c3, rfl, rfl, rfl⟩ := hrow.open
    have KR2 := KR1.out.below hb2
    have hy := below_trans HX1.out.1 hb2
    have HE : Hid (DiskC (doCv live safe ops o) (doLv live safe ops o) (doSv live safe ops o) (doOv live safe ops o) w (.returned (.tuple #[.agg #[.slice a1 (actL live ops o).length c1, .slice a2 safe.length c2, .slice a3 (actO live ops o).length c3], .int .i64 (actC live ops o)])) (((w2.setCell ⟨w.heap.size + 1 + 1, 0, none⟩ (.slice a1 (actL live ops o).length c1)).setCell ⟨w.heap.size + 1 + 1, 1, none⟩ (.slice a2 safe.length c2)).setCell ⟨w.heap.size + 1 + 1, 2, none⟩ (.slice a3 (actO live ops o).length c3))) := hide (by
        rw [e1, e2, e3, e4]
        exact disk_end hy HX1.out.2 hrow)
    have HS : Hid (∃ Y, (((w2.setCell ⟨w.heap.size + 1 + 1, 0, none⟩ (.slice a1 (actL live ops o).length c1)).setCell ⟨w.heap.size + 1 + 1, 1, none⟩ (.slice a2 safe.length c2)).setCell ⟨w.heap.size + 1 + 1, 2, none⟩ (.slice a3 (actO live ops o).length c3)) = Y ∧ Blk (w.heap.size + 1 + 1) [.slice a1 (actL live ops o).length c1, .slice a2 safe.length c2, .slice a3 (actO live ops o).length c3] Y) := hide ⟨_, rfl, (((KR2).set 0 (.slice a1 (actL live ops o).length c1) (by simp)).set 1 (.slice a2 safe.length c2) (by simp)).set 2 (.slice a3 (actO live ops o).length c3) (by simp)⟩
    have y0 := (KR2).c 0 _ rfl
    have y1 := (KR2).c 1 _ rfl
    have y2 := (KR2).c 2 _ rfl
    have f0 := (KR2).f 0
    have f1 := (KR2).f 1
    have f2 := (KR2).f 2
    clear KR2 hy hrow hb2 e1 e2 e3 e4 x0 x1 x2 o0 o1 o2 o3
    go_wp2
    obtain ⟨Y, hY, kY⟩ := HS.out
    rw [hY] at HE ⊢
    have z0 := kY.c 0 _ rfl
    have z1 := kY.c 1 _ rfl
    have z2 := kY.c 2 _ rfl
    exact bodyPost_ret (v := .tuple #[.agg #[.slice a1 (actL live ops o).length c1, .slice a2 safe.length c2, .slice a3 (actO live ops o).length c3], .int .i64 (actC live ops o)]) (by simp [results, Try.results14, go_sem, z0, z1, z2]) rfl HE.out
set_option maxHeartbeats 8000000 in
theorem implDo_any (la sa oa : Option Addr) (lc sc oc : Nat) (live safe : List Fl) (ops : List Dp) (o : Dp) (w : World) (hm : SmD live safe ops) (ho : SmO o) (hc1 : la = none → lc = 0) (hc2 : sa = none → sc = 0) (hc3 : oa = none → oc = 0) (h : DkAt w la sa oa live safe ops) :
    Calls Try.prog 13 #[.agg #[.slice la live.length lc, .slice sa safe.length sc, .slice oa ops.length oc], .agg #[.int .i64 o.kind, .string o.nm, .string o.tn, .string o.da]] w fun e w' => DiskC (doCv live safe ops o) (doLv live safe ops o) (doSv live safe ops o) (doOv live safe ops o) w e w' := by
  have HL : Hid _ := hide h
  have HO : Hid _ := hide ho
  have HC1 : Hid _ := hide hc1
  have HC2 : Hid _ := hide hc2
  have HC3 : Hid _ := hide hc3
  have HM : Hid _ := hide hm
  have HZ : Hid (live.length ≤ 1048576 ∧ safe.length ≤ 1048576 ∧ ops.length ≤ 1048576) := hide ⟨hm.1.1, hm.2.1.1, hm.2.2.1⟩
  clear hm
  clear h ho hc1 hc2 hc3
  obtain ⟨w0, hwa⟩ : ∃ wa, wa = (((w.alloc (.cells #[.slice la live.length lc, .slice sa safe.length sc, .slice oa ops.length oc] 27)).alloc (.cells #[.int .i64 o.kind, .string o.nm, .string o.tn, .string o.da] 36)).alloc (.cells #[.slice none 0 0, .slice none 0 0, .slice none 0 0] 27)) := ⟨_, rfl⟩
  have HW : Hid ((((w.alloc (.cells #[.slice la live.length lc, .slice sa safe.length sc, .slice oa ops.length oc] 27)).alloc (.cells #[.int .i64 o.kind, .string o.nm, .string o.tn, .string o.da] 36)).alloc (.cells #[.slice none 0 0, .slice none 0 0, .slice none 0 0] 27)) = w0) := hide hwa.symm
  have KX0 : Hid (Blk w.heap.size [.slice la live.length lc, .slice sa safe.length sc, .slice oa ops.length oc] w0) := hide (by rw [hwa]; exact (Blk.new.alloc _).alloc _)
  have KO0 : Hid (Blk (w.heap.size + 1) [.int .i64 o.kind, .string o.nm, .string o.tn, .string o.da] w0) := hide (by rw [hwa]; exact Blk.alloc (by simpa using Blk.new (w := w.alloc (.cells #[.slice la live.length lc, .slice sa safe.length sc, .slice oa ops.length oc] 27)) (cur := [.int .i64 o.kind, .string o.nm, .string o.tn, .string o.da]) (T := 36)) _)
  have KR0 : Hid (Blk (w.heap.size + 1 + 1) [.slice none 0 0, .slice none 0 0, .slice none 0 0] w0) := hide (by rw [hwa]; exact (by simpa using Blk.new (w := (w.alloc (.cells #[.slice la live.length lc, .slice sa safe.length sc, .slice oa ops.length oc] 27)).alloc (.cells #[.int .i64 o.kind, .string o.nm, .string o.tn, .string o.da] 36)) (cur := [.slice none 0 0, .slice none 0 0, .slice none 0 0]) (T := 27)))
  have HX0 : Hid (Below w.heap.size w w0 ∧ w.heap.size + 3 ≤ w0.heap.size) := hide ⟨by rw [hwa]; exact below_alloc (below_alloc (below_alloc (Below.refl _ _) _) _) _, by rw [hwa]; simp⟩
  clear hwa
  go_enter Try.func13, Try.ntmps13
  go_wp2_with fail
  rw [HW.out]
  have hd0 := HL.out.below HX0.out.1
  refine (implDiskOk_any la sa oa lc sc oc live safe ops w0 HM.out.1.1 HM.out.2.1.1 HM.out.2.2.1 HM.out.1.f HM.out.2.1.f HM.out.2.2.2 hd0.r1 hd0.r2 hd0.r3).mono ?_
  rintro e w1 ⟨rfl, hb1⟩
  clear hd0
  have HX1 : Hid (Below w.heap.size w w1 ∧ w.heap.size + 3 ≤ w1.heap.size) := hide ⟨below_trans HX0.out.1 hb1, Nat.le_trans HX0.out.2 hb1.size⟩
  have KX1 : Hid _ := hide (KX0.out.below hb1)
  have KO1 : Hid _ := hide (KO0.out.below hb1)
  have KR1 : Hid _ := hide (KR0.out.below hb1)
  clear hb1 KX0 KO0 KR0 HX0
  have x0 := KX1.out.c 0 _ rfl
  have x1 := KX1.out.c 1 _ rfl
  have x2 := KX1.out.c 2 _ rfl
  have o0 := KO1.out.c 0 _ rfl
  have o1 := KO1.out.c 1 _ rfl
  have o2 := KO1.out.c 2 _ rfl
  have o3 := KO1.out.c 3 _ rfl
  cases hB : diskB ⟨live, safe, ops⟩
  · obtain ⟨e1, e2, e3, e4⟩ := do_no (o := o) hB
    have HE : Hid (DiskC (doCv live safe ops o) (doLv live safe ops o) (doSv live safe ops o) (doOv live safe ops o) w (.returned (.tuple #[.agg #[.slice none 0 0, .slice none 0 0, .slice none 0 0], .int .i64 1])) (((w1.setCell ⟨w.heap.size + 1 + 1, 0, none⟩ (.slice none 0 0)).setCell ⟨w.heap.size + 1 + 1, 1, none⟩ (.slice none 0 0)).setCell ⟨w.heap.size + 1 + 1, 2, none⟩ (.slice none 0 0))) := hide (by
        rw [e1, e2, e3, e4]
        exact disk_zero HX1.out.1)
    have HS : Hid (∃ Y, (((w1.setCell ⟨w.heap.size + 1 + 1, 0, none⟩ (.slice none 0 0)).setCell ⟨w.heap.size + 1 + 1, 1, none⟩ (.slice none 0 0)).setCell ⟨w.heap.size + 1 + 1, 2, none⟩ (.slice none 0 0)) = Y ∧ Blk (w.heap.size + 1 + 1) [.slice none 0 0, .slice none 0 0, .slice none 0 0] Y) := hide ⟨_, rfl, (((KR1.out).set 0 (.slice none 0 0) (by simp)).set 1 (.slice none 0 0) (by simp)).set 2 (.slice none 0 0) (by simp)⟩
    have y0 := (KR1.out).c 0 _ rfl
    have y1 := (KR1.out).c 1 _ rfl
    have y2 := (KR1.out).c 2 _ rfl
    have f0 := (KR1.out).f 0
    have f1 := (KR1.out).f 1
    have f2 := (KR1.out).f 2
    go_wp2
    obtain ⟨Y, hY, kY⟩ := HS.out
    rw [hY] at HE ⊢
    have z0 := kY.c 0 _ rfl
    have z1 := kY.c 1 _ rfl
    have z2 := kY.c 2 _ rfl
    exact bodyPost_ret (v := .tuple #[.agg #[.slice none 0 0, .slice none 0 0, .slice none 0 0], .int .i64 1]) (by simp [results, Try.results13, go_sem, z0, z1, z2]) rfl HE.out
  · obtain ⟨e1, e2, e3, e4⟩ := do_yes (o := o) hB
    obtain ⟨q1, q2, q3⟩ := diskB_parts hB
    have hd := HL.out.below HX1.out.1
    go_wp2_with fail
    refine (diskCopy_any la sa oa lc sc oc live safe ops w1 HZ.out.1 HZ.out.2.1 HZ.out.2.2 HC1.out HC2.out HC3.out hd).mono ?_
    rintro e w2 ⟨hb2, v1, v2, v3, rfl, hrow⟩
    obtain ⟨a1, c1, a2, c2, a3, c3, rfl, rfl, rfl⟩ := hrow.open
    have bw : Below w2.heap.size w2 (w2.alloc (.cells #[.slice a1 live.length c1, .slice a2 safe.length c2, .slice a3 ops.length c3] 27)) := below_alloc (Below.refl _ _) _
    have hb23 := below_trans hb2 bw
    have HX1L : Hid (w.heap.size + 3 ≤ w1.heap.size) := hide HX1.out.2
    have HX3 : Hid (Below w.heap.size w (w2.alloc (.cells #[.slice a1 live.length c1, .slice a2 safe.length c2, .slice a3 ops.length c3] 27)) ∧ w.heap.size + 3 ≤ (w2.alloc (.cells #[.slice a1 live.length c1, .slice a2 safe.length c2, .slice a3 ops.length c3] 27)).heap.size) := hide ⟨below_trans HX1.out.1 hb23, Nat.le_trans HX1.out.2 hb23.size⟩
    have KX3 : Hid _ := hide (KX1.out.below hb23)
    have KO3 : Hid _ := hide (KO1.out.below hb23)
    have KR3 : Hid _ := hide (KR1.out.below hb23)
    have KB3 : Hid (Blk w2.heap.size [.slice a1 live.length c1, .slice a2 safe.length c2, .slice a3 ops.length c3] (w2.alloc (.cells #[.slice a1 live.length c1, .slice a2 safe.length c2, .slice a3 ops.length c3] 27))) := hide Blk.new
    have HRO2 : Hid _ := hide hrow
    have HB23 : Hid _ := hide bw
    have HS3 : Hid ((w2.alloc (.cells #[.slice a1 live.length c1, .slice a2 safe.length c2, .slice a3 ops.length c3] 27)).heap.size = w2.heap.size + 1 ∧ w1.heap.size ≤ w2.heap.size) := hide ⟨by simp, hb2.size⟩
    clear bw hb23 hb2 hrow hd KX1 KO1 KR1 HX1 x0 x1 x2 o0 o1 o2 o3
    have b0 := KB3.out.c 0 _ rfl
    go_wp2_with fail
    obtain ⟨w3, hw3⟩ : ∃ w3, w3 = (w2.alloc (.cells #[.slice a1 live.length c1, .slice a2 safe.length c2, .slice a3 ops.length c3] 27)) := ⟨_, rfl⟩
    rw [← hw3] at HX3 KX3 KO3 KR3 KB3 HB23 HS3 b0 ⊢
    clear hw3
    refine (shelfOf_any a1 live c1 w3 (filesB_parts q1).1 (fun f hf => by have := filesB_small q1 f hf; exact ⟨by omega, by omega⟩) (filesB_srt q1) (HRO2.out.at.r1.below HB23.out)).mono ?_
    rintro e w4 ⟨hb4, m, β, rfl, hsh⟩
    have HSH : Hid _ := hide hsh
    have HB4 : Hid _ := hide hb4
    have KO4 : Hid _ := hide (KO3.out.below hb4)
    clear hb4 hsh b0
    have o0 := KO4.out.c 0 _ rfl
    have o1 := KO4.out.c 1 _ rfl
    have o2 := KO4.out.c 2 _ rfl
    have o3 := KO4.out.c 3 _ rfl
    go_wp2_with fail
    refine (did_any w3.heap.size m live.length live β o w4 HO.out (by have := (filesB_parts q1).1; omega) (by have := (filesB_parts q1).2.2; omega) (doL_dat q1 HO.out) HSH.out).mono ?_
    rintro e w5 ⟨rfl, hb5, hsh5⟩
    have hb35 : Below w3.heap.size w3 w5 := HB4.out.trans hb5
    have HSH5 : Hid _ := hide hsh5
    have HX5 : Hid (Below w.heap.size w w5 ∧ w.heap.size + 3 ≤ w5.heap.size) := hide ⟨below_trans HX3.out.1 hb35, Nat.le_trans HX3.out.2 hb35.size⟩
    have KX5 : Hid _ := hide (KX3.out.below hb35)
    have KO5 : Hid _ := hide (KO3.out.below hb35)
    have KR5 : Hid _ := hide (KR3.out.below hb35)
    have KB5 : Hid _ := hide (KB3.out.below hb35)
    have HRO : Hid (RowsD w1.heap.size live safe ops (.slice a1 live.length c1) (.slice a2 safe.length c2) (.slice a3 ops.length c3) w5) := hide (HRO2.out.below (below_trans HB23.out hb35))
    have HS5 : Hid (w2.heap.size + 1 ≤ w5.heap.size) := hide (by have := hb35.size; have := HS3.out.1; omega)
    have HDL : Hid ((∀ g, (Value.slice a2 safe.length c2).ownBlock = some g → g < w2.heap.size) ∧ (∀ g, (Value.slice a3 ops.length c3).ownBlock = some g → g < w2.heap.size)) := hide ⟨fun g hg => (HRO2.out.r2.lt g hg).2, fun g hg => (HRO2.out.r3.lt g hg).2⟩
    clear hb35 hb5 hsh5 HB4 KO4 KX3 KO3 KR3 HX3 KB3 HSH HRO2 HB23 o0 o1 o2 o3
    have hn3 : (ops.length : Int) ≤ 200 := by omega
    have b0 := KB5.out.c 0 _ rfl
    have b1 := KB5.out.c 1 _ rfl
    have b2 := KB5.out.c 2 _ rfl
    rcases did_act (ops := ops) (o := o) q1 with ⟨dv, ha⟩ | ⟨dv, ha⟩ | ⟨dv, ha⟩ | ⟨dv, hfo, hdo, hfl⟩
    · have HA : Hid (actC live ops o = 2) := hide ha
      rw [dv]
      clear dv ha HSH5
      obtain ⟨eL, eO⟩ := act_no HA.out (by decide)
      have HE : Hid (DiskC (doCv live safe ops o) (doLv live safe ops o) (doSv live safe ops o) (doOv live safe ops o) w (.returned (.tuple #[.agg #[.slice a1 live.length c1, .slice a2 safe.length c2, .slice a3 ops.length c3], .int .i64 2])) (((w5.setCell ⟨w.heap.size + 1 + 1, 0, none⟩ (.slice a1 live.length c1)).setCell ⟨w.heap.size + 1 + 1, 1, none⟩ (.slice a2 safe.length c2)).setCell ⟨w.heap.size + 1 + 1, 2, none⟩ (.slice a3 ops.length c3))) := hide (by
          rw [e1, e2, e3, e4, HA.out, eL, eO]
          exact disk_end HX5.out.1 HX1L.out HRO.out)
      have HS : Hid (∃ Y, (((w5.setCell ⟨w.heap.size + 1 + 1, 0, none⟩ (.slice a1 live.length c1)).setCell ⟨w.heap.size + 1 + 1, 1, none⟩ (.slice a2 safe.length c2)).setCell ⟨w.heap.size + 1 + 1, 2, none⟩ (.slice a3 ops.length c3)) = Y ∧ Blk (w.heap.size + 1 + 1) [.slice a1 live.length c1, .slice a2 safe.length c2, .slice a3 ops.length c3] Y) := hide ⟨_, rfl, (((KR5.out).set 0 (.slice a1 live.length c1) (by simp)).set 1 (.slice a2 safe.length c2) (by simp)).set 2 (.slice a3 ops.length c3) (by simp)⟩
      have y0 := (KR5.out).c 0 _ rfl
      have y1 := (KR5.out).c 1 _ rfl
      have y2 := (KR5.out).c 2 _ rfl
      have f0 := (KR5.out).f 0
      have f1 := (KR5.out).f 1
      have f2 := (KR5.out).f 2
      clear e1 e2 e3 e4
      go_wp2
      obtain ⟨Y, hY, kY⟩ := HS.out
      rw [hY] at HE ⊢
      have z0 := kY.c 0 _ rfl
      have z1 := kY.c 1 _ rfl
      have z2 := kY.c 2 _ rfl
      exact bodyPost_ret (v := .tuple #[.agg #[.slice a1 live.length c1, .slice a2 safe.length c2, .slice a3 ops.length c3], .int .i64 2]) (by simp [results, Try.results13, go_sem, z0, z1, z2]) rfl HE.out
    · have HA : Hid (actC live ops o = 3) := hide ha
      rw [dv]
      clear dv ha HSH5
      obtain ⟨eL, eO⟩ := act_no HA.out (by decide)
      have HE : Hid (DiskC (doCv live safe ops o) (doLv live safe ops o) (doSv live safe ops o) (doOv live safe ops o) w (.returned (.tuple #[.agg #[.slice a1 live.length c1, .slice a2 safe.length c2, .slice a3 ops.length c3], .int .i64 3])) (((w5.setCell ⟨w.heap.size + 1 + 1, 0, none⟩ (.slice a1 live.length c1)).setCell ⟨w.heap.size + 1 + 1, 1, none⟩ (.slice a2 safe.length c2)).setCell ⟨w.heap.size + 1 + 1, 2, none⟩ (.slice a3 ops.length c3))) := hide (by
          rw [e1, e2, e3, e4, HA.out, eL, eO]
          exact disk_end HX5.out.1 HX1L.out HRO.out)
      have HS : Hid (∃ Y, (((w5.setCell ⟨w.heap.size + 1 + 1, 0, none⟩ (.slice a1 live.length c1)).setCell ⟨w.heap.size + 1 + 1, 1, none⟩ (.slice a2 safe.length c2)).setCell ⟨w.heap.size + 1 + 1, 2, none⟩ (.slice a3 ops.length c3)) = Y ∧ Blk (w.heap.size + 1 + 1) [.slice a1 live.length c1, .slice a2 safe.length c2, .slice a3 ops.length c3] Y) := hide ⟨_, rfl, (((KR5.out).set 0 (.slice a1 live.length c1) (by simp)).set 1 (.slice a2 safe.length c2) (by simp)).set 2 (.slice a3 ops.length c3) (by simp)⟩
      have y0 := (KR5.out).c 0 _ rfl
      have y1 := (KR5.out).c 1 _ rfl
      have y2 := (KR5.out).c 2 _ rfl
      have f0 := (KR5.out).f 0
      have f1 := (KR5.out).f 1
      have f2 := (KR5.out).f 2
      clear e1 e2 e3 e4
      go_wp2
      obtain ⟨Y, hY, kY⟩ := HS.out
      rw [hY] at HE ⊢
      have z0 := kY.c 0 _ rfl
      have z1 := kY.c 1 _ rfl
      have z2 := kY.c 2 _ rfl
      exact bodyPost_ret (v := .tuple #[.agg #[.slice a1 live.length c1, .slice a2 safe.length c2, .slice a3 ops.length c3], .int .i64 3]) (by simp [results, Try.results13, go_sem, z0, z1, z2]) rfl HE.out
    · have HA : Hid (actC live ops o = 4) := hide ha
      rw [dv]
      clear dv ha HSH5
      obtain ⟨eL, eO⟩ := act_no HA.out (by decide)
      have HE : Hid (DiskC (doCv live safe ops o) (doLv live safe ops o) (doSv live safe ops o) (doOv live safe ops o) w (.returned (.tuple #[.agg #[.slice a1 live.length c1, .slice a2 safe.length c2, .slice a3 ops.length c3], .int .i64 4])) (((w5.setCell ⟨w.heap.size + 1 + 1, 0, none⟩ (.slice a1 live.length c1)).setCell ⟨w.heap.size + 1 + 1, 1, none⟩ (.slice a2 safe.length c2)).setCell ⟨w.heap.size + 1 + 1, 2, none⟩ (.slice a3 ops.length c3))) := hide (by
          rw [e1, e2, e3, e4, HA.out, eL, eO]
          exact disk_end HX5.out.1 HX1L.out HRO.out)
      have HS : Hid (∃ Y, (((w5.setCell ⟨w.heap.size + 1 + 1, 0, none⟩ (.slice a1 live.length c1)).setCell ⟨w.heap.size + 1 + 1, 1, none⟩ (.slice a2 safe.length c2)).setCell ⟨w.heap.size + 1 + 1, 2, none⟩ (.slice a3 ops.length c3)) = Y ∧ Blk (w.heap.size + 1 + 1) [.slice a1 live.length c1, .slice a2 safe.length c2, .slice a3 ops.length c3] Y) := hide ⟨_, rfl, (((KR5.out).set 0 (.slice a1 live.length c1) (by simp)).set 1 (.slice a2 safe.length c2) (by simp)).set 2 (.slice a3 ops.length c3) (by simp)⟩
      have y0 := (KR5.out).c 0 _ rfl
      have y1 := (KR5.out).c 1 _ rfl
      have y2 := (KR5.out).c 2 _ rfl
      have f0 := (KR5.out).f 0
      have f1 := (KR5.out).f 1
      have f2 := (KR5.out).f 2
      clear e1 e2 e3 e4
      go_wp2
      obtain ⟨Y, hY, kY⟩ := HS.out
      rw [hY] at HE ⊢
      have z0 := kY.c 0 _ rfl
      have z1 := kY.c 1 _ rfl
      have z2 := kY.c 2 _ rfl
      exact bodyPost_ret (v := .tuple #[.agg #[.slice a1 live.length c1, .slice a2 safe.length c2, .slice a3 ops.length c3], .int .i64 4]) (by simp [results, Try.results13, go_sem, z0, z1, z2]) rfl HE.out
    · rw [dv]
      clear dv
      by_cases h200 : (ops.length : Int) = 200
      · have HA : Hid (actC live ops o = 4) := hide (by simp [actC, hfo, hdo, h200])
        clear HSH5
        obtain ⟨eL, eO⟩ := act_no HA.out (by decide)
        have HE : Hid (DiskC (doCv live safe ops o) (doLv live safe ops o) (doSv live safe ops o) (doOv live safe ops o) w (.returned (.tuple #[.agg #[.slice a1 live.length c1, .slice a2 safe.length c2, .slice a3 ops.length c3], .int .i64 4])) (((w5.setCell ⟨w.heap.size + 1 + 1, 0, none⟩ (.slice a1 live.length c1)).setCell ⟨w.heap.size + 1 + 1, 1, none⟩ (.slice a2 safe.length c2)).setCell ⟨w.heap.size + 1 + 1, 2, none⟩ (.slice a3 ops.length c3))) := hide (by
            rw [e1, e2, e3, e4, HA.out, eL, eO]
            exact disk_end HX5.out.1 HX1L.out HRO.out)
        have HS : Hid (∃ Y, (((w5.setCell ⟨w.heap.size + 1 + 1, 0, none⟩ (.slice a1 live.length c1)).setCell ⟨w.heap.size + 1 + 1, 1, none⟩ (.slice a2 safe.length c2)).setCell ⟨w.heap.size + 1 + 1, 2, none⟩ (.slice a3 ops.length c3)) = Y ∧ Blk (w.heap.size + 1 + 1) [.slice a1 live.length c1, .slice a2 safe.length c2, .slice a3 ops.length c3] Y) := hide ⟨_, rfl, (((KR5.out).set 0 (.slice a1 live.length c1) (by simp)).set 1 (.slice a2 safe.length c2) (by simp)).set 2 (.slice a3 ops.length c3) (by simp)⟩
        have y0 := (KR5.out).c 0 _ rfl
        have y1 := (KR5.out).c 1 _ rfl
        have y2 := (KR5.out).c 2 _ rfl
        have f0 := (KR5.out).f 0
        have f1 := (KR5.out).f 1
        have f2 := (KR5.out).f 2
        clear e1 e2 e3 e4
        go_wp2
        obtain ⟨Y, hY, kY⟩ := HS.out
        rw [hY] at HE ⊢
        have z0 := kY.c 0 _ rfl
        have z1 := kY.c 1 _ rfl
        have z2 := kY.c 2 _ rfl
        exact bodyPost_ret (v := .tuple #[.agg #[.slice a1 live.length c1, .slice a2 safe.length c2, .slice a3 ops.length c3], .int .i64 4]) (by simp [results, Try.results13, go_sem, z0, z1, z2]) rfl HE.out
      · have HA : Hid (actC live ops o = 0) := hide (by simp [actC, hfo, hdo, hfl, h200])
        have HF : Hid _ := hide hfl
        obtain ⟨β5, hsh5⟩ := HSH5.out hfo hdo
        have HSH6 : Hid _ := hide hsh5
        clear HSH5 hsh5
        go_wp2_with fail
        refine (files_any w3.heap.size m (live.length + 1) (doL live o).1 β5 w5 (by have := (filesB_parts HF.out).1; omega) (by have := (filesB_parts q1).1; omega) (by have := (filesB_parts HF.out).2.2; omega) HSH6.out).mono ?_
        rintro e w6 ⟨hb6, v, rfl, hnr⟩
        obtain ⟨na, nc, rfl, _⟩ := shape_f hnr
        have g0 := (KB5.out.below hb6).c 0 _ rfl
        have fg0 := (KB5.out.below hb6).f 0
        have s6 := hb6.size
        have s5 := HS5.out
        have KB6 : Hid (Blk w2.heap.size [.slice na (doL live o).1.length nc, .slice a2 safe.length c2, .slice a3 ops.length c3] (w6.setCell ⟨w2.heap.size, 0, none⟩ (.slice na (doL live o).1.length nc))) := hide ((KB5.out.below hb6).set 0 (.slice na (doL live o).1.length nc) (by simp))
        have KO6 : Hid (Blk (w.heap.size + 1) [.int .i64 o.kind, .string o.nm, .string o.tn, .string o.da] (w6.setCell ⟨w2.heap.size, 0, none⟩ (.slice na (doL live o).1.length nc))) := hide ((KO5.out.below hb6).other 0 _ (by have := HX1L.out; have := HS3.out.2; omega))
        have KR6 : Hid (Blk (w.heap.size + 1 + 1) [.slice none 0 0, .slice none 0 0, .slice none 0 0] (w6.setCell ⟨w2.heap.size, 0, none⟩ (.slice na (doL live o).1.length nc))) := hide ((KR5.out.below hb6).other 0 _ (by have := HX1L.out; have := HS3.out.2; omega))
        have HX6 : Hid (Below w.heap.size w (w6.setCell ⟨w2.heap.size, 0, none⟩ (.slice na (doL live o).1.length nc))) := hide ((below_trans HX5.out.1 hb6).setCell (p := ⟨w2.heap.size, 0, none⟩) (by show w.heap.size ≤ w2.heap.size; have := HX1L.out; have := HS3.out.2; omega) _)
        have HR2 : Hid (World.ownsRow (w6.setCell ⟨w2.heap.size, 0, none⟩ (.slice na (doL live o).1.length nc)) w1.heap.size 52 2 (.slice a2 safe.length c2) safe.length (safe.flatMap flCells)) := hide ((own_keep HRO.out.r2 hb6).kept (grown_set _ _ _ _) (.inr (fun q => by have := HDL.out.1 _ q; omega)))
        have HR3 : Hid (World.ownsRow (w6.setCell ⟨w2.heap.size, 0, none⟩ (.slice na (doL live o).1.length nc)) w1.heap.size 36 4 (.slice a3 ops.length c3) ops.length (ops.flatMap dpCells)) := hide ((own_keep HRO.out.r3 hb6).kept (grown_set _ _ _ _) (.inr (fun q => by have := HDL.out.2 _ q; omega)))
        have HNR : Hid (World.ownsRow (w6.setCell ⟨w2.heap.size, 0, none⟩ (.slice na (doL live o).1.length nc)) w5.heap.size 52 2 (.slice na (doL live o).1.length nc) (doL live o).1.length ((doL live o).1.flatMap flCells)) := hide (hnr.kept (grown_set _ _ _ _) (.inr (fun q => by have := (hnr.lt _ q).1; omega)))
        have HSN : Hid (Sep (.slice na (doL live o).1.length nc) (.slice a2 safe.length c2) ∧ Sep (.slice na (doL live o).1.length nc) (.slice a3 ops.length c3)) := hide ⟨(Sep.old HRO.out.r2 hnr (Nat.le_refl _)).symm, (Sep.old HRO.out.r3 hnr (Nat.le_refl _)).symm⟩
        have HS6 : Hid ((w6.setCell ⟨w2.heap.size, 0, none⟩ (.slice na (doL live o).1.length nc)).heap.size = w6.heap.size ∧ w5.heap.size ≤ w6.heap.size) := hide ⟨size_setCell _ _ _, s6⟩
        clear hb6 hnr s6 s5 b0 b1 b2
        have b2 := KB6.out.c 2 _ rfl
        have o0 := KO6.out.c 0 _ rfl
        have o1 := KO6.out.c 1 _ rfl
        have o2 := KO6.out.c 2 _ rfl
        have o3 := KO6.out.c 3 _ rfl
        obtain ⟨j0, hj0, hy0, hy1, hy2⟩ := info_parts infoO
        have hv := huO
        go_wp2_with (first | (at_builtin; refine Shut2.mk ?_) | fail)
        refine Shut2.mk' ?_
        obtain ⟨x6, hx6⟩ : ∃ x6, x6 = (w6.setCell ⟨w2.heap.size, 0, none⟩ (.slice na (doL live o).1.length nc)) := ⟨_, rfl⟩
        rw [← hx6] at KB6 KO6 KR6 HX6 HR2 HR3 HNR HS6 b2 o0 o1 o2 o3 ⊢
        clear hx6
        refine wpList_append_own_at _ rfl _ _ 25 rfl w1.heap.size 36 j0 _ 4 56 hv hj0 hy0 hy1 hy2 rfl (by decide) (.slice a3 ops.length c3) ops.length (ops.flatMap dpCells) rfl ?own ⟨w6.heap.size, 0, none⟩ 1 1 [.int .i64 o.kind, .string o.nm, .string o.tn, .string o.da] rfl rfl ?news (by simp [Value.oneCell']) (by unfold maxLen; omega) (by omega) ?base ?_
        case own => exact own_keep HR3.out (below_alloc (Below.refl _ _) _)
        case news => rw [← HS6.out.1]; exact news4 (World.cell?_alloc_at _ _ _ _ rfl) (World.cell?_alloc_at _ _ _ _ rfl) (World.cell?_alloc_at _ _ _ _ rfl) (World.cell?_alloc_at _ _ _ _ rfl)
        case base => have := HS6.out; have := HS5.out; have := HS3.out; simp; omega
        intro v6 w7 ho6 hg6 _ hl6
        obtain ⟨x7, hx7⟩ : ∃ x7, x7 = x6.alloc (.cells #[.int .i64 o.kind, .string o.nm, .string o.tn, .string o.da] 36) := ⟨_, rfl⟩
        have ba : Below x6.heap.size x6 x7 := by rw [hx7]; exact below_alloc (Below.refl _ _) _
        have sx : x7.heap.size = w6.heap.size + 1 := by rw [hx7, ← HS6.out.1]; simp
        rw [← hx7] at hg6 hl6
        have lo3 : ∀ j, (Value.slice a3 ops.length c3).ownBlock = some j → w1.heap.size ≤ j := fun j hj => (HR3.out.lt j hj).1
        have n5 := HS5.out
        have n6 := HS6.out.2
        have n1 := HX1L.out
        have n2 := HS3.out.2
        have HB6 : Below w.heap.size w w7 := (below_trans HX6.out ba).grown hg6 (by omega) (fun j hj => by have := lo3 j hj; omega)
        have kB := (KB6.out.below ba).grown hg6 (fun q => by have := HDL.out.2 _ q.symm; omega)
        have kR := (KR6.out.below ba).grown hg6 (fun q => by have := lo3 _ q.symm; omega)
        have hn5 := own_keep HNR.out ba
        have h25 := own_keep HR2.out ba
        have r1 := hn5.kept hg6 (Sep.ne HSN.out.2)
        have r2 := h25.kept hg6 (Sep.ne HRO.out.s23)
        have r3 : w7.ownsRow w1.heap.size 36 4 v6 (ops ++ [o]).length ((ops ++ [o]).flatMap dpCells) := by
          rw [List.flatMap_append]
          simpa [dpCells] using ho6
        have hsh := row_shape ho6
        have s13 := Sep.growr HSN.out.2 hl6 hn5
        have s23 := Sep.growr HRO.out.s23 hl6 h25
        have l6 : ∀ g, v6.ownBlock = some g → g ≠ w2.heap.size := fun g hg => by
          rcases hl6 with q | q
          · have := HDL.out.2 g (q ▸ hg); omega
          · rw [q] at hg; simp only [Option.some.injEq] at hg; omega
        obtain ⟨a6, c6, rfl⟩ := hsh
        have hrow : RowsD (w.heap.size + 3) (doL live o).1 safe (ops ++ [o]) (.slice na (doL live o).1.length nc) (.slice a2 safe.length c2) (.slice a6 (ops.length + 1) c6) (w7.setCell ⟨w2.heap.size, 2, none⟩ (.slice a6 (ops.length + 1) c6)) :=
          ⟨own_mono (r1.kept (grown_set _ _ _ _) (.inr (fun q => by have := (hn5.lt _ q).1; omega))) (by omega), own_mono (r2.kept (grown_set _ _ _ _) (.inr (fun q => by have := HDL.out.1 _ q; omega))) n1, own_mono (r3.kept (grown_set _ _ _ _) (.inr (fun q => l6 _ q rfl))) n1, HSN.out.1, s13, s23⟩
        have hy := HB6.setCell (p := ⟨w2.heap.size, 2, none⟩) (by show w.heap.size ≤ w2.heap.size; omega) (.slice a6 (ops.length + 1) c6)
        have KRc : Blk (w.heap.size + 1 + 1) [.slice none 0 0, .slice none 0 0, .slice none 0 0] (w7.setCell ⟨w2.heap.size, 2, none⟩ (.slice a6 (ops.length + 1) c6)) := kR.other 2 _ (by omega)
        have KBc := kB.set 2 (.slice a6 (ops.length + 1) c6) (by simp)
        have g2 := kB.c 2 _ rfl
        have fg := kB.f 2
        have k0 := KBc.c 0 _ rfl
        have k1 := KBc.c 1 _ rfl
        have k2 := KBc.c 2 _ rfl
        obtain ⟨eL, eO⟩ := act_yes HA.out
        have HE : Hid (DiskC (doCv live safe ops o) (doLv live safe ops o) (doSv live safe ops o) (doOv live safe ops o) w (.returned (.tuple #[.agg #[.slice na (doL live o).1.length nc, .slice a2 safe.length c2, .slice a6 (ops.length + 1) c6], .int .i64 0])) ((((w7.setCell ⟨w2.heap.size, 2, none⟩ (.slice a6 (ops.length + 1) c6)).setCell ⟨w.heap.size + 1 + 1, 0, none⟩ (.slice na (doL live o).1.length nc)).setCell ⟨w.heap.size + 1 + 1, 1, none⟩ (.slice a2 safe.length c2)).setCell ⟨w.heap.size + 1 + 1, 2, none⟩ (.slice a6 (ops.length + 1) c6))) := hide (by
            rw [e1, e2, e3, e4, HA.out, eL, eO]
            exact disk_end hy (Nat.le_refl _) hrow)
        have HS : Hid (∃ Y, ((((w7.setCell ⟨w2.heap.size, 2, none⟩ (.slice a6 (ops.length + 1) c6)).setCell ⟨w.heap.size + 1 + 1, 0, none⟩ (.slice na (doL live o).1.length nc)).setCell ⟨w.heap.size + 1 + 1, 1, none⟩ (.slice a2 safe.length c2)).setCell ⟨w.heap.size + 1 + 1, 2, none⟩ (.slice a6 (ops.length + 1) c6)) = Y ∧ Blk (w.heap.size + 1 + 1) [.slice na (doL live o).1.length nc, .slice a2 safe.length c2, .slice a6 (ops.length + 1) c6] Y) := hide ⟨_, rfl, (((KRc).set 0 (.slice na (doL live o).1.length nc) (by simp)).set 1 (.slice a2 safe.length c2) (by simp)).set 2 (.slice a6 (ops.length + 1) c6) (by simp)⟩
        have y0 := (KRc).c 0 _ rfl
        have y1 := (KRc).c 1 _ rfl
        have y2 := (KRc).c 2 _ rfl
        have f0 := (KRc).f 0
        have f1 := (KRc).f 1
        have f2 := (KRc).f 2
        clear KRc KBc hy hrow l6 s13 s23 hl6 hg6 ho6 r1 r2 r3 h25 hn5 kR kB HB6 lo3 sx ba hx7 b2 o0 o1 o2 o3 n1 n2 n5 n6 e1 e2 e3 e4 g0 fg0
        go_wp2
        obtain ⟨Y, hY, kY⟩ := HS.out
        rw [hY] at HE ⊢
        have z0 := kY.c 0 _ rfl
        have z1 := kY.c 1 _ rfl
        have z2 := kY.c 2 _ rfl
        exact bodyPost_ret (v := .tuple #[.agg #[.slice na (doL live o).1.length nc, .slice a2 safe.length c2, .slice a6 (ops.length + 1) c6], .int .i64 0]) (by simp [results, Try.results13, go_sem, z0, z1, z2]) rfl HE.out
end Go.Proofs.Ytiilkkdbifhojaa
