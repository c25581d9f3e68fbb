/- The walk of the law DiskOk. -/
import Derived.Test.YtacbcmgpknhgdaaDkT4
import Derived.Test.YtacbcmgpknhgdaaDkI9
namespace Go.Proofs.Ytacbcmgpknhgdaa
open Go.ChangeShapes Go.WideShapes Go.ChangeAt Go.RowKit
set_option linter.unusedVariables false
set_option maxRecDepth 100000
def YesEnd (w : World) (e : Ending) (w' : World) : Prop := e = .returned (.bool true) ∧ Below w.heap.size w w'
theorem bne_bool (b : Bool) : (b != b) = false := by cases b <;> rfl
theorem Sms.f {l : List Fl} (h : Sms SmF1 l) : SmF l := h.2
abbrev S6d (A B : Nat) (p0 p1 p2 q0 q1 q2 : Value) (W x : World) : Prop := x.cell? ⟨A, 0, none⟩ = some p0 ∧ x.cell? ⟨A, 1, none⟩ = some p1 ∧ x.cell? ⟨A, 2, none⟩ = some p2 ∧ x.cell? ⟨B, 0, none⟩ = some q0 ∧ x.cell? ⟨B, 1, none⟩ = some q1 ∧ x.cell? ⟨B, 2, none⟩ = some q2 ∧ Hid (Below W.heap.size W x)
theorem S6d.of {A B : Nat} {p0 p1 p2 q0 q1 q2 : Value} {W x : World} (h : Blk A [p0, p1, p2] W) (k : Blk B [q0, q1, q2] W) (b : Below W.heap.size W x) : S6d A B p0 p1 p2 q0 q1 q2 W x :=
  ⟨(h.below b).c 0 _ rfl, (h.below b).c 1 _ rfl, (h.below b).c 2 _ rfl, (k.below b).c 0 _ rfl, (k.below b).c 1 _ rfl, (k.below b).c 2 _ rfl, hide b⟩
theorem S6d.on {A B : Nat} {p0 p1 p2 q0 q1 q2 : Value} {W x y : World} (h : S6d A B p0 p1 p2 q0 q1 q2 W x) (b : Below x.heap.size x y) : S6d A B p0 p1 p2 q0 q1 q2 W y :=
  ⟨below_keeps b _ _ h.1, below_keeps b _ _ h.2.1, below_keeps b _ _ h.2.2.1, below_keeps b _ _ h.2.2.2.1, below_keeps b _ _ h.2.2.2.2.1, below_keeps b _ _ h.2.2.2.2.2.1, hide (below_trans h.2.2.2.2.2.2.out b)⟩
theorem S6d.old {A B : Nat} {p0 p1 p2 q0 q1 q2 : Value} {W x : World} (h : S6d A B p0 p1 p2 q0 q1 q2 W x) : Below W.heap.size W x := h.2.2.2.2.2.2.out
set_option maxHeartbeats 8000000 in
theorem walkDiskOk (la sa oa : Option Addr) (lc sc oc : Nat) (live safe : List Fl) (ops : List Dp) (w : World) (hn : LimD live safe ops) (h : DkAt w la sa oa live safe ops) :
    Calls Try.prog 3 #[.agg #[.slice la live.length lc, .slice sa safe.length sc, .slice oa ops.length oc]] w fun e w' => YesEnd w e w' := by
  have HL : Hid _ := hide h
  have HN : Hid _ := hide hn
  clear h hn
  have KX0 : Hid (Blk w.heap.size [.slice la live.length lc, .slice sa safe.length sc, .slice oa ops.length oc] (w.alloc (.cells #[.slice la live.length lc, .slice sa safe.length sc, .slice oa ops.length oc] 25))) := hide Blk.new
  have HX0 : Hid (Below w.heap.size w (w.alloc (.cells #[.slice la live.length lc, .slice sa safe.length sc, .slice oa ops.length oc] 25))) := hide (below_alloc (Below.refl _ _) _)
  go_enter Try.func3, Try.ntmps3
  go_wp2_with fail
  refine (szDisk_any _ _ _ _ _ _ live safe ops _ _ HN.out (by omega) (HL.out.below HX0.out)).mono ?_
  rintro e w1 ⟨hb1, r, rfl, hr1, hr2, hr⟩
  have HX1 : Hid _ := hide (below_trans HX0.out hb1)
  have KX1 : Hid _ := hide (KX0.out.below hb1)
  have HR : Hid _ := hide hr
  clear hb1 HX0 KX0 hr
  by_cases q : r < 0
  · go_wp2
    go_ret
    exact ⟨rfl, HX1.out⟩
  · have HM : Hid (SmD live safe ops) := hide (HR.out (by omega))
    clear HR
    have x0 := KX1.out.c 0 _ rfl
    have x1 := KX1.out.c 1 _ rfl
    have x2 := KX1.out.c 2 _ rfl
    go_wp2_with fail
    refine (toDisk_any _ _ _ _ _ _ live safe ops _ HM.out (HL.out.below HX1.out)).mono ?_
    rintro e w2 ⟨hb2, g2, h2, k2, rfl, _, hd2⟩
    have HX2 : Hid _ := hide (below_trans HX1.out hb2)
    have KX2 : Hid _ := hide (KX1.out.below hb2)
    have HI2 : Hid _ := hide (specDiskOk_any (some ⟨g2, 0, none⟩) (some ⟨h2, 0, none⟩) (some ⟨k2, 0, none⟩) live.length safe.length ops.length live safe ops w2 HM.out.1.1 HM.out.2.1.1 HM.out.2.2.1 HM.out.1.f HM.out.2.1.f HM.out.2.2.2 (fun q => by cases q) hd2.at.r1 hd2.at.r2 hd2.at.r3)
    clear hb2 hd2 HX1 KX1 x0 x1 x2
    go_wp2_with fail
    refine HI2.out.mono ?_
    rintro e w3 ⟨rfl, hb3⟩
    have HX3 : Hid _ := hide (below_trans HX2.out hb3)
    have KX3 : Hid _ := hide (KX2.out.below hb3)
    clear hb3 HI2 HX2 KX2
    have x0 := KX3.out.c 0 _ rfl
    have x1 := KX3.out.c 1 _ rfl
    have x2 := KX3.out.c 2 _ rfl
    go_wp2_with fail
    refine (toDisk_any _ _ _ _ _ _ live safe ops _ HM.out (HL.out.below HX3.out)).mono ?_
    rintro e w4 ⟨hb4, g4, h4, k4, rfl, _, hd4⟩
    have HX4 : Hid _ := hide (below_trans HX3.out hb4)
    have KX4 : Hid _ := hide (KX3.out.below hb4)
    have HL4 : Hid _ := hide hd4
    clear hb4 hd4 HX3 KX3 x0 x1 x2
    have KY4 : Hid (Blk w4.heap.size [.slice (some ⟨g4, 0, none⟩) live.length live.length, .slice (some ⟨h4, 0, none⟩) safe.length safe.length, .slice (some ⟨k4, 0, none⟩) ops.length ops.length] (w4.alloc (.cells #[.slice (some ⟨g4, 0, none⟩) live.length live.length, .slice (some ⟨h4, 0, none⟩) safe.length safe.length, .slice (some ⟨k4, 0, none⟩) ops.length ops.length] 31))) := hide Blk.new
    have HY4 : Hid (Below w4.heap.size w4 (w4.alloc (.cells #[.slice (some ⟨g4, 0, none⟩) live.length live.length, .slice (some ⟨h4, 0, none⟩) safe.length safe.length, .slice (some ⟨k4, 0, none⟩) ops.length ops.length] 31))) := hide (below_alloc (Below.refl _ _) _)
    go_wp2_with fail
    refine (implDiskOk_any (some ⟨g4, 0, none⟩) (some ⟨h4, 0, none⟩) (some ⟨k4, 0, none⟩) live.length safe.length ops.length live safe ops _ HM.out.1.1 HM.out.2.1.1 HM.out.2.2.1 HM.out.1.f HM.out.2.1.f HM.out.2.2.2 (HL4.out.below HY4.out).at.r1 (HL4.out.below HY4.out).at.r2 (HL4.out.below HY4.out).at.r3).mono ?_
    rintro e w6 ⟨rfl, hb6⟩
    have b46 := below_trans HY4.out hb6
    have HX6 : Hid _ := hide (below_trans HX4.out b46)
    have KX6 : Hid _ := hide (KX4.out.below b46)
    have KY6 : Hid _ := hide (KY4.out.below hb6)
    have HL6 : Hid _ := hide (HL4.out.below b46)
    clear hb6 b46 HY4 HX4 HL4 KX4 KY4
    have hbn := bne_bool (diskB ⟨live, safe, ops⟩)
    generalize diskB ⟨live, safe, ops⟩ = dB at *
    go_wp2_with fail
    go_region_held3 (fun x => x.cell? ⟨w4.heap.size, 0, none⟩ = some (.slice (some ⟨g4, 0, none⟩) live.length live.length) ∧ x.cell? ⟨w4.heap.size, 1, none⟩ = some (.slice (some ⟨h4, 0, none⟩) safe.length safe.length) ∧ x.cell? ⟨w4.heap.size, 2, none⟩ = some (.slice (some ⟨k4, 0, none⟩) ops.length ops.length) ∧ x.cell? ⟨w.heap.size, 0, none⟩ = some (.slice la live.length lc) ∧ x.cell? ⟨w.heap.size, 1, none⟩ = some (.slice sa safe.length sc) ∧ x.cell? ⟨w.heap.size, 2, none⟩ = some (.slice oa ops.length oc) ∧ Hid (Below w6.heap.size w6 x))
      (first | with_reducible exact S6d.of KY6.out KX6.out (Below.refl _ _).drew | with_reducible exact S6d.on (by assumption) (by assumption) | with_reducible assumption)
      (first
        | (go_at_call 8; refine (toDisk_any _ _ _ _ _ _ live safe ops _ HM.out (HL.out.below (below_trans HX6.out (S6d.old (by assumption : S6d w4.heap.size w.heap.size (.slice (some ⟨g4, 0, none⟩) live.length live.length) (.slice (some ⟨h4, 0, none⟩) safe.length safe.length) (.slice (some ⟨k4, 0, none⟩) ops.length ops.length) (.slice la live.length lc) (.slice sa safe.length sc) (.slice oa ops.length oc) w6 _))))).mono ?_; rintro e w7 ⟨hb7, g7, h7, k7, rfl, _, hd7⟩)
        | (go_at_call 10; refine (eqDisk_any _ _ _ _ _ _ _ _ _ _ _ _ live safe ops _ HM.out (HL6.out.at.below (S6d.old (by assumption : S6d w4.heap.size w.heap.size (.slice (some ⟨g4, 0, none⟩) live.length live.length) (.slice (some ⟨h4, 0, none⟩) safe.length safe.length) (.slice (some ⟨k4, 0, none⟩) ops.length ops.length) (.slice la live.length lc) (.slice sa safe.length sc) (.slice oa ops.length oc) w6 _))) hd7.at).mono ?_; rintro e w8 ⟨rfl, hb8⟩))
    have HE : Hid (Below w.heap.size w w8) := hide (below_trans HX6.out (S6d.old (by assumption : S6d w4.heap.size w.heap.size (.slice (some ⟨g4, 0, none⟩) live.length live.length) (.slice (some ⟨h4, 0, none⟩) safe.length safe.length) (.slice (some ⟨k4, 0, none⟩) ops.length ops.length) (.slice la live.length lc) (.slice sa safe.length sc) (.slice oa ops.length oc) w6 w8)))
    clear hb7 hd7 hb8
    go_wp2
    go_ret
    exact ⟨rfl, HE.out⟩
end Go.Proofs.Ytacbcmgpknhgdaa
