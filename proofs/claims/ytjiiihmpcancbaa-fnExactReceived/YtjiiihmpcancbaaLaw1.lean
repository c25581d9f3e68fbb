/- The walks of the laws FnExactEndOk and FnExactOpenOf. -/
import Derived.Test.YtjiiihmpcancbaaOf
import Derived.Test.YtjiiihmpcancbaaTo
import Derived.Deep.RegionHeld
namespace Go.Proofs.Ytjiiihmpcancbaa
open Go.ChangeShapes Go.WideShapes Go.ChangeAt Go.RowKit
set_option linter.unusedVariables false
theorem bne_bool (b : Bool) : (b != b) = false := by simp
theorem bne_int (n : Int) : (n != n) = false := by simp
def S6 (A B : Nat) (p0 p1 p2 q0 q1 q2 : Value) (W0 x : World) : Prop := x.cell? ⟨A, 0, none⟩ = some p0 ∧ x.cell? ⟨A, 1, none⟩ = some p1 ∧ x.cell? ⟨A, 2, none⟩ = some p2 ∧ x.cell? ⟨B, 0, none⟩ = some q0 ∧ x.cell? ⟨B, 1, none⟩ = some q1 ∧ x.cell? ⟨B, 2, none⟩ = some q2 ∧ Hid (Below W0.heap.size W0 x)
theorem S6.of {A B : Nat} {p0 p1 p2 q0 q1 q2 : Value} {W0 x : World} (h : W0.cell? ⟨A, 0, none⟩ = some p0 ∧ W0.cell? ⟨A, 1, none⟩ = some p1 ∧ W0.cell? ⟨A, 2, none⟩ = some p2) (k : W0.cell? ⟨B, 0, none⟩ = some q0 ∧ W0.cell? ⟨B, 1, none⟩ = some q1 ∧ W0.cell? ⟨B, 2, none⟩ = some q2) (b : Below W0.heap.size W0 x) : S6 A B p0 p1 p2 q0 q1 q2 W0 x :=
  ⟨below_keeps b _ _ h.1, below_keeps b _ _ h.2.1, below_keeps b _ _ h.2.2, below_keeps b _ _ k.1, below_keeps b _ _ k.2.1, below_keeps b _ _ k.2.2, hide b⟩
theorem S6.on {A B : Nat} {p0 p1 p2 q0 q1 q2 : Value} {W0 x y : World} (h : S6 A B p0 p1 p2 q0 q1 q2 W0 x) (b : Below x.heap.size x y) : S6 A B p0 p1 p2 q0 q1 q2 W0 y :=
  ⟨below_keeps b _ _ h.1, below_keeps b _ _ h.2.1, below_keeps b _ _ h.2.2.1, below_keeps b _ _ h.2.2.2.1, below_keeps b _ _ h.2.2.2.2.1, below_keeps b _ _ h.2.2.2.2.2.1, hide (below_trans h.2.2.2.2.2.2.out b)⟩
set_option maxRecDepth 100000 in
set_option maxHeartbeats 8000000 in
theorem walkEndOk (a : Option Addr) (l : List Prc) (ca : Nat) (sent got : Int) (w : World) (hl : RowAt 2 prcCells w a l) (m1 : l.length ≤ maxLen) :
    Calls Try.prog 3 #[.agg #[.slice a l.length ca, .int .i64 sent, .int .i64 got]] w fun e w' => YesEnd w e w' := by
  have HL : Hid _ := hide hl
  clear hl
  have HX0 : Hid (Below (w.heap.size + 1) (w.alloc (.cells #[.slice a l.length ca, .int .i64 sent, .int .i64 got] 24)) (w.alloc (.cells #[.slice a l.length ca, .int .i64 sent, .int .i64 got] 24))) := hide (Below.refl _ _)
  go_enter Try.func3, Try.ntmps3
  go_wp2_with fail
  refine (szEnd_any _ l.length _ _ _ _ _ m1 (by omega)).mono ?_
  rintro e w1 ⟨hb1, r, rfl, hr1, hr⟩
  have HX1 : Hid _ := hide (box_on HX0.out hb1)
  clear hb1 HX0
  obtain ⟨x0, x1, x2⟩ := box3 HX1.out
  by_cases q : r < 0
  · go_wp2
    go_ret
    exact ⟨rfl, box_old HX1.out⟩
  · have n1 : l.length ≤ 1048576 := by have := hr (by omega); omega
    clear hr
    go_wp2_with fail
    refine (toEnd_any _ l _ _ _ _ n1 (HL.out.below (box_old HX1.out))).mono ?_
    rintro e w2 ⟨hb2, g2, rfl, hg2, ho2⟩
    have HX2 : Hid _ := hide (box_on HX1.out hb2)
    have HL2 : Hid _ := hide ho2.rows
    clear hb2 ho2 hg2 HX1 x0 x1 x2
    go_wp2_with fail
    refine (specEndOk_any _ l _ _ _ _ n1 HL2.out).mono ?_
    rintro e w3 ⟨rfl, hb3⟩
    have HX3 : Hid _ := hide (box_on HX2.out hb3)
    clear hb3 HL2 HX2
    obtain ⟨x0, x1, x2⟩ := box3 HX3.out
    go_wp2_with fail
    refine (toEnd_any _ l _ _ _ _ n1 (HL.out.below (box_old HX3.out))).mono ?_
    rintro e w4 ⟨hb4, g4, rfl, hg4, ho4⟩
    have HX4 : Hid _ := hide (box_on HX3.out hb4)
    have HL4 : Hid _ := hide ho4.rows
    clear hb4 ho4 hg4 HX3 x0 x1 x2
    have HY4 : Hid (Below (w4.heap.size + 1) (w4.alloc (.cells #[.slice (some ⟨g4, 0, none⟩) l.length l.length, .int .i64 sent, .int .i64 got] 29)) (w4.alloc (.cells #[.slice (some ⟨g4, 0, none⟩) l.length l.length, .int .i64 sent, .int .i64 got] 29))) := hide (Below.refl _ _)
    go_wp2_with fail
    refine (implEndOk_any _ l _ _ _ _ n1 (HL4.out.below (box_old HY4.out))).mono ?_
    rintro e w6 ⟨rfl, hb6⟩
    have HY6 : Hid _ := hide (box_on HY4.out hb6)
    have HX6 : Hid _ := hide (box_on HX4.out (box_old HY6.out))
    have HL6 : Hid _ := hide (HL4.out.below (box_old HY6.out))
    have HC6 : Hid _ := hide (box3 HY6.out)
    have HB6 : Hid _ := hide (box3 HX6.out)
    clear hb6 HY4 HX4 HL4
    have hbn := bne_bool (endB ⟨l, sent, got⟩)
    go_wp2_with fail
    go_region_held (fun x => x.cell? ⟨w4.heap.size, 0, none⟩ = some (.slice (some ⟨g4, 0, none⟩) l.length l.length) ∧ x.cell? ⟨w4.heap.size, 1, none⟩ = some (.int .i64 sent) ∧ x.cell? ⟨w4.heap.size, 2, none⟩ = some (.int .i64 got) ∧ x.cell? ⟨w.heap.size, 0, none⟩ = some (.slice a l.length ca) ∧ x.cell? ⟨w.heap.size, 1, none⟩ = some (.int .i64 sent) ∧ x.cell? ⟨w.heap.size, 2, none⟩ = some (.int .i64 got) ∧ Hid (Below w6.heap.size w6 x))
      (first | assumption | exact S6.of HC6.out HB6.out (Below.refl _ _).drew | exact S6.on (by assumption) (by assumption))
      (first
        | (go_at_call 10; refine (toEnd_any _ l _ _ _ _ n1 (HL.out.below (below_trans (box_old HX6.out) (by assumption : S6 w4.heap.size w.heap.size (.slice (some ⟨g4, 0, none⟩) l.length l.length) (.int .i64 sent) (.int .i64 got) (.slice a l.length ca) (.int .i64 sent) (.int .i64 got) w6 _).2.2.2.2.2.2.out))).mono ?_; rintro e w7 ⟨hb7, g7, rfl, hg7, ho7⟩)
        | (go_at_call 12; refine (eqEnd_any _ _ l _ _ _ _ _ n1 (HL6.out.below (by assumption : S6 w4.heap.size w.heap.size (.slice (some ⟨g4, 0, none⟩) l.length l.length) (.int .i64 sent) (.int .i64 got) (.slice a l.length ca) (.int .i64 sent) (.int .i64 got) w6 _).2.2.2.2.2.2.out) ho7.rows).mono ?_; rintro e w8 ⟨rfl, hb8⟩))
    have HE : Hid (Below w.heap.size w w8) := hide (below_trans (box_old HX6.out) (by assumption : S6 w4.heap.size w.heap.size (.slice (some ⟨g4, 0, none⟩) l.length l.length) (.int .i64 sent) (.int .i64 got) (.slice a l.length ca) (.int .i64 sent) (.int .i64 got) w6 w8).2.2.2.2.2.2.out)
    clear hb7 ho7 hg7 hb8
    go_wp2
    go_ret
    exact ⟨rfl, HE.out⟩
set_option maxRecDepth 100000 in
set_option maxHeartbeats 8000000 in
theorem walkOpenOf (a : Option Addr) (l : List Prc) (ca : Nat) (sent got : Int) (n : Int) (w : World) (hl : RowAt 2 prcCells w a l) (m1 : l.length ≤ maxLen) :
    Calls Try.prog 7 #[.agg #[.slice a l.length ca, .int .i64 sent, .int .i64 got], .int .i64 n] w fun e w' => YesEnd w e w' := by
  have HL : Hid _ := hide hl
  clear hl
  have HX0 : Hid (Below (w.heap.size + 1) (w.alloc (.cells #[.slice a l.length ca, .int .i64 sent, .int .i64 got] 24)) (w.alloc (.cells #[.slice a l.length ca, .int .i64 sent, .int .i64 got] 24))) := hide (Below.refl _ _)
  go_enter Try.func7, Try.ntmps7
  go_wp2_with fail
  refine (szEnd_any _ l.length _ _ _ _ _ m1 (by omega)).mono ?_
  rintro e w1 ⟨hb1, r, rfl, hr1, hr⟩
  have HX1 : Hid _ := hide (box_on HX0.out hb1)
  clear hb1 HX0
  obtain ⟨x0, x1, x2⟩ := box3 HX1.out
  by_cases q : r < 0
  · go_wp2
    go_ret
    exact ⟨rfl, box_old HX1.out⟩
  · have n1 : l.length ≤ 1048576 := by have := hr (by omega); omega
    clear hr
    go_wp2_with fail
    refine (toEnd_any _ l _ _ _ _ n1 (HL.out.below (box_old HX1.out))).mono ?_
    rintro e w2 ⟨hb2, g2, rfl, hg2, ho2⟩
    have HX2 : Hid _ := hide (box_on HX1.out hb2)
    have HL2 : Hid _ := hide ho2.rows
    clear hb2 ho2 hg2 HX1 x0 x1 x2
    go_wp2_with fail
    refine (specOpenOf_any _ l _ _ _ n _ n1 HL2.out).mono ?_
    rintro e w3 ⟨rfl, hb3⟩
    have HX3 : Hid _ := hide (box_on HX2.out hb3)
    clear hb3 HL2 HX2
    obtain ⟨x0, x1, x2⟩ := box3 HX3.out
    go_wp2_with fail
    refine (toEnd_any _ l _ _ _ _ n1 (HL.out.below (box_old HX3.out))).mono ?_
    rintro e w4 ⟨hb4, g4, rfl, hg4, ho4⟩
    have HX4 : Hid _ := hide (box_on HX3.out hb4)
    have HL4 : Hid _ := hide ho4.rows
    clear hb4 ho4 hg4 HX3 x0 x1 x2
    have HY4 : Hid (Below (w4.heap.size + 1) (w4.alloc (.cells #[.slice (some ⟨g4, 0, none⟩) l.length l.length, .int .i64 sent, .int .i64 got] 29)) (w4.alloc (.cells #[.slice (some ⟨g4, 0, none⟩) l.length l.length, .int .i64 sent, .int .i64 got] 29))) := hide (Below.refl _ _)
    go_wp2_with fail
    refine (implOpenOf_any _ l _ _ _ n _ n1 (HL4.out.below (box_old HY4.out))).mono ?_
    rintro e w6 ⟨rfl, hb6⟩
    have HY6 : Hid _ := hide (box_on HY4.out hb6)
    have HX6 : Hid _ := hide (box_on HX4.out (box_old HY6.out))
    have HL6 : Hid _ := hide (HL4.out.below (box_old HY6.out))
    have HC6 : Hid _ := hide (box3 HY6.out)
    have HB6 : Hid _ := hide (box3 HX6.out)
    clear hb6 HY4 HX4 HL4
    have hbn := bne_int (openOf ⟨l, sent, got⟩ n)
    go_wp2_with fail
    go_region_held (fun x => x.cell? ⟨w4.heap.size, 0, none⟩ = some (.slice (some ⟨g4, 0, none⟩) l.length l.length) ∧ x.cell? ⟨w4.heap.size, 1, none⟩ = some (.int .i64 sent) ∧ x.cell? ⟨w4.heap.size, 2, none⟩ = some (.int .i64 got) ∧ x.cell? ⟨w.heap.size, 0, none⟩ = some (.slice a l.length ca) ∧ x.cell? ⟨w.heap.size, 1, none⟩ = some (.int .i64 sent) ∧ x.cell? ⟨w.heap.size, 2, none⟩ = some (.int .i64 got) ∧ Hid (Below w6.heap.size w6 x))
      (first | assumption | exact S6.of HC6.out HB6.out (Below.refl _ _).drew | exact S6.on (by assumption) (by assumption))
      (first
        | (go_at_call 10; refine (toEnd_any _ l _ _ _ _ n1 (HL.out.below (below_trans (box_old HX6.out) (by assumption : S6 w4.heap.size w.heap.size (.slice (some ⟨g4, 0, none⟩) l.length l.length) (.int .i64 sent) (.int .i64 got) (.slice a l.length ca) (.int .i64 sent) (.int .i64 got) w6 _).2.2.2.2.2.2.out))).mono ?_; rintro e w7 ⟨hb7, g7, rfl, hg7, ho7⟩)
        | (go_at_call 12; refine (eqEnd_any _ _ l _ _ _ _ _ n1 (HL6.out.below (by assumption : S6 w4.heap.size w.heap.size (.slice (some ⟨g4, 0, none⟩) l.length l.length) (.int .i64 sent) (.int .i64 got) (.slice a l.length ca) (.int .i64 sent) (.int .i64 got) w6 _).2.2.2.2.2.2.out) ho7.rows).mono ?_; rintro e w8 ⟨rfl, hb8⟩))
    have HE : Hid (Below w.heap.size w w8) := hide (below_trans (box_old HX6.out) (by assumption : S6 w4.heap.size w.heap.size (.slice (some ⟨g4, 0, none⟩) l.length l.length) (.int .i64 sent) (.int .i64 got) (.slice a l.length ca) (.int .i64 sent) (.int .i64 got) w6 w8).2.2.2.2.2.2.out)
    clear hb7 ho7 hg7 hb8
    go_wp2
    go_ret
    exact ⟨rfl, HE.out⟩
end Go.Proofs.Ytjiiihmpcancbaa
