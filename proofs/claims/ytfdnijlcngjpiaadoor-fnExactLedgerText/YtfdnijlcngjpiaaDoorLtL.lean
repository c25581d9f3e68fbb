/- The walk of the law on a ledger's text. -/
import Derived.Test.YtfdnijlcngjpiaaDoorLtS
import Derived.Test.YtfdnijlcngjpiaaDoorLtI
import Derived.Test.YtfdnijlcngjpiaaDoorTo
import Derived.Test.YtfdnijlcngjpiaaDoorEq
namespace Go.Proofs.YtfdnijlcngjpiaaDoor
open Go.ChangeShapes Go.WideShapes Go.ChangeAt Go.RowKit Go.Maps
set_option linter.unusedVariables false
def S6 (A B : Nat) (p0 p1 p2 q0 q1 q2 : Value) (W0 x : World) : Prop := x.cell? ⟨A, 0, none⟩ = some p0 ∧ x.cell? ⟨A, 1, none⟩ = some p1 ∧ x.cell? ⟨A, 2, none⟩ = some p2 ∧ x.cell? ⟨B, 0, none⟩ = some q0 ∧ x.cell? ⟨B, 1, none⟩ = some q1 ∧ x.cell? ⟨B, 2, none⟩ = some q2 ∧ Hid (Below W0.heap.size W0 x)
theorem S6.of {A B : Nat} {p0 p1 p2 q0 q1 q2 : Value} {W0 x : World} (h : W0.cell? ⟨A, 0, none⟩ = some p0 ∧ W0.cell? ⟨A, 1, none⟩ = some p1 ∧ W0.cell? ⟨A, 2, none⟩ = some p2) (k : W0.cell? ⟨B, 0, none⟩ = some q0 ∧ W0.cell? ⟨B, 1, none⟩ = some q1 ∧ W0.cell? ⟨B, 2, none⟩ = some q2) (b : Below W0.heap.size W0 x) : S6 A B p0 p1 p2 q0 q1 q2 W0 x :=
  ⟨below_keeps b _ _ h.1, below_keeps b _ _ h.2.1, below_keeps b _ _ h.2.2, below_keeps b _ _ k.1, below_keeps b _ _ k.2.1, below_keeps b _ _ k.2.2, hide b⟩
theorem S6.on {A B : Nat} {p0 p1 p2 q0 q1 q2 : Value} {W0 x y : World} (h : S6 A B p0 p1 p2 q0 q1 q2 W0 x) (b : Below x.heap.size x y) : S6 A B p0 p1 p2 q0 q1 q2 W0 y :=
  ⟨below_keeps b _ _ h.1, below_keeps b _ _ h.2.1, below_keeps b _ _ h.2.2.1, below_keeps b _ _ h.2.2.2.1, below_keeps b _ _ h.2.2.2.2.1, below_keeps b _ _ h.2.2.2.2.2.1, hide (below_trans h.2.2.2.2.2.2.out b)⟩
theorem bne_str (l : List UInt8) : ((bs l).toList != (bs l).toList) = false := by simp
set_option maxRecDepth 100000 in
set_option maxHeartbeats 8000000 in
theorem walkLedgerText (a h s : Option Addr) (L : Led) (ca ch cs : Nat) (t : TypeId) (v : Value) (w : World) (hl : LedAt w a h s L) (hg : w.cell? ⟨3, 0, none⟩ = some (.iface t v)) (hT : Tab w) (m1 : L.acc.length ≤ maxLen) (m2 : L.hold.length ≤ maxLen) (m3 : L.seen.length ≤ maxLen) :
    Calls Tryd.prog 4 #[.agg #[.slice a L.acc.length ca, .slice h L.hold.length ch, .slice s L.seen.length cs]] w fun e w' => YesEnd w e w' := by
  have HL : Hid _ := hide hl
  have HG : Hid _ := hide hg
  have HT : Hid _ := hide hT
  clear hl hg hT
  have HX0 : Hid (Below (w.heap.size + 1) (w.alloc (.cells #[.slice a L.acc.length ca, .slice h L.hold.length ch, .slice s L.seen.length cs] 33)) (w.alloc (.cells #[.slice a L.acc.length ca, .slice h L.hold.length ch, .slice s L.seen.length cs] 33))) := hide (Below.refl _ _)
  go_enter Tryd.func4, Tryd.ntmps4
  go_wp2_with fail
  refine (szLedger_any _ _ _ L _ _ _ _ (HL.out.below (box_old HX0.out)) m1 m2 m3).mono ?_
  rintro e w1 ⟨hb1, r, rfl, hr⟩
  have HX1 : Hid _ := hide (box_on HX0.out hb1)
  clear hb1
  obtain ⟨x0, x1, x2⟩ := box26 HX1.out
  by_cases q : r < 0
  · go_wp2
    go_ret
    exact ⟨rfl, box_old HX1.out⟩
  · obtain ⟨n1, n2, n3⟩ := hr (by omega)
    clear hr
    go_wp2_with fail
    refine (toLedger_any _ _ _ L _ _ _ _ (HL.out.below (box_old HX1.out)) n1 n2 n3).mono ?_
    rintro e w2 ⟨hb2, a2, h2, s2, rfl, hl2⟩
    have HX2 : Hid _ := hide (box_on HX1.out hb2)
    have HL2 : Hid _ := hide hl2
    clear hb2 hl2 x0 x1 x2
    go_wp2_with fail
    refine (specLedText_any _ _ _ L _ _ _ _ HL2.out n1 n2 n3).mono ?_
    rintro e w3 ⟨rfl, hb3⟩
    have HX3 : Hid _ := hide (box_on HX2.out hb3)
    clear hb3 HL2
    obtain ⟨x0, x1, x2⟩ := box26 HX3.out
    go_wp2_with fail
    refine (toLedger_any _ _ _ L _ _ _ _ (HL.out.below (box_old HX3.out)) n1 n2 n3).mono ?_
    rintro e w4 ⟨hb4, a4, h4, s4, rfl, hl4⟩
    have HX4 : Hid _ := hide (box_on HX3.out hb4)
    have HL4 : Hid _ := hide hl4
    clear hb4 hl4 x0 x1 x2
    have HX5 : Hid (Below (w.heap.size + 1) (w.alloc (.cells #[.slice a L.acc.length ca, .slice h L.hold.length ch, .slice s L.seen.length cs] 33)) (w4.alloc (.cells #[.slice a4 L.acc.length L.acc.length, .slice h4 L.hold.length L.hold.length, .slice s4 L.seen.length L.seen.length] 40))) := hide (box_on HX4.out (below_alloc (Below.refl _ _) _))
    go_wp2_with fail
    refine (implLedText_any _ _ _ L _ _ _ t v _ (HL4.out.below (below_alloc (Below.refl _ _) _)) (below_keeps (box_old HX5.out) _ _ HG.out) (HT.out.below (box_old HX5.out)) n1 n2 n3).mono ?_
    rintro e w6 ⟨rfl, hb6⟩
    have HX6 : Hid _ := hide (box_on HX5.out hb6)
    have HC6 : Hid _ := hide (box33 hb6)
    have HB6 : Hid _ := hide (box26 HX6.out)
    have HL6 : Hid _ := hide ((HL4.out.below (below_alloc (Below.refl _ _) _)).below hb6)
    clear hb6
    have hbn := bne_str (ledT L)
    go_wp2_with fail
    go_region_held (fun x => x.cell? ⟨w4.heap.size, 0, none⟩ = some (.slice a4 L.acc.length L.acc.length) ∧ x.cell? ⟨w4.heap.size, 1, none⟩ = some (.slice h4 L.hold.length L.hold.length) ∧ x.cell? ⟨w4.heap.size, 2, none⟩ = some (.slice s4 L.seen.length L.seen.length) ∧ x.cell? ⟨w.heap.size, 0, none⟩ = some (.slice a L.acc.length ca) ∧ x.cell? ⟨w.heap.size, 1, none⟩ = some (.slice h L.hold.length ch) ∧ x.cell? ⟨w.heap.size, 2, none⟩ = some (.slice s L.seen.length cs) ∧ Hid (Below w6.heap.size w6 x))
      (first | assumption | exact S6.of HC6.out HB6.out (Below.refl _ _).drew | exact S6.on (by assumption) (by assumption))
      (first
        | (go_at_call 11; refine (toLedger_any _ _ _ L _ _ _ _ (HL.out.below (below_trans (box_old HX6.out) (by assumption : S6 w4.heap.size w.heap.size (.slice a4 L.acc.length L.acc.length) (.slice h4 L.hold.length L.hold.length) (.slice s4 L.seen.length L.seen.length) (.slice a L.acc.length ca) (.slice h L.hold.length ch) (.slice s L.seen.length cs) w6 _).2.2.2.2.2.2.out)) n1 n2 n3).mono ?_; rintro e w7 ⟨hb7, a7, h7, s7, rfl, hl7⟩)
        | (go_at_call 13; refine (eqLedger_any a4 h4 s4 a7 h7 s7 L _ _ _ _ _ _ _ (HL6.out.below (by assumption : S6 w4.heap.size w.heap.size (.slice a4 L.acc.length L.acc.length) (.slice h4 L.hold.length L.hold.length) (.slice s4 L.seen.length L.seen.length) (.slice a L.acc.length ca) (.slice h L.hold.length ch) (.slice s L.seen.length cs) w6 _).2.2.2.2.2.2.out) hl7 n1 n2 n3).mono ?_; rintro e w8 ⟨rfl, hb8⟩))
    have HE : Hid (Below w.heap.size w w8) := hide (below_trans (box_old HX6.out) (by assumption : S6 w4.heap.size w.heap.size (.slice a4 L.acc.length L.acc.length) (.slice h4 L.hold.length L.hold.length) (.slice s4 L.seen.length L.seen.length) (.slice a L.acc.length ca) (.slice h L.hold.length ch) (.slice s L.seen.length cs) w6 w8).2.2.2.2.2.2.out)
    clear hb7 hl7 hb8
    go_wp2
    go_ret
    exact ⟨rfl, HE.out⟩
end Go.Proofs.YtfdnijlcngjpiaaDoor
