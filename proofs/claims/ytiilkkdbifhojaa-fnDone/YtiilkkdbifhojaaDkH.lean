/- What the walks of the laws of disks carry on. -/
import Derived.Test.YtiilkkdbifhojaaDkT4
import Derived.Test.YtiilkkdbifhojaaDkI9
namespace Go.Proofs.Ytiilkkdbifhojaa
open Go.ChangeShapes Go.WideShapes Go.ChangeAt Go.RowKit
set_option linter.unusedVariables false
set_option maxRecDepth 100000
def YesEnd (w : World) (e : Ending) (w' : World) : Prop := e = .returned (.bool true) ∧ Below w.heap.size w w'
theorem bne_bool (b : Bool) : (b != b) = false := by cases b <;> rfl
theorem Sms.f {l : List Fl} (h : Sms SmF1 l) : SmF l := h.2
abbrev S6d (A B : Nat) (p0 p1 p2 q0 q1 q2 : Value) (W x : World) : Prop := x.cell? ⟨A, 0, none⟩ = some p0 ∧ x.cell? ⟨A, 1, none⟩ = some p1 ∧ x.cell? ⟨A, 2, none⟩ = some p2 ∧ x.cell? ⟨B, 0, none⟩ = some q0 ∧ x.cell? ⟨B, 1, none⟩ = some q1 ∧ x.cell? ⟨B, 2, none⟩ = some q2 ∧ Hid (Below W.heap.size W x)
theorem S6d.of {A B : Nat} {p0 p1 p2 q0 q1 q2 : Value} {W x : World} (h : Blk A [p0, p1, p2] W) (k : Blk B [q0, q1, q2] W) (b : Below W.heap.size W x) : S6d A B p0 p1 p2 q0 q1 q2 W x :=
  ⟨(h.below b).c 0 _ rfl, (h.below b).c 1 _ rfl, (h.below b).c 2 _ rfl, (k.below b).c 0 _ rfl, (k.below b).c 1 _ rfl, (k.below b).c 2 _ rfl, hide b⟩
theorem S6d.on {A B : Nat} {p0 p1 p2 q0 q1 q2 : Value} {W x y : World} (h : S6d A B p0 p1 p2 q0 q1 q2 W x) (b : Below x.heap.size x y) : S6d A B p0 p1 p2 q0 q1 q2 W y :=
  ⟨below_keeps b _ _ h.1, below_keeps b _ _ h.2.1, below_keeps b _ _ h.2.2.1, below_keeps b _ _ h.2.2.2.1, below_keeps b _ _ h.2.2.2.2.1, below_keeps b _ _ h.2.2.2.2.2.1, hide (below_trans h.2.2.2.2.2.2.out b)⟩
theorem S6d.old {A B : Nat} {p0 p1 p2 q0 q1 q2 : Value} {W x : World} (h : S6d A B p0 p1 p2 q0 q1 q2 W x) : Below W.heap.size W x := h.2.2.2.2.2.2.out
end Go.Proofs.Ytiilkkdbifhojaa
