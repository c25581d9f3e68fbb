/- The walks of the laws over a world: what they share. -/
import Derived.Test.YtpfghmghlklhgaaWTo
import Derived.Test.YtpfghmghlklhgaaSW5
namespace Go.Proofs.Ytpfghmghlklhgaa
open Go.ChangeShapes Go.WideShapes Go.ChangeAt Go.RowKit
set_option linter.unusedVariables false
set_option maxRecDepth 100000
def S6w (A B : Nat) (p0 p1 p2 q0 q1 q2 : Value) (W0 x : World) : Prop := x.cell? ⟨A, 0, none⟩ = some (p0) ∧ x.cell? ⟨A, 1, none⟩ = some (p1) ∧ x.cell? ⟨A, 2, none⟩ = some (p2) ∧ x.cell? ⟨B, 0, none⟩ = some (q0) ∧ x.cell? ⟨B, 1, none⟩ = some (q1) ∧ x.cell? ⟨B, 2, none⟩ = some (q2) ∧ Hid (Below W0.heap.size W0 x)
theorem S6w.of {A B : Nat} {p0 p1 p2 q0 q1 q2 : Value} {W0 x : World} (h : Blk A [p0, p1, p2] W0) (k : Blk B [q0, q1, q2] W0) (b : Below W0.heap.size W0 x) : S6w A B p0 p1 p2 q0 q1 q2 W0 x :=
  ⟨(h.below b).c 0 _ rfl, (h.below b).c 1 _ rfl, (h.below b).c 2 _ rfl, (k.below b).c 0 _ rfl, (k.below b).c 1 _ rfl, (k.below b).c 2 _ rfl, hide b⟩
theorem S6w.on {A B : Nat} {p0 p1 p2 q0 q1 q2 : Value} {W0 x y : World} (h : S6w A B p0 p1 p2 q0 q1 q2 W0 x) (b : Below x.heap.size x y) : S6w A B p0 p1 p2 q0 q1 q2 W0 y :=
  ⟨below_keeps b _ _ h.1, below_keeps b _ _ h.2.1, below_keeps b _ _ h.2.2.1, below_keeps b _ _ h.2.2.2.1, below_keeps b _ _ h.2.2.2.2.1, below_keeps b _ _ h.2.2.2.2.2.1, hide (below_trans h.2.2.2.2.2.2.out b)⟩
theorem S6w.old {A B : Nat} {p0 p1 p2 q0 q1 q2 : Value} {W0 x : World} (h : S6w A B p0 p1 p2 q0 q1 q2 W0 x) : Below W0.heap.size W0 x := h.2.2.2.2.2.2.out
/-- a world as it comes -/
def WorldIn (w : World) (na : Option Addr) (l : List Nd) (ma : Option Addr) (ms : List Mg) : Prop := NodesAt w na l ∧ RowAt 5 mgCells w ma ms ∧ l.length ≤ maxLen ∧ ms.length ≤ maxLen ∧ ∀ n ∈ l, LimN n
theorem eqWorld4 (st : Int) (l l4 l7 : List Nd) (ms : List Mg) (hm : SmW l ms) (hd : l4.map Nd.d = l.map Nd.d) (hd' : l7.map Nd.d = l.map Nd.d) (na na' ma ma' : Option Addr) (nc nc' mc mc' : Nat) (w : World) (h1 : NodesAt w na l4) (h1' : NodesAt w na' l7) (h2 : RowAt 5 mgCells w ma ms) (h2' : RowAt 5 mgCells w ma' ms) :
    Calls Try.prog 17 #[.agg #[.int .i64 st, .slice na l.length nc, .slice ma ms.length mc], .agg #[.int .i64 st, .slice na' l.length nc', .slice ma' ms.length mc']] w fun e w' => YesEnd w e w' := by
  have t := eqWorld_any st l4 l7 ms na na' ma ma' nc nc' mc mc' w ⟨smNs_same hd hm.1, hm.2⟩ (hd'.trans hd.symm) h1 h1' h2 h2'
  rwa [samen_len hd] at t
end Go.Proofs.Ytpfghmghlklhgaa
