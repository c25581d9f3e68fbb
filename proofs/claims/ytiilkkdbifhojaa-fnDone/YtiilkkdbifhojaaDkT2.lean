/- The contracts of the laws' toFile, toDOp, toFileS, toDOpS, toDisk. -/
import Derived.Test.YtiilkkdbifhojaaDkT1
namespace Go.Proofs.Ytiilkkdbifhojaa
open Go.ChangeShapes Go.WideShapes Go.ChangeAt Go.RowKit
set_option linter.unusedVariables false
set_option maxRecDepth 100000
theorem infoO : (Try.prog.info? 36).map (fun i => (i.zero, i.size, i.bytes)) = some (some (.agg #[.int .i64 0, .string ByteArray.empty, .string ByteArray.empty, .string ByteArray.empty]), 4, 56) := by kernel_rfl
theorem huO : Try.prog.underlying 25 = some (.slice 36) := by kernel_rfl
/-- a row of the call's own that reads as the list -/
def ToRow {A : Type} (sz : Nat) (f : A → List Value) (l : List A) (w : World) (g : Nat) (w' : World) : Prop := (w.heap.size ≤ g ∧ g < w'.heap.size) ∧ OwnRow sz f w' g (some ⟨g, 0, none⟩) l.length l
theorem ToRow.below {A : Type} {sz : Nat} {f : A → List Value} {l : List A} {w x y : World} {g : Nat} (h : ToRow sz f l w g x) (b : Below x.heap.size x y) : ToRow sz f l w g y := ⟨⟨h.1.1, Nat.lt_of_lt_of_le h.1.2 b.size⟩, h.2.below b⟩
def ToS {A : Type} (sz : Nat) (f : A → List Value) (l : List A) (w : World) (e : Ending) (w' : World) : Prop := Below w.heap.size w w' ∧ ∃ g, e = .returned (.slice (some ⟨g, 0, none⟩) l.length l.length) ∧ ToRow sz f l w g w'
end Go.Proofs.Ytiilkkdbifhojaa
