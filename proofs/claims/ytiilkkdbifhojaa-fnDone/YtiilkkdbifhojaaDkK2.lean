/- The contracts of the laws' markDOpS, heldFileS, heldDOpS. -/
import Derived.Test.YtiilkkdbifhojaaDkK1
namespace Go.Proofs.Ytiilkkdbifhojaa
open Go.ChangeShapes Go.WideShapes Go.ChangeAt Go.RowKit
set_option linter.unusedVariables false
set_option maxRecDepth 100000
def markDOpSEnd (q : Nat) (g : Nat) (a : Option Addr) (cap n : Nat) (w : World) (e : Ending) (w' : World) : Prop := e = .returned (.int .i64 ((q + 4 * n : Nat) : Int)) ∧ Chq (0 < n) g w w' ∧ OwnRow 4 dpCells w' g a cap (omarkL q n)
def HeldEnd (r : Nat) (w : World) (e : Ending) (w' : World) : Prop := e = .returned (.int .i64 ((r : Nat) : Int)) ∧ Below w.heap.size w w'
theorem fmark_row {q n : Nat} {a : Option Addr} {w : World} (h : RowAt 2 flCells w a (fmarkL q n)) (i : Nat) (hi : i < n) : ∃ b off, a = some ⟨b, off, none⟩ ∧ b < w.heap.size ∧ w.cell? ⟨b, off + i * 2, none⟩ = some (.string (mkT (q + 2 * i))) ∧ w.cell? ⟨b, off + i * 2 + 1, none⟩ = some (.string (mkT (q + 2 * i + 1))) := by
  obtain ⟨b, off, e, hb, c0, c1⟩ := fl_row h i (by rw [fmarkL_len]; exact hi)
  rw [fmarkL_get] at c0 c1
  exact ⟨b, off, e, hb, c0, c1⟩
theorem omark_row {q n : Nat} {a : Option Addr} {w : World} (h : RowAt 4 dpCells w a (omarkL q n)) (i : Nat) (hi : i < n) : ∃ b off, a = some ⟨b, off, none⟩ ∧ b < w.heap.size ∧ w.cell? ⟨b, off + i * 4, none⟩ = some (.int .i64 ((q + 4 * i : Nat) : Int)) ∧ w.cell? ⟨b, off + i * 4 + 1, none⟩ = some (.string (mkT (q + 4 * i + 1))) ∧ w.cell? ⟨b, off + i * 4 + 2, none⟩ = some (.string (mkT (q + 4 * i + 2))) ∧ w.cell? ⟨b, off + i * 4 + 3, none⟩ = some (.string (mkT (q + 4 * i + 3))) := by
  obtain ⟨b, off, e, hb, c0, c1, c2, c3⟩ := dp_row h i (by rw [omarkL_len]; exact hi)
  rw [omarkL_get] at c0 c1 c2 c3
  exact ⟨b, off, e, hb, c0, c1, c2, c3⟩
end Go.Proofs.Ytiilkkdbifhojaa
