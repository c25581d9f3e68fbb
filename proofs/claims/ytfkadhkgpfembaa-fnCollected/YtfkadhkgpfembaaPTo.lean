/- The contracts of the laws' helpers over lists of numbers: eqInt64S, markInt64S, heldInt64S. -/
import Derived.Test.YtfkadhkgpfembaaMov
namespace Go.Proofs.Ytfkadhkgpfembaa
open Go.ChangeShapes Go.WideShapes Go.ChangeAt Go.RowKit
set_option linter.unusedVariables false
def intCells (x : Int) : List Value := [.int .i64 x]
theorem intLen (x : Int) : (intCells x).length = 1 := rfl
theorem int_one (l : List Int) : ∀ u ∈ l.flatMap intCells, u.oneCell' = true := fun u hu => by
  obtain ⟨x, _, hx⟩ := List.mem_flatMap.1 hu
  simp only [intCells, List.mem_cons, List.not_mem_nil, or_false] at hx
  rcases hx with rfl; rfl
theorem int_row {w : World} {a : Option Addr} {l : List Int} (h : RowAt 1 intCells w a l) (i : Nat) (hi : i < l.length) : ∃ b off, a = some ⟨b, off, none⟩ ∧ b < w.heap.size ∧ w.cell? ⟨b, off + i, none⟩ = some (.int .i64 l[i]) := by
  obtain ⟨b, off, e, hb, hc⟩ := h i hi
  have := hc 0 _ rfl
  rw [Nat.mul_one, Nat.add_zero] at this
  exact ⟨b, off, e, hb, this⟩
def imarkL (q : Int) (n : Nat) : List Int := (List.range n).map fun (i : Nat) => q + (i : Int)
theorem imarkL_len (q : Int) (n : Nat) : (imarkL q n).length = n := by simp [imarkL]
theorem imarkL_at (q : Int) (n : Nat) (i : Nat) (h : i < n) : (imarkL q n)[i]? = some (q + (i : Int)) := by
  simp [imarkL, List.getElem?_range h]
theorem imarkL_get (q : Int) (n : Nat) (i : Nat) (h : i < (imarkL q n).length) : (imarkL q n)[i] = q + (i : Int) := by
  simp [imarkL]
def IMarkEnd (q : Int) (g : Nat) (a : Option Addr) (cap n : Nat) (w : World) (e : Ending) (w' : World) : Prop := e = .returned (.int .i64 (q + (n : Int))) ∧ Turned g w w' ∧ OwnRow 1 intCells w' g a cap (imarkL q n)
theorem imark_row {w : World} {a : Option Addr} {q : Int} {n : Nat} (h : RowAt 1 intCells w a (imarkL q n)) (i : Nat) (hi : i < n) : ∃ b off, a = some ⟨b, off, none⟩ ∧ b < w.heap.size ∧ w.cell? ⟨b, off + i, none⟩ = some (.int .i64 (q + (i : Int))) := by
  have hi' : i < (imarkL q n).length := by rw [imarkL_len]; exact hi
  have := int_row h i hi'
  rw [imarkL_get q n i hi'] at this
  exact this
end Go.Proofs.Ytfkadhkgpfembaa
