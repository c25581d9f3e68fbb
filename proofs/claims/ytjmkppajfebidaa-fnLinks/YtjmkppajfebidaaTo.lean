/- The contracts of the laws' helpers over ends: szEnd, toEnd, toParcel, eqEnd, eqParcel, markEnd, heldEnd. -/
import Derived.Test.YtjmkppajfebidaaOk
namespace Go.Proofs.Ytjmkppajfebidaa
open Go.ChangeShapes Go.WideShapes Go.ChangeAt Go.RowKit
set_option linter.unusedVariables false
def YesEnd (w : World) (e : Ending) (w' : World) : Prop := e = .returned (.bool true) ∧ Below w.heap.size w w'
def SzEnd (left : Int) (n : Nat) (w : World) (e : Ending) (w' : World) : Prop := Below w.heap.size w w' ∧ ∃ r : Int, e = .returned (.int .i64 r) ∧ -1 ≤ r ∧ (0 ≤ r → r + n ≤ left)
theorem info34 : (Try.prog.info? 30).map (fun i => (i.zero, i.size, i.bytes)) = some (some (.agg #[.int .i64 0, .int .i64 0]), 2, 16) := by kernel_rfl
/-- a row of the call's own that reads as the list -/
def ToRow (l : List Prc) (w : World) (g : Nat) (w' : World) : Prop := (w.heap.size ≤ g ∧ g < w'.heap.size) ∧ OwnRow 2 prcCells w' g (some ⟨g, 0, none⟩) l.length l
def ToParcels (l : List Prc) (w : World) (e : Ending) (w' : World) : Prop := Below w.heap.size w w' ∧ ∃ g, e = .returned (.slice (some ⟨g, 0, none⟩) l.length l.length) ∧ ToRow l w g w'
theorem new_block {w x : World} {v0 v1 v2 : Value} {T : TypeId} (h : Below (w.heap.size + 1) (w.alloc (.cells #[v0, v1, v2] T)) x) : (x.cell? ⟨w.heap.size, 0, none⟩ = some v0 ∧ x.cell? ⟨w.heap.size, 1, none⟩ = some v1 ∧ x.cell? ⟨w.heap.size, 2, none⟩ = some v2) ∧ ∀ j, x.frozen? ⟨w.heap.size, j, none⟩ = false :=
  ⟨box3 h, fun j => (h.frozen (by show w.heap.size < w.heap.size + 1; omega)).trans (frozen_of_block (cur := #[v0, v1, v2]) (e := T) (by show (w.heap.push _)[w.heap.size]? = _; simp) j)⟩
def ToEnd (l : List Prc) (sent got : Int) (w : World) (e : Ending) (w' : World) : Prop := Below w.heap.size w w' ∧ ∃ g, e = .returned (.agg #[.slice (some ⟨g, 0, none⟩) l.length l.length, .int .i64 sent, .int .i64 got]) ∧ ToRow l w g w'
/-- the list that mark leaves: counted on from q -/
def markL (q : Int) (n : Nat) : List Prc := (List.range n).map fun (i : Nat) => ⟨q + 2 * (i : Int), q + 2 * (i : Int) + 1⟩
theorem markL_len (q : Int) (n : Nat) : (markL q n).length = n := by simp [markL]
theorem markL_at (q : Int) (n : Nat) (i : Nat) (h : i < n) : (markL q n)[i]? = some ⟨q + 2 * (i : Int), q + 2 * (i : Int) + 1⟩ := by
  simp [markL, List.getElem?_range h]
theorem markL_get (q : Int) (n : Nat) (i : Nat) (h : i < (markL q n).length) : (markL q n)[i] = ⟨q + 2 * (i : Int), q + 2 * (i : Int) + 1⟩ := by
  have := markL_at q n i (by simpa [markL_len] using h)
  rw [List.getElem?_eq_getElem h] at this
  simpa using this
def MarkRow (q : Int) (g : Nat) (a : Option Addr) (cap n : Nat) (w : World) (e : Ending) (w' : World) : Prop := e = .returned (.int .i64 (q + 2 * (n : Int))) ∧ Turned g w w' ∧ OwnRow 2 prcCells w' g a cap (markL q n)
theorem mark_row {w : World} {a : Option Addr} {q : Int} {n : Nat} (h : RowAt 2 prcCells w a (markL q n)) (i : Nat) (hi : i < n) : ∃ b off, a = some ⟨b, off, none⟩ ∧ b < w.heap.size ∧ w.cell? ⟨b, off + i * 2, none⟩ = some (.int .i64 (q + 2 * (i : Int))) ∧ w.cell? ⟨b, off + i * 2 + 1, none⟩ = some (.int .i64 (q + 2 * (i : Int) + 1)) := by
  have hi' : i < (markL q n).length := by rw [markL_len]; exact hi
  have := prc_row h i hi'
  rw [markL_get q n i hi'] at this
  exact this
/-- marked: a box is laid, and one block turns -/
def MarkEnd (q : Int) (g : Nat) (a : Option Addr) (cap n : Nat) (w : World) (e : Ending) (w' : World) : Prop := e = .returned (.int .i64 (q + 2 * (n : Int))) ∧ OwnRow 2 prcCells w' g a cap (markL q n) ∧ ∃ w1, Below w.heap.size w w1 ∧ Turned g w1 w'
end Go.Proofs.Ytjmkppajfebidaa
