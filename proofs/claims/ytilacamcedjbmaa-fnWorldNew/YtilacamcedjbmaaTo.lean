/- The contracts of the laws' helpers over slots: szSlotS, toSlotS, toMove, eqSlotS, markSlotS, heldSlotS. -/
import Derived.Test.YtilacamcedjbmaaOk
import Derived.Test.YtilacamcedjbmaaRow
namespace Go.Proofs.Ytilacamcedjbmaa
open Go.ChangeShapes Go.WideShapes Go.ChangeAt Go.RowKit
set_option linter.unusedVariables false
def YesEnd (w : World) (e : Ending) (w' : World) : Prop := e = .returned (.bool true) ∧ Below w.heap.size w w'
/-- some number, at most what was left -/
def SzEnd (left : Int) (n : Nat) (w : World) (e : Ending) (w' : World) : Prop := w' = w ∧ ∃ r : Int, e = .returned (.int .i64 r) ∧ -1 ≤ r ∧ (0 ≤ r → r + n ≤ left)
theorem info51 : (Try.prog.info? 37).map (fun i => (i.zero, i.size, i.bytes)) = some (some (.agg #[.int .i64 0, .int .i64 0, .int .i64 0]), 3, 24) := by kernel_rfl
/-- a row of the call's own that reads as the list -/
def ToSlots (l : List Slt) (w : World) (e : Ending) (w' : World) : Prop := Below w.heap.size w w' ∧ ∃ g, (w.heap.size ≤ g ∧ g < w'.heap.size) ∧ e = .returned (.slice (some ⟨g, 0, none⟩) l.length l.length) ∧ OwnRow 3 sltCells w' g (some ⟨g, 0, none⟩) l.length l ∧ SlotAt w' (some ⟨g, 0, none⟩) l
theorem slt_row {w : World} {a : Option Addr} {l : List Slt} (h : RowAt 3 sltCells w a l) (i : Nat) (hi : i < l.length) : ∃ b off, a = some ⟨b, off, none⟩ ∧ b < w.heap.size ∧ w.cell? ⟨b, off + i * 3, none⟩ = some (.int .i64 l[i].id) ∧ w.cell? ⟨b, off + i * 3 + 1, none⟩ = some (.int .i64 l[i].up) ∧ w.cell? ⟨b, off + i * 3 + 2, none⟩ = some (.int .i64 l[i].has) := by
  obtain ⟨b, off, e, hb, hc⟩ := h i hi
  exact ⟨b, off, e, hb, hc 0 _ rfl, hc 1 _ rfl, hc 2 _ rfl⟩
/-- the list that mark leaves: counted on from q -/
def markL (q : Int) (n : Nat) : List Slt := (List.range n).map fun (i : Nat) => ⟨q + 3 * (i : Int), q + 3 * (i : Int) + 1, q + 3 * (i : Int) + 2⟩
theorem markL_len (q : Int) (n : Nat) : (markL q n).length = n := by simp [markL]
theorem markL_at (q : Int) (n : Nat) (i : Nat) (h : i < n) : (markL q n)[i]? = some ⟨q + 3 * (i : Int), q + 3 * (i : Int) + 1, q + 3 * (i : Int) + 2⟩ := by
  simp [markL, List.getElem?_range h]
theorem markL_get (q : Int) (n : Nat) (i : Nat) (h : i < (markL q n).length) : (markL q n)[i] = ⟨q + 3 * (i : Int), q + 3 * (i : Int) + 1, q + 3 * (i : Int) + 2⟩ := by
  have := markL_at q n i (by simpa [markL_len] using h)
  rw [List.getElem?_eq_getElem h] at this
  simpa using this
def MarkEnd (q : Int) (g : Nat) (a : Option Addr) (cap n : Nat) (w : World) (e : Ending) (w' : World) : Prop := e = .returned (.int .i64 (q + 3 * (n : Int))) ∧ Turned g w w' ∧ OwnRow 3 sltCells w' g a cap (markL q n)
theorem mark_row {w : World} {a : Option Addr} {q : Int} {n : Nat} (h : RowAt 3 sltCells w a (markL q n)) (i : Nat) (hi : i < n) : ∃ b off, a = some ⟨b, off, none⟩ ∧ b < w.heap.size ∧ w.cell? ⟨b, off + i * 3, none⟩ = some (.int .i64 (q + 3 * (i : Int))) ∧ w.cell? ⟨b, off + i * 3 + 1, none⟩ = some (.int .i64 (q + 3 * (i : Int) + 1)) ∧ w.cell? ⟨b, off + i * 3 + 2, none⟩ = some (.int .i64 (q + 3 * (i : Int) + 2)) := by
  have hi' : i < (markL q n).length := by rw [markL_len]; exact hi
  have := slt_row h i hi'
  rw [markL_get q n i hi'] at this
  exact this
end Go.Proofs.Ytilacamcedjbmaa
