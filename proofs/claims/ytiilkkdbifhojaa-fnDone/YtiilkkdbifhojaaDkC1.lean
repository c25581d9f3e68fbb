/- Crash as data: the places that are kept, the torn operation, what is left. -/
import Derived.Test.YtiilkkdbifhojaaDkS5
namespace Go.Proofs.Ytiilkkdbifhojaa
open Go.ChangeShapes Go.WideShapes Go.ChangeAt Go.RowKit
set_option linter.unusedVariables false
set_option maxRecDepth 100000
def i64Cells (n : Int) : List Value := [.int .i64 n]
theorem i64Len (x : Int) : (i64Cells x).length = 1 := rfl
/-- one place: within, and beyond the place before it -/
def plB (keep : List Int) (many : Nat) (k : Nat) : Bool := match keep[k]? with
  | none => false
  | some n => inB 0 ((many : Int) - 1) n && (match k with
    | 0 => true
    | m + 1 => match keep[m]? with
      | none => false
      | some p => decide (p < n))
theorem pl_row {w : World} {a : Option Addr} {l : List Int} (h : RowAt 1 i64Cells w a l) (i : Nat) (hi : i < l.length) : ∃ b off, a = some ⟨b, off, none⟩ ∧ b < w.heap.size ∧ w.cell? ⟨b, off + i, none⟩ = some (.int .i64 l[i]) := by
  obtain ⟨b, off, e, hb, hc⟩ := h i hi
  exact ⟨b, off, e, hb, by have := hc 0 (.int .i64 l[i]) rfl; simpa using this⟩
theorem pl_zero {keep : List Int} {many : Nat} (h : 0 < keep.length) : plB keep many 0 = inB 0 ((many : Int) - 1) keep[0] := by simp [plB, List.getElem?_eq_getElem h]
theorem pl_succ {keep : List Int} {many k : Nat} (h : k + 1 < keep.length) : plB keep many (k + 1) = (inB 0 ((many : Int) - 1) keep[k + 1] && decide (keep[k] < keep[k + 1])) := by
  simp [plB, List.getElem?_eq_getElem h, List.getElem?_eq_getElem (show k < keep.length by omega)]
def placesB (keep : List Int) (many : Nat) : Bool := allTo (plB keep many) keep.length
/-- the operation at a place, torn where it is the last and an append -/
def tornO (torn : Int) (o : Dp) : Dp := if o.kind = 1 ∧ torn < (o.da.size : Int) then { o with da := o.da.extract 0 torn.toNat } else o
def keptL (ops : List Dp) : List Int → List Dp
  | [] => []
  | n :: t => match ops[n.toNat]? with
    | none => keptL ops t
    | some o => o :: keptL ops t
/-- one after another, whatever each finds -/
def goL (l : List Fl) (os : List Dp) : List Fl := os.foldl (fun l o => (doL l o).1) l
theorem goL_next (l : List Fl) (os : List Dp) (k : Nat) (h : k < os.length) : goL l (os.take (k + 1)) = (doL (goL l (os.take k)) os[k]).1 := by
  unfold goL
  rw [List.take_add_one, List.getElem?_eq_getElem h, List.foldl_append]
  rfl
end Go.Proofs.Ytiilkkdbifhojaa
