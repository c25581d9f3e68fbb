/- The contracts of SumOf and HasOf, of the program and of its model. -/
import Derived.Test.YthlnfomhbnpcoaaSOk
namespace Go.Proofs.Ythlnfomhbnpcoaa
open Go.ChangeShapes Go.WideShapes Go.ChangeAt Go.RowKit
set_option linter.unusedVariables false
def sumOf (l : List Slt) : Int := if rightsB l then sumL l else -1
def hasOf (l : List Slt) (id : Int) : Int := if rightsB l then (match l.find? (fun s => s.id == id) with | some s => s.has | none => -1) else -1
theorem find_at {l : List Slt} {id : Int} {i : Nat} (h : i < l.length) (hp : posL l id = (i : Int)) : l.find? (fun s => s.id == id) = some l[i] := by
  by_cases hf : l.findIdx (fun s => s.id == id) < l.length
  · have e : l.findIdx (fun s => s.id == id) = i := by
      rw [posL, if_pos hf] at hp; omega
    rw [List.find?_eq_getElem?_findIdx, e, List.getElem?_eq_getElem h]
  · rw [posL, if_neg hf] at hp; omega
theorem find_none {l : List Slt} {id : Int} (hn : ∀ j (hj : j < l.length), l[j].id ≠ id) : l.find? (fun s => s.id == id) = none := by
  rw [List.find?_eq_none]
  intro x hx
  obtain ⟨i, hi, rfl⟩ := List.getElem_of_mem hx
  simpa using hn i hi
end Go.Proofs.Ythlnfomhbnpcoaa
