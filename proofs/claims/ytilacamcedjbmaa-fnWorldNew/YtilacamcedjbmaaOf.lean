/- The contracts of SumOf and HasOf, of the program and of its model. -/
import Derived.Test.YtilacamcedjbmaaSOk
namespace Go.Proofs.Ytilacamcedjbmaa
open Go.ChangeShapes Go.WideShapes Go.ChangeAt Go.RowKit
set_option linter.unusedVariables false
def sumOf (l : List Slt) : Int := if rightsB l then sumL l else -1
def hasOf (l : List Slt) (id : Int) : Int := if rightsB l then (match l.find? (fun s => s.id == id) with | some s => s.has | none => -1) else -1
theorem find_at {l : List Slt} {id : Int} {i : Nat} (h : i < l.length) (hp : posL l id = (i : Int)) : l.find? (fun s => s.id == id) = some l[i] := by
  by_cases hf : l.findIdx (fun s => s.id == id) < l.length
  · have e : l.findIdx (fun s => s.id == id) = i := by
      rw [posL, if_pos hf] at hp; omega
    rw [List.find?_eq_getElem?_findIdx, e, List.getElem?_eq_getElem h]
  · rw [posL, if_neg hf] at hp; omega
theorem find_none {l : List Slt} {id : Int} (hn : ∀ j (hj : j < l.length), l[j].id ≠ id) : l.find? (fun s => s.id == id) = none := by
  rw [List.find?_eq_none]
  intro x hx
  obtain ⟨i, hi, rfl⟩ := List.getElem_of_mem hx
  simpa using hn i hi
set_option maxHeartbeats 1000000 in
theorem implSumOf_any (a : Option Addr) (l : List Slt) (cap : Nat) (w : World) (hl : l.length ≤ 1048576) (hcap : l.length ≤ cap) (h : SlotAt w a l) :
    Calls Try.prog 8 #[.slice a l.length cap] w fun e w' => e = .returned (.int .i64 (sumOf l)) ∧ Below w.heap.size w w' := by
  have HC : Hid _ := hide h
  clear h
  cases q : rightsB l
  · have HR : Hid (sumOf l = -1) := hide (by simp [sumOf, q])
    go_enter Try.func8, Try.ntmps8
    go_wp2_with fail
    refine (implRightsOk_any a l cap w hl hcap HC.out).mono ?_
    rw [q]
    rintro e w1 ⟨rfl, hb1⟩
    go_wp2
    go_ret
    exact ⟨by rw [HR.out]; rfl, hb1⟩
  · have HR : Hid (sumOf l = sumL l) := hide (by simp [sumOf, q])
    have HS : Hid _ := hide (rightsB_small q)
    go_enter Try.func8, Try.ntmps8
    go_wp2_with fail
    refine (implRightsOk_any a l cap w hl hcap HC.out).mono ?_
    rw [q]
    rintro e w1 ⟨rfl, hb1⟩
    have HB1 : Hid _ := hide hb1
    clear hb1
    go_wp2_with fail
    refine (together_any a l cap w1 HS.out (HC.out.below HB1.out)).mono ?_
    rintro e w2 ⟨rfl, hb2⟩
    have HB2 : Hid _ := hide (below_trans HB1.out hb2)
    clear hb2
    go_wp2
    go_ret
    exact ⟨by rw [HR.out]; rfl, HB2.out⟩
end Go.Proofs.Ytilacamcedjbmaa
