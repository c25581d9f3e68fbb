/- The contracts of SumOf and HasOf, of the program and of its model. -/
import Derived.Test.YtfkadhkgpfembaaSOk
namespace Go.Proofs.Ytfkadhkgpfembaa
open Go.ChangeShapes Go.WideShapes Go.ChangeAt Go.RowKit
set_option linter.unusedVariables false
def sumOf (l : List Slt) : Int := if rightsB l then sumL l else -1
def hasOf (l : List Slt) (id : Int) : Int := if rightsB l then (match l.find? (fun s => s.id == id) with | some s => s.has | none => -1) else -1
theorem find_at {l : List Slt} {id : Int} {i : Nat} (h : i < l.length) (hp : posL l id = (i : Int)) : l.find? (fun s => s.id == id) = some l[i] := by
  by_cases hf : l.findIdx (fun s => s.id == id) < l.length
  · have e : l.findIdx (fun s => s.id == id) = i := by
      rw [posL, if_pos hf] at hp; omega
    rw [List.find?_eq_getElem?_findIdx, e, List.getElem?_eq_getElem h]
  · rw [posL, if_neg hf] at hp; omega
theorem find_none {l : List Slt} {id : Int} (hn : ∀ j (hj : j < l.length), l[j].id ≠ id) : l.find? (fun s => s.id == id) = none := by
  rw [List.find?_eq_none]
  intro x hx
  obtain ⟨i, hi, rfl⟩ := List.getElem_of_mem hx
  simpa using hn i hi
set_option maxHeartbeats 1000000 in
theorem implSumOf_any (a : Option Addr) (l : List Slt) (cap : Nat) (w : World) (hl : l.length ≤ 1048576) (hcap : l.length ≤ cap) (h : SlotAt w a l) :
    Calls Try.prog 10 #[.slice a l.length cap] w fun e w' => e = .returned (.int .i64 (sumOf l)) ∧ Below w.heap.size w w' := by
  have HC : Hid _ := hide h
  clear h
  cases q : rightsB l
  · have HR : Hid (sumOf l = -1) := hide (by simp [sumOf, q])
    go_enter Try.func10, Try.ntmps10
    go_wp2_with fail
    refine (implRightsOk_any a l cap w hl hcap HC.out).mono ?_
    rw [q]
    rintro e w1 ⟨rfl, hb1⟩
    go_wp2
    go_ret
    exact ⟨by rw [HR.out]; rfl, hb1⟩
  · have HR : Hid (sumOf l = sumL l) := hide (by simp [sumOf, q])
    have HS : Hid _ := hide (rightsB_small q)
    go_enter Try.func10, Try.ntmps10
    go_wp2_with fail
    refine (implRightsOk_any a l cap w hl hcap HC.out).mono ?_
    rw [q]
    rintro e w1 ⟨rfl, hb1⟩
    have HB1 : Hid _ := hide hb1
    clear hb1
    go_wp2_with fail
    refine (together_any a l cap w1 HS.out (HC.out.below HB1.out)).mono ?_
    rintro e w2 ⟨rfl, hb2⟩
    have HB2 : Hid _ := hide (below_trans HB1.out hb2)
    clear hb2
    go_wp2
    go_ret
    exact ⟨by rw [HR.out]; rfl, HB2.out⟩
set_option maxHeartbeats 1000000 in
theorem implHasOf_any (a : Option Addr) (l : List Slt) (cap : Nat) (id : Int) (w : World) (hl : l.length ≤ 1048576) (hcap : l.length ≤ cap) (h : SlotAt w a l) :
    Calls Try.prog 9 #[.slice a l.length cap, .int .i64 id] w fun e w' => e = .returned (.int .i64 (hasOf l id)) ∧ Below w.heap.size w w' := by
  have HC : Hid _ := hide h
  clear h
  go_enter Try.func9, Try.ntmps9
  go_wp2_with fail
  refine (implRightsOk_any a l cap w hl hcap HC.out).mono ?_
  rintro e w1 ⟨rfl, hb1⟩
  have HB1 : Hid _ := hide hb1
  clear hb1
  cases q : rightsB l
  · have HR : Hid (hasOf l id = -1) := hide (by simp [hasOf, q])
    go_wp2
    go_ret
    exact ⟨by rw [HR.out]; rfl, HB1.out⟩
  · rcases posL_cases l id with ⟨i, hi, hp, hid⟩ | ⟨hp, hn⟩
    · have HR : Hid (hasOf l id = (l[i]).has) := hide (by simp [hasOf, q, find_at hi hp])
      have hi' : (i : Int) < (l.length : Int) := by omega
      clear hid
      go_wp2_with fail
      refine (slotPlace_any a l cap id w1 hl (HC.out.below HB1.out)).mono ?_
      rw [hp]
      rintro e w2 ⟨rfl, hb2⟩
      clear hp
      have HB2 : Hid _ := hide (below_trans HB1.out hb2)
      clear hb2
      obtain ⟨b, off, rfl, hb, c0, c1, c2, _⟩ := (HC.out.below HB2.out) i hi
      go_wp2
      go_ret
      exact ⟨by rw [HR.out]; rfl, HB2.out⟩
    · have HR : Hid (hasOf l id = -1) := hide (by simp [hasOf, q, find_none hn])
      clear hn
      go_wp2_with fail
      refine (slotPlace_any a l cap id w1 hl (HC.out.below HB1.out)).mono ?_
      rw [hp]
      rintro e w2 ⟨rfl, hb2⟩
      clear hp
      have HB2 : Hid _ := hide (below_trans HB1.out hb2)
      clear hb2
      go_wp2
      go_ret
      exact ⟨by rw [HR.out]; rfl, HB2.out⟩
end Go.Proofs.Ytfkadhkgpfembaa
