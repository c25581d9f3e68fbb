/- The contract of the model's LedgerOk: what is right, place by place. -/
import Derived.Test.YteaopalhbnhbaaaGreatDoorSHeld
import Derived.Deep.QuietTactic
import Derived.BigQuiet
import Derived.BigRegion
import Derived.Deep.RegionWith
namespace Go.Proofs.YteaopalhbnhbaaaGreatDoor
open Go.ChangeShapes Go.WideShapes Go.ChangeAt Go.RowKit
set_option linter.unusedVariables false
set_option maxRecDepth 100000
structure LedAt (w : World) (a h s : Option Addr) (L : Led) : Prop where
  acc : AccAt w a L.acc
  hold : HoldAt w h L.hold
  seen : AnsAt w s L.seen
theorem LedAt.below {w w' : World} {a h s : Option Addr} {L : Led} (k : LedAt w a h s L) (b : Below w.heap.size w w') : LedAt w' a h s L := ⟨k.acc.below b, k.hold.below b, k.seen.below b⟩
/-- where a name first stands -/
def idxA (l : List Acc) (nm : ByteArray) : Option Nat := l.findIdx? (fun x => sameB x.name nm)
theorem idxA_some {l : List Acc} {nm : ByteArray} {i : Nat} (h : i < l.length) (h1 : l[i].name = nm) (h2 : ∀ j (hj : j < i), l[j].name ≠ nm) : idxA l nm = some i := by
  rw [idxA, List.findIdx?_eq_some_iff_getElem]
  exact ⟨h, sameB_iff.2 h1, fun j hj => by rw [Bool.not_eq_true, Bool.eq_false_iff]; intro e; exact h2 j hj (sameB_iff.1 e)⟩
theorem idxA_none {l : List Acc} {nm : ByteArray} (h : ∀ i (h : i < l.length), l[i].name ≠ nm) : idxA l nm = none := by
  rw [idxA, List.findIdx?_eq_none_iff]
  intro x hx
  obtain ⟨i, hi, rfl⟩ := List.getElem_of_mem hx
  rw [Bool.eq_false_iff]
  intro e
  exact h i hi (sameB_iff.1 e)
theorem idxA_lt {l : List Acc} {nm : ByteArray} {i : Nat} (h : idxA l nm = some i) : ∃ hi : i < l.length, l[i].name = nm ∧ ∀ j (hj : j < i), l[j].name ≠ nm := by
  rw [idxA, List.findIdx?_eq_some_iff_getElem] at h
  obtain ⟨h1, h2, h3⟩ := h
  exact ⟨h1, sameB_iff.1 h2, fun j hj e => by have := h3 j hj; rw [sameB_iff.2 e] at this; simp at this⟩
/-- the place ahead of k has less -/
def risesB (l : List Int) (k : Nat) : Bool := match k with
  | 0 => true
  | m + 1 => decide (l.getD m 0 < l.getD (m + 1) 0)
def ansB (L : Led) (k : Nat) : Bool := match L.seen[k]? with
  | none => true
  | some x => inB 1 1000000000 x.id && risesB (L.seen.map Sn.id) k && (decide (x.code = 0) || inB 4 9 x.code)
def pairB (L : Led) (x : Hld) : Bool := match idxA L.acc x.fr, idxA L.acc x.to with
  | some i, some j => decide (i ≠ j) && (match L.acc[i]?, L.acc[j]? with
    | some p, some q => sameB p.cur q.cur
    | _, _ => false) && inB 1 1000000000000 x.amount
  | _, _ => false
def holdB (L : Led) (k : Nat) : Bool := match L.hold[k]? with
  | none => true
  | some x => inB 1 1000000000 x.id && risesB (L.hold.map Hld.id) k && pairB L x
theorem pairB_none1 {L : Led} {x : Hld} (h : idxA L.acc x.fr = none) : pairB L x = false := by simp [pairB, h]
theorem pairB_none2 {L : Led} {x : Hld} (h : idxA L.acc x.to = none) : pairB L x = false := by
  unfold pairB; rw [h]; cases idxA L.acc x.fr <;> rfl
theorem pairB_some {L : Led} {x : Hld} {i j : Nat} (h1 : idxA L.acc x.fr = some i) (h2 : idxA L.acc x.to = some j) (hi : i < L.acc.length) (hj : j < L.acc.length) : pairB L x = (decide (i ≠ j) && sameB (L.acc[i]).cur (L.acc[j]).cur && inB 1 1000000000000 x.amount) := by
  simp [pairB, h1, h2, List.getElem?_eq_getElem hi, List.getElem?_eq_getElem hj]
def nameRises (L : Led) (k : Nat) : Bool := match k with
  | 0 => true
  | m + 1 => match L.acc[m]?, L.acc[m + 1]? with
    | some p, some q => Op.bytesLess p.name.toList q.name.toList
    | _, _ => true
def accB (L : Led) (k : Nat) : Bool := match L.acc[k]? with
  | none => true
  | some x => nameB x.name && curB x.cur && inB (-1) 1000000000000 x.limit && nameRises L k && withinB x (heldL x.name L.hold) && decide (totL x.cur L.acc = 0)
def postB (L : Led) (k : Nat) : Bool := match L.acc[k]? with
  | none => true
  | some x => inB (-1000000000000) 1000000000000 x.posted
def allTo (f : Nat → Bool) : Nat → Bool
  | 0 => true
  | n + 1 => allTo f n && f n
theorem allTo_false {f : Nat → Bool} {n k : Nat} (h : k < n) (hf : f k = false) : allTo f n = false := by
  induction n with
  | zero => omega
  | succ n ih =>
    simp only [allTo]
    rcases Nat.lt_or_ge k n with h1 | h1
    · rw [ih h1]; rfl
    · obtain rfl : k = n := by omega
      rw [hf]; simp
theorem allTo_step {f : Nat → Bool} {k : Nat} (h : allTo f k = true) (hf : f k = true) : allTo f (k + 1) = true := by simp [allTo, h, hf]
theorem allTo_get {f : Nat → Bool} {n k : Nat} (h : allTo f n = true) (hk : k < n) : f k = true := by
  induction n with
  | zero => omega
  | succ n ih =>
    simp only [allTo, Bool.and_eq_true] at h
    rcases Nat.lt_or_ge k n with h1 | h1
    · exact ih h.1 h1
    · obtain rfl : k = n := by omega
      exact h.2
/-- what the model asks -/
def ledS (L : Led) : Bool :=
  decide (L.acc.length ≤ 12) && decide (L.hold.length ≤ 10) && decide (L.seen.length ≤ 40) && allTo (postB L) L.acc.length && allTo (holdB L) L.hold.length && allTo (accB L) L.acc.length && allTo (ansB L) L.seen.length
theorem ansB_at {L : Led} {k : Nat} (h : k < L.seen.length) : ansB L k = (inB 1 1000000000 (L.seen[k]).id && risesB (L.seen.map Sn.id) k && (decide ((L.seen[k]).code = 0) || inB 4 9 (L.seen[k]).code)) := by
  simp [ansB, List.getElem?_eq_getElem h]
theorem holdB_at {L : Led} {k : Nat} (h : k < L.hold.length) : holdB L k = (inB 1 1000000000 (L.hold[k]).id && risesB (L.hold.map Hld.id) k && pairB L (L.hold[k])) := by
  simp [holdB, List.getElem?_eq_getElem h]
/-- what l2Find tells, as a number -/
def FindIs (l : List Acc) (nm : ByteArray) (r : Int) : Prop := (∃ i, ∃ h : i < l.length, idxA l nm = some i ∧ r = (i : Int)) ∨ (idxA l nm = none ∧ r = -1)
theorem findIs_of {l : List Acc} {nm : ByteArray} {w w' : World} {e : Ending} (h : FindEnd l nm w e w') : Below w.heap.size w w' ∧ ∃ r, e = .returned (.int .i64 r) ∧ FindIs l nm r := by
  obtain ⟨hb, ⟨i, hi, h1, h2, he⟩ | ⟨h1, he⟩⟩ := h
  · exact ⟨hb, _, he, .inl ⟨i, hi, idxA_some hi h1 h2, rfl⟩⟩
  · exact ⟨hb, _, he, .inr ⟨idxA_none h1, rfl⟩⟩
theorem postB_at {L : Led} {k : Nat} (h : k < L.acc.length) : postB L k = inB (-1000000000000) 1000000000000 (L.acc[k]).posted := by
  simp [postB, List.getElem?_eq_getElem h]
theorem rises_ans {L : Led} {m : Nat} (h : m + 1 < L.seen.length) : risesB (L.seen.map Sn.id) (m + 1) = decide ((L.seen[m]).id < (L.seen[m + 1]).id) := by
  simp [risesB, List.getElem?_eq_getElem h, List.getElem?_eq_getElem (show m < L.seen.length by omega)]
theorem rises_hold {L : Led} {m : Nat} (h : m + 1 < L.hold.length) : risesB (L.hold.map Hld.id) (m + 1) = decide ((L.hold[m]).id < (L.hold[m + 1]).id) := by
  simp [risesB, List.getElem?_eq_getElem h, List.getElem?_eq_getElem (show m < L.hold.length by omega)]
theorem pairB_amount {L : Led} {x : Hld} (h : pairB L x = true) : 1 ≤ x.amount ∧ x.amount ≤ 1000000000000 := by
  unfold pairB at h
  split at h
  · simp only [Bool.and_eq_true] at h; exact inB_iff.1 h.2
  · cases h
theorem smallH_of {L : Led} (g : L.hold.length ≤ 10) (h : allTo (holdB L) L.hold.length = true) : SmallH L.hold := by
  refine ⟨g, fun x hx => ?_⟩
  obtain ⟨i, hi, rfl⟩ := List.getElem_of_mem hx
  have h1 := allTo_get h hi
  rw [holdB_at hi] at h1
  simp only [Bool.and_eq_true] at h1
  have := pairB_amount h1.2
  omega
theorem smallA_of {L : Led} (g : L.acc.length ≤ 12) (h : allTo (postB L) L.acc.length = true) : SmallA L.acc := by
  refine ⟨g, fun x hx => ?_⟩
  obtain ⟨i, hi, rfl⟩ := List.getElem_of_mem hx
  have h1 := allTo_get h hi
  rw [postB_at hi] at h1
  exact inB_iff.1 h1
theorem accB_at {L : Led} {k : Nat} (h : k < L.acc.length) : accB L k = (nameB (L.acc[k]).name && curB (L.acc[k]).cur && inB (-1) 1000000000000 (L.acc[k]).limit && nameRises L k && withinB (L.acc[k]) (heldL (L.acc[k]).name L.hold) && decide (totL (L.acc[k]).cur L.acc = 0)) := by
  simp [accB, List.getElem?_eq_getElem h]
theorem rises_name {L : Led} {m : Nat} (h : m + 1 < L.acc.length) : nameRises L (m + 1) = Op.bytesLess (L.acc[m]).name.toList (L.acc[m + 1]).name.toList := by
  simp [nameRises, List.getElem?_eq_getElem h, List.getElem?_eq_getElem (show m < L.acc.length by omega)]
end Go.Proofs.YteaopalhbnhbaaaGreatDoor
