/- What the program asks of a ledger, and that it is what the model asks. -/
import Derived.Test.YteaopalhbnhbaaaGreatDoorBHolds
import Derived.Test.YteaopalhbnhbaaaGreatDoorBBal
import Derived.Test.YteaopalhbnhbaaaGreatDoorISeen
namespace Go.Proofs.YteaopalhbnhbaaaGreatDoor
open Go.ChangeShapes Go.WideShapes Go.ChangeAt Go.RowKit Go.Maps
set_option linter.unusedVariables false
set_option maxRecDepth 100000
theorem less_eq : ∀ (x y : List UInt8), Op.bytesLess x y = decide (x < y)
  | [], [] => rfl
  | [], _ :: _ => rfl
  | _ :: _, [] => rfl
  | a :: s, b :: t => by
    rw [Op.bytesLess, less_eq s t, Bool.eq_iff_iff]
    simp [List.cons_lt_cons_iff]
theorem rises_less {L : Led} (h : allTo (accI L) L.acc.length = true) : ∀ (d i : Nat) (hi : i + d + 1 < L.acc.length), L.acc[i].name.toList < L.acc[i + d + 1].name.toList := by
  intro d
  induction d with
  | zero =>
    intro i hi
    have h1 := allTo_get h hi
    rw [accI_at hi] at h1
    simp only [Bool.and_eq_true] at h1
    have h2 := h1.1.1.1.1
    rw [rises_name hi, less_eq] at h2
    exact of_decide_eq_true h2
  | succ d ih =>
    intro i hi
    have h1 := ih i (by omega)
    have h3 := allTo_get h hi
    rw [accI_at hi] at h3
    simp only [Bool.and_eq_true] at h3
    have h2 := h3.1.1.1.1
    rw [show i + (d + 1) + 1 = (i + d + 1) + 1 by omega, rises_name (by omega), less_eq] at h2
    exact List.lt_trans h1 (of_decide_eq_true h2)
theorem apart_of {L : Led} (h : allTo (accI L) L.acc.length = true) : Apart L.acc := fun i j hi hj hij e => by
  have h1 := rises_less h (j - i - 1) i (by omega)
  simp only [show i + (j - i - 1) + 1 = j by omega] at h1
  rw [e] at h1
  exact absurd h1 (List.lt_irrefl _)
theorem accI_parts {L : Led} (h : allTo (accI L) L.acc.length = true) : ∀ x ∈ L.acc, SmallX x := fun x hx => by
  obtain ⟨i, hi, rfl⟩ := List.getElem_of_mem hx
  have h1 := allTo_get h hi
  rw [accI_at hi] at h1
  simp only [Bool.and_eq_true] at h1
  exact ⟨inB_iff.1 h1.1.2, inB_iff.1 h1.2⟩
theorem smallA_acc {L : Led} (g : L.acc.length ≤ 12) (h : allTo (accI L) L.acc.length = true) : SmallA L.acc := ⟨g, fun x hx => (accI_parts h x hx).2⟩
theorem smallH_hld {L : Led} (g : L.hold.length ≤ 10) (h : allTo (hldI L) L.hold.length = true) : SmallH L.hold := ⟨g, fun x hx => by
  obtain ⟨i, hi, rfl⟩ := List.getElem_of_mem hx
  have h1 := allTo_get h hi
  rw [hldI_at hi] at h1
  simp only [Bool.and_eq_true] at h1
  have := inB_iff.1 h1.1.1.2
  omega⟩
/-- what the program asks -/
def ledI (L : Led) : Bool :=
  decide (L.acc.length ≤ 12) && decide (L.hold.length ≤ 10) && decide (L.seen.length ≤ 40) && allTo (accI L) L.acc.length && allTo (ansB L) L.seen.length && allTo (hldI L) L.hold.length && L.acc.all (balI L)
theorem allTo_iff {f : Nat → Bool} {n : Nat} : allTo f n = true ↔ ∀ k, k < n → f k = true := by
  constructor
  · exact fun h k hk => allTo_get h hk
  · intro h
    induction n with
    | zero => rfl
    | succ n ih => simp only [allTo, Bool.and_eq_true]; exact ⟨ih (fun k hk => h k (by omega)), h n (by omega)⟩
theorem pair_same {L : Led} {x : Hld} : pairB L x = (!sameB x.fr x.to && pairI L x.fr x.to && inB 1 1000000000000 x.amount) := by
  unfold pairB pairI
  cases h1 : idxA L.acc x.fr with
  | none => simp
  | some i =>
    cases h2 : idxA L.acc x.to with
    | none => simp
    | some j =>
      obtain ⟨hi, e1, _⟩ := idxA_lt h1
      obtain ⟨hj, e2, _⟩ := idxA_lt h2
      have : decide (i ≠ j) = !sameB x.fr x.to := by
        by_cases e : x.fr = x.to
        · have : i = j := by rw [e, h2] at h1; exact (Option.some.inj h1).symm
          rw [sameB_iff.2 e]; simp [this]
        · have hne : i ≠ j := fun e' => by subst e'; exact e (e1.symm.trans e2)
          have : sameB x.fr x.to = false := by rw [Bool.eq_false_iff]; exact fun h => e (sameB_iff.1 h)
          rw [this]; simp [hne]
      simp only [this, List.getElem?_eq_getElem hi, List.getElem?_eq_getElem hj]
theorem hold_same {L : Led} {k : Nat} : holdB L k = hldI L k := by
  unfold holdB hldI
  cases L.hold[k]? with
  | none => rfl
  | some x =>
    simp only [pair_same]
    cases inB 1 1000000000 x.id <;> cases risesB (L.hold.map Hld.id) k <;> cases inB 1 1000000000000 x.amount <;> cases sameB x.fr x.to <;> cases pairI L x.fr x.to <;> rfl
theorem within_same {x : Acc} {held : Int} (h : -1 ≤ x.limit) : withinB x held = (inB (-1000000000000) 1000000000000 x.posted && decide (held ≤ 1000000000000) && covB x held 0) := by
  unfold withinB covB
  have e1 : decide (x.limit < 0) = decide (x.limit = -1) := by
    by_cases e : x.limit = -1
    · simp [e]
    · have : ¬ x.limit < 0 := by omega
      simp [e, this]
  rw [e1, Int.sub_zero]
theorem led_same (L : Led) : ledI L = ledS L := by
  rw [Bool.eq_iff_iff]
  simp only [ledI, ledS, Bool.and_eq_true, allTo_iff, List.all_eq_true]
  constructor
  · rintro ⟨⟨⟨⟨⟨⟨g1, g2⟩, g3⟩, ha⟩, hs⟩, hh⟩, hb⟩
    refine ⟨⟨⟨⟨⟨⟨g1, g2⟩, g3⟩, fun k hk => ?_⟩, fun k hk => ?_⟩, fun k hk => ?_⟩, hs⟩
    · have h1 := ha k hk
      rw [accI_at hk] at h1
      simp only [Bool.and_eq_true] at h1
      rw [postB_at hk]
      exact h1.2
    · rw [hold_same]; exact hh k hk
    · have h1 := ha k hk
      rw [accI_at hk] at h1
      simp only [Bool.and_eq_true] at h1
      have h2 := hb _ (List.getElem_mem hk)
      unfold balI at h2
      simp only [Bool.and_eq_true] at h2
      rw [accB_at hk, within_same (inB_iff.1 h1.1.2).1]
      simp only [Bool.and_eq_true]
      exact ⟨⟨⟨⟨⟨h1.1.1.1.2, h1.1.1.2⟩, h1.1.2⟩, h1.1.1.1.1⟩, ⟨⟨h1.2, h2.1.1⟩, h2.1.2⟩⟩, h2.2⟩
  · rintro ⟨⟨⟨⟨⟨⟨g1, g2⟩, g3⟩, hp⟩, hh⟩, ha⟩, hs⟩
    have hparts : ∀ k (hk : k < L.acc.length), (nameB (L.acc[k]).name = true ∧ curB (L.acc[k]).cur = true ∧ inB (-1) 1000000000000 (L.acc[k]).limit = true ∧ nameRises L k = true) ∧ (inB (-1000000000000) 1000000000000 (L.acc[k]).posted = true ∧ decide (heldL (L.acc[k]).name L.hold ≤ 1000000000000) = true ∧ covB (L.acc[k]) (heldL (L.acc[k]).name L.hold) 0 = true) ∧ decide (totL (L.acc[k]).cur L.acc = 0) = true := fun k hk => by
      have h1 := ha k hk
      rw [accB_at hk] at h1
      simp only [Bool.and_eq_true] at h1
      rw [within_same (inB_iff.1 h1.1.1.1.2).1] at h1
      simp only [Bool.and_eq_true] at h1
      exact ⟨⟨h1.1.1.1.1.1, h1.1.1.1.1.2, h1.1.1.1.2, h1.1.1.2⟩, ⟨h1.1.2.1.1, h1.1.2.1.2, h1.1.2.2⟩, h1.2⟩
    refine ⟨⟨⟨⟨⟨⟨g1, g2⟩, g3⟩, fun k hk => ?_⟩, hs⟩, fun k hk => ?_⟩, fun x hx => ?_⟩
    · obtain ⟨⟨a1, a2, a3, a4⟩, ⟨b1, b2, b3⟩, c1⟩ := hparts k hk
      rw [accI_at hk, a1, a2, a3, a4, b1]; rfl
    · rw [← hold_same]; exact hh k hk
    · obtain ⟨i, hi, rfl⟩ := List.getElem_of_mem hx
      obtain ⟨⟨a1, a2, a3, a4⟩, ⟨b1, b2, b3⟩, c1⟩ := hparts i hi
      unfold balI
      rw [b2, b3, c1]; rfl
end Go.Proofs.YteaopalhbnhbaaaGreatDoor
