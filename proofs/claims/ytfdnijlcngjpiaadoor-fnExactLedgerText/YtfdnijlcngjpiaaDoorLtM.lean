/- The text of a ledger, as data; the contract of the model's LedgerText. -/
import Derived.Test.YtfdnijlcngjpiaaDoorBld
import Derived.Test.YtfdnijlcngjpiaaDoorIOk
namespace Go.Proofs.YtfdnijlcngjpiaaDoor
open Go.ChangeShapes Go.WideShapes Go.ChangeAt Go.RowKit
set_option linter.unusedVariables false
set_option maxRecDepth 100000
def accW (x : Acc) : List (List UInt8) := [[97, 99, 99, 111, 117, 110, 116], x.name.data.toList, x.cur.data.toList, Lib.itoa x.limit, Lib.itoa x.posted]
def hldW (x : Hld) : List (List UInt8) := [[104, 111, 108, 100], Lib.itoa x.id, x.fr.data.toList, x.to.data.toList, Lib.itoa x.amount]
def ansW (x : Ans) : List (List UInt8) := [[115, 101, 101, 110], Lib.itoa x.id, Lib.itoa x.code]
def accLn (x : Acc) : List UInt8 := lineL (accW x)
def hldLn (x : Hld) : List UInt8 := lineL (hldW x)
def ansLn (x : Ans) : List UInt8 := lineL (ansW x)
def body (L : Led) (a h s : Nat) : List UInt8 := [108, 101, 100, 103, 101, 114, 10] ++ ((L.acc.take a).flatMap accLn ++ ((L.hold.take h).flatMap hldLn ++ (L.seen.take s).flatMap ansLn))
def ledT (L : Led) : List UInt8 := if ledS L = true then body L L.acc.length L.hold.length L.seen.length else []
theorem body_acc {L : Led} {k : Nat} (h : k < L.acc.length) : body L (k + 1) 0 0 = body L k 0 0 ++ accLn L.acc[k] := by
  simp only [body, take_next _ _ h, List.flatMap_append, List.flatMap_singleton, List.take_zero, List.flatMap_nil, List.append_nil, List.append_assoc]
theorem body_hold {L : Led} {n k : Nat} (h : k < L.hold.length) : body L n (k + 1) 0 = body L n k 0 ++ hldLn L.hold[k] := by
  simp only [body, take_next _ _ h, List.flatMap_append, List.flatMap_singleton, List.take_zero, List.flatMap_nil, List.append_nil, List.append_assoc]
theorem body_seen {L : Led} {n m k : Nat} (h : k < L.seen.length) : body L n m (k + 1) = body L n m k ++ ansLn L.seen[k] := by
  simp only [body, take_next _ _ h, List.flatMap_append, List.flatMap_singleton, List.append_assoc]
/-- what a right ledger's parts are -/
theorem led_parts {L : Led} (h : ledS L = true) : (L.acc.length ≤ 12 ∧ L.hold.length ≤ 10 ∧ L.seen.length ≤ 40) ∧ allTo (accI L) L.acc.length = true ∧ allTo (ansB L) L.seen.length = true ∧ allTo (hldI L) L.hold.length = true := by
  rw [← led_same] at h
  simp only [ledI, Bool.and_eq_true, decide_eq_true_eq] at h
  obtain ⟨⟨⟨⟨⟨⟨g1, g2⟩, g3⟩, ha⟩, hs⟩, hh⟩, hb⟩ := h
  exact ⟨⟨g1, g2, g3⟩, ha, hs, hh⟩
theorem acc_sm {L : Led} (h : ledS L = true) {k : Nat} (hk : k < L.acc.length) : L.acc[k].name.size ≤ 12 ∧ L.acc[k].cur.size ≤ 12 ∧ (-1 ≤ L.acc[k].limit ∧ L.acc[k].limit ≤ 1000000000000) ∧ (-1000000000000 ≤ L.acc[k].posted ∧ L.acc[k].posted ≤ 1000000000000) := by
  have h1 := allTo_get (led_parts h).2.1 hk
  rw [accI_at hk] at h1
  simp only [Bool.and_eq_true] at h1
  exact ⟨name_short h1.1.1.1.2, cur_short h1.1.1.2, inB_iff.1 h1.1.2, inB_iff.1 h1.2⟩
theorem ans_sm {L : Led} (h : ledS L = true) {k : Nat} (hk : k < L.seen.length) : (1 ≤ L.seen[k].id ∧ L.seen[k].id ≤ 1000000000) ∧ (0 ≤ L.seen[k].code ∧ L.seen[k].code ≤ 9) := by
  have h1 := allTo_get (led_parts h).2.2.1 hk
  rw [ansB_at hk] at h1
  simp only [Bool.and_eq_true, Bool.or_eq_true, decide_eq_true_eq] at h1
  refine ⟨inB_iff.1 h1.1.1, ?_⟩
  rcases h1.2 with h2 | h2
  · omega
  · have := inB_iff.1 h2; omega
theorem idx_name {L : Led} (h : ledS L = true) {nm : ByteArray} {i : Nat} (hi : idxA L.acc nm = some i) : nm.size ≤ 12 := by
  obtain ⟨hl, e, _⟩ := idxA_lt hi
  rw [← e]
  exact (acc_sm h hl).1
theorem hld_sm {L : Led} (h : ledS L = true) {k : Nat} (hk : k < L.hold.length) : L.hold[k].fr.size ≤ 12 ∧ L.hold[k].to.size ≤ 12 ∧ (1 ≤ L.hold[k].id ∧ L.hold[k].id ≤ 1000000000) ∧ (1 ≤ L.hold[k].amount ∧ L.hold[k].amount ≤ 1000000000000) := by
  have h1 := allTo_get (led_parts h).2.2.2 hk
  rw [hldI_at hk] at h1
  simp only [Bool.and_eq_true] at h1
  have hp := h1.2
  unfold pairI at hp
  cases e1 : idxA L.acc L.hold[k].fr with
  | none => rw [e1] at hp; simp at hp
  | some i =>
    cases e2 : idxA L.acc L.hold[k].to with
    | none => rw [e1, e2] at hp; simp at hp
    | some j => exact ⟨idx_name h e1, idx_name h e2, inB_iff.1 h1.1.1.1.2, inB_iff.1 h1.1.1.2⟩
theorem join5_len (a b c d e : List UInt8) : (Lib.join [a, b, c, d, e] [32]).length = a.length + b.length + c.length + d.length + e.length + 4 := by
  simp [Lib.join, List.intercalate]; omega
theorem join3_len (a b c : List UInt8) : (Lib.join [a, b, c] [32]).length = a.length + b.length + c.length + 2 := by
  simp [Lib.join, List.intercalate]; omega
theorem accJ_len {L : Led} (h : ledS L = true) {k : Nat} (hk : k < L.acc.length) : (Lib.join (accW L.acc[k]) [32]).length ≤ 90 := by
  obtain ⟨h1, h2, h3, h4⟩ := acc_sm h hk
  rw [accW, join5_len]
  have := itoa_len (n := L.acc[k].limit) (by omega) (by omega)
  have := itoa_len (n := L.acc[k].posted) (by omega) (by omega)
  have e1 : L.acc[k].name.data.toList.length = L.acc[k].name.size := by simp
  have e2 : L.acc[k].cur.data.toList.length = L.acc[k].cur.size := by simp
  simp only [List.length_cons, List.length_nil]
  omega
theorem hldJ_len {L : Led} (h : ledS L = true) {k : Nat} (hk : k < L.hold.length) : (Lib.join (hldW L.hold[k]) [32]).length ≤ 90 := by
  obtain ⟨h1, h2, h3, h4⟩ := hld_sm h hk
  rw [hldW, join5_len]
  have := itoa_len (n := L.hold[k].id) (by omega) (by omega)
  have := itoa_len (n := L.hold[k].amount) (by omega) (by omega)
  have e1 : L.hold[k].fr.data.toList.length = L.hold[k].fr.size := by simp
  have e2 : L.hold[k].to.data.toList.length = L.hold[k].to.size := by simp
  simp only [List.length_cons, List.length_nil]
  omega
theorem ansJ_len {L : Led} (h : ledS L = true) {k : Nat} (hk : k < L.seen.length) : (Lib.join (ansW L.seen[k]) [32]).length ≤ 90 := by
  obtain ⟨h1, h2⟩ := ans_sm h hk
  rw [ansW, join3_len]
  have := itoa_len (n := L.seen[k].id) (by omega) (by omega)
  have := itoa_len (n := L.seen[k].code) (by omega) (by omega)
  simp only [List.length_cons, List.length_nil]
  omega
theorem flat_le {A : Type} (f : A → List UInt8) (l : List A) (h : ∀ x ∈ l, (f x).length ≤ 91) : (l.flatMap f).length ≤ 91 * l.length := by
  induction l with
  | nil => simp
  | cons x xs ih =>
    have h1 := h x (by simp)
    have h2 := ih (fun y hy => h y (by simp [hy]))
    simp only [List.flatMap_cons, List.length_append, List.length_cons]
    omega
theorem take_mem {A : Type} {l : List A} {k : Nat} {x : A} (h : x ∈ l.take k) : ∃ i, ∃ hi : i < l.length, l[i] = x := by
  obtain ⟨i, hi, e⟩ := List.getElem_of_mem (List.mem_of_mem_take h)
  exact ⟨i, hi, e⟩
theorem body_len {L : Led} (h : ledS L = true) (a b c : Nat) : (body L a b c).length ≤ 6000 := by
  obtain ⟨g1, g2, g3⟩ := (led_parts h).1
  have h1 := flat_le accLn (L.acc.take a) (fun x hx => by obtain ⟨i, hi, rfl⟩ := take_mem hx; have := accJ_len h hi; simp only [accLn, lineL, List.length_append, List.length_cons, List.length_nil]; omega)
  have h2 := flat_le hldLn (L.hold.take b) (fun x hx => by obtain ⟨i, hi, rfl⟩ := take_mem hx; have := hldJ_len h hi; simp only [hldLn, lineL, List.length_append, List.length_cons, List.length_nil]; omega)
  have h3 := flat_le ansLn (L.seen.take c) (fun x hx => by obtain ⟨i, hi, rfl⟩ := take_mem hx; have := ansJ_len h hi; simp only [ansLn, lineL, List.length_append, List.length_cons, List.length_nil]; omega)
  have e1 : (L.acc.take a).length ≤ 12 := by rw [List.length_take]; omega
  have e2 : (L.hold.take b).length ≤ 10 := by rw [List.length_take]; omega
  have e3 : (L.seen.take c).length ≤ 40 := by rw [List.length_take]; omega
  simp only [body, List.length_append, List.length_cons, List.length_nil]
  omega
theorem bs_sz {l : List UInt8} {n : Nat} (h : l.length ≤ n) : (bs l).size ≤ n := by rw [bs_size]; exact h
theorem box40 {w x : World} {va vh vs : Value} (h : Below (w.heap.size + 1) (w.alloc (.cells #[va, vh, vs] 40)) x) : x.cell? ⟨w.heap.size, 0, none⟩ = some va ∧ x.cell? ⟨w.heap.size, 1, none⟩ = some vh ∧ x.cell? ⟨w.heap.size, 2, none⟩ = some vs :=
  ⟨by rw [h.cell (by simp)]; simp, by rw [h.cell (by simp)]; simp, by rw [h.cell (by simp)]; simp⟩
end Go.Proofs.YtfdnijlcngjpiaaDoor
