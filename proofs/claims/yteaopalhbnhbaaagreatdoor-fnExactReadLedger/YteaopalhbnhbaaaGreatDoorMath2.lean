/- The plain mathematics of reading an amount: no program is named here. -/
import Derived.Test.YteaopalhbnhbaaaGreatDoorMath
namespace Go.Proofs.YteaopalhbnhbaaaGreatDoor
def inR (n : Int) : Prop := -1000000000000 ≤ n ∧ n ≤ 1000000000000
theorem hundL_bd (l : List UInt8) (a : Int) (m : Nat) (h : -(m : Int) ≤ a ∧ a ≤ m) : -(((m + 23) * 10 ^ l.length : Nat) : Int) ≤ hundL l a ∧ hundL l a ≤ (((m + 23) * 10 ^ l.length : Nat) : Int) := by
  induction l generalizing a m with
  | nil => simp only [hundL, List.length_nil, Nat.pow_zero, Nat.mul_one]; omega
  | cons c cs ih =>
    have hc := c.toNat_lt
    simp only [hundL, List.length_cons]
    have e : (m + 23) * 10 ^ (cs.length + 1) = (10 * m + 207 + 23) * 10 ^ cs.length := by
      rw [Nat.pow_succ, Nat.mul_comm (10 ^ cs.length) 10, ← Nat.mul_assoc]; congr 1; omega
    split
    · have := ih a (10 * m + 207) (by omega)
      rw [e]; exact this
    · have := ih (10 * a + c.toNat - 48) (10 * m + 207) (by omega)
      rw [e]; exact this
theorem hundL_small (l : List UInt8) (k : Nat) (h : l.length ≤ k) (hk : k ≤ 15) : -(23000000000000000 : Int) ≤ hundL l 0 ∧ hundL l 0 ≤ 23000000000000000 := by
  have := hundL_bd l 0 0 (by omega)
  have h2 : 10 ^ l.length ≤ 10 ^ 15 := Nat.pow_le_pow_right (by omega) (by omega)
  omega
theorem hundL_small14 (l : List UInt8) (h : l.length ≤ 14) : -(2300000000000000 : Int) ≤ hundL l 0 ∧ hundL l 0 ≤ 2300000000000000 := by
  have := hundL_bd l 0 0 (by omega)
  have h2 : 10 ^ l.length ≤ 10 ^ 14 := Nat.pow_le_pow_right (by omega) (by omega)
  omega
def hund (l : List UInt8) : Int := if l.head? = some 45 then -(hundL l.tail 0) else hundL l 0
theorem decA_ne_nil (f n : Nat) (acc : List UInt8) : decA (f + 1) n acc ≠ [] := by
  induction f generalizing n acc with
  | zero =>
    by_cases h : n < 10
    · rw [decA_small _ _ _ h]; simp
    · rw [decA_big _ _ _ (by omega)]; simp [decA]
  | succ f ih =>
    by_cases h : n < 10
    · rw [decA_small _ _ _ h]; simp
    · rw [decA_big _ _ _ (by omega)]; exact ih _ _
theorem dec_ne_nil (n : Nat) : dec n ≠ [] := decA_ne_nil 19 n []
theorem head_dec (n : Nat) (r : List UInt8) : (dec n ++ r).head? ≠ some 45 := by
  intro h
  cases hd : dec n with
  | nil => exact dec_ne_nil n hd
  | cons c cs =>
    rw [hd] at h
    simp at h
    have := dec_digit n c (by rw [hd]; simp)
    rw [h] at this
    revert this; decide
theorem hund_amt (n : Int) (h : inR n) : hund (amt n) = n := by
  obtain ⟨h1, h2⟩ := h
  unfold amt
  rw [if_pos ⟨h1, h2⟩]
  unfold hund
  by_cases hn : n < 0
  · rw [if_pos hn, if_pos (by rfl)]
    show -(hundL (dec _ ++ _) 0) = n
    rw [hundL_amt n.natAbs (by omega)]; omega
  · rw [if_neg hn, List.nil_append, if_neg (head_dec _ _), hundL_amt n.natAbs (by omega)]; omega
theorem hund_nil : hund [] = 0 := rfl
theorem amt_out (n : Int) (h : ¬ inR n) : amt n = [] := by
  unfold inR at h; unfold amt; rw [if_neg h]
theorem amt_inj {n m : Int} (hn : inR n) (hm : inR m) (h : amt n = amt m) : n = m := by
  rw [← hund_amt n hn, ← hund_amt m hm, h]
theorem amt_ne_nil (n : Int) (h : inR n) : amt n ≠ [] := by
  unfold inR at h; unfold amt; rw [if_pos h]; simp
theorem amt_len (n : Int) : (amt n).length ≤ 15 := by
  unfold amt
  split
  · rename_i h
    have := dec_len 10 (n.natAbs / 100) (by omega) (by omega)
    split <;> simp <;> omega
  · simp
/-- a text whose reading, written again, is not itself, is no text of an amount -/
theorem not_amt (s : ByteArray) (hno : ∀ n, inR n → s ≠ bs (amt n)) : bs (amt (hund s.data.toList)) ≠ s := by
  intro e
  by_cases h : inR (hund s.data.toList)
  · exact hno _ h e.symm
  · rw [amt_out _ h] at e
    rw [← e] at h
    exact h (by rw [bs_list]; exact ⟨by decide, by decide⟩)
end Go.Proofs.YteaopalhbnhbaaaGreatDoor
