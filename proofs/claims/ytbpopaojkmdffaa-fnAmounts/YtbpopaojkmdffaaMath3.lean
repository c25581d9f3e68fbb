/- The plain mathematics of reading an amount, as the model reads it. -/
import Derived.Test.YtbpopaojkmdffaaInt
namespace Go.Proofs.Ytbpopaojkmdffaa
theorem decA_head (f n : Nat) (acc : List UInt8) (h : 1 ≤ n) (hn : n < 10 ^ (f + 1)) : (decA (f + 1) n acc).head? ≠ some 48 := by
  induction f generalizing n acc with
  | zero =>
    rw [decA_small _ _ _ (by simpa using hn)]
    simp only [List.head?_cons, ne_eq, Option.some.injEq]
    intro e
    have := congrArg UInt8.toNat e
    rw [dg_toNat] at this
    simp at hn
    revert this; simp; omega
  | succ f ih =>
    by_cases h1 : n < 10
    · rw [decA_small _ _ _ h1]
      simp only [List.head?_cons, ne_eq, Option.some.injEq]
      intro e
      have := congrArg UInt8.toNat e
      rw [dg_toNat] at this
      revert this; simp; omega
    · rw [decA_big _ _ _ (by omega)]
      exact ih _ _ (by omega) (by rw [Nat.pow_succ] at hn; omega)
theorem negB_dec (m : Nat) : negB (dec m) = false := by
  unfold negB
  have := head_dec m []
  rw [List.append_nil] at this
  simp [this]
theorem formB_dec (m : Nat) (h : m ≤ 10000000000000) : formB (dec m) false = true := by
  unfold formB
  have h1 := dec_len 13 m (by omega) (by omega)
  have h0 : 1 ≤ (dec m).length := by
    cases e : dec m with
    | nil => exact absurd e (dec_ne_nil m)
    | cons c cs => simp
  have h2 : (decide ((dec m).head? = some 48) && (decide (1 < (dec m).length) || false)) = false := by
    rcases Nat.eq_zero_or_pos m with rfl | hp
    · rfl
    · have := decA_head 19 m [] hp (by omega)
      rw [show decA (19 + 1) m [] = dec m from rfl] at this
      simp [this]
  rw [h2]
  simp [h0, h1]
theorem digs_dec (m : Nat) : (dec m).all digB = true := by
  rw [List.all_eq_true]
  intro c hc
  have := dec_digit m c hc
  simp [digB]; omega
theorem intB_dec (m : Nat) (h : m ≤ 10000000000000) : intB (dec m) = true := by
  unfold intB bodyL
  rw [negB_dec, if_neg (by simp), formB_dec m h, digs_dec]; rfl
theorem intV_dec (m : Nat) (h : m ≤ 10000000000000) : intV (dec m) = m := by
  unfold intV
  rw [if_pos (intB_dec m h), negB_dec, if_neg (by simp)]
  unfold bodyL
  rw [negB_dec, if_neg (by simp), hundL_dec m (by omega)]
theorem intV_bd (l : List UInt8) : -(2300000000000000 : Int) ≤ intV l ∧ intV l ≤ 2300000000000000 := by
  unfold intV
  split
  · rename_i h
    have hl : (bodyL l).length ≤ 14 := by
      unfold intB formB at h
      simp only [Bool.and_eq_true, decide_eq_true_eq] at h
      exact h.1.1.2
    have := hundL_small14 _ hl
    split <;> omega
  · omega
theorem cut_unique {c : Nat} {a a' r r' : List UInt8} {x x' : UInt8} (h : a ++ x :: r = a' ++ x' :: r') (hx : x.toNat = c) (hx' : x'.toNat = c) (ha : ∀ b ∈ a, b.toNat ≠ c) (ha' : ∀ b ∈ a', b.toNat ≠ c) : a = a' ∧ r = r' := by
  induction a generalizing a' with
  | nil =>
    cases a' with
    | nil => simp at h; exact ⟨rfl, h.2⟩
    | cons d ds =>
      simp at h
      exact absurd (by rw [← h.1]; exact hx) (ha' d (by simp))
  | cons d ds ih =>
    cases a' with
    | nil =>
      simp at h
      exact absurd (by rw [h.1]; exact hx') (ha d (by simp))
    | cons e es =>
      simp at h
      obtain ⟨h1, h2⟩ := ih h.2 (fun b hb => ha b (by simp [hb])) (fun b hb => ha' b (by simp [hb]))
      exact ⟨by rw [h.1, h1], h2⟩
/-- what stands behind the sign of an amount's text -/
def restL (l : List UInt8) : List UInt8 := if l.head? = some 45 then l.tail else l
theorem rest_amt (n : Int) (hn : inR n) : restL (amt n) = dec (n.natAbs / 100) ++ 46 :: [dg (n.natAbs / 10), dg n.natAbs] ∧ ((amt n).head? = some 45 ↔ n < 0) := by
  unfold inR at hn
  unfold amt
  rw [if_pos hn]
  by_cases h : n < 0
  · rw [if_pos h]; simp [restL, h]
  · rw [if_neg h, List.nil_append]
    have := head_dec (n.natAbs / 100) [46, dg (n.natAbs / 10), dg n.natAbs]
    unfold restL
    rw [if_neg this]
    exact ⟨rfl, ⟨fun e => absurd e this, fun e => absurd e h⟩⟩
theorem dec_no_dot (m : Nat) : ∀ b ∈ dec m, b.toNat ≠ 46 := fun b hb => by have := dec_digit m b hb; omega
/-- what the model reads of an amount's text is that amount -/
theorem parse_amt (n : Int) (hn : inR n) (a : List UInt8) (x : UInt8) (r : List UInt8) (hc : restL (amt n) = a ++ x :: r) (hx : x.toNat = 46) (ha : ∀ b ∈ a, b.toNat ≠ 46) :
    intB a = true ∧ ∃ p q : UInt8, r = [p, q] ∧ 48 ≤ p.toNat ∧ p.toNat ≤ 57 ∧ 48 ≤ q.toNat ∧ q.toNat ≤ 57 ∧ n = (if (amt n).head? = some 45 then -(100 * intV a + 10 * ((p.toNat : Int) - 48) + ((q.toNat : Int) - 48)) else 100 * intV a + 10 * ((p.toNat : Int) - 48) + ((q.toNat : Int) - 48)) := by
  obtain ⟨h1, h2⟩ := rest_amt n hn
  rw [h1] at hc
  obtain ⟨rfl, rfl⟩ := cut_unique hc (by rfl) hx (dec_no_dot _) ha
  unfold inR at hn
  refine ⟨intB_dec _ (by omega), _, _, rfl, by rw [dg_toNat]; omega, by rw [dg_toNat]; omega, by rw [dg_toNat]; omega, by rw [dg_toNat]; omega, ?_⟩
  rw [intV_dec _ (by omega), dg_toNat, dg_toNat]
  split
  · rename_i h; rw [h2] at h; omega
  · rename_i h; rw [h2] at h; omega
theorem parse_dot (n : Int) (hn : inR n) (h : ∀ b ∈ restL (amt n), b.toNat ≠ 46) : False := by
  rw [(rest_amt n hn).1] at h
  exact h 46 (by simp) rfl
end Go.Proofs.Ytbpopaojkmdffaa
