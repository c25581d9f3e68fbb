/- Reading a command: the plain mathematics. -/
import Derived.Test.YteaopalhbnhbaaaGreatDoorTxtS
import Derived.Test.YteaopalhbnhbaaaGreatDoorWds
namespace Go.Proofs.YteaopalhbnhbaaaGreatDoor
set_option linter.unusedVariables false
/-- a byte that parts words -/
def sepB (c : UInt8) : Bool := c == 32 || c == 10
def wordOf (l : List UInt8) : List UInt8 := l.takeWhile (fun c => !sepB c)
def restOf (l : List UInt8) : List UInt8 := l.dropWhile (fun c => !sepB c)
theorem word_rest (l : List UInt8) : wordOf l ++ restOf l = l := List.takeWhile_append_dropWhile
theorem word_app {a r : List UInt8} (ha : ∀ c ∈ a, sepB c = false) (hr : ∀ c, r.head? = some c → sepB c = true) : wordOf (a ++ r) = a ∧ restOf (a ++ r) = r := by
  induction a with
  | nil =>
    cases r with
    | nil => exact ⟨rfl, rfl⟩
    | cons c cs =>
      have := hr c rfl
      simp [wordOf, restOf, this]
  | cons x xs ih =>
    have hx := ha x (List.mem_cons_self ..)
    obtain ⟨i1, i2⟩ := ih (fun c hc => ha c (List.mem_cons_of_mem _ hc))
    simp only [wordOf, restOf] at i1 i2 ⊢
    rw [List.cons_append, List.takeWhile_cons_of_pos (by simp [hx]), List.dropWhile_cons_of_pos (by simp [hx]), i1, i2]
    exact ⟨rfl, rfl⟩
theorem decA_head (f n : Nat) (acc : List UInt8) (h : 1 ≤ n) (hn : n < 10 ^ (f + 1)) : (decA (f + 1) n acc).head? ≠ some 48 := by
  induction f generalizing n acc with
  | zero =>
    rw [decA_small _ _ _ (by simpa using hn)]
    simp only [List.head?_cons, ne_eq, Option.some.injEq]
    intro e
    have := congrArg UInt8.toNat e
    rw [dg_toNat] at this
    simp at hn
    revert this; simp; omega
  | succ f ih =>
    by_cases h1 : n < 10
    · rw [decA_small _ _ _ h1]
      simp only [List.head?_cons, ne_eq, Option.some.injEq]
      intro e
      have := congrArg UInt8.toNat e
      rw [dg_toNat] at this
      revert this; simp; omega
    · rw [decA_big _ _ _ (by omega)]
      exact ih _ _ (by omega) (by rw [Nat.pow_succ] at hn; omega)
theorem negB_dec (m : Nat) : negB (dec m) = false := by
  unfold negB
  have := head_dec m []
  rw [List.append_nil] at this
  simp [this]
theorem dec_pos (m : Nat) : 1 ≤ (dec m).length := by
  cases e : dec m with
  | nil => exact absurd e (dec_ne_nil m)
  | cons c cs => simp
theorem dec_nought {m : Nat} (h : m ≤ 99999999999999) (hp : 1 ≤ m) : (dec m).head? ≠ some 48 := by
  have := decA_head 19 m [] hp (by omega)
  rwa [show decA (19 + 1) m [] = dec m from rfl] at this
theorem digs_dec (m : Nat) : (dec m).all digB = true := by
  rw [List.all_eq_true]
  intro c hc
  have := dec_digit m c hc
  simp [digB]; omega
theorem intB_dec {m : Nat} (h : m ≤ 99999999999999) : intB (dec m) = true := by
  unfold intB bodyL
  rw [negB_dec, if_neg (by simp), digs_dec, Bool.and_true]
  unfold formB
  have h1 := dec_len 13 m (by omega) (by omega)
  have h0 := dec_pos m
  have h2 : (decide ((dec m).head? = some 48) && (decide (1 < (dec m).length) || false)) = false := by
    rcases Nat.eq_zero_or_pos m with rfl | hp
    · rfl
    · simp [dec_nought h hp]
  rw [h2]
  simp [h0, h1]
theorem intV_dec {m : Nat} (h : m ≤ 99999999999999) : intV (dec m) = m := by
  unfold intV
  rw [if_pos (intB_dec h), negB_dec, if_neg (by simp)]
  unfold bodyL
  rw [negB_dec, if_neg (by simp), hundL_dec m (by omega)]
theorem negB_neg (m : Nat) : negB (45 :: dec m) = true := by
  have := dec_pos m
  simp [negB]
  omega
theorem intB_neg {m : Nat} (h : m ≤ 99999999999999) (hp : 1 ≤ m) : intB (45 :: dec m) = true := by
  unfold intB bodyL
  rw [negB_neg, if_pos rfl, List.tail_cons, digs_dec, Bool.and_true]
  unfold formB
  have h1 := dec_len 13 m (by omega) (by omega)
  have h0 := dec_pos m
  simp [h0, h1, dec_nought h hp]
theorem intV_neg {m : Nat} (h : m ≤ 99999999999999) (hp : 1 ≤ m) : intV (45 :: dec m) = -m := by
  unfold intV
  rw [if_pos (intB_neg h hp), negB_neg, if_pos rfl]
  unfold bodyL
  rw [negB_neg, if_pos rfl, List.tail_cons, hundL_dec m (by omega)]
/-- a number's text is a number -/
theorem int_itoa {n : Int} (h0 : -99999999999999 ≤ n) (h1 : n ≤ 99999999999999) : intB (Lib.itoa n) = true ∧ intV (Lib.itoa n) = n := by
  by_cases h : n < 0
  · rw [← itoa_neg h (by omega)]
    refine ⟨intB_neg (by omega) (by omega), ?_⟩
    rw [intV_neg (by omega) (by omega)]
    omega
  · rw [← itoa_pos (by omega) (by omega)]
    refine ⟨intB_dec (by omega), ?_⟩
    rw [intV_dec (by omega)]
    omega
end Go.Proofs.YteaopalhbnhbaaaGreatDoor
