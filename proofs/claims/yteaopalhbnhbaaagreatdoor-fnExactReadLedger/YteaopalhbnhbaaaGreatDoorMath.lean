/- The plain mathematics of amounts and their texts: no program is named here. -/
namespace Go.Proofs.YteaopalhbnhbaaaGreatDoor
def dg (n : Nat) : UInt8 := UInt8.ofNat (48 + n % 10)
def decA : Nat → Nat → List UInt8 → List UInt8
  | 0, _, acc => acc
  | f + 1, n, acc => if n < 10 then dg n :: acc else decA f (n / 10) (dg n :: acc)
def dec (n : Nat) : List UInt8 := decA 20 n []
def amt (n : Int) : List UInt8 :=
  if -1000000000000 ≤ n ∧ n ≤ 1000000000000 then
    (if n < 0 then [45] else []) ++ (dec (n.natAbs / 100) ++ [46, dg (n.natAbs / 10), dg n.natAbs])
  else []
theorem dg_toNat (n : Nat) : (dg n).toNat = 48 + n % 10 := by
  unfold dg; rw [UInt8.toNat_ofNat']; omega
theorem decA_small (f n : Nat) (acc : List UInt8) (h : n < 10) : decA (f + 1) n acc = dg n :: acc := by
  simp [decA, h]
theorem decA_big (f n : Nat) (acc : List UInt8) (h : 10 ≤ n) : decA (f + 1) n acc = decA f (n / 10) (dg n :: acc) := by
  simp [decA, show ¬ n < 10 by omega]
def hundL : List UInt8 → Int → Int
  | [], a => a
  | c :: cs, a => if c.toNat = 46 then hundL cs a else hundL cs (10 * a + c.toNat - 48)
theorem hundL_append (xs ys : List UInt8) (a : Int) : hundL (xs ++ ys) a = hundL ys (hundL xs a) := by
  induction xs generalizing a with
  | nil => rfl
  | cons c cs ih => simp only [List.cons_append, hundL]; split <;> exact ih _
theorem hundL_dg (n : Nat) (cs : List UInt8) (a : Int) : hundL (dg n :: cs) a = hundL cs (10 * a + (n % 10 : Nat)) := by
  simp only [hundL, dg_toNat]
  rw [if_neg (by omega)]; congr 1; omega
theorem hundL_decA (f n : Nat) (acc : List UInt8) (h : n < 10 ^ (f + 1)) : hundL (decA (f + 1) n acc) 0 = hundL acc n := by
  induction f generalizing n acc with
  | zero => rw [decA_small _ _ _ (by simpa using h), hundL_dg]; congr 1; simp at h; omega
  | succ f ih =>
    by_cases hn : n < 10
    · rw [decA_small _ _ _ hn, hundL_dg]; congr 1; omega
    · rw [decA_big _ _ _ (by omega), ih _ _ (by rw [Nat.pow_succ] at h; omega), hundL_dg]; congr 1; omega
theorem hundL_dec (n : Nat) (h : n < 10 ^ 20) : hundL (dec n) 0 = n := by
  unfold dec; rw [hundL_decA 19 n [] h]; rfl
theorem hundL_amt (n : Nat) (h : n ≤ 1000000000000) : hundL (dec (n / 100) ++ [46, dg (n / 10), dg n]) 0 = n := by
  rw [hundL_append, hundL_dec _ (by omega)]
  show hundL (46 :: dg (n / 10) :: [dg n]) _ = _
  rw [hundL]; rw [if_pos (by decide)]; rw [hundL_dg, hundL_dg]; simp only [hundL]; omega
/-- each byte of a decimal text is a digit -/
theorem decA_digit (f n : Nat) (acc : List UInt8) (hacc : ∀ c ∈ acc, 48 ≤ c.toNat ∧ c.toNat ≤ 57) : ∀ c ∈ decA f n acc, 48 ≤ c.toNat ∧ c.toNat ≤ 57 := by
  induction f generalizing n acc with
  | zero => exact hacc
  | succ f ih =>
    have h' : ∀ c ∈ dg n :: acc, 48 ≤ c.toNat ∧ c.toNat ≤ 57 := by
      intro c hc
      rcases List.mem_cons.1 hc with rfl | hc
      · rw [dg_toNat]; omega
      · exact hacc c hc
    simp only [decA]; split
    · exact h'
    · exact ih _ _ h'
theorem dec_digit (n : Nat) : ∀ c ∈ dec n, 48 ≤ c.toNat ∧ c.toNat ≤ 57 := decA_digit 20 n [] (by simp)
theorem decA_len (f k n : Nat) (acc : List UInt8) (h : n < 10 ^ (k + 1)) (hk : k ≤ f) : (decA (f + 1) n acc).length ≤ k + 1 + acc.length := by
  induction k generalizing n acc f with
  | zero => rw [decA_small _ _ _ (by simpa using h)]; simp; omega
  | succ k ih =>
    by_cases hn : n < 10
    · rw [decA_small _ _ _ hn]; simp; omega
    · obtain ⟨f, rfl⟩ : ∃ g, f = g + 1 := ⟨f - 1, by omega⟩
      rw [decA_big _ _ _ (by omega)]
      have := ih f (n / 10) (dg n :: acc) (by rw [Nat.pow_succ] at h; omega) (by omega)
      simp at this; omega
theorem dec_len (k n : Nat) (h : n < 10 ^ (k + 1)) (hk : k ≤ 19) : (dec n).length ≤ k + 1 := by
  have := decA_len 19 k n [] h hk; simpa [dec] using this
/-- the text of a list of bytes -/
def bs (l : List UInt8) : ByteArray := ⟨l.toArray⟩
theorem bs_size (l : List UInt8) : (bs l).size = l.length := by simp [bs, ByteArray.size]
theorem bs_list (l : List UInt8) : (bs l).data.toList = l := by simp [bs]
theorem bs_of {r : ByteArray} {l : List UInt8} (h : r.data.toList = l) : r = bs l := by subst h; simp [bs]
theorem bs_append (a b : List UInt8) : bs a ++ bs b = bs (a ++ b) := by
  apply bs_of; simp [bs]
theorem list_append (a b : ByteArray) : (a ++ b).data.toList = a.data.toList ++ b.data.toList := by simp
theorem list_one (c : UInt8) (b : ByteArray) : (({ data := #[c] } : ByteArray) ++ b).data.toList = c :: b.data.toList := by simp
theorem one_size (c : UInt8) (b : ByteArray) : (({ data := #[c] } : ByteArray) ++ b).size = b.size + 1 := by
  rw [ByteArray.size_append]; show 1 + b.size = _; omega
theorem dg_small (n : Nat) (h : n < 10) : UInt8.ofNat (48 + n) = dg n := by unfold dg; rw [Nat.mod_eq_of_lt h]
theorem dec_end (f k : Nat) (b : ByteArray) (l : List UInt8) (h : decA (f + 1) k b.data.toList = l) (hk : k < 10) : ({ data := #[UInt8.ofNat (48 + k)] } : ByteArray) ++ b = bs l := by
  apply bs_of; rw [list_one, dg_small k hk, ← decA_small f k _ hk]; exact h
theorem dec_step (f k : Nat) (b : ByteArray) (l : List UInt8) (h : decA (f + 2) k b.data.toList = l) (hk : 10 ≤ k) : decA (f + 1) (k / 10) (({ data := #[UInt8.ofNat (48 + k % 10)] } : ByteArray) ++ b).data.toList = l := by
  rw [list_one]; rw [decA_big _ _ _ hk] at h; exact h
end Go.Proofs.YteaopalhbnhbaaaGreatDoor
