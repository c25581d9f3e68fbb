/- The contracts of lettersOf, NameOk and CurOk, of the program and of its model. -/
import Derived.Test.YteaopalhbnhbaaaGreatDoorPl
import Derived.WalkKit
import Derived.ProofKit
import Derived.OpenShut
import Derived.ShutString
import Derived.WalkSpells
import Derived.WalkLawsBesides
import Derived.Below
import Derived.Lib.ItoaNum
import Derived.Laws.BytesArg
namespace Go.Proofs.YteaopalhbnhbaaaGreatDoor
open Go.ChangeShapes Go.WideShapes Go.ChangeAt Go.RowKit
set_option linter.unusedVariables false
set_option maxRecDepth 100000

def letB (lo hi : Int) (c : UInt8) : Bool := decide (lo ≤ (c.toNat : Int) ∧ (c.toNat : Int) ≤ hi)
def lets (lo hi : Int) (l : List UInt8) : Bool := l.all (letB lo hi)
theorem take_snoc (s : ByteArray) (k : Nat) (h : k < s.size) : s.data.toList.take (k + 1) = s.data.toList.take k ++ [s[k]] := by
  rw [List.take_succ_eq_append_getElem (by simpa using h)]; rfl
theorem lets_snoc (lo hi : Int) (l : List UInt8) (c : UInt8) : lets lo hi (l ++ [c]) = (lets lo hi l && letB lo hi c) := by
  simp [lets]
theorem lets_no (lo hi : Int) (s : ByteArray) (k : Nat) (h : k < s.size) (hb : letB lo hi s[k] = false) : lets lo hi s.data.toList = false := by
  have e := List.take_append_drop (k + 1) s.data.toList
  rw [take_snoc s k h] at e
  rw [← e]
  simp only [lets, List.all_append]
  simp [hb]
theorem lets_all (lo hi : Int) (s : ByteArray) (k : Nat) (h : ¬ k < s.size) (hb : lets lo hi (s.data.toList.take k) = true) : lets lo hi s.data.toList = true := by
  rw [List.take_of_length_le (by simp; omega)] at hb; exact hb

set_option maxHeartbeats 400000 in
theorem lettersOf_any (s : ByteArray) (lo hi : Int) (w : World) (hs : s.size ≤ maxLen) :
    Calls Tryz.prog 97 #[.string s, .int .u8 lo, .int .u8 hi] w fun e w' => e = .returned (.bool (lets lo hi s.data.toList)) ∧ w' = w := by
  unfold maxLen at hs
  go_enter Tryz.func97, Tryz.ntmps97
  go_wp2
  go_loop [10] (fun i => ∃ k : Nat, k ≤ s.size ∧ i = .int .i64 k ∧ Hid (lets lo hi (s.data.toList.take k) = true)) (fun i => s.size - (intOf i).toNat)
  case atStart => exact ⟨0, Nat.zero_le _, rfl, show Hid _ from hide rfl⟩
  case round =>
    obtain ⟨k, hk, rfl, HL⟩ := hrel
    by_cases hlt : k < s.size
    · have hsn := take_snoc s k hlt
      by_cases h1 : (s[k].toNat : Int) < lo
      · have HR : Hid (lets lo hi s.data.toList = false) := hide (lets_no lo hi s k hlt (by simp [letB]; omega))
        clear hsn
        go_wp2
        go_ret
        exact ⟨by rw [HR.out]; rfl, rfl⟩
      · by_cases h2 : hi < (s[k].toNat : Int)
        · have HR : Hid (lets lo hi s.data.toList = false) := hide (lets_no lo hi s k hlt (by simp [letB]; omega))
          clear hsn
          go_wp2
          go_ret
          exact ⟨by rw [HR.out]; rfl, rfl⟩
        · have HR : Hid (lets lo hi (s.data.toList.take (k + 1)) = true) := hide (by rw [hsn, lets_snoc, HL.out]; simp [letB]; omega)
          clear hsn
          go_wp2
          go_round
          case rel => exact ⟨k + 1, by omega, by go_num, HR⟩
          case measure => simp [intOf]; omega
    · have HR : Hid (lets lo hi s.data.toList = true) := hide (lets_all lo hi s k hlt HL.out)
      go_wp2
      go_ret
      exact ⟨by rw [HR.out]; rfl, rfl⟩

def nameB (s : ByteArray) : Bool := decide (1 ≤ s.size) && decide (s.size ≤ 12) && lets 97 122 s.data.toList
def curB (s : ByteArray) : Bool := decide (s.size = 3) && lets 65 90 s.data.toList

set_option maxHeartbeats 400000 in
theorem implNameOk_any (s : ByteArray) (w : World) (hs : s.size ≤ maxLen) :
    Calls Tryz.prog 68 #[.string s] w fun e w' => e = .returned (.bool (nameB s)) ∧ w' = w := by
  have hm := hs
  unfold maxLen at hs
  by_cases h1 : 1 ≤ s.size
  · by_cases h2 : s.size ≤ 12
    · have HR : Hid (nameB s = lets 97 122 s.data.toList) := hide (by simp [nameB, h1, h2])
      have a1 : (1 : Int) ≤ (s.size : Int) := by omega
      have a2 : (s.size : Int) ≤ 12 := by omega
      go_enter Tryz.func68, Tryz.ntmps68
      go_wp2_with (go_at_call 97; refine (lettersOf_any _ _ _ _ hm).mono ?_; rintro e w' ⟨rfl, rfl⟩)
      go_ret
      exact ⟨by rw [HR.out]; rfl, rfl⟩
    · have HR : Hid (nameB s = false) := hide (by simp [nameB]; omega)
      have a1 : (1 : Int) ≤ (s.size : Int) := by omega
      have a2 : ¬ (s.size : Int) ≤ 12 := by omega
      go_enter Tryz.func68, Tryz.ntmps68
      go_wp2
      go_ret
      exact ⟨by rw [HR.out]; rfl, rfl⟩
  · have HR : Hid (nameB s = false) := hide (by simp [nameB]; omega)
    have a1 : ¬ (1 : Int) ≤ (s.size : Int) := by omega
    go_enter Tryz.func68, Tryz.ntmps68
    go_wp2
    go_ret
    exact ⟨by rw [HR.out]; rfl, rfl⟩

set_option maxHeartbeats 400000 in
theorem implCurOk_any (s : ByteArray) (w : World) (hs : s.size ≤ maxLen) :
    Calls Tryz.prog 69 #[.string s] w fun e w' => e = .returned (.bool (curB s)) ∧ w' = w := by
  have hm := hs
  unfold maxLen at hs
  by_cases h1 : s.size = 3
  · have HR : Hid (curB s = lets 65 90 s.data.toList) := hide (by simp [curB, h1])
    have a1 : ((s.size : Int) == 3) = true := by simp; omega
    clear h1
    go_enter Tryz.func69, Tryz.ntmps69
    go_wp2_with (go_at_call 97; refine (lettersOf_any _ _ _ _ hm).mono ?_; rintro e w' ⟨rfl, rfl⟩)
    go_ret
    exact ⟨by rw [HR.out]; rfl, rfl⟩
  · have HR : Hid (curB s = false) := hide (by simp [curB]; omega)
    have a1 : ((s.size : Int) == 3) = false := by simp; omega
    go_enter Tryz.func69, Tryz.ntmps69
    go_wp2
    go_ret
    exact ⟨by rw [HR.out]; rfl, rfl⟩

set_option maxHeartbeats 400000 in
theorem specNameOk_any (s : ByteArray) (w : World) (hs : s.size ≤ maxLen) :
    Calls Tryz.prog 64 #[.string s] w fun e w' => e = .returned (.bool (nameB s)) ∧ w' = w := by
  have hm := hs
  unfold maxLen at hs
  by_cases h1 : 1 ≤ s.size
  · by_cases h2 : s.size ≤ 12
    · have HR : Hid (nameB s = lets 97 122 s.data.toList) := hide (by simp [nameB, h1, h2])
      have a1 : ¬ (s.size : Int) < 1 := by omega
      have a2 : ¬ 12 < (s.size : Int) := by omega
      go_enter Tryz.func64, Tryz.ntmps64
      go_wp2
      go_loop [3] (fun i => ∃ k : Nat, k ≤ s.size ∧ i = .int .i64 k ∧ Hid (lets 97 122 (s.data.toList.take k) = true)) (fun i => s.size - (intOf i).toNat)
      case atStart => exact ⟨0, Nat.zero_le _, rfl, hide rfl⟩
      case round =>
        obtain ⟨k, hk, rfl, HL⟩ := hrel
        by_cases hlt : k < s.size
        · have hsn := take_snoc s k hlt
          by_cases h3 : (s[k].toNat : Int) < 97
          · have HS : Hid (lets 97 122 s.data.toList = false) := hide (lets_no 97 122 s k hlt (by simp [letB]; omega))
            clear hsn
            go_wp2
            go_ret
            exact ⟨by rw [HR.out, HS.out]; rfl, rfl⟩
          · by_cases h4 : 122 < (s[k].toNat : Int)
            · have HS : Hid (lets 97 122 s.data.toList = false) := hide (lets_no 97 122 s k hlt (by simp [letB]; omega))
              clear hsn
              go_wp2
              go_ret
              exact ⟨by rw [HR.out, HS.out]; rfl, rfl⟩
            · have HS : Hid (lets 97 122 (s.data.toList.take (k + 1)) = true) := hide (by rw [hsn, lets_snoc, HL.out]; simp [letB]; omega)
              clear hsn
              go_wp2
              go_round
              case rel => exact ⟨k + 1, by omega, by go_num, HS⟩
              case measure => simp [intOf]; omega
        · have HS : Hid (lets 97 122 s.data.toList = true) := hide (lets_all 97 122 s k hlt HL.out)
          go_wp2
          go_ret
          exact ⟨by rw [HR.out, HS.out]; rfl, rfl⟩
    · have HR : Hid (nameB s = false) := hide (by simp [nameB]; omega)
      have a1 : ¬ (s.size : Int) < 1 := by omega
      have a2 : 12 < (s.size : Int) := by omega
      go_enter Tryz.func64, Tryz.ntmps64
      go_wp2
      go_ret
      exact ⟨by rw [HR.out]; rfl, rfl⟩
  · have HR : Hid (nameB s = false) := hide (by simp [nameB]; omega)
    have a1 : (s.size : Int) < 1 := by omega
    go_enter Tryz.func64, Tryz.ntmps64
    go_wp2
    go_ret
    exact ⟨by rw [HR.out]; rfl, rfl⟩

set_option maxHeartbeats 400000 in
theorem specCurOk_any (s : ByteArray) (w : World) (hs : s.size ≤ maxLen) :
    Calls Tryz.prog 65 #[.string s] w fun e w' => e = .returned (.bool (curB s)) ∧ w' = w := by
  have hm := hs
  unfold maxLen at hs
  by_cases h1 : s.size = 3
  · have HR : Hid (curB s = lets 65 90 s.data.toList) := hide (by simp [curB, h1])
    have a1 : ((s.size : Int) != 3) = false := by simp; omega
    have b1 : s.size ≤ 3 := by omega
    have b2 : 3 ≤ s.size := by omega
    clear h1
    go_enter Tryz.func65, Tryz.ntmps65
    go_wp2
    go_loop [3] (fun i => ∃ k : Nat, k ≤ s.size ∧ i = .int .i64 k ∧ Hid (lets 65 90 (s.data.toList.take k) = true)) (fun i => s.size - (intOf i).toNat)
    case atStart => exact ⟨0, Nat.zero_le _, rfl, hide rfl⟩
    case round =>
      obtain ⟨k, hk, rfl, HL⟩ := hrel
      by_cases hlt : k < s.size
      · have hsn := take_snoc s k hlt
        have hk3 : (k : Int) < 3 := by omega
        by_cases h3 : (s[k].toNat : Int) < 65
        · have HS : Hid (lets 65 90 s.data.toList = false) := hide (lets_no 65 90 s k hlt (by simp [letB]; omega))
          clear hsn
          go_wp2
          go_ret
          exact ⟨by rw [HR.out, HS.out]; rfl, rfl⟩
        · by_cases h4 : 90 < (s[k].toNat : Int)
          · have HS : Hid (lets 65 90 s.data.toList = false) := hide (lets_no 65 90 s k hlt (by simp [letB]; omega))
            clear hsn
            go_wp2
            go_ret
            exact ⟨by rw [HR.out, HS.out]; rfl, rfl⟩
          · have HS : Hid (lets 65 90 (s.data.toList.take (k + 1)) = true) := hide (by rw [hsn, lets_snoc, HL.out]; simp [letB]; omega)
            clear hsn
            go_wp2
            go_round
            case rel => exact ⟨k + 1, by omega, by go_num, HS⟩
            case measure => simp [intOf]; omega
      · have HS : Hid (lets 65 90 s.data.toList = true) := hide (lets_all 65 90 s k hlt HL.out)
        have hk3 : ¬ (k : Int) < 3 := by omega
        go_wp2
        go_ret
        exact ⟨by rw [HR.out, HS.out]; rfl, rfl⟩
  · have HR : Hid (curB s = false) := hide (by simp [curB]; omega)
    have a1 : ((s.size : Int) != 3) = true := by simp; omega
    go_enter Tryz.func65, Tryz.ntmps65
    go_wp2
    go_ret
    exact ⟨by rw [HR.out]; rfl, rfl⟩
end Go.Proofs.YteaopalhbnhbaaaGreatDoor
/- The plain mathematics of amounts and their texts: no program is named here. -/
namespace Go.Proofs.YteaopalhbnhbaaaGreatDoor
def dg (n : Nat) : UInt8 := UInt8.ofNat (48 + n % 10)
def decA : Nat → Nat → List UInt8 → List UInt8
  | 0, _, acc => acc
  | f + 1, n, acc => if n < 10 then dg n :: acc else decA f (n / 10) (dg n :: acc)
def dec (n : Nat) : List UInt8 := decA 20 n []
def amt (n : Int) : List UInt8 :=
  if -1000000000000 ≤ n ∧ n ≤ 1000000000000 then
    (if n < 0 then [45] else []) ++ (dec (n.natAbs / 100) ++ [46, dg (n.natAbs / 10), dg n.natAbs])
  else []
theorem dg_toNat (n : Nat) : (dg n).toNat = 48 + n % 10 := by
  unfold dg; rw [UInt8.toNat_ofNat']; omega
theorem decA_small (f n : Nat) (acc : List UInt8) (h : n < 10) : decA (f + 1) n acc = dg n :: acc := by
  simp [decA, h]
theorem decA_big (f n : Nat) (acc : List UInt8) (h : 10 ≤ n) : decA (f + 1) n acc = decA f (n / 10) (dg n :: acc) := by
  simp [decA, show ¬ n < 10 by omega]
def hundL : List UInt8 → Int → Int
  | [], a => a
  | c :: cs, a => if c.toNat = 46 then hundL cs a else hundL cs (10 * a + c.toNat - 48)
theorem hundL_append (xs ys : List UInt8) (a : Int) : hundL (xs ++ ys) a = hundL ys (hundL xs a) := by
  induction xs generalizing a with
  | nil => rfl
  | cons c cs ih => simp only [List.cons_append, hundL]; split <;> exact ih _
theorem hundL_dg (n : Nat) (cs : List UInt8) (a : Int) : hundL (dg n :: cs) a = hundL cs (10 * a + (n % 10 : Nat)) := by
  simp only [hundL, dg_toNat]
  rw [if_neg (by omega)]; congr 1; omega
theorem hundL_decA (f n : Nat) (acc : List UInt8) (h : n < 10 ^ (f + 1)) : hundL (decA (f + 1) n acc) 0 = hundL acc n := by
  induction f generalizing n acc with
  | zero => rw [decA_small _ _ _ (by simpa using h), hundL_dg]; congr 1; simp at h; omega
  | succ f ih =>
    by_cases hn : n < 10
    · rw [decA_small _ _ _ hn, hundL_dg]; congr 1; omega
    · rw [decA_big _ _ _ (by omega), ih _ _ (by rw [Nat.pow_succ] at h; omega), hundL_dg]; congr 1; omega
theorem hundL_dec (n : Nat) (h : n < 10 ^ 20) : hundL (dec n) 0 = n := by
  unfold dec; rw [hundL_decA 19 n [] h]; rfl
theorem hundL_amt (n : Nat) (h : n ≤ 1000000000000) : hundL (dec (n / 100) ++ [46, dg (n / 10), dg n]) 0 = n := by
  rw [hundL_append, hundL_dec _ (by omega)]
  show hundL (46 :: dg (n / 10) :: [dg n]) _ = _
  rw [hundL]; rw [if_pos (by decide)]; rw [hundL_dg, hundL_dg]; simp only [hundL]; omega
/-- each byte of a decimal text is a digit -/
theorem decA_digit (f n : Nat) (acc : List UInt8) (hacc : ∀ c ∈ acc, 48 ≤ c.toNat ∧ c.toNat ≤ 57) : ∀ c ∈ decA f n acc, 48 ≤ c.toNat ∧ c.toNat ≤ 57 := by
  induction f generalizing n acc with
  | zero => exact hacc
  | succ f ih =>
    have h' : ∀ c ∈ dg n :: acc, 48 ≤ c.toNat ∧ c.toNat ≤ 57 := by
      intro c hc
      rcases List.mem_cons.1 hc with rfl | hc
      · rw [dg_toNat]; omega
      · exact hacc c hc
    simp only [decA]; split
    · exact h'
    · exact ih _ _ h'
theorem dec_digit (n : Nat) : ∀ c ∈ dec n, 48 ≤ c.toNat ∧ c.toNat ≤ 57 := decA_digit 20 n [] (by simp)
theorem decA_len (f k n : Nat) (acc : List UInt8) (h : n < 10 ^ (k + 1)) (hk : k ≤ f) : (decA (f + 1) n acc).length ≤ k + 1 + acc.length := by
  induction k generalizing n acc f with
  | zero => rw [decA_small _ _ _ (by simpa using h)]; simp; omega
  | succ k ih =>
    by_cases hn : n < 10
    · rw [decA_small _ _ _ hn]; simp; omega
    · obtain ⟨f, rfl⟩ : ∃ g, f = g + 1 := ⟨f - 1, by omega⟩
      rw [decA_big _ _ _ (by omega)]
      have := ih f (n / 10) (dg n :: acc) (by rw [Nat.pow_succ] at h; omega) (by omega)
      simp at this; omega
theorem dec_len (k n : Nat) (h : n < 10 ^ (k + 1)) (hk : k ≤ 19) : (dec n).length ≤ k + 1 := by
  have := decA_len 19 k n [] h hk; simpa [dec] using this
/-- the text of a list of bytes -/
def bs (l : List UInt8) : ByteArray := ⟨l.toArray⟩
theorem bs_size (l : List UInt8) : (bs l).size = l.length := by simp [bs, ByteArray.size]
theorem bs_list (l : List UInt8) : (bs l).data.toList = l := by simp [bs]
theorem bs_of {r : ByteArray} {l : List UInt8} (h : r.data.toList = l) : r = bs l := by subst h; simp [bs]
theorem bs_append (a b : List UInt8) : bs a ++ bs b = bs (a ++ b) := by
  apply bs_of; simp [bs]
theorem list_append (a b : ByteArray) : (a ++ b).data.toList = a.data.toList ++ b.data.toList := by simp
theorem list_one (c : UInt8) (b : ByteArray) : (({ data := #[c] } : ByteArray) ++ b).data.toList = c :: b.data.toList := by simp
theorem one_size (c : UInt8) (b : ByteArray) : (({ data := #[c] } : ByteArray) ++ b).size = b.size + 1 := by
  rw [ByteArray.size_append]; show 1 + b.size = _; omega
theorem dg_small (n : Nat) (h : n < 10) : UInt8.ofNat (48 + n) = dg n := by unfold dg; rw [Nat.mod_eq_of_lt h]
theorem dec_end (f k : Nat) (b : ByteArray) (l : List UInt8) (h : decA (f + 1) k b.data.toList = l) (hk : k < 10) : ({ data := #[UInt8.ofNat (48 + k)] } : ByteArray) ++ b = bs l := by
  apply bs_of; rw [list_one, dg_small k hk, ← decA_small f k _ hk]; exact h
theorem dec_step (f k : Nat) (b : ByteArray) (l : List UInt8) (h : decA (f + 2) k b.data.toList = l) (hk : 10 ≤ k) : decA (f + 1) (k / 10) (({ data := #[UInt8.ofNat (48 + k % 10)] } : ByteArray) ++ b).data.toList = l := by
  rw [list_one]; rw [decA_big _ _ _ hk] at h; exact h
end Go.Proofs.YteaopalhbnhbaaaGreatDoor
/- The contracts of the model's l1Dec and of within. -/
namespace Go.Proofs.YteaopalhbnhbaaaGreatDoor
open Go.ChangeShapes Go.WideShapes Go.ChangeAt Go.RowKit
set_option linter.unusedVariables false
set_option maxRecDepth 100000

/-- of what was there nothing has turned -/
structure Kept (w w' : World) : Prop where
  grown : Grown w w'
  below : Below w.heap.size w w'
theorem Kept.refl (w : World) : Kept w w := ⟨Grown.refl _, Below.refl _ _⟩
theorem Kept.trans {a b c : World} (h : Kept a b) (k : Kept b c) : Kept a c :=
  ⟨⟨World.keptBut_trans h.grown.1 k.grown.1, fun x => (k.grown.2.1 x).trans (h.grown.2.1 x), Nat.le_trans h.grown.2.2 k.grown.2.2⟩, h.below.trans (k.below.mono h.below.size)⟩
theorem Kept.alloc {a w : World} (h : Kept a w) (c : Array Value) (t : TypeId) : Kept a (w.alloc (.cells c t)) := ⟨h.grown.alloc c t, h.below.alloc h.below.size _⟩
theorem Kept.setCell {a w : World} (h : Kept a w) {p : Addr} (hp : a.heap.size ≤ p.block) (v : Value) : Kept a (w.setCell p v) := ⟨h.grown.setCell hp v, h.below.setCell hp v⟩
theorem Kept.drew {a w : World} (h : Kept a w) : Kept a w.drew := ⟨h.grown.drew, h.below.drew⟩

theorem conv1 (w : World) (a : Int) : (convert 22 9 (.slice (some ⟨w.heap.size, 0, none⟩) 1 1)).run Tryz.prog (w.alloc (.cells #[.int .u8 a] 5)) = .ok (.string ⟨#[UInt8.ofNat a.toNat]⟩) (w.alloc (.cells #[.int .u8 a] 5)) := by
  have h := run_convert_bytes_arg (P := Tryz.prog) (w.alloc (.cells #[.int .u8 a] 5)) 22 5 Tryz.underlying22 Tryz.underlying5 w.heap.size 0 1 1 [a] rfl (fun i hi => by
    obtain rfl : i = 0 := by omega
    simp) 9 Tryz.underlying9
  rw [h]; rfl
set_option maxHeartbeats 400000 in
theorem l1Dec_any (n : Int) (w : World) (h0 : 0 ≤ n) (h1 : n ≤ 1000000000000000) :
    Calls Tryz.prog 26 #[.int .i64 n] w fun e w' => e = .returned (.string (bs (dec n.toNat))) ∧ Kept w w' := by
  have a1 : ¬ n < 0 := by omega
  go_enter Tryz.func26, Tryz.ntmps26
  go_wp2
  go_loopw [0, 3] (fun i s w' => ∃ (k : Int) (f : Nat), 0 ≤ k ∧ k ≤ n ∧ i = .int .i64 k ∧ ∃ b : ByteArray, s = .string b ∧ Kept w w' ∧ b.size + f ≤ 19 ∧ Hid (k.toNat < 10 ^ (f + 1)) ∧ Hid (decA (f + 1) k.toNat b.data.toList = dec n.toNat)) (fun i s w => (intOf i).toNat)
  case atStart => exact ⟨n, 19, h0, by omega, rfl, _, rfl, Kept.refl _, by decide, hide (by omega), hide rfl⟩
  case round =>
    obtain ⟨k, f, hk, hk2, rfl, b, rfl, HK, hb, HP, HD⟩ := hrel
    have hc := conv1
    by_cases h : 10 ≤ k
    · have HD2 : Hid (∃ g, f = g + 1 ∧ (k / 10).toNat < 10 ^ (g + 1) ∧ decA (g + 1) (k / 10).toNat (({ data := #[UInt8.ofNat (48 + k % 10).toNat] } : ByteArray) ++ b).data.toList = dec n.toNat) := hide (by
        have hp := HP.out
        have hd := HD.out
        obtain ⟨g, rfl⟩ : ∃ g, f = g + 1 := by
          rcases f with _ | g
          · simp at hp; omega
          · exact ⟨g, rfl⟩
        refine ⟨g, rfl, by rw [Nat.pow_succ] at hp; omega, ?_⟩
        have := dec_step g k.toNat b _ hd (by omega)
        rw [show (k / 10).toNat = k.toNat / 10 by omega, show (48 + k % 10).toNat = 48 + k.toNat % 10 by omega]
        exact this)
      clear HP HD
      go_wp2
      obtain ⟨g, rfl, hp, hd⟩ := HD2.out
      exact ⟨⟨k / 10, g, by omega, by omega, rfl, _, rfl, HK.alloc _ _, by rw [one_size]; omega, hide hp, hide hd⟩, by simp [intOf]; omega⟩
    · have HD2 : Hid (({ data := #[UInt8.ofNat (48 + k).toNat] } : ByteArray) ++ b = bs (dec n.toNat)) := hide (by
        have := dec_end f k.toNat b _ HD.out (by omega)
        rw [show (48 + k).toNat = 48 + k.toNat by omega]; exact this)
      clear HP HD
      go_wp2
      go_ret
      exact ⟨by rw [← HD2.out]; rfl, HK.alloc _ _⟩

theorem within_any (n lo hi : Int) (w : World) :
    Calls Tryz.prog 70 #[.int .i64 n, .int .i64 lo, .int .i64 hi] w fun e w' => e = .returned (.bool (inB lo hi n)) ∧ w' = w := by
  by_cases h1 : lo ≤ n
  · by_cases h2 : n ≤ hi
    · have HR : Hid (inB lo hi n = true) := hide (by simp [inB, h1, h2])
      go_enter Tryz.func70, Tryz.ntmps70
      go_wp2
      go_ret
      exact ⟨by rw [HR.out]; rfl, rfl⟩
    · have HR : Hid (inB lo hi n = false) := hide (by simp [inB, h1, h2])
      go_enter Tryz.func70, Tryz.ntmps70
      go_wp2
      go_ret
      exact ⟨by rw [HR.out]; rfl, rfl⟩
  · have HR : Hid (inB lo hi n = false) := hide (by simp [inB, h1])
    go_enter Tryz.func70, Tryz.ntmps70
    go_wp2
    go_ret
    exact ⟨by rw [HR.out]; rfl, rfl⟩
theorem l1In_any (n lo hi : Int) (w : World) :
    Calls Tryz.prog 62 #[.int .i64 n, .int .i64 lo, .int .i64 hi] w fun e w' => e = .returned (.bool (inB lo hi n)) ∧ w' = w := by
  by_cases h1 : lo ≤ n
  · by_cases h2 : n ≤ hi
    · have HR : Hid (inB lo hi n = true) := hide (by simp [inB, h1, h2])
      go_enter Tryz.func62, Tryz.ntmps62
      go_wp2
      go_ret
      exact ⟨by rw [HR.out]; rfl, rfl⟩
    · have HR : Hid (inB lo hi n = false) := hide (by simp [inB, h1, h2])
      go_enter Tryz.func62, Tryz.ntmps62
      go_wp2
      go_ret
      exact ⟨by rw [HR.out]; rfl, rfl⟩
  · have HR : Hid (inB lo hi n = false) := hide (by simp [inB, h1])
    go_enter Tryz.func62, Tryz.ntmps62
    go_wp2
    go_ret
    exact ⟨by rw [HR.out]; rfl, rfl⟩
theorem dec_digits : ∀ (f n : Nat) (acc : List UInt8), n < 10 ^ (f + 1) → decA (f + 1) n acc = Lib.decDigits n ++ acc
  | 0, n, acc, h => by
    have h' : n < 10 := by simpa using h
    rw [decA_small _ _ _ h', Lib.decDigits, dif_pos h', dg_small n h']
    rfl
  | f + 1, n, acc, h => by
    by_cases hn : n < 10
    · rw [decA_small _ _ _ hn, Lib.decDigits, dif_pos hn, dg_small n hn]
      rfl
    · rw [decA_big _ _ _ (by omega), dec_digits f (n / 10) _ (by rw [Nat.pow_succ] at h; omega)]
      conv => rhs; rw [Lib.decDigits, dif_neg hn]
      simp [dg]
theorem dec_lib {n : Nat} (h : n < 10 ^ 20) : dec n = Lib.decDigits n := by
  unfold dec
  rw [dec_digits 19 n [] h, List.append_nil]
theorem itoa_pos {n : Int} (h : 0 ≤ n) (h1 : n ≤ 1000000000000000) : dec n.toNat = Lib.itoa n := by
  rw [dec_lib (by omega), Lib.itoa, if_neg (by omega)]
theorem itoa_neg {n : Int} (h : n < 0) (h1 : -1000000000000000 ≤ n) : 45 :: dec (-n).toNat = Lib.itoa n := by
  rw [dec_lib (by omega), Lib.itoa, if_pos h, show n.natAbs = (-n).toNat by omega]
set_option maxHeartbeats 400000 in
theorem l1Dec_all (n : Int) (w : World) (h0 : -1000000000000000 ≤ n) (h1 : n ≤ 1000000000000000) :
    Calls Tryz.prog 26 #[.int .i64 n] w fun e w' => e = .returned (.string (bs (Lib.itoa n))) ∧ Below w.heap.size w w' := by
  by_cases h : n < 0
  · have HR : Hid (({ data := #[45] } : ByteArray) ++ bs (dec (-n).toNat) = bs (Lib.itoa n)) := hide (by apply bs_of; rw [list_one, bs_list, itoa_neg h h0])
    go_enter Tryz.func26, Tryz.ntmps26
    go_wp2_with fail
    refine (l1Dec_any (-n) w (by omega) (by omega)).mono ?_
    rintro e w1 ⟨rfl, hk⟩
    have HB : Hid _ := hide hk.below
    have hsz : (bs (dec (-n).toNat)).size ≤ 30 := by rw [bs_size]; have := dec_len 15 (-n).toNat (by omega) (by omega); omega
    clear hk
    go_wp2
    go_ret
    exact ⟨by rw [← HR.out]; rfl, HB.out⟩
  · refine (l1Dec_any n w (by omega) h1).mono ?_
    rintro e w1 ⟨rfl, hk⟩
    exact ⟨by rw [itoa_pos (by omega) h1], hk.below⟩
end Go.Proofs.YteaopalhbnhbaaaGreatDoor
