/- The contract of the model's l1Cut. -/
import Derived.Test.YteaopalhbnhbaaaGreatDoorData
import Derived.Test.YteaopalhbnhbaaaGreatDoorRd
import Derived.Test.YteaopalhbnhbaaaGreatDoorAmt
import Derived.Test.YteaopalhbnhbaaaGreatDoorMath2
import Derived.Lib.Strings
import Derived.Lib.IndexBytes
import Derived.Deep.QuietTactic
import Derived.BigQuiet
namespace Go.Proofs.YteaopalhbnhbaaaGreatDoor
open Go.ChangeShapes Go.WideShapes Go.ChangeAt Go.RowKit
set_option linter.unusedVariables false
set_option maxRecDepth 100000
theorem head_of (s : ByteArray) (h : 1 ≤ s.size) : s.data.toList = s[0] :: s.data.toList.tail := by
  have hl : s.data.toList.length = s.size := by simp
  cases e : s.data.toList with
  | nil => rw [e] at hl; simp at hl; omega
  | cons c cs =>
    have : s.data.toList[0]'(by omega) = c := by simp [e]
    rw [List.tail_cons]; congr 1; rw [← this]; rfl
theorem first_eq (s : ByteArray) (h : 1 ≤ s.size) : (s.extract 0 1).toList = [s[0]] := by
  rw [Lib.toList_data, Lib.extract_data, head_of s h]; rfl
theorem hundL_snoc (l : List UInt8) (c : UInt8) (a : Int) : hundL (l ++ [c]) a = if c.toNat = 46 then hundL l a else 10 * hundL l a + c.toNat - 48 := by
  rw [hundL_append]; simp only [hundL]

theorem split_at (s : ByteArray) (k : Nat) (h : k < s.size) : s.data.toList = s.data.toList.take k ++ s[k] :: s.data.toList.drop (k + 1) := by
  have e := (List.take_append_drop (k + 1) s.data.toList).symm
  rw [take_snoc s k h, List.append_assoc] at e
  exact e
theorem extract_take (s : ByteArray) (k : Nat) : s.extract 0 k = bs (s.data.toList.take k) := bs_of (by rw [Lib.extract_data]; simp)
theorem extract_drop (s : ByteArray) (k : Nat) : s.extract k s.size = bs (s.data.toList.drop k) := bs_of (by rw [Lib.extract_to_end])
set_option maxHeartbeats 400000 in
theorem l1Cut_any (s : ByteArray) (c : Int) (w : World) (hs : s.size ≤ maxLen) :
    Calls Tryz.prog 37 #[.string s, .int .u8 c] w fun e w' => Kept w w' ∧ ((∃ (a : List UInt8) (x : UInt8) (r : List UInt8), s.data.toList = a ++ x :: r ∧ (x.toNat : Int) = c ∧ (∀ b ∈ a, (b.toNat : Int) ≠ c) ∧ e = .returned (.tuple #[.string (bs a), .string (bs r), .bool true])) ∨
      ((∀ b ∈ s.data.toList, (b.toNat : Int) ≠ c) ∧ e = .returned (.tuple #[.string s, .string ⟨#[]⟩, .bool false]))) := by
  unfold maxLen at hs
  go_enter Tryz.func37, Tryz.ntmps37
  go_wp2
  go_loop [7] (fun i => ∃ k : Nat, k ≤ s.size ∧ i = .int .i64 k ∧ Hid (∀ b ∈ s.data.toList.take k, (b.toNat : Int) ≠ c)) (fun i => s.size - (intOf i).toNat)
  case atStart => exact ⟨0, Nat.zero_le _, rfl, hide (by simp)⟩
  case round =>
    obtain ⟨k, hk, rfl, HL⟩ := hrel
    by_cases hlt : k < s.size
    · by_cases hc : (s[k].toNat : Int) = c
      · have HS : Hid _ := hide (split_at s k hlt)
        have HC : Hid _ := hide hc
        have hq : ((s[k].toNat : Int) == c) = true := by simpa using hc
        clear hc
        go_wp2
        go_quiet (fail)
        go_wp2
        go_ret3
        exact ⟨(Kept.refl _).drewN _, .inl ⟨_, _, _, HS.out, HC.out, HL.out, by rw [← extract_take, ← extract_drop]; rfl⟩⟩
      · have HS : Hid (∀ b ∈ s.data.toList.take (k + 1), (b.toNat : Int) ≠ c) := hide (by
          rw [take_snoc s k hlt]
          intro b hb
          rcases List.mem_append.1 hb with h | h
          · exact HL.out b h
          · simp at h; rw [h]; exact hc)
        have hq : ((s[k].toNat : Int) == c) = false := by simpa using hc
        clear hc
        go_wp2
        go_round
        case rel => exact ⟨k + 1, by omega, by go_num, HS⟩
        case measure => simp [intOf]; omega
    · have HE : Hid (s.data.toList.take k = s.data.toList) := hide (by rw [List.take_of_length_le (by simp; omega)])
      go_wp2
      go_ret3
      exact ⟨Kept.refl _, .inr ⟨by have := HL.out; rw [HE.out] at this; simpa using this, rfl⟩⟩
end Go.Proofs.YteaopalhbnhbaaaGreatDoor
