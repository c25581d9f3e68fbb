/- The contract of the model's l1Cut. -/
import Derived.Test.YtbpopaojkmdffaaRead
import Derived.Deep.QuietTactic
import Derived.BigQuiet
namespace Go.Proofs.Ytbpopaojkmdffaa
open Go.ChangeShapes Go.WideShapes Go.ChangeAt Go.RowKit
set_option linter.unusedVariables false
theorem Kept.drewN {a w : World} (h : Kept a w) : ∀ q, Kept a (w.drewN q)
  | 0 => h
  | q + 1 => (Kept.drewN h q).drew
theorem split_at (s : ByteArray) (k : Nat) (h : k < s.size) : s.data.toList = s.data.toList.take k ++ s[k] :: s.data.toList.drop (k + 1) := by
  have e := (List.take_append_drop (k + 1) s.data.toList).symm
  rw [take_snoc s k h, List.append_assoc] at e
  exact e
theorem extract_take (s : ByteArray) (k : Nat) : s.extract 0 k = bs (s.data.toList.take k) := bs_of (by rw [Lib.extract_data]; simp)
theorem extract_drop (s : ByteArray) (k : Nat) : s.extract k s.size = bs (s.data.toList.drop k) := bs_of (by rw [Lib.extract_to_end])
set_option maxHeartbeats 400000 in
theorem l1Cut_any (s : ByteArray) (c : Int) (w : World) (hs : s.size ≤ maxLen) :
    Calls Try.prog 35 #[.string s, .int .u8 c] w fun e w' => Kept w w' ∧ ((∃ (a : List UInt8) (x : UInt8) (r : List UInt8), s.data.toList = a ++ x :: r ∧ (x.toNat : Int) = c ∧ (∀ b ∈ a, (b.toNat : Int) ≠ c) ∧ e = .returned (.tuple #[.string (bs a), .string (bs r), .bool true])) ∨
      ((∀ b ∈ s.data.toList, (b.toNat : Int) ≠ c) ∧ e = .returned (.tuple #[.string s, .string ⟨#[]⟩, .bool false]))) := by
  unfold maxLen at hs
  go_enter Try.func35, Try.ntmps35
  go_wp2
  go_loop [7] (fun i => ∃ k : Nat, k ≤ s.size ∧ i = .int .i64 k ∧ Hid (∀ b ∈ s.data.toList.take k, (b.toNat : Int) ≠ c)) (fun i => s.size - (intOf i).toNat)
  case atStart => exact ⟨0, Nat.zero_le _, rfl, hide (by simp)⟩
  case round =>
    obtain ⟨k, hk, rfl, HL⟩ := hrel
    by_cases hlt : k < s.size
    · by_cases hc : (s[k].toNat : Int) = c
      · have HS : Hid _ := hide (split_at s k hlt)
        have HC : Hid _ := hide hc
        have hq : ((s[k].toNat : Int) == c) = true := by simpa using hc
        clear hc
        go_wp2
        go_quiet (fail)
        go_wp2
        go_ret3
        exact ⟨(Kept.refl _).drewN _, .inl ⟨_, _, _, HS.out, HC.out, HL.out, by rw [← extract_take, ← extract_drop]; rfl⟩⟩
      · have HS : Hid (∀ b ∈ s.data.toList.take (k + 1), (b.toNat : Int) ≠ c) := hide (by
          rw [take_snoc s k hlt]
          intro b hb
          rcases List.mem_append.1 hb with h | h
          · exact HL.out b h
          · simp at h; rw [h]; exact hc)
        have hq : ((s[k].toNat : Int) == c) = false := by simpa using hc
        clear hc
        go_wp2
        go_round
        case rel => exact ⟨k + 1, by omega, by go_num, HS⟩
        case measure => simp [intOf]; omega
    · have HE : Hid (s.data.toList.take k = s.data.toList) := hide (by rw [List.take_of_length_le (by simp; omega)])
      go_wp2
      go_ret3
      exact ⟨Kept.refl _, .inr ⟨by have := HL.out; rw [HE.out] at this; simpa using this, rfl⟩⟩
end Go.Proofs.Ytbpopaojkmdffaa
