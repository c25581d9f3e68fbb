/- The contracts of CutPrefix, hundredths and ReadAmount of the program. -/
import Derived.Test.YtbpopaojkmdffaaAmt
import Derived.Test.YtbpopaojkmdffaaMath2
import Derived.Lib.Strings
import Derived.Lib.IndexBytes
namespace Go.Proofs.Ytbpopaojkmdffaa
open Go.ChangeShapes Go.WideShapes Go.ChangeAt Go.RowKit
set_option linter.unusedVariables false

theorem head_of (s : ByteArray) (h : 1 ≤ s.size) : s.data.toList = s[0] :: s.data.toList.tail := by
  have hl : s.data.toList.length = s.size := by simp
  cases e : s.data.toList with
  | nil => rw [e] at hl; simp at hl; omega
  | cons c cs =>
    have : s.data.toList[0]'(by omega) = c := by simp [e]
    rw [List.tail_cons]; congr 1; rw [← this]; rfl
theorem first_eq (s : ByteArray) (h : 1 ≤ s.size) : (s.extract 0 1).toList = [s[0]] := by
  rw [Lib.toList_data, Lib.extract_data, head_of s h]; rfl
theorem list_size (s : ByteArray) : s.data.toList.length = s.size := by simp

set_option maxHeartbeats 400000 in
theorem cutPrefix_yes (s : ByteArray) (w : World) (hs : s.size ≤ maxLen) (hh : s.data.toList.head? = some 45) :
    Calls Try.prog 40 #[.string s, .string ⟨#[45]⟩] w fun e w' => e = .returned (.tuple #[.string (s.extract 1 s.size), .bool true]) ∧ w' = w := by
  unfold maxLen at hs
  have h : 1 ≤ s.size := by
    rw [← list_size s]; cases e : s.data.toList with
    | nil => rw [e] at hh; simp at hh
    | cons c cs => simp
  have hq : ((s.extract 0 1).toList == [45]) = true := by
    rw [first_eq s h]; rw [head_of s h] at hh; simp at hh; rw [hh]; rfl
  clear hh
  go_enter Try.func40, Try.ntmps40
  go_wp2
  go_ret2
  exact ⟨rfl, rfl⟩
set_option maxHeartbeats 400000 in
theorem cutPrefix_no (s : ByteArray) (w : World) (hs : s.size ≤ maxLen) (hh : s.data.toList.head? ≠ some 45) :
    Calls Try.prog 40 #[.string s, .string ⟨#[45]⟩] w fun e w' => e = .returned (.tuple #[.string s, .bool false]) ∧ w' = w := by
  unfold maxLen at hs
  by_cases h : 1 ≤ s.size
  · have hq : ((s.extract 0 1).toList == [45]) = false := by
      rw [first_eq s h]; rw [head_of s h] at hh; simp at hh; simpa using hh
    clear hh
    go_enter Try.func40, Try.ntmps40
    go_wp2
    go_ret2
    exact ⟨rfl, rfl⟩
  · clear hh
    go_enter Try.func40, Try.ntmps40
    go_wp2
    go_ret2
    exact ⟨rfl, rfl⟩
theorem cutPrefix_any (s : ByteArray) (w : World) (hs : s.size ≤ maxLen) :
    Calls Try.prog 40 #[.string s, .string ⟨#[45]⟩] w fun e w' => ∃ d b, e = .returned (.tuple #[.string d, .bool b]) ∧ w' = w ∧ d.size ≤ s.size ∧ hund s.data.toList = (if b then -(hundL d.data.toList 0) else hundL d.data.toList 0) := by
  by_cases hh : s.data.toList.head? = some 45
  · refine (cutPrefix_yes s w hs hh).mono ?_
    rintro e w' ⟨rfl, rfl⟩
    refine ⟨_, _, rfl, rfl, by simp, ?_⟩
    unfold hund
    rw [if_pos hh, if_pos rfl, Lib.extract_to_end, List.drop_one]
  · refine (cutPrefix_no s w hs hh).mono ?_
    rintro e w' ⟨rfl, rfl⟩
    refine ⟨_, _, rfl, rfl, Nat.le_refl _, ?_⟩
    unfold hund
    rw [if_neg hh, if_neg (by simp)]

theorem hundL_snoc (l : List UInt8) (c : UInt8) (a : Int) : hundL (l ++ [c]) a = if c.toNat = 46 then hundL l a else 10 * hundL l a + c.toNat - 48 := by
  rw [hundL_append]; simp only [hundL]

set_option maxHeartbeats 400000 in
theorem hundredths_any (s : ByteArray) (w : World) (hs : s.size ≤ 15) :
    Calls Try.prog 30 #[.string s] w fun e w' => e = .returned (.int .i64 (hund s.data.toList)) ∧ w' = w := by
  go_enter Try.func30, Try.ntmps30
  go_wp2_with fail
  refine (cutPrefix_any s _ (by unfold maxLen; omega)).mono ?_
  rintro e w' ⟨d, b, rfl, rfl, hd, HH0⟩
  have HH : Hid _ := hide HH0
  clear HH0
  go_wp2
  go_loop [5, 14] (fun n i => ∃ k : Nat, k ≤ d.size ∧ i = .int .i64 k ∧ n = .int .i64 (hundL (d.data.toList.take k) 0)) (fun n i => d.size - (intOf i).toNat)
  case atStart => exact ⟨0, Nat.zero_le _, rfl, rfl⟩
  case round =>
    obtain ⟨k, hk, rfl, rfl⟩ := hrel
    by_cases hlt : k < d.size
    · have hsn := take_snoc d k hlt
      have hbd := hundL_small14 (d.data.toList.take k) (by rw [List.length_take]; omega)
      obtain ⟨b1, b2⟩ := hbd
      have hbyte := (d[k]).toNat_lt
      by_cases hdot : d[k].toNat = 46
      · have HS : Hid (hundL (d.data.toList.take (k + 1)) 0 = hundL (d.data.toList.take k) 0) := hide (by rw [hsn, hundL_snoc, if_pos hdot])
        have hq : ((d[k].toNat : Int) != 46) = false := by simp; omega
        clear hsn hdot
        go_wp2
        go_round
        case rel => exact ⟨k + 1, by omega, by go_num, by rw [HS.out]⟩
        case measure => simp [intOf]; omega
      · have HS : Hid (hundL (d.data.toList.take (k + 1)) 0 = 10 * hundL (d.data.toList.take k) 0 + d[k].toNat - 48) := hide (by rw [hsn, hundL_snoc, if_neg hdot])
        have hq : ((d[k].toNat : Int) != 46) = true := by simp; omega
        clear hsn hdot
        generalize hundL (d.data.toList.take k) 0 = x at *
        go_wp2
        go_round
        case rel => exact ⟨k + 1, by omega, by go_num, by rw [HS.out]⟩
        case measure => simp [intOf]; omega
    · have HE : Hid (d.data.toList.take k = d.data.toList) := hide (by rw [List.take_of_length_le (by simp; omega)])
      have hbd := hundL_small (d.data.toList.take k) 15 (by rw [List.length_take, list_size]; omega) (by omega)
      obtain ⟨b1, b2⟩ := hbd
      cases b
      · go_wp2
        go_ret
        exact ⟨by rw [HH.out]; show Ending.returned (Value.int _ (hundL (d.data.toList.take k) 0)) = _; rw [HE.out]; rfl, rfl⟩
      · go_wp2
        go_ret
        exact ⟨by rw [HH.out]; show Ending.returned (Value.int _ (-hundL (d.data.toList.take k) 0)) = _; rw [HE.out]; rfl, rfl⟩
end Go.Proofs.Ytbpopaojkmdffaa
