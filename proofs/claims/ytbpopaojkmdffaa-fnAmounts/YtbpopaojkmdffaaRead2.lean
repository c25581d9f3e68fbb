/- The contract of the program's ReadAmount. -/
import Derived.Test.YtbpopaojkmdffaaRead
namespace Go.Proofs.Ytbpopaojkmdffaa
open Go.ChangeShapes Go.WideShapes Go.ChangeAt Go.RowKit
set_option linter.unusedVariables false
set_option maxHeartbeats 400000 in
theorem implRead_yes (s : ByteArray) (n : Int) (w : World) (hn : inR n) (hs : s = bs (amt n)) :
    Calls Try.prog 12 #[.string s] w fun e w' => e = .returned (.tuple #[.int .i64 n, .bool true]) ∧ Kept w w' := by
  have HN : Hid (hund s.data.toList = n) := hide (by rw [hs, bs_list, hund_amt n hn])
  have hsz : s.size ≤ 15 := by rw [hs, bs_size]; exact amt_len n
  have hq : ((bs (amt n)).toList == s.toList) = true := by rw [hs]; simp
  obtain ⟨n1, n2⟩ := hn
  clear hs
  go_enter Try.func12, Try.ntmps12
  go_wp2_with fail
  refine (hundredths_any s _ hsz).mono ?_
  rintro e w' ⟨rfl, rfl⟩
  rw [HN.out]
  go_wp2_with fail
  refine (implAmountText_any _ _ (by omega) (by omega)).mono ?_
  rintro e w1 ⟨rfl, HK⟩
  go_wp2
  go_ret2
  exact ⟨rfl, HK⟩
set_option maxHeartbeats 400000 in
theorem implRead_no (s : ByteArray) (w : World) (hs : s.size ≤ maxLen) (hno : ∀ n, inR n → s ≠ bs (amt n)) :
    Calls Try.prog 12 #[.string s] w fun e w' => e = .returned (.tuple #[.int .i64 0, .bool false]) ∧ Kept w w' := by
  unfold maxLen at hs
  have hq : ((bs (amt (hund s.data.toList))).toList == s.toList) = false := by
    have := not_amt s hno
    rw [Lib.toList_data, Lib.toList_data]
    simp only [beq_eq_false_iff_ne]
    intro e
    exact this (ByteArray.ext (Array.toList_inj.1 e))
  clear hno
  by_cases hsz : s.size ≤ 15
  · have hb : -(23000000000000000 : Int) ≤ hund s.data.toList ∧ hund s.data.toList ≤ 23000000000000000 := by
      have e1 := hundL_small s.data.toList 15 (by rw [list_size]; omega) (by omega)
      have e2 := hundL_small s.data.toList.tail 15 (by rw [List.length_tail, list_size]; omega) (by omega)
      unfold hund
      split <;> omega
    obtain ⟨b1, b2⟩ := hb
    go_enter Try.func12, Try.ntmps12
    go_wp2_with fail
    refine (hundredths_any s _ hsz).mono ?_
    rintro e w' ⟨rfl, rfl⟩
    go_wp2_with fail
    refine (implAmountText_any _ _ (by omega) (by omega)).mono ?_
    rintro e w1 ⟨rfl, HK⟩
    go_wp2
    go_ret2
    exact ⟨rfl, HK⟩
  · go_enter Try.func12, Try.ntmps12
    go_wp2
    go_ret2
    exact ⟨rfl, Kept.refl _⟩
end Go.Proofs.Ytbpopaojkmdffaa
