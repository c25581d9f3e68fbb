/- The contract of the model's AmountText. -/
import Derived.Test.YtbpopaojkmdffaaAmt
import Derived.RegionTactic
import Derived.ChangeAlike
import Derived.Deep.RegionWith
namespace Go.Proofs.Ytbpopaojkmdffaa
open Go.ChangeShapes Go.WideShapes Go.ChangeAt Go.RowKit
set_option linter.unusedVariables false
theorem conv2d (w : World) (a b : Int) : (convert 22 9 (.slice (some ⟨w.heap.size, 0, none⟩) 2 2)).run Try.prog (w.alloc (.cells #[.int .u8 a, .int .u8 b] 5)).drew = .ok (.string ⟨#[UInt8.ofNat a.toNat, UInt8.ofNat b.toNat]⟩) (w.alloc (.cells #[.int .u8 a, .int .u8 b] 5)).drew := conv2 w.drew a b
theorem conv_kept {w w1 : World} {a b : Int} (HK : Kept (w.alloc (.cells #[.int .u8 a, .int .u8 b] 5)).drew w1) : (convert 22 9 (.slice (some ⟨w.heap.size, 0, none⟩) 2 2)).run Try.prog w1 = .ok (.string ⟨#[UInt8.ofNat a.toNat, UInt8.ofNat b.toNat]⟩) w1 := by
  have h := run_convert_bytes_arg (P := Try.prog) w1 22 5 Try.underlying22 Try.underlying5 w.heap.size 0 2 2 [a, b] rfl (fun i hi => by
    rw [HK.below.cell (by show w.heap.size < (w.alloc (.cells #[.int .u8 a, .int .u8 b] 5)).heap.size; simp)]
    obtain rfl | rfl : i = 0 ∨ i = 1 := by omega
    · simp
    · simp) 9 Try.underlying9
  rw [h]; rfl
theorem wrapI (x : Int) (h0 : -9223372036854775808 ≤ x) (h1 : x ≤ 9223372036854775807) : IntKind.i64.wrap x = x := by
  simp only [IntKind.wrap, IntKind.signed, IntKind.bits]; simp; omega
theorem wrapU (x : Int) (h0 : 0 ≤ x) (h1 : x ≤ 255) : IntKind.u8.wrap x = x := by
  simp only [IntKind.wrap, IntKind.signed, IntKind.bits]; simp; omega
theorem quo_eq (x q : Int) (h0 : 0 ≤ x) (h1 : x ≤ 1000000000000) (hq : 1 < q) : IntKind.i64.wrap (x.tdiv q) = x / q := by
  rw [Int.tdiv_eq_ediv_of_nonneg h0]
  have a := Int.ediv_nonneg h0 (by omega : (0 : Int) ≤ q)
  have b := Int.ediv_le_self q h0
  exact wrapI _ (by omega) (by omega)
theorem rem_eq (x q : Int) (h0 : 0 ≤ x) : x.tmod q = x % q := Int.tmod_eq_emod_of_nonneg h0
set_option maxHeartbeats 1000000 in
theorem specAmountText_pos (n : Int) (w : World) (h0 : 0 ≤ n) (h1 : n ≤ 1000000000000) :
    Calls Try.prog 13 #[.int .i64 n] w fun e w' => e = .returned (.string (bs (amt n))) ∧ Kept w w' := by
  have hc := conv2
  have hcd := conv2d
  have hin : inB (-1000000000000) 1000000000000 n = true := by simp only [inB]; exact decide_eq_true ⟨by omega, by omega⟩
  have HT : Hid _ := hide (text_pos n h0 h1)
  have hsz := dec_size (n / 100) (by omega) (by omega)
  have hn : ¬ n < 0 := by omega
  go_enter Try.func13, Try.ntmps13
  go_wp2_with fail
  refine (l1In_any _ _ _ _).mono ?_
  rintro e w' ⟨rfl, rfl⟩
  rw [hin]
  clear hin
  go_wp2_with fail
  have e1 := quo_eq n 100 h0 h1 (by omega)
  have e2 := quo_eq n 10 h0 h1 (by omega)
  have e3 := rem_eq (n / 10) 10 (by omega)
  have e4 := rem_eq n 10 h0
  have e5 := wrapI (48 + n / 10 % 10) (by omega) (by omega)
  have e6 := wrapI (48 + n % 10) (by omega) (by omega)
  have e7 := wrapU (48 + n / 10 % 10) (by omega) (by omega)
  have e8 := wrapU (48 + n % 10) (by omega) (by omega)
  go_region_with (go_at_call 32; refine (l1Dec_any _ _ (by omega) (by omega)).mono ?_; rintro e w1 ⟨rfl, HK⟩; try (have hx := conv_kept HK))
  all_goals go_wp2
  all_goals go_ret
  all_goals exact ⟨by rw [← HT.out]; rfl, by first | exact ((Kept.refl _).drew.trans HK).alloc _ _ | exact ((Kept.refl _).alloc _ _).drew.trans HK⟩

set_option maxHeartbeats 400000 in
theorem specAmountText_any (n : Int) (w : World) (hlo : -9223372036854775808 ≤ n) (hhi : n ≤ 9223372036854775807) :
    Calls Try.prog 13 #[.int .i64 n] w fun e w' => e = .returned (.string (bs (amt n))) ∧ Kept w w' := by
  by_cases hr : -1000000000000 ≤ n ∧ n ≤ 1000000000000
  · have hin : inB (-1000000000000) 1000000000000 n = true := by simp [inB, hr.1, hr.2]
    obtain ⟨r1, r2⟩ := hr
    clear hlo hhi
    by_cases hn : n < 0
    · obtain ⟨m, rfl⟩ : ∃ m, n = -m := ⟨-n, by omega⟩
      have m0 : 0 < m := by omega
      have m1 : m ≤ 1000000000000 := by omega
      have HT : Hid ({ data := #[45] } ++ bs (amt m) = bs (amt (-m))) := hide (by have := text_neg (-m) (by omega) (by omega); rw [Int.neg_neg] at this; exact this)
      have hsz : (bs (amt m)).size ≤ 40 := by
        rw [bs_size]; unfold amt; rw [if_pos ⟨by omega, by omega⟩, if_neg (by omega)]
        have := dec_len 11 (m.natAbs / 100) (by omega) (by omega)
        simp; omega
      have hn' : -m < 0 := by omega
      clear hn
      go_enter Try.func13, Try.ntmps13
      go_wp2_with fail
      refine (l1In_any _ _ _ _).mono ?_
      rintro e w' ⟨rfl, rfl⟩
      rw [hin]
      clear hin
      go_wp2_with fail
      refine (specAmountText_pos _ _ (by omega) (by omega)).mono ?_
      rintro e w1 ⟨rfl, HK⟩
      go_wp2
      go_ret
      exact ⟨by rw [← HT.out]; rfl, HK⟩
    · exact specAmountText_pos n w (by omega) r2
  · have HT : Hid (amt n = []) := hide (by unfold amt; rw [if_neg hr])
    have hin : inB (-1000000000000) 1000000000000 n = false := by simp only [inB]; exact decide_eq_false hr
    clear hr
    go_enter Try.func13, Try.ntmps13
    go_wp2_with fail
    refine (l1In_any _ _ _ _).mono ?_
    rintro e w' ⟨rfl, rfl⟩
    rw [hin]
    go_wp2
    go_ret
    exact ⟨by rw [HT.out]; rfl, Kept.refl _⟩
end Go.Proofs.Ytbpopaojkmdffaa
