/- The reader's off over any range from nought on. -/
import Derived.Test.YtfkadhkgpfembaaRd2
namespace Go.Proofs.Ytfkadhkgpfembaa
open Go.ChangeShapes Go.WideShapes Go.ChangeAt Go.RowKit
set_option linter.unusedVariables false
set_option maxHeartbeats 1000000 in
theorem near_big (B : Nat) (lo hi : Int) (w : World) (h : Rd B w) (h0 : 0 ≤ lo) (h1 : lo ≤ hi) (h2 : hi ≤ 9223372036854775806) : Calls Try.prog 30 #[.pointer (some ⟨B, 0, none⟩), .int .i64 lo, .int .i64 hi] w fun e w' => NumEnd B lo hi w e w' := by
  have H : Hid _ := hide h
  clear h
  have h1' : ¬ hi < lo := by omega
  go_enter Try.func30, Try.ntmps30
  go_wp2_with fail
  refine (below_any B 8 _ H.out (by omega)).mono ?_
  rintro e w1 ⟨⟨r, r0, _, r1, rfl⟩, HR1, HA1⟩
  by_cases c0 : (r == 0) = true
  · go_wp2
    go_ret
    exact ⟨⟨lo, by omega, by omega, rfl⟩, HR1, HA1⟩
  · have c0' : (r == 0) = false := by simpa using c0
    clear c0
    by_cases c1 : (r == 1) = true
    · go_wp2
      go_ret
      exact ⟨⟨hi, by omega, by omega, rfl⟩, HR1, HA1⟩
    · have c1' : (r == 1) = false := by simpa using c1
      clear c1
      go_wp2_with fail
      refine (word_any B _ HR1).mono ?_
      rintro e w2 ⟨⟨x, hx, rfl⟩, HR2, HA2⟩
      have hb := bounds_u64 hx
      obtain ⟨b0, b1⟩ := hb
      clear hx
      have m0 := Int.emod_nonneg (x / 2) (show hi - lo + 1 ≠ 0 by omega)
      have m1 := Int.emod_lt_of_pos (x / 2) (show 0 < hi - lo + 1 by omega)
      go_wp2
      go_ret
      exact ⟨⟨lo + x / 2 % (hi - lo + 1), by omega, by omega, rfl⟩, HR2, HA1.trans HA2⟩
set_option maxHeartbeats 1000000 in
theorem off_big (B : Nat) (lo hi : Int) (w : World) (h : Rd B w) (h0 : 0 ≤ lo) (h1 : lo ≤ hi) (h2 : hi ≤ 9223372036854775806) : Calls Try.prog 16 #[.pointer (some ⟨B, 0, none⟩), .int .i64 lo, .int .i64 hi] w fun e w' => IntEnd B w e w' := by
  have H : Hid _ := hide h
  clear h
  go_enter Try.func16, Try.ntmps16
  go_wp2_with fail
  refine (once_any B 24 _ H.out (by omega) (by omega)).mono ?_
  rintro e w1 ⟨⟨b, rfl⟩, HR1, HA1⟩
  cases b
  · go_wp2_with fail
    refine (near_big B lo hi _ HR1 h0 h1 h2).mono ?_
    rintro e w2 ⟨⟨x, x0, x1, rfl⟩, HR2, HA2⟩
    go_wp2
    go_ret
    exact ⟨⟨x, by omega, by omega, rfl⟩, HR2, HA1.trans HA2⟩
  · have hlt := HR1.lt
    go_wp2_with fail
    refine (below_any B 4 _ (HR1.kept ((Kept.refl _).alloc _ _)) (by omega)).mono ?_
    rintro e w2 ⟨⟨r, r0, r2, r1, rfl⟩, HR2, HA2⟩
    have r3 : r < 4 := by omega
    clear r2
    obtain ⟨v, hv, hcell⟩ := four _ _ _ _ _ _ _ _ hlt HA2 r r0 r3
    have hex : ∃ z : Int, -9223372036854775808 ≤ z ∧ z ≤ 9223372036854775807 ∧ v = .int .i64 z := by
      rcases hv with rfl | rfl | rfl | rfl
      all_goals exact ⟨_, by omega, by omega, rfl⟩
    obtain ⟨z, z0, z1, rfl⟩ := hex
    clear hv
    go_wp2
    go_ret
    exact ⟨⟨z, z0, z1, rfl⟩, HR2, HA1.trans (((Kept.refl _).alloc _ _).to_apart.trans HA2)⟩
set_option maxHeartbeats 1000000 in
theorem near_top (B : Nat) (w : World) (h : Rd B w) : Calls Try.prog 30 #[.pointer (some ⟨B, 0, none⟩), .int .i64 0, .int .i64 9223372036854775807] w fun e w' => NumEnd B 0 9223372036854775807 w e w' := by
  have H : Hid _ := hide h
  clear h
  go_enter Try.func30, Try.ntmps30
  go_wp2_with fail
  refine (below_any B 8 _ H.out (by omega)).mono ?_
  rintro e w1 ⟨⟨r, r0, _, r1, rfl⟩, HR1, HA1⟩
  by_cases c0 : (r == 0) = true
  · go_wp2
    go_ret
    exact ⟨⟨0, by omega, by omega, rfl⟩, HR1, HA1⟩
  · have c0' : (r == 0) = false := by simpa using c0
    clear c0
    by_cases c1 : (r == 1) = true
    · go_wp2
      go_ret
      exact ⟨⟨9223372036854775807, by omega, by omega, rfl⟩, HR1, HA1⟩
    · have c1' : (r == 1) = false := by simpa using c1
      clear c1
      go_wp2_with fail
      refine (word_any B _ HR1).mono ?_
      rintro e w2 ⟨⟨x, hx, rfl⟩, HR2, HA2⟩
      have hb := bounds_u64 hx
      obtain ⟨b0, b1⟩ := hb
      clear hx
      have hw : wrap64 9223372036854775808 = -9223372036854775808 := by unfold wrap64; omega
      have hw2 : IntKind.u64.wrap (-9223372036854775808) = 9223372036854775808 := by simp [IntKind.wrap, IntKind.bits, IntKind.signed]
      have m0 := Int.emod_nonneg (x / 2) (show (9223372036854775808 : Int) ≠ 0 by omega)
      have m1 := Int.emod_lt_of_pos (x / 2) (show 0 < (9223372036854775808 : Int) by omega)
      go_wp2
      go_ret
      exact ⟨⟨x / 2 % ((9223372036854775808 : Int)), by omega, by omega, rfl⟩, HR2, HA1.trans HA2⟩
set_option maxHeartbeats 1000000 in
theorem off_top (B : Nat) (w : World) (h : Rd B w) : Calls Try.prog 16 #[.pointer (some ⟨B, 0, none⟩), .int .i64 0, .int .i64 9223372036854775807] w fun e w' => IntEnd B w e w' := by
  have H : Hid _ := hide h
  clear h
  go_enter Try.func16, Try.ntmps16
  go_wp2_with fail
  refine (once_any B 24 _ H.out (by omega) (by omega)).mono ?_
  rintro e w1 ⟨⟨b, rfl⟩, HR1, HA1⟩
  cases b
  · go_wp2_with fail
    refine (near_top B _ HR1).mono ?_
    rintro e w2 ⟨⟨x, x0, x1, rfl⟩, HR2, HA2⟩
    go_wp2
    go_ret
    exact ⟨⟨x, by omega, by omega, rfl⟩, HR2, HA1.trans HA2⟩
  · have hlt := HR1.lt
    go_wp2_with fail
    refine (below_any B 4 _ (HR1.kept ((Kept.refl _).alloc _ _)) (by omega)).mono ?_
    rintro e w2 ⟨⟨r, r0, r2, r1, rfl⟩, HR2, HA2⟩
    have r3 : r < 4 := by omega
    clear r2
    obtain ⟨v, hv, hcell⟩ := four _ _ _ _ _ _ _ _ hlt HA2 r r0 r3
    have hex : ∃ z : Int, -9223372036854775808 ≤ z ∧ z ≤ 9223372036854775807 ∧ v = .int .i64 z := by
      rcases hv with rfl | rfl | rfl | rfl
      all_goals exact ⟨_, by first | omega | (unfold wrap64; omega), by first | omega | (unfold wrap64; omega), rfl⟩
    obtain ⟨z, z0, z1, rfl⟩ := hex
    clear hv
    go_wp2
    go_ret
    exact ⟨⟨z, z0, z1, rfl⟩, HR2, HA1.trans (((Kept.refl _).alloc _ _).to_apart.trans HA2)⟩
theorem off_wide (B : Nat) (hi : Int) (w : World) (h : Rd B w) (h1 : 0 ≤ hi) (h2 : hi ≤ 9223372036854775807) : Calls Try.prog 16 #[.pointer (some ⟨B, 0, none⟩), .int .i64 0, .int .i64 hi] w fun e w' => IntEnd B w e w' := by
  by_cases q : hi = 9223372036854775807
  · subst q; exact off_top B w h
  · exact off_big B 0 hi w h (by omega) h1 (by omega)
end Go.Proofs.Ytfkadhkgpfembaa
