/- The reader's numbers: near, off, amount; and the drawn amount. -/
import Derived.Test.YtiilkkdbifhojaaRd
namespace Go.Proofs.Ytiilkkdbifhojaa
open Go.ChangeShapes Go.WideShapes Go.ChangeAt Go.RowKit
set_option linter.unusedVariables false
def NumEnd (B : Nat) (lo hi : Int) (w : World) (e : Ending) (w' : World) : Prop := (∃ r : Int, lo ≤ r ∧ r ≤ hi ∧ e = .returned (.int .i64 r)) ∧ Rd B w' ∧ Apart B w w'
set_option maxHeartbeats 1000000 in
theorem near_any (B : Nat) (lo hi : Int) (w : World) (h : Rd B w) (h0 : 0 ≤ lo) (h1 : lo ≤ hi) (h2 : hi ≤ 1000000000000) : Calls Try.prog 55 #[.pointer (some ⟨B, 0, none⟩), .int .i64 lo, .int .i64 hi] w fun e w' => NumEnd B lo hi w e w' := by
  have H : Hid _ := hide h
  clear h
  have h1' : ¬ hi < lo := by omega
  go_enter Try.func55, Try.ntmps55
  go_wp2_with fail
  refine (below_any B 8 _ H.out (by omega)).mono ?_
  rintro e w1 ⟨⟨r, r0, _, r1, rfl⟩, HR1, HA1⟩
  by_cases c0 : (r == 0) = true
  · go_wp2
    go_ret
    exact ⟨⟨lo, by omega, by omega, rfl⟩, HR1, HA1⟩
  · have c0' : (r == 0) = false := by simpa using c0
    clear c0
    by_cases c1 : (r == 1) = true
    · go_wp2
      go_ret
      exact ⟨⟨hi, by omega, by omega, rfl⟩, HR1, HA1⟩
    · have c1' : (r == 1) = false := by simpa using c1
      clear c1
      go_wp2_with fail
      refine (word_any B _ HR1).mono ?_
      rintro e w2 ⟨⟨x, hx, rfl⟩, HR2, HA2⟩
      have hb := bounds_u64 hx
      obtain ⟨b0, b1⟩ := hb
      clear hx
      have m0 := Int.emod_nonneg (x / 2) (show hi - lo + 1 ≠ 0 by omega)
      have m1 := Int.emod_lt_of_pos (x / 2) (show 0 < hi - lo + 1 by omega)
      go_wp2
      go_ret
      exact ⟨⟨lo + x / 2 % (hi - lo + 1), by omega, by omega, rfl⟩, HR2, HA1.trans HA2⟩
def IntEnd (B : Nat) (w : World) (e : Ending) (w' : World) : Prop := (∃ r : Int, -9223372036854775808 ≤ r ∧ r ≤ 9223372036854775807 ∧ e = .returned (.int .i64 r)) ∧ Rd B w' ∧ Apart B w w'
theorem four (w w1 : World) (B : Nat) (v0 v1 v2 v3 : Value) (T : TypeId) (hB : B < w.heap.size) (HA : Apart B (w.alloc (.cells #[v0, v1, v2, v3] T)) w1) (r : Int) (r0 : 0 ≤ r) (r1 : r < 4) : ∃ v, (v = v0 ∨ v = v1 ∨ v = v2 ∨ v = v3) ∧ w1.cell? ⟨w.heap.size, r.toNat, none⟩ = some v := by
  have hc : ∀ o, w1.cell? ⟨w.heap.size, o, none⟩ = (w.alloc (.cells #[v0, v1, v2, v3] T)).cell? ⟨w.heap.size, o, none⟩ := fun o => HA.cell (by simp) (by omega)
  rw [hc]
  obtain rfl | rfl | rfl | rfl : r = 0 ∨ r = 1 ∨ r = 2 ∨ r = 3 := by omega
  · exact ⟨v0, .inl rfl, by simp⟩
  · exact ⟨v1, .inr (.inl rfl), by simp⟩
  · exact ⟨v2, .inr (.inr (.inl rfl)), by simp⟩
  · exact ⟨v3, .inr (.inr (.inr rfl)), by simp⟩
set_option maxHeartbeats 1000000 in
theorem off_any (B : Nat) (lo hi : Int) (w : World) (h : Rd B w) (h0 : 0 ≤ lo) (h1 : lo ≤ hi) (h2 : hi ≤ 1000000000000) : Calls Try.prog 33 #[.pointer (some ⟨B, 0, none⟩), .int .i64 lo, .int .i64 hi] w fun e w' => IntEnd B w e w' := by
  have H : Hid _ := hide h
  clear h
  go_enter Try.func33, Try.ntmps33
  go_wp2_with fail
  refine (once_any B 24 _ H.out (by omega) (by omega)).mono ?_
  rintro e w1 ⟨⟨b, rfl⟩, HR1, HA1⟩
  cases b
  · go_wp2_with fail
    refine (near_any B lo hi _ HR1 h0 h1 h2).mono ?_
    rintro e w2 ⟨⟨x, x0, x1, rfl⟩, HR2, HA2⟩
    go_wp2
    go_ret
    exact ⟨⟨x, by omega, by omega, rfl⟩, HR2, HA1.trans HA2⟩
  · have hlt := HR1.lt
    go_wp2_with fail
    refine (below_any B 4 _ (HR1.kept ((Kept.refl _).alloc _ _)) (by omega)).mono ?_
    rintro e w2 ⟨⟨r, r0, r2, r1, rfl⟩, HR2, HA2⟩
    have r3 : r < 4 := by omega
    clear r2
    obtain ⟨v, hv, hcell⟩ := four _ _ _ _ _ _ _ _ hlt HA2 r r0 r3
    have hex : ∃ z : Int, -9223372036854775808 ≤ z ∧ z ≤ 9223372036854775807 ∧ v = .int .i64 z := by
      rcases hv with rfl | rfl | rfl | rfl
      all_goals exact ⟨_, by omega, by omega, rfl⟩
    obtain ⟨z, z0, z1, rfl⟩ := hex
    clear hv
    go_wp2
    go_ret
    exact ⟨⟨z, z0, z1, rfl⟩, HR2, HA1.trans (((Kept.refl _).alloc _ _).to_apart.trans HA2)⟩
end Go.Proofs.Ytiilkkdbifhojaa
