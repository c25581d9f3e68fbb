/- A text that is hurt, and the drawn texts. -/
import Derived.Test.YtbcodlgpdehdhaaGreatDoorRd3
import Derived.BigRegion
namespace Go.Proofs.YtbcodlgpdehdhaaGreatDoor
open Go.ChangeShapes Go.WideShapes Go.ChangeAt Go.RowKit
set_option linter.unusedVariables false
def five : Array Value := #[.string ⟨#[48]⟩, .string ⟨#[49]⟩, .string ⟨#[32]⟩, .string ⟨#[45]⟩, .string ⟨#[46]⟩]
def pick5 (m : Nat) : ByteArray := if m = 0 then ⟨#[48]⟩ else if m = 1 then ⟨#[49]⟩ else if m = 2 then ⟨#[32]⟩ else if m = 3 then ⟨#[45]⟩ else ⟨#[46]⟩
theorem pick5_size (m : Nat) : (pick5 m).size ≤ 1 := by
  unfold pick5
  split
  · exact Nat.le_of_eq rfl
  · split
    · exact Nat.le_of_eq rfl
    · split
      · exact Nat.le_of_eq rfl
      · split
        · exact Nat.le_of_eq rfl
        · exact Nat.le_of_eq rfl
theorem wrapI (x : Int) (h0 : -9223372036854775808 ≤ x) (h1 : x ≤ 9223372036854775807) : IntKind.i64.wrap x = x := by
  simp only [IntKind.wrap, IntKind.signed, IntKind.bits]; simp; omega
theorem rd_drew {B : Nat} {w : World} (h : Rd B w) : Rd B w.drew := h.drewN 1
theorem five_cell (w : World) (m : Nat) (h : m < 5) : (w.alloc (.cells #[.string ⟨#[48]⟩, .string ⟨#[49]⟩, .string ⟨#[32]⟩, .string ⟨#[45]⟩, .string ⟨#[46]⟩] 9)).cell? ⟨w.heap.size, m, none⟩ = some (.string (pick5 m)) := by
  obtain rfl | rfl | rfl | rfl | rfl : m = 0 ∨ m = 1 ∨ m = 2 ∨ m = 3 ∨ m = 4 := by omega
  all_goals simp [pick5]
theorem five_apart {w w1 : World} {B : Nat} (HA : Aprt B (w.alloc (.cells #[.string ⟨#[48]⟩, .string ⟨#[49]⟩, .string ⟨#[32]⟩, .string ⟨#[45]⟩, .string ⟨#[46]⟩] 9)).drew w1) (hB : B < w.heap.size) (m : Nat) (h : m < 5) : w1.cell? ⟨w.heap.size, m, none⟩ = some (.string (pick5 m)) := by
  rw [← five_cell w m h]
  exact HA.cell (w := (w.alloc (.cells #[.string ⟨#[48]⟩, .string ⟨#[49]⟩, .string ⟨#[32]⟩, .string ⟨#[45]⟩, .string ⟨#[46]⟩] 9)).drew) (by show w.heap.size < (w.alloc _).heap.size; simp) (by omega)
theorem hurt_size (s : ByteArray) (m q : Nat) (h : m < s.size) : (s.extract 0 m ++ pick5 q ++ s.extract (m + 1) s.size).size ≤ s.size + 2 := by
  have := pick5_size q
  rw [ByteArray.size_append, ByteArray.size_append]; simp; omega
set_option maxHeartbeats 1000000 in
set_option maxRecDepth 100000 in
theorem hurt_any (B : Nat) (s : ByteArray) (w : World) (h : Rd B w) (hs : s.size ≤ 1000) : Calls Tryz.prog 26 #[.pointer (some ⟨B, 0, none⟩), .string s] w fun e w' => TextEnd B (s.size + 2) w e w' := by
  have H : Hid _ := hide h
  clear h
  go_enter Tryz.func26, Tryz.ntmps26
  go_wp2_with fail
  refine (below_any B 6 _ H.out (by omega)).mono ?_
  rintro e w1 ⟨⟨r, r0, _, r1, rfl⟩, HR1, HA1⟩
  by_cases c0 : (r == 0) = true
  · go_wp2_with fail
    refine (bytes_any B _ HR1).mono ?_
    rintro e w2 ⟨⟨t, ht, rfl⟩, HR2, HA2⟩
    go_wp2
    go_ret
    exact ⟨⟨s ++ t, by rw [ByteArray.size_append]; omega, rfl⟩, HR2, HA1.trans HA2⟩
  · have c0' : (r == 0) = false := by simpa using c0
    clear c0
    by_cases c1 : (r == 1) = true
    · go_wp2_with fail
      refine (below_any B _ _ HR1 (by omega)).mono ?_
      rintro e w2 ⟨⟨x, x0, x2, x1, rfl⟩, HR2, HA2⟩
      obtain ⟨m, rfl⟩ := Int.eq_ofNat_of_zero_le x0
      have x3 : m ≤ s.size := by omega
      clear x2
      go_wp2
      go_ret
      exact ⟨⟨s.extract 0 m, by simp; omega, rfl⟩, HR2, HA1.trans HA2⟩
    · have c1' : (r == 1) = false := by simpa using c1
      clear c1
      by_cases c2 : (r == 2) = true
      · by_cases hz : 0 < s.size
        · have hz' : (0 : Int) < (s.size : Int) := by omega
          go_wp2_with fail
          refine (below_any B _ _ HR1 (by omega)).mono ?_
          rintro e w2 ⟨⟨x, x0, x2, x1, rfl⟩, HR2, HA2⟩
          obtain ⟨m, rfl⟩ := Int.eq_ofNat_of_zero_le x0
          have x3 : m < s.size := by omega
          have hlt := HR2.lt
          have e1 := wrapI ((m : Int) + 1) (by omega) (by omega)
          have hle : m ≤ s.size := by omega
          have hle2 : (0 : Int) ≤ (m : Int) + 1 ∧ (m : Int) + 1 ≤ (s.size : Int) := by omega
          have hle3 : (0 : Int) ≤ (m : Int) + 1 := by omega
          have hle4 : (m : Int) + 1 ≤ (s.size : Int) := by omega
          have hE : (s.extract 0 m).size = m := by simp; omega
          have hE2 : (s.extract (m + 1) s.size).size ≤ 1000 := by simp; omega
          clear x2
          go_wp2_with fail
          go_region_with (go_at_call 29; refine (below_any B 5 _ (by first | exact rd_drew (HR2.kept ((Kept.refl _).alloc _ _)) | exact rd_drew HR2) (by omega)).mono ?_; rintro e w3 ⟨⟨y, y0, y2, y1, rfl⟩, HR3, HA3⟩; obtain ⟨q, rfl⟩ := Int.eq_ofNat_of_zero_le y0; have y3 : q < 5 := (by omega); have y4 : (q : Int) < 5 := (by omega); have hcell := fun wx => five_cell wx q y3; have hps := pick5_size q; try (have hx := five_apart HA3 hlt q y3))
          all_goals go_wp2
          all_goals go_ret
          all_goals first | exact ⟨⟨_, hurt_size s m q x3, rfl⟩, HR3, HA1.trans (HA2.trans (((Kept.refl _).alloc _ _).drew.to_apart.trans HA3))⟩ | exact ⟨⟨_, hurt_size s m q x3, rfl⟩, HR3.kept ((Kept.refl _).alloc _ _), HA1.trans (HA2.trans (((Kept.refl _).drew.to_apart.trans HA3).trans ((Kept.refl _).alloc _ _).to_apart))⟩
        · have hz' : ¬ (0 : Int) < (s.size : Int) := by omega
          go_wp2
          go_ret
          exact ⟨⟨s, by omega, rfl⟩, HR1, HA1⟩
      · have c2' : (r == 2) = false := by simpa using c2
        clear c2
        go_wp2
        go_ret
        exact ⟨⟨s, by omega, rfl⟩, HR1, HA1⟩
end Go.Proofs.YtbcodlgpdehdhaaGreatDoor
