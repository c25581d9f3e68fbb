/- The drawn amount and the drawn text. -/
import Derived.Test.YtbpopaojkmdffaaRd4
import Derived.Test.YtbpopaojkmdffaaMath2
namespace Go.Proofs.Ytbpopaojkmdffaa
open Go.ChangeShapes Go.WideShapes Go.ChangeAt Go.RowKit
set_option linter.unusedVariables false
set_option maxHeartbeats 1000000 in
set_option maxRecDepth 100000 in
theorem l1Open_any (a : Option Addr) (len cap : Nat) (w : World) : Calls Try.prog 24 #[.slice a len cap] w fun e w' => e = .returned (.pointer (some ⟨w.heap.size, 0, none⟩)) ∧ w' = w.alloc (.cells #[.slice a len cap, .int .i64 0] 52) := by
  go_enter Try.func24, Try.ntmps24
  go_wp2
  go_ret
  exact ⟨rfl, rfl⟩
/-- the bytes of a drawn input, as the law is given them -/
def IsCode (w : World) (a : Option Addr) (len : Nat) : Prop := len ≤ 2 ^ 63 - 1 ∧ ∀ i, i < len → ∃ b off, a = some ⟨b, off, none⟩ ∧ b < w.heap.size ∧ ∃ z : Int, 0 ≤ z ∧ z ≤ 255 ∧ w.cell? ⟨b, off + i, none⟩ = some (.int .u8 z)
theorem IsCode.below {w w' : World} {a : Option Addr} {len : Nat} (h : IsCode w a len) (k : Below w.heap.size w w') : IsCode w' a len := by
  refine ⟨h.1, fun i hi => ?_⟩
  obtain ⟨b, off, e, hb, z, z0, z1, hz⟩ := h.2 i hi
  exact ⟨b, off, e, by have := k.size; omega, z, z0, z1, by rw [k.cell (by exact hb)]; exact hz⟩
theorem rd_open {w : World} {a : Option Addr} {len cap : Nat} (h : IsCode w a len) : Rd w.heap.size (w.alloc (.cells #[.slice a len cap, .int .i64 0] 52)) := by
  refine ⟨a, len, cap, 0, by simp, by simp, Nat.zero_le _, h.1, by simp, by simp, fun i hi => ?_⟩
  obtain ⟨b, off, e, hb, z, z0, z1, hz⟩ := h.2 i hi
  exact ⟨b, off, e, hb, z, z0, z1, by rw [World.cell?_alloc_past _ _ _ hb]; exact hz⟩
set_option maxHeartbeats 1000000 in
theorem drawAmountText_any (a : Option Addr) (len cap : Nat) (w : World) (h : IsCode w a len) : Calls Try.prog 10 #[.slice a len cap] w fun e w' => (∃ r : Int, -9223372036854775808 ≤ r ∧ r ≤ 9223372036854775807 ∧ e = .returned (.int .i64 r)) ∧ Below w.heap.size w w' := by
  have HC : Hid _ := hide h
  clear h
  go_enter Try.func10, Try.ntmps10
  go_wp2_with fail
  refine (l1Open_any a len cap w).mono ?_
  rintro e w1 ⟨rfl, rfl⟩
  have HR := rd_open (cap := cap) HC.out
  go_wp2_with fail
  refine (amount_any _ _ HR).mono ?_
  rintro e w2 ⟨⟨x, x0, x1, rfl⟩, HR2, HA2⟩
  go_wp2_with fail
  refine (once_any _ 3 _ HR2 (by omega) (by omega)).mono ?_
  rintro e w3 ⟨⟨b, rfl⟩, HR3, HA3⟩
  have HB : Below w.heap.size w w3 := below_apart ((Below.refl _ _).alloc (Nat.le_refl _) _) (Nat.le_refl _) (HA2.trans HA3)
  cases b
  · go_wp2
    go_ret
    exact ⟨⟨x, x0, x1, rfl⟩, HB⟩
  · go_wp2
    go_ret
    exact ⟨⟨wrap64 (-x), by unfold wrap64; omega, by unfold wrap64; omega, rfl⟩, HB⟩
theorem str_cell {w w1 : World} {B : Nat} {cs : Array Value} {T : TypeId} (hB : B < w.heap.size) (HA : Apart B (w.alloc (.cells cs T)) w1) (q : Nat) (t : ByteArray) (h : cs[q]? = some (.string t)) : w1.cell? ⟨w.heap.size, q, none⟩ = some (.string t) := by
  rw [HA.cell (by simp) (by omega)]; simpa using h
set_option maxHeartbeats 1000000 in
theorem drawReadAmount_any (a : Option Addr) (len cap : Nat) (w : World) (h : IsCode w a len) : Calls Try.prog 14 #[.slice a len cap] w fun e w' => (∃ s : ByteArray, s.size ≤ 1000 ∧ e = .returned (.string s)) ∧ Below w.heap.size w w' := by
  have HC : Hid _ := hide h
  clear h
  go_enter Try.func14, Try.ntmps14
  go_wp2_with fail
  refine (l1Open_any a len cap w).mono ?_
  rintro e w1 ⟨rfl, rfl⟩
  have HR := rd_open (cap := cap) HC.out
  go_wp2_with fail
  refine (once_any _ 4 _ HR (by omega) (by omega)).mono ?_
  rintro e w2 ⟨⟨b, rfl⟩, HR2, HA2⟩
  cases b
  · go_wp2_with fail
    refine (below_any _ 9999 _ HR2 (by omega)).mono ?_
    rintro e w3 ⟨⟨x, x0, x2, x1, rfl⟩, HR3, HA3⟩
    clear x2
    go_wp2_with fail
    refine (specAmountText_any _ _ (by omega) (by omega)).mono ?_
    rintro e w4 ⟨rfl, HK4⟩
    have hsz : (bs (amt (x - 4000))).size ≤ 1000 := by rw [bs_size]; have := amt_len (x - 4000); omega
    have hsz2 : (bs (amt (x - 4000))).size + 2 ≤ 1000 := by rw [bs_size]; have := amt_len (x - 4000); omega
    have HR4 := HR3.kept HK4
    go_wp2_with fail
    refine (hurt_any _ _ _ HR4 hsz).mono ?_
    rintro e w5 ⟨⟨s, hs, rfl⟩, HR5, HA5⟩
    have HB : Below w.heap.size w w5 := below_apart ((Below.refl _ _).alloc (Nat.le_refl _) _) (Nat.le_refl _) (((HA2.trans HA3).trans HK4.to_apart).trans HA5)
    go_wp2
    go_ret
    exact ⟨⟨s, by omega, rfl⟩, HB⟩
  · have hlt := HR2.lt
    go_wp2_with fail
    refine (below_any _ 10 _ (HR2.kept ((Kept.refl _).alloc _ _)) (by omega)).mono ?_
    rintro e w3 ⟨⟨x, x0, x2, x1, rfl⟩, HR3, HA3⟩
    obtain ⟨q, rfl⟩ := Int.eq_ofNat_of_zero_le x0
    have q10 : q < 10 := by omega
    have q10' : (q : Int) < 10 := by omega
    have hex : ∃ t : ByteArray, t.size ≤ 20 ∧ w3.cell? ⟨w2.heap.size, q, none⟩ = some (.string t) := by
      clear x0 x1 x2 q10'
      obtain rfl | rfl | rfl | rfl | rfl | rfl | rfl | rfl | rfl | rfl : q = 0 ∨ q = 1 ∨ q = 2 ∨ q = 3 ∨ q = 4 ∨ q = 5 ∨ q = 6 ∨ q = 7 ∨ q = 8 ∨ q = 9 := by omega
      all_goals
        refine ⟨_, ?_, str_cell hlt HA3 _ _ rfl⟩
        decide
    obtain ⟨t, ht, hcell⟩ := hex
    have HB : Below w.heap.size w w3 := below_apart ((Below.refl _ _).alloc (Nat.le_refl _) _) (Nat.le_refl _) ((HA2.trans ((Kept.refl _).alloc _ _).to_apart).trans HA3)
    clear x2
    go_wp2
    go_ret
    exact ⟨⟨t, by omega, rfl⟩, HB⟩
end Go.Proofs.Ytbpopaojkmdffaa
