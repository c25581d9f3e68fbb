/- The contracts of the model's l1Dec and of within. -/
import Derived.Test.YteaopalhbnhbaaaGreatDoorLets
import Derived.Test.YteaopalhbnhbaaaGreatDoorMath
import Derived.Below
import Derived.Lib.ItoaNum
import Derived.Laws.BytesArg
namespace Go.Proofs.YteaopalhbnhbaaaGreatDoor
open Go.ChangeShapes Go.WideShapes Go.ChangeAt Go.RowKit
set_option linter.unusedVariables false
set_option maxRecDepth 100000

/-- of what was there nothing has turned -/
structure Kept (w w' : World) : Prop where
  grown : Grown w w'
  below : Below w.heap.size w w'
theorem Kept.refl (w : World) : Kept w w := ⟨Grown.refl _, Below.refl _ _⟩
theorem Kept.trans {a b c : World} (h : Kept a b) (k : Kept b c) : Kept a c :=
  ⟨⟨World.keptBut_trans h.grown.1 k.grown.1, fun x => (k.grown.2.1 x).trans (h.grown.2.1 x), Nat.le_trans h.grown.2.2 k.grown.2.2⟩, h.below.trans (k.below.mono h.below.size)⟩
theorem Kept.alloc {a w : World} (h : Kept a w) (c : Array Value) (t : TypeId) : Kept a (w.alloc (.cells c t)) := ⟨h.grown.alloc c t, h.below.alloc h.below.size _⟩
theorem Kept.setCell {a w : World} (h : Kept a w) {p : Addr} (hp : a.heap.size ≤ p.block) (v : Value) : Kept a (w.setCell p v) := ⟨h.grown.setCell hp v, h.below.setCell hp v⟩
theorem Kept.drew {a w : World} (h : Kept a w) : Kept a w.drew := ⟨h.grown.drew, h.below.drew⟩

theorem conv1 (w : World) (a : Int) : (convert 22 9 (.slice (some ⟨w.heap.size, 0, none⟩) 1 1)).run Tryz.prog (w.alloc (.cells #[.int .u8 a] 5)) = .ok (.string ⟨#[UInt8.ofNat a.toNat]⟩) (w.alloc (.cells #[.int .u8 a] 5)) := by
  have h := run_convert_bytes_arg (P := Tryz.prog) (w.alloc (.cells #[.int .u8 a] 5)) 22 5 Tryz.underlying22 Tryz.underlying5 w.heap.size 0 1 1 [a] rfl (fun i hi => by
    obtain rfl : i = 0 := by omega
    simp) 9 Tryz.underlying9
  rw [h]; rfl
set_option maxHeartbeats 400000 in
theorem l1Dec_any (n : Int) (w : World) (h0 : 0 ≤ n) (h1 : n ≤ 1000000000000000) :
    Calls Tryz.prog 26 #[.int .i64 n] w fun e w' => e = .returned (.string (bs (dec n.toNat))) ∧ Kept w w' := by
  have a1 : ¬ n < 0 := by omega
  go_enter Tryz.func26, Tryz.ntmps26
  go_wp2
  go_loopw [0, 3] (fun i s w' => ∃ (k : Int) (f : Nat), 0 ≤ k ∧ k ≤ n ∧ i = .int .i64 k ∧ ∃ b : ByteArray, s = .string b ∧ Kept w w' ∧ b.size + f ≤ 19 ∧ Hid (k.toNat < 10 ^ (f + 1)) ∧ Hid (decA (f + 1) k.toNat b.data.toList = dec n.toNat)) (fun i s w => (intOf i).toNat)
  case atStart => exact ⟨n, 19, h0, by omega, rfl, _, rfl, Kept.refl _, by decide, hide (by omega), hide rfl⟩
  case round =>
    obtain ⟨k, f, hk, hk2, rfl, b, rfl, HK, hb, HP, HD⟩ := hrel
    have hc := conv1
    by_cases h : 10 ≤ k
    · have HD2 : Hid (∃ g, f = g + 1 ∧ (k / 10).toNat < 10 ^ (g + 1) ∧ decA (g + 1) (k / 10).toNat (({ data := #[UInt8.ofNat (48 + k % 10).toNat] } : ByteArray) ++ b).data.toList = dec n.toNat) := hide (by
        have hp := HP.out
        have hd := HD.out
        obtain ⟨g, rfl⟩ : ∃ g, f = g + 1 := by
          rcases f with _ | g
          · simp at hp; omega
          · exact ⟨g, rfl⟩
        refine ⟨g, rfl, by rw [Nat.pow_succ] at hp; omega, ?_⟩
        have := dec_step g k.toNat b _ hd (by omega)
        rw [show (k / 10).toNat = k.toNat / 10 by omega, show (48 + k % 10).toNat = 48 + k.toNat % 10 by omega]
        exact this)
      clear HP HD
      go_wp2
      obtain ⟨g, rfl, hp, hd⟩ := HD2.out
      exact ⟨⟨k / 10, g, by omega, by omega, rfl, _, rfl, HK.alloc _ _, by rw [one_size]; omega, hide hp, hide hd⟩, by simp [intOf]; omega⟩
    · have HD2 : Hid (({ data := #[UInt8.ofNat (48 + k).toNat] } : ByteArray) ++ b = bs (dec n.toNat)) := hide (by
        have := dec_end f k.toNat b _ HD.out (by omega)
        rw [show (48 + k).toNat = 48 + k.toNat by omega]; exact this)
      clear HP HD
      go_wp2
      go_ret
      exact ⟨by rw [← HD2.out]; rfl, HK.alloc _ _⟩

theorem within_any (n lo hi : Int) (w : World) :
    Calls Tryz.prog 70 #[.int .i64 n, .int .i64 lo, .int .i64 hi] w fun e w' => e = .returned (.bool (inB lo hi n)) ∧ w' = w := by
  by_cases h1 : lo ≤ n
  · by_cases h2 : n ≤ hi
    · have HR : Hid (inB lo hi n = true) := hide (by simp [inB, h1, h2])
      go_enter Tryz.func70, Tryz.ntmps70
      go_wp2
      go_ret
      exact ⟨by rw [HR.out]; rfl, rfl⟩
    · have HR : Hid (inB lo hi n = false) := hide (by simp [inB, h1, h2])
      go_enter Tryz.func70, Tryz.ntmps70
      go_wp2
      go_ret
      exact ⟨by rw [HR.out]; rfl, rfl⟩
  · have HR : Hid (inB lo hi n = false) := hide (by simp [inB, h1])
    go_enter Tryz.func70, Tryz.ntmps70
    go_wp2
    go_ret
    exact ⟨by rw [HR.out]; rfl, rfl⟩
theorem l1In_any (n lo hi : Int) (w : World) :
    Calls Tryz.prog 62 #[.int .i64 n, .int .i64 lo, .int .i64 hi] w fun e w' => e = .returned (.bool (inB lo hi n)) ∧ w' = w := by
  by_cases h1 : lo ≤ n
  · by_cases h2 : n ≤ hi
    · have HR : Hid (inB lo hi n = true) := hide (by simp [inB, h1, h2])
      go_enter Tryz.func62, Tryz.ntmps62
      go_wp2
      go_ret
      exact ⟨by rw [HR.out]; rfl, rfl⟩
    · have HR : Hid (inB lo hi n = false) := hide (by simp [inB, h1, h2])
      go_enter Tryz.func62, Tryz.ntmps62
      go_wp2
      go_ret
      exact ⟨by rw [HR.out]; rfl, rfl⟩
  · have HR : Hid (inB lo hi n = false) := hide (by simp [inB, h1])
    go_enter Tryz.func62, Tryz.ntmps62
    go_wp2
    go_ret
    exact ⟨by rw [HR.out]; rfl, rfl⟩
theorem dec_digits : ∀ (f n : Nat) (acc : List UInt8), n < 10 ^ (f + 1) → decA (f + 1) n acc = Lib.decDigits n ++ acc
  | 0, n, acc, h => by
    have h' : n < 10 := by simpa using h
    rw [decA_small _ _ _ h', Lib.decDigits, dif_pos h', dg_small n h']
    rfl
  | f + 1, n, acc, h => by
    by_cases hn : n < 10
    · rw [decA_small _ _ _ hn, Lib.decDigits, dif_pos hn, dg_small n hn]
      rfl
    · rw [decA_big _ _ _ (by omega), dec_digits f (n / 10) _ (by rw [Nat.pow_succ] at h; omega)]
      conv => rhs; rw [Lib.decDigits, dif_neg hn]
      simp [dg]
theorem dec_lib {n : Nat} (h : n < 10 ^ 20) : dec n = Lib.decDigits n := by
  unfold dec
  rw [dec_digits 19 n [] h, List.append_nil]
theorem itoa_pos {n : Int} (h : 0 ≤ n) (h1 : n ≤ 1000000000000000) : dec n.toNat = Lib.itoa n := by
  rw [dec_lib (by omega), Lib.itoa, if_neg (by omega)]
theorem itoa_neg {n : Int} (h : n < 0) (h1 : -1000000000000000 ≤ n) : 45 :: dec (-n).toNat = Lib.itoa n := by
  rw [dec_lib (by omega), Lib.itoa, if_pos h, show n.natAbs = (-n).toNat by omega]
set_option maxHeartbeats 400000 in
theorem l1Dec_all (n : Int) (w : World) (h0 : -1000000000000000 ≤ n) (h1 : n ≤ 1000000000000000) :
    Calls Tryz.prog 26 #[.int .i64 n] w fun e w' => e = .returned (.string (bs (Lib.itoa n))) ∧ Below w.heap.size w w' := by
  by_cases h : n < 0
  · have HR : Hid (({ data := #[45] } : ByteArray) ++ bs (dec (-n).toNat) = bs (Lib.itoa n)) := hide (by apply bs_of; rw [list_one, bs_list, itoa_neg h h0])
    go_enter Tryz.func26, Tryz.ntmps26
    go_wp2_with fail
    refine (l1Dec_any (-n) w (by omega) (by omega)).mono ?_
    rintro e w1 ⟨rfl, hk⟩
    have HB : Hid _ := hide hk.below
    have hsz : (bs (dec (-n).toNat)).size ≤ 30 := by rw [bs_size]; have := dec_len 15 (-n).toNat (by omega) (by omega); omega
    clear hk
    go_wp2
    go_ret
    exact ⟨by rw [← HR.out]; rfl, HB.out⟩
  · refine (l1Dec_any n w (by omega) h1).mono ?_
    rintro e w1 ⟨rfl, hk⟩
    exact ⟨by rw [itoa_pos (by omega) h1], hk.below⟩
end Go.Proofs.YteaopalhbnhbaaaGreatDoor
