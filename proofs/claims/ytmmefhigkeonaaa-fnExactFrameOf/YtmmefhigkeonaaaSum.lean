/- The contracts of checksum and l9Sum. -/
import Derived.Test.YtmmefhigkeonaaaCrc
import Derived.Below
import Derived.Laws.BytesArg
namespace Go.Proofs.Ytmmefhigkeonaaa
open Go.ChangeShapes Go.WideShapes Go.ChangeAt Go.RowKit
set_option linter.unusedVariables false

set_option maxHeartbeats 400000 in
theorem checksum_any (s : ByteArray) (w : World) (hs : s.size ≤ maxLen) :
    Calls Try.prog 13 #[.string s] w fun e w' => e = .returned (.int .u32 (crc s.data.toList)) ∧ w' = w := by
  unfold maxLen at hs
  go_enter Try.func13, Try.ntmps13
  go_wp2
  go_loop [3, 8] (fun c i => ∃ (k : Nat) (x : Int), k ≤ s.size ∧ i = .int .i64 k ∧ c = .int .u32 x ∧ 0 ≤ x ∧ x < 4294967296 ∧ Hid (x = crcL (s.data.toList.take k))) (fun c i => s.size - (intOf i).toNat)
  case atStart => exact ⟨0, 4294967295, Nat.zero_le _, rfl, rfl, by omega, by omega, hide rfl⟩
  case round =>
    obtain ⟨k, x, hk, rfl, rfl, hx1, hx2, HX⟩ := hrel
    by_cases hlt : k < s.size
    · have hbb : ((s[k].toNat : Int) % 4294967296) = (s[k].toNat : Int) := by have := s[k].toNat_lt; omega
      have hin : Hid _ := hide (xor_in x ((s[k].toNat : Int) % 4294967296) hx1 hx2 (by omega) (by omega))
      have HN : Hid (crcL (s.data.toList.take (k + 1)) = crcN 8 (bits .xor .u32 x ((s[k].toNat : Int) % 4294967296))) := hide (by rw [take_snoc s k hlt, crcL_snoc, ← HX.out, hbb])
      clear hbb
      go_wp2
      go_loop [3, 17] (fun c i => ∃ (j : Nat) (y : Int), j ≤ 8 ∧ i = .int .i64 j ∧ c = .int .u32 y ∧ 0 ≤ y ∧ y < 4294967296 ∧ Hid (crcN (8 - j) y = crcL (s.data.toList.take (k + 1)))) (fun c i => 8 - (intOf i).toNat)
      case atStart => exact ⟨0, _, by omega, rfl, rfl, hin.out.1, hin.out.2, hide HN.out.symm⟩
      case round =>
        obtain ⟨j, y, hj, rfl, rfl, hy1, hy2, HY⟩ := hrel
        by_cases hj8 : j < 8
        · have HB : Hid _ := hide (crcBit_in y hy1 hy2)
          go_wp2
          go_round
          case rel =>
            refine ⟨j + 1, crcBit y, by omega, by go_num, by rw [implBit y hy1 hy2], HB.out.1, HB.out.2, hide ?_⟩
            rw [crcN_step j hj8]; exact HY.out
          case measure => simp [intOf]; omega
        · have HE : Hid (y = crcL (s.data.toList.take (k + 1))) := hide (by have := HY.out; rwa [crcN_end j hj8] at this)
          go_wp2
          exact ⟨⟨k + 1, y, by omega, by go_num, rfl, hy1, hy2, HE⟩, by simp [intOf]; omega⟩
    · have HE : Hid (x = crcL s.data.toList) := hide (by have := HX.out; rwa [take_all s k hlt] at this)
      go_wp2
      go_ret
      exact ⟨by unfold crc; rw [← HE.out]; rfl, rfl⟩

/-- of what was there nothing has turned -/
structure Kept (w w' : World) : Prop where
  grown : Grown w w'
  below : Below w.heap.size w w'
theorem Kept.refl (w : World) : Kept w w := ⟨Grown.refl _, Below.refl _ _⟩
theorem Kept.trans {a b c : World} (h : Kept a b) (k : Kept b c) : Kept a c :=
  ⟨⟨World.keptBut_trans h.grown.1 k.grown.1, fun x => (k.grown.2.1 x).trans (h.grown.2.1 x), Nat.le_trans h.grown.2.2 k.grown.2.2⟩, h.below.trans (k.below.mono h.below.size)⟩
theorem Kept.alloc {a w : World} (h : Kept a w) (c : Array Value) (t : TypeId) : Kept a (w.alloc (.cells c t)) := ⟨h.grown.alloc c t, h.below.alloc h.below.size _⟩
theorem Kept.setCell {a w : World} (h : Kept a w) {p : Addr} (hp : a.heap.size ≤ p.block) (v : Value) : Kept a (w.setCell p v) := ⟨h.grown.setCell hp v, h.below.setCell hp v⟩
theorem Kept.drew {a w : World} (h : Kept a w) : Kept a w.drew := ⟨h.grown.drew, h.below.drew⟩

theorem conv4_at (w1 : World) (B : Nat) (a b c d : Int) (h0 : w1.cell? ⟨B, 0, none⟩ = some (.int .u8 a)) (h1 : w1.cell? ⟨B, 1, none⟩ = some (.int .u8 b)) (h2 : w1.cell? ⟨B, 2, none⟩ = some (.int .u8 c)) (h3 : w1.cell? ⟨B, 3, none⟩ = some (.int .u8 d)) :
    (convert 30 9 (.slice (some ⟨B, 0, none⟩) 4 4)).run Try.prog w1 = .ok (.string ⟨#[UInt8.ofNat a.toNat, UInt8.ofNat b.toNat, UInt8.ofNat c.toNat, UInt8.ofNat d.toNat]⟩) w1 := by
  have h := run_convert_bytes_arg (P := Try.prog) w1 30 5 Try.underlying30 Try.underlying5 B 0 4 4 [a, b, c, d] rfl (fun i hi => by
    obtain rfl | rfl | rfl | rfl : i = 0 ∨ i = 1 ∨ i = 2 ∨ i = 3 := by omega
    · simpa using h0
    · simpa using h1
    · simpa using h2
    · simpa using h3) 9 Try.underlying9
  rw [h]; rfl
theorem conv4 (w : World) (a b c d : Int) : (convert 30 9 (.slice (some ⟨w.heap.size, 0, none⟩) 4 4)).run Try.prog (w.alloc (.cells #[.int .u8 a, .int .u8 b, .int .u8 c, .int .u8 d] 5)) = .ok (.string ⟨#[UInt8.ofNat a.toNat, UInt8.ofNat b.toNat, UInt8.ofNat c.toNat, UInt8.ofNat d.toNat]⟩) (w.alloc (.cells #[.int .u8 a, .int .u8 b, .int .u8 c, .int .u8 d] 5)) :=
  conv4_at _ _ _ _ _ _ (by simp) (by simp) (by simp) (by simp)

set_option maxHeartbeats 400000 in
theorem l9Sum_any (s : ByteArray) (w : World) (hs : s.size ≤ maxLen) :
    Calls Try.prog 12 #[.string s] w fun e w' => e = .returned (.string (le4 (crc s.data.toList))) ∧ Kept w w' := by
  unfold maxLen at hs
  go_enter Try.func12, Try.ntmps12
  go_wp2
  go_loop [3, 4] (fun c i => ∃ (k : Nat) (x : Int), k ≤ s.size ∧ i = .int .i64 k ∧ c = .int .u32 x ∧ 0 ≤ x ∧ x < 4294967296 ∧ Hid (x = crcL (s.data.toList.take k))) (fun c i => s.size - (intOf i).toNat)
  case atStart => exact ⟨0, 4294967295, Nat.zero_le _, rfl, rfl, by omega, by omega, hide rfl⟩
  case round =>
    obtain ⟨k, x, hk, rfl, rfl, hx1, hx2, HX⟩ := hrel
    by_cases hlt : k < s.size
    · have hbb : ((s[k].toNat : Int) % 4294967296) = (s[k].toNat : Int) := by have := s[k].toNat_lt; omega
      have hin : Hid _ := hide (xor_in x ((s[k].toNat : Int) % 4294967296) hx1 hx2 (by omega) (by omega))
      have HN : Hid (crcL (s.data.toList.take (k + 1)) = crcN 8 (bits .xor .u32 x ((s[k].toNat : Int) % 4294967296))) := hide (by rw [take_snoc s k hlt, crcL_snoc, ← HX.out, hbb])
      clear hbb
      go_wp2
      go_loop [3, 5] (fun c i => ∃ (j : Nat) (y : Int), j ≤ 8 ∧ i = .int .i64 j ∧ c = .int .u32 y ∧ 0 ≤ y ∧ y < 4294967296 ∧ Hid (crcN (8 - j) y = crcL (s.data.toList.take (k + 1)))) (fun c i => 8 - (intOf i).toNat)
      case atStart => exact ⟨0, _, by omega, rfl, rfl, hin.out.1, hin.out.2, hide HN.out.symm⟩
      case round =>
        obtain ⟨j, y, hj, rfl, rfl, hy1, hy2, HY⟩ := hrel
        by_cases hj8 : j < 8
        · have HB : Hid _ := hide (crcBit_in y hy1 hy2)
          by_cases hodd : y % 2 = 1
          · go_wp2
            go_round
            case rel =>
              refine ⟨j + 1, crcBit y, by omega, by go_num, by rw [crcBit_odd y hodd], HB.out.1, HB.out.2, hide ?_⟩
              rw [crcN_step j hj8]; exact HY.out
            case measure => simp [intOf]; omega
          · go_wp2
            go_round
            case rel =>
              refine ⟨j + 1, crcBit y, by omega, by go_num, by rw [crcBit_even y hodd], HB.out.1, HB.out.2, hide ?_⟩
              rw [crcN_step j hj8]; exact HY.out
            case measure => simp [intOf]; omega
        · have HE : Hid (y = crcL (s.data.toList.take (k + 1))) := hide (by have := HY.out; rwa [crcN_end j hj8] at this)
          go_wp2
          exact ⟨⟨k + 1, y, by omega, by go_num, rfl, hy1, hy2, HE⟩, by simp [intOf]; omega⟩
    · have HE : Hid (x = crcL s.data.toList) := hide (by have := HX.out; rwa [take_all s k hlt] at this)
      have hc := conv4
      go_wp2
      go_ret
      exact ⟨by unfold crc; rw [← HE.out]; rfl, (Kept.refl _).alloc _ _⟩
end Go.Proofs.Ytmmefhigkeonaaa
