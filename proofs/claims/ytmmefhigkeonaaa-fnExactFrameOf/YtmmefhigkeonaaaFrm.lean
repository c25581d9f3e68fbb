/- The contracts of FrameOf, of the program and of its model. -/
import Derived.Test.YtmmefhigkeonaaaSum
import Derived.RegionTactic
import Derived.ChangeAlike
import Derived.Deep.RegionWith
namespace Go.Proofs.Ytmmefhigkeonaaa
open Go.ChangeShapes Go.WideShapes Go.ChangeAt Go.RowKit
set_option linter.unusedVariables false

theorem conv4d (w : World) (a b c d : Int) : (convert 30 9 (.slice (some ⟨w.heap.size, 0, none⟩) 4 4)).run Try.prog (w.alloc (.cells #[.int .u8 a, .int .u8 b, .int .u8 c, .int .u8 d] 5)).drew = .ok (.string ⟨#[UInt8.ofNat a.toNat, UInt8.ofNat b.toNat, UInt8.ofNat c.toNat, UInt8.ofNat d.toNat]⟩) (w.alloc (.cells #[.int .u8 a, .int .u8 b, .int .u8 c, .int .u8 d] 5)).drew := conv4 w.drew a b c d
theorem conv4_kept {w w1 : World} {a b c d : Int} (HK : Kept (w.alloc (.cells #[.int .u8 a, .int .u8 b, .int .u8 c, .int .u8 d] 5)).drew w1) : (convert 30 9 (.slice (some ⟨w.heap.size, 0, none⟩) 4 4)).run Try.prog w1 = .ok (.string ⟨#[UInt8.ofNat a.toNat, UInt8.ofNat b.toNat, UInt8.ofNat c.toNat, UInt8.ofNat d.toNat]⟩) w1 := by
  have hb : ∀ i, w1.cell? ⟨w.heap.size, i, none⟩ = (w.alloc (.cells #[.int .u8 a, .int .u8 b, .int .u8 c, .int .u8 d] 5)).cell? ⟨w.heap.size, i, none⟩ := fun i => HK.below.cell (p := ⟨w.heap.size, i, none⟩) (by show w.heap.size < (w.alloc (.cells #[.int .u8 a, .int .u8 b, .int .u8 c, .int .u8 d] 5)).heap.size; simp)
  exact conv4_at _ _ _ _ _ _ (by rw [hb]; simp) (by rw [hb]; simp) (by rw [hb]; simp) (by rw [hb]; simp)
theorem be4_text (n : Nat) (h : n ≤ 100000) : ({ data := #[UInt8.ofNat (n / 16777216), UInt8.ofNat (n / 65536), UInt8.ofNat ((n : Int) / 256 % 256).toNat, UInt8.ofNat ((n : Int) % 256).toNat] } : ByteArray) = be4 (n : Int) := by
  unfold be4
  rw [show ((n : Int) / 16777216 % 256).toNat = n / 16777216 by omega, show ((n : Int) / 65536 % 256).toNat = n / 65536 by omega]
theorem be4_size (z : Int) : (be4 z).size = 4 := rfl
theorem le4_size (z : Int) : (le4 z).size = 4 := rfl

set_option maxHeartbeats 1000000 in
theorem specFrameOf_short (s : ByteArray) (w : World) (hs : s.size ≤ 100000) :
    Calls Try.prog 5 #[.string s] w fun e w' => e = .returned (.string (frame s)) ∧ Kept w w' := by
  have hc := conv4
  have hcd := conv4d
  have h0 : (s.size : Int) ≤ 100000 := by omega
  have h1 : 0 ≤ (s.size : Int) := by omega
  have hl := le4_size (crc s.data.toList)
  have HB : Hid _ := hide (be4_text s.size hs)
  go_enter Try.func5, Try.ntmps5
  go_wp2_with fail
  go_region_with (go_at_call 12; refine (l9Sum_any _ _ (by unfold maxLen; omega)).mono ?_; rintro e w1 ⟨rfl, HK⟩; try (have hx := conv4_kept HK))
  all_goals go_wp2
  all_goals go_ret
  all_goals exact ⟨by unfold frame; rw [← HB.out]; rfl, by first | exact ((Kept.refl _).drew.trans HK).alloc _ _ | exact ((Kept.refl _).alloc _ _).drew.trans HK⟩
theorem specFrameOf_long (s : ByteArray) (w : World) (hm : s.size ≤ maxLen) (hs : ¬ s.size ≤ 100000) :
    Calls Try.prog 5 #[.string s] w fun e w' => e = .returned (.string ⟨#[]⟩) ∧ Kept w w' := by
  unfold maxLen at hm
  have h0 : 100000 < (s.size : Int) := by omega
  go_enter Try.func5, Try.ntmps5
  go_wp2
  go_ret
  exact ⟨rfl, Kept.refl _⟩
theorem implFrameOf_long (s : ByteArray) (w : World) (hm : s.size ≤ maxLen) (hs : ¬ s.size ≤ 100000) :
    Calls Try.prog 6 #[.string s] w fun e w' => e = .returned (.string ⟨#[]⟩) ∧ Kept w w' := by
  unfold maxLen at hm
  have h0 : 100000 < (s.size : Int) := by omega
  go_enter Try.func6, Try.ntmps6
  go_wp2
  go_ret
  exact ⟨rfl, Kept.refl _⟩

theorem conv8 (w : World) (t : TypeId) (a b c d a' b' c' d' : Int) : (convert 30 9 (.slice (some ⟨w.heap.size, 0, none⟩) 8 8)).run Try.prog (w.alloc (.cells #[.int .u8 a, .int .u8 b, .int .u8 c, .int .u8 d, .int .u8 a', .int .u8 b', .int .u8 c', .int .u8 d'] t)) = .ok (.string ⟨#[UInt8.ofNat a.toNat, UInt8.ofNat b.toNat, UInt8.ofNat c.toNat, UInt8.ofNat d.toNat, UInt8.ofNat a'.toNat, UInt8.ofNat b'.toNat, UInt8.ofNat c'.toNat, UInt8.ofNat d'.toNat]⟩) (w.alloc (.cells #[.int .u8 a, .int .u8 b, .int .u8 c, .int .u8 d, .int .u8 a', .int .u8 b', .int .u8 c', .int .u8 d'] t)) := by
  have h := run_convert_bytes_arg (P := Try.prog) (w.alloc (.cells #[.int .u8 a, .int .u8 b, .int .u8 c, .int .u8 d, .int .u8 a', .int .u8 b', .int .u8 c', .int .u8 d'] t)) 30 5 Try.underlying30 Try.underlying5 w.heap.size 0 8 8 [a, b, c, d, a', b', c', d'] rfl (fun i hi => by
    obtain rfl | rfl | rfl | rfl | rfl | rfl | rfl | rfl : i = 0 ∨ i = 1 ∨ i = 2 ∨ i = 3 ∨ i = 4 ∨ i = 5 ∨ i = 6 ∨ i = 7 := by omega
    all_goals simp) 9 Try.underlying9
  rw [h]; rfl
theorem head8 (n : Nat) (h : n ≤ 100000) (z : Int) : ({ data := #[UInt8.ofNat (n / 16777216), UInt8.ofNat (n / 65536), UInt8.ofNat (n / 256 % 256), UInt8.ofNat (n % 256), UInt8.ofNat (z % 256).toNat, UInt8.ofNat (z / 256 % 256).toNat, UInt8.ofNat (z / 65536 % 256).toNat, UInt8.ofNat (z / 16777216 % 256).toNat] } : ByteArray) = be4 (n : Int) ++ le4 z := by
  rw [← be4_text n h]
  apply ByteArray.ext
  simp only [le4, ByteArray.data_append]
  rw [show ((n : Int) / 256 % 256).toNat = n / 256 % 256 by omega, show ((n : Int) % 256).toNat = n % 256 by omega]
  rfl
theorem implFrameOf_short (s : ByteArray) (w : World) (hs : s.size ≤ 100000) :
    Calls Try.prog 6 #[.string s] w fun e w' => e = .returned (.string (frame s)) ∧ Kept w w' := by
  have h0 : (s.size : Int) ≤ 100000 := by omega
  have h1 : 0 ≤ (s.size : Int) := by omega
  unfold frame
  go_enter Try.func6, Try.ntmps6
  go_wp2_with fail
  refine (checksum_any _ _ (by unfold maxLen; omega)).mono ?_
  rintro e w1 ⟨rfl, rfl⟩
  have hc := conv8
  have HB : Hid _ := hide (head8 s.size hs (crc s.data.toList))
  go_wp2
  go_ret
  exact ⟨by rw [← HB.out]; rfl, (Kept.refl _).alloc _ _⟩
end Go.Proofs.Ytmmefhigkeonaaa
