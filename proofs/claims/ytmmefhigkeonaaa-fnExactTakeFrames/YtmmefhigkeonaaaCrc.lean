/- The CRC as numbers: one bit, a byte, a list of bytes; what the program makes of a bit is what its model makes of it. -/
import Derived.Test.YtmmefhigkeonaaaRows
import Derived.WalkKit
import Derived.ProofKit
import Derived.OpenShut
import Derived.ShutString
import Derived.WalkSpells
import Derived.WalkLawsBesides
import Derived.Laws.BitsAllLaws
namespace Go.Proofs.Ytmmefhigkeonaaa
open Go.ChangeShapes Go.WideShapes Go.ChangeAt Go.RowKit
set_option linter.unusedVariables false

theorem hide {p : Prop} (h : p) : Hid p := h
theorem take_snoc (s : ByteArray) (k : Nat) (h : k < s.size) : s.data.toList.take (k + 1) = s.data.toList.take k ++ [s[k]] := by
  rw [List.take_succ_eq_append_getElem (by simpa using h)]; rfl
theorem take_all (s : ByteArray) (k : Nat) (h : ¬ k < s.size) : s.data.toList.take k = s.data.toList := List.take_of_length_le (by simp; omega)

theorem xor_in (a b : Int) (h1 : 0 ≤ a) (h2 : a < 4294967296) (h3 : 0 ≤ b) (h4 : b < 4294967296) : 0 ≤ bits .xor .u32 a b ∧ bits .xor .u32 a b < 4294967296 := by
  rw [u32_xor a b h1 h2 h3 h4]
  have : a.toNat ^^^ b.toNat < 2 ^ 32 := Nat.xor_lt_two_pow (by omega) (by omega)
  omega
theorem xor_none (a : Int) (h1 : 0 ≤ a) (h2 : a < 4294967296) : bits .xor .u32 a 0 = a := by
  rw [u32_xor a 0 h1 h2 (by omega) (by omega)]
  simp; omega
/-- a bit of the CRC -/
def crcBit (c : Int) : Int := if c % 2 = 1 then bits .xor .u32 (c / 2) 3988292384 else c / 2
theorem crcBit_in (c : Int) (h1 : 0 ≤ c) (h2 : c < 4294967296) : 0 ≤ crcBit c ∧ crcBit c < 4294967296 := by
  unfold crcBit
  split
  · exact xor_in _ _ (by omega) (by omega) (by omega) (by omega)
  · omega
theorem crcBit_odd (c : Int) (h : c % 2 = 1) : crcBit c = bits .xor .u32 (c / 2) 3988292384 := by simp [crcBit, h]
theorem crcBit_even (c : Int) (h : ¬ c % 2 = 1) : crcBit c = c / 2 := by simp [crcBit, h]
theorem and_one (c : Int) (h1 : 0 ≤ c) (h2 : c < 4294967296) : bits .and .u32 c 1 = c % 2 := by
  rw [u32_and c 1 h1 h2 (by omega) (by omega)]
  rw [show ((1 : Int).toNat) = 1 from rfl, nat_mask1]
  omega
def crcN : Nat → Int → Int
  | 0, c => c
  | n + 1, c => crcN n (crcBit c)
def crcByte (c : Int) (b : UInt8) : Int := crcN 8 (bits .xor .u32 c (b.toNat : Int))
def crcL (l : List UInt8) : Int := l.foldl crcByte 4294967295
theorem crcL_snoc (l : List UInt8) (b : UInt8) : crcL (l ++ [b]) = crcN 8 (bits .xor .u32 (crcL l) (b.toNat : Int)) := by simp [crcL, crcByte]
def crc (l : List UInt8) : Int := bits .xor .u32 IntKind.u32.max (crcL l)
/-- what the program makes of a bit -/
theorem implBit (y : Int) (h1 : 0 ≤ y) (h2 : y < 4294967296) : bits .xor .u32 (y / 2) (3988292384 * bits .and .u32 y 1 % 4294967296) = crcBit y := by
  rw [and_one y h1 h2]
  by_cases h : y % 2 = 1
  · rw [crcBit_odd y h, h]; rfl
  · rw [crcBit_even y h, show y % 2 = 0 by omega]
    exact xor_none _ (by omega) (by omega)
theorem crcN_step (j : Nat) (hj : j < 8) (y : Int) : crcN (8 - (j + 1)) (crcBit y) = crcN (8 - j) y := by
  rw [show 8 - j = 8 - (j + 1) + 1 by omega]; rfl
theorem crcN_end (j : Nat) (hj : ¬ j < 8) (y : Int) : crcN (8 - j) y = y := by
  rw [show 8 - j = 0 by omega]; rfl
/-- the four bytes of a number, the lowest first -/
def le4 (z : Int) : ByteArray := ⟨#[UInt8.ofNat (z % 256).toNat, UInt8.ofNat (z / 256 % 256).toNat, UInt8.ofNat (z / 65536 % 256).toNat, UInt8.ofNat (z / 16777216 % 256).toNat]⟩
/-- the four bytes of a number, the highest first -/
def be4 (z : Int) : ByteArray := ⟨#[UInt8.ofNat (z / 16777216 % 256).toNat, UInt8.ofNat (z / 65536 % 256).toNat, UInt8.ofNat (z / 256 % 256).toNat, UInt8.ofNat (z % 256).toNat]⟩
/-- the frame of a text -/
def frame (s : ByteArray) : ByteArray := be4 (s.size : Int) ++ le4 (crc s.data.toList) ++ s
end Go.Proofs.Ytmmefhigkeonaaa
