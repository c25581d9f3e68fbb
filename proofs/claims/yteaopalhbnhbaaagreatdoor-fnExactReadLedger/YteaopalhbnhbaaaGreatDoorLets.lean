/- The contracts of lettersOf, NameOk and CurOk, of the program and of its model. -/
import Derived.Test.YteaopalhbnhbaaaGreatDoorPl
import Derived.WalkKit
import Derived.ProofKit
import Derived.OpenShut
import Derived.ShutString
import Derived.WalkSpells
import Derived.WalkLawsBesides
namespace Go.Proofs.YteaopalhbnhbaaaGreatDoor
open Go.ChangeShapes Go.WideShapes Go.ChangeAt Go.RowKit
set_option linter.unusedVariables false
set_option maxRecDepth 100000

def letB (lo hi : Int) (c : UInt8) : Bool := decide (lo ≤ (c.toNat : Int) ∧ (c.toNat : Int) ≤ hi)
def lets (lo hi : Int) (l : List UInt8) : Bool := l.all (letB lo hi)
theorem take_snoc (s : ByteArray) (k : Nat) (h : k < s.size) : s.data.toList.take (k + 1) = s.data.toList.take k ++ [s[k]] := by
  rw [List.take_succ_eq_append_getElem (by simpa using h)]; rfl
theorem lets_snoc (lo hi : Int) (l : List UInt8) (c : UInt8) : lets lo hi (l ++ [c]) = (lets lo hi l && letB lo hi c) := by
  simp [lets]
theorem lets_no (lo hi : Int) (s : ByteArray) (k : Nat) (h : k < s.size) (hb : letB lo hi s[k] = false) : lets lo hi s.data.toList = false := by
  have e := List.take_append_drop (k + 1) s.data.toList
  rw [take_snoc s k h] at e
  rw [← e]
  simp only [lets, List.all_append]
  simp [hb]
theorem lets_all (lo hi : Int) (s : ByteArray) (k : Nat) (h : ¬ k < s.size) (hb : lets lo hi (s.data.toList.take k) = true) : lets lo hi s.data.toList = true := by
  rw [List.take_of_length_le (by simp; omega)] at hb; exact hb

set_option maxHeartbeats 400000 in
theorem lettersOf_any (s : ByteArray) (lo hi : Int) (w : World) (hs : s.size ≤ maxLen) :
    Calls Tryz.prog 97 #[.string s, .int .u8 lo, .int .u8 hi] w fun e w' => e = .returned (.bool (lets lo hi s.data.toList)) ∧ w' = w := by
  unfold maxLen at hs
  go_enter Tryz.func97, Tryz.ntmps97
  go_wp2
  go_loop [10] (fun i => ∃ k : Nat, k ≤ s.size ∧ i = .int .i64 k ∧ Hid (lets lo hi (s.data.toList.take k) = true)) (fun i => s.size - (intOf i).toNat)
  case atStart => exact ⟨0, Nat.zero_le _, rfl, show Hid _ from hide rfl⟩
  case round =>
    obtain ⟨k, hk, rfl, HL⟩ := hrel
    by_cases hlt : k < s.size
    · have hsn := take_snoc s k hlt
      by_cases h1 : (s[k].toNat : Int) < lo
      · have HR : Hid (lets lo hi s.data.toList = false) := hide (lets_no lo hi s k hlt (by simp [letB]; omega))
        clear hsn
        go_wp2
        go_ret
        exact ⟨by rw [HR.out]; rfl, rfl⟩
      · by_cases h2 : hi < (s[k].toNat : Int)
        · have HR : Hid (lets lo hi s.data.toList = false) := hide (lets_no lo hi s k hlt (by simp [letB]; omega))
          clear hsn
          go_wp2
          go_ret
          exact ⟨by rw [HR.out]; rfl, rfl⟩
        · have HR : Hid (lets lo hi (s.data.toList.take (k + 1)) = true) := hide (by rw [hsn, lets_snoc, HL.out]; simp [letB]; omega)
          clear hsn
          go_wp2
          go_round
          case rel => exact ⟨k + 1, by omega, by go_num, HR⟩
          case measure => simp [intOf]; omega
    · have HR : Hid (lets lo hi s.data.toList = true) := hide (lets_all lo hi s k hlt HL.out)
      go_wp2
      go_ret
      exact ⟨by rw [HR.out]; rfl, rfl⟩

def nameB (s : ByteArray) : Bool := decide (1 ≤ s.size) && decide (s.size ≤ 12) && lets 97 122 s.data.toList
def curB (s : ByteArray) : Bool := decide (s.size = 3) && lets 65 90 s.data.toList

set_option maxHeartbeats 400000 in
theorem implNameOk_any (s : ByteArray) (w : World) (hs : s.size ≤ maxLen) :
    Calls Tryz.prog 68 #[.string s] w fun e w' => e = .returned (.bool (nameB s)) ∧ w' = w := by
  have hm := hs
  unfold maxLen at hs
  by_cases h1 : 1 ≤ s.size
  · by_cases h2 : s.size ≤ 12
    · have HR : Hid (nameB s = lets 97 122 s.data.toList) := hide (by simp [nameB, h1, h2])
      have a1 : (1 : Int) ≤ (s.size : Int) := by omega
      have a2 : (s.size : Int) ≤ 12 := by omega
      go_enter Tryz.func68, Tryz.ntmps68
      go_wp2_with (go_at_call 97; refine (lettersOf_any _ _ _ _ hm).mono ?_; rintro e w' ⟨rfl, rfl⟩)
      go_ret
      exact ⟨by rw [HR.out]; rfl, rfl⟩
    · have HR : Hid (nameB s = false) := hide (by simp [nameB]; omega)
      have a1 : (1 : Int) ≤ (s.size : Int) := by omega
      have a2 : ¬ (s.size : Int) ≤ 12 := by omega
      go_enter Tryz.func68, Tryz.ntmps68
      go_wp2
      go_ret
      exact ⟨by rw [HR.out]; rfl, rfl⟩
  · have HR : Hid (nameB s = false) := hide (by simp [nameB]; omega)
    have a1 : ¬ (1 : Int) ≤ (s.size : Int) := by omega
    go_enter Tryz.func68, Tryz.ntmps68
    go_wp2
    go_ret
    exact ⟨by rw [HR.out]; rfl, rfl⟩

set_option maxHeartbeats 400000 in
theorem implCurOk_any (s : ByteArray) (w : World) (hs : s.size ≤ maxLen) :
    Calls Tryz.prog 69 #[.string s] w fun e w' => e = .returned (.bool (curB s)) ∧ w' = w := by
  have hm := hs
  unfold maxLen at hs
  by_cases h1 : s.size = 3
  · have HR : Hid (curB s = lets 65 90 s.data.toList) := hide (by simp [curB, h1])
    have a1 : ((s.size : Int) == 3) = true := by simp; omega
    clear h1
    go_enter Tryz.func69, Tryz.ntmps69
    go_wp2_with (go_at_call 97; refine (lettersOf_any _ _ _ _ hm).mono ?_; rintro e w' ⟨rfl, rfl⟩)
    go_ret
    exact ⟨by rw [HR.out]; rfl, rfl⟩
  · have HR : Hid (curB s = false) := hide (by simp [curB]; omega)
    have a1 : ((s.size : Int) == 3) = false := by simp; omega
    go_enter Tryz.func69, Tryz.ntmps69
    go_wp2
    go_ret
    exact ⟨by rw [HR.out]; rfl, rfl⟩

set_option maxHeartbeats 400000 in
theorem specNameOk_any (s : ByteArray) (w : World) (hs : s.size ≤ maxLen) :
    Calls Tryz.prog 64 #[.string s] w fun e w' => e = .returned (.bool (nameB s)) ∧ w' = w := by
  have hm := hs
  unfold maxLen at hs
  by_cases h1 : 1 ≤ s.size
  · by_cases h2 : s.size ≤ 12
    · have HR : Hid (nameB s = lets 97 122 s.data.toList) := hide (by simp [nameB, h1, h2])
      have a1 : ¬ (s.size : Int) < 1 := by omega
      have a2 : ¬ 12 < (s.size : Int) := by omega
      go_enter Tryz.func64, Tryz.ntmps64
      go_wp2
      go_loop [3] (fun i => ∃ k : Nat, k ≤ s.size ∧ i = .int .i64 k ∧ Hid (lets 97 122 (s.data.toList.take k) = true)) (fun i => s.size - (intOf i).toNat)
      case atStart => exact ⟨0, Nat.zero_le _, rfl, hide rfl⟩
      case round =>
        obtain ⟨k, hk, rfl, HL⟩ := hrel
        by_cases hlt : k < s.size
        · have hsn := take_snoc s k hlt
          by_cases h3 : (s[k].toNat : Int) < 97
          · have HS : Hid (lets 97 122 s.data.toList = false) := hide (lets_no 97 122 s k hlt (by simp [letB]; omega))
            clear hsn
            go_wp2
            go_ret
            exact ⟨by rw [HR.out, HS.out]; rfl, rfl⟩
          · by_cases h4 : 122 < (s[k].toNat : Int)
            · have HS : Hid (lets 97 122 s.data.toList = false) := hide (lets_no 97 122 s k hlt (by simp [letB]; omega))
              clear hsn
              go_wp2
              go_ret
              exact ⟨by rw [HR.out, HS.out]; rfl, rfl⟩
            · have HS : Hid (lets 97 122 (s.data.toList.take (k + 1)) = true) := hide (by rw [hsn, lets_snoc, HL.out]; simp [letB]; omega)
              clear hsn
              go_wp2
              go_round
              case rel => exact ⟨k + 1, by omega, by go_num, HS⟩
              case measure => simp [intOf]; omega
        · have HS : Hid (lets 97 122 s.data.toList = true) := hide (lets_all 97 122 s k hlt HL.out)
          go_wp2
          go_ret
          exact ⟨by rw [HR.out, HS.out]; rfl, rfl⟩
    · have HR : Hid (nameB s = false) := hide (by simp [nameB]; omega)
      have a1 : ¬ (s.size : Int) < 1 := by omega
      have a2 : 12 < (s.size : Int) := by omega
      go_enter Tryz.func64, Tryz.ntmps64
      go_wp2
      go_ret
      exact ⟨by rw [HR.out]; rfl, rfl⟩
  · have HR : Hid (nameB s = false) := hide (by simp [nameB]; omega)
    have a1 : (s.size : Int) < 1 := by omega
    go_enter Tryz.func64, Tryz.ntmps64
    go_wp2
    go_ret
    exact ⟨by rw [HR.out]; rfl, rfl⟩

set_option maxHeartbeats 400000 in
theorem specCurOk_any (s : ByteArray) (w : World) (hs : s.size ≤ maxLen) :
    Calls Tryz.prog 65 #[.string s] w fun e w' => e = .returned (.bool (curB s)) ∧ w' = w := by
  have hm := hs
  unfold maxLen at hs
  by_cases h1 : s.size = 3
  · have HR : Hid (curB s = lets 65 90 s.data.toList) := hide (by simp [curB, h1])
    have a1 : ((s.size : Int) != 3) = false := by simp; omega
    have b1 : s.size ≤ 3 := by omega
    have b2 : 3 ≤ s.size := by omega
    clear h1
    go_enter Tryz.func65, Tryz.ntmps65
    go_wp2
    go_loop [3] (fun i => ∃ k : Nat, k ≤ s.size ∧ i = .int .i64 k ∧ Hid (lets 65 90 (s.data.toList.take k) = true)) (fun i => s.size - (intOf i).toNat)
    case atStart => exact ⟨0, Nat.zero_le _, rfl, hide rfl⟩
    case round =>
      obtain ⟨k, hk, rfl, HL⟩ := hrel
      by_cases hlt : k < s.size
      · have hsn := take_snoc s k hlt
        have hk3 : (k : Int) < 3 := by omega
        by_cases h3 : (s[k].toNat : Int) < 65
        · have HS : Hid (lets 65 90 s.data.toList = false) := hide (lets_no 65 90 s k hlt (by simp [letB]; omega))
          clear hsn
          go_wp2
          go_ret
          exact ⟨by rw [HR.out, HS.out]; rfl, rfl⟩
        · by_cases h4 : 90 < (s[k].toNat : Int)
          · have HS : Hid (lets 65 90 s.data.toList = false) := hide (lets_no 65 90 s k hlt (by simp [letB]; omega))
            clear hsn
            go_wp2
            go_ret
            exact ⟨by rw [HR.out, HS.out]; rfl, rfl⟩
          · have HS : Hid (lets 65 90 (s.data.toList.take (k + 1)) = true) := hide (by rw [hsn, lets_snoc, HL.out]; simp [letB]; omega)
            clear hsn
            go_wp2
            go_round
            case rel => exact ⟨k + 1, by omega, by go_num, HS⟩
            case measure => simp [intOf]; omega
      · have HS : Hid (lets 65 90 s.data.toList = true) := hide (lets_all 65 90 s k hlt HL.out)
        have hk3 : ¬ (k : Int) < 3 := by omega
        go_wp2
        go_ret
        exact ⟨by rw [HR.out, HS.out]; rfl, rfl⟩
  · have HR : Hid (curB s = false) := hide (by simp [curB]; omega)
    have a1 : ((s.size : Int) != 3) = true := by simp; omega
    go_enter Tryz.func65, Tryz.ntmps65
    go_wp2
    go_ret
    exact ⟨by rw [HR.out]; rfl, rfl⟩
end Go.Proofs.YteaopalhbnhbaaaGreatDoor
