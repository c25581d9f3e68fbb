/- The contracts of CommandOk, of the program and of its model. -/
import Derived.Test.YteaopalhbnhbaaaGreatDoorGa
import Derived.Below
import Derived.Deep.QuietTactic
import Derived.BigQuiet
import Derived.BigRegion
import Derived.Deep.RegionHeld
namespace Go.Proofs.YteaopalhbnhbaaaGreatDoor
open Go.ChangeShapes Go.WideShapes Go.ChangeAt Go.RowKit
set_option linter.unusedVariables false
set_option maxRecDepth 100000
theorem numberOk_any (n : Int) (w : World) :
    Calls Tryz.prog 71 #[.int .i64 n] w fun e w' => e = .returned (.bool (inB 1 1000000000 n)) ∧ w' = w := by
  go_enter Tryz.func71, Tryz.ntmps71
  go_wp2_with fail
  refine (within_any _ _ _ _).mono ?_
  rintro e w' ⟨rfl, rfl⟩
  go_wp2
  go_ret
  exact ⟨rfl, rfl⟩
def cmdB (id kind : Int) (f t : ByteArray) (am ref : Int) : Bool :=
  inB 1 1000000000 id &&
    (if kind = 1 then nameB f && curB t && inB (-1) 1000000000000 am && (ref == 0)
     else if kind = 2 ∨ kind = 3 then nameB f && nameB t && !(f.toList == t.toList) && inB 1 1000000000000 am && (ref == 0)
     else if kind = 4 ∨ kind = 5 then f.toList.isEmpty && t.toList.isEmpty && (am == 0) && inB 1 1000000000 ref
     else false)
set_option maxHeartbeats 2000000 in
theorem specCommandOk_1 (id : Int) (f t : ByteArray) (am ref : Int) (w : World) (hf : f.size ≤ maxLen) (ht : t.size ≤ maxLen) (hid : inB 1 1000000000 id = true) :
    Calls Tryz.prog 100 #[.agg #[.int .i64 id, .int .i64 1, .string f, .string t, .int .i64 am, .int .i64 ref]] w fun e w' => e = .returned (.bool (cmdB id 1 f t am ref)) ∧ Kept w w' := by
  cases c1 : nameB f
  case false =>
    have HR : Hid (cmdB id 1 f t am ref = false) := hide (by simp [cmdB, hid, c1])
    go_enter Tryz.func100, Tryz.ntmps100
    go_wp2_with (first | (go_at_call 64; refine (specNameOk_any _ _ (by first | exact hf | exact ht)).mono ?_; rintro e w' ⟨rfl, rfl⟩) | (go_at_call 65; refine (specCurOk_any _ _ ht).mono ?_; rintro e w' ⟨rfl, rfl⟩) | (go_at_call 62; refine (l1In_any _ _ _ _).mono ?_; rintro e w' ⟨rfl, rfl⟩))
    go_ret
    exact ⟨by rw [HR.out]; rfl, (Kept.refl _).alloc _ _⟩
  cases c2 : curB t
  case false =>
    have HR : Hid (cmdB id 1 f t am ref = false) := hide (by simp [cmdB, hid, c1, c2])
    go_enter Tryz.func100, Tryz.ntmps100
    go_wp2_with (first | (go_at_call 64; refine (specNameOk_any _ _ (by first | exact hf | exact ht)).mono ?_; rintro e w' ⟨rfl, rfl⟩) | (go_at_call 65; refine (specCurOk_any _ _ ht).mono ?_; rintro e w' ⟨rfl, rfl⟩) | (go_at_call 62; refine (l1In_any _ _ _ _).mono ?_; rintro e w' ⟨rfl, rfl⟩))
    go_ret
    exact ⟨by rw [HR.out]; rfl, (Kept.refl _).alloc _ _⟩
  cases c3 : inB (-1) 1000000000000 am
  case false =>
    have HR : Hid (cmdB id 1 f t am ref = false) := hide (by simp [cmdB, hid, c1, c2, c3])
    go_enter Tryz.func100, Tryz.ntmps100
    go_wp2_with (first | (go_at_call 64; refine (specNameOk_any _ _ (by first | exact hf | exact ht)).mono ?_; rintro e w' ⟨rfl, rfl⟩) | (go_at_call 65; refine (specCurOk_any _ _ ht).mono ?_; rintro e w' ⟨rfl, rfl⟩) | (go_at_call 62; refine (l1In_any _ _ _ _).mono ?_; rintro e w' ⟨rfl, rfl⟩))
    go_ret
    exact ⟨by rw [HR.out]; rfl, (Kept.refl _).alloc _ _⟩
  cases c4 : (ref == 0)
  case false =>
    have HR : Hid (cmdB id 1 f t am ref = false) := hide (by simp [cmdB, hid, c1, c2, c3, c4])
    go_enter Tryz.func100, Tryz.ntmps100
    go_wp2_with (first | (go_at_call 64; refine (specNameOk_any _ _ (by first | exact hf | exact ht)).mono ?_; rintro e w' ⟨rfl, rfl⟩) | (go_at_call 65; refine (specCurOk_any _ _ ht).mono ?_; rintro e w' ⟨rfl, rfl⟩) | (go_at_call 62; refine (l1In_any _ _ _ _).mono ?_; rintro e w' ⟨rfl, rfl⟩))
    go_ret
    exact ⟨by rw [HR.out]; rfl, (Kept.refl _).alloc _ _⟩
  have HR : Hid (cmdB id 1 f t am ref = true) := hide (by simp [cmdB, hid, c1, c2, c3, c4])
  go_enter Tryz.func100, Tryz.ntmps100
  go_wp2_with (first | (go_at_call 64; refine (specNameOk_any _ _ (by first | exact hf | exact ht)).mono ?_; rintro e w' ⟨rfl, rfl⟩) | (go_at_call 65; refine (specCurOk_any _ _ ht).mono ?_; rintro e w' ⟨rfl, rfl⟩) | (go_at_call 62; refine (l1In_any _ _ _ _).mono ?_; rintro e w' ⟨rfl, rfl⟩))
  go_ret
  exact ⟨by rw [HR.out]; rfl, (Kept.refl _).alloc _ _⟩
set_option maxHeartbeats 2000000 in
theorem specCommandOk_2 (id : Int) (f t : ByteArray) (am ref : Int) (w : World) (hf : f.size ≤ maxLen) (ht : t.size ≤ maxLen) (hid : inB 1 1000000000 id = true) :
    Calls Tryz.prog 100 #[.agg #[.int .i64 id, .int .i64 2, .string f, .string t, .int .i64 am, .int .i64 ref]] w fun e w' => e = .returned (.bool (cmdB id 2 f t am ref)) ∧ Kept w w' := by
  cases c1 : nameB f
  case false =>
    have HR : Hid (cmdB id 2 f t am ref = false) := hide (by simp [cmdB, hid, c1])
    go_enter Tryz.func100, Tryz.ntmps100
    go_wp2_with (first | (go_at_call 64; refine (specNameOk_any _ _ (by first | exact hf | exact ht)).mono ?_; rintro e w' ⟨rfl, rfl⟩) | (go_at_call 65; refine (specCurOk_any _ _ ht).mono ?_; rintro e w' ⟨rfl, rfl⟩) | (go_at_call 62; refine (l1In_any _ _ _ _).mono ?_; rintro e w' ⟨rfl, rfl⟩))
    go_ret
    exact ⟨by rw [HR.out]; rfl, (Kept.refl _).alloc _ _⟩
  cases c2 : nameB t
  case false =>
    have HR : Hid (cmdB id 2 f t am ref = false) := hide (by simp [cmdB, hid, c1, c2])
    go_enter Tryz.func100, Tryz.ntmps100
    go_wp2_with (first | (go_at_call 64; refine (specNameOk_any _ _ (by first | exact hf | exact ht)).mono ?_; rintro e w' ⟨rfl, rfl⟩) | (go_at_call 65; refine (specCurOk_any _ _ ht).mono ?_; rintro e w' ⟨rfl, rfl⟩) | (go_at_call 62; refine (l1In_any _ _ _ _).mono ?_; rintro e w' ⟨rfl, rfl⟩))
    go_ret
    exact ⟨by rw [HR.out]; rfl, (Kept.refl _).alloc _ _⟩
  cases c3 : (f.toList == t.toList)
  case true =>
    have HR : Hid (cmdB id 2 f t am ref = false) := hide (by simp [cmdB, hid, c1, c2, c3])
    go_enter Tryz.func100, Tryz.ntmps100
    go_wp2_with (first | (go_at_call 64; refine (specNameOk_any _ _ (by first | exact hf | exact ht)).mono ?_; rintro e w' ⟨rfl, rfl⟩) | (go_at_call 65; refine (specCurOk_any _ _ ht).mono ?_; rintro e w' ⟨rfl, rfl⟩) | (go_at_call 62; refine (l1In_any _ _ _ _).mono ?_; rintro e w' ⟨rfl, rfl⟩))
    go_ret
    exact ⟨by rw [HR.out]; rfl, (Kept.refl _).alloc _ _⟩
  cases c4 : inB 1 1000000000000 am
  case false =>
    have HR : Hid (cmdB id 2 f t am ref = false) := hide (by simp [cmdB, hid, c1, c2, c3, c4])
    go_enter Tryz.func100, Tryz.ntmps100
    go_wp2_with (first | (go_at_call 64; refine (specNameOk_any _ _ (by first | exact hf | exact ht)).mono ?_; rintro e w' ⟨rfl, rfl⟩) | (go_at_call 65; refine (specCurOk_any _ _ ht).mono ?_; rintro e w' ⟨rfl, rfl⟩) | (go_at_call 62; refine (l1In_any _ _ _ _).mono ?_; rintro e w' ⟨rfl, rfl⟩))
    go_ret
    exact ⟨by rw [HR.out]; rfl, (Kept.refl _).alloc _ _⟩
  cases c5 : (ref == 0)
  case false =>
    have HR : Hid (cmdB id 2 f t am ref = false) := hide (by simp [cmdB, hid, c1, c2, c3, c4, c5])
    go_enter Tryz.func100, Tryz.ntmps100
    go_wp2_with (first | (go_at_call 64; refine (specNameOk_any _ _ (by first | exact hf | exact ht)).mono ?_; rintro e w' ⟨rfl, rfl⟩) | (go_at_call 65; refine (specCurOk_any _ _ ht).mono ?_; rintro e w' ⟨rfl, rfl⟩) | (go_at_call 62; refine (l1In_any _ _ _ _).mono ?_; rintro e w' ⟨rfl, rfl⟩))
    go_ret
    exact ⟨by rw [HR.out]; rfl, (Kept.refl _).alloc _ _⟩
  have HR : Hid (cmdB id 2 f t am ref = true) := hide (by simp [cmdB, hid, c1, c2, c3, c4, c5])
  go_enter Tryz.func100, Tryz.ntmps100
  go_wp2_with (first | (go_at_call 64; refine (specNameOk_any _ _ (by first | exact hf | exact ht)).mono ?_; rintro e w' ⟨rfl, rfl⟩) | (go_at_call 65; refine (specCurOk_any _ _ ht).mono ?_; rintro e w' ⟨rfl, rfl⟩) | (go_at_call 62; refine (l1In_any _ _ _ _).mono ?_; rintro e w' ⟨rfl, rfl⟩))
  go_ret
  exact ⟨by rw [HR.out]; rfl, (Kept.refl _).alloc _ _⟩
set_option maxHeartbeats 2000000 in
theorem specCommandOk_3 (id : Int) (f t : ByteArray) (am ref : Int) (w : World) (hf : f.size ≤ maxLen) (ht : t.size ≤ maxLen) (hid : inB 1 1000000000 id = true) :
    Calls Tryz.prog 100 #[.agg #[.int .i64 id, .int .i64 3, .string f, .string t, .int .i64 am, .int .i64 ref]] w fun e w' => e = .returned (.bool (cmdB id 3 f t am ref)) ∧ Kept w w' := by
  cases c1 : nameB f
  case false =>
    have HR : Hid (cmdB id 3 f t am ref = false) := hide (by simp [cmdB, hid, c1])
    go_enter Tryz.func100, Tryz.ntmps100
    go_wp2_with (first | (go_at_call 64; refine (specNameOk_any _ _ (by first | exact hf | exact ht)).mono ?_; rintro e w' ⟨rfl, rfl⟩) | (go_at_call 65; refine (specCurOk_any _ _ ht).mono ?_; rintro e w' ⟨rfl, rfl⟩) | (go_at_call 62; refine (l1In_any _ _ _ _).mono ?_; rintro e w' ⟨rfl, rfl⟩))
    go_ret
    exact ⟨by rw [HR.out]; rfl, (Kept.refl _).alloc _ _⟩
  cases c2 : nameB t
  case false =>
    have HR : Hid (cmdB id 3 f t am ref = false) := hide (by simp [cmdB, hid, c1, c2])
    go_enter Tryz.func100, Tryz.ntmps100
    go_wp2_with (first | (go_at_call 64; refine (specNameOk_any _ _ (by first | exact hf | exact ht)).mono ?_; rintro e w' ⟨rfl, rfl⟩) | (go_at_call 65; refine (specCurOk_any _ _ ht).mono ?_; rintro e w' ⟨rfl, rfl⟩) | (go_at_call 62; refine (l1In_any _ _ _ _).mono ?_; rintro e w' ⟨rfl, rfl⟩))
    go_ret
    exact ⟨by rw [HR.out]; rfl, (Kept.refl _).alloc _ _⟩
  cases c3 : (f.toList == t.toList)
  case true =>
    have HR : Hid (cmdB id 3 f t am ref = false) := hide (by simp [cmdB, hid, c1, c2, c3])
    go_enter Tryz.func100, Tryz.ntmps100
    go_wp2_with (first | (go_at_call 64; refine (specNameOk_any _ _ (by first | exact hf | exact ht)).mono ?_; rintro e w' ⟨rfl, rfl⟩) | (go_at_call 65; refine (specCurOk_any _ _ ht).mono ?_; rintro e w' ⟨rfl, rfl⟩) | (go_at_call 62; refine (l1In_any _ _ _ _).mono ?_; rintro e w' ⟨rfl, rfl⟩))
    go_ret
    exact ⟨by rw [HR.out]; rfl, (Kept.refl _).alloc _ _⟩
  cases c4 : inB 1 1000000000000 am
  case false =>
    have HR : Hid (cmdB id 3 f t am ref = false) := hide (by simp [cmdB, hid, c1, c2, c3, c4])
    go_enter Tryz.func100, Tryz.ntmps100
    go_wp2_with (first | (go_at_call 64; refine (specNameOk_any _ _ (by first | exact hf | exact ht)).mono ?_; rintro e w' ⟨rfl, rfl⟩) | (go_at_call 65; refine (specCurOk_any _ _ ht).mono ?_; rintro e w' ⟨rfl, rfl⟩) | (go_at_call 62; refine (l1In_any _ _ _ _).mono ?_; rintro e w' ⟨rfl, rfl⟩))
    go_ret
    exact ⟨by rw [HR.out]; rfl, (Kept.refl _).alloc _ _⟩
  cases c5 : (ref == 0)
  case false =>
    have HR : Hid (cmdB id 3 f t am ref = false) := hide (by simp [cmdB, hid, c1, c2, c3, c4, c5])
    go_enter Tryz.func100, Tryz.ntmps100
    go_wp2_with (first | (go_at_call 64; refine (specNameOk_any _ _ (by first | exact hf | exact ht)).mono ?_; rintro e w' ⟨rfl, rfl⟩) | (go_at_call 65; refine (specCurOk_any _ _ ht).mono ?_; rintro e w' ⟨rfl, rfl⟩) | (go_at_call 62; refine (l1In_any _ _ _ _).mono ?_; rintro e w' ⟨rfl, rfl⟩))
    go_ret
    exact ⟨by rw [HR.out]; rfl, (Kept.refl _).alloc _ _⟩
  have HR : Hid (cmdB id 3 f t am ref = true) := hide (by simp [cmdB, hid, c1, c2, c3, c4, c5])
  go_enter Tryz.func100, Tryz.ntmps100
  go_wp2_with (first | (go_at_call 64; refine (specNameOk_any _ _ (by first | exact hf | exact ht)).mono ?_; rintro e w' ⟨rfl, rfl⟩) | (go_at_call 65; refine (specCurOk_any _ _ ht).mono ?_; rintro e w' ⟨rfl, rfl⟩) | (go_at_call 62; refine (l1In_any _ _ _ _).mono ?_; rintro e w' ⟨rfl, rfl⟩))
  go_ret
  exact ⟨by rw [HR.out]; rfl, (Kept.refl _).alloc _ _⟩
set_option maxHeartbeats 2000000 in
theorem specCommandOk_4 (id : Int) (f t : ByteArray) (am ref : Int) (w : World) (hf : f.size ≤ maxLen) (ht : t.size ≤ maxLen) (hid : inB 1 1000000000 id = true) :
    Calls Tryz.prog 100 #[.agg #[.int .i64 id, .int .i64 4, .string f, .string t, .int .i64 am, .int .i64 ref]] w fun e w' => e = .returned (.bool (cmdB id 4 f t am ref)) ∧ Kept w w' := by
  cases c1 : f.toList.isEmpty
  case false =>
    have HR : Hid (cmdB id 4 f t am ref = false) := hide (by simp [cmdB, hid, c1])
    go_enter Tryz.func100, Tryz.ntmps100
    go_wp2_with (first | (go_at_call 64; refine (specNameOk_any _ _ (by first | exact hf | exact ht)).mono ?_; rintro e w' ⟨rfl, rfl⟩) | (go_at_call 65; refine (specCurOk_any _ _ ht).mono ?_; rintro e w' ⟨rfl, rfl⟩) | (go_at_call 62; refine (l1In_any _ _ _ _).mono ?_; rintro e w' ⟨rfl, rfl⟩))
    go_ret
    exact ⟨by rw [HR.out]; rfl, (Kept.refl _).alloc _ _⟩
  cases c2 : t.toList.isEmpty
  case false =>
    have HR : Hid (cmdB id 4 f t am ref = false) := hide (by simp [cmdB, hid, c1, c2])
    go_enter Tryz.func100, Tryz.ntmps100
    go_wp2_with (first | (go_at_call 64; refine (specNameOk_any _ _ (by first | exact hf | exact ht)).mono ?_; rintro e w' ⟨rfl, rfl⟩) | (go_at_call 65; refine (specCurOk_any _ _ ht).mono ?_; rintro e w' ⟨rfl, rfl⟩) | (go_at_call 62; refine (l1In_any _ _ _ _).mono ?_; rintro e w' ⟨rfl, rfl⟩))
    go_ret
    exact ⟨by rw [HR.out]; rfl, (Kept.refl _).alloc _ _⟩
  cases c3 : (am == 0)
  case false =>
    have HR : Hid (cmdB id 4 f t am ref = false) := hide (by simp [cmdB, hid, c1, c2, c3])
    go_enter Tryz.func100, Tryz.ntmps100
    go_wp2_with (first | (go_at_call 64; refine (specNameOk_any _ _ (by first | exact hf | exact ht)).mono ?_; rintro e w' ⟨rfl, rfl⟩) | (go_at_call 65; refine (specCurOk_any _ _ ht).mono ?_; rintro e w' ⟨rfl, rfl⟩) | (go_at_call 62; refine (l1In_any _ _ _ _).mono ?_; rintro e w' ⟨rfl, rfl⟩))
    go_ret
    exact ⟨by rw [HR.out]; rfl, (Kept.refl _).alloc _ _⟩
  cases c4 : inB 1 1000000000 ref
  case false =>
    have HR : Hid (cmdB id 4 f t am ref = false) := hide (by simp [cmdB, hid, c1, c2, c3, c4])
    go_enter Tryz.func100, Tryz.ntmps100
    go_wp2_with (first | (go_at_call 64; refine (specNameOk_any _ _ (by first | exact hf | exact ht)).mono ?_; rintro e w' ⟨rfl, rfl⟩) | (go_at_call 65; refine (specCurOk_any _ _ ht).mono ?_; rintro e w' ⟨rfl, rfl⟩) | (go_at_call 62; refine (l1In_any _ _ _ _).mono ?_; rintro e w' ⟨rfl, rfl⟩))
    go_ret
    exact ⟨by rw [HR.out]; rfl, (Kept.refl _).alloc _ _⟩
  have HR : Hid (cmdB id 4 f t am ref = true) := hide (by simp [cmdB, hid, c1, c2, c3, c4])
  go_enter Tryz.func100, Tryz.ntmps100
  go_wp2_with (first | (go_at_call 64; refine (specNameOk_any _ _ (by first | exact hf | exact ht)).mono ?_; rintro e w' ⟨rfl, rfl⟩) | (go_at_call 65; refine (specCurOk_any _ _ ht).mono ?_; rintro e w' ⟨rfl, rfl⟩) | (go_at_call 62; refine (l1In_any _ _ _ _).mono ?_; rintro e w' ⟨rfl, rfl⟩))
  go_ret
  exact ⟨by rw [HR.out]; rfl, (Kept.refl _).alloc _ _⟩
set_option maxHeartbeats 2000000 in
theorem specCommandOk_5 (id : Int) (f t : ByteArray) (am ref : Int) (w : World) (hf : f.size ≤ maxLen) (ht : t.size ≤ maxLen) (hid : inB 1 1000000000 id = true) :
    Calls Tryz.prog 100 #[.agg #[.int .i64 id, .int .i64 5, .string f, .string t, .int .i64 am, .int .i64 ref]] w fun e w' => e = .returned (.bool (cmdB id 5 f t am ref)) ∧ Kept w w' := by
  cases c1 : f.toList.isEmpty
  case false =>
    have HR : Hid (cmdB id 5 f t am ref = false) := hide (by simp [cmdB, hid, c1])
    go_enter Tryz.func100, Tryz.ntmps100
    go_wp2_with (first | (go_at_call 64; refine (specNameOk_any _ _ (by first | exact hf | exact ht)).mono ?_; rintro e w' ⟨rfl, rfl⟩) | (go_at_call 65; refine (specCurOk_any _ _ ht).mono ?_; rintro e w' ⟨rfl, rfl⟩) | (go_at_call 62; refine (l1In_any _ _ _ _).mono ?_; rintro e w' ⟨rfl, rfl⟩))
    go_ret
    exact ⟨by rw [HR.out]; rfl, (Kept.refl _).alloc _ _⟩
  cases c2 : t.toList.isEmpty
  case false =>
    have HR : Hid (cmdB id 5 f t am ref = false) := hide (by simp [cmdB, hid, c1, c2])
    go_enter Tryz.func100, Tryz.ntmps100
    go_wp2_with (first | (go_at_call 64; refine (specNameOk_any _ _ (by first | exact hf | exact ht)).mono ?_; rintro e w' ⟨rfl, rfl⟩) | (go_at_call 65; refine (specCurOk_any _ _ ht).mono ?_; rintro e w' ⟨rfl, rfl⟩) | (go_at_call 62; refine (l1In_any _ _ _ _).mono ?_; rintro e w' ⟨rfl, rfl⟩))
    go_ret
    exact ⟨by rw [HR.out]; rfl, (Kept.refl _).alloc _ _⟩
  cases c3 : (am == 0)
  case false =>
    have HR : Hid (cmdB id 5 f t am ref = false) := hide (by simp [cmdB, hid, c1, c2, c3])
    go_enter Tryz.func100, Tryz.ntmps100
    go_wp2_with (first | (go_at_call 64; refine (specNameOk_any _ _ (by first | exact hf | exact ht)).mono ?_; rintro e w' ⟨rfl, rfl⟩) | (go_at_call 65; refine (specCurOk_any _ _ ht).mono ?_; rintro e w' ⟨rfl, rfl⟩) | (go_at_call 62; refine (l1In_any _ _ _ _).mono ?_; rintro e w' ⟨rfl, rfl⟩))
    go_ret
    exact ⟨by rw [HR.out]; rfl, (Kept.refl _).alloc _ _⟩
  cases c4 : inB 1 1000000000 ref
  case false =>
    have HR : Hid (cmdB id 5 f t am ref = false) := hide (by simp [cmdB, hid, c1, c2, c3, c4])
    go_enter Tryz.func100, Tryz.ntmps100
    go_wp2_with (first | (go_at_call 64; refine (specNameOk_any _ _ (by first | exact hf | exact ht)).mono ?_; rintro e w' ⟨rfl, rfl⟩) | (go_at_call 65; refine (specCurOk_any _ _ ht).mono ?_; rintro e w' ⟨rfl, rfl⟩) | (go_at_call 62; refine (l1In_any _ _ _ _).mono ?_; rintro e w' ⟨rfl, rfl⟩))
    go_ret
    exact ⟨by rw [HR.out]; rfl, (Kept.refl _).alloc _ _⟩
  have HR : Hid (cmdB id 5 f t am ref = true) := hide (by simp [cmdB, hid, c1, c2, c3, c4])
  go_enter Tryz.func100, Tryz.ntmps100
  go_wp2_with (first | (go_at_call 64; refine (specNameOk_any _ _ (by first | exact hf | exact ht)).mono ?_; rintro e w' ⟨rfl, rfl⟩) | (go_at_call 65; refine (specCurOk_any _ _ ht).mono ?_; rintro e w' ⟨rfl, rfl⟩) | (go_at_call 62; refine (l1In_any _ _ _ _).mono ?_; rintro e w' ⟨rfl, rfl⟩))
  go_ret
  exact ⟨by rw [HR.out]; rfl, (Kept.refl _).alloc _ _⟩
set_option maxHeartbeats 1000000 in
theorem specCommandOk_id (id kind : Int) (f t : ByteArray) (am ref : Int) (w : World) (hid : inB 1 1000000000 id = false) :
    Calls Tryz.prog 100 #[.agg #[.int .i64 id, .int .i64 kind, .string f, .string t, .int .i64 am, .int .i64 ref]] w fun e w' => e = .returned (.bool (cmdB id kind f t am ref)) ∧ Kept w w' := by
  have HR : Hid (cmdB id kind f t am ref = false) := hide (by simp [cmdB, hid])
  go_enter Tryz.func100, Tryz.ntmps100
  go_wp2_with fail
  refine (l1In_any _ _ _ _).mono ?_
  rintro e w' ⟨rfl, rfl⟩
  go_wp2_with fail
  go_ret
  exact ⟨by rw [HR.out]; rfl, (Kept.refl _).alloc _ _⟩
set_option maxHeartbeats 1000000 in
theorem specCommandOk_other (id kind : Int) (f t : ByteArray) (am ref : Int) (w : World) (hid : inB 1 1000000000 id = true) (k1 : (kind == 1) = false) (k2 : (kind == 2) = false) (k3 : (kind == 3) = false) (k4 : (kind == 4) = false) (k5 : (kind == 5) = false) :
    Calls Tryz.prog 100 #[.agg #[.int .i64 id, .int .i64 kind, .string f, .string t, .int .i64 am, .int .i64 ref]] w fun e w' => e = .returned (.bool (cmdB id kind f t am ref)) ∧ Kept w w' := by
  have HR : Hid (cmdB id kind f t am ref = false) := hide (by
    simp only [beq_eq_false_iff_ne] at k1 k2 k3 k4 k5
    unfold cmdB; rw [if_neg k1, if_neg (by omega), if_neg (by omega)]; simp)
  go_enter Tryz.func100, Tryz.ntmps100
  go_wp2_with fail
  refine (l1In_any _ _ _ _).mono ?_
  rintro e w' ⟨rfl, rfl⟩
  go_wp2_with fail
  go_ret
  exact ⟨by rw [HR.out]; rfl, (Kept.refl _).alloc _ _⟩
theorem specCommandOk_any (id kind : Int) (f t : ByteArray) (am ref : Int) (w : World) (hf : f.size ≤ maxLen) (ht : t.size ≤ maxLen) :
    Calls Tryz.prog 100 #[.agg #[.int .i64 id, .int .i64 kind, .string f, .string t, .int .i64 am, .int .i64 ref]] w fun e w' => e = .returned (.bool (cmdB id kind f t am ref)) ∧ Kept w w' := by
  cases hid : inB 1 1000000000 id
  · exact specCommandOk_id id kind f t am ref w hid
  · by_cases k1 : kind = 1
    · subst k1; exact specCommandOk_1 id f t am ref w hf ht hid
    · by_cases k2 : kind = 2
      · subst k2; exact specCommandOk_2 id f t am ref w hf ht hid
      · by_cases k3 : kind = 3
        · subst k3; exact specCommandOk_3 id f t am ref w hf ht hid
        · by_cases k4 : kind = 4
          · subst k4; exact specCommandOk_4 id f t am ref w hf ht hid
          · by_cases k5 : kind = 5
            · subst k5; exact specCommandOk_5 id f t am ref w hf ht hid
            · exact specCommandOk_other id kind f t am ref w hid (by simpa using k1) (by simpa using k2) (by simpa using k3) (by simpa using k4) (by simpa using k5)
end Go.Proofs.YteaopalhbnhbaaaGreatDoor
/- The contract of the program's CommandOk. -/
namespace Go.Proofs.YteaopalhbnhbaaaGreatDoor
open Go.ChangeShapes Go.WideShapes Go.ChangeAt Go.RowKit
set_option linter.unusedVariables false
set_option maxRecDepth 100000
end Go.Proofs.YteaopalhbnhbaaaGreatDoor
/- The contracts of the law's own helpers for commands. -/
namespace Go.Proofs.YteaopalhbnhbaaaGreatDoor
open Go.ChangeShapes Go.WideShapes Go.ChangeAt Go.RowKit
set_option linter.unusedVariables false
set_option maxRecDepth 100000
end Go.Proofs.YteaopalhbnhbaaaGreatDoor
/- A command as data; a world gets a name. -/
namespace Go.Proofs.YteaopalhbnhbaaaGreatDoor
open Go.ChangeShapes Go.WideShapes Go.ChangeAt Go.RowKit
set_option linter.unusedVariables false
/-- a command -/
structure Cm where
  id : Int
  kind : Int
  fr : ByteArray
  to : ByteArray
  am : Int
  ref : Int
def Cm.v (c : Cm) : Value := .agg #[.int .i64 c.id, .int .i64 c.kind, .string c.fr, .string c.to, .int .i64 c.am, .int .i64 c.ref]
def Cm.cells (c : Cm) : List Value := [.int .i64 c.id, .int .i64 c.kind, .string c.fr, .string c.to, .int .i64 c.am, .int .i64 c.ref]
def Cm.B (c : Cm) : Bool := cmdB c.id c.kind c.fr c.to c.am c.ref
theorem cnm_world {P : Program} {c : Code} {Q : Exit → Act → World → Prop} {a : Act} {w : World} (h : ∀ W, W = w → c.wp P Q a W) : c.wp P Q a w := h w rfl
theorem cnm_calls {P : Program} {f : FuncId} {args : Array Value} {w : World} {R : Ending → World → Prop} (h : ∀ W, W = w → Calls P f args W R) : Calls P f args w R := h w rfl
end Go.Proofs.YteaopalhbnhbaaaGreatDoor
/- Of what was there nothing has turned: small laws; a region that draws its order, reads what was there and calls what lays new blocks alone. -/
namespace Go.Proofs.YteaopalhbnhbaaaGreatDoor
open Go.ChangeShapes Go.WideShapes Go.ChangeAt Go.RowKit
set_option linter.unusedVariables false
set_option maxRecDepth 100000
theorem below_drewN {a w : World} {B : Nat} (h : Below B a w) : ∀ q, Below B a (w.drewN q)
  | 0 => h
  | q + 1 => (below_drewN h q).drew
/-- a world in which of what W has nothing has turned -/
structure Later (W : World) where
  w : World
  below : Below W.heap.size W w
theorem later_there (W : World) : Nonempty (Later W) := ⟨⟨W, Below.refl _ _⟩⟩
theorem wp_region_later {P : Program} {id : Nat} {Q : Exit → Act → World → Prop} {a : Act} {w : World} {l : List Oper} (W : World) (hm : P.follows .mixedOrders = true) (hB : Region.lexB .any l.toArray = true) (h0 : Below W.heap.size W w.drew)
    (h : wpQuiet P l.toArray (fun w' => ∃ x : Later W, w' = x.w) (fun a' => ∀ w', (∃ x : Later W, w' = x.w) → Q .normal a' w') l a) : (Code.region id l.toArray true).wp P Q a w :=
  wp_region_quiet (C := fun w' => ∃ x : Later W, w' = x.w) hm hB ⟨⟨_, h0⟩, rfl⟩ h
theorem later_same {P : Program} {f : FuncId} {args : Array Value} {W : World} {x : Later W} {v : Value}
    (h : Calls P f args x.w fun e w' => e = .returned v ∧ w' = x.w) : Calls P f args x.w fun e w'' => e = .returned v ∧ ∃ y : Later W, w'' = y.w :=
  h.mono fun _ _ ⟨he, hm⟩ => ⟨he, x, hm⟩
theorem later_of {P : Program} {f : FuncId} {args : Array Value} {W : World} {x : Later W} {v : Value}
    (h : Calls P f args x.w fun e w' => e = .returned v ∧ Below x.w.heap.size x.w w') : Calls P f args x.w fun e w'' => e = .returned v ∧ ∃ y : Later W, w'' = y.w :=
  h.mono fun _ w' ⟨he, hm⟩ => ⟨he, ⟨w', below_trans x.below hm⟩, rfl⟩
end Go.Proofs.YteaopalhbnhbaaaGreatDoor
