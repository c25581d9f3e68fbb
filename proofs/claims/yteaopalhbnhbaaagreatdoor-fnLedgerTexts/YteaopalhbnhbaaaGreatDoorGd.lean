/- The contracts of the program's seenOk and accountsOk. -/
import Derived.Test.YteaopalhbnhbaaaGreatDoorGc
import Derived.Maps.OwnOps
import Derived.Maps.OwnSet
import Derived.Maps.RangeWalk
import Derived.Maps.Views
import Derived.Deep.RegionHeld
import Derived.Deep.CutRange
namespace Go.Proofs.YteaopalhbnhbaaaGreatDoor
open Go.ChangeShapes Go.WideShapes Go.ChangeAt Go.RowKit
set_option linter.unusedVariables false
set_option maxRecDepth 100000
def ledB (c : Int) : Bool := decide (c = 0) || inB 4 9 c
theorem ansB_led {L : Led} {k : Nat} (h : k < L.seen.length) : ansB L k = (inB 1 1000000000 (L.seen[k]).id && risesB (L.seen.map Sn.id) k && ledB (L.seen[k]).code) := ansB_at h
set_option maxHeartbeats 1000000 in
theorem ledgerCode_any (c : Int) (w : World) :
    Calls Tryz.prog 29 #[.int .i64 c] w fun e w' => e = .returned (.bool (ledB c)) ∧ w' = w := by
  cases q0 : (c == 0)
  · have HR : Hid (ledB c = inB 4 9 c) := hide (by unfold ledB; rw [decide_eq_false (by simpa using q0)]; rfl)
    go_enter Tryz.func29, Tryz.ntmps29
    go_wp2_with (first | (go_at_call 70; refine (within_any _ _ _ _).mono ?_; rintro e w' ⟨rfl, rfl⟩))
    go_ret
    exact ⟨by rw [HR.out]; rfl, rfl⟩
  · have HR : Hid (ledB c = true) := hide (by unfold ledB; rw [decide_eq_true (by simpa using q0)]; rfl)
    go_enter Tryz.func29, Tryz.ntmps29
    go_wp2_with (first | (go_at_call 70; refine (within_any _ _ _ _).mono ?_; rintro e w' ⟨rfl, rfl⟩))
    go_ret
    exact ⟨by rw [HR.out]; rfl, rfl⟩
set_option maxHeartbeats 2000000 in
theorem seenOk_any (a : Option Addr) (L : Led) (cap : Nat) (w : World) (hl : L.seen.length ≤ 40) (h : AnsAt w a L.seen) :
    Calls Tryz.prog 28 #[.slice a L.seen.length cap, .func (.func 29) #[] #[]] w fun e w' => e = .returned (.bool (allTo (ansB L) L.seen.length)) ∧ Below w.heap.size w w' := by
  have HL : Hid _ := hide h
  clear h
  go_enter Tryz.func28, Tryz.ntmps28
  go_wp2
  go_loopw [9] (fun i wr => ∃ k : Nat, k ≤ L.seen.length ∧ i = .int .i64 (k : Int) ∧ Below w.heap.size w wr ∧ Hid (allTo (ansB L) k = true)) (fun i wr => L.seen.length - (intOf i).toNat)
  case atStart => exact ⟨0, Nat.zero_le _, rfl, Below.refl _ _, hide rfl⟩
  case round =>
    obtain ⟨k, hk, rfl, HB, HS⟩ := hrel
    by_cases hlt : k < L.seen.length
    · obtain ⟨b, off, rfl, hb, c0, c1, _, _⟩ := (HL.out.below HB) k hlt
      have hlt' : (k : Int) < (L.seen.length : Int) := by omega
      by_cases hz : k = 0
      · have hri : Hid (risesB (L.seen.map Sn.id) k = true) := hide (by rw [hz]; rfl)
        have hz' : decide ((0 : Int) < (k : Int)) = false := by simp; omega
        have hz'' : decide (0 < k) = false := by simp; omega
        clear hz
        cases q1 : inB 1 1000000000 (L.seen[k]).id
        · have HR : Hid (allTo (ansB L) L.seen.length = false) := hide (by rw [allTo_false hlt (by rw [ansB_at hlt, q1]; rfl)])
          go_wp2_with (fail)
          go_quiet (fail)
          go_wp2_with (first | (go_at_call 71; refine (numberOk_any _ _).mono ?_; rintro e w' ⟨rfl, rfl⟩) | (go_at_call 29; refine (ledgerCode_any _ _).mono ?_; rintro e w' ⟨rfl, rfl⟩))
          go_ret
          exact ⟨by rw [HR.out]; rfl, below_drewN (below_alloc HB _) _⟩
        · cases q3 : ledB (L.seen[k]).code
          · have HR : Hid (allTo (ansB L) L.seen.length = false) := hide (by rw [allTo_false hlt (by rw [ansB_led hlt, q1, hri.out, q3]; rfl)])
            go_wp2_with (fail)
            go_quiet (fail)
            go_wp2_with (first | (go_at_call 71; refine (numberOk_any _ _).mono ?_; rintro e w' ⟨rfl, rfl⟩) | (go_at_call 29; refine (ledgerCode_any _ _).mono ?_; rintro e w' ⟨rfl, rfl⟩))
            go_ret
            exact ⟨by rw [HR.out]; rfl, below_drewN (below_alloc HB _) _⟩
          · have HS2 : Hid (allTo (ansB L) (k + 1) = true) := hide (allTo_step HS.out (by rw [ansB_led hlt, q1, hri.out, q3]; rfl))
            go_wp2_with (fail)
            go_quiet (fail)
            go_wp2_with (first | (go_at_call 71; refine (numberOk_any _ _).mono ?_; rintro e w' ⟨rfl, rfl⟩) | (go_at_call 29; refine (ledgerCode_any _ _).mono ?_; rintro e w' ⟨rfl, rfl⟩))
            exact ⟨⟨_, by omega, by go_num, below_drewN (below_alloc HB _) _, HS2⟩, by simp [intOf]; omega⟩
      · obtain ⟨m, hm⟩ : ∃ m, k = m + 1 := ⟨k - 1, by omega⟩
        have hm3 : m < L.seen.length := by omega
        obtain ⟨b', off', heq, _, p0, _, _, _⟩ := (HL.out.below HB) m hm3
        simp only [Option.some.injEq, Addr.mk.injEq, and_true] at heq
        obtain ⟨rfl, rfl⟩ := heq
        have hz' : (0 : Int) < (k : Int) := by omega
        have hm1 : IntKind.i64.wrap ((k : Int) - 1) = (m : Int) := by rw [show (k : Int) - 1 = (m : Int) by omega]; simp only [IntKind.wrap, IntKind.signed, IntKind.bits]; simp; omega
        have hm2 : (m : Int) < (L.seen.length : Int) := by omega
        have hz'' : 0 < k := by omega
        have hrs : risesB (L.seen.map Sn.id) k = decide ((L.seen[m]).id < (L.seen[k]).id) := by subst hm; exact rises_ans hlt
        by_cases q2 : (L.seen[m]).id < (L.seen[k]).id
        · have hri : Hid (risesB (L.seen.map Sn.id) k = true) := hide (by rw [hrs]; simpa using q2)
          have q2' : decide ((L.seen[k]).id ≤ (L.seen[m]).id) = false := by simp; omega
          clear hrs hm hz
          cases q1 : inB 1 1000000000 (L.seen[k]).id
          · have HR : Hid (allTo (ansB L) L.seen.length = false) := hide (by rw [allTo_false hlt (by rw [ansB_at hlt, q1]; rfl)])
            go_wp2_with (fail)
            go_quiet (fail)
            go_wp2_with (first | (go_at_call 71; refine (numberOk_any _ _).mono ?_; rintro e w' ⟨rfl, rfl⟩) | (go_at_call 29; refine (ledgerCode_any _ _).mono ?_; rintro e w' ⟨rfl, rfl⟩))
            go_ret
            exact ⟨by rw [HR.out]; rfl, below_drewN (below_alloc HB _) _⟩
          · cases q3 : ledB (L.seen[k]).code
            · have HR : Hid (allTo (ansB L) L.seen.length = false) := hide (by rw [allTo_false hlt (by rw [ansB_led hlt, q1, hri.out, q3]; rfl)])
              go_wp2_with (fail)
              go_quiet (fail)
              go_wp2_with (first | (go_at_call 71; refine (numberOk_any _ _).mono ?_; rintro e w' ⟨rfl, rfl⟩) | (go_at_call 29; refine (ledgerCode_any _ _).mono ?_; rintro e w' ⟨rfl, rfl⟩))
              go_ret
              exact ⟨by rw [HR.out]; rfl, below_drewN (below_alloc HB _) _⟩
            · have HS2 : Hid (allTo (ansB L) (k + 1) = true) := hide (allTo_step HS.out (by rw [ansB_led hlt, q1, hri.out, q3]; rfl))
              go_wp2_with (fail)
              go_quiet (fail)
              go_wp2_with (first | (go_at_call 71; refine (numberOk_any _ _).mono ?_; rintro e w' ⟨rfl, rfl⟩) | (go_at_call 29; refine (ledgerCode_any _ _).mono ?_; rintro e w' ⟨rfl, rfl⟩))
              exact ⟨⟨_, by omega, by go_num, below_drewN (below_alloc HB _) _, HS2⟩, by simp [intOf]; omega⟩
        · have q2' : (L.seen[k]).id ≤ (L.seen[m]).id := by omega
          have HR : Hid (allTo (ansB L) L.seen.length = false) := hide (by rw [allTo_false hlt (by rw [ansB_at hlt, hrs, decide_eq_false q2]; simp)])
          clear hrs hm hz
          go_wp2_with (fail)
          go_quiet (fail)
          go_wp2
          go_ret
          exact ⟨by rw [HR.out]; rfl, below_drewN (below_alloc HB _) _⟩
    · have hk' : ¬ (k : Int) < (L.seen.length : Int) := by omega
      have HR : Hid (allTo (ansB L) L.seen.length = true) := hide (by
        have hs := HS.out
        rw [show k = L.seen.length by omega] at hs
        exact hs)
      go_wp2
      go_ret
      exact ⟨by rw [HR.out]; rfl, HB⟩
end Go.Proofs.YteaopalhbnhbaaaGreatDoor
/- The contract of the program's accountsOk. -/
namespace Go.Proofs.YteaopalhbnhbaaaGreatDoor
open Go.ChangeShapes Go.WideShapes Go.ChangeAt Go.RowKit
set_option linter.unusedVariables false
set_option maxRecDepth 100000
/-- what the program asks of an account by itself -/
def accI (L : Led) (k : Nat) : Bool := match L.acc[k]? with
  | none => true
  | some x => nameRises L k && nameB x.name && curB x.cur && inB (-1) 1000000000000 x.limit && inB (-1000000000000) 1000000000000 x.posted
theorem accI_at {L : Led} {k : Nat} (h : k < L.acc.length) : accI L k = (nameRises L k && nameB (L.acc[k]).name && curB (L.acc[k]).cur && inB (-1) 1000000000000 (L.acc[k]).limit && inB (-1000000000000) 1000000000000 (L.acc[k]).posted) := by
  simp [accI, List.getElem?_eq_getElem h]
set_option maxHeartbeats 4000000 in
theorem accountsOk_any (a : Option Addr) (L : Led) (cap : Nat) (w : World) (hl : L.acc.length ≤ 12) (h : AccAt w a L.acc) :
    Calls Tryz.prog 27 #[.slice a L.acc.length cap] w fun e w' => e = .returned (.bool (allTo (accI L) L.acc.length)) ∧ Below w.heap.size w w' := by
  have HL : Hid _ := hide h
  clear h
  go_enter Tryz.func27, Tryz.ntmps27
  go_wp2
  go_loopw [7] (fun i wr => ∃ k : Nat, k ≤ L.acc.length ∧ i = .int .i64 (k : Int) ∧ Below w.heap.size w wr ∧ Hid (allTo (accI L) k = true)) (fun i wr => L.acc.length - (intOf i).toNat)
  case atStart => exact ⟨0, Nat.zero_le _, rfl, Below.refl _ _, hide rfl⟩
  case round =>
    obtain ⟨k, hk, rfl, HB, HS⟩ := hrel
    by_cases hlt : k < L.acc.length
    · obtain ⟨b, off, rfl, hb, c0, c1, c2, c3, s1, s2, _, _⟩ := (HL.out.below HB) k hlt
      have hlt' : (k : Int) < (L.acc.length : Int) := by omega
      by_cases hz : k = 0
      · have hri : Hid (nameRises L k = true) := hide (by rw [hz]; rfl)
        have hz' : decide ((0 : Int) < (k : Int)) = false := by simp; omega
        have hz'' : decide (0 < k) = false := by simp; omega
        clear hz
        cases q1 : nameB (L.acc[k]).name
        · have HR : Hid (allTo (accI L) L.acc.length = false) := hide (by rw [allTo_false hlt (by rw [accI_at hlt, hri.out, q1]; simp)])
          go_wp2_with (fail)
          go_quiet (fail)
          go_wp2_with (first | (go_at_call 68; refine (implNameOk_any _ _ s1).mono ?_; rintro e w' ⟨rfl, rfl⟩) | (go_at_call 69; refine (implCurOk_any _ _ s2).mono ?_; rintro e w' ⟨rfl, rfl⟩) | (go_at_call 70; refine (within_any _ _ _ _).mono ?_; rintro e w' ⟨rfl, rfl⟩))
          go_ret
          exact ⟨by rw [HR.out]; rfl, below_drewN (below_alloc HB _) _⟩
        ·
          cases q2 : curB (L.acc[k]).cur
          · have HR : Hid (allTo (accI L) L.acc.length = false) := hide (by rw [allTo_false hlt (by rw [accI_at hlt, hri.out, q1, q2]; simp)])
            go_wp2_with (fail)
            go_quiet (fail)
            go_wp2_with (first | (go_at_call 68; refine (implNameOk_any _ _ s1).mono ?_; rintro e w' ⟨rfl, rfl⟩) | (go_at_call 69; refine (implCurOk_any _ _ s2).mono ?_; rintro e w' ⟨rfl, rfl⟩) | (go_at_call 70; refine (within_any _ _ _ _).mono ?_; rintro e w' ⟨rfl, rfl⟩))
            go_ret
            exact ⟨by rw [HR.out]; rfl, below_drewN (below_alloc HB _) _⟩
          ·
            cases q3 : inB (-1) 1000000000000 (L.acc[k]).limit
            · have HR : Hid (allTo (accI L) L.acc.length = false) := hide (by rw [allTo_false hlt (by rw [accI_at hlt, hri.out, q1, q2, q3]; simp)])
              go_wp2_with (fail)
              go_quiet (fail)
              go_wp2_with (first | (go_at_call 68; refine (implNameOk_any _ _ s1).mono ?_; rintro e w' ⟨rfl, rfl⟩) | (go_at_call 69; refine (implCurOk_any _ _ s2).mono ?_; rintro e w' ⟨rfl, rfl⟩) | (go_at_call 70; refine (within_any _ _ _ _).mono ?_; rintro e w' ⟨rfl, rfl⟩))
              go_ret
              exact ⟨by rw [HR.out]; rfl, below_drewN (below_alloc HB _) _⟩
            ·
              cases q4 : inB (-1000000000000) 1000000000000 (L.acc[k]).posted
              · have HR : Hid (allTo (accI L) L.acc.length = false) := hide (by rw [allTo_false hlt (by rw [accI_at hlt, hri.out, q1, q2, q3, q4]; simp)])
                go_wp2_with (fail)
                go_quiet (fail)
                go_wp2_with (first | (go_at_call 68; refine (implNameOk_any _ _ s1).mono ?_; rintro e w' ⟨rfl, rfl⟩) | (go_at_call 69; refine (implCurOk_any _ _ s2).mono ?_; rintro e w' ⟨rfl, rfl⟩) | (go_at_call 70; refine (within_any _ _ _ _).mono ?_; rintro e w' ⟨rfl, rfl⟩))
                go_ret
                exact ⟨by rw [HR.out]; rfl, below_drewN (below_alloc HB _) _⟩
              ·
                have HS2 : Hid (allTo (accI L) (k + 1) = true) := hide (allTo_step HS.out (by rw [accI_at hlt, hri.out, q1, q2, q3, q4]; rfl))
                go_wp2_with (fail)
                go_quiet (fail)
                go_wp2_with (first | (go_at_call 68; refine (implNameOk_any _ _ s1).mono ?_; rintro e w' ⟨rfl, rfl⟩) | (go_at_call 69; refine (implCurOk_any _ _ s2).mono ?_; rintro e w' ⟨rfl, rfl⟩) | (go_at_call 70; refine (within_any _ _ _ _).mono ?_; rintro e w' ⟨rfl, rfl⟩))
                exact ⟨⟨_, by omega, by go_num, below_drewN (below_alloc HB _) _, HS2⟩, by simp [intOf]; omega⟩
      · obtain ⟨m, hm⟩ : ∃ m, k = m + 1 := ⟨k - 1, by omega⟩
        have hm3 : m < L.acc.length := by omega
        obtain ⟨b', off', heq, _, p0, _, _, _, _⟩ := (HL.out.below HB) m hm3
        simp only [Option.some.injEq, Addr.mk.injEq, and_true] at heq
        obtain ⟨rfl, rfl⟩ := heq
        have hz' : (0 : Int) < (k : Int) := by omega
        have hm1 : IntKind.i64.wrap ((k : Int) - 1) = (m : Int) := by rw [show (k : Int) - 1 = (m : Int) by omega]; simp only [IntKind.wrap, IntKind.signed, IntKind.bits]; simp; omega
        have hm2 : (m : Int) < (L.acc.length : Int) := by omega
        have hz'' : 0 < k := by omega
        have hrs : nameRises L k = Op.bytesLess (L.acc[m]).name.toList (L.acc[k]).name.toList := by subst hm; exact rises_name hlt
        cases q0 : Op.bytesLess (L.acc[m]).name.toList (L.acc[k]).name.toList
        · have HR : Hid (allTo (accI L) L.acc.length = false) := hide (by rw [allTo_false hlt (by rw [accI_at hlt, hrs, q0]; simp)])
          clear hrs hm hz
          go_wp2_with (fail)
          go_quiet (fail)
          go_wp2_with (first | (go_at_call 68; refine (implNameOk_any _ _ s1).mono ?_; rintro e w' ⟨rfl, rfl⟩) | (go_at_call 69; refine (implCurOk_any _ _ s2).mono ?_; rintro e w' ⟨rfl, rfl⟩) | (go_at_call 70; refine (within_any _ _ _ _).mono ?_; rintro e w' ⟨rfl, rfl⟩))
          go_ret
          exact ⟨by rw [HR.out]; rfl, below_drewN (below_alloc HB _) _⟩
        · have hri : Hid (nameRises L k = true) := hide (by rw [hrs, q0])
          clear hrs hm hz
          cases q1 : nameB (L.acc[k]).name
          · have HR : Hid (allTo (accI L) L.acc.length = false) := hide (by rw [allTo_false hlt (by rw [accI_at hlt, hri.out, q1]; simp)])
            go_wp2_with (fail)
            go_quiet (fail)
            go_wp2_with (first | (go_at_call 68; refine (implNameOk_any _ _ s1).mono ?_; rintro e w' ⟨rfl, rfl⟩) | (go_at_call 69; refine (implCurOk_any _ _ s2).mono ?_; rintro e w' ⟨rfl, rfl⟩) | (go_at_call 70; refine (within_any _ _ _ _).mono ?_; rintro e w' ⟨rfl, rfl⟩))
            go_ret
            exact ⟨by rw [HR.out]; rfl, below_drewN (below_alloc HB _) _⟩
          ·
            cases q2 : curB (L.acc[k]).cur
            · have HR : Hid (allTo (accI L) L.acc.length = false) := hide (by rw [allTo_false hlt (by rw [accI_at hlt, hri.out, q1, q2]; simp)])
              go_wp2_with (fail)
              go_quiet (fail)
              go_wp2_with (first | (go_at_call 68; refine (implNameOk_any _ _ s1).mono ?_; rintro e w' ⟨rfl, rfl⟩) | (go_at_call 69; refine (implCurOk_any _ _ s2).mono ?_; rintro e w' ⟨rfl, rfl⟩) | (go_at_call 70; refine (within_any _ _ _ _).mono ?_; rintro e w' ⟨rfl, rfl⟩))
              go_ret
              exact ⟨by rw [HR.out]; rfl, below_drewN (below_alloc HB _) _⟩
            ·
              cases q3 : inB (-1) 1000000000000 (L.acc[k]).limit
              · have HR : Hid (allTo (accI L) L.acc.length = false) := hide (by rw [allTo_false hlt (by rw [accI_at hlt, hri.out, q1, q2, q3]; simp)])
                go_wp2_with (fail)
                go_quiet (fail)
                go_wp2_with (first | (go_at_call 68; refine (implNameOk_any _ _ s1).mono ?_; rintro e w' ⟨rfl, rfl⟩) | (go_at_call 69; refine (implCurOk_any _ _ s2).mono ?_; rintro e w' ⟨rfl, rfl⟩) | (go_at_call 70; refine (within_any _ _ _ _).mono ?_; rintro e w' ⟨rfl, rfl⟩))
                go_ret
                exact ⟨by rw [HR.out]; rfl, below_drewN (below_alloc HB _) _⟩
              ·
                cases q4 : inB (-1000000000000) 1000000000000 (L.acc[k]).posted
                · have HR : Hid (allTo (accI L) L.acc.length = false) := hide (by rw [allTo_false hlt (by rw [accI_at hlt, hri.out, q1, q2, q3, q4]; simp)])
                  go_wp2_with (fail)
                  go_quiet (fail)
                  go_wp2_with (first | (go_at_call 68; refine (implNameOk_any _ _ s1).mono ?_; rintro e w' ⟨rfl, rfl⟩) | (go_at_call 69; refine (implCurOk_any _ _ s2).mono ?_; rintro e w' ⟨rfl, rfl⟩) | (go_at_call 70; refine (within_any _ _ _ _).mono ?_; rintro e w' ⟨rfl, rfl⟩))
                  go_ret
                  exact ⟨by rw [HR.out]; rfl, below_drewN (below_alloc HB _) _⟩
                ·
                  have HS2 : Hid (allTo (accI L) (k + 1) = true) := hide (allTo_step HS.out (by rw [accI_at hlt, hri.out, q1, q2, q3, q4]; rfl))
                  go_wp2_with (fail)
                  go_quiet (fail)
                  go_wp2_with (first | (go_at_call 68; refine (implNameOk_any _ _ s1).mono ?_; rintro e w' ⟨rfl, rfl⟩) | (go_at_call 69; refine (implCurOk_any _ _ s2).mono ?_; rintro e w' ⟨rfl, rfl⟩) | (go_at_call 70; refine (within_any _ _ _ _).mono ?_; rintro e w' ⟨rfl, rfl⟩))
                  exact ⟨⟨_, by omega, by go_num, below_drewN (below_alloc HB _) _, HS2⟩, by simp [intOf]; omega⟩
    · have hk' : ¬ (k : Int) < (L.acc.length : Int) := by omega
      have HR : Hid (allTo (accI L) L.acc.length = true) := hide (by
        have hs := HS.out
        rw [show k = L.acc.length by omega] at hs
        exact hs)
      go_wp2
      go_ret
      exact ⟨by rw [HR.out]; rfl, HB⟩
end Go.Proofs.YteaopalhbnhbaaaGreatDoor
/- A region that draws its order, reads what was there and calls what lays new blocks alone: one walk, in the order of the text, serves every order. -/
namespace Go.Proofs.YteaopalhbnhbaaaGreatDoor
open Go.ChangeShapes Go.WideShapes Go.ChangeAt Go.RowKit
set_option linter.unusedVariables false
set_option maxRecDepth 100000
theorem later_box {w wr : World} {va vh vs : Value} (o : Obj) (hsz : w.heap.size < wr.heap.size) (e0 : wr.cell? ⟨w.heap.size, 0, none⟩ = some va) (e1 : wr.cell? ⟨w.heap.size, 1, none⟩ = some vh) (e2 : wr.cell? ⟨w.heap.size, 2, none⟩ = some vs) :
    (∀ x : Later (wr.alloc o), x.w.cell? ⟨w.heap.size, 0, none⟩ = some va) ∧ (∀ x : Later (wr.alloc o), x.w.cell? ⟨w.heap.size, 1, none⟩ = some vh) ∧ (∀ x : Later (wr.alloc o), x.w.cell? ⟨w.heap.size, 2, none⟩ = some vs) := by
  have h0 : w.heap.size < (wr.alloc o).heap.size := by simp; omega
  exact ⟨fun x => (x.below.cell h0).trans ((World.cell?_alloc_past _ _ _ hsz).trans e0), fun x => (x.below.cell h0).trans ((World.cell?_alloc_past _ _ _ hsz).trans e1), fun x => (x.below.cell h0).trans ((World.cell?_alloc_past _ _ _ hsz).trans e2)⟩
theorem later_new {wr : World} {v0 v1 v2 v3 : Value} {T : TypeId} :
    (∀ x : Later (wr.alloc (.cells #[v0, v1, v2, v3] T)), x.w.cell? ⟨wr.heap.size, 0, none⟩ = some v0) ∧ (∀ x : Later (wr.alloc (.cells #[v0, v1, v2, v3] T)), x.w.cell? ⟨wr.heap.size, 1, none⟩ = some v1) ∧ (∀ x : Later (wr.alloc (.cells #[v0, v1, v2, v3] T)), x.w.cell? ⟨wr.heap.size, 2, none⟩ = some v2) := by
  have h1 : wr.heap.size < (wr.alloc (.cells #[v0, v1, v2, v3] T)).heap.size := by simp
  exact ⟨fun x => (x.below.cell h1).trans (World.cell?_alloc_at _ _ _ _ rfl), fun x => (x.below.cell h1).trans (World.cell?_alloc_at _ _ _ _ rfl), fun x => (x.below.cell h1).trans (World.cell?_alloc_at _ _ _ _ rfl)⟩
theorem later_old {wr : World} {o : Obj} {b f : Nat} {v : Value} (hb : b < wr.heap.size) (h : wr.cell? ⟨b, f, none⟩ = some v) : ∀ x : Later (wr.alloc o), x.w.cell? ⟨b, f, none⟩ = some v :=
  fun x => (x.below.cell (by simp; omega)).trans ((World.cell?_alloc_past _ _ _ hb).trans h)
end Go.Proofs.YteaopalhbnhbaaaGreatDoor
/- The book of the program: accounts as pointers in a map. -/
namespace Go.Proofs.YteaopalhbnhbaaaGreatDoor
open Go.ChangeShapes Go.WideShapes Go.ChangeAt Go.RowKit Go.Maps
set_option linter.unusedVariables false
set_option maxRecDepth 100000
theorem u9 : Tryz.prog.underlying 9 = some .string := by kernel_rfl
theorem u64 : Tryz.prog.underlying 100 = some (.map 9 105) := by kernel_rfl
theorem zero63 (w : World) : (zeroValue 105).run Tryz.prog w = .ok (.pointer none) w := by kernel_rfl
theorem law9 : Keyed Tryz.prog 9 := string_keyed u9
def kn (s : ByteArray) : Lit := .string s.data.toList
theorem kn_of {s : ByteArray} (h : s.size ≤ maxLen) : keyOf Tryz.prog 9 (.string s) = some (kn s) := _root_.Go.WideMaps.keyOf_string_mk u9 h
theorem kn_inj {a b : ByteArray} (h : kn a = kn b) : a = b := by
  simp only [kn, Lit.string.injEq] at h
  exact ByteArray.ext (Array.toList_inj.1 h)
theorem kn_key (s : ByteArray) : WideAt.IsKeyLit (kn s) := trivial
def ptrD (p : Nat) : DataW Unit := .lit (.int .i64 (p : Int))
/-- how a pointer to a whole block reads: as the block's number -/
def ptrElem (v : Value) : Option (DataW Unit × List MemPlace) := match v with
  | .pointer (some ⟨p, 0, none⟩) => some (ptrD p, [])
  | _ => none
theorem ptr_mk (p : Nat) : ptrElem (.pointer (some ⟨p, 0, none⟩)) = some (ptrD p, []) := rfl
theorem ptr_inv {v : Value} {y : DataW Unit × List MemPlace} (h : ptrElem v = some y) : ∃ p, v = .pointer (some ⟨p, 0, none⟩) ∧ y = (ptrD p, []) := by
  unfold ptrElem at h
  split at h
  · exact ⟨_, rfl, (Option.some.inj h).symm⟩
  · cases h
theorem ptrD_inj {a b : Nat} (h : ptrD a = ptrD b) : a = b := by
  simp [ptrD] at h
  omega
def AccBlk (w : World) (q : Nat) (x : Acc) : Prop :=
  q < w.heap.size ∧ w.cell? ⟨q, 0, none⟩ = some (.string x.name) ∧ w.cell? ⟨q, 1, none⟩ = some (.string x.cur) ∧ w.cell? ⟨q, 2, none⟩ = some (.int .i64 x.limit) ∧ w.cell? ⟨q, 3, none⟩ = some (.int .i64 x.posted)
theorem AccBlk.kept {w w' : World} {q : Nat} {x : Acc} (h : AccBlk w q x) (hs : w.heap.size ≤ w'.heap.size) (hk : ∀ a v, w.cell? a = some v → w'.cell? a = some v) : AccBlk w' q x :=
  ⟨Nat.lt_of_lt_of_le h.1 hs, hk _ _ h.2.1, hk _ _ h.2.2.1, hk _ _ h.2.2.2.1, hk _ _ h.2.2.2.2⟩
structure MapIs (w : World) (D : DataW Unit) (l : List Acc) : Prop where
  at_ : ∀ i (h : i < l.length), ∃ q, (∀ z, D.atKey (kn l[i].name) z = ptrD q) ∧ AccBlk w q l[i]
  only : ∀ kl, Maps.has D kl = true → ∃ i, ∃ h : i < l.length, kl = kn l[i].name
theorem MapIs.kept {w w' : World} {D : DataW Unit} {l : List Acc} (h : MapIs w D l) (hs : w.heap.size ≤ w'.heap.size) (hk : ∀ a v, w.cell? a = some v → w'.cell? a = some v) : MapIs w' D l :=
  ⟨fun i hi => by obtain ⟨q, h1, h2⟩ := h.at_ i hi; exact ⟨q, h1, h2.kept hs hk⟩, h.only⟩
def MapHas (w : World) (m : Nat) (l : List Acc) : Prop := ∃ D, w.ownsMap Tryz.prog 9 ptrElem m l.length D ∧ MapIs w D l
theorem mapHas_made (w : World) : MapHas (w.alloc (.map #[] 0)) w.heap.size [] :=
  ⟨.map [], World.ownsMap_made _ _ _ _, fun i hi => by simp at hi, fun kl h => by simp [Maps.has] at h⟩
theorem below_grownBy {w w' : World} (b : Below w.heap.size w w') : w.grownBy w' none := ⟨b.os, b.tape, b.output, b.size, fun i hi _ => b.block i hi⟩
theorem MapHas.below {w w' : World} {m : Nat} {l : List Acc} (h : MapHas w m l) (b : Below w.heap.size w w') : MapHas w' m l := by
  obtain ⟨D, ho, hi⟩ := h
  exact ⟨D, ho.kept (below_grownBy b) (by simp), hi.kept b.size (below_keeps b)⟩
/-- a map's block bears no cell -/
theorem map_no_cell {w : World} {m n : Nat} {D : DataW Unit} (h : w.ownsMap Tryz.prog 9 ptrElem m n D) {a : Addr} {v : Value} (hc : w.cell? a = some v) : a.block ≠ m := by
  obtain ⟨es, clock, hb, _⟩ := h
  intro e
  unfold World.cell? at hc
  rw [e, hb] at hc
  simp at hc
theorem map_keeps {w w' : World} {m n : Nat} {D : DataW Unit} (h : w.ownsMap Tryz.prog 9 ptrElem m n D) (g : w.grownBy w' (some m)) : ∀ a v, w.cell? a = some v → w'.cell? a = some v :=
  fun a v hc => g.cell hc (fun e => map_no_cell h hc (Option.some.inj e))
/-- one account more -/
theorem mapIs_put {w w' : World} {D : DataW Unit} {l : List Acc} {x : Acc} {q : Nat} (hm : Maps.IsMap D) (h : MapIs w D l) (hs : w.heap.size ≤ w'.heap.size) (hk : ∀ a v, w.cell? a = some v → w'.cell? a = some v)
    (hx : ∀ i (hi : i < l.length), l[i].name ≠ x.name) (hq : AccBlk w' q x) : MapIs w' (D.put (kn x.name) (ptrD q)) (l ++ [x]) := by
  refine ⟨fun i hi => ?_, fun kl hkl => ?_⟩
  · rcases Nat.lt_or_ge i l.length with h1 | h1
    · obtain ⟨q', a1, a2⟩ := h.at_ i h1
      rw [List.getElem_append_left h1]
      exact ⟨q', fun z => by rw [atKey_put_other (fun e => hx i h1 (kn_inj e))]; exact a1 z, a2.kept hs hk⟩
    · have : i = l.length := by simp at hi; omega
      subst this
      simp only [List.getElem_concat_length]
      exact ⟨q, fun z => atKey_put_same hm (kn_key _) _ z, hq⟩
  · by_cases e : kl = kn x.name
    · exact ⟨l.length, by simp, by simp [e]⟩
    · rw [has_put_other e] at hkl
      obtain ⟨i, hi, rfl⟩ := h.only kl hkl
      exact ⟨i, by simp; omega, by rw [List.getElem_append_left hi]⟩
/-- the step of a range over the book's map -/
theorem wpList_next_book {ops : Array Oper} {rest : List Oper} {o : Oper} {a : Act} {Q : Exit → Act → World → Prop} (w : World) (hg : o.guard = none) (it : Operand) (hop : o.op = Op.next it false) (m r n : Nat) (D : DataW Unit) (left : Lit → Bool) (cnt : Nat)
    (hit : a.eval it = .pointer (some ⟨r, 0, none⟩)) (h : w.ranges Tryz.prog 9 ptrElem m r n D left cnt) (l : List Acc) (hi : MapIs w D l)
    (hDone : (∀ kl, left kl = false) → wpList Tryz.prog ops Q rest (a.put o.dst (.tuple #[.bool false])) w)
    (hMore : ∀ (j : Nat) (hj : j < l.length) (q : Nat) (w' : World) (cnt' : Nat), left (kn l[j].name) = true → AccBlk w q l[j] → w'.ranges Tryz.prog 9 ptrElem m r n D (fun z => left z && !z.sameKey (kn l[j].name)) cnt' → cnt' < cnt → w.grownBy w' (some r) → w'.heap.size = w.heap.size →
      (Instr.entry (.pointer (some ⟨r, 0, none⟩))).run Tryz.prog w' = .ok (.tuple #[.string l[j].name, .pointer (some ⟨q, 0, none⟩)]) w' → wpList Tryz.prog ops Q rest (a.put o.dst (.tuple #[.bool true, .string l[j].name, .pointer (some ⟨q, 0, none⟩)])) w') :
    wpList Tryz.prog ops Q (o :: rest) a w := by
  refine wpList_next_ranges w hg it hop 9 law9 ptrElem Value.string (fun q : Nat => .pointer (some ⟨q, 0, none⟩)) (fun key kl hk => by obtain ⟨s, rfl, _⟩ := WideMaps.string_of_keyOf u9 hk; exact ⟨s, rfl⟩) (fun v y hv => by obtain ⟨p, rfl, _⟩ := ptr_inv hv; exact ⟨p, rfl⟩)
    m r n D left cnt hit h (fun _ hl => hDone hl) (fun x c kl y w' cnt' hkey hlk hv hat hrg hlt hgr hsz hen => ?_)
  obtain ⟨j, hj, rfl⟩ := hi.only kl (has_true_of_atKey hat)
  obtain ⟨q, hq, hb⟩ := hi.at_ j hj
  obtain ⟨p, e1, rfl⟩ := ptr_inv hv
  simp only [Value.pointer.injEq, Option.some.injEq, Addr.mk.injEq, and_true] at e1
  subst e1
  obtain rfl := ptrD_inj ((hat (ptrD 0)).symm.trans (hq (ptrD 0)))
  obtain ⟨s, e2, e3, _⟩ := WideMaps.string_of_keyOf u9 hkey
  cases e2
  obtain rfl := kn_inj (a := l[j].name) e3
  exact hMore j hj _ w' cnt' hlk hb hrg hlt hgr hsz hen
theorem look_at {x : World} {m n : Nat} {D : DataW Unit} (ho : x.ownsMap Tryz.prog 9 ptrElem m n D) {nm : ByteArray} (hn : nm.size ≤ maxLen) {q : Nat} (hq : ∀ z, D.atKey (kn nm) z = ptrD q) :
    (Instr.lookup 100 (.map (some m)) (.string nm) false).run Tryz.prog x = .ok (.pointer (some ⟨q, 0, none⟩)) x := by
  obtain ⟨es, clock, hb, F, _, rfl⟩ := ho
  rcases Maps.fit_look (t := 100) (e := 105) false law9 u64 (zero63 x) hb F (kn_of hn) with ⟨hrun, hno, hat⟩ | ⟨e0, y, _, _, hrun, hR, hat, _⟩
  · have h2 := (hq (ptrD (q + 1))).symm.trans (hat (ptrD (q + 1)))
    have := ptrD_inj h2
    omega
  · obtain ⟨p, e1, rfl⟩ := ptr_inv hR
    obtain rfl := ptrD_inj ((hat (ptrD 0)).symm.trans (hq (ptrD 0)))
    rw [hrun, e1]
    rfl
theorem look_no {x : World} {m n : Nat} {D : DataW Unit} (ho : x.ownsMap Tryz.prog 9 ptrElem m n D) {nm : ByteArray} (hn : nm.size ≤ maxLen) (hq : Maps.has D (kn nm) = false) :
    (Instr.lookup 100 (.map (some m)) (.string nm) false).run Tryz.prog x = .ok (.pointer none) x := by
  obtain ⟨es, clock, hb, F, _, rfl⟩ := ho
  rcases Maps.fit_look (t := 100) (e := 105) false law9 u64 (zero63 x) hb F (kn_of hn) with ⟨hrun, hno, hat⟩ | ⟨e0, y, _, _, hrun, hR, hat, _⟩
  · exact hrun
  · rw [has_true_of_atKey hat] at hq; cases hq
theorem drewN_below (w : World) : ∀ k, Below w.heap.size w (w.drewN k)
  | 0 => Below.refl _ _
  | k + 1 => (drewN_below w k).drew
/-- 'm[k]' of the book's map -/
theorem look_book {w : World} {m : Nat} {l : List Acc} (h : MapHas w m l) {nm : ByteArray} (hn : nm.size ≤ maxLen) :
    (∃ j, ∃ hj : j < l.length, ∃ q, l[j].name = nm ∧ AccBlk w q l[j] ∧ ∀ k, (Instr.lookup 100 (.map (some m)) (.string nm) false).run Tryz.prog (w.drewN k) = .ok (.pointer (some ⟨q, 0, none⟩)) (w.drewN k)) ∨
    ((∀ j (hj : j < l.length), l[j].name ≠ nm) ∧ ∀ k, (Instr.lookup 100 (.map (some m)) (.string nm) false).run Tryz.prog (w.drewN k) = .ok (.pointer none) (w.drewN k)) := by
  obtain ⟨D, ho, hi⟩ := h
  have hoN : ∀ k, (w.drewN k).ownsMap Tryz.prog 9 ptrElem m l.length D := fun k => ho.kept (below_grownBy (drewN_below w k)) (by simp)
  by_cases hex : ∃ j, ∃ hj : j < l.length, l[j].name = nm
  · obtain ⟨j, hj, e⟩ := hex
    obtain ⟨q, hq, hb⟩ := hi.at_ j hj
    rw [e] at hq
    exact .inl ⟨j, hj, q, e, hb, fun k => look_at (hoN k) hn hq⟩
  · have hno : ∀ j (hj : j < l.length), l[j].name ≠ nm := fun j hj e => hex ⟨j, hj, e⟩
    refine .inr ⟨hno, fun k => look_no (hoN k) hn ?_⟩
    rw [Bool.eq_false_iff]
    intro hh
    obtain ⟨j, hj, e⟩ := hi.only _ hh
    exact hno j hj (kn_inj e).symm
end Go.Proofs.YteaopalhbnhbaaaGreatDoor
/- The contract of the program's bookOf. -/
namespace Go.Proofs.YteaopalhbnhbaaaGreatDoor
open Go.ChangeShapes Go.WideShapes Go.ChangeAt Go.RowKit Go.Maps
set_option linter.unusedVariables false
set_option maxRecDepth 100000
def BookAt (w : World) (q : Nat) (L : Led) : Prop := q < w.heap.size ∧ ∃ m h s ch cs, w.cell? ⟨q, 0, none⟩ = some (.map (some m)) ∧ w.cell? ⟨q, 1, none⟩ = some (.slice h L.hold.length ch) ∧ w.cell? ⟨q, 2, none⟩ = some (.slice s L.seen.length cs) ∧
  HoldAt w h L.hold ∧ AnsAt w s L.seen ∧ MapHas w m L.acc
theorem BookAt.below {w w' : World} {q : Nat} {L : Led} (k : BookAt w q L) (b : Below w.heap.size w w') : BookAt w' q L := by
  obtain ⟨hq, m, h, s, ch, cs, c0, c1, c2, hh, ha, hm⟩ := k
  exact ⟨Nat.lt_of_lt_of_le hq b.size, m, h, s, ch, cs, below_keeps b _ _ c0, below_keeps b _ _ c1, below_keeps b _ _ c2, hh.below b, ha.below b, hm.below b⟩
def BookEnd (L : Led) (w : World) (e : Ending) (w' : World) : Prop := Below w.heap.size w w' ∧ ∃ q, e = .returned (.pointer (some ⟨q, 0, none⟩)) ∧ BookAt w' q L
/-- the box of the argument, read in a later world -/
def BoxIn (w : World) (va vh vs : Value) (x : World) : Prop := x.cell? ⟨w.heap.size, 1, none⟩ = some vh ∧ x.cell? ⟨w.heap.size, 2, none⟩ = some vs ∧ Hid (Below (w.heap.size + 1) (w.alloc (.cells #[va, vh, vs] 28)) x)
theorem boxIn_of {w : World} {va vh vs : Value} {x : World} (h : Below (w.heap.size + 1) (w.alloc (.cells #[va, vh, vs] 28)) x) : BoxIn w va vh vs x :=
  ⟨by rw [h.cell (by simp)]; simp, by rw [h.cell (by simp)]; simp, hide h⟩
theorem BoxIn.alloc {w : World} {va vh vs : Value} {x : World} (h : BoxIn w va vh vs x) (o : Obj) : BoxIn w va vh vs (x.alloc o) :=
  boxIn_of (h.2.2.out.alloc (by have := h.2.2.out.size; simp at this; omega) o)
theorem BoxIn.on {w : World} {va vh vs : Value} {x y : World} (h : BoxIn w va vh vs x) (b : Below x.heap.size x y) : BoxIn w va vh vs y :=
  boxIn_of (h.2.2.out.trans (b.mono (by have := h.2.2.out.size; simp at this; omega)))
theorem BoxIn.old {w : World} {va vh vs : Value} {x : World} (h : BoxIn w va vh vs x) : Below w.heap.size w x :=
  ((Below.refl w.heap.size w).alloc (Nat.le_refl _) _).trans (h.2.2.out.mono (by omega))
/-- what the first region leaves -/
def CutIs (w : World) (va vh vs : Value) (L : Led) (q : Nat) (x : World) (m : Nat) : Prop :=
  BoxIn w va vh vs x ∧ w.heap.size + 1 ≤ m ∧ q < x.heap.size ∧ x.cell? ⟨q, 0, none⟩ = some (.map (some m)) ∧ (∃ h ch, x.cell? ⟨q, 1, none⟩ = some (.slice h L.hold.length ch) ∧ HoldAt x h L.hold) ∧ (∃ s cs, x.cell? ⟨q, 2, none⟩ = some (.slice s L.seen.length cs) ∧ AnsAt x s L.seen) ∧ MapHas x m []
theorem cut_of {w : World} {va vh vs : Value} {L : Led} {x : World} {m ch cs : Nat} {h s : Option Addr} (hb : BoxIn w va vh vs (x.alloc (.cells #[.map (some m), .slice h L.hold.length ch, .slice s L.seen.length cs] 104))) (hm : w.heap.size + 1 ≤ m)
    (hh : HoldAt x h L.hold) (hs : AnsAt x s L.seen) (hp : MapHas x m []) : CutIs w va vh vs L x.heap.size (x.alloc (.cells #[.map (some m), .slice h L.hold.length ch, .slice s L.seen.length cs] 104)) m :=
  ⟨hb, hm, by simp, by simp, ⟨h, ch, by simp, hh.below ((Below.refl _ _).alloc (Nat.le_refl _) _)⟩, ⟨s, cs, by simp, hs.below ((Below.refl _ _).alloc (Nat.le_refl _) _)⟩, hp.below ((Below.refl _ _).alloc (Nat.le_refl _) _)⟩
theorem mapHas_drew {w : World} {m : Nat} {l : List Acc} (h : MapHas w m l) : MapHas w.drew m l := h.below (Below.refl _ _).drew
/-- the loop's state -/
structure MidIs (w : World) (va vh vs : Value) (L : Led) (q m : Nat) (h s : Option Addr) (ch cs : Nat) (l : List Acc) (x : World) : Prop where
  box : BoxIn w va vh vs x
  lt : q < x.heap.size
  c0 : x.cell? ⟨q, 0, none⟩ = some (.map (some m))
  c1 : x.cell? ⟨q, 1, none⟩ = some (.slice h L.hold.length ch)
  c2 : x.cell? ⟨q, 2, none⟩ = some (.slice s L.seen.length cs)
  hold : HoldAt x h L.hold
  seen : AnsAt x s L.seen
  map : MapHas x m l
def accObj (x : Acc) : Obj := .cells #[.string x.name, .string x.cur, .int .i64 x.limit, .int .i64 x.posted] 50
theorem HoldAt.keeps {w w' : World} {a : Option Addr} {l : List Hld} (h : HoldAt w a l) (hs : w.heap.size ≤ w'.heap.size) (hk : ∀ a v, w.cell? a = some v → w'.cell? a = some v) : HoldAt w' a l := fun i hi => by
  obtain ⟨b, off, e, hb, h0, h1, h2, h3, r⟩ := h i hi
  exact ⟨b, off, e, by omega, hk _ _ h0, hk _ _ h1, hk _ _ h2, hk _ _ h3, r⟩
theorem AnsAt.keeps {w w' : World} {a : Option Addr} {l : List Sn} (h : AnsAt w a l) (hs : w.heap.size ≤ w'.heap.size) (hk : ∀ a v, w.cell? a = some v → w'.cell? a = some v) : AnsAt w' a l := fun i hi => by
  obtain ⟨b, off, e, hb, h0, h1, r⟩ := h i hi
  exact ⟨b, off, e, by omega, hk _ _ h0, hk _ _ h1, r⟩
theorem blk_two (x : World) (y : Acc) : AccBlk ((x.alloc (accObj y)).alloc (accObj y)) (x.heap.size + 1) y := by
  unfold accObj
  exact ⟨by simp, by simp, by simp, by simp, by simp⟩
/-- the round's store -/
theorem mid_step {w : World} {va vh vs : Value} {L : Led} {q m : Nat} {h s : Option Addr} {ch cs : Nat} {k : Nat} {x : World} (hk : k < L.acc.length) (hl : L.acc.length ≤ 12) (hm : w.heap.size + 1 ≤ m) (M : MidIs w va vh vs L q m h s ch cs (L.acc.take k) x)
    (hd : ∀ i j (hi : i < L.acc.length) (hj : j < L.acc.length), i < j → L.acc[i].name ≠ L.acc[j].name) (hn : L.acc[k].name.size ≤ maxLen) :
    ∃ y, (Instr.mapUpdate 100 (.map (some m)) (.string L.acc[k].name) (.pointer (some ⟨x.heap.size + 1, 0, none⟩))).run Tryz.prog ((x.alloc (accObj L.acc[k])).alloc (accObj L.acc[k])).drew = .ok () y ∧ MidIs w va vh vs L q m h s ch cs (L.acc.take (k + 1)) y := by
  obtain ⟨D, ho, hi⟩ := M.map
  have hB2 : Below x.heap.size x ((x.alloc (accObj L.acc[k])).alloc (accObj L.acc[k])).drew := (((Below.refl _ _).alloc (Nat.le_refl _) _).alloc (by simp) _).drew
  have ho2 : ((x.alloc (accObj L.acc[k])).alloc (accObj L.acc[k])).drew.ownsMap Tryz.prog 9 ptrElem m (L.acc.take k).length D := ho.kept (below_grownBy hB2) (by simp)
  obtain ⟨y, hrun, ho3, hg⟩ := ho2.update (t := 100) (e := 105) law9 u64 (by unfold maxLen; rw [List.length_take]; omega) (kn_of hn) (ptr_mk (x.heap.size + 1))
  have hkeep := map_keeps ho2 hg
  have hkeep2 : ∀ a v, x.cell? a = some v → y.cell? a = some v := fun a v hc => hkeep a v (below_keeps hB2 a v hc)
  have hs2 : x.heap.size ≤ y.heap.size := Nat.le_trans hB2.size hg.size
  have hxm : x.heap.size ≤ ((x.alloc (accObj L.acc[k])).alloc (accObj L.acc[k])).drew.heap.size := hB2.size
  refine ⟨y, hrun, ⟨?_, Nat.lt_of_lt_of_le M.lt hs2, hkeep2 _ _ M.c0, hkeep2 _ _ M.c1, hkeep2 _ _ M.c2, M.hold.keeps hs2 hkeep2, M.seen.keeps hs2 hkeep2, ⟨D.put (kn L.acc[k].name) (ptrD (x.heap.size + 1)), ?_, ?_⟩⟩⟩
  · have b1 := M.box.2.2.out
    have hsz := b1.size
    simp only [World.size_alloc] at hsz
    have b2 := b1.trans (hB2.mono hsz)
    exact boxIn_of (b2.grown hg (by have := hB2.size; omega) (fun j hj => by cases hj; exact hm))
  · have e1 : (L.acc.take (k + 1)).length = (L.acc.take k).length + 1 := by simp only [List.length_take]; omega
    rw [e1]
    exact ho3
  · rw [take_next _ _ hk]
    refine mapIs_put ho.isMap hi hs2 hkeep2 (fun i hi' => ?_) ((blk_two x _).kept hg.size hkeep)
    have hik : i < k := by simp only [List.length_take] at hi'; omega
    rw [List.getElem_take]
    exact hd i k (by omega) hk hik
set_option maxRecDepth 100000 in
set_option maxHeartbeats 4000000 in
theorem bookOf_any (a h s : Option Addr) (ca ch cs : Nat) (L : Led) (w : World) (g1 : L.acc.length ≤ 12) (g2 : L.hold.length ≤ 10) (g3 : L.seen.length ≤ 40) (hL : LedAt w a h s L) (hd : ∀ i j (hi : i < L.acc.length) (hj : j < L.acc.length), i < j → L.acc[i].name ≠ L.acc[j].name) :
    Calls Tryz.prog 30 #[.agg #[.slice a L.acc.length ca, .slice h L.hold.length ch, .slice s L.seen.length cs]] w fun e w' => BookEnd L w e w' := by
  have HL : Hid _ := hide hL
  have HD : Hid _ := hide hd
  clear hL hd
  have hmm := @run_makeMap Tryz.prog
  go_enter Tryz.func30, Tryz.ntmps30
  go_upto_region 1 with fail
  go_cut [3] from 7 to 15 (fun b wx => ∃ q m, b = .pointer (some ⟨q, 0, none⟩) ∧ Hid (CutIs w (.slice a L.acc.length ca) (.slice h L.hold.length ch) (.slice s L.seen.length cs) L q wx m))
  case first =>
    go_region_held (fun x => x.cell? ⟨w.heap.size, 1, none⟩ = some (.slice h L.hold.length ch) ∧ x.cell? ⟨w.heap.size, 2, none⟩ = some (.slice s L.seen.length cs) ∧ Hid (Below (w.heap.size + 1) (w.alloc (.cells #[.slice a L.acc.length ca, .slice h L.hold.length ch, .slice s L.seen.length cs] 28)) x))
      (first | exact boxIn_of (Below.refl _ _).drew | exact BoxIn.alloc (by assumption) _ | exact BoxIn.on (by assumption) (by assumption))
      (first | (go_at_call 72; refine (cloneH_any _ _ _ _ (by omega) (HL.out.hold.below (BoxIn.old (by assumption)))).mono ?_; rintro e wh ⟨hbh, ah, caph, rfl, hah⟩) | (go_at_call 73; refine (cloneA_any _ _ _ _ (by omega) (HL.out.seen.below (BoxIn.old (by assumption)))).mono ?_; rintro e ws ⟨hbs, as', caps, rfl, has⟩))
    · have hmp := (((mapHas_made (w.alloc (.cells #[.slice a L.acc.length ca, .slice h L.hold.length ch, .slice s L.seen.length cs] 28))).below ((Below.refl _ _).drew)).below hbh).below hbs
      rw [World.size_alloc] at hmp
      have HC : Hid _ := hide (cut_of (w := w) (L := L) (x := ws) (m := w.heap.size + 1) (by assumption) (Nat.le_refl _) (hah.below hbs) has hmp)
      clear hmp
      go_wp2_with fail
      go_meet
      case rel => exact ⟨_, _, rfl, HC⟩
    · have HC : Hid _ := hide (cut_of (L := L) (x := ws) (by assumption) (by have := hbh.size; simp at this; exact this) ((hah.below ((Below.refl _ _).alloc (Nat.le_refl _) _)).below hbs) has ((mapHas_made wh).below hbs))
      go_wp2_with fail
      go_meet
      case rel => exact ⟨_, _, rfl, HC⟩
    · have HC : Hid _ := hide (cut_of (L := L) (x := ws.alloc (.map #[] 0)) (by assumption) (by have := hbh.size; have := hbs.size; simp at *; omega) ((hah.below hbs).below ((Below.refl _ _).alloc (Nat.le_refl _) _)) (has.below ((Below.refl _ _).alloc (Nat.le_refl _) _)) (mapHas_made ws))
      go_wp2_with fail
      go_meet
      case rel => exact ⟨_, _, by simp, HC⟩
  case rest =>
    obtain ⟨q, m, rfl, HC⟩ := hcut
    obtain ⟨hbox, hm, hq, c0, ⟨h', ch', c1, hh⟩, ⟨s', cs', c2, ha⟩, hmap⟩ := HC.out
    have e0 : wc.cell? ⟨w.heap.size, 0, none⟩ = some (.slice a L.acc.length ca) := by rw [hbox.2.2.out.cell (by simp)]; simp
    have HM : Hid (MidIs w (.slice a L.acc.length ca) (.slice h L.hold.length ch) (.slice s L.seen.length cs) L q m h' s' ch' cs' (L.acc.take 0) wc) := hide ⟨hbox, hq, c0, c1, c2, hh, ha, hmap⟩
    clear hbox hq c0 c1 c2 hh ha hmap HC
    go_wp2
    go_loopw [19] (fun i wr => ∃ k : Nat, k ≤ L.acc.length ∧ i = .int .i64 (k : Int) ∧ Hid (MidIs w (.slice a L.acc.length ca) (.slice h L.hold.length ch) (.slice s L.seen.length cs) L q m h' s' ch' cs' (L.acc.take k) wr)) (fun i wr => L.acc.length - (intOf i).toNat)
    case atStart => exact ⟨0, Nat.zero_le _, rfl, HM⟩
    case round =>
      clear HM e0
      obtain ⟨k, hk, rfl, HM⟩ := hrel
      by_cases hlt : k < L.acc.length
      · obtain ⟨b, off, rfl, hb, d0, d1, d2, d3, s1, s2, _, _⟩ := (HL.out.acc.below HM.out.box.old) k hlt
        have hlt' : (k : Int) < (L.acc.length : Int) := by omega
        have c0 := HM.out.c0
        have hqx := HM.out.lt
        obtain ⟨y, hrun, HM2⟩ := mid_step hlt g1 hm HM.out HD.out s1
        have HM3 : Hid _ := hide HM2
        clear HM2
        simp only [accObj] at hrun
        go_wp2_with fail
        go_region
        go_wp2
        exact ⟨⟨k + 1, by omega, by go_num, HM3⟩, by simp [intOf]; omega⟩
      · have hk' : ¬ (k : Int) < (L.acc.length : Int) := by omega
        have HE : Hid (BookEnd L w (.returned (.pointer (some ⟨q, 0, none⟩))) wr) := hide (by
          have M := HM.out
          rw [List.take_of_length_le (by omega)] at M
          exact ⟨M.box.old, q, rfl, M.lt, m, h', s', ch', cs', M.c0, M.c1, M.c2, M.hold, M.seen, M.map⟩)
        go_wp2
        go_ret
        exact HE.out
end Go.Proofs.YteaopalhbnhbaaaGreatDoor
/- The contracts of the book's held and total. -/
namespace Go.Proofs.YteaopalhbnhbaaaGreatDoor
open Go.ChangeShapes Go.WideShapes Go.ChangeAt Go.RowKit Go.Maps
set_option linter.unusedVariables false
set_option maxRecDepth 100000
set_option maxHeartbeats 1000000 in
theorem held_any (q : Nat) (L : Led) (nm : ByteArray) (w : World) (hs : SmallH L.hold) (hB : BookAt w q L) :
    Calls Tryz.prog 75 #[.pointer (some ⟨q, 0, none⟩), .string nm] w fun e w' => e = .returned (.int .i64 (heldL nm L.hold)) ∧ Below w.heap.size w w' := by
  obtain ⟨hq, m, h, s, ch, cs, c0, c1, c2, hh, ha, hm⟩ := hB
  have HC : Hid _ := hide hh
  have HS : Hid _ := hide hs
  have hl : L.hold.length ≤ 10 := hs.1
  clear hh hs c0 c2 ha hm
  go_enter Tryz.func75, Tryz.ntmps75
  go_wp2
  go_loopw [5, 13] (fun s i wr => ∃ k : Nat, k ≤ L.hold.length ∧ i = .int .i64 (k : Int) ∧ s = .int .i64 (heldL nm (L.hold.take k)) ∧ Below w.heap.size w wr) (fun s i wr => L.hold.length - (intOf i).toNat)
  case atStart => exact ⟨0, Nat.zero_le _, rfl, rfl, Below.refl _ _⟩
  case round =>
    obtain ⟨k, hk, rfl, rfl, HB⟩ := hrel
    by_cases hlt : k < L.hold.length
    · obtain ⟨b, off, rfl, hb, d0, d1, d2, d3, _⟩ := (HC.out.below HB) k hlt
      have hlt' : (k : Int) < (L.hold.length : Int) := by omega
      have hbd := held_take nm L.hold k HS.out
      have ham := HS.out.2 (L.hold[k]) (List.getElem_mem hlt)
      obtain ⟨b0, b1⟩ := hbd
      obtain ⟨m0, m1⟩ := ham
      have hst : heldL nm (L.hold.take (k + 1)) = heldL nm (L.hold.take k) + (if (L.hold[k]).fr = nm then (L.hold[k]).amount else 0) := by
        rw [take_next L.hold k hlt, heldL_append]; simp [heldL]
      cases hq : ((L.hold[k]).fr.toList == nm.toList)
      · have hne : ¬ (L.hold[k]).fr = nm := fun e => by rw [beq_bytes.2 e] at hq; cases hq
        have HT : Hid (heldL nm (L.hold.take (k + 1)) = heldL nm (L.hold.take k)) := hide (by rw [hst, if_neg hne]; omega)
        clear hst hne
        generalize heldL nm (L.hold.take k) = x at *
        go_wp2
        exact ⟨⟨k + 1, by omega, by go_num, by rw [HT.out], below_alloc HB _⟩, by simp [intOf]; omega⟩
      · have HT : Hid (heldL nm (L.hold.take (k + 1)) = heldL nm (L.hold.take k) + (L.hold[k]).amount) := hide (by rw [hst, if_pos (beq_bytes.1 hq)])
        clear hst
        generalize heldL nm (L.hold.take k) = x at *
        go_wp2
        exact ⟨⟨k + 1, by omega, by go_num, by rw [HT.out], below_alloc HB _⟩, by simp [intOf]; omega⟩
    · have HE : Hid (L.hold.take k = L.hold) := hide (by rw [List.take_of_length_le (by omega)])
      have hk' : ¬ (k : Int) < (L.hold.length : Int) := by omega
      go_wp2
      go_ret
      exact ⟨by show Ending.returned (Value.int _ (heldL nm (L.hold.take k))) = _; rw [HE.out], HB⟩
/-- the sum over those that have come -/
def doneSum (left : Lit → Bool) (cur : ByteArray) : List Acc → Int
  | [] => 0
  | x :: xs => (if left (kn x.name) = true then 0 else if x.cur = cur then x.posted else 0) + doneSum left cur xs
theorem doneSum_start {left : Lit → Bool} {cur : ByteArray} {l : List Acc} (h : ∀ x ∈ l, left (kn x.name) = true) : doneSum left cur l = 0 := by
  induction l with
  | nil => rfl
  | cons x xs ih => simp only [doneSum, h x (by simp), if_true]; rw [ih (fun y hy => h y (by simp [hy]))]; rfl
theorem doneSum_end {left : Lit → Bool} {cur : ByteArray} {l : List Acc} (h : ∀ kl, left kl = false) : doneSum left cur l = totL cur l := by
  induction l with
  | nil => rfl
  | cons x xs ih => simp only [doneSum, totL, h, ih]; simp
theorem doneSum_congr {left left' : Lit → Bool} {cur : ByteArray} {l : List Acc} (h : ∀ x ∈ l, left (kn x.name) = left' (kn x.name)) : doneSum left cur l = doneSum left' cur l := by
  induction l with
  | nil => rfl
  | cons x xs ih => simp only [doneSum, h x (by simp)]; rw [ih (fun y hy => h y (by simp [hy]))]
def Apart (l : List Acc) : Prop := ∀ i j (hi : i < l.length) (hj : j < l.length), i < j → l[i].name ≠ l[j].name
theorem sameKey_kn {a b : ByteArray} : (kn a).sameKey (kn b) = true ↔ a = b := by
  constructor
  · intro h
    by_cases e : kn a = kn b
    · exact kn_inj e
    · rw [sameKey_ne e] at h; cases h
  · rintro rfl
    exact WideAt.sameKey_self (kn_key _)
theorem doneSum_step {left : Lit → Bool} {cur : ByteArray} : ∀ {l : List Acc} (hd : Apart l) {j : Nat} (hj : j < l.length), left (kn l[j].name) = true →
    doneSum (fun z => left z && !z.sameKey (kn l[j].name)) cur l = doneSum left cur l + (if l[j].cur = cur then l[j].posted else 0) := by
  intro l
  induction l with
  | nil => intro hd j hj; simp at hj
  | cons x xs ih =>
    intro hd j hj hl
    have hd' : Apart xs := fun a b ha hb hab => hd (a + 1) (b + 1) (by simpa using ha) (by simpa using hb) (by omega)
    cases j with
    | zero =>
      simp only [List.getElem_cons_zero] at hl ⊢
      have hself : (kn x.name).sameKey (kn x.name) = true := sameKey_kn.2 rfl
      simp only [doneSum, hl, hself, if_true, Bool.not_true, Bool.and_false, Bool.false_eq_true, if_false]
      rw [doneSum_congr (left' := left) (fun y hy => by
        obtain ⟨i, hi, rfl⟩ := List.getElem_of_mem hy
        have hne := hd 0 (i + 1) (by simp) (by simpa using hi) (by omega)
        simp only [List.getElem_cons_zero, List.getElem_cons_succ] at hne
        have : (kn xs[i].name).sameKey (kn x.name) = false := by
          rw [Bool.eq_false_iff]; intro e; exact hne (sameKey_kn.1 e).symm
        simp [this])]
      omega
    | succ i =>
      simp only [List.getElem_cons_succ] at hl ⊢
      have hi : i < xs.length := by simpa using hj
      have hne := hd 0 (i + 1) (by simp) (by simpa using hi) (by omega)
      simp only [List.getElem_cons_zero, List.getElem_cons_succ] at hne
      have : (kn x.name).sameKey (kn xs[i].name) = false := by
        rw [Bool.eq_false_iff]; intro e; exact hne (sameKey_kn.1 e)
      simp only [doneSum, this, Bool.not_false, Bool.and_true]
      rw [ih hd' hi hl]
      omega
theorem doneSum_bd {left : Lit → Bool} {cur : ByteArray} {l : List Acc} (h : ∀ x ∈ l, -1000000000000 ≤ x.posted ∧ x.posted ≤ 1000000000000) : -(1000000000000 * l.length : Int) ≤ doneSum left cur l ∧ doneSum left cur l ≤ 1000000000000 * l.length := by
  induction l with
  | nil => simp [doneSum]
  | cons x xs ih =>
    have h1 := h x (by simp)
    have h2 := ih (fun y hy => h y (by simp [hy]))
    simp only [doneSum, List.length_cons]
    split
    · omega
    · split <;> omega
theorem done_small {left : Lit → Bool} {cur : ByteArray} {l : List Acc} (h : SmallA l) : -12000000000000 ≤ doneSum left cur l ∧ doneSum left cur l ≤ 12000000000000 := by
  have h1 := doneSum_bd (left := left) (cur := cur) h.2
  have := h.1
  omega
theorem iter_no_cell {w : World} {m r n cnt : Nat} {D : DataW Unit} {left : Lit → Bool} (h : w.ranges Tryz.prog 9 ptrElem m r n D left cnt) {a : Addr} {v : Value} (hc : w.cell? a = some v) : a.block ≠ r := by
  obtain ⟨es, clock, since, seen, c0, hb, _, _, _, hr, _⟩ := h
  intro e
  unfold World.cell? at hc
  rw [e, hr] at hc
  simp at hc
theorem iter_keeps {w w' : World} {m r n cnt : Nat} {D : DataW Unit} {left : Lit → Bool} (h : w.ranges Tryz.prog 9 ptrElem m r n D left cnt) (g : w.grownBy w' (some r)) : ∀ a v, w.cell? a = some v → w'.cell? a = some v :=
  fun a v hc => g.cell hc (fun e => iter_no_cell h hc (Option.some.inj e))
set_option maxRecDepth 100000 in
set_option maxHeartbeats 2000000 in
theorem total_any (q : Nat) (L : Led) (cur : ByteArray) (w : World) (hs : SmallA L.acc) (hd : Apart L.acc) (hB : BookAt w q L) :
    Calls Tryz.prog 77 #[.pointer (some ⟨q, 0, none⟩), .string cur] w fun e w' => e = .returned (.int .i64 (totL cur L.acc)) ∧ Below w.heap.size w w' := by
  obtain ⟨hq, m, h, s, ch, cs, c0, c1, c2, hh, ha, hm⟩ := hB
  obtain ⟨D, hown, hi⟩ := hm
  have HI : Hid _ := hide hi
  have HD : Hid _ := hide hd
  have HS : Hid _ := hide hs
  clear hi hs hd c1 c2 hh ha
  go_enter Tryz.func77, Tryz.ntmps77
  go_wp2_with (first
    | (at_range; refine wpList_range_own _ rfl _ 100 rfl 9 105 law9 u64 _ m L.acc.length D rfl hown ?_; intro w0 hrg0 hg0 hs0)
    | go_in)
  go_frame
  have HB0 : Hid (Below w.heap.size w w0) := hide ((Below.refl _ _).grown hg0 (Nat.le_refl _) (fun j hj => by cases hj))
  go_loopw [5] (fun s wr => ∃ (left : Lit → Bool) (cnt : Nat), wr.ranges Tryz.prog 9 ptrElem m w.heap.size L.acc.length D left cnt ∧ Below w.heap.size w wr ∧ s = .int .i64 (doneSum left cur L.acc)) (fun s wr => wr.rangeLeft m w.heap.size)
  case atStart =>
    refine ⟨_, _, hrg0, HB0.out, ?_⟩
    rw [doneSum_start]
    intro x hx
    obtain ⟨i, hi', rfl⟩ := List.getElem_of_mem hx
    obtain ⟨p, hp, _⟩ := HI.out.at_ i hi'
    exact has_true_of_atKey hp
  case round =>
    obtain ⟨left, cnt, hrg, HB, rfl⟩ := hrel
    have hin : MapIs wr D L.acc := HI.out.kept HB.size (below_keeps HB)
    go_wp2_with (first
      | (at_next; refine wpList_next_book _ rfl _ rfl m w.heap.size L.acc.length D left cnt rfl hrg L.acc hin ?_ ?_)
      | go_in)
    · intro hl0
      have HE : Hid (doneSum left cur L.acc = totL cur L.acc) := hide (doneSum_end hl0)
      clear hl0
      go_wp2
      go_ret
      exact ⟨by rw [HE.out]; rfl, HB⟩
    · intro j hj p w1 cnt1 hlj hblk hrg1 hlt hg1 hs1 hen
      have HB1 : Hid (Below w.heap.size w w1) := hide (HB.grown hg1 HB.size (fun k hk => by cases hk; exact Nat.le_refl _))
      obtain ⟨p0, p1, p2, p3, p4⟩ := hblk.kept hg1.size (iter_keeps hrg hg1)
      have hbd := done_small (left := left) (cur := cur) HS.out
      have ham := HS.out.2 (L.acc[j]) (List.getElem_mem hj)
      obtain ⟨b0, b1⟩ := hbd
      obtain ⟨m0, m1⟩ := ham
      have hst := doneSum_step (cur := cur) HD.out hj hlj
      have HM : Hid (w1.rangeLeft m w.heap.size < wr.rangeLeft m w.heap.size) := hide (by rw [hrg1.left_eq, hrg.left_eq]; exact hlt)
      have HR : Hid _ := hide hrg1
      clear hrg1 hrg hin hblk hg1 hs1 hlt hlj hrg0 hg0 hs0 hown
      cases hq : ((L.acc[j]).cur.toList == cur.toList)
      · have hne : ¬ (L.acc[j]).cur = cur := fun e => by rw [beq_bytes.2 e] at hq; cases hq
        have HT : Hid (doneSum (fun z => left z && !z.sameKey (kn L.acc[j].name)) cur L.acc = doneSum left cur L.acc) := hide (by rw [hst, if_neg hne]; omega)
        clear hst hne
        generalize doneSum left cur L.acc = x at *
        go_wp2
        go_roundw
        case rel => exact ⟨_, cnt1, HR.out, HB1.out, by rw [HT.out]⟩
        case measure => exact HM.out
      · have HT : Hid (doneSum (fun z => left z && !z.sameKey (kn L.acc[j].name)) cur L.acc = doneSum left cur L.acc + (L.acc[j]).posted) := hide (by rw [hst, if_pos (beq_bytes.1 hq)])
        clear hst
        generalize doneSum left cur L.acc = x at *
        go_wp2
        go_roundw
        case rel => exact ⟨_, cnt1, HR.out, HB1.out, by rw [HT.out]⟩
        case measure => exact HM.out
end Go.Proofs.YteaopalhbnhbaaaGreatDoor
/- The contracts of the book's covers and pair, and of denied. -/
namespace Go.Proofs.YteaopalhbnhbaaaGreatDoor
open Go.ChangeShapes Go.WideShapes Go.ChangeAt Go.RowKit Go.Maps
set_option linter.unusedVariables false
set_option maxRecDepth 100000
theorem wrap64_id {n : Int} (h : -9223372036854775808 ≤ n ∧ n ≤ 9223372036854775807) : IntKind.i64.wrap n = n := by
  simp only [IntKind.wrap, IntKind.signed, IntKind.bits]; simp; omega
/-- does an account cover an amount more? -/
def covB (x : Acc) (held amt : Int) : Bool := decide (x.limit = -1) || decide (-x.limit ≤ x.posted - held - amt)
def SmallX (x : Acc) : Prop := (-1 ≤ x.limit ∧ x.limit ≤ 1000000000000) ∧ -1000000000000 ≤ x.posted ∧ x.posted ≤ 1000000000000
set_option maxHeartbeats 2000000 in
theorem covers_any (q p : Nat) (L : Led) (x : Acc) (amt : Int) (w : World) (hs : SmallH L.hold) (hx : SmallX x) (hamt : 0 ≤ amt ∧ amt ≤ 1000000000000) (hB : BookAt w q L) (hp : AccBlk w p x) :
    Calls Tryz.prog 76 #[.pointer (some ⟨q, 0, none⟩), .pointer (some ⟨p, 0, none⟩), .int .i64 amt] w fun e w' => e = .returned (.bool (covB x (heldL x.name L.hold) amt)) ∧ Below w.heap.size w w' := by
  have HS : Hid _ := hide hs
  have HB : Hid (∀ y : Later w, BookAt y.w q L) := hide (fun y => hB.below y.below)
  obtain ⟨p0, p1, p2, p3, p4⟩ := hp
  have k0 : ∀ y : Later w, y.w.cell? ⟨p, 0, none⟩ = some (.string x.name) := fun y => (y.below.cell p0).trans p1
  have k2 : ∀ y : Later w, y.w.cell? ⟨p, 2, none⟩ = some (.int .i64 x.limit) := fun y => (y.below.cell p0).trans p3
  have k3 : ∀ y : Later w, y.w.cell? ⟨p, 3, none⟩ = some (.int .i64 x.posted) := fun y => (y.below.cell p0).trans p4
  have hne : Nonempty (Later w) := later_there _
  have hbd := held_take x.name L.hold L.hold.length hs
  rw [List.take_length] at hbd
  obtain ⟨⟨x1, x2⟩, x3, x4⟩ := hx
  obtain ⟨a1, a2⟩ := hamt
  obtain ⟨b1, b2⟩ := hbd
  have w1 : IntKind.i64.wrap (x.posted - heldL x.name L.hold) = x.posted - heldL x.name L.hold := wrap64_id (by omega)
  have w2 : IntKind.i64.wrap (x.posted - heldL x.name L.hold - amt) = x.posted - heldL x.name L.hold - amt := wrap64_id (by omega)
  have w3 : IntKind.i64.wrap (-x.limit) = -x.limit := wrap64_id (by omega)
  clear hs hB p1 p2 p3 p4
  cases q1 : (x.limit == -1)
  · cases q2 : decide (-x.limit ≤ x.posted - heldL x.name L.hold - amt)
    · have HR : Hid (covB x (heldL x.name L.hold) amt = false) := hide (by unfold covB; rw [q2]; simp at q1; simp [q1])
      go_enter Tryz.func76, Tryz.ntmps76
      go_wp2_with fail
      refine wp_region_later w (by kernel_rfl) (by kernel_rfl) ((Below.refl _ _).drew) ?_
      repeat (go_big_quiet_step (first | (go_at_call 75; exact later_of (held_any _ L _ _ HS.out (HB.out _)))))
      refine wpQuiet_nil ?_
      intro _ hw'
      obtain ⟨nx, rfl⟩ := hw'
      go_wp2
      go_ret
      exact ⟨by rw [HR.out]; rfl, nx.below⟩
    · have HR : Hid (covB x (heldL x.name L.hold) amt = true) := hide (by unfold covB; rw [q2]; simp)
      go_enter Tryz.func76, Tryz.ntmps76
      go_wp2_with fail
      refine wp_region_later w (by kernel_rfl) (by kernel_rfl) ((Below.refl _ _).drew) ?_
      repeat (go_big_quiet_step (first | (go_at_call 75; exact later_of (held_any _ L _ _ HS.out (HB.out _)))))
      refine wpQuiet_nil ?_
      intro _ hw'
      obtain ⟨nx, rfl⟩ := hw'
      go_wp2
      go_ret
      exact ⟨by rw [HR.out]; rfl, nx.below⟩
  · have HR : Hid (covB x (heldL x.name L.hold) amt = true) := hide (by unfold covB; simp at q1; simp [q1])
    go_enter Tryz.func76, Tryz.ntmps76
    go_wp2_with fail
    refine wp_region_later w (by kernel_rfl) (by kernel_rfl) ((Below.refl _ _).drew) ?_
    repeat (go_big_quiet_step (first | (go_at_call 75; exact later_of (held_any _ L _ _ HS.out (HB.out _)))))
    refine wpQuiet_nil ?_
    intro _ hw'
    obtain ⟨nx, rfl⟩ := hw'
    go_wp2
    go_ret
    exact ⟨by rw [HR.out]; rfl, nx.below⟩
/-- a refusal that was denied: a new block with its code -/
def DeniedEnd (code : Int) (g : Value) (w : World) (e : Ending) (w' : World) : Prop :=
  e = .returned (.iface 139 (.pointer (some ⟨w.heap.size, 0, none⟩))) ∧ w' = w.alloc (.cells #[.int .i64 code, g] 141)
theorem denied_any (code : Int) (t : TypeId) (v : Value) (w : World) (hg : w.cell? ⟨1, 0, none⟩ = some (.iface t v)) :
    Calls Tryz.prog 98 #[.int .i64 code] w fun e w' => DeniedEnd code (.iface t v) w e w' := by
  go_enter Tryz.func98, Tryz.ntmps98
  go_wp2
  go_ret
  exact ⟨rfl, rfl⟩
end Go.Proofs.YteaopalhbnhbaaaGreatDoor
/- The contract of the pair of the book. -/
namespace Go.Proofs.YteaopalhbnhbaaaGreatDoor
open Go.ChangeShapes Go.WideShapes Go.ChangeAt Go.RowKit Go.Maps
set_option linter.unusedVariables false
set_option maxRecDepth 100000
/-- what pair tells -/
def PairEnd (L : Led) (fr tn : ByteArray) (g : Value) (w : World) (e : Ending) (w' : World) : Prop :=
  Below w.heap.size w w' ∧
  ((∃ i j, ∃ hi : i < L.acc.length, ∃ hj : j < L.acc.length, ∃ p r, L.acc[i].name = fr ∧ L.acc[j].name = tn ∧ L.acc[i].cur = L.acc[j].cur ∧ AccBlk w' p L.acc[i] ∧ AccBlk w' r L.acc[j] ∧ e = .returned (.tuple #[.pointer (some ⟨p, 0, none⟩), .pointer (some ⟨r, 0, none⟩), .nilIface])) ∨
   (((∀ i (hi : i < L.acc.length), L.acc[i].name ≠ fr) ∨ ∀ i (hi : i < L.acc.length), L.acc[i].name ≠ tn) ∧ ∃ n, n < w'.heap.size ∧ w.heap.size ≤ n ∧ w'.cell? ⟨n, 0, none⟩ = some (.int .i64 5) ∧ w'.cell? ⟨n, 1, none⟩ = some g ∧ e = .returned (.tuple #[.pointer none, .pointer none, .iface 139 (.pointer (some ⟨n, 0, none⟩))])) ∨
   (∃ i j, ∃ hi : i < L.acc.length, ∃ hj : j < L.acc.length, L.acc[i].name = fr ∧ L.acc[j].name = tn ∧ L.acc[i].cur ≠ L.acc[j].cur ∧ ∃ n, n < w'.heap.size ∧ w.heap.size ≤ n ∧ w'.cell? ⟨n, 0, none⟩ = some (.int .i64 6) ∧ w'.cell? ⟨n, 1, none⟩ = some g ∧ e = .returned (.tuple #[.pointer none, .pointer none, .iface 139 (.pointer (some ⟨n, 0, none⟩))])))
theorem new_denied (w : World) (N : Nat) (code : Int) (g : Value) : Below w.heap.size w ((w.drewN N).alloc (.cells #[.int .i64 code, g] 141)) ∧ w.heap.size < ((w.drewN N).alloc (.cells #[.int .i64 code, g] 141)).heap.size ∧ ((w.drewN N).alloc (.cells #[.int .i64 code, g] 141)).cell? ⟨w.heap.size, 0, none⟩ = some (.int .i64 code) ∧
    ((w.drewN N).alloc (.cells #[.int .i64 code, g] 141)).cell? ⟨w.heap.size, 1, none⟩ = some g := by
  have hz : (w.drewN N).heap.size = w.heap.size := by simp
  have k0 : ∀ x : World, (x.alloc (.cells #[.int .i64 code, g] 141)).cell? ⟨x.heap.size, 0, none⟩ = some (.int .i64 code) := fun x => by simp
  have k1 : ∀ x : World, (x.alloc (.cells #[.int .i64 code, g] 141)).cell? ⟨x.heap.size, 1, none⟩ = some g := fun x => by simp
  have h1 : ((w.drewN N).alloc (.cells #[.int .i64 code, g] 141)).cell? ⟨(w.drewN N).heap.size, 0, none⟩ = some (.int .i64 code) := k0 _
  have h2 : ((w.drewN N).alloc (.cells #[.int .i64 code, g] 141)).cell? ⟨(w.drewN N).heap.size, 1, none⟩ = some g := k1 _
  rw [hz] at h1 h2
  exact ⟨(drewN_below w N).alloc (by rw [hz]; exact Nat.le_refl _) _, by simp, h1, h2⟩
theorem pair_yes {L : Led} {fr tn : ByteArray} {g : Value} {w x : World} {i j p r : Nat} (hfin : Below w.heap.size w x) (hi : i < L.acc.length) (hj : j < L.acc.length) (h1 : L.acc[i].name = fr) (h2 : L.acc[j].name = tn) (h3 : L.acc[i].cur = L.acc[j].cur) (hp : AccBlk w p L.acc[i]) (hr : AccBlk w r L.acc[j]) :
    PairEnd L fr tn g w (.returned (.tuple #[.pointer (some ⟨p, 0, none⟩), .pointer (some ⟨r, 0, none⟩), .nilIface])) x :=
  ⟨hfin, .inl ⟨i, j, hi, hj, p, r, h1, h2, h3, hp.kept hfin.size (below_keeps hfin), hr.kept hfin.size (below_keeps hfin), rfl⟩⟩
theorem pair_no {L : Led} {fr tn : ByteArray} {g : Value} {w : World} {N : Nat} (h : (∀ i (hi : i < L.acc.length), L.acc[i].name ≠ fr) ∨ ∀ i (hi : i < L.acc.length), L.acc[i].name ≠ tn) :
    PairEnd L fr tn g w (.returned (.tuple #[.pointer none, .pointer none, .iface 139 (.pointer (some ⟨w.heap.size, 0, none⟩))])) ((w.drewN N).alloc (.cells #[.int .i64 5, g] 141)) := by
  obtain ⟨z1, z2, z3, z4⟩ := new_denied w N 5 g
  exact ⟨z1, .inr (.inl ⟨h, _, z2, Nat.le_refl _, z3, z4, rfl⟩)⟩
theorem pair_other {L : Led} {fr tn : ByteArray} {g : Value} {w : World} {N : Nat} {i j : Nat} (hi : i < L.acc.length) (hj : j < L.acc.length) (h1 : L.acc[i].name = fr) (h2 : L.acc[j].name = tn) (h3 : L.acc[i].cur ≠ L.acc[j].cur) :
    PairEnd L fr tn g w (.returned (.tuple #[.pointer none, .pointer none, .iface 139 (.pointer (some ⟨w.heap.size, 0, none⟩))])) ((w.drewN N).alloc (.cells #[.int .i64 6, g] 141)) := by
  obtain ⟨z1, z2, z3, z4⟩ := new_denied w N 6 g
  exact ⟨z1, .inr (.inr ⟨i, j, hi, hj, h1, h2, h3, _, z2, Nat.le_refl _, z3, z4, rfl⟩)⟩
set_option maxHeartbeats 2000000 in
theorem pair_any (q : Nat) (L : Led) (fr tn : ByteArray) (t : TypeId) (v : Value) (w : World) (s1 : fr.size ≤ maxLen) (s2 : tn.size ≤ maxLen) (hB : BookAt w q L) (hg : w.cell? ⟨1, 0, none⟩ = some (.iface t v)) :
    Calls Tryz.prog 74 #[.pointer (some ⟨q, 0, none⟩), .string fr, .string tn] w fun e w' => PairEnd L fr tn (.iface t v) w e w' := by
  have hd : ∀ x : World, ∀ code, x.cell? ⟨1, 0, none⟩ = some (.iface t v) → Calls Tryz.prog 98 #[.int .i64 code] x fun e w' => DeniedEnd code (.iface t v) x e w' := fun x code h => denied_any code t v x h
  obtain ⟨hq, m, h, s, ch, cs, c0, c1, c2, hh, ha, hm⟩ := hB
  clear c1 c2 hh ha
  rcases look_book hm s1 with ⟨i, hi, p, en1, hp, r1⟩ | ⟨no1, r1⟩
  · rcases look_book hm s2 with ⟨j, hj, r, en2, hr, r2⟩ | ⟨no2, r2⟩
    · obtain ⟨p0, p1, p2, p3, p4⟩ := hp
      obtain ⟨t0, t1, t2, t3, t4⟩ := hr
      have HP : Hid (AccBlk w p L.acc[i]) := hide ⟨p0, p1, p2, p3, p4⟩
      have HT : Hid (AccBlk w r L.acc[j]) := hide ⟨t0, t1, t2, t3, t4⟩
      have HN1 : Hid _ := hide en1
      have HN2 : Hid _ := hide en2
      have p2' : w.cell? ⟨p, 1, none⟩ = some (.string L.acc[i].cur) := p2
      have t2' : w.cell? ⟨r, 1, none⟩ = some (.string L.acc[j].cur) := t2
      clear en1 en2 hm p1 p2 p3 p4 t1 t2 t3 t4
      cases q1 : (L.acc[i].cur.toList == L.acc[j].cur.toList)
      · have q1' : (L.acc[i].cur.toList != L.acc[j].cur.toList) = true := by simp [bne, q1]
        have HQ : Hid (L.acc[i].cur ≠ L.acc[j].cur) := hide (fun e => by rw [beq_bytes.2 e] at q1; cases q1)
        go_enter Tryz.func74, Tryz.ntmps74
        go_wp2_with fail
        go_quiet (fail)
        go_wp2_with fail
        go_quiet (fail)
        go_wp2_with (first | (go_at_call 98; refine (hd _ _ (by simpa using hg)).mono ?_; rintro e w1 ⟨rfl, rfl⟩))
        go_ret3
        exact pair_other hi hj HN1.out HN2.out HQ.out
      · have q1' : (L.acc[i].cur.toList != L.acc[j].cur.toList) = false := by simp [bne, q1]
        have HQ : Hid (L.acc[i].cur = L.acc[j].cur) := hide (beq_bytes.1 q1)
        go_enter Tryz.func74, Tryz.ntmps74
        go_wp2_with fail
        go_quiet (fail)
        go_wp2_with fail
        go_quiet (fail)
        go_wp2
        go_ret3
        exact pair_yes (below_drewN (drewN_below w _) _) hi hj HN1.out HN2.out HQ.out HP.out HT.out
    · have HN : Hid _ := hide no2
      clear no2 hp en1 hm
      go_enter Tryz.func74, Tryz.ntmps74
      go_wp2_with fail
      go_quiet (fail)
      go_wp2_with (first | (go_at_call 98; refine (hd _ _ (by simpa using hg)).mono ?_; rintro e w1 ⟨rfl, rfl⟩))
      go_ret3
      exact pair_no (.inr HN.out)
  · have HN : Hid _ := hide no1
    have hr2 : ∃ u, ∀ k, (Instr.lookup 100 (.map (some m)) (.string tn) false).run Tryz.prog (w.drewN k) = .ok u (w.drewN k) := by
      rcases look_book hm s2 with ⟨j, hj, r, en2, hr, r2⟩ | ⟨no2, r2⟩
      · exact ⟨_, r2⟩
      · exact ⟨_, r2⟩
    obtain ⟨u, r2⟩ := hr2
    clear no1 hm
    go_enter Tryz.func74, Tryz.ntmps74
    go_wp2_with fail
    go_quiet (fail)
    go_wp2_with (first | (go_at_call 98; refine (hd _ _ (by simpa using hg)).mono ?_; rintro e w1 ⟨rfl, rfl⟩))
    go_ret3
    exact pair_no (.inl HN.out)
end Go.Proofs.YteaopalhbnhbaaaGreatDoor
/- The contract of the book's holdsOk. -/
namespace Go.Proofs.YteaopalhbnhbaaaGreatDoor
open Go.ChangeShapes Go.WideShapes Go.ChangeAt Go.RowKit Go.Maps
set_option linter.unusedVariables false
set_option maxRecDepth 100000
/-- two accounts that are there, of one currency -/
def pairI (L : Led) (fr tn : ByteArray) : Bool := match idxA L.acc fr, idxA L.acc tn with
  | some i, some j => (match L.acc[i]?, L.acc[j]? with
    | some p, some q => sameB p.cur q.cur
    | _, _ => false)
  | _, _ => false
theorem idxA_of {l : List Acc} (hd : Apart l) {i : Nat} (hi : i < l.length) : idxA l l[i].name = some i := idxA_some hi rfl (fun j hj => hd j i (by omega) hi hj)
theorem pairI_at {L : Led} (hd : Apart L.acc) {i j : Nat} (hi : i < L.acc.length) (hj : j < L.acc.length) {fr tn : ByteArray} (h1 : L.acc[i].name = fr) (h2 : L.acc[j].name = tn) : pairI L fr tn = sameB L.acc[i].cur L.acc[j].cur := by
  subst h1 h2
  simp [pairI, idxA_of hd hi, idxA_of hd hj, List.getElem?_eq_getElem hi, List.getElem?_eq_getElem hj]
theorem pairI_no {L : Led} {fr tn : ByteArray} (h : (∀ i (hi : i < L.acc.length), L.acc[i].name ≠ fr) ∨ ∀ i (hi : i < L.acc.length), L.acc[i].name ≠ tn) : pairI L fr tn = false := by
  rcases h with h | h
  · simp [pairI, idxA_none h]
  · unfold pairI; rw [idxA_none h]; cases idxA L.acc fr <;> rfl
theorem pairEnd_yes {L : Led} {fr tn : ByteArray} {g : Value} {w : World} {e : Ending} {w' : World} (hd : Apart L.acc) (h : PairEnd L fr tn g w e w') (hy : pairI L fr tn = true) :
    ∃ p r, e = .returned (.tuple #[.pointer (some ⟨p, 0, none⟩), .pointer (some ⟨r, 0, none⟩), .nilIface]) ∧ Below w.heap.size w w' := by
  obtain ⟨hb, ⟨i, j, hi, hj, p, r, _, _, _, _, _, he⟩ | ⟨hn, _⟩ | ⟨i, j, hi, hj, h1, h2, h3, _⟩⟩ := h
  · exact ⟨p, r, he, hb⟩
  · rw [pairI_no hn] at hy; cases hy
  · rw [pairI_at hd hi hj h1 h2] at hy; exact absurd (sameB_iff.1 hy) h3
theorem pairEnd_non {L : Led} {fr tn : ByteArray} {g : Value} {w : World} {e : Ending} {w' : World} (hd : Apart L.acc) (h : PairEnd L fr tn g w e w') (hy : pairI L fr tn = false) :
    ∃ n, e = .returned (.tuple #[.pointer none, .pointer none, .iface 139 (.pointer (some ⟨n, 0, none⟩))]) ∧ Below w.heap.size w w' := by
  obtain ⟨hb, ⟨i, j, hi, hj, p, r, h1, h2, h3, _, _, he⟩ | ⟨hn, n, _, _, _, _, he⟩ | ⟨i, j, hi, hj, h1, h2, h3, n, _, _, _, _, he⟩⟩ := h
  · rw [pairI_at hd hi hj h1 h2, sameB_iff.2 h3] at hy; cases hy
  · exact ⟨n, he, hb⟩
  · exact ⟨n, he, hb⟩
/-- what the program asks of a hold -/
def hldI (L : Led) (k : Nat) : Bool := match L.hold[k]? with
  | none => true
  | some x => risesB (L.hold.map Hld.id) k && inB 1 1000000000 x.id && inB 1 1000000000000 x.amount && !sameB x.fr x.to && pairI L x.fr x.to
theorem hldI_at {L : Led} {k : Nat} (h : k < L.hold.length) : hldI L k = (risesB (L.hold.map Hld.id) k && inB 1 1000000000 (L.hold[k]).id && inB 1 1000000000000 (L.hold[k]).amount && !sameB (L.hold[k]).fr (L.hold[k]).to && pairI L (L.hold[k]).fr (L.hold[k]).to) := by
  simp [hldI, List.getElem?_eq_getElem h]
set_option maxHeartbeats 8000000 in
theorem holdsOk_any (q : Nat) (L : Led) (t : TypeId) (v : Value) (w : World) (hl : L.hold.length ≤ 10) (hd : Apart L.acc) (hB : BookAt w q L) (hg : w.cell? ⟨1, 0, none⟩ = some (.iface t v)) :
    Calls Tryz.prog 31 #[.pointer (some ⟨q, 0, none⟩)] w fun e w' => e = .returned (.bool (allTo (hldI L) L.hold.length)) ∧ Below w.heap.size w w' := by
  have HBk : Hid _ := hide hB
  have HG : Hid _ := hide hg
  have HD : Hid _ := hide hd
  obtain ⟨hq, m, h, s, ch, cs, c0, c1, c2, hh, ha, hm⟩ := hB
  have HL : Hid _ := hide hh
  clear hh ha hm c0 c2 hg hd
  go_enter Tryz.func31, Tryz.ntmps31
  go_wp2
  go_loopw [13] (fun i wr => ∃ k : Nat, k ≤ L.hold.length ∧ i = .int .i64 (k : Int) ∧ Below w.heap.size w wr ∧ Hid (allTo (hldI L) k = true)) (fun i wr => L.hold.length - (intOf i).toNat)
  case atStart => exact ⟨0, Nat.zero_le _, rfl, Below.refl _ _, hide rfl⟩
  case round =>
    obtain ⟨k, hk, rfl, HB, HS⟩ := hrel
    by_cases hlt : k < L.hold.length
    · obtain ⟨b, off, rfl, hb, d0, d1, d2, d3, s1, s2, _, _⟩ := (HL.out.below HB) k hlt
      have hlt' : (k : Int) < (L.hold.length : Int) := by omega
      have hqr : q < wr.heap.size := by have := HB.size; omega
      have c1' : wr.cell? ⟨q, 1, none⟩ = some (.slice (some ⟨b, off, none⟩) L.hold.length ch) := (HB.cell hq).trans c1
      by_cases hz : k = 0
      · have hri : Hid (risesB (L.hold.map Hld.id) k = true) := hide (by rw [hz]; rfl)
        have hz' : decide ((0 : Int) < (k : Int)) = false := by simp; omega
        have hz'' : decide (0 < k) = false := by simp; omega
        clear hz
        cases q1 : inB 1 1000000000 (L.hold[k]).id
        · have HR : Hid (allTo (hldI L) L.hold.length = false) := hide (by rw [allTo_false hlt (by rw [hldI_at hlt, hri.out, q1]; simp)])
          go_wp2_with (fail)
          go_quiet (fail)
          go_wp2_with (first | (go_at_call 71; refine (numberOk_any _ _).mono ?_; rintro e w' ⟨rfl, rfl⟩) | (go_at_call 70; refine (within_any _ _ _ _).mono ?_; rintro e w' ⟨rfl, rfl⟩))
          go_ret
          exact ⟨by rw [HR.out]; rfl, below_drewN (below_alloc HB _) _⟩
        ·
          cases q2 : inB 1 1000000000000 (L.hold[k]).amount
          · have HR : Hid (allTo (hldI L) L.hold.length = false) := hide (by rw [allTo_false hlt (by rw [hldI_at hlt, hri.out, q1, q2]; simp)])
            go_wp2_with (fail)
            go_quiet (fail)
            go_wp2_with (first | (go_at_call 71; refine (numberOk_any _ _).mono ?_; rintro e w' ⟨rfl, rfl⟩) | (go_at_call 70; refine (within_any _ _ _ _).mono ?_; rintro e w' ⟨rfl, rfl⟩))
            go_ret
            exact ⟨by rw [HR.out]; rfl, below_drewN (below_alloc HB _) _⟩
          ·
            cases q4 : ((L.hold[k]).fr.toList == (L.hold[k]).to.toList)
            ·
              cases q5 : pairI L (L.hold[k]).fr (L.hold[k]).to
              · have HR : Hid (allTo (hldI L) L.hold.length = false) := hide (by rw [allTo_false hlt (by rw [hldI_at hlt, q5]; simp)])
                go_wp2_with (fail)
                go_quiet (fail)
                go_wp2_with (first | (go_at_call 71; refine (numberOk_any _ _).mono ?_; rintro e w' ⟨rfl, rfl⟩) | (go_at_call 70; refine (within_any _ _ _ _).mono ?_; rintro e w' ⟨rfl, rfl⟩) | (go_at_call 74; refine (pair_any q L _ _ t v _ s1 s2 (HBk.out.below (below_drewN (below_alloc HB _) _)) (below_keeps (below_drewN (below_alloc HB _) _) _ _ HG.out)).mono ?_; intro e w1 hpe; obtain ⟨nn, rfl, hbn⟩ := pairEnd_non HD.out hpe q5; have HBn : Hid _ := hide (below_trans (below_drewN (below_alloc HB _) _) hbn); clear hbn; clear hpe))
                go_ret
                exact ⟨by rw [HR.out]; rfl, HBn.out⟩
              · have HS2 : Hid (allTo (hldI L) (k + 1) = true) := hide (allTo_step HS.out (by rw [hldI_at hlt, hri.out, q1, q2, q5]; unfold sameB; rw [q4]; rfl))
                go_wp2_with (fail)
                go_quiet (fail)
                go_wp2_with (first | (go_at_call 71; refine (numberOk_any _ _).mono ?_; rintro e w' ⟨rfl, rfl⟩) | (go_at_call 70; refine (within_any _ _ _ _).mono ?_; rintro e w' ⟨rfl, rfl⟩) | (go_at_call 74; refine (pair_any q L _ _ t v _ s1 s2 (HBk.out.below (below_drewN (below_alloc HB _) _)) (below_keeps (below_drewN (below_alloc HB _) _) _ _ HG.out)).mono ?_; intro e w1 hpe; obtain ⟨p, r, rfl, hbn⟩ := pairEnd_yes HD.out hpe q5; have HBn : Hid _ := hide (below_trans (below_drewN (below_alloc HB _) _) hbn); clear hbn; clear hpe))
                exact ⟨⟨_, by omega, by go_num, HBn.out, HS2⟩, by simp [intOf]; omega⟩
            · have HR : Hid (allTo (hldI L) L.hold.length = false) := hide (by rw [allTo_false hlt (by rw [hldI_at hlt]; unfold sameB; rw [q4]; simp)])
              go_wp2_with (fail)
              go_quiet (fail)
              go_wp2_with (first | (go_at_call 71; refine (numberOk_any _ _).mono ?_; rintro e w' ⟨rfl, rfl⟩) | (go_at_call 70; refine (within_any _ _ _ _).mono ?_; rintro e w' ⟨rfl, rfl⟩))
              go_ret
              exact ⟨by rw [HR.out]; rfl, below_drewN (below_alloc HB _) _⟩
      · obtain ⟨n, hm⟩ : ∃ n, k = n + 1 := ⟨k - 1, by omega⟩
        have hm3 : n < L.hold.length := by omega
        obtain ⟨b', off', heq, _, p0, _, _, _, _⟩ := (HL.out.below HB) n hm3
        simp only [Option.some.injEq, Addr.mk.injEq, and_true] at heq
        obtain ⟨rfl, rfl⟩ := heq
        have hz' : (0 : Int) < (k : Int) := by omega
        have hm1 : IntKind.i64.wrap ((k : Int) - 1) = (n : Int) := by rw [show (k : Int) - 1 = (n : Int) by omega]; simp only [IntKind.wrap, IntKind.signed, IntKind.bits]; simp; omega
        have hm2 : (n : Int) < (L.hold.length : Int) := by omega
        have hz'' : 0 < k := by omega
        have hrs : risesB (L.hold.map Hld.id) k = decide ((L.hold[n]).id < (L.hold[k]).id) := by subst hm; exact rises_hold hlt
        by_cases q0 : (L.hold[n]).id < (L.hold[k]).id
        · have hri : Hid (risesB (L.hold.map Hld.id) k = true) := hide (by rw [hrs]; simpa using q0)
          have q0' : decide ((L.hold[k]).id ≤ (L.hold[n]).id) = false := by simp; omega
          clear hrs hm hz
          cases q1 : inB 1 1000000000 (L.hold[k]).id
          · have HR : Hid (allTo (hldI L) L.hold.length = false) := hide (by rw [allTo_false hlt (by rw [hldI_at hlt, hri.out, q1]; simp)])
            go_wp2_with (fail)
            go_quiet (fail)
            go_wp2_with (first | (go_at_call 71; refine (numberOk_any _ _).mono ?_; rintro e w' ⟨rfl, rfl⟩) | (go_at_call 70; refine (within_any _ _ _ _).mono ?_; rintro e w' ⟨rfl, rfl⟩))
            go_ret
            exact ⟨by rw [HR.out]; rfl, below_drewN (below_alloc HB _) _⟩
          ·
            cases q2 : inB 1 1000000000000 (L.hold[k]).amount
            · have HR : Hid (allTo (hldI L) L.hold.length = false) := hide (by rw [allTo_false hlt (by rw [hldI_at hlt, hri.out, q1, q2]; simp)])
              go_wp2_with (fail)
              go_quiet (fail)
              go_wp2_with (first | (go_at_call 71; refine (numberOk_any _ _).mono ?_; rintro e w' ⟨rfl, rfl⟩) | (go_at_call 70; refine (within_any _ _ _ _).mono ?_; rintro e w' ⟨rfl, rfl⟩))
              go_ret
              exact ⟨by rw [HR.out]; rfl, below_drewN (below_alloc HB _) _⟩
            ·
              cases q4 : ((L.hold[k]).fr.toList == (L.hold[k]).to.toList)
              ·
                cases q5 : pairI L (L.hold[k]).fr (L.hold[k]).to
                · have HR : Hid (allTo (hldI L) L.hold.length = false) := hide (by rw [allTo_false hlt (by rw [hldI_at hlt, q5]; simp)])
                  go_wp2_with (fail)
                  go_quiet (fail)
                  go_wp2_with (first | (go_at_call 71; refine (numberOk_any _ _).mono ?_; rintro e w' ⟨rfl, rfl⟩) | (go_at_call 70; refine (within_any _ _ _ _).mono ?_; rintro e w' ⟨rfl, rfl⟩) | (go_at_call 74; refine (pair_any q L _ _ t v _ s1 s2 (HBk.out.below (below_drewN (below_alloc HB _) _)) (below_keeps (below_drewN (below_alloc HB _) _) _ _ HG.out)).mono ?_; intro e w1 hpe; obtain ⟨nn, rfl, hbn⟩ := pairEnd_non HD.out hpe q5; have HBn : Hid _ := hide (below_trans (below_drewN (below_alloc HB _) _) hbn); clear hbn; clear hpe))
                  go_ret
                  exact ⟨by rw [HR.out]; rfl, HBn.out⟩
                · have HS2 : Hid (allTo (hldI L) (k + 1) = true) := hide (allTo_step HS.out (by rw [hldI_at hlt, hri.out, q1, q2, q5]; unfold sameB; rw [q4]; rfl))
                  go_wp2_with (fail)
                  go_quiet (fail)
                  go_wp2_with (first | (go_at_call 71; refine (numberOk_any _ _).mono ?_; rintro e w' ⟨rfl, rfl⟩) | (go_at_call 70; refine (within_any _ _ _ _).mono ?_; rintro e w' ⟨rfl, rfl⟩) | (go_at_call 74; refine (pair_any q L _ _ t v _ s1 s2 (HBk.out.below (below_drewN (below_alloc HB _) _)) (below_keeps (below_drewN (below_alloc HB _) _) _ _ HG.out)).mono ?_; intro e w1 hpe; obtain ⟨p, r, rfl, hbn⟩ := pairEnd_yes HD.out hpe q5; have HBn : Hid _ := hide (below_trans (below_drewN (below_alloc HB _) _) hbn); clear hbn; clear hpe))
                  exact ⟨⟨_, by omega, by go_num, HBn.out, HS2⟩, by simp [intOf]; omega⟩
              · have HR : Hid (allTo (hldI L) L.hold.length = false) := hide (by rw [allTo_false hlt (by rw [hldI_at hlt]; unfold sameB; rw [q4]; simp)])
                go_wp2_with (fail)
                go_quiet (fail)
                go_wp2_with (first | (go_at_call 71; refine (numberOk_any _ _).mono ?_; rintro e w' ⟨rfl, rfl⟩) | (go_at_call 70; refine (within_any _ _ _ _).mono ?_; rintro e w' ⟨rfl, rfl⟩))
                go_ret
                exact ⟨by rw [HR.out]; rfl, below_drewN (below_alloc HB _) _⟩
        · have q0' : (L.hold[k]).id ≤ (L.hold[n]).id := by omega
          have HR : Hid (allTo (hldI L) L.hold.length = false) := hide (by rw [allTo_false hlt (by rw [hldI_at hlt, hrs, decide_eq_false q0]; simp)])
          clear hrs hm hz
          go_wp2_with (fail)
          go_quiet (fail)
          go_wp2_with (first | (go_at_call 71; refine (numberOk_any _ _).mono ?_; rintro e w' ⟨rfl, rfl⟩) | (go_at_call 70; refine (within_any _ _ _ _).mono ?_; rintro e w' ⟨rfl, rfl⟩))
          go_ret
          exact ⟨by rw [HR.out]; rfl, below_drewN (below_alloc HB _) _⟩
    · have hk' : ¬ (k : Int) < (L.hold.length : Int) := by omega
      have HR : Hid (allTo (hldI L) L.hold.length = true) := hide (by
        have hs := HS.out
        rw [show k = L.hold.length by omega] at hs
        exact hs)
      go_wp2
      go_ret
      exact ⟨by rw [HR.out]; rfl, HB⟩
end Go.Proofs.YteaopalhbnhbaaaGreatDoor
/- The contract of the book's balancesOk. -/
namespace Go.Proofs.YteaopalhbnhbaaaGreatDoor
open Go.ChangeShapes Go.WideShapes Go.ChangeAt Go.RowKit Go.Maps
set_option linter.unusedVariables false
set_option maxRecDepth 100000
/-- what the program asks of an account beside all others -/
def balI (L : Led) (x : Acc) : Bool := decide (heldL x.name L.hold ≤ 1000000000000) && covB x (heldL x.name L.hold) 0 && decide (totL x.cur L.acc = 0)
theorem all_false {A : Type} {f : A → Bool} {l : List A} {j : Nat} (hj : j < l.length) (h : f l[j] = false) : l.all f = false := by
  rw [List.all_eq_false]
  exact ⟨l[j], List.getElem_mem hj, by simp [h]⟩
theorem struck {left : Lit → Bool} {L : Led} {f : Acc → Bool} (hd : Apart L.acc) {j : Nat} (hj : j < L.acc.length) (h : ∀ i (hi : i < L.acc.length), left (kn L.acc[i].name) = false → f L.acc[i] = true) (hf : f L.acc[j] = true) :
    ∀ i (hi : i < L.acc.length), (left (kn L.acc[i].name) && !(kn L.acc[i].name).sameKey (kn L.acc[j].name)) = false → f L.acc[i] = true := fun i hi hs => by
  cases hl : left (kn L.acc[i].name)
  · exact h i hi hl
  · rw [hl] at hs
    have : (kn L.acc[i].name).sameKey (kn L.acc[j].name) = true := by simpa using hs
    have e := sameKey_kn.1 this
    rcases Nat.lt_trichotomy i j with h1 | h1 | h1
    · exact absurd e (hd i j hi hj h1)
    · subst h1; exact hf
    · exact absurd e.symm (hd j i hj hi h1)
set_option maxRecDepth 100000 in
set_option maxHeartbeats 8000000 in
theorem balancesOk_any (q : Nat) (L : Led) (w : World) (hs : SmallH L.hold) (ha : SmallA L.acc) (hx : ∀ x ∈ L.acc, SmallX x) (hd : Apart L.acc) (hB : BookAt w q L) :
    Calls Tryz.prog 32 #[.pointer (some ⟨q, 0, none⟩)] w fun e w' => e = .returned (.bool (L.acc.all (balI L))) ∧ Below w.heap.size w w' := by
  have HBk : Hid _ := hide hB
  obtain ⟨hq, m, h, s, ch, cs, c0, c1, c2, hh, hsn, hm⟩ := hB
  obtain ⟨D, hown, hi⟩ := hm
  have HI : Hid _ := hide hi
  have HD : Hid _ := hide hd
  have HS : Hid _ := hide hs
  have HA : Hid _ := hide ha
  have HX : Hid _ := hide hx
  clear hi hs hd ha hx c1 c2 hh hsn
  go_enter Tryz.func32, Tryz.ntmps32
  go_wp2_with (first
    | (at_range; refine wpList_range_own _ rfl _ 100 rfl 9 105 law9 u64 _ m L.acc.length D rfl hown ?_; intro w0 hrg0 hg0 hs0)
    | go_in)
  go_frame
  have HB0 : Hid (Below w.heap.size w w0) := hide ((Below.refl _ _).grown hg0 (Nat.le_refl _) (fun j hj => by cases hj))
  go_loopw [4] (fun _ wr => ∃ (left : Lit → Bool) (cnt : Nat), wr.ranges Tryz.prog 9 ptrElem m w.heap.size L.acc.length D left cnt ∧ Below w.heap.size w wr ∧ Hid (∀ i (hi : i < L.acc.length), left (kn L.acc[i].name) = false → balI L L.acc[i] = true)) (fun _ wr => wr.rangeLeft m w.heap.size)
  case atStart =>
    refine ⟨_, _, hrg0, HB0.out, hide ?_⟩
    intro i hi' hf
    obtain ⟨p, hp, _⟩ := HI.out.at_ i hi'
    rw [has_true_of_atKey hp] at hf
    cases hf
  case round =>
    obtain ⟨left, cnt, hrg, HB, HOK⟩ := hrel
    have hin : MapIs wr D L.acc := HI.out.kept HB.size (below_keeps HB)
    go_wp2_with (first
      | (at_next; refine wpList_next_book _ rfl _ rfl m w.heap.size L.acc.length D left cnt rfl hrg L.acc hin ?_ ?_)
      | go_in)
    · intro hl0
      have HE : Hid (L.acc.all (balI L) = true) := hide (by
        rw [List.all_eq_true]
        intro x hx'
        obtain ⟨i, hi', rfl⟩ := List.getElem_of_mem hx'
        exact HOK.out i hi' (hl0 _))
      clear hl0
      go_wp2
      go_ret
      exact ⟨by rw [HE.out]; rfl, HB⟩
    · intro j hj p w1 cnt1 hlj hblk hrg1 hlt hg1 hs1 hen
      have HB1 : Hid (Below w.heap.size w w1) := hide (HB.grown hg1 HB.size (fun k hk => by cases hk; exact Nat.le_refl _))
      have hblk1 := hblk.kept hg1.size (iter_keeps hrg hg1)
      have HP : Hid _ := hide hblk1
      obtain ⟨p0, p1, p2, p3, p4⟩ := hblk1
      have HM : Hid (cnt1 < wr.rangeLeft m w.heap.size) := hide (by rw [hrg.left_eq]; exact hlt)
      have HR1 : Hid _ := hide hrg1
      have HXj : Hid _ := hide (HX.out _ (List.getElem_mem hj))
      clear hrg1 hrg hin hblk hg1 hs1 hlt hlj hrg0 hg0 hs0 hown p3 p4
      have HBk1 : Hid (∀ x, Below w1.heap.size w1 x → BookAt x q L) := hide (fun x hb => HBk.out.below (below_trans HB1.out hb))
      by_cases q1 : heldL (L.acc[j]).name L.hold ≤ 1000000000000
      · have q1' : decide (1000000000000 < heldL (L.acc[j]).name L.hold) = false := by simp; omega
        cases q2 : covB (L.acc[j]) (heldL (L.acc[j]).name L.hold) 0
        · have HF : Hid (L.acc.all (balI L) = false) := hide (all_false hj (by unfold balI; rw [q2]; simp))
          clear q1
          go_wp2_with (first | (go_at_call 75; refine (held_any q L _ _ HS.out (HBk1.out _ (Below.refl _ _))).mono ?_; rintro e wa ⟨rfl, hba⟩; have HBa : Hid _ := hide hba; have p1a := below_keeps hba _ _ p1; have p2a := below_keeps hba _ _ p2; clear hba) | (go_at_call 76; refine (covers_any q p L (L.acc[j]) 0 _ HS.out HXj.out (by omega) (HBk1.out _ HBa.out) (HP.out.kept HBa.out.size (below_keeps HBa.out))).mono ?_; rintro e wb ⟨rfl, hbb⟩; have HBb : Hid _ := hide (below_trans HBa.out hbb); have p2b := below_keeps hbb _ _ p2a; clear hbb) | (go_at_call 77; refine (total_any q L _ _ HA.out HD.out (HBk1.out _ HBb.out)).mono ?_; rintro e wc ⟨rfl, hbc⟩; have HBc : Hid _ := hide (below_trans HBb.out hbc); clear hbc))
          go_ret
          exact ⟨by rw [HF.out]; rfl, below_trans HB1.out HBb.out⟩
        · cases q3 : (totL (L.acc[j]).cur L.acc == 0)
          · have q3' : (totL (L.acc[j]).cur L.acc != 0) = true := by simp [bne, q3]
            have HF : Hid (L.acc.all (balI L) = false) := hide (all_false hj (by unfold balI; simp at q3; rw [decide_eq_false q3]; simp))
            clear q1
            go_wp2_with (first | (go_at_call 75; refine (held_any q L _ _ HS.out (HBk1.out _ (Below.refl _ _))).mono ?_; rintro e wa ⟨rfl, hba⟩; have HBa : Hid _ := hide hba; have p1a := below_keeps hba _ _ p1; have p2a := below_keeps hba _ _ p2; clear hba) | (go_at_call 76; refine (covers_any q p L (L.acc[j]) 0 _ HS.out HXj.out (by omega) (HBk1.out _ HBa.out) (HP.out.kept HBa.out.size (below_keeps HBa.out))).mono ?_; rintro e wb ⟨rfl, hbb⟩; have HBb : Hid _ := hide (below_trans HBa.out hbb); have p2b := below_keeps hbb _ _ p2a; clear hbb) | (go_at_call 77; refine (total_any q L _ _ HA.out HD.out (HBk1.out _ HBb.out)).mono ?_; rintro e wc ⟨rfl, hbc⟩; have HBc : Hid _ := hide (below_trans HBb.out hbc); clear hbc))
            go_ret
            exact ⟨by rw [HF.out]; rfl, below_trans HB1.out HBc.out⟩
          · have q3' : (totL (L.acc[j]).cur L.acc != 0) = false := by simp [bne, q3]
            have HF : Hid (balI L (L.acc[j]) = true) := hide (by unfold balI; simp at q3; rw [q2, decide_eq_true q1, decide_eq_true q3]; rfl)
            clear q1
            go_wp2_with (first | (go_at_call 75; refine (held_any q L _ _ HS.out (HBk1.out _ (Below.refl _ _))).mono ?_; rintro e wa ⟨rfl, hba⟩; have HBa : Hid _ := hide hba; have p1a := below_keeps hba _ _ p1; have p2a := below_keeps hba _ _ p2; clear hba) | (go_at_call 76; refine (covers_any q p L (L.acc[j]) 0 _ HS.out HXj.out (by omega) (HBk1.out _ HBa.out) (HP.out.kept HBa.out.size (below_keeps HBa.out))).mono ?_; rintro e wb ⟨rfl, hbb⟩; have HBb : Hid _ := hide (below_trans HBa.out hbb); have p2b := below_keeps hbb _ _ p2a; clear hbb) | (go_at_call 77; refine (total_any q L _ _ HA.out HD.out (HBk1.out _ HBb.out)).mono ?_; rintro e wc ⟨rfl, hbc⟩; have HBc : Hid _ := hide (below_trans HBb.out hbc); clear hbc))
            go_roundw
            case rel => exact ⟨_, cnt1, HR1.out.kept (below_grownBy HBc.out) (by simp) (by simp), below_trans HB1.out HBc.out, hide (struck HD.out hj HOK.out HF.out)⟩
            case measure => rw [(HR1.out.kept (below_grownBy HBc.out) (by simp) (by simp)).left_eq]; exact HM.out
      · have q1' : decide (1000000000000 < heldL (L.acc[j]).name L.hold) = true := by simp; omega
        have HF : Hid (L.acc.all (balI L) = false) := hide (all_false hj (by unfold balI; rw [decide_eq_false q1]; simp))
        clear q1
        go_wp2_with (first | (go_at_call 75; refine (held_any q L _ _ HS.out (HBk1.out _ (Below.refl _ _))).mono ?_; rintro e wa ⟨rfl, hba⟩; have HBa : Hid _ := hide hba; have p1a := below_keeps hba _ _ p1; have p2a := below_keeps hba _ _ p2; clear hba) | (go_at_call 76; refine (covers_any q p L (L.acc[j]) 0 _ HS.out HXj.out (by omega) (HBk1.out _ HBa.out) (HP.out.kept HBa.out.size (below_keeps HBa.out))).mono ?_; rintro e wb ⟨rfl, hbb⟩; have HBb : Hid _ := hide (below_trans HBa.out hbb); have p2b := below_keeps hbb _ _ p2a; clear hbb) | (go_at_call 77; refine (total_any q L _ _ HA.out HD.out (HBk1.out _ HBb.out)).mono ?_; rintro e wc ⟨rfl, hbc⟩; have HBc : Hid _ := hide (below_trans HBb.out hbc); clear hbc))
        go_ret
        exact ⟨by rw [HF.out]; rfl, below_trans HB1.out HBa.out⟩
end Go.Proofs.YteaopalhbnhbaaaGreatDoor
/- What the program asks of a ledger, and that it is what the model asks. -/
namespace Go.Proofs.YteaopalhbnhbaaaGreatDoor
open Go.ChangeShapes Go.WideShapes Go.ChangeAt Go.RowKit Go.Maps
set_option linter.unusedVariables false
set_option maxRecDepth 100000
theorem less_eq : ∀ (x y : List UInt8), Op.bytesLess x y = decide (x < y)
  | [], [] => rfl
  | [], _ :: _ => rfl
  | _ :: _, [] => rfl
  | a :: s, b :: t => by
    rw [Op.bytesLess, less_eq s t, Bool.eq_iff_iff]
    simp [List.cons_lt_cons_iff]
theorem rises_less {L : Led} (h : allTo (accI L) L.acc.length = true) : ∀ (d i : Nat) (hi : i + d + 1 < L.acc.length), L.acc[i].name.toList < L.acc[i + d + 1].name.toList := by
  intro d
  induction d with
  | zero =>
    intro i hi
    have h1 := allTo_get h hi
    rw [accI_at hi] at h1
    simp only [Bool.and_eq_true] at h1
    have h2 := h1.1.1.1.1
    rw [rises_name hi, less_eq] at h2
    exact of_decide_eq_true h2
  | succ d ih =>
    intro i hi
    have h1 := ih i (by omega)
    have h3 := allTo_get h hi
    rw [accI_at hi] at h3
    simp only [Bool.and_eq_true] at h3
    have h2 := h3.1.1.1.1
    rw [show i + (d + 1) + 1 = (i + d + 1) + 1 by omega, rises_name (by omega), less_eq] at h2
    exact List.lt_trans h1 (of_decide_eq_true h2)
theorem apart_of {L : Led} (h : allTo (accI L) L.acc.length = true) : Apart L.acc := fun i j hi hj hij e => by
  have h1 := rises_less h (j - i - 1) i (by omega)
  simp only [show i + (j - i - 1) + 1 = j by omega] at h1
  rw [e] at h1
  exact absurd h1 (List.lt_irrefl _)
theorem accI_parts {L : Led} (h : allTo (accI L) L.acc.length = true) : ∀ x ∈ L.acc, SmallX x := fun x hx => by
  obtain ⟨i, hi, rfl⟩ := List.getElem_of_mem hx
  have h1 := allTo_get h hi
  rw [accI_at hi] at h1
  simp only [Bool.and_eq_true] at h1
  exact ⟨inB_iff.1 h1.1.2, inB_iff.1 h1.2⟩
theorem smallA_acc {L : Led} (g : L.acc.length ≤ 12) (h : allTo (accI L) L.acc.length = true) : SmallA L.acc := ⟨g, fun x hx => (accI_parts h x hx).2⟩
theorem smallH_hld {L : Led} (g : L.hold.length ≤ 10) (h : allTo (hldI L) L.hold.length = true) : SmallH L.hold := ⟨g, fun x hx => by
  obtain ⟨i, hi, rfl⟩ := List.getElem_of_mem hx
  have h1 := allTo_get h hi
  rw [hldI_at hi] at h1
  simp only [Bool.and_eq_true] at h1
  have := inB_iff.1 h1.1.1.2
  omega⟩
/-- what the program asks -/
def ledI (L : Led) : Bool :=
  decide (L.acc.length ≤ 12) && decide (L.hold.length ≤ 10) && decide (L.seen.length ≤ 40) && allTo (accI L) L.acc.length && allTo (ansB L) L.seen.length && allTo (hldI L) L.hold.length && L.acc.all (balI L)
theorem allTo_iff {f : Nat → Bool} {n : Nat} : allTo f n = true ↔ ∀ k, k < n → f k = true := by
  constructor
  · exact fun h k hk => allTo_get h hk
  · intro h
    induction n with
    | zero => rfl
    | succ n ih => simp only [allTo, Bool.and_eq_true]; exact ⟨ih (fun k hk => h k (by omega)), h n (by omega)⟩
theorem pair_same {L : Led} {x : Hld} : pairB L x = (!sameB x.fr x.to && pairI L x.fr x.to && inB 1 1000000000000 x.amount) := by
  unfold pairB pairI
  cases h1 : idxA L.acc x.fr with
  | none => simp
  | some i =>
    cases h2 : idxA L.acc x.to with
    | none => simp
    | some j =>
      obtain ⟨hi, e1, _⟩ := idxA_lt h1
      obtain ⟨hj, e2, _⟩ := idxA_lt h2
      have : decide (i ≠ j) = !sameB x.fr x.to := by
        by_cases e : x.fr = x.to
        · have : i = j := by rw [e, h2] at h1; exact (Option.some.inj h1).symm
          rw [sameB_iff.2 e]; simp [this]
        · have hne : i ≠ j := fun e' => by subst e'; exact e (e1.symm.trans e2)
          have : sameB x.fr x.to = false := by rw [Bool.eq_false_iff]; exact fun h => e (sameB_iff.1 h)
          rw [this]; simp [hne]
      simp only [this, List.getElem?_eq_getElem hi, List.getElem?_eq_getElem hj]
theorem hold_same {L : Led} {k : Nat} : holdB L k = hldI L k := by
  unfold holdB hldI
  cases L.hold[k]? with
  | none => rfl
  | some x =>
    simp only [pair_same]
    cases inB 1 1000000000 x.id <;> cases risesB (L.hold.map Hld.id) k <;> cases inB 1 1000000000000 x.amount <;> cases sameB x.fr x.to <;> cases pairI L x.fr x.to <;> rfl
theorem within_same {x : Acc} {held : Int} (h : -1 ≤ x.limit) : withinB x held = (inB (-1000000000000) 1000000000000 x.posted && decide (held ≤ 1000000000000) && covB x held 0) := by
  unfold withinB covB
  have e1 : decide (x.limit < 0) = decide (x.limit = -1) := by
    by_cases e : x.limit = -1
    · simp [e]
    · have : ¬ x.limit < 0 := by omega
      simp [e, this]
  rw [e1, Int.sub_zero]
theorem led_same (L : Led) : ledI L = ledS L := by
  rw [Bool.eq_iff_iff]
  simp only [ledI, ledS, Bool.and_eq_true, allTo_iff, List.all_eq_true]
  constructor
  · rintro ⟨⟨⟨⟨⟨⟨g1, g2⟩, g3⟩, ha⟩, hs⟩, hh⟩, hb⟩
    refine ⟨⟨⟨⟨⟨⟨g1, g2⟩, g3⟩, fun k hk => ?_⟩, fun k hk => ?_⟩, fun k hk => ?_⟩, hs⟩
    · have h1 := ha k hk
      rw [accI_at hk] at h1
      simp only [Bool.and_eq_true] at h1
      rw [postB_at hk]
      exact h1.2
    · rw [hold_same]; exact hh k hk
    · have h1 := ha k hk
      rw [accI_at hk] at h1
      simp only [Bool.and_eq_true] at h1
      have h2 := hb _ (List.getElem_mem hk)
      unfold balI at h2
      simp only [Bool.and_eq_true] at h2
      rw [accB_at hk, within_same (inB_iff.1 h1.1.2).1]
      simp only [Bool.and_eq_true]
      exact ⟨⟨⟨⟨⟨h1.1.1.1.2, h1.1.1.2⟩, h1.1.2⟩, h1.1.1.1.1⟩, ⟨⟨h1.2, h2.1.1⟩, h2.1.2⟩⟩, h2.2⟩
  · rintro ⟨⟨⟨⟨⟨⟨g1, g2⟩, g3⟩, hp⟩, hh⟩, ha⟩, hs⟩
    have hparts : ∀ k (hk : k < L.acc.length), (nameB (L.acc[k]).name = true ∧ curB (L.acc[k]).cur = true ∧ inB (-1) 1000000000000 (L.acc[k]).limit = true ∧ nameRises L k = true) ∧ (inB (-1000000000000) 1000000000000 (L.acc[k]).posted = true ∧ decide (heldL (L.acc[k]).name L.hold ≤ 1000000000000) = true ∧ covB (L.acc[k]) (heldL (L.acc[k]).name L.hold) 0 = true) ∧ decide (totL (L.acc[k]).cur L.acc = 0) = true := fun k hk => by
      have h1 := ha k hk
      rw [accB_at hk] at h1
      simp only [Bool.and_eq_true] at h1
      rw [within_same (inB_iff.1 h1.1.1.1.2).1] at h1
      simp only [Bool.and_eq_true] at h1
      exact ⟨⟨h1.1.1.1.1.1, h1.1.1.1.1.2, h1.1.1.1.2, h1.1.1.2⟩, ⟨h1.1.2.1.1, h1.1.2.1.2, h1.1.2.2⟩, h1.2⟩
    refine ⟨⟨⟨⟨⟨⟨g1, g2⟩, g3⟩, fun k hk => ?_⟩, hs⟩, fun k hk => ?_⟩, fun x hx => ?_⟩
    · obtain ⟨⟨a1, a2, a3, a4⟩, ⟨b1, b2, b3⟩, c1⟩ := hparts k hk
      rw [accI_at hk, a1, a2, a3, a4, b1]; rfl
    · rw [← hold_same]; exact hh k hk
    · obtain ⟨i, hi, rfl⟩ := List.getElem_of_mem hx
      obtain ⟨⟨a1, a2, a3, a4⟩, ⟨b1, b2, b3⟩, c1⟩ := hparts i hi
      unfold balI
      rw [b2, b3, c1]; rfl
end Go.Proofs.YteaopalhbnhbaaaGreatDoor
