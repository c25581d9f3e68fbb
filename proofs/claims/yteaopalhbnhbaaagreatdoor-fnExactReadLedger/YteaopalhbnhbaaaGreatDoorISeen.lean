/- The contracts of the program's seenOk and accountsOk. -/
import Derived.Test.YteaopalhbnhbaaaGreatDoorSOk
namespace Go.Proofs.YteaopalhbnhbaaaGreatDoor
open Go.ChangeShapes Go.WideShapes Go.ChangeAt Go.RowKit
set_option linter.unusedVariables false
set_option maxRecDepth 100000
def ledB (c : Int) : Bool := decide (c = 0) || inB 4 9 c
theorem ansB_led {L : Led} {k : Nat} (h : k < L.seen.length) : ansB L k = (inB 1 1000000000 (L.seen[k]).id && risesB (L.seen.map Sn.id) k && ledB (L.seen[k]).code) := ansB_at h
set_option maxHeartbeats 1000000 in
theorem ledgerCode_any (c : Int) (w : World) :
    Calls Tryz.prog 29 #[.int .i64 c] w fun e w' => e = .returned (.bool (ledB c)) ∧ w' = w := by
  cases q0 : (c == 0)
  · have HR : Hid (ledB c = inB 4 9 c) := hide (by unfold ledB; rw [decide_eq_false (by simpa using q0)]; rfl)
    go_enter Tryz.func29, Tryz.ntmps29
    go_wp2_with (first | (go_at_call 70; refine (within_any _ _ _ _).mono ?_; rintro e w' ⟨rfl, rfl⟩))
    go_ret
    exact ⟨by rw [HR.out]; rfl, rfl⟩
  · have HR : Hid (ledB c = true) := hide (by unfold ledB; rw [decide_eq_true (by simpa using q0)]; rfl)
    go_enter Tryz.func29, Tryz.ntmps29
    go_wp2_with (first | (go_at_call 70; refine (within_any _ _ _ _).mono ?_; rintro e w' ⟨rfl, rfl⟩))
    go_ret
    exact ⟨by rw [HR.out]; rfl, rfl⟩
set_option maxHeartbeats 2000000 in
theorem seenOk_any (a : Option Addr) (L : Led) (cap : Nat) (w : World) (hl : L.seen.length ≤ 40) (h : AnsAt w a L.seen) :
    Calls Tryz.prog 28 #[.slice a L.seen.length cap, .func (.func 29) #[] #[]] w fun e w' => e = .returned (.bool (allTo (ansB L) L.seen.length)) ∧ Below w.heap.size w w' := by
  have HL : Hid _ := hide h
  clear h
  go_enter Tryz.func28, Tryz.ntmps28
  go_wp2
  go_loopw [9] (fun i wr => ∃ k : Nat, k ≤ L.seen.length ∧ i = .int .i64 (k : Int) ∧ Below w.heap.size w wr ∧ Hid (allTo (ansB L) k = true)) (fun i wr => L.seen.length - (intOf i).toNat)
  case atStart => exact ⟨0, Nat.zero_le _, rfl, Below.refl _ _, hide rfl⟩
  case round =>
    obtain ⟨k, hk, rfl, HB, HS⟩ := hrel
    by_cases hlt : k < L.seen.length
    · obtain ⟨b, off, rfl, hb, c0, c1, _, _⟩ := (HL.out.below HB) k hlt
      have hlt' : (k : Int) < (L.seen.length : Int) := by omega
      by_cases hz : k = 0
      · have hri : Hid (risesB (L.seen.map Sn.id) k = true) := hide (by rw [hz]; rfl)
        have hz' : decide ((0 : Int) < (k : Int)) = false := by simp; omega
        have hz'' : decide (0 < k) = false := by simp; omega
        clear hz
        cases q1 : inB 1 1000000000 (L.seen[k]).id
        · have HR : Hid (allTo (ansB L) L.seen.length = false) := hide (by rw [allTo_false hlt (by rw [ansB_at hlt, q1]; rfl)])
          go_wp2_with (fail)
          go_quiet (fail)
          go_wp2_with (first | (go_at_call 71; refine (numberOk_any _ _).mono ?_; rintro e w' ⟨rfl, rfl⟩) | (go_at_call 29; refine (ledgerCode_any _ _).mono ?_; rintro e w' ⟨rfl, rfl⟩))
          go_ret
          exact ⟨by rw [HR.out]; rfl, below_drewN (below_alloc HB _) _⟩
        · cases q3 : ledB (L.seen[k]).code
          · have HR : Hid (allTo (ansB L) L.seen.length = false) := hide (by rw [allTo_false hlt (by rw [ansB_led hlt, q1, hri.out, q3]; rfl)])
            go_wp2_with (fail)
            go_quiet (fail)
            go_wp2_with (first | (go_at_call 71; refine (numberOk_any _ _).mono ?_; rintro e w' ⟨rfl, rfl⟩) | (go_at_call 29; refine (ledgerCode_any _ _).mono ?_; rintro e w' ⟨rfl, rfl⟩))
            go_ret
            exact ⟨by rw [HR.out]; rfl, below_drewN (below_alloc HB _) _⟩
          · have HS2 : Hid (allTo (ansB L) (k + 1) = true) := hide (allTo_step HS.out (by rw [ansB_led hlt, q1, hri.out, q3]; rfl))
            go_wp2_with (fail)
            go_quiet (fail)
            go_wp2_with (first | (go_at_call 71; refine (numberOk_any _ _).mono ?_; rintro e w' ⟨rfl, rfl⟩) | (go_at_call 29; refine (ledgerCode_any _ _).mono ?_; rintro e w' ⟨rfl, rfl⟩))
            exact ⟨⟨_, by omega, by go_num, below_drewN (below_alloc HB _) _, HS2⟩, by simp [intOf]; omega⟩
      · obtain ⟨m, hm⟩ : ∃ m, k = m + 1 := ⟨k - 1, by omega⟩
        have hm3 : m < L.seen.length := by omega
        obtain ⟨b', off', heq, _, p0, _, _, _⟩ := (HL.out.below HB) m hm3
        simp only [Option.some.injEq, Addr.mk.injEq, and_true] at heq
        obtain ⟨rfl, rfl⟩ := heq
        have hz' : (0 : Int) < (k : Int) := by omega
        have hm1 : IntKind.i64.wrap ((k : Int) - 1) = (m : Int) := by rw [show (k : Int) - 1 = (m : Int) by omega]; simp only [IntKind.wrap, IntKind.signed, IntKind.bits]; simp; omega
        have hm2 : (m : Int) < (L.seen.length : Int) := by omega
        have hz'' : 0 < k := by omega
        have hrs : risesB (L.seen.map Sn.id) k = decide ((L.seen[m]).id < (L.seen[k]).id) := by subst hm; exact rises_ans hlt
        by_cases q2 : (L.seen[m]).id < (L.seen[k]).id
        · have hri : Hid (risesB (L.seen.map Sn.id) k = true) := hide (by rw [hrs]; simpa using q2)
          have q2' : decide ((L.seen[k]).id ≤ (L.seen[m]).id) = false := by simp; omega
          clear hrs hm hz
          cases q1 : inB 1 1000000000 (L.seen[k]).id
          · have HR : Hid (allTo (ansB L) L.seen.length = false) := hide (by rw [allTo_false hlt (by rw [ansB_at hlt, q1]; rfl)])
            go_wp2_with (fail)
            go_quiet (fail)
            go_wp2_with (first | (go_at_call 71; refine (numberOk_any _ _).mono ?_; rintro e w' ⟨rfl, rfl⟩) | (go_at_call 29; refine (ledgerCode_any _ _).mono ?_; rintro e w' ⟨rfl, rfl⟩))
            go_ret
            exact ⟨by rw [HR.out]; rfl, below_drewN (below_alloc HB _) _⟩
          · cases q3 : ledB (L.seen[k]).code
            · have HR : Hid (allTo (ansB L) L.seen.length = false) := hide (by rw [allTo_false hlt (by rw [ansB_led hlt, q1, hri.out, q3]; rfl)])
              go_wp2_with (fail)
              go_quiet (fail)
              go_wp2_with (first | (go_at_call 71; refine (numberOk_any _ _).mono ?_; rintro e w' ⟨rfl, rfl⟩) | (go_at_call 29; refine (ledgerCode_any _ _).mono ?_; rintro e w' ⟨rfl, rfl⟩))
              go_ret
              exact ⟨by rw [HR.out]; rfl, below_drewN (below_alloc HB _) _⟩
            · have HS2 : Hid (allTo (ansB L) (k + 1) = true) := hide (allTo_step HS.out (by rw [ansB_led hlt, q1, hri.out, q3]; rfl))
              go_wp2_with (fail)
              go_quiet (fail)
              go_wp2_with (first | (go_at_call 71; refine (numberOk_any _ _).mono ?_; rintro e w' ⟨rfl, rfl⟩) | (go_at_call 29; refine (ledgerCode_any _ _).mono ?_; rintro e w' ⟨rfl, rfl⟩))
              exact ⟨⟨_, by omega, by go_num, below_drewN (below_alloc HB _) _, HS2⟩, by simp [intOf]; omega⟩
        · have q2' : (L.seen[k]).id ≤ (L.seen[m]).id := by omega
          have HR : Hid (allTo (ansB L) L.seen.length = false) := hide (by rw [allTo_false hlt (by rw [ansB_at hlt, hrs, decide_eq_false q2]; simp)])
          clear hrs hm hz
          go_wp2_with (fail)
          go_quiet (fail)
          go_wp2
          go_ret
          exact ⟨by rw [HR.out]; rfl, below_drewN (below_alloc HB _) _⟩
    · have hk' : ¬ (k : Int) < (L.seen.length : Int) := by omega
      have HR : Hid (allTo (ansB L) L.seen.length = true) := hide (by
        have hs := HS.out
        rw [show k = L.seen.length by omega] at hs
        exact hs)
      go_wp2
      go_ret
      exact ⟨by rw [HR.out]; rfl, HB⟩
end Go.Proofs.YteaopalhbnhbaaaGreatDoor
