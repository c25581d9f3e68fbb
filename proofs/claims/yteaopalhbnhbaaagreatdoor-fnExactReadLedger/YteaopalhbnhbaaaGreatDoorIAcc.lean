/- The contract of the program's accountsOk. -/
import Derived.Test.YteaopalhbnhbaaaGreatDoorSOk
namespace Go.Proofs.YteaopalhbnhbaaaGreatDoor
open Go.ChangeShapes Go.WideShapes Go.ChangeAt Go.RowKit
set_option linter.unusedVariables false
set_option maxRecDepth 100000
/-- what the program asks of an account by itself -/
def accI (L : Led) (k : Nat) : Bool := match L.acc[k]? with
  | none => true
  | some x => nameRises L k && nameB x.name && curB x.cur && inB (-1) 1000000000000 x.limit && inB (-1000000000000) 1000000000000 x.posted
theorem accI_at {L : Led} {k : Nat} (h : k < L.acc.length) : accI L k = (nameRises L k && nameB (L.acc[k]).name && curB (L.acc[k]).cur && inB (-1) 1000000000000 (L.acc[k]).limit && inB (-1000000000000) 1000000000000 (L.acc[k]).posted) := by
  simp [accI, List.getElem?_eq_getElem h]
set_option maxHeartbeats 4000000 in
theorem accountsOk_any (a : Option Addr) (L : Led) (cap : Nat) (w : World) (hl : L.acc.length ≤ 12) (h : AccAt w a L.acc) :
    Calls Tryz.prog 27 #[.slice a L.acc.length cap] w fun e w' => e = .returned (.bool (allTo (accI L) L.acc.length)) ∧ Below w.heap.size w w' := by
  have HL : Hid _ := hide h
  clear h
  go_enter Tryz.func27, Tryz.ntmps27
  go_wp2
  go_loopw [7] (fun i wr => ∃ k : Nat, k ≤ L.acc.length ∧ i = .int .i64 (k : Int) ∧ Below w.heap.size w wr ∧ Hid (allTo (accI L) k = true)) (fun i wr => L.acc.length - (intOf i).toNat)
  case atStart => exact ⟨0, Nat.zero_le _, rfl, Below.refl _ _, hide rfl⟩
  case round =>
    obtain ⟨k, hk, rfl, HB, HS⟩ := hrel
    by_cases hlt : k < L.acc.length
    · obtain ⟨b, off, rfl, hb, c0, c1, c2, c3, s1, s2, _, _⟩ := (HL.out.below HB) k hlt
      have hlt' : (k : Int) < (L.acc.length : Int) := by omega
      by_cases hz : k = 0
      · have hri : Hid (nameRises L k = true) := hide (by rw [hz]; rfl)
        have hz' : decide ((0 : Int) < (k : Int)) = false := by simp; omega
        have hz'' : decide (0 < k) = false := by simp; omega
        clear hz
        cases q1 : nameB (L.acc[k]).name
        · have HR : Hid (allTo (accI L) L.acc.length = false) := hide (by rw [allTo_false hlt (by rw [accI_at hlt, hri.out, q1]; simp)])
          go_wp2_with (fail)
          go_quiet (fail)
          go_wp2_with (first | (go_at_call 68; refine (implNameOk_any _ _ s1).mono ?_; rintro e w' ⟨rfl, rfl⟩) | (go_at_call 69; refine (implCurOk_any _ _ s2).mono ?_; rintro e w' ⟨rfl, rfl⟩) | (go_at_call 70; refine (within_any _ _ _ _).mono ?_; rintro e w' ⟨rfl, rfl⟩))
          go_ret
          exact ⟨by rw [HR.out]; rfl, below_drewN (below_alloc HB _) _⟩
        ·
          cases q2 : curB (L.acc[k]).cur
          · have HR : Hid (allTo (accI L) L.acc.length = false) := hide (by rw [allTo_false hlt (by rw [accI_at hlt, hri.out, q1, q2]; simp)])
            go_wp2_with (fail)
            go_quiet (fail)
            go_wp2_with (first | (go_at_call 68; refine (implNameOk_any _ _ s1).mono ?_; rintro e w' ⟨rfl, rfl⟩) | (go_at_call 69; refine (implCurOk_any _ _ s2).mono ?_; rintro e w' ⟨rfl, rfl⟩) | (go_at_call 70; refine (within_any _ _ _ _).mono ?_; rintro e w' ⟨rfl, rfl⟩))
            go_ret
            exact ⟨by rw [HR.out]; rfl, below_drewN (below_alloc HB _) _⟩
          ·
            cases q3 : inB (-1) 1000000000000 (L.acc[k]).limit
            · have HR : Hid (allTo (accI L) L.acc.length = false) := hide (by rw [allTo_false hlt (by rw [accI_at hlt, hri.out, q1, q2, q3]; simp)])
              go_wp2_with (fail)
              go_quiet (fail)
              go_wp2_with (first | (go_at_call 68; refine (implNameOk_any _ _ s1).mono ?_; rintro e w' ⟨rfl, rfl⟩) | (go_at_call 69; refine (implCurOk_any _ _ s2).mono ?_; rintro e w' ⟨rfl, rfl⟩) | (go_at_call 70; refine (within_any _ _ _ _).mono ?_; rintro e w' ⟨rfl, rfl⟩))
              go_ret
              exact ⟨by rw [HR.out]; rfl, below_drewN (below_alloc HB _) _⟩
            ·
              cases q4 : inB (-1000000000000) 1000000000000 (L.acc[k]).posted
              · have HR : Hid (allTo (accI L) L.acc.length = false) := hide (by rw [allTo_false hlt (by rw [accI_at hlt, hri.out, q1, q2, q3, q4]; simp)])
                go_wp2_with (fail)
                go_quiet (fail)
                go_wp2_with (first | (go_at_call 68; refine (implNameOk_any _ _ s1).mono ?_; rintro e w' ⟨rfl, rfl⟩) | (go_at_call 69; refine (implCurOk_any _ _ s2).mono ?_; rintro e w' ⟨rfl, rfl⟩) | (go_at_call 70; refine (within_any _ _ _ _).mono ?_; rintro e w' ⟨rfl, rfl⟩))
                go_ret
                exact ⟨by rw [HR.out]; rfl, below_drewN (below_alloc HB _) _⟩
              ·
                have HS2 : Hid (allTo (accI L) (k + 1) = true) := hide (allTo_step HS.out (by rw [accI_at hlt, hri.out, q1, q2, q3, q4]; rfl))
                go_wp2_with (fail)
                go_quiet (fail)
                go_wp2_with (first | (go_at_call 68; refine (implNameOk_any _ _ s1).mono ?_; rintro e w' ⟨rfl, rfl⟩) | (go_at_call 69; refine (implCurOk_any _ _ s2).mono ?_; rintro e w' ⟨rfl, rfl⟩) | (go_at_call 70; refine (within_any _ _ _ _).mono ?_; rintro e w' ⟨rfl, rfl⟩))
                exact ⟨⟨_, by omega, by go_num, below_drewN (below_alloc HB _) _, HS2⟩, by simp [intOf]; omega⟩
      · obtain ⟨m, hm⟩ : ∃ m, k = m + 1 := ⟨k - 1, by omega⟩
        have hm3 : m < L.acc.length := by omega
        obtain ⟨b', off', heq, _, p0, _, _, _, _⟩ := (HL.out.below HB) m hm3
        simp only [Option.some.injEq, Addr.mk.injEq, and_true] at heq
        obtain ⟨rfl, rfl⟩ := heq
        have hz' : (0 : Int) < (k : Int) := by omega
        have hm1 : IntKind.i64.wrap ((k : Int) - 1) = (m : Int) := by rw [show (k : Int) - 1 = (m : Int) by omega]; simp only [IntKind.wrap, IntKind.signed, IntKind.bits]; simp; omega
        have hm2 : (m : Int) < (L.acc.length : Int) := by omega
        have hz'' : 0 < k := by omega
        have hrs : nameRises L k = Op.bytesLess (L.acc[m]).name.toList (L.acc[k]).name.toList := by subst hm; exact rises_name hlt
        cases q0 : Op.bytesLess (L.acc[m]).name.toList (L.acc[k]).name.toList
        · have HR : Hid (allTo (accI L) L.acc.length = false) := hide (by rw [allTo_false hlt (by rw [accI_at hlt, hrs, q0]; simp)])
          clear hrs hm hz
          go_wp2_with (fail)
          go_quiet (fail)
          go_wp2_with (first | (go_at_call 68; refine (implNameOk_any _ _ s1).mono ?_; rintro e w' ⟨rfl, rfl⟩) | (go_at_call 69; refine (implCurOk_any _ _ s2).mono ?_; rintro e w' ⟨rfl, rfl⟩) | (go_at_call 70; refine (within_any _ _ _ _).mono ?_; rintro e w' ⟨rfl, rfl⟩))
          go_ret
          exact ⟨by rw [HR.out]; rfl, below_drewN (below_alloc HB _) _⟩
        · have hri : Hid (nameRises L k = true) := hide (by rw [hrs, q0])
          clear hrs hm hz
          cases q1 : nameB (L.acc[k]).name
          · have HR : Hid (allTo (accI L) L.acc.length = false) := hide (by rw [allTo_false hlt (by rw [accI_at hlt, hri.out, q1]; simp)])
            go_wp2_with (fail)
            go_quiet (fail)
            go_wp2_with (first | (go_at_call 68; refine (implNameOk_any _ _ s1).mono ?_; rintro e w' ⟨rfl, rfl⟩) | (go_at_call 69; refine (implCurOk_any _ _ s2).mono ?_; rintro e w' ⟨rfl, rfl⟩) | (go_at_call 70; refine (within_any _ _ _ _).mono ?_; rintro e w' ⟨rfl, rfl⟩))
            go_ret
            exact ⟨by rw [HR.out]; rfl, below_drewN (below_alloc HB _) _⟩
          ·
            cases q2 : curB (L.acc[k]).cur
            · have HR : Hid (allTo (accI L) L.acc.length = false) := hide (by rw [allTo_false hlt (by rw [accI_at hlt, hri.out, q1, q2]; simp)])
              go_wp2_with (fail)
              go_quiet (fail)
              go_wp2_with (first | (go_at_call 68; refine (implNameOk_any _ _ s1).mono ?_; rintro e w' ⟨rfl, rfl⟩) | (go_at_call 69; refine (implCurOk_any _ _ s2).mono ?_; rintro e w' ⟨rfl, rfl⟩) | (go_at_call 70; refine (within_any _ _ _ _).mono ?_; rintro e w' ⟨rfl, rfl⟩))
              go_ret
              exact ⟨by rw [HR.out]; rfl, below_drewN (below_alloc HB _) _⟩
            ·
              cases q3 : inB (-1) 1000000000000 (L.acc[k]).limit
              · have HR : Hid (allTo (accI L) L.acc.length = false) := hide (by rw [allTo_false hlt (by rw [accI_at hlt, hri.out, q1, q2, q3]; simp)])
                go_wp2_with (fail)
                go_quiet (fail)
                go_wp2_with (first | (go_at_call 68; refine (implNameOk_any _ _ s1).mono ?_; rintro e w' ⟨rfl, rfl⟩) | (go_at_call 69; refine (implCurOk_any _ _ s2).mono ?_; rintro e w' ⟨rfl, rfl⟩) | (go_at_call 70; refine (within_any _ _ _ _).mono ?_; rintro e w' ⟨rfl, rfl⟩))
                go_ret
                exact ⟨by rw [HR.out]; rfl, below_drewN (below_alloc HB _) _⟩
              ·
                cases q4 : inB (-1000000000000) 1000000000000 (L.acc[k]).posted
                · have HR : Hid (allTo (accI L) L.acc.length = false) := hide (by rw [allTo_false hlt (by rw [accI_at hlt, hri.out, q1, q2, q3, q4]; simp)])
                  go_wp2_with (fail)
                  go_quiet (fail)
                  go_wp2_with (first | (go_at_call 68; refine (implNameOk_any _ _ s1).mono ?_; rintro e w' ⟨rfl, rfl⟩) | (go_at_call 69; refine (implCurOk_any _ _ s2).mono ?_; rintro e w' ⟨rfl, rfl⟩) | (go_at_call 70; refine (within_any _ _ _ _).mono ?_; rintro e w' ⟨rfl, rfl⟩))
                  go_ret
                  exact ⟨by rw [HR.out]; rfl, below_drewN (below_alloc HB _) _⟩
                ·
                  have HS2 : Hid (allTo (accI L) (k + 1) = true) := hide (allTo_step HS.out (by rw [accI_at hlt, hri.out, q1, q2, q3, q4]; rfl))
                  go_wp2_with (fail)
                  go_quiet (fail)
                  go_wp2_with (first | (go_at_call 68; refine (implNameOk_any _ _ s1).mono ?_; rintro e w' ⟨rfl, rfl⟩) | (go_at_call 69; refine (implCurOk_any _ _ s2).mono ?_; rintro e w' ⟨rfl, rfl⟩) | (go_at_call 70; refine (within_any _ _ _ _).mono ?_; rintro e w' ⟨rfl, rfl⟩))
                  exact ⟨⟨_, by omega, by go_num, below_drewN (below_alloc HB _) _, HS2⟩, by simp [intOf]; omega⟩
    · have hk' : ¬ (k : Int) < (L.acc.length : Int) := by omega
      have HR : Hid (allTo (accI L) L.acc.length = true) := hide (by
        have hs := HS.out
        rw [show k = L.acc.length by omega] at hs
        exact hs)
      go_wp2
      go_ret
      exact ⟨by rw [HR.out]; rfl, HB⟩
end Go.Proofs.YteaopalhbnhbaaaGreatDoor
