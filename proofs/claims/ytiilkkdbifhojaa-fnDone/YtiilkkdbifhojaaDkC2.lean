/- The contract of the program's placesOk. -/
import Derived.Test.YtiilkkdbifhojaaDkC1
namespace Go.Proofs.Ytiilkkdbifhojaa
open Go.ChangeShapes Go.WideShapes Go.ChangeAt Go.RowKit
set_option linter.unusedVariables false
set_option maxRecDepth 100000
theorem wrap_less {n : Nat} (h : n ≤ 1048576) : IntKind.i64.wrap ((n : Int) - 1) = (n : Int) - 1 := by simp only [IntKind.wrap, IntKind.signed, IntKind.bits]; simp; omega
theorem places_no {l : List Int} {many k : Nat} (hk : k < l.length) (h : plB l many k = false) : placesB l many = false := allTo_false hk h
set_option maxHeartbeats 4000000 in
theorem placesOk_any (a : Option Addr) (l : List Int) (cap many : Nat) (w : World) (hl : l.length ≤ 1048576) (hm : many ≤ 1048576) (h : RowAt 1 i64Cells w a l) :
    Calls Try.prog 27 #[.slice a l.length cap, .int .i64 (many : Int)] w fun e w' => e = .returned (.bool (placesB l many)) ∧ w' = w := by
  have HC : Hid _ := hide h
  clear h
  have hw1 := wrap_less hm
  go_enter Try.func27, Try.ntmps27
  go_wp2
  go_loopw [9] (fun i wr => ∃ k : Nat, k ≤ l.length ∧ i = .int .i64 (k : Int) ∧ wr = w ∧ Hid (allTo (plB l many) k = true)) (fun i wr => l.length - (intOf i).toNat)
  case atStart => exact ⟨0, Nat.zero_le _, rfl, rfl, hide rfl⟩
  case round =>
    obtain ⟨k, hk, rfl, hwr, HG⟩ := hrel
    rw [hwr]
    clear hwr
    by_cases hlt : k < l.length
    · have hlt' : (k : Int) < (l.length : Int) := by omega
      obtain ⟨b, off, rfl, hb, c0⟩ := pl_row HC.out k hlt
      by_cases hz : k = 0
      · have hz' : ¬ (0 : Int) < (k : Int) := by omega
        cases q : inB 0 ((many : Int) - 1) l[k]
        · have HR : Hid (placesB l many = false) := hide (places_no hlt (by subst hz; rw [pl_zero hlt]; exact q))
          clear hz
          go_wp2_with (first | (go_at_call 51; refine (within_any _ _ _ _).mono ?_; rintro e w' ⟨rfl, hw'⟩; rw [hw']; clear hw' w') | fail)
          go_ret
          exact ⟨by rw [HR.out]; rfl, rfl⟩
        · have HG2 : Hid (allTo (plB l many) (k + 1) = true) := hide (allTo_step HG.out (by subst hz; rw [pl_zero hlt]; exact q))
          clear hz
          go_wp2_with (first | (go_at_call 51; refine (within_any _ _ _ _).mono ?_; rintro e w' ⟨rfl, hw'⟩; rw [hw']; clear hw' w') | fail)
          exact ⟨⟨k + 1, by omega, by go_num, trivial, HG2⟩, by simp [intOf]; omega⟩
      · obtain ⟨m, hmk⟩ : ∃ m, k = m + 1 := ⟨k - 1, by omega⟩
        have hm3 : m < l.length := by omega
        obtain ⟨b', off', heq, hb', p0⟩ := pl_row HC.out m hm3
        simp only [Option.some.injEq, Addr.mk.injEq, and_true] at heq
        obtain ⟨rfl, rfl⟩ := heq
        have hz' : (0 : Int) < (k : Int) := by omega
        have hm1 : IntKind.i64.wrap ((k : Int) - 1) = (m : Int) := wrap_pred hmk (by omega)
        have hm2 : (m : Int) < (l.length : Int) := by omega
        have hpl : plB l many k = (inB 0 ((many : Int) - 1) l[k] && decide (l[m] < l[k])) := by subst hmk; exact pl_succ hlt
        by_cases q2 : l[m] < l[k]
        · have q3 : ¬ l[k] ≤ l[m] := by omega
          cases q : inB 0 ((many : Int) - 1) l[k]
          · have HR : Hid (placesB l many = false) := hide (places_no hlt (by rw [hpl, q]; rfl))
            clear hz hmk hpl
            go_wp2_with (first | (go_at_call 51; refine (within_any _ _ _ _).mono ?_; rintro e w' ⟨rfl, hw'⟩; rw [hw']; clear hw' w') | fail)
            go_ret
            exact ⟨by rw [HR.out]; rfl, rfl⟩
          · have HG2 : Hid (allTo (plB l many) (k + 1) = true) := hide (allTo_step HG.out (by rw [hpl, q, decide_eq_true q2]; rfl))
            clear hz hmk hpl
            go_wp2_with (first | (go_at_call 51; refine (within_any _ _ _ _).mono ?_; rintro e w' ⟨rfl, hw'⟩; rw [hw']; clear hw' w') | fail)
            exact ⟨⟨k + 1, by omega, by go_num, trivial, HG2⟩, by simp [intOf]; omega⟩
        · have q3 : l[k] ≤ l[m] := by omega
          have HR : Hid (placesB l many = false) := hide (places_no hlt (by rw [hpl, decide_eq_false q2, Bool.and_false]))
          clear hz hmk hpl
          go_wp2_with fail
          go_ret
          exact ⟨by rw [HR.out]; rfl, rfl⟩
    · have hk' : ¬ (k : Int) < (l.length : Int) := by omega
      have HR : Hid (placesB l many = true) := hide (by
        have h1 := HG.out
        rw [show k = l.length by omega] at h1
        exact h1)
      go_wp2
      go_ret
      exact ⟨by rw [HR.out]; rfl, rfl⟩
end Go.Proofs.Ytiilkkdbifhojaa
