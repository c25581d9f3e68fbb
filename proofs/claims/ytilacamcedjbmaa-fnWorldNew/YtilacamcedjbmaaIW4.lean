/- The contract of the program's WorldOk. -/
import Derived.Test.YtilacamcedjbmaaIW3
namespace Go.Proofs.Ytilacamcedjbmaa
open Go.ChangeShapes Go.WideShapes Go.ChangeAt Go.RowKit
set_option linter.unusedVariables false
set_option maxRecDepth 100000
theorem later_val {P : Program} {f : FuncId} {args : Array Value} {W : World} {x : Later W} {b b' : Bool} (e : b = b') (h : Calls P f args x.w fun e w'' => e = .returned (.bool b) ∧ ∃ y : Later W, w'' = y.w) : Calls P f args x.w fun e w'' => e = .returned (.bool b') ∧ ∃ y : Later W, w'' = y.w := by rw [← e]; exact h

set_option maxHeartbeats 8000000 in
theorem implWorldOk_any (st : Int) (na : Option Addr) (l : List Nd) (nc : Nat) (ma : Option Addr) (ms : List Mg) (mc : Nat) (w : World) (hl : l.length ≤ 1048576) (hms : ms.length ≤ 1048576) (hsm : ∀ n ∈ l, SmN n) (h : NodesAt w na l) (hm : RowAt 5 mgCells w ma ms) :
    Calls Try.prog 18 #[.agg #[.int .i64 st, .slice na l.length nc, .slice ma ms.length mc]] w fun e w' => e = .returned (.bool (worldB ⟨st, l.map Nd.d, ms⟩)) ∧ Below w.heap.size w w' := by
  have HL : Hid _ := hide h
  have HM : Hid _ := hide hm
  have HSm : Hid _ := hide hsm
  clear h hm hsm
  have HB0 : Hid (Below w.heap.size w (w.alloc (.cells #[.int .i64 st, .slice na l.length nc, .slice ma ms.length mc] 29))) := hide (below_alloc (Below.refl _ _) _)
  cases q1 : inB 0 1000000000000 st
  · have HR : Hid (worldB (⟨st, l.map Nd.d, ms⟩ : WdD) = false) := hide (by simp [worldB, q1])
    go_enter Try.func18, Try.ntmps18
    go_wp2_with (first | (go_at_call 24; refine (within_any _ _ _ _).mono ?_; rintro e w' ⟨rfl, hw'⟩; have hw'' := hw'.symm; subst hw''))
    go_ret
    exact ⟨by rw [HR.out]; rfl, HB0.out⟩
  · cases q2 : inB 1 8 (l.length : Int)
    · have HR : Hid (worldB (⟨st, l.map Nd.d, ms⟩ : WdD) = false) := hide (by
        have e : ¬ (1 ≤ (l.length : Int) ∧ (l.length : Int) ≤ 8) := by simpa only [inB, decide_eq_false_iff_not] using q2
        by_cases e1 : 1 ≤ l.length
        · have e2 : ¬ l.length ≤ 8 := by omega
          simp [worldB, e2]
        · simp [worldB, e1])
      go_enter Try.func18, Try.ntmps18
      go_wp2_with (first | (go_at_call 24; refine (within_any _ _ _ _).mono ?_; rintro e w' ⟨rfl, hw'⟩; have hw'' := hw'.symm; subst hw''))
      go_ret
      exact ⟨by rw [HR.out]; rfl, HB0.out⟩
    · have hq2 : 1 ≤ (l.length : Int) ∧ (l.length : Int) ≤ 8 := by simpa only [inB, decide_eq_true_eq] using q2
      have l1 : 1 ≤ l.length := by omega
      have l8 : l.length ≤ 8 := by omega
      have hst : 0 ≤ st ∧ st ≤ 1000000000000 := by simpa only [inB, decide_eq_true_eq] using q1
      by_cases g3 : ms.length ≤ 150
      · have a3 : ¬ (150 : Int) < (ms.length : Int) := by omega
        have HN : Hid (worldB (⟨st, l.map Nd.d, ms⟩ : WdD) = (allTo (ndB (l.map Nd.d)) l.length && allTo (lnksB (l.map Nd.d)) l.length && allTo (netB (l.map Nd.d) ms) ms.length && (st + misS (l.map Nd.d) == flyS (l.map Nd.d) (l.map Nd.d)))) := hide (by simp [worldB, q1, l1, l8, g3])
        have hne : Nonempty (Later (w.alloc (.cells #[.int .i64 st, .slice na l.length nc, .slice ma ms.length mc] 29))) := later_there _
        have x0' := later_newN (wr := w) (cur := #[.int .i64 st, .slice na l.length nc, .slice ma ms.length mc]) (T := 29) 0 _ rfl
        have x1' := later_newN (wr := w) (cur := #[.int .i64 st, .slice na l.length nc, .slice ma ms.length mc]) (T := 29) 1 _ rfl
        have x2' := later_newN (wr := w) (cur := #[.int .i64 st, .slice na l.length nc, .slice ma ms.length mc]) (T := 29) 2 _ rfl
        have HST : Hid _ := hide hst
        clear hst hq2
        cases r1 : allTo (ndB (l.map Nd.d)) l.length
        · skip
          have HR : Hid (worldB (⟨st, l.map Nd.d, ms⟩ : WdD) = false) := hide (by rw [HN.out, r1]; rfl)
          go_enter Try.func18, Try.ntmps18
          go_wp2_with (first | (go_at_call 24; refine (within_any _ _ _ _).mono ?_; rintro e w' ⟨rfl, hw'⟩; have hw'' := hw'.symm; subst hw'') | fail)
          refine wp_region_later (w.alloc (.cells #[.int .i64 st, .slice na l.length nc, .slice ma ms.length mc] 29)) (by kernel_rfl) (by kernel_rfl) ((Below.refl _ _).drew) ?_
          repeat (go_big_quiet_step (first | (go_at_call 29; exact later_val r1 (later_of (nodesOk_any na l nc _ l8 HSm.out (HL.out.below (below_trans HB0.out (Later.below _))))))))
          refine wpQuiet_nil ?_
          intro _ hw'
          obtain ⟨nx, rfl⟩ := hw'
          go_wp2
          go_ret
          exact ⟨by rw [HR.out]; rfl, below_trans HB0.out nx.below⟩
        · have HOK : Hid (NdsOk l) := hide (ndsOk_of r1)
          cases r2 : allTo (lnksB (l.map Nd.d)) l.length
          · skip
            have HR : Hid (worldB (⟨st, l.map Nd.d, ms⟩ : WdD) = false) := hide (by rw [HN.out, r1, r2]; rfl)
            go_enter Try.func18, Try.ntmps18
            go_wp2_with (first | (go_at_call 24; refine (within_any _ _ _ _).mono ?_; rintro e w' ⟨rfl, hw'⟩; have hw'' := hw'.symm; subst hw'') | fail)
            refine wp_region_later (w.alloc (.cells #[.int .i64 st, .slice na l.length nc, .slice ma ms.length mc] 29)) (by kernel_rfl) (by kernel_rfl) ((Below.refl _ _).drew) ?_
            repeat (go_big_quiet_step (first | (go_at_call 29; exact later_val r1 (later_of (nodesOk_any na l nc _ l8 HSm.out (HL.out.below (below_trans HB0.out (Later.below _)))))) | (go_at_call 30; exact later_val r2 (later_of (linksOk_any na l nc _ l8 HOK.out (HL.out.below (below_trans HB0.out (Later.below _))))))))
            refine wpQuiet_nil ?_
            intro _ hw'
            obtain ⟨nx, rfl⟩ := hw'
            go_wp2
            go_ret
            exact ⟨by rw [HR.out]; rfl, below_trans HB0.out nx.below⟩
          · have HLN : Hid _ := hide r2
            cases r3 : allTo (netB (l.map Nd.d) ms) ms.length
            · skip
              have HR : Hid (worldB (⟨st, l.map Nd.d, ms⟩ : WdD) = false) := hide (by rw [HN.out, r1, r2, r3]; rfl)
              go_enter Try.func18, Try.ntmps18
              go_wp2_with (first | (go_at_call 24; refine (within_any _ _ _ _).mono ?_; rintro e w' ⟨rfl, hw'⟩; have hw'' := hw'.symm; subst hw'') | fail)
              refine wp_region_later (w.alloc (.cells #[.int .i64 st, .slice na l.length nc, .slice ma ms.length mc] 29)) (by kernel_rfl) (by kernel_rfl) ((Below.refl _ _).drew) ?_
              repeat (go_big_quiet_step (first | (go_at_call 29; exact later_val r1 (later_of (nodesOk_any na l nc _ l8 HSm.out (HL.out.below (below_trans HB0.out (Later.below _)))))) | (go_at_call 30; exact later_val r2 (later_of (linksOk_any na l nc _ l8 HOK.out (HL.out.below (below_trans HB0.out (Later.below _)))))) | (go_at_call 31; exact later_val r3 (later_of (netOk_any na l nc ma ms mc _ l8 g3 HOK.out (HL.out.below (below_trans HB0.out (Later.below _))) (HM.out.below (below_trans HB0.out (Later.below _))))))))
              refine wpQuiet_nil ?_
              intro _ hw'
              obtain ⟨nx, rfl⟩ := hw'
              go_wp2
              go_ret
              exact ⟨by rw [HR.out]; rfl, below_trans HB0.out nx.below⟩
            · cases r4 : (st + misS (l.map Nd.d) == flyS (l.map Nd.d) (l.map Nd.d))
              · skip
                have HR : Hid (worldB (⟨st, l.map Nd.d, ms⟩ : WdD) = false) := hide (by rw [HN.out, r1, r2, r3, r4]; rfl)
                go_enter Try.func18, Try.ntmps18
                go_wp2_with (first | (go_at_call 24; refine (within_any _ _ _ _).mono ?_; rintro e w' ⟨rfl, hw'⟩; have hw'' := hw'.symm; subst hw'') | fail)
                refine wp_region_later (w.alloc (.cells #[.int .i64 st, .slice na l.length nc, .slice ma ms.length mc] 29)) (by kernel_rfl) (by kernel_rfl) ((Below.refl _ _).drew) ?_
                repeat (go_big_quiet_step (first | (go_at_call 29; exact later_val r1 (later_of (nodesOk_any na l nc _ l8 HSm.out (HL.out.below (below_trans HB0.out (Later.below _)))))) | (go_at_call 30; exact later_val r2 (later_of (linksOk_any na l nc _ l8 HOK.out (HL.out.below (below_trans HB0.out (Later.below _)))))) | (go_at_call 31; exact later_val r3 (later_of (netOk_any na l nc ma ms mc _ l8 g3 HOK.out (HL.out.below (below_trans HB0.out (Later.below _))) (HM.out.below (below_trans HB0.out (Later.below _)))))) | (go_at_call 32; exact later_of (missing_any st _ l _ _ _ _ _ HST.out l8 HOK.out (HL.out.below (below_trans HB0.out (Later.below _))))) | (go_at_call 21; exact later_of (onItsWay_any _ l _ _ l8 HOK.out HLN.out (HL.out.below (below_trans HB0.out (Later.below _)))))))
                refine wpQuiet_nil ?_
                intro _ hw'
                obtain ⟨nx, rfl⟩ := hw'
                go_wp2
                go_ret
                exact ⟨by rw [HR.out]; rfl, below_trans HB0.out nx.below⟩
              · skip
                have HR : Hid (worldB (⟨st, l.map Nd.d, ms⟩ : WdD) = true) := hide (by rw [HN.out, r1, r2, r3, r4]; rfl)
                go_enter Try.func18, Try.ntmps18
                go_wp2_with (first | (go_at_call 24; refine (within_any _ _ _ _).mono ?_; rintro e w' ⟨rfl, hw'⟩; have hw'' := hw'.symm; subst hw'') | fail)
                refine wp_region_later (w.alloc (.cells #[.int .i64 st, .slice na l.length nc, .slice ma ms.length mc] 29)) (by kernel_rfl) (by kernel_rfl) ((Below.refl _ _).drew) ?_
                repeat (go_big_quiet_step (first | (go_at_call 29; exact later_val r1 (later_of (nodesOk_any na l nc _ l8 HSm.out (HL.out.below (below_trans HB0.out (Later.below _)))))) | (go_at_call 30; exact later_val r2 (later_of (linksOk_any na l nc _ l8 HOK.out (HL.out.below (below_trans HB0.out (Later.below _)))))) | (go_at_call 31; exact later_val r3 (later_of (netOk_any na l nc ma ms mc _ l8 g3 HOK.out (HL.out.below (below_trans HB0.out (Later.below _))) (HM.out.below (below_trans HB0.out (Later.below _)))))) | (go_at_call 32; exact later_of (missing_any st _ l _ _ _ _ _ HST.out l8 HOK.out (HL.out.below (below_trans HB0.out (Later.below _))))) | (go_at_call 21; exact later_of (onItsWay_any _ l _ _ l8 HOK.out HLN.out (HL.out.below (below_trans HB0.out (Later.below _)))))))
                refine wpQuiet_nil ?_
                intro _ hw'
                obtain ⟨nx, rfl⟩ := hw'
                go_wp2
                go_ret
                exact ⟨by rw [HR.out]; rfl, below_trans HB0.out nx.below⟩
      · have HR : Hid (worldB (⟨st, l.map Nd.d, ms⟩ : WdD) = false) := hide (by simp [worldB, g3])
        have a3 : (150 : Int) < (ms.length : Int) := by omega
        go_enter Try.func18, Try.ntmps18
        go_wp2_with (first | (go_at_call 24; refine (within_any _ _ _ _).mono ?_; rintro e w' ⟨rfl, hw'⟩; have hw'' := hw'.symm; subst hw''))
        go_ret
        exact ⟨by rw [HR.out]; rfl, HB0.out⟩
end Go.Proofs.Ytilacamcedjbmaa
