/- The contract of the model's WorldOk. -/
import Derived.Test.YtpfghmghlklhgaaSW2
import Derived.Test.YtpfghmghlklhgaaSW4
import Derived.Test.YtpfghmghlklhgaaIW4
import Derived.Test.YtpfghmghlklhgaaSNode
namespace Go.Proofs.Ytpfghmghlklhgaa
open Go.ChangeShapes Go.WideShapes Go.ChangeAt Go.RowKit
set_option linter.unusedVariables false
set_option maxRecDepth 100000
set_option maxHeartbeats 16000000 in
theorem specWorldOk_any (st : Int) (na : Option Addr) (l : List Nd) (nc : Nat) (ma : Option Addr) (ms : List Mg) (mc : Nat) (w : World) (hl : l.length ≤ 1048576) (hms : ms.length ≤ 1048576) (hsm : ∀ n ∈ l, SmN n) (h : NodesAt w na l) (hm : RowAt 5 mgCells w ma ms) :
    Calls Try.prog 14 #[.agg #[.int .i64 st, .slice na l.length nc, .slice ma ms.length mc]] w fun e w' => e = .returned (.bool (worldB ⟨st, l.map Nd.d, ms⟩)) ∧ Below w.heap.size w w' := by
  have HL : Hid _ := hide h
  have HM : Hid _ := hide hm
  have HSm : Hid _ := hide hsm
  clear h hm hsm
  have HB0 : Hid (Below w.heap.size w (w.alloc (.cells #[.int .i64 st, .slice na l.length nc, .slice ma ms.length mc] 44))) := hide (below_alloc (Below.refl _ _) _)
  cases q1 : inB 0 1000000000000 st
  · have HR : Hid (worldB (⟨st, l.map Nd.d, ms⟩ : WdD) = false) := hide (by simp [worldB, q1])
    go_enter Try.func14, Try.ntmps14
    go_wp2_with (first | (go_at_call 26; refine (l1In_any _ _ _ _).mono ?_; rintro e w' ⟨rfl, hw'⟩; have hw'' := hw'.symm; subst hw''))
    go_ret
    exact ⟨by rw [HR.out]; rfl, HB0.out⟩
  · have hst : 0 ≤ st ∧ st ≤ 1000000000000 := by simpa only [inB, decide_eq_true_eq] using q1
    have HST : Hid _ := hide hst
    clear hst
    by_cases l1 : 1 ≤ l.length
    · by_cases l8 : l.length ≤ 8
      · by_cases g3 : ms.length ≤ 150
        · have a1 : ¬ (l.length : Int) < 1 := by omega
          have a2 : ¬ (8 : Int) < (l.length : Int) := by omega
          have a3 : ¬ (150 : Int) < (ms.length : Int) := by omega
          have HN : Hid (worldB (⟨st, l.map Nd.d, ms⟩ : WdD) = (allTo (ndB (l.map Nd.d)) l.length && allTo (lnksB (l.map Nd.d)) l.length && allTo (netB (l.map Nd.d) ms) ms.length && (st + misS (l.map Nd.d) == flyS (l.map Nd.d) (l.map Nd.d)))) := hide (by simp [worldB, q1, l1, l8, g3])
          go_enter Try.func14, Try.ntmps14
          go_wp2_with (first | (go_at_call 26; refine (l1In_any _ _ _ _).mono ?_; rintro e w' ⟨rfl, hw'⟩; have hw'' := hw'.symm; subst hw'') | fail)
          go_loopw [3] (fun i wr => ∃ k : Nat, k ≤ l.length ∧ i = .int .i64 (k : Int) ∧ Below (w.heap.size + 1) (w.alloc (.cells #[.int .i64 st, .slice na l.length nc, .slice ma ms.length mc] 44)) wr ∧ Hid (allTo (ndB (l.map Nd.d)) k = true)) (fun i wr => l.length - (intOf i).toNat)
          case atStart => exact ⟨0, Nat.zero_le _, rfl, Below.refl _ _, hide rfl⟩
          case round =>
            obtain ⟨k, hk, rfl, HB, HS⟩ := hrel
            have x1 := boxN HB 1 _ rfl
            by_cases hlt : k < l.length
            · obtain ⟨b, off, rfl, hb, c0, c1, c2, c3, c4, c5⟩ := nd_row (HL.out.row.below (box_old HB)) k hlt
              have hlt' : (k : Int) < (l.length : Int) := by omega
              have HA : Hid (NodeAt wr l[k]) := hide ((HL.out.each _ (List.getElem_mem hlt)).below (box_old HB))
              have HSk : Hid _ := hide (HSm.out _ (List.getElem_mem hlt))
              have HNB : Hid (ndB (l.map Nd.d) k = (nodeB (⟨(l[k]).id, (l[k]).has, (l[k]).spent, (l[k]).earned, (l[k]).seen, (l[k]).peers.map Pr.d⟩ : NdD) && risesB (l.map Nd.id) k)) := hide (ndB_at hlt)
              have hne : Nonempty (Later wr) := later_there _
              have x1' := later_cell x1
              have c0' := later_cell c0
              have c1' := later_cell c1
              have c2' := later_cell c2
              have c3' := later_cell c3
              have c4' := later_cell c4
              have c5' := later_cell c5
              clear c1 c2 c3 c4 c5
              cases q2 : nodeB (⟨(l[k]).id, (l[k]).has, (l[k]).spent, (l[k]).earned, (l[k]).seen, (l[k]).peers.map Pr.d⟩ : NdD)
              · skip
                have HR : Hid (worldB (⟨st, l.map Nd.d, ms⟩ : WdD) = false) := hide (by rw [HN.out, allTo_false hlt (by rw [HNB.out, q2]; rfl)]; rfl)
                go_wp2_with fail
                refine wp_region_later wr (by kernel_rfl) (by kernel_rfl) ((Below.refl _ _).drew) ?_
                repeat (go_big_quiet_step (first | (go_at_call 9; exact later_val q2 (later_of (specNodeOk_any _ _ _ _ _ (l[k]).seen _ _ (l[k]).peers _ _ HSk.out.1 HSk.out.2.1 HSk.out.2.2 (HA.out.seen.below (Later.below _)) (HA.out.peers.below (Later.below _)))))))
                refine wpQuiet_nil ?_
                intro _ hw'
                obtain ⟨nx, rfl⟩ := hw'
                go_wp2
                go_ret
                exact ⟨by rw [HR.out]; rfl, box_old (box_on HB nx.below)⟩
              · by_cases hz : k = 0
                · have hri : Hid (risesB (l.map Nd.id) k = true) := hide (by rw [hz]; rfl)
                  have hz' : decide ((0 : Int) < (k : Int)) = false := by simp; omega
                  have hz'' : decide (0 < k) = false := by simp; omega
                  clear hz
                  have HS2 : Hid (allTo (ndB (l.map Nd.d)) (k + 1) = true) := hide (allTo_step HS.out (by rw [HNB.out, q2, hri.out]; rfl))
                  go_wp2_with fail
                  refine wp_region_later wr (by kernel_rfl) (by kernel_rfl) ((Below.refl _ _).drew) ?_
                  repeat (go_big_quiet_step (first | (go_at_call 9; exact later_val q2 (later_of (specNodeOk_any _ _ _ _ _ (l[k]).seen _ _ (l[k]).peers _ _ HSk.out.1 HSk.out.2.1 HSk.out.2.2 (HA.out.seen.below (Later.below _)) (HA.out.peers.below (Later.below _)))))))
                  refine wpQuiet_nil ?_
                  intro _ hw'
                  obtain ⟨nx, rfl⟩ := hw'
                  go_wp2
                  exact ⟨⟨k + 1, by omega, by go_num, box_on HB nx.below, HS2⟩, by simp [intOf]; omega⟩
                · obtain ⟨m, hm⟩ : ∃ m, k = m + 1 := ⟨k - 1, by omega⟩
                  have hm3 : m < l.length := by omega
                  obtain ⟨b', off', heq, hb', p0, _⟩ := nd_row (HL.out.row.below (box_old HB)) m hm3
                  simp only [Option.some.injEq, Addr.mk.injEq, and_true] at heq
                  obtain ⟨rfl, rfl⟩ := heq
                  have p0' := later_cell p0
                  have hz' : (0 : Int) < (k : Int) := by omega
                  have hm1 : IntKind.i64.wrap ((k : Int) - 1) = (m : Int) := wrap_pred hm (by omega)
                  have hm2 : (m : Int) < (l.length : Int) := by omega
                  have hz'' : 0 < k := by omega
                  have hrs : risesB (l.map Nd.id) k = decide ((l[m]).id < (l[k]).id) := by subst hm; exact rises_nd hlt
                  by_cases q7 : (l[m]).id < (l[k]).id
                  · have HS2 : Hid (allTo (ndB (l.map Nd.d)) (k + 1) = true) := hide (allTo_step HS.out (by rw [HNB.out, q2, hrs, decide_eq_true q7]; rfl))
                    have q7' : decide ((l[k]).id ≤ (l[m]).id) = false := by simp; omega
                    clear hrs hm hz
                    go_wp2_with fail
                    refine wp_region_later wr (by kernel_rfl) (by kernel_rfl) ((Below.refl _ _).drew) ?_
                    repeat (go_big_quiet_step (first | (go_at_call 9; exact later_val q2 (later_of (specNodeOk_any _ _ _ _ _ (l[k]).seen _ _ (l[k]).peers _ _ HSk.out.1 HSk.out.2.1 HSk.out.2.2 (HA.out.seen.below (Later.below _)) (HA.out.peers.below (Later.below _)))))))
                    refine wpQuiet_nil ?_
                    intro _ hw'
                    obtain ⟨nx, rfl⟩ := hw'
                    go_wp2
                    exact ⟨⟨k + 1, by omega, by go_num, box_on HB nx.below, HS2⟩, by simp [intOf]; omega⟩
                  · have q7' : (l[k]).id ≤ (l[m]).id := by omega
                    have HR : Hid (worldB (⟨st, l.map Nd.d, ms⟩ : WdD) = false) := hide (by rw [HN.out, allTo_false hlt (by rw [HNB.out, hrs, decide_eq_false q7]; simp)]; rfl)
                    clear hrs hm hz
                    go_wp2_with fail
                    refine wp_region_later wr (by kernel_rfl) (by kernel_rfl) ((Below.refl _ _).drew) ?_
                    repeat (go_big_quiet_step (first | (go_at_call 9; exact later_val q2 (later_of (specNodeOk_any _ _ _ _ _ (l[k]).seen _ _ (l[k]).peers _ _ HSk.out.1 HSk.out.2.1 HSk.out.2.2 (HA.out.seen.below (Later.below _)) (HA.out.peers.below (Later.below _)))))))
                    refine wpQuiet_nil ?_
                    intro _ hw'
                    obtain ⟨nx, rfl⟩ := hw'
                    go_wp2
                    go_ret
                    exact ⟨by rw [HR.out]; rfl, box_old (box_on HB nx.below)⟩
            · have hk' : ¬ (k : Int) < (l.length : Int) := by omega
              have HR1 : Hid (allTo (ndB (l.map Nd.d)) l.length = true) := hide (by
                have hs := HS.out
                rw [show k = l.length by omega] at hs
                exact hs)
              have HOK : Hid (NdsOk l) := hide (ndsOk_of HR1.out)
              have HN2 : Hid (worldB (⟨st, l.map Nd.d, ms⟩ : WdD) = (allTo (lnksB (l.map Nd.d)) l.length && allTo (netB (l.map Nd.d) ms) ms.length && (st + misS (l.map Nd.d) == flyS (l.map Nd.d) (l.map Nd.d)))) := hide (by rw [HN.out, HR1.out]; rfl)
              have HBX : Hid _ := hide HB
              clear HS HB
              go_wp2
              go_loopw [4] (fun i wr => ∃ k : Nat, k ≤ l.length ∧ i = .int .i64 (k : Int) ∧ Below (w.heap.size + 1) (w.alloc (.cells #[.int .i64 st, .slice na l.length nc, .slice ma ms.length mc] 44)) wr ∧ Hid (allTo (lnksB (l.map Nd.d)) k = true)) (fun i wr => l.length - (intOf i).toNat)
              case atStart => exact ⟨0, Nat.zero_le _, rfl, HBX.out, hide rfl⟩
              case round =>
                clear hk hk' x1
                obtain ⟨k, hk, rfl, HB, HS⟩ := hrel
                have x1 := boxN HB 1 _ rfl
                by_cases hlt : k < l.length
                · obtain ⟨b, off, rfl, hb, c0, c1, c2, c3, c4, c5⟩ := nd_row (HL.out.row.below (box_old HB)) k hlt
                  have hlt' : (k : Int) < (l.length : Int) := by omega
                  have HA : Hid (NodeAt wr l[k]) := hide ((HL.out.each _ (List.getElem_mem hlt)).below (box_old HB))
                  have HNL : Hid (NodesAt wr _ l) := hide (HL.out.below (box_old HB))
                  have HNk : Hid (nodeB (l[k]).d = true) := hide (HOK.out _ (List.getElem_mem hlt))
                  have HLK : Hid (lnksB (l.map Nd.d) k = allTo (lnkAt (l.map Nd.d) (l[k]).d) (l[k]).peers.length) := hide (lnksB_at hlt)
                  have hne : Nonempty (Later wr) := later_there _
                  have x0' := later_cell (boxN HB 0 _ rfl)
                  have x1' := later_cell x1
                  have x2' := later_cell (boxN HB 2 _ rfl)
                  have c0' := later_cell c0
                  have c1' := later_cell c1
                  have c2' := later_cell c2
                  have c3' := later_cell c3
                  have c4' := later_cell c4
                  have c5' := later_cell c5
                  clear c0 c1 c2 c3 c4 c5
                  cases q2 : allTo (lnkAt (l.map Nd.d) (l[k]).d) (l[k]).peers.length
                  · have HR : Hid (worldB (⟨st, l.map Nd.d, ms⟩ : WdD) = false) := hide (by rw [HN2.out, allTo_false hlt (by rw [HLK.out, q2])]; rfl)
                    go_wp2_with fail
                    refine wp_region_later wr (by kernel_rfl) (by kernel_rfl) ((Below.refl _ _).drew) ?_
                    repeat (go_big_quiet_step (first | (go_at_call 39; exact later_val q2 (later_of (l7Links_any _ _ l _ _ _ _ l[k] _ l8 HOK.out HNk.out (HA.out.below (Later.below _)) (HNL.out.below (Later.below _)))))))
                    refine wpQuiet_nil ?_
                    intro _ hw'
                    obtain ⟨nx, rfl⟩ := hw'
                    go_wp2
                    go_ret
                    exact ⟨by rw [HR.out]; rfl, box_old (box_on HB nx.below)⟩
                  · have HS2 : Hid (allTo (lnksB (l.map Nd.d)) (k + 1) = true) := hide (allTo_step HS.out (by rw [HLK.out, q2]))
                    go_wp2_with fail
                    refine wp_region_later wr (by kernel_rfl) (by kernel_rfl) ((Below.refl _ _).drew) ?_
                    repeat (go_big_quiet_step (first | (go_at_call 39; exact later_val q2 (later_of (l7Links_any _ _ l _ _ _ _ l[k] _ l8 HOK.out HNk.out (HA.out.below (Later.below _)) (HNL.out.below (Later.below _)))))))
                    refine wpQuiet_nil ?_
                    intro _ hw'
                    obtain ⟨nx, rfl⟩ := hw'
                    go_wp2
                    exact ⟨⟨k + 1, by omega, by go_num, box_on HB nx.below, HS2⟩, by simp [intOf]; omega⟩
                · have hk' : ¬ (k : Int) < (l.length : Int) := by omega
                  have HLN : Hid (allTo (lnksB (l.map Nd.d)) l.length = true) := hide (by
                    have hs := HS.out
                    rw [show k = l.length by omega] at hs
                    exact hs)
                  have HN3 : Hid (worldB (⟨st, l.map Nd.d, ms⟩ : WdD) = (allTo (netB (l.map Nd.d) ms) ms.length && (st + misS (l.map Nd.d) == flyS (l.map Nd.d) (l.map Nd.d)))) := hide (by rw [HN2.out, HLN.out]; rfl)
                  have HBY : Hid _ := hide HB
                  clear HS HB
                  go_wp2
                  go_loopw [5] (fun i wr => ∃ k : Nat, k ≤ ms.length ∧ i = .int .i64 (k : Int) ∧ Below (w.heap.size + 1) (w.alloc (.cells #[.int .i64 st, .slice na l.length nc, .slice ma ms.length mc] 44)) wr ∧ Hid (allTo (netB (l.map Nd.d) ms) k = true)) (fun i wr => ms.length - (intOf i).toNat)
                  case atStart => exact ⟨0, Nat.zero_le _, rfl, HBY.out, hide rfl⟩
                  case round =>
                    clear hk hk' x1
                    obtain ⟨k, hk, rfl, HB, HS⟩ := hrel
                    have x0 := boxN HB 0 _ rfl
                    have x1 := boxN HB 1 _ rfl
                    have x2 := boxN HB 2 _ rfl
                    have HNL : Hid (NodesAt wr _ l) := hide (HL.out.below (box_old HB))
                    by_cases hlt : k < ms.length
                    · obtain ⟨b, off, rfl, hb, c0, c1, c2, c3, c4⟩ := mg_row (HM.out.below (box_old HB)) k hlt
                      have hlt' : (k : Int) < (ms.length : Int) := by omega
                      have HMB : Hid (netB (l.map Nd.d) ms k = msgB (l.map Nd.d) ms[k]) := hide (msgB_at hlt)
                      have hne : Nonempty (Later wr) := later_there _
                      have x0' := later_cell x0
                      have x1' := later_cell x1
                      have x2' := later_cell x2
                      have c0' := later_cell c0
                      have c1' := later_cell c1
                      have c2' := later_cell c2
                      have c3' := later_cell c3
                      have c4' := later_cell c4
                      clear c0 c1 c2 c3 c4 x0 x1
                      cases q2 : msgB (l.map Nd.d) ms[k]
                      · have HR : Hid (worldB (⟨st, l.map Nd.d, ms⟩ : WdD) = false) := hide (by rw [HN3.out, allTo_false hlt (by rw [HMB.out, q2])]; rfl)
                        go_wp2_with fail
                        refine wp_region_later wr (by kernel_rfl) (by kernel_rfl) ((Below.refl _ _).drew) ?_
                        repeat (go_big_quiet_step (first | (go_at_call 40; exact later_val q2 (later_of (l7Msg_any _ _ l _ _ _ _ ms[k] _ l8 HOK.out HLN.out (HNL.out.below (Later.below _)))))))
                        refine wpQuiet_nil ?_
                        intro _ hw'
                        obtain ⟨nx, rfl⟩ := hw'
                        go_wp2
                        go_ret
                        exact ⟨by rw [HR.out]; rfl, box_old (box_on HB nx.below)⟩
                      · have HS2 : Hid (allTo (netB (l.map Nd.d) ms) (k + 1) = true) := hide (allTo_step HS.out (by rw [HMB.out, q2]))
                        go_wp2_with fail
                        refine wp_region_later wr (by kernel_rfl) (by kernel_rfl) ((Below.refl _ _).drew) ?_
                        repeat (go_big_quiet_step (first | (go_at_call 40; exact later_val q2 (later_of (l7Msg_any _ _ l _ _ _ _ ms[k] _ l8 HOK.out HLN.out (HNL.out.below (Later.below _)))))))
                        refine wpQuiet_nil ?_
                        intro _ hw'
                        obtain ⟨nx, rfl⟩ := hw'
                        go_wp2
                        exact ⟨⟨k + 1, by omega, by go_num, box_on HB nx.below, HS2⟩, by simp [intOf]; omega⟩
                    · have hk' : ¬ (k : Int) < (ms.length : Int) := by omega
                      have HR : Hid (worldB (⟨st, l.map Nd.d, ms⟩ : WdD) = (st + misS (l.map Nd.d) == flyS (l.map Nd.d) (l.map Nd.d))) := hide (by
                        have hs := HS.out
                        rw [show k = ms.length by omega] at hs
                        rw [HN3.out, hs]; rfl)
                      go_wp2_with fail
                      refine (l7Whole_any _ _ l _ _ _ _ _ HST.out l8 HOK.out HLN.out HNL.out).mono ?_
                      rintro e w9 ⟨rfl, hb9⟩
                      have HB9 : Hid _ := hide (below_trans (box_old HB) hb9)
                      clear hb9
                      go_wp2
                      go_ret
                      exact ⟨by rw [HR.out]; rfl, HB9.out⟩
        · have HR : Hid (worldB (⟨st, l.map Nd.d, ms⟩ : WdD) = false) := hide (by simp [worldB, g3])
          have a1 : ¬ (l.length : Int) < 1 := by omega
          have a2 : ¬ (8 : Int) < (l.length : Int) := by omega
          have a3 : (150 : Int) < (ms.length : Int) := by omega
          go_enter Try.func14, Try.ntmps14
          go_wp2_with (first | (go_at_call 26; refine (l1In_any _ _ _ _).mono ?_; rintro e w' ⟨rfl, hw'⟩; have hw'' := hw'.symm; subst hw''))
          go_ret
          exact ⟨by rw [HR.out]; rfl, HB0.out⟩
      · have HR : Hid (worldB (⟨st, l.map Nd.d, ms⟩ : WdD) = false) := hide (by simp [worldB, l8])
        have a1 : ¬ (l.length : Int) < 1 := by omega
        have a2 : (8 : Int) < (l.length : Int) := by omega
        go_enter Try.func14, Try.ntmps14
        go_wp2_with (first | (go_at_call 26; refine (l1In_any _ _ _ _).mono ?_; rintro e w' ⟨rfl, hw'⟩; have hw'' := hw'.symm; subst hw''))
        go_ret
        exact ⟨by rw [HR.out]; rfl, HB0.out⟩
    · have HR : Hid (worldB (⟨st, l.map Nd.d, ms⟩ : WdD) = false) := hide (by simp [worldB, l1])
      have a1 : (l.length : Int) < 1 := by omega
      go_enter Try.func14, Try.ntmps14
      go_wp2_with (first | (go_at_call 26; refine (l1In_any _ _ _ _).mono ?_; rintro e w' ⟨rfl, hw'⟩; have hw'' := hw'.symm; subst hw''))
      go_ret
      exact ⟨by rw [HR.out]; rfl, HB0.out⟩
end Go.Proofs.Ytpfghmghlklhgaa
