/- The contracts of the program's linksOk, netOk, missing and onItsWay. -/
import Derived.Test.YtilacamcedjbmaaIW2
namespace Go.Proofs.Ytilacamcedjbmaa
open Go.ChangeShapes Go.WideShapes Go.ChangeAt Go.RowKit
set_option linter.unusedVariables false
set_option maxRecDepth 100000
theorem take_map {A B : Type} (f : A → B) {l : List A} {k : Nat} (h : k < l.length) : (l.map f).take (k + 1) = (l.map f).take k ++ [f l[k]] := by
  rw [take_next (l.map f) k (by simpa using h)]; simp
set_option maxHeartbeats 8000000 in
theorem linksOk_any (a : Option Addr) (l : List Nd) (cap : Nat) (w : World) (hl : l.length ≤ 8) (hok : NdsOk l) (h : NodesAt w a l) :
    Calls Try.prog 30 #[.slice a l.length cap] w fun e w' => e = .returned (.bool (allTo (lnksB (l.map Nd.d)) l.length)) ∧ Below w.heap.size w w' := by
  have HL : Hid _ := hide h
  have HQ : Hid _ := hide (fun n hn => Nat.le_trans (nodeB_len (hok n hn)).1 (by decide : (8 : Nat) ≤ 1048576))
  clear h
  go_enter Try.func30, Try.ntmps30
  go_wp2
  go_loopw [10] (fun i wr => ∃ k : Nat, k ≤ l.length ∧ i = .int .i64 (k : Int) ∧ Below w.heap.size w wr ∧ Hid (allTo (lnksB (l.map Nd.d)) k = true)) (fun i wr => l.length - (intOf i).toNat)
  case atStart => exact ⟨0, Nat.zero_le _, rfl, Below.refl _ _, hide rfl⟩
  case round =>
    obtain ⟨k, hk, rfl, HB, HS⟩ := hrel
    by_cases hlt : k < l.length
    · obtain ⟨b, off, rfl, hb, c0, c1, c2, c3, c4, c5⟩ := nd_row (HL.out.row.below HB) k hlt
      have hlt' : (k : Int) < (l.length : Int) := by omega
      have HA : Hid (NodeAt w l[k]) := hide (HL.out.each _ (List.getElem_mem hlt))
      have HP8 : Hid _ := hide (nodeB_len (hok _ (List.getElem_mem hlt))).1
      have hp8 := HP8.out
      have HW0 : Hid (Below w.heap.size w (wr.alloc (.cells #[.int .i64 (l[k]).id, .int .i64 (l[k]).has, .int .i64 (l[k]).spent, .int .i64 (l[k]).earned, .slice (l[k]).sa (l[k]).seen.length (l[k]).sc, .slice (l[k]).pa (l[k]).peers.length (l[k]).pc] 35))) := hide (below_alloc HB _)
      have HLK : Hid (lnksB (l.map Nd.d) k = allTo (lnkAt (l.map Nd.d) (l[k]).d) (l[k]).peers.length) := hide (lnksB_at hlt)
      go_wp2
      clear c0 c1 c2 c3 c4 c5
      go_loopw [17] (fun i wr2 => ∃ j : Nat, j ≤ (l[k]).peers.length ∧ i = .int .i64 (j : Int) ∧ Below (wr.heap.size + 1) (wr.alloc (.cells #[.int .i64 (l[k]).id, .int .i64 (l[k]).has, .int .i64 (l[k]).spent, .int .i64 (l[k]).earned, .slice (l[k]).sa (l[k]).seen.length (l[k]).sc, .slice (l[k]).pa (l[k]).peers.length (l[k]).pc] 35)) wr2 ∧ Hid (allTo (lnkAt (l.map Nd.d) (l[k]).d) j = true)) (fun i wr2 => (l[k]).peers.length - (intOf i).toNat)
      case atStart => exact ⟨0, Nat.zero_le _, rfl, Below.refl _ _, hide rfl⟩
      case round =>
        rename World => wr2
        obtain ⟨j, hj, rfl, HB2, HS2⟩ := hrel
        have x0 := boxN HB2 0 _ rfl
        have HBo : Hid (Below w.heap.size w wr2) := hide (below_trans HB (box_old HB2))
        by_cases hjl : j < (l[k]).peers.length
        · obtain ⟨pb, poff, hpa, hpb, d0, d1, d2, d3⟩ := pr_row (HA.out.peers.row.below HBo.out) j hjl
          rw [hpa]
          have hjl' : (j : Int) < ((l[k]).peers.length : Int) := by omega
          have hbx : wr.heap.size < wr2.heap.size := box_lt HB2
          have KP : Hid (Blk wr2.heap.size [.int .i64 ((l[k]).peers[j]).id, .slice ((l[k]).peers[j]).a ((l[k]).peers[j]).E.out.length ((l[k]).peers[j]).cap, .int .i64 ((l[k]).peers[j]).E.sent, .int .i64 ((l[k]).peers[j]).E.got] (wr2.alloc (.cells #[.int .i64 ((l[k]).peers[j]).id, .slice ((l[k]).peers[j]).a ((l[k]).peers[j]).E.out.length ((l[k]).peers[j]).cap, .int .i64 ((l[k]).peers[j]).E.sent, .int .i64 ((l[k]).peers[j]).E.got] 50))) := hide Blk.new
          have HB3 : Hid (Below wr2.heap.size wr2 (wr2.alloc (.cells #[.int .i64 ((l[k]).peers[j]).id, .slice ((l[k]).peers[j]).a ((l[k]).peers[j]).E.out.length ((l[k]).peers[j]).cap, .int .i64 ((l[k]).peers[j]).E.sent, .int .i64 ((l[k]).peers[j]).E.got] 50))) := hide (below_alloc (Below.refl _ _) _)
          go_wp2_with fail
          refine (endBetween_any _ l _ _ _ _ (by omega) HQ.out (HL.out.below (below_trans HBo.out HB3.out))).mono ?_
          rintro e w3 ⟨rfl, hb3⟩
          have HW3 : Hid (Below w.heap.size w w3) := hide (below_trans (below_trans HBo.out HB3.out) hb3)
          have HB4 : Hid (Below (wr.heap.size + 1) (wr.alloc (.cells #[.int .i64 (l[k]).id, .int .i64 (l[k]).has, .int .i64 (l[k]).spent, .int .i64 (l[k]).earned, .slice (l[k]).sa (l[k]).seen.length (l[k]).sc, .slice (l[k]).pa (l[k]).peers.length (l[k]).pc] 35)) w3) := hide (box_on (box_on HB2 HB3.out) hb3)
          have p3 := (KP.out.below hb3).c 3 _ rfl
          have HBt : Hid _ := hide (bet_of (HL.out.below HW3.out) ((l[k]).peers[j]).id (l[k]).id)
          clear hb3 d0 d1 d2 d3 x0
          cases HBt.out with
          | miss h1 h2 =>
            have HR : Hid (allTo (lnksB (l.map Nd.d)) l.length = false) := hide (allTo_false hlt (by rw [HLK.out]; exact allTo_false hjl (by rw [lnkAt_at hjl]; show lnkB (l.map Nd.d) (l[k]).id ⟨((l[k]).peers[j]).id, ((l[k]).peers[j]).E⟩ = false; simp only [lnkB, h2])))
            rw [h1]
            clear h1 h2 HBt
            go_wp2_with fail
            go_quiet (fail)
            go_wp2
            go_ret
            exact ⟨by rw [HR.out]; rfl, below_drewN HW3.out _⟩
          | hit B O ea ecap E h1 h2 hbl e0 e1 e2 hr hm =>
            have HK : Hid (lnkAt (l.map Nd.d) (l[k]).d j = inB (E.sent - (E.out.length : Int)) E.sent ((l[k]).peers[j]).E.got) := hide (by rw [lnkAt_at hjl]; show lnkB (l.map Nd.d) (l[k]).id ⟨((l[k]).peers[j]).id, ((l[k]).peers[j]).E⟩ = _; simp only [lnkB, h2])
            have hE : endB E = true := by
              obtain ⟨n, hn, p, hp, rfl, _, _⟩ := hm
              exact nodeB_peer (hok n hn) p hp
            obtain ⟨h8, hsE, _, _⟩ := endB_parts hE
            rw [h1]
            have p3' := later_cell p3
            have e0' := later_cell e0
            have e1' := later_cell e1
            have e2' := later_cell e2
            have hne : Nonempty (Later w3) := later_there _
            clear h1 h2 HBt hr hm hE e0 e1 e2 p3
            cases q1 : inB (E.sent - (E.out.length : Int)) E.sent ((l[k]).peers[j]).E.got
            · have HR : Hid (allTo (lnksB (l.map Nd.d)) l.length = false) := hide (allTo_false hlt (by rw [HLK.out]; exact allTo_false hjl (by rw [HK.out, q1])))
              go_wp2_with fail
              refine wp_region_later w3 (by kernel_rfl) (by kernel_rfl) ((Below.refl _ _).drew) ?_
              repeat (go_big_quiet_step (first | (go_at_call 44; exact later_of (aheadOfOut_any (.bool true) _ _ _ _ _ _ h8 hsE)) | (go_at_call 24; exact later_same (within_any _ _ _ _))))
              refine wpQuiet_nil ?_
              intro _ hw'
              obtain ⟨nx, rfl⟩ := hw'
              go_wp2
              go_ret
              exact ⟨by rw [HR.out]; rfl, below_trans HW3.out nx.below⟩
            · have HS3 : Hid (allTo (lnkAt (l.map Nd.d) (l[k]).d) (j + 1) = true) := hide (allTo_step HS2.out (by rw [HK.out, q1]))
              go_wp2_with fail
              refine wp_region_later w3 (by kernel_rfl) (by kernel_rfl) ((Below.refl _ _).drew) ?_
              repeat (go_big_quiet_step (first | (go_at_call 44; exact later_of (aheadOfOut_any (.bool true) _ _ _ _ _ _ h8 hsE)) | (go_at_call 24; exact later_same (within_any _ _ _ _))))
              refine wpQuiet_nil ?_
              intro _ hw'
              obtain ⟨nx, rfl⟩ := hw'
              go_wp2
              exact ⟨⟨j + 1, by omega, by go_num, box_on (by have t := HB4.out; rw [hpa] at t; exact t) nx.below, HS3⟩, by simp [intOf]; omega⟩
        · have hj' : ¬ (j : Int) < ((l[k]).peers.length : Int) := by omega
          have HS3 : Hid (allTo (lnksB (l.map Nd.d)) (k + 1) = true) := hide (allTo_step HS.out (by
            have hs := HS2.out
            rw [show j = (l[k]).peers.length by omega] at hs
            rw [HLK.out, hs]))
          go_wp2
          exact ⟨⟨k + 1, by omega, by go_num, HBo.out, HS3⟩, by simp [intOf]; omega⟩
    · have hk' : ¬ (k : Int) < (l.length : Int) := by omega
      have HR : Hid (allTo (lnksB (l.map Nd.d)) l.length = true) := hide (by
        have hs := HS.out
        rw [show k = l.length by omega] at hs
        exact hs)
      go_wp2
      go_ret
      exact ⟨by rw [HR.out]; rfl, HB⟩
set_option maxHeartbeats 8000000 in
theorem netOk_any (a : Option Addr) (l : List Nd) (cap : Nat) (ma : Option Addr) (ms : List Mg) (mc : Nat) (w : World) (hl : l.length ≤ 8) (hms : ms.length ≤ 150) (hok : NdsOk l) (h : NodesAt w a l) (hm0 : RowAt 5 mgCells w ma ms) :
    Calls Try.prog 31 #[.slice a l.length cap, .slice ma ms.length mc] w fun e w' => e = .returned (.bool (allTo (netB (l.map Nd.d) ms) ms.length)) ∧ Below w.heap.size w w' := by
  have HL : Hid _ := hide h
  have HM : Hid _ := hide hm0
  have HQ : Hid _ := hide (fun n hn => Nat.le_trans (nodeB_len (hok n hn)).1 (by decide : (8 : Nat) ≤ 1048576))
  clear h hm0
  go_enter Try.func31, Try.ntmps31
  go_wp2
  go_loopw [10] (fun i wr => ∃ k : Nat, k ≤ ms.length ∧ i = .int .i64 (k : Int) ∧ Below w.heap.size w wr ∧ Hid (allTo (netB (l.map Nd.d) ms) k = true)) (fun i wr => ms.length - (intOf i).toNat)
  case atStart => exact ⟨0, Nat.zero_le _, rfl, Below.refl _ _, hide rfl⟩
  case round =>
    obtain ⟨k, hk, rfl, HB, HS⟩ := hrel
    by_cases hlt : k < ms.length
    · obtain ⟨b, off, rfl, hb, c0, c1, c2, c3, c4⟩ := mg_row (HM.out.below HB) k hlt
      have hlt' : (k : Int) < (ms.length : Int) := by omega
      have KP : Hid (Blk wr.heap.size [.int .i64 (ms[k]).fr, .int .i64 (ms[k]).to, .int .i64 (ms[k]).kind, .int .i64 (ms[k]).seq, .int .i64 (ms[k]).amt] (wr.alloc (.cells #[.int .i64 (ms[k]).fr, .int .i64 (ms[k]).to, .int .i64 (ms[k]).kind, .int .i64 (ms[k]).seq, .int .i64 (ms[k]).amt] 76))) := hide Blk.new
      have HB3 : Hid (Below wr.heap.size wr (wr.alloc (.cells #[.int .i64 (ms[k]).fr, .int .i64 (ms[k]).to, .int .i64 (ms[k]).kind, .int .i64 (ms[k]).seq, .int .i64 (ms[k]).amt] 76))) := hide (below_alloc (Below.refl _ _) _)
      go_wp2_with fail
      refine (endBetween_any _ l _ _ _ _ (by omega) HQ.out (HL.out.below (below_trans HB HB3.out))).mono ?_
      rintro e w3 ⟨rfl, hb3⟩
      have HW3 : Hid (Below w.heap.size w w3) := hide (below_trans (below_trans HB HB3.out) hb3)
      have p0' := later_cell ((KP.out.below hb3).c 0 _ rfl)
      have p1' := later_cell ((KP.out.below hb3).c 1 _ rfl)
      have p2' := later_cell ((KP.out.below hb3).c 2 _ rfl)
      have p3' := later_cell ((KP.out.below hb3).c 3 _ rfl)
      have p4' := later_cell ((KP.out.below hb3).c 4 _ rfl)
      have HBt : Hid _ := hide (bet_of (HL.out.below HW3.out) (ms[k]).fr (ms[k]).to)
      clear hb3 c0 c1 c2 c3 c4
      cases HBt.out with
      | miss h1 h2 =>
        have HR : Hid (allTo (netB (l.map Nd.d) ms) ms.length = false) := hide (allTo_false hlt (by rw [netB_at hlt, h2]))
        rw [h1]
        clear h1 h2 HBt p0' p1' p2' p3' p4'
        go_wp2_with fail
        go_quiet (fail)
        go_wp2
        go_ret
        exact ⟨by rw [HR.out]; rfl, below_drewN HW3.out _⟩
      | hit B O ea ecap E h1 h2 hbl e0 e1 e2 hr hm =>
        have HK : Hid (netB (l.map Nd.d) ms k = flyB E ms[k]) := hide (by rw [netB_at hlt, h2])
        have HE : Hid (endB E = true) := hide (by
          obtain ⟨n, hn, p, hp, rfl, _, _⟩ := hm
          exact nodeB_peer (hok n hn) p hp)
        have HRr : Hid _ := hide hr
        rw [h1]
        have e0' := later_cell e0
        have e1' := later_cell e1
        have e2' := later_cell e2
        have hne : Nonempty (Later w3) := later_there _
        clear h1 h2 HBt hr hm e0 e1 e2
        cases q1 : flyB E ms[k]
        · have HR : Hid (allTo (netB (l.map Nd.d) ms) ms.length = false) := hide (allTo_false hlt (by rw [HK.out, q1]))
          go_wp2_with fail
          refine wp_region_later w3 (by kernel_rfl) (by kernel_rfl) ((Below.refl _ _).drew) ?_
          repeat (go_big_quiet_step (first | (go_at_call 45; exact later_of (flightOk_any _ _ E ms[k] _ HE.out (HRr.out.below (Later.below _))))))
          refine wpQuiet_nil ?_
          intro _ hw'
          obtain ⟨nx, rfl⟩ := hw'
          go_wp2
          go_ret
          exact ⟨by rw [HR.out]; rfl, below_trans HW3.out nx.below⟩
        · have HS3 : Hid (allTo (netB (l.map Nd.d) ms) (k + 1) = true) := hide (allTo_step HS.out (by rw [HK.out, q1]))
          go_wp2_with fail
          refine wp_region_later w3 (by kernel_rfl) (by kernel_rfl) ((Below.refl _ _).drew) ?_
          repeat (go_big_quiet_step (first | (go_at_call 45; exact later_of (flightOk_any _ _ E ms[k] _ HE.out (HRr.out.below (Later.below _))))))
          refine wpQuiet_nil ?_
          intro _ hw'
          obtain ⟨nx, rfl⟩ := hw'
          go_wp2
          exact ⟨⟨k + 1, by omega, by go_num, below_trans HW3.out nx.below, HS3⟩, by simp [intOf]; omega⟩
    · have hk' : ¬ (k : Int) < (ms.length : Int) := by omega
      have HR : Hid (allTo (netB (l.map Nd.d) ms) ms.length = true) := hide (by
        have hs := HS.out
        rw [show k = ms.length by omega] at hs
        exact hs)
      go_wp2
      go_ret
      exact ⟨by rw [HR.out]; rfl, HB⟩
set_option maxHeartbeats 4000000 in
theorem missing_any (st : Int) (na : Option Addr) (l : List Nd) (nc : Nat) (ma : Option Addr) (nm mc : Nat) (w : World) (hst : 0 ≤ st ∧ st ≤ 1000000000000) (hl : l.length ≤ 8) (hok : NdsOk l) (h : NodesAt w na l) :
    Calls Try.prog 32 #[.agg #[.int .i64 st, .slice na l.length nc, .slice ma nm mc]] w fun e w' => e = .returned (.int .i64 (st + misS (l.map Nd.d))) ∧ Below w.heap.size w w' := by
  have HL : Hid _ := hide h
  clear h
  obtain ⟨st0, st1⟩ := hst
  have HB0 : Hid (Below w.heap.size w (w.alloc (.cells #[.int .i64 st, .slice na l.length nc, .slice ma nm mc] 29))) := hide (below_alloc (Below.refl _ _) _)
  go_enter Try.func32, Try.ntmps32
  go_wp2
  go_loopw [3, 11] (fun s i wr => ∃ k : Nat, k ≤ l.length ∧ i = .int .i64 (k : Int) ∧ s = .int .i64 (st + misS ((l.map Nd.d).take k)) ∧ Below w.heap.size w wr) (fun s i wr => l.length - (intOf i).toNat)
  case atStart => exact ⟨0, Nat.zero_le _, rfl, by simp [misS], HB0.out⟩
  case round =>
    obtain ⟨k, hk, rfl, rfl, HB⟩ := hrel
    by_cases hlt : k < l.length
    · obtain ⟨b, off, rfl, hb, c0, c1, c2, c3, c4, c5⟩ := nd_row (HL.out.row.below HB) k hlt
      have hlt' : (k : Int) < (l.length : Int) := by omega
      obtain ⟨⟨m0, m1⟩, ⟨m2, m3⟩, ⟨m4, m5⟩⟩ := nodeB_nums (hok _ (List.getElem_mem hlt))
      obtain ⟨b0, b1⟩ := misS_bd (hok.take k)
      rw [List.map_take] at b0 b1
      have b2 : ((l.take k).length : Int) ≤ 8 := by rw [List.length_take]; omega
      have HT : Hid (st + misS ((l.map Nd.d).take (k + 1)) = st + misS ((l.map Nd.d).take k) + ((l[k]).earned - (l[k]).spent - (l[k]).has)) := hide (by
        rw [take_map Nd.d hlt, misS_append]
        have e : misS [(l[k]).d] = ((l[k]).earned - (l[k]).spent - (l[k]).has) + 0 := rfl
        rw [e]; omega)
      have b3 : -88000000000000 ≤ misS ((l.map Nd.d).take k) ∧ misS ((l.map Nd.d).take k) ≤ 8000000000000 := by omega
      obtain ⟨b4, b5⟩ := b3
      clear b0 b1 b2
      generalize misS ((l.map Nd.d).take k) = x at *
      go_wp2
      exact ⟨⟨k + 1, by omega, by go_num, by rw [HT.out], below_alloc HB _⟩, by simp [intOf]; omega⟩
    · have hk' : ¬ (k : Int) < (l.length : Int) := by omega
      have HE : Hid ((l.map Nd.d).take k = l.map Nd.d) := hide (by rw [List.take_of_length_le (by simp; omega)])
      go_wp2
      go_ret
      exact ⟨by show Ending.returned (Value.int _ (st + misS ((l.map Nd.d).take k))) = _; rw [HE.out], HB⟩
theorem opnP_hit {l : List NdD} {own : Int} {p : PD} {E : En} (h : endBet l p.id own = some E) : opnP l own p = openOf p.E E.got := by unfold opnP; rw [h]
set_option maxHeartbeats 8000000 in
theorem onItsWay_any (a : Option Addr) (l : List Nd) (cap : Nat) (w : World) (hl : l.length ≤ 8) (hok : NdsOk l) (hln : allTo (lnksB (l.map Nd.d)) l.length = true) (h : NodesAt w a l) :
    Calls Try.prog 21 #[.slice a l.length cap] w fun e w' => e = .returned (.int .i64 (flyS (l.map Nd.d) (l.map Nd.d))) ∧ Below w.heap.size w w' := by
  have HL : Hid _ := hide h
  have HQ : Hid _ := hide (fun n hn => Nat.le_trans (nodeB_len (hok n hn)).1 (by decide : (8 : Nat) ≤ 1048576))
  have HLN : Hid _ := hide hln
  clear h hln
  go_enter Try.func21, Try.ntmps21
  go_wp2
  go_loopw [3, 10] (fun s i wr => ∃ k : Nat, k ≤ l.length ∧ i = .int .i64 (k : Int) ∧ s = .int .i64 (flyS (l.map Nd.d) ((l.map Nd.d).take k)) ∧ Below w.heap.size w wr) (fun s i wr => l.length - (intOf i).toNat)
  case atStart => exact ⟨0, Nat.zero_le _, rfl, by simp [flyS], Below.refl _ _⟩
  case round =>
    obtain ⟨k, hk, rfl, rfl, HB⟩ := hrel
    by_cases hlt : k < l.length
    · obtain ⟨b, off, rfl, hb, c0, c1, c2, c3, c4, c5⟩ := nd_row (HL.out.row.below HB) k hlt
      have hlt' : (k : Int) < (l.length : Int) := by omega
      have HA : Hid (NodeAt w l[k]) := hide (HL.out.each _ (List.getElem_mem hlt))
      have HP8 : Hid _ := hide (nodeB_len (hok _ (List.getElem_mem hlt))).1
      have hp8 := HP8.out
      have HLK : Hid (allTo (lnkAt (l.map Nd.d) (l[k]).d) (l[k]).peers.length = true) := hide (by rw [← lnksB_at hlt]; exact allTo_get HLN.out hlt)
      have HFB : Hid (0 ≤ flyS (l.map Nd.d) ((l.map Nd.d).take k) ∧ flyS (l.map Nd.d) ((l.map Nd.d).take k) ≤ 512000000000000) := hide (by
        have h1 := flyS_bd (l := (l.map Nd.d)) (ndsOk_d (hok.take k))
        rw [List.map_take] at h1
        have h2 : (((l.map Nd.d).take k).length : Int) ≤ 8 := by rw [List.length_take, List.length_map]; omega
        omega)
      go_wp2
      clear c0 c1 c2 c3 c4 c5
      go_loopw [3, 17] (fun s i wr2 => ∃ j : Nat, j ≤ (l[k]).peers.length ∧ i = .int .i64 (j : Int) ∧ s = .int .i64 (flyS (l.map Nd.d) ((l.map Nd.d).take k) + opnS (l.map Nd.d) (l[k]).id (((l[k]).peers.map Pr.d).take j)) ∧ Below (wr.heap.size + 1) (wr.alloc (.cells #[.int .i64 (l[k]).id, .int .i64 (l[k]).has, .int .i64 (l[k]).spent, .int .i64 (l[k]).earned, .slice (l[k]).sa (l[k]).seen.length (l[k]).sc, .slice (l[k]).pa (l[k]).peers.length (l[k]).pc] 35)) wr2) (fun s i wr2 => (l[k]).peers.length - (intOf i).toNat)
      case atStart => exact ⟨0, Nat.zero_le _, rfl, by simp [opnS], Below.refl _ _⟩
      case round =>
        rename World => wr2
        obtain ⟨j, hj, rfl, rfl, HB2⟩ := hrel
        have x0 := boxN HB2 0 _ rfl
        have HBo : Hid (Below w.heap.size w wr2) := hide (below_trans HB (box_old HB2))
        by_cases hjl : j < (l[k]).peers.length
        · obtain ⟨pb, poff, hpa, hpb, d0, d1, d2, d3⟩ := pr_row (HA.out.peers.row.below HBo.out) j hjl
          rw [hpa]
          have hjl' : (j : Int) < ((l[k]).peers.length : Int) := by omega
          have hbx : wr.heap.size < wr2.heap.size := box_lt HB2
          have HW3 : Hid (Below w.heap.size w (wr2.alloc (.cells #[.int .i64 ((l[k]).peers[j]).id, .slice ((l[k]).peers[j]).a ((l[k]).peers[j]).E.out.length ((l[k]).peers[j]).cap, .int .i64 ((l[k]).peers[j]).E.sent, .int .i64 ((l[k]).peers[j]).E.got] 50))) := hide (below_alloc HBo.out _)
          have HB4 : Hid (Below (wr.heap.size + 1) (wr.alloc (.cells #[.int .i64 (l[k]).id, .int .i64 (l[k]).has, .int .i64 (l[k]).spent, .int .i64 (l[k]).earned, .slice (l[k]).sa (l[k]).seen.length (l[k]).sc, .slice (l[k]).pa (l[k]).peers.length (l[k]).pc] 35)) (wr2.alloc (.cells #[.int .i64 ((l[k]).peers[j]).id, .slice ((l[k]).peers[j]).a ((l[k]).peers[j]).E.out.length ((l[k]).peers[j]).cap, .int .i64 ((l[k]).peers[j]).E.sent, .int .i64 ((l[k]).peers[j]).E.got] 50))) := hide (box_on HB2 (below_alloc (Below.refl _ _) _))
          have HBt : Hid _ := hide (bet_of (HL.out.below HW3.out) ((l[k]).peers[j]).id (l[k]).id)
          have HLJ : Hid (lnkB (l.map Nd.d) (l[k]).id ⟨((l[k]).peers[j]).id, ((l[k]).peers[j]).E⟩ = true) := hide (by have e := allTo_get HLK.out hjl; rwa [lnkAt_at hjl] at e)
          have x0' := later_old (o := .cells #[.int .i64 ((l[k]).peers[j]).id, .slice ((l[k]).peers[j]).a ((l[k]).peers[j]).E.out.length ((l[k]).peers[j]).cap, .int .i64 ((l[k]).peers[j]).E.sent, .int .i64 ((l[k]).peers[j]).E.got] 50) hbx x0
          have hne : Nonempty (Later (wr2.alloc (.cells #[.int .i64 ((l[k]).peers[j]).id, .slice ((l[k]).peers[j]).a ((l[k]).peers[j]).E.out.length ((l[k]).peers[j]).cap, .int .i64 ((l[k]).peers[j]).E.sent, .int .i64 ((l[k]).peers[j]).E.got] 50))) := later_there _
          have s0' := later_newN (wr := wr2) (cur := #[.int .i64 ((l[k]).peers[j]).id, .slice ((l[k]).peers[j]).a ((l[k]).peers[j]).E.out.length ((l[k]).peers[j]).cap, .int .i64 ((l[k]).peers[j]).E.sent, .int .i64 ((l[k]).peers[j]).E.got]) (T := 50) 0 _ rfl
          have s1' := later_newN (wr := wr2) (cur := #[.int .i64 ((l[k]).peers[j]).id, .slice ((l[k]).peers[j]).a ((l[k]).peers[j]).E.out.length ((l[k]).peers[j]).cap, .int .i64 ((l[k]).peers[j]).E.sent, .int .i64 ((l[k]).peers[j]).E.got]) (T := 50) 1 _ rfl
          have s2' := later_newN (wr := wr2) (cur := #[.int .i64 ((l[k]).peers[j]).id, .slice ((l[k]).peers[j]).a ((l[k]).peers[j]).E.out.length ((l[k]).peers[j]).cap, .int .i64 ((l[k]).peers[j]).E.sent, .int .i64 ((l[k]).peers[j]).E.got]) (T := 50) 2 _ rfl
          have s3' := later_newN (wr := wr2) (cur := #[.int .i64 ((l[k]).peers[j]).id, .slice ((l[k]).peers[j]).a ((l[k]).peers[j]).E.out.length ((l[k]).peers[j]).cap, .int .i64 ((l[k]).peers[j]).E.sent, .int .i64 ((l[k]).peers[j]).E.got]) (T := 50) 3 _ rfl
          have HYr : Hid (RowAt 2 prcCells (wr2.alloc (.cells #[.int .i64 ((l[k]).peers[j]).id, .slice ((l[k]).peers[j]).a ((l[k]).peers[j]).E.out.length ((l[k]).peers[j]).cap, .int .i64 ((l[k]).peers[j]).E.sent, .int .i64 ((l[k]).peers[j]).E.got] 50)) ((l[k]).peers[j]).a ((l[k]).peers[j]).E.out) := hide ((HA.out.peers.ends _ (List.getElem_mem hjl)).below HW3.out)
          have HYe : Hid (endB ((l[k]).peers[j]).E = true) := hide (nodeB_peer (hok _ (List.getElem_mem hlt)) _ (List.getElem_mem hjl))
          have HYl : Hid (((l[k]).peers[j]).E.out.length ≤ 1048576) := hide (Nat.le_trans (endB_parts HYe.out).1 (by decide))
          cases HBt.out with
          | miss h1 h2 => exact absurd HLJ.out (by simp only [lnkB, h2]; exact Bool.false_ne_true)
          | hit B O ea ecap E h1 h2 hbl e0 e1 e2 hr hm =>
            have HOV : Hid (opnP (l.map Nd.d) (l[k]).id (((l[k]).peers[j])).d = openOf ⟨((l[k]).peers[j]).E.out, ((l[k]).peers[j]).E.sent, ((l[k]).peers[j]).E.got⟩ E.got) := hide (opnP_hit (p := (((l[k]).peers[j])).d) h2)
            have HOB : Hid (0 ≤ openOf ⟨((l[k]).peers[j]).E.out, ((l[k]).peers[j]).E.sent, ((l[k]).peers[j]).E.got⟩ E.got ∧ openOf ⟨((l[k]).peers[j]).E.out, ((l[k]).peers[j]).E.sent, ((l[k]).peers[j]).E.got⟩ E.got ≤ 8000000000000) := hide (openOf_bd HYe.out _)
            have HSB : Hid (0 ≤ opnS (l.map Nd.d) (l[k]).id (((l[k]).peers.map Pr.d).take j) ∧ opnS (l.map Nd.d) (l[k]).id (((l[k]).peers.map Pr.d).take j) ≤ 64000000000000) := hide (by
              have h1 := opnS_bd (l := (l.map Nd.d)) (own := (l[k]).id) (ps := ((l[k]).peers.map Pr.d).take j) (fun p hp => by
                obtain ⟨y, hy, rfl⟩ := List.mem_map.1 (List.mem_of_mem_take hp)
                exact nodeB_peer (hok _ (List.getElem_mem hlt)) y hy)
              have h2 : ((((l[k]).peers.map Pr.d).take j).length : Int) ≤ 8 := by rw [List.length_take, List.length_map]; omega
              omega)
            have HT : Hid (flyS (l.map Nd.d) ((l.map Nd.d).take k) + opnS (l.map Nd.d) (l[k]).id (((l[k]).peers.map Pr.d).take (j + 1)) = flyS (l.map Nd.d) ((l.map Nd.d).take k) + opnS (l.map Nd.d) (l[k]).id (((l[k]).peers.map Pr.d).take j) + openOf ⟨((l[k]).peers[j]).E.out, ((l[k]).peers[j]).E.sent, ((l[k]).peers[j]).E.got⟩ E.got) := hide (by
              rw [take_map Pr.d hjl, opnS_append, ← HOV.out]
              have e : opnS (l.map Nd.d) (l[k]).id [(((l[k]).peers[j])).d] = opnP (l.map Nd.d) (l[k]).id (((l[k]).peers[j])).d + 0 := rfl
              rw [e]; omega)
            have e2' := later_cell e2
            have hfb := HFB.out
            have hob := HOB.out
            have hsb := HSB.out
            obtain ⟨hfb0, hfb1⟩ := hfb
            obtain ⟨hob0, hob1⟩ := hob
            obtain ⟨hsb0, hsb1⟩ := hsb
            have h1' : ptrBet l ((l[k]).peers[j]).id (l[k]).id = some ⟨B, O, none⟩ := h1
            clear h1 h2 HBt hr hm e0 e1 e2 HFB HOB HSB HOV
            go_wp2_with fail
            refine wp_region_later (wr2.alloc (.cells #[.int .i64 ((l[k]).peers[j]).id, .slice ((l[k]).peers[j]).a ((l[k]).peers[j]).E.out.length ((l[k]).peers[j]).cap, .int .i64 ((l[k]).peers[j]).E.sent, .int .i64 ((l[k]).peers[j]).E.got] 50)) (by kernel_rfl) (by kernel_rfl) ((Below.refl _ _).drew) ?_
            repeat (go_big_quiet_step (first | (go_at_call 37; exact later_of (endBetween_any _ l _ _ _ _ (by omega) HQ.out (HL.out.below (below_trans HW3.out (Later.below _))))) | (go_at_call 36; exact later_of (implOpenOf_any _ ((l[k]).peers[j]).E.out _ _ _ _ _ HYl.out (HYr.out.below (Later.below _))))))
            refine wpQuiet_nil ?_
            intro _ hw'
            obtain ⟨nx, rfl⟩ := hw'
            go_wp2
            exact ⟨⟨j + 1, by omega, by go_num, by rw [HT.out], box_on (by have t := HB4.out; rw [hpa] at t; exact t) nx.below⟩, by simp [intOf]; omega⟩
        · have hj' : ¬ (j : Int) < ((l[k]).peers.length : Int) := by omega
          have HT : Hid (flyS (l.map Nd.d) ((l.map Nd.d).take (k + 1)) = flyS (l.map Nd.d) ((l.map Nd.d).take k) + opnS (l.map Nd.d) (l[k]).id (((l[k]).peers.map Pr.d).take j)) := hide (by
            rw [take_map Nd.d hlt, flyS_append, List.take_of_length_le (show ((l[k]).peers.map Pr.d).length ≤ j by simp; omega)]
            have e : flyS (l.map Nd.d) [(l[k]).d] = opnS (l.map Nd.d) (l[k]).id ((l[k]).peers.map Pr.d) + 0 := rfl
            rw [e]; omega)
          go_wp2
          exact ⟨⟨k + 1, by omega, by go_num, by rw [HT.out], HBo.out⟩, by simp [intOf]; omega⟩
    · have hk' : ¬ (k : Int) < (l.length : Int) := by omega
      have HE : Hid ((l.map Nd.d).take k = l.map Nd.d) := hide (by rw [List.take_of_length_le (by simp; omega)])
      go_wp2
      go_ret
      exact ⟨by show Ending.returned (Value.int _ (flyS (l.map Nd.d) ((l.map Nd.d).take k))) = _; rw [HE.out], HB⟩
end Go.Proofs.Ytilacamcedjbmaa
