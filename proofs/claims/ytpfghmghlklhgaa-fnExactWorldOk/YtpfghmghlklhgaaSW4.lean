/- The contracts of the model's l7Flying and l7Whole. -/
import Derived.Test.YtpfghmghlklhgaaSW3
namespace Go.Proofs.Ytpfghmghlklhgaa
open Go.ChangeShapes Go.WideShapes Go.ChangeAt Go.RowKit
set_option linter.unusedVariables false
set_option maxRecDepth 100000
theorem fieldGot (x : Option Addr) (y z : Nat) (s g : Int) (w : World) : (Instr.field 56 (.agg #[.slice x y z, .int .i64 s, .int .i64 g]) 2).run Try.prog w = .ok (.int .i64 g) w := by kernel_rfl
theorem later_agg {P : Program} {f : FuncId} {args : Array Value} {W : World} {x : Later W} {v : Value} (h : Calls P f args x.w fun e w' => e = .returned v ∧ Below x.w.heap.size x.w w') : Calls P f args x.w fun e w'' => e = .returned v ∧ ∃ y : Later W, w'' = y.w := later_of h
set_option maxHeartbeats 8000000 in
theorem l7Flying_any (st : Int) (na : Option Addr) (l : List Nd) (nc : Nat) (ma : Option Addr) (nm mc : Nat) (w : World) (hl : l.length ≤ 8) (hok : NdsOk l) (hln : allTo (lnksB (l.map Nd.d)) l.length = true) (h : NodesAt w na l) :
    Calls Try.prog 51 #[.agg #[.int .i64 st, .slice na l.length nc, .slice ma nm mc]] w fun e w' => e = .returned (.int .i64 (flyS (l.map Nd.d) (l.map Nd.d))) ∧ Below w.heap.size w w' := by
  have HL : Hid _ := hide h
  have HQ : Hid _ := hide (fun n hn => Nat.le_trans (nodeB_len (hok n hn)).1 (by decide : (8 : Nat) ≤ 1048576))
  have HLN : Hid _ := hide hln
  clear h hln
  go_enter Try.func51, Try.ntmps51
  go_wp2
  go_loopw [3, 4] (fun s i wr => ∃ k : Nat, k ≤ l.length ∧ i = .int .i64 (k : Int) ∧ s = .int .i64 (flyS (l.map Nd.d) ((l.map Nd.d).take k)) ∧ Below (w.heap.size + 1) (w.alloc (.cells #[.int .i64 st, .slice na l.length nc, .slice ma nm mc] 44)) wr) (fun s i wr => l.length - (intOf i).toNat)
  case atStart => exact ⟨0, Nat.zero_le _, rfl, by simp [flyS], Below.refl _ _⟩
  case round =>
    obtain ⟨k, hk, rfl, rfl, HB⟩ := hrel
    have x1 := boxN HB 1 _ rfl
    by_cases hlt : k < l.length
    · obtain ⟨b, off, rfl, hb, c0, c1, c2, c3, c4, c5⟩ := nd_row (HL.out.row.below (box_old HB)) k hlt
      have hlt' : (k : Int) < (l.length : Int) := by omega
      have HA : Hid (NodeAt w l[k]) := hide (HL.out.each _ (List.getElem_mem hlt))
      have HP8 : Hid _ := hide (nodeB_len (hok _ (List.getElem_mem hlt))).1
      have hp8 := HP8.out
      have HLK : Hid (allTo (lnkAt (l.map Nd.d) (l[k]).d) (l[k]).peers.length = true) := hide (by rw [← lnksB_at hlt]; exact allTo_get HLN.out hlt)
      have HFB : Hid (0 ≤ flyS (l.map Nd.d) ((l.map Nd.d).take k) ∧ flyS (l.map Nd.d) ((l.map Nd.d).take k) ≤ 512000000000000) := hide (by
        have h1 := flyS_bd (l := (l.map Nd.d)) (ndsOk_d (hok.take k))
        rw [List.map_take] at h1
        have h2 : (((l.map Nd.d).take k).length : Int) ≤ 8 := by rw [List.length_take, List.length_map]; omega
        omega)
      go_wp2
      clear c0 c1 c2 c3 c4 c5 x1
      go_loopw [3, 6] (fun s i wr2 => ∃ j : Nat, j ≤ (l[k]).peers.length ∧ i = .int .i64 (j : Int) ∧ s = .int .i64 (flyS (l.map Nd.d) ((l.map Nd.d).take k) + opnS (l.map Nd.d) (l[k]).id (((l[k]).peers.map Pr.d).take j)) ∧ Below (wr.heap.size + 1) (wr.alloc (.cells #[.int .i64 (l[k]).id, .int .i64 (l[k]).has, .int .i64 (l[k]).spent, .int .i64 (l[k]).earned, .slice (l[k]).sa (l[k]).seen.length (l[k]).sc, .slice (l[k]).pa (l[k]).peers.length (l[k]).pc] 31)) wr2) (fun s i wr2 => (l[k]).peers.length - (intOf i).toNat)
      case atStart => exact ⟨0, Nat.zero_le _, rfl, by simp [opnS], Below.refl _ _⟩
      case round =>
        rename World => wr2
        obtain ⟨j, hj, rfl, rfl, HB2⟩ := hrel
        have HBo : Hid (Below w.heap.size w wr2) := hide (below_trans (box_old HB) (box_old HB2))
        have HBw : Hid _ := hide (box_on HB (box_old HB2))
        have n0 := boxN HB2 0 _ rfl
        have n5 := boxN HB2 5 _ rfl
        by_cases hjl : j < (l[k]).peers.length
        · obtain ⟨pb, poff, hpa, hpb, d0, d1, d2, d3⟩ := pr_row (HA.out.peers.row.below HBo.out) j hjl
          rw [hpa] at n5
          have hjl' : (j : Int) < ((l[k]).peers.length : Int) := by omega
          have HBt : Hid _ := hide (HLK.out)
          have HLJ : Hid (lnkB (l.map Nd.d) (l[k]).id ⟨((l[k]).peers[j]).id, ((l[k]).peers[j]).E⟩ = true) := hide (by have e := allTo_get HLK.out hjl; rwa [lnkAt_at hjl] at e)
          cases e1 : fi (l.map Nd.id) ((l[k]).peers[j]).id with
          | none => exact absurd HLJ.out (by simp only [lnkB, endBet_miss e1]; exact Bool.false_ne_true)
          | some k2 =>
            obtain ⟨hk2', _⟩ := fi_some e1
            have hk2 : k2 < l.length := by simpa using hk2'
            cases e2 : fi ((l[k2]).peers.map Pr.id) (l[k]).id with
            | none => exact absurd HLJ.out (by simp only [lnkB]; rw [endBet_hit e1 hk2, e2]; exact Bool.false_ne_true)
            | some i2 =>
              obtain ⟨hi2', _⟩ := fi_some e2
              have hi2 : i2 < (l[k2]).peers.length := by simpa using hi2'
              have HEB : Hid (endBet (l.map Nd.d) ((l[k]).peers[j]).id (l[k]).id = some ((l[k2]).peers[i2]).E) := hide (by rw [endBet_hit e1 hk2, e2]; simp only [List.getElem?_eq_getElem hi2, Option.map_some])
              have HYr : Hid (RowAt 2 prcCells wr2 ((l[k]).peers[j]).a ((l[k]).peers[j]).E.out) := hide ((HA.out.peers.ends _ (List.getElem_mem hjl)).below HBo.out)
              have HYe : Hid (endB ((l[k]).peers[j]).E = true) := hide (nodeB_peer (hok _ (List.getElem_mem hlt)) _ (List.getElem_mem hjl))
              have HYl : Hid (((l[k]).peers[j]).E.out.length ≤ 1048576) := hide (Nat.le_trans (endB_parts HYe.out).1 (by decide))
              have HOV : Hid (opnP (l.map Nd.d) (l[k]).id (((l[k]).peers[j])).d = openOf ⟨((l[k]).peers[j]).E.out, ((l[k]).peers[j]).E.sent, ((l[k]).peers[j]).E.got⟩ ((l[k2]).peers[i2]).E.got) := hide (opnP_hit (p := (((l[k]).peers[j])).d) HEB.out)
              have hob := openOf_bd HYe.out ((l[k2]).peers[i2]).E.got
              have hsb : 0 ≤ opnS (l.map Nd.d) (l[k]).id (((l[k]).peers.map Pr.d).take j) ∧ opnS (l.map Nd.d) (l[k]).id (((l[k]).peers.map Pr.d).take j) ≤ 64000000000000 := by
                have h1 := opnS_bd (l := (l.map Nd.d)) (own := (l[k]).id) (ps := ((l[k]).peers.map Pr.d).take j) (fun p hp => by
                  obtain ⟨y, hy, rfl⟩ := List.mem_map.1 (List.mem_of_mem_take hp)
                  exact nodeB_peer (hok _ (List.getElem_mem hlt)) y hy)
                have h2 : ((((l[k]).peers.map Pr.d).take j).length : Int) ≤ 8 := by rw [List.length_take, List.length_map]; omega
                omega
              have HT : Hid (flyS (l.map Nd.d) ((l.map Nd.d).take k) + opnS (l.map Nd.d) (l[k]).id (((l[k]).peers.map Pr.d).take (j + 1)) = flyS (l.map Nd.d) ((l.map Nd.d).take k) + opnS (l.map Nd.d) (l[k]).id (((l[k]).peers.map Pr.d).take j) + openOf ⟨((l[k]).peers[j]).E.out, ((l[k]).peers[j]).E.sent, ((l[k]).peers[j]).E.got⟩ ((l[k2]).peers[i2]).E.got) := hide (by
                rw [take_map Pr.d hjl, opnS_append, ← HOV.out]
                have e : opnS (l.map Nd.d) (l[k]).id [(((l[k]).peers[j])).d] = opnP (l.map Nd.d) (l[k]).id (((l[k]).peers[j])).d + 0 := rfl
                rw [e]; omega)
              obtain ⟨hob0, hob1⟩ := hob
              have hob0' : 0 ≤ openOf ⟨((l[k]).peers[j]).E.out, ((l[k]).peers[j]).E.sent, ((l[k]).peers[j]).E.got⟩ ((l[k2]).peers[i2]).E.got := hob0
              have hob1' : openOf ⟨((l[k]).peers[j]).E.out, ((l[k]).peers[j]).E.sent, ((l[k]).peers[j]).E.got⟩ ((l[k2]).peers[i2]).E.got ≤ 8000000000000 := hob1
              obtain ⟨hsb0, hsb1⟩ := hsb
              obtain ⟨hfb0, hfb1⟩ := HFB.out
              have w0' := later_cell (boxN HBw.out 0 _ rfl)
              have w1' := later_cell (boxN HBw.out 1 _ rfl)
              have w2' := later_cell (boxN HBw.out 2 _ rfl)
              have n0' := later_cell n0
              have n5' := later_cell n5
              have d0' := later_cell d0
              have d1' := later_cell d1
              have d2' := later_cell d2
              have d3' := later_cell d3
              have hne : Nonempty (Later wr2) := later_there _
              have hfd := fieldGot
              have HPA : Hid _ := hide hpa
              rw [hpa]
              clear hob0 hob1 HFB HOV HEB HBt HLJ d0 d1 d2 d3 n0 hpa
              go_wp2_with fail
              refine wp_region_later wr2 (by kernel_rfl) (by kernel_rfl) ((Below.refl _ _).drew) ?_
              repeat (go_big_quiet_step (first | (go_at_call 63; exact later_agg (l7Out_any _ _ l _ _ _ _ _ _ _ (by omega) HQ.out (HL.out.below (below_trans HBo.out (Later.below _))) k2 i2 hk2 hi2 e1 e2)) | (go_at_call 70; exact later_of (specOpenOf_any _ ((l[k]).peers[j]).E.out _ _ _ _ _ HYl.out (HYr.out.below (Later.below _))))))
              refine wpQuiet_nil ?_
              intro _ hw'
              obtain ⟨nx, rfl⟩ := hw'
              go_wp2
              exact ⟨⟨j + 1, by omega, by go_num, by rw [HT.out], box_on (by have t := HB2; rw [HPA.out] at t; exact t) nx.below⟩, by simp [intOf]; omega⟩
        · have hj' : ¬ (j : Int) < ((l[k]).peers.length : Int) := by omega
          have HT : Hid (flyS (l.map Nd.d) ((l.map Nd.d).take (k + 1)) = flyS (l.map Nd.d) ((l.map Nd.d).take k) + opnS (l.map Nd.d) (l[k]).id (((l[k]).peers.map Pr.d).take j)) := hide (by
            rw [take_map Nd.d hlt, flyS_append, List.take_of_length_le (show ((l[k]).peers.map Pr.d).length ≤ j by simp; omega)]
            have e : flyS (l.map Nd.d) [(l[k]).d] = opnS (l.map Nd.d) (l[k]).id ((l[k]).peers.map Pr.d) + 0 := rfl
            rw [e]; omega)
          go_wp2
          exact ⟨⟨k + 1, by omega, by go_num, by rw [HT.out], HBw.out⟩, by simp [intOf]; omega⟩
    · have hk' : ¬ (k : Int) < (l.length : Int) := by omega
      have HE : Hid ((l.map Nd.d).take k = (l.map Nd.d)) := hide (by rw [List.take_of_length_le (by simp; omega)])
      go_wp2
      go_ret
      exact ⟨by show Ending.returned (Value.int _ (flyS (l.map Nd.d) ((l.map Nd.d).take k))) = _; rw [HE.out], box_old HB⟩
set_option maxHeartbeats 4000000 in
theorem l7Whole_any (st : Int) (na : Option Addr) (l : List Nd) (nc : Nat) (ma : Option Addr) (nm mc : Nat) (w : World) (hst : 0 ≤ st ∧ st ≤ 1000000000000) (hl : l.length ≤ 8) (hok : NdsOk l) (hln : allTo (lnksB (l.map Nd.d)) l.length = true) (h : NodesAt w na l) :
    Calls Try.prog 41 #[.agg #[.int .i64 st, .slice na l.length nc, .slice ma nm mc]] w fun e w' => e = .returned (.bool (st + misS (l.map Nd.d) == flyS (l.map Nd.d) (l.map Nd.d))) ∧ Below w.heap.size w w' := by
  have HL : Hid _ := hide h
  have HLN : Hid _ := hide hln
  clear h hln
  obtain ⟨st0, st1⟩ := hst
  go_enter Try.func41, Try.ntmps41
  go_wp2
  go_loopw [3, 4] (fun s i wr => ∃ k : Nat, k ≤ l.length ∧ i = .int .i64 (k : Int) ∧ s = .int .i64 (st + misS ((l.map Nd.d).take k)) ∧ Below (w.heap.size + 1) (w.alloc (.cells #[.int .i64 st, .slice na l.length nc, .slice ma nm mc] 44)) wr) (fun s i wr => l.length - (intOf i).toNat)
  case atStart => exact ⟨0, Nat.zero_le _, rfl, by simp [misS], Below.refl _ _⟩
  case round =>
    obtain ⟨k, hk, rfl, rfl, HB⟩ := hrel
    have x0 := boxN HB 0 _ rfl
    have x1 := boxN HB 1 _ rfl
    have x2 := boxN HB 2 _ rfl
    by_cases hlt : k < l.length
    · obtain ⟨b, off, rfl, hb, c0, c1, c2, c3, c4, c5⟩ := nd_row (HL.out.row.below (box_old HB)) k hlt
      have hlt' : (k : Int) < (l.length : Int) := by omega
      obtain ⟨⟨m0, m1⟩, ⟨m2, m3⟩, ⟨m4, m5⟩⟩ := nodeB_nums (hok _ (List.getElem_mem hlt))
      obtain ⟨b0, b1⟩ := misS_bd (hok.take k)
      rw [List.map_take] at b0 b1
      have b2 : ((l.take k).length : Int) ≤ 8 := by rw [List.length_take]; omega
      have HT : Hid (st + misS ((l.map Nd.d).take (k + 1)) = st + misS ((l.map Nd.d).take k) + (l[k]).earned - (l[k]).spent - (l[k]).has) := hide (by
        rw [take_map Nd.d hlt, misS_append]
        have e : misS [(l[k]).d] = ((l[k]).earned - (l[k]).spent - (l[k]).has) + 0 := rfl
        rw [e]; omega)
      have b3 : -88000000000000 ≤ misS ((l.map Nd.d).take k) ∧ misS ((l.map Nd.d).take k) ≤ 8000000000000 := by omega
      obtain ⟨b4, b5⟩ := b3
      clear b0 b1 b2
      generalize misS ((l.map Nd.d).take k) = x at *
      have r1 : IntKind.i64.wrap (st + x + (l[k]).earned) = st + x + (l[k]).earned := wrap_id (by omega) (by omega)
      have r2 : IntKind.i64.wrap (st + x + (l[k]).earned - (l[k]).spent) = st + x + (l[k]).earned - (l[k]).spent := wrap_id (by omega) (by omega)
      have r3 : IntKind.i64.wrap (st + x + (l[k]).earned - (l[k]).spent - (l[k]).has) = st + x + (l[k]).earned - (l[k]).spent - (l[k]).has := wrap_id (by omega) (by omega)
      go_wp2_with fail
      go_quiet (fail)
      go_wp2
      exact ⟨⟨k + 1, by omega, by go_num, by rw [HT.out], below_drewN HB _⟩, by simp [intOf]; omega⟩
    · have hk' : ¬ (k : Int) < (l.length : Int) := by omega
      have HE : Hid ((l.map Nd.d).take k = (l.map Nd.d)) := hide (by rw [List.take_of_length_le (by simp; omega)])
      rw [HE.out]
      go_wp2_with fail
      refine (l7Flying_any _ _ l _ _ _ _ _ hl hok HLN.out (HL.out.below (box_old HB))).mono ?_
      rintro e w1 ⟨rfl, hb1⟩
      have HB1 : Hid _ := hide (below_trans (box_old HB) hb1)
      clear hb1
      go_wp2
      go_ret
      exact ⟨rfl, HB1.out⟩
end Go.Proofs.Ytpfghmghlklhgaa
