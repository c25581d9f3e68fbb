/- The contracts of the model's l7Msg, l7Flying and l7Whole. -/
import Derived.Test.YtpfghmghlklhgaaSW1
import Derived.Test.YtpfghmghlklhgaaIW3
namespace Go.Proofs.Ytpfghmghlklhgaa
open Go.ChangeShapes Go.WideShapes Go.ChangeAt Go.RowKit
set_option linter.unusedVariables false
set_option maxRecDepth 100000
theorem later_int2 {P : Program} {f : FuncId} {args : Array Value} {W : World} {x : Later W} {b b' : Int} (e : b = b') (h : Calls P f args x.w fun e w'' => e = .returned (.int .i64 b) ∧ ∃ y : Later W, w'' = y.w) : Calls P f args x.w fun e w'' => e = .returned (.int .i64 b') ∧ ∃ y : Later W, w'' = y.w := by rw [← e]; exact h
def msgB (l : List NdD) (m : Mg) : Bool := match endBet l m.fr m.«to» with
  | none => false
  | some E => flyB E m
theorem msgB_at {l : List NdD} {ms : List Mg} {k : Nat} (hk : k < ms.length) : netB l ms k = msgB l ms[k] := netB_at hk
/-- a message's parcel is among the open ones, with another amount -/
theorem fly_bad {E : En} {m : Mg} (hE : endB E = true) (q1 : (m.kind == 2) = false) (q2 : (m.kind == 1) = true) (q3 : inB 1 E.sent m.seq = true) (q4 : inB 1 1000000000000 m.amt = true) {j : Nat} (hj : j < E.out.length) (e1 : (E.out[j]).seq = m.seq) (e2 : (E.out[j]).amt ≠ m.amt) : flyB E m = false := by
  have hs := ((endB_parts hE).2.2.2 j hj).1
  rw [e1] at hs
  have i : (m.seq - (E.sent - (E.out.length : Int)) - 1).toNat = j := by omega
  have d : decide (m.seq ≤ E.sent - (E.out.length : Int)) = false := decide_eq_false (by omega)
  have a : (m.amt == (E.out[j]).amt) = false := by simp; exact fun h => e2 h.symm
  simp only [flyB, q1, q2, q3, q4, d, i, List.getElem?_eq_getElem hj, Option.elim_some, a]
  rfl
theorem fly_good {E : En} {m : Mg} (hE : endB E = true) (q1 : (m.kind == 2) = false) (q2 : (m.kind == 1) = true) (q3 : inB 1 E.sent m.seq = true) (q4 : inB 1 1000000000000 m.amt = true) (h : ∀ j (hj : j < E.out.length), (E.out[j]).seq = m.seq → (E.out[j]).amt = m.amt) : flyB E m = true := by
  have h3 : 1 ≤ m.seq ∧ m.seq ≤ E.sent := by simpa only [inB, decide_eq_true_eq] using q3
  by_cases d : m.seq ≤ E.sent - (E.out.length : Int)
  · simp only [flyB, q1, q2, q3, q4, decide_eq_true d]
    rfl
  · obtain ⟨j, hj⟩ : ∃ j : Nat, m.seq - (E.sent - (E.out.length : Int)) - 1 = (j : Int) := ⟨(m.seq - (E.sent - (E.out.length : Int)) - 1).toNat, by omega⟩
    have hjl : j < E.out.length := by omega
    have hs := ((endB_parts hE).2.2.2 j hjl).1
    have e := h j hjl (by omega)
    have a : (m.amt == (E.out[j]).amt) = true := by simp [e]
    simp only [flyB, q1, q2, q3, q4, hj, Int.toNat_natCast, List.getElem?_eq_getElem hjl, Option.elim_some, a, decide_eq_false d]
    rfl
set_option maxHeartbeats 8000000 in
theorem l7Msg_any (st : Int) (na : Option Addr) (l : List Nd) (nc : Nat) (ma : Option Addr) (nm mc : Nat) (m : Mg) (w : World) (hl : l.length ≤ 8) (hok : NdsOk l) (hln : allTo (lnksB (l.map Nd.d)) l.length = true) (h : NodesAt w na l) :
    Calls Try.prog 40 #[.agg #[.int .i64 st, .slice na l.length nc, .slice ma nm mc], .agg #[.int .i64 m.fr, .int .i64 m.«to», .int .i64 m.kind, .int .i64 m.seq, .int .i64 m.amt]] w fun e w' => e = .returned (.bool (msgB (l.map Nd.d) m)) ∧ Below w.heap.size w w' := by
  have HL : Hid _ := hide h
  have HQ : Hid _ := hide (fun n hn => Nat.le_trans (nodeB_len (hok n hn)).1 (by decide : (8 : Nat) ≤ 1048576))
  have HLN : Hid _ := hide hln
  clear h hln
  obtain ⟨w2, hw2⟩ : ∃ w2, w2 = (w.alloc (.cells #[.int .i64 st, .slice na l.length nc, .slice ma nm mc] 44)).alloc (.cells #[.int .i64 m.fr, .int .i64 m.«to», .int .i64 m.kind, .int .i64 m.seq, .int .i64 m.amt] 72) := ⟨_, rfl⟩
  have sz1 : (w.alloc (.cells #[.int .i64 st, .slice na l.length nc, .slice ma nm mc] 44)).heap.size = w.heap.size + 1 := by simp
  have sz2 : w2.heap.size = w.heap.size + 2 := by rw [hw2]; simp
  have KW : Hid (Blk w.heap.size [.int .i64 st, .slice na l.length nc, .slice ma nm mc] w2) := hide (by rw [hw2]; exact Blk.new.alloc _)
  have KM : Hid (Blk (w.heap.size + 1) [.int .i64 m.fr, .int .i64 m.«to», .int .i64 m.kind, .int .i64 m.seq, .int .i64 m.amt] w2) := hide (by rw [hw2, ← sz1]; exact Blk.new)
  have HB2 : Hid (Below w.heap.size w w2) := hide (by rw [hw2]; exact below_alloc (below_alloc (Below.refl _ _) _) _)
  have HW : Hid ((w.alloc (.cells #[.int .i64 st, .slice na l.length nc, .slice ma nm mc] 44)).alloc (.cells #[.int .i64 m.fr, .int .i64 m.«to», .int .i64 m.kind, .int .i64 m.seq, .int .i64 m.amt] 72) = w2) := hide hw2.symm
  clear hw2 sz1 sz2
  go_enter Try.func40, Try.ntmps40
  go_wp2_with fail
  rw [HW.out]
  refine (l7Node_any _ _ l _ _ _ _ _ _ (by omega) (HL.out.row.below HB2.out)).mono ?_
  rintro e w3 ⟨rfl, hb3⟩
  have HB3 : Hid (Below w2.heap.size w2 w3) := hide hb3
  clear hb3
  have x0 := (KW.out.below HB3.out).c 0 _ rfl
  have x1 := (KW.out.below HB3.out).c 1 _ rfl
  have x2 := (KW.out.below HB3.out).c 2 _ rfl
  have m1 := (KM.out.below HB3.out).c 1 _ rfl
  go_wp2_with fail
  refine (l7Node_any _ _ l _ _ _ _ _ _ (by omega) (HL.out.row.below (below_trans HB2.out HB3.out))).mono ?_
  rintro e w4 ⟨rfl, hb4⟩
  have HB4 : Hid (Below w2.heap.size w2 w4) := hide (below_trans HB3.out hb4)
  have HBo : Hid (Below w.heap.size w w4) := hide (below_trans HB2.out HB4.out)
  clear hb4 x0 x1 x2 m1 HB3
  have x0 := (KW.out.below HB4.out).c 0 _ rfl
  have x1 := (KW.out.below HB4.out).c 1 _ rfl
  have x2 := (KW.out.below HB4.out).c 2 _ rfl
  have m0 := (KM.out.below HB4.out).c 0 _ rfl
  have m1 := (KM.out.below HB4.out).c 1 _ rfl
  cases e1 : fi (l.map Nd.id) m.fr with
  | none =>
    have HR : Hid (msgB (l.map Nd.d) m = false) := hide (by unfold msgB; rw [endBet_miss e1])
    have hi : ixV none = -1 := rfl
    go_wp2_with fail
    go_quiet (fail)
    go_wp2
    go_ret
    exact ⟨by rw [HR.out]; rfl, below_drewN HBo.out _⟩
  | some k2 =>
    obtain ⟨hk2', _⟩ := fi_some e1
    have hk2 : k2 < l.length := by simpa using hk2'
    have hi : ixV (some k2) = (k2 : Int) := rfl
    have hk20 : decide ((k2 : Int) < 0) = false := by simp
    have hk22 : (0 : Int) ≤ (k2 : Int) := by omega
    have hk21 : (k2 : Int) < (l.length : Int) := by omega
    cases e3 : fi (l.map Nd.id) m.«to» with
    | none =>
      have HR : Hid (msgB (l.map Nd.d) m = false) := hide (by
        unfold msgB
        rw [endBet_hit e1 hk2]
        cases e2 : fi ((l[k2]).peers.map Pr.id) m.«to» with
        | none => rfl
        | some i2 =>
          exfalso
          obtain ⟨hi2', hid2⟩ := fi_some e2
          have hi2 : i2 < (l[k2]).peers.length := by simpa using hi2'
          have t := allTo_get HLN.out hk2
          rw [lnksB_at hk2] at t
          have t2 := allTo_get t hi2
          rw [lnkAt_at hi2] at t2
          have e4 : ((l[k2]).peers[i2]).id = m.«to» := by simpa using hid2
          have t3 : lnkB (l.map Nd.d) (l[k2]).id ⟨((l[k2]).peers[i2]).id, ((l[k2]).peers[i2]).E⟩ = false := by simp only [lnkB, e4, endBet_miss e3]
          rw [show (((l[k2]).peers[i2])).d = ⟨((l[k2]).peers[i2]).id, ((l[k2]).peers[i2]).E⟩ from rfl, t3] at t2
          cases t2)
      have hj : ixV none = -1 := rfl
      go_wp2_with fail
      go_quiet (fail)
      go_wp2
      go_ret
      exact ⟨by rw [HR.out]; rfl, below_drewN HBo.out _⟩
    | some k3 =>
      have hj : ixV (some k3) = (k3 : Int) := rfl
      have hk30 : decide ((k3 : Int) < 0) = false := by simp
      have hk32 : (0 : Int) ≤ (k3 : Int) := by omega
      have HNL : Hid (NodesAt w4 na l) := hide (HL.out.below HBo.out)
      obtain ⟨lb, loff, rfl, hlb, n0, n1, n2, n3, n4, n5⟩ := nd_row HNL.out.row k2 hk2
      have HN2 : Hid (NodeAt w4 l[k2]) := hide (HNL.out.each _ (List.getElem_mem hk2))
      have hne : Nonempty (Later w4) := later_there _
      have x1' := later_cell x1
      have m1' := later_cell m1
      have n0' := later_cell n0
      have n1' := later_cell n1
      have n2' := later_cell n2
      have n3' := later_cell n3
      have n4' := later_cell n4
      have n5' := later_cell n5
      cases e2 : fi ((l[k2]).peers.map Pr.id) m.«to» with
      | none =>
        have HI2 : Hid (ixV (fi ((l[k2]).peers.map Pr.id) m.«to») = -1) := hide (by rw [e2]; rfl)
        have HR : Hid (msgB (l.map Nd.d) m = false) := hide (by unfold msgB; rw [endBet_hit e1 hk2, e2])
        go_wp2_with fail
        refine wp_region_later w4 (by kernel_rfl) (by kernel_rfl) ((Below.refl _ _).drew) ?_
        repeat (go_big_quiet_step (first | (go_at_call 62; exact later_int2 HI2.out (later_of (l6Peer_any l[k2] _ _ (HQ.out _ (List.getElem_mem hk2)) (HN2.out.peers.row.below (Later.below _)))))))
        refine wpQuiet_nil ?_
        intro _ hw'
        obtain ⟨nx, rfl⟩ := hw'
        go_wp2
        go_ret
        exact ⟨by rw [HR.out]; rfl, below_trans HBo.out nx.below⟩
      | some i2 =>
        obtain ⟨hi2', _⟩ := fi_some e2
        have hi2 : i2 < (l[k2]).peers.length := by simpa using hi2'
        have HI2 : Hid (ixV (fi ((l[k2]).peers.map Pr.id) m.«to») = (i2 : Int)) := hide (by rw [e2]; rfl)
        have hi20 : decide ((i2 : Int) < 0) = false := by simp
        have HEQ : Hid (endB ((l[k2]).peers[i2]).E = true) := hide (nodeB_peer (hok _ (List.getElem_mem hk2)) _ (List.getElem_mem hi2))
        have HR0 : Hid (msgB (l.map Nd.d) m = flyB ((l[k2]).peers[i2]).E m) := hide (by unfold msgB; rw [endBet_hit e1 hk2, e2]; simp only [List.getElem?_eq_getElem hi2, Option.map_some])
        go_wp2_with fail
        refine wp_region_later w4 (by kernel_rfl) (by kernel_rfl) ((Below.refl _ _).drew) ?_
        repeat (go_big_quiet_step (first | (go_at_call 62; exact later_int2 HI2.out (later_of (l6Peer_any l[k2] _ _ (HQ.out _ (List.getElem_mem hk2)) (HN2.out.peers.row.below (Later.below _)))))))
        refine wpQuiet_nil ?_
        intro _ hw'
        obtain ⟨nx, rfl⟩ := hw'
        have HB5 : Hid (Below w2.heap.size w2 nx.w) := hide (below_trans HB4.out nx.below)
        have HB5o : Hid (Below w.heap.size w nx.w) := hide (below_trans HBo.out nx.below)
        have HNL5 : Hid _ := hide (HNL.out.below nx.below)
        clear x1' m1' n0' n1' n2' n3' n4' n5' n0 n1 n2 n3 n4 n5 x0 x1 x2 m0 m1 hne
        obtain ⟨wx, hwx⟩ : ∃ wx, wx = nx.w := ⟨_, rfl⟩
        rw [← hwx] at HB5 HB5o HNL5 ⊢
        clear hwx nx
        have x0 := (KW.out.below HB5.out).c 0 _ rfl
        have x1 := (KW.out.below HB5.out).c 1 _ rfl
        have x2 := (KW.out.below HB5.out).c 2 _ rfl
        have m0 := (KM.out.below HB5.out).c 0 _ rfl
        have m1 := (KM.out.below HB5.out).c 1 _ rfl
        go_wp2_with fail
        refine (l7Out_any _ _ l _ _ _ _ _ _ _ (by omega) HQ.out HNL5.out k2 i2 hk2 hi2 e1 e2).mono ?_
        rintro e w6 ⟨rfl, hb6⟩
        have HB6 : Hid (Below w2.heap.size w2 w6) := hide (below_trans HB5.out hb6)
        have HB6o : Hid (Below w.heap.size w w6) := hide (below_trans HB5o.out hb6)
        have HRw : Hid (RowAt 2 prcCells w ((l[k2]).peers[i2]).a ((l[k2]).peers[i2]).E.out) := hide ((HL.out.each _ (List.getElem_mem hk2)).peers.ends _ (List.getElem_mem hi2))
        clear hb6 x0 x1 x2 m0 m1 e1 e2 e3 hi hj
        obtain ⟨E, hE⟩ : ∃ E, E = ((l[k2]).peers[i2]).E := ⟨_, rfl⟩
        obtain ⟨qa, hqa⟩ : ∃ qa, qa = ((l[k2]).peers[i2]).a := ⟨_, rfl⟩
        obtain ⟨qc, hqc⟩ : ∃ qc, qc = ((l[k2]).peers[i2]).cap := ⟨_, rfl⟩
        rw [← hE, ← hqa] at HRw
        rw [← hE] at HEQ HR0
        rw [← hE, ← hqa, ← hqc]
        clear hE hqa hqc HI2 HN2 HNL HNL5
        have m2 := (KM.out.below HB6.out).c 2 _ rfl
        have m3 := (KM.out.below HB6.out).c 3 _ rfl
        have m4 := (KM.out.below HB6.out).c 4 _ rfl
        have hb1 : w.heap.size + 1 < w6.heap.size := (KM.out.below HB6.out).lt
        have HB7 : Hid (Below w.heap.size w (w6.alloc (.cells #[.slice qa E.out.length qc, .int .i64 E.sent, .int .i64 E.got] 56))) := hide (below_alloc HB6o.out _)
        have h8 : E.out.length ≤ 8 := (endB_parts HEQ.out).1
        cases q1 : (m.kind == 2)
        · cases q2 : (m.kind == 1)
          · have q2' : (m.kind != 1) = true := by simp [bne, q2]
            have HR : Hid (flyB E m = false) := hide (by simp only [flyB, q1, q2]; rfl)
            go_wp2
            go_ret
            exact ⟨by rw [HR0.out, HR.out]; rfl, HB7.out⟩
          · have q2' : (m.kind != 1) = false := by simp [bne, q2]
            cases q3 : inB 1 E.sent m.seq
            · have HR : Hid (flyB E m = false) := hide (by simp only [flyB, q1, q2, q3]; rfl)
              go_wp2_with (first | (go_at_call 26; refine (l1In_any _ _ _ _).mono ?_; rintro e w' ⟨rfl, hw'⟩; have hw'' := hw'.symm; subst hw''))
              go_ret
              exact ⟨by rw [HR0.out, HR.out]; rfl, HB7.out⟩
            · cases q4 : inB 1 1000000000000 m.amt
              · have HR : Hid (flyB E m = false) := hide (by simp only [flyB, q1, q2, q3, q4]; rfl)
                go_wp2_with (first | (go_at_call 26; refine (l1In_any _ _ _ _).mono ?_; rintro e w' ⟨rfl, hw'⟩; have hw'' := hw'.symm; subst hw''))
                go_ret
                exact ⟨by rw [HR0.out, HR.out]; rfl, HB7.out⟩
              · have HFB : Hid (∀ j (hj : j < E.out.length), (E.out[j]).seq = m.seq → (E.out[j]).amt ≠ m.amt → flyB E m = false) := hide (fun j hj a b => fly_bad HEQ.out q1 q2 q3 q4 hj a b)
                have HFG : Hid ((∀ j (hj : j < E.out.length), (E.out[j]).seq = m.seq → (E.out[j]).amt = m.amt) → flyB E m = true) := hide (fun h => fly_good HEQ.out q1 q2 q3 q4 h)
                have KE7 : Hid (Blk w6.heap.size [.slice qa E.out.length qc, .int .i64 E.sent, .int .i64 E.got] (w6.alloc (.cells #[.slice qa E.out.length qc, .int .i64 E.sent, .int .i64 E.got] 56))) := hide Blk.new
                have KM7 : Hid (Blk (w.heap.size + 1) [.int .i64 m.fr, .int .i64 m.«to», .int .i64 m.kind, .int .i64 m.seq, .int .i64 m.amt] (w6.alloc (.cells #[.slice qa E.out.length qc, .int .i64 E.sent, .int .i64 E.got] 56))) := hide ((KM.out.below HB6.out).alloc _)
                go_wp2_with (first | (go_at_call 26; refine (l1In_any _ _ _ _).mono ?_; rintro e w' ⟨rfl, hw'⟩; have hw'' := hw'.symm; subst hw'') | fail)
                go_loopw [8] (fun i wr => ∃ k : Nat, k ≤ E.out.length ∧ i = .int .i64 (k : Int) ∧ Below (w6.alloc (.cells #[.slice qa E.out.length qc, .int .i64 E.sent, .int .i64 E.got] 56)).heap.size (w6.alloc (.cells #[.slice qa E.out.length qc, .int .i64 E.sent, .int .i64 E.got] 56)) wr ∧ Hid (∀ j (hj : j < E.out.length), j < k → (E.out[j]).seq = m.seq → (E.out[j]).amt = m.amt)) (fun i wr => E.out.length - (intOf i).toNat)
                case atStart => exact ⟨0, Nat.zero_le _, rfl, Below.refl _ _, hide (fun j _ hj => by omega)⟩
                case round =>
                  clear m2 m3 m4
                  obtain ⟨k, hk, rfl, HB, HG⟩ := hrel
                  have HBr : Hid (Below w.heap.size w wr) := hide (below_trans HB7.out HB)
                  have v0 := (KE7.out.below HB).c 0 _ rfl
                  have m3 := (KM7.out.below HB).c 3 _ rfl
                  have m4 := (KM7.out.below HB).c 4 _ rfl
                  by_cases hlt : k < E.out.length
                  · obtain ⟨pb, poff, rfl, hpb, d0, d1⟩ := prc_row (HRw.out.below HBr.out) k hlt
                    have hlt' : (k : Int) < (E.out.length : Int) := by omega
                    cases g1 : ((E.out[k]).seq == m.seq)
                    · have HG2 : Hid (∀ j (hj : j < E.out.length), j < k + 1 → (E.out[j]).seq = m.seq → (E.out[j]).amt = m.amt) := hide (fun j hj hjk => by
                        rcases Nat.lt_or_ge j k with hh | hh
                        · exact HG.out j hj hh
                        · obtain rfl : j = k := by omega
                          intro e; simp [e] at g1)
                      go_wp2_with fail
                      go_quiet (fail)
                      go_wp2
                      exact ⟨⟨k + 1, by omega, by go_num, below_drewN HB _, HG2⟩, by simp [intOf]; omega⟩
                    · have g1' : (E.out[k]).seq = m.seq := by simpa using g1
                      cases g2 : ((E.out[k]).amt != m.amt)
                      · have HG2 : Hid (∀ j (hj : j < E.out.length), j < k + 1 → (E.out[j]).seq = m.seq → (E.out[j]).amt = m.amt) := hide (fun j hj hjk => by
                          rcases Nat.lt_or_ge j k with hh | hh
                          · exact HG.out j hj hh
                          · obtain rfl : j = k := by omega
                            intro _; simpa using g2)
                        clear g1'
                        go_wp2_with fail
                        go_quiet (fail)
                        go_wp2
                        exact ⟨⟨k + 1, by omega, by go_num, below_drewN HB _, HG2⟩, by simp [intOf]; omega⟩
                      · have HR : Hid (flyB E m = false) := hide (HFB.out k hlt g1' (by simpa using g2))
                        clear g1'
                        go_wp2_with fail
                        go_quiet (fail)
                        go_wp2
                        go_ret
                        exact ⟨by rw [HR0.out, HR.out]; rfl, below_drewN HBr.out _⟩
                  · have hk' : ¬ (k : Int) < (E.out.length : Int) := by omega
                    have HR : Hid (flyB E m = true) := hide (HFG.out (fun j hj => HG.out j hj (by omega)))
                    go_wp2
                    go_ret
                    exact ⟨by rw [HR0.out, HR.out]; rfl, HBr.out⟩
        · cases q2 : inB 0 E.got m.seq
          · have HR : Hid (flyB E m = false) := hide (by simp only [flyB, q1, q2]; simp)
            go_wp2_with (first | (go_at_call 26; refine (l1In_any _ _ _ _).mono ?_; rintro e w' ⟨rfl, hw'⟩; have hw'' := hw'.symm; subst hw''))
            go_ret
            exact ⟨by rw [HR0.out, HR.out]; rfl, HB7.out⟩
          · have HR : Hid (flyB E m = (m.amt == 0)) := hide (by simp only [flyB, q1, q2]; simp)
            go_wp2_with (first | (go_at_call 26; refine (l1In_any _ _ _ _).mono ?_; rintro e w' ⟨rfl, hw'⟩; have hw'' := hw'.symm; subst hw''))
            go_ret
            exact ⟨by rw [HR0.out, HR.out]; rfl, HB7.out⟩
end Go.Proofs.Ytpfghmghlklhgaa
