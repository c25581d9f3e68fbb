/- The law FnPosted: what is posted leaves the one account and comes to the other one; all others stay. -/
import Derived.Test.YtjjoeajnhblacaaGreatDoorLPo
namespace Go.Proofs.YtjjoeajnhblacaaGreatDoor
open Go.ChangeShapes Go.WideShapes Go.ChangeAt Go.RowKit
set_option linter.unusedVariables false
set_option maxRecDepth 100000
/-- what a post has made of an account -/
def pstV (D : Led) (i j : Nat) (am : Int) (m : Nat) (po : Int) : Int := po + (if m = i then -am else 0) + (if m = j then am else 0)
set_option maxHeartbeats 16000000 in
theorem walkPosted (a0 : Option Addr) (len cap : Nat) (aA aD : Addr) (w : World) (h : IsCode w a0 len) (hv : VarsAt aA aD w) : Calls Tryz.prog 6 #[.slice a0 len cap] w fun e w' => YesEnd w e w' := by
  have H : Hid _ := hide h
  have HV : Hid _ := hide hv
  clear h hv
  go_enter Tryz.func6, Tryz.ntmps6
  go_wp2_with fail
  refine (big_any a0 len cap w).mono ?_
  rintro e w' ⟨rfl, hw'⟩
  rw [hw']
  clear hw' w'
  by_cases hbig : (1048576 : Int) < (len : Int)
  · go_wp2
    go_ret
    exact ⟨rfl, Below.refl _ _⟩
  · go_wp2_with fail
    refine (drawApplied_any a0 len cap w H.out).mono ?_
    rintro e w1 ⟨p, D, c, rfl, hpk, hf, hcf, hct, hp1⟩
    have HK : Hid (PlOk p D) := hide hpk
    have HF : Hid (LedF D) := hide hf
    have HC : Hid (c.fr.size ≤ maxLen ∧ c.to.size ≤ maxLen) := hide ⟨Nat.le_trans hcf (by decide), Nat.le_trans hct (by decide)⟩
    have HP1 : Hid (Pool [] w [[], [], [], [], ledL p D, [], []] w1) := hide (hp1.cast (by simp))
    have HN : Hid (D.acc.length ≤ 1048576 ∧ D.hold.length ≤ 1048576 ∧ D.seen.length ≤ 1048576) := hide (by have := hf.a; have := hf.h; have := hf.s; omega)
    clear hpk hf hcf hct hp1 H
    unfold ledV Cm.v
    go_wp2_with fail
    refine cnm_calls (fun W3 hW3 => ?_)
    have HP3 : Hid (Pool [] w [[blk w1.heap.size (ledC p D)], [blk (w1.heap.size + 1) c.cells], [], [], ledL p D, [], []] W3) := hide (by
      have p1 := HP1.out.newBlk (i := 0) rfl (ledC p D) 28
      have s1 : (w1.alloc (.cells (ledC p D).toArray 28)).heap.size = w1.heap.size + 1 := by simp
      have p2 := p1.newBlk (i := 1) rfl c.cells 30
      rw [s1] at p2
      rw [hW3]; exact p2)
    clear hW3 HP1
    obtain ⟨R, hR⟩ : ∃ R, R = applM D c := ⟨_, rfl⟩
    refine (implApplied_any p D c aA aD W3 HN.out.1 HN.out.2.1 HN.out.2.2 HC.out.1 HC.out.2 HK.out (PlOk.led HF.out.w (HP3.out.get (i := 4) rfl)) (HV.out.below HP3.out.below)).mono ?_
    rintro e w4 ⟨q, rfl, hqk, hq⟩
    rw [← hR] at hqk hq ⊢
    obtain ⟨⟨A1, H1, S1⟩, k⟩ := R
    dsimp only at hqk hq
    have HQK : Hid (PlOk q ⟨A1, H1, S1⟩) := hide hqk
    have HP4 : Hid (Pool [] w [[blk w1.heap.size (ledC p D)], [blk (w1.heap.size + 1) c.cells], [], [], ledL p D, ledL q ⟨A1, H1, S1⟩, []] w4) := hide (HP3.out.call (i := 5) rfl hq)
    have HR : Hid ((⟨A1, H1, S1⟩, k) = applM D c) := hide hR
    clear hqk hq HP3 hR
    unfold ledV
    dsimp only
    go_upto_region 5 with fail
    refine cnm_world (fun W5 hW5 => ?_)
    have HP5 : Hid (Pool [] w [[blk w1.heap.size (ledC p D)], [blk (w1.heap.size + 1) c.cells], [blk w4.heap.size (ledC q ⟨A1, H1, S1⟩)], [], ledL p D, ledL q ⟨A1, H1, S1⟩, []] W5) := hide (by
      have p1 := HP4.out.newBlk (i := 2) rfl (ledC q ⟨A1, H1, S1⟩) 28
      rw [hW5]; exact p1)
    clear hW5 HP4
    have n_0 := (HP5.out.blkAt (i := 0) rfl).c 0 _ rfl
    have n_1 := (HP5.out.blkAt (i := 0) rfl).c 1 _ rfl
    have n_2 := (HP5.out.blkAt (i := 0) rfl).c 2 _ rfl
    have a_0 := (HP5.out.blkAt (i := 1) rfl).c 0 _ rfl
    have a_1 := (HP5.out.blkAt (i := 1) rfl).c 1 _ rfl
    have a_2 := (HP5.out.blkAt (i := 1) rfl).c 2 _ rfl
    have a_3 := (HP5.out.blkAt (i := 1) rfl).c 3 _ rfl
    have a_4 := (HP5.out.blkAt (i := 1) rfl).c 4 _ rfl
    have a_5 := (HP5.out.blkAt (i := 1) rfl).c 5 _ rfl
    go_wp2_with fail
    refine (specApplied_any p D c W5 HN.out.1 HN.out.2.1 HN.out.2.2 HC.out.1 HC.out.2 HK.out (PlOk.led HF.out.w (HP5.out.get (i := 4) rfl))).mono ?_
    rintro e w6 ⟨q2, rfl, hqk, hq⟩
    rw [← HR.out] at hqk hq ⊢
    dsimp only at hqk hq
    have HQK2 : Hid (PlOk q2 ⟨A1, H1, S1⟩) := hide hqk
    have HP6 : Hid (Pool [] w [[blk w1.heap.size (ledC p D)], [blk (w1.heap.size + 1) c.cells], [blk w4.heap.size (ledC q ⟨A1, H1, S1⟩)], [], ledL p D, ledL q ⟨A1, H1, S1⟩, ledL q2 ⟨A1, H1, S1⟩] w6) := hide (HP5.out.call (i := 6) rfl hq)
    clear hqk hq HP5 n_0 n_1 n_2 a_0 a_1 a_2 a_3 a_4 a_5
    unfold ledV
    dsimp only
    go_upto_region 6 with fail
    refine cnm_world (fun W7 hW7 => ?_)
    have HP7 : Hid (Pool [] w [[blk w1.heap.size (ledC p D)], [blk (w1.heap.size + 1) c.cells], [blk w4.heap.size (ledC q ⟨A1, H1, S1⟩)], [blk w6.heap.size (ledC q2 ⟨A1, H1, S1⟩)], ledL p D, ledL q ⟨A1, H1, S1⟩, ledL q2 ⟨A1, H1, S1⟩] W7) := hide (by
      have p1 := HP6.out.newBlk (i := 3) rfl (ledC q2 ⟨A1, H1, S1⟩) 28
      rw [hW7]; exact p1)
    clear hW7 HP6
    have HBL : Hid (Below w.heap.size w W7) := hide HP7.out.below
    by_cases k0 : k = 0
    · subst k0
      have a_1 := (HP7.out.blkAt (i := 1) rfl).c 1 _ rfl
      by_cases kd : c.kind = 2
      · have kd' : (c.kind != 2) = false := by simp [kd]
        have HKd : Hid (c.kind = 2) := hide kd
        clear kd
        have n_2 := (HP7.out.blkAt (i := 2) rfl).c 2 _ rfl
        have l_2 := (HP7.out.blkAt (i := 0) rfl).c 2 _ rfl
        by_cases hl : S1.length = D.seen.length
        · have hl' : ((S1.length : Int) == (D.seen.length : Int)) = true := by rw [hl]; simp
          clear hl
          go_wp2_with fail
          go_ret
          exact ⟨rfl, HBL.out⟩
        · have hl' : ((S1.length : Int) == (D.seen.length : Int)) = false := by simp only [beq_eq_false_iff_ne, ne_eq]; omega
          have HLn : Hid (S1.length ≠ D.seen.length) := hide hl
          clear hl
          have hs : ledS D = true := applM_one (c := c) (by rw [← HR.out]; show (0 : Int) ≠ 1; decide)
          have hpo := posted (c := c) hs (by rw [← HR.out]) HKd.out (by rw [← HR.out]; exact HLn.out)
          rw [← HR.out] at hpo
          dsimp only at hpo
          obtain ⟨hB, i, j, hi, hj, e1, e2, eA, eH⟩ := hpo
          have hcp := (cmdB_parts hB).2
          have HCp : Hid (c.fr ≠ c.to ∧ 1 ≤ c.am ∧ c.am ≤ 1000000000000) := hide (by
            have kd := HKd.out
            rcases hcp with ⟨z, _⟩ | ⟨_, _, _, z⟩ | ⟨z, _⟩
            · omega
            · exact z
            · omega)
          clear hcp
          have HAl : Hid (A1.length = D.acc.length) := hide (by rw [eA, payA_len])
          have HFY : Hid (LedF ⟨A1, H1, S1⟩) := hide (by have z := rt_appl (c := c) hs; rw [← HR.out] at z; exact led_f z)
          have HAt : Hid (∀ m (hm : m < D.acc.length), ∃ hm' : m < A1.length, idxA A1 D.acc[m].name = some m ∧ A1[m] = ⟨D.acc[m].name, D.acc[m].cur, D.acc[m].limit, pstV D i j c.am m D.acc[m].posted⟩ ∧ (D.acc[m].name = c.fr ↔ m = i) ∧ (D.acc[m].name = c.to ↔ m = j) ∧ -1000000000000 ≤ D.acc[m].posted ∧ D.acc[m].posted ≤ 1000000000000) := hide (fun m hm => by
            have r := rt_of hs
            have hm' : m < (payA D.acc i j c.am).length := by rw [payA_len]; exact hm
            obtain ⟨_, ni, _⟩ := idxA_lt e1
            obtain ⟨_, nj, _⟩ := idxA_lt e2
            have hw := (r.ac _ (List.getElem_mem hm)).2.2.2.1
            simp only [withinB, Bool.and_eq_true] at hw
            have hb := inB_iff.1 hw.1.1
            subst eA
            refine ⟨hm', posted_idx hs hm, payA_at hi hj hm c.am hm', ⟨fun e => srt_inj r.srt hm hi (e.trans ni.symm), fun e => by subst e; exact ni⟩, ⟨fun e => srt_inj r.srt hm hj (e.trans nj.symm), fun e => by subst e; exact nj⟩, hb.1, hb.2⟩)
          have HH : Hid (H1 = D.hold) := hide eH
          clear hB hi hj e1 e2 eA eH hs
          have HQ7 : Hid (Pool [] w [[blk w1.heap.size (ledC p D)], [blk (w1.heap.size + 1) c.cells], [blk w4.heap.size (ledC q ⟨A1, H1, S1⟩)], [blk w6.heap.size (ledC q2 ⟨A1, H1, S1⟩)], ledL p D, ledL q ⟨A1, H1, S1⟩, ledL q2 ⟨A1, H1, S1⟩, [], []] W7) := hide (HP7.out.cast (by simp))
          clear HP7
          go_wp2_with fail
          go_loopw [9] (fun i wr => ∃ m : Nat, m ≤ D.acc.length ∧ i = .int .i64 (m : Int) ∧ Hid (Pool [] w [[blk w1.heap.size (ledC p D)], [blk (w1.heap.size + 1) c.cells], [blk w4.heap.size (ledC q ⟨A1, H1, S1⟩)], [blk w6.heap.size (ledC q2 ⟨A1, H1, S1⟩)], ledL p D, ledL q ⟨A1, H1, S1⟩, ledL q2 ⟨A1, H1, S1⟩, [], []] wr)) (fun i wr => D.acc.length - (intOf i).toNat)
          case atStart => exact ⟨0, Nat.zero_le _, rfl, HQ7⟩
          case round =>
            clear HQ7 a_1 n_2 l_2
            obtain ⟨m, hm, rfl, HP⟩ := hrel
            rename World => wr
            have l_0 := (HP.out.blkAt (i := 0) rfl).c 0 _ rfl
            have hdl : D.acc.length ≤ 1048576 := HN.out.1
            by_cases hlt : m < D.acc.length
            · have hlt' : (m : Int) < (D.acc.length : Int) := by omega
              obtain ⟨hm', hid, hat, hfr, hto, hb1, hb2⟩ := HAt.out m hlt
              have HId : Hid _ := hide hid
              have HAt2 : Hid _ := hide hat
              obtain ⟨b, off, ha, hb, c0, c1, c2, c3⟩ := acc_row2 ((HP.out.get (i := 4) rfl).get (r := orow 4 accCells p.aa p.ca D.acc) (by simp [ledL])).2.rows m hlt
              have HA : Hid _ := hide ha
              rw [ha] at l_0
              clear ha hid hat
              obtain ⟨x, hx⟩ : ∃ x, x = D.acc[m] := ⟨_, rfl⟩
              rw [← hx] at c0 c1 c2 c3 hfr hto hb1 hb2
              have HX : Hid (x = D.acc[m]) := hide hx
              clear hx
              go_upto_region 12 with fail
              refine cnm_world (fun W1 hW1 => ?_)
              have HP1 : Hid (Pool [] w [[blk w1.heap.size (ledC p D)], [blk (w1.heap.size + 1) c.cells], [blk w4.heap.size (ledC q ⟨A1, H1, S1⟩)], [blk w6.heap.size (ledC q2 ⟨A1, H1, S1⟩)], ledL p D, ledL q ⟨A1, H1, S1⟩, ledL q2 ⟨A1, H1, S1⟩, [blk wr.heap.size (accCells x)], []] W1) := hide (by
                have p1 := HP.out.newBlk (i := 7) rfl (accCells x) 37
                rw [hW1]; exact p1)
              clear hW1 c0 c1 c2 c3
              have n_0 := (HP1.out.blkAt (i := 2) rfl).c 0 _ rfl
              have n_1 := (HP1.out.blkAt (i := 2) rfl).c 1 _ rfl
              have n_2 := (HP1.out.blkAt (i := 2) rfl).c 2 _ rfl
              have x_0 := (HP1.out.blkAt (i := 7) rfl).c 0 _ rfl
              go_wp2_with fail
              refine (account_any q ⟨A1, H1, S1⟩ x.name W1 (by have f := HFY.out; have h1 : A1.length ≤ 1000 := f.a; show A1.length ≤ 1048576; omega) ((HP1.out.get (i := 5) rfl).get (r := orow 4 accCells q.aa q.ca A1) (by simp [ledL])).2.rows).mono ?_
              rintro e w3 hacc
              obtain ⟨rfl, hb3⟩ : e = .returned (.tuple #[.agg #[.string x.name, .string x.cur, .int .i64 x.limit, .int .i64 (pstV D i j c.am m x.posted)], .bool true]) ∧ Below W1.heap.size W1 w3 := by
                have hxx := HX.out
                rcases hacc with ⟨i', hi', z1, z2, z3⟩ | ⟨z, _⟩
                · have z4 := HId.out
                  rw [← hxx] at z4
                  have z5 := z1.symm.trans z4
                  cases z5
                  refine ⟨?_, z3⟩
                  rw [z2]
                  have z6 := HAt2.out
                  simp only at z6 ⊢
                  rw [z6, ← hxx]
                  rfl
                · have z4 := HId.out
                  rw [← hxx] at z4
                  rw [z4] at z
                  cases z
              have HP3 : Hid (Pool [] w [[blk w1.heap.size (ledC p D)], [blk (w1.heap.size + 1) c.cells], [blk w4.heap.size (ledC q ⟨A1, H1, S1⟩)], [blk w6.heap.size (ledC q2 ⟨A1, H1, S1⟩)], ledL p D, ledL q ⟨A1, H1, S1⟩, ledL q2 ⟨A1, H1, S1⟩, [blk wr.heap.size (accCells x)], []] w3) := hide (HP1.out.keep hb3)
              clear hacc hb3 HP1 n_0 n_1 n_2 x_0
              obtain ⟨pv, hpv⟩ : ∃ pv, pv = pstV D i j c.am m x.posted := ⟨_, rfl⟩
              rw [← hpv]
              have HPV : Hid (pv = pstV D i j c.am m x.posted) := hide hpv
              clear hpv
              go_upto_region 13 with fail
              refine cnm_world (fun W4 hW4 => ?_)
              have HP4 : Hid (Pool [] w [[blk w1.heap.size (ledC p D)], [blk (w1.heap.size + 1) c.cells], [blk w4.heap.size (ledC q ⟨A1, H1, S1⟩)], [blk w6.heap.size (ledC q2 ⟨A1, H1, S1⟩)], ledL p D, ledL q ⟨A1, H1, S1⟩, ledL q2 ⟨A1, H1, S1⟩, [blk wr.heap.size (accCells x)], [blk w3.heap.size [.string x.name, .string x.cur, .int .i64 x.limit, .int .i64 pv]]] W4) := hide (by
                have p1 := HP3.out.newBlk (i := 8) rfl [.string x.name, .string x.cur, .int .i64 x.limit, .int .i64 pv] 37
                rw [hW4]; exact p1)
              have HPE : Hid (Pool [] w [[blk w1.heap.size (ledC p D)], [blk (w1.heap.size + 1) c.cells], [blk w4.heap.size (ledC q ⟨A1, H1, S1⟩)], [blk w6.heap.size (ledC q2 ⟨A1, H1, S1⟩)], ledL p D, ledL q ⟨A1, H1, S1⟩, ledL q2 ⟨A1, H1, S1⟩, [], []] W4) := hide (((HP4.out.drop (i := 7) rfl).drop (i := 8) rfl))
              clear hW4 HP3
              have x_0 := (HP4.out.blkAt (i := 7) rfl).c 0 _ rfl
              have x_1 := (HP4.out.blkAt (i := 7) rfl).c 1 _ rfl
              have x_2 := (HP4.out.blkAt (i := 7) rfl).c 2 _ rfl
              have x_3 := (HP4.out.blkAt (i := 7) rfl).c 3 _ rfl
              have y_0 := (HP4.out.blkAt (i := 8) rfl).c 0 _ rfl
              have y_1 := (HP4.out.blkAt (i := 8) rfl).c 1 _ rfl
              have y_2 := (HP4.out.blkAt (i := 8) rfl).c 2 _ rfl
              have y_3 := (HP4.out.blkAt (i := 8) rfl).c 3 _ rfl
              have c_2 := (HP4.out.blkAt (i := 1) rfl).c 2 _ rfl
              have c_3 := (HP4.out.blkAt (i := 1) rfl).c 3 _ rfl
              have c_4 := (HP4.out.blkAt (i := 1) rfl).c 4 _ rfl
              have ca_ : 1 ≤ c.am ∧ c.am ≤ 1000000000000 := HCp.out.2
              obtain ⟨ca1, ca2⟩ := ca_
              cases qf : (x.name.toList == c.fr.toList)
              · cases qt : (x.name.toList == c.to.toList)
                · have e9 : pv = x.posted := by
                    have z1 : ¬ m = i := fun z => by rw [beq_bytes.2 (hfr.2 z)] at qf; cases qf
                    have z2 : ¬ m = j := fun z => by rw [beq_bytes.2 (hto.2 z)] at qt; cases qt
                    rw [HPV.out]; unfold pstV; rw [if_neg z1, if_neg z2]; omega
                  have v9 : (pv != x.posted) = false := by rw [e9]; simp
                  clear e9 hfr hto
                  go_wp2_with fail
                  exact ⟨⟨m + 1, by omega, by go_num, HPE⟩, by simp [intOf]; omega⟩
                · have e9 : pv = x.posted + c.am := by
                    have z1 : ¬ m = i := fun z => by rw [beq_bytes.2 (hfr.2 z)] at qf; cases qf
                    have z2 : m = j := hto.1 (beq_bytes.1 qt)
                    rw [HPV.out]; unfold pstV; rw [if_neg z1, if_pos z2]; omega
                  have v9 : (pv != x.posted + c.am) = false := by rw [e9]; simp
                  clear e9 hfr hto
                  go_wp2_with fail
                  exact ⟨⟨m + 1, by omega, by go_num, HPE⟩, by simp [intOf]; omega⟩
              · have qt : (x.name.toList == c.to.toList) = false := by
                  cases qt : (x.name.toList == c.to.toList)
                  · rfl
                  · exact absurd ((beq_bytes.1 qf).symm.trans (beq_bytes.1 qt)) HCp.out.1
                have e9 : pv = x.posted - c.am := by
                  have z1 : m = i := hfr.1 (beq_bytes.1 qf)
                  have z2 : ¬ m = j := fun z => by rw [beq_bytes.2 (hto.2 z)] at qt; cases qt
                  rw [HPV.out]; unfold pstV; rw [if_pos z1, if_neg z2]; omega
                have v9 : (pv != x.posted - c.am) = false := by rw [e9]; simp
                clear e9 hfr hto
                go_wp2_with fail
                exact ⟨⟨m + 1, by omega, by go_num, HPE⟩, by simp [intOf]; omega⟩
            · have hlt' : ¬ (m : Int) < (D.acc.length : Int) := by omega
              have eH := HH.out
              subst eH
              have l_1 := (HP.out.blkAt (i := 0) rfl).c 1 _ rfl
              have n_1 := (HP.out.blkAt (i := 2) rfl).c 1 _ rfl
              go_wp2_with fail
              refine (sameHolds_any q.ha p.ha D.hold _ _ _ HN.out.2.1 ((HP.out.get (i := 5) rfl).get (r := orow 4 hldCells q.ha q.ch D.hold) (by simp [ledL])).2.rows ((HP.out.get (i := 4) rfl).get (r := orow 4 hldCells p.ha p.ch D.hold) (by simp [ledL])).2.rows).mono ?_
              rintro e w9 ⟨rfl, hb9⟩
              have HP9 : Hid (Pool [] w [[blk w1.heap.size (ledC p D)], [blk (w1.heap.size + 1) c.cells], [blk w4.heap.size (ledC q ⟨A1, D.hold, S1⟩)], [blk w6.heap.size (ledC q2 ⟨A1, D.hold, S1⟩)], ledL p D, ledL q ⟨A1, D.hold, S1⟩, ledL q2 ⟨A1, D.hold, S1⟩, [], []] w9) := hide (HP.out.keep hb9)
              clear hb9 HP l_0 l_1 n_1
              have l_0 := (HP9.out.blkAt (i := 0) rfl).c 0 _ rfl
              have n_0 := (HP9.out.blkAt (i := 2) rfl).c 0 _ rfl
              have hq : ((A1.length : Int) == (D.acc.length : Int)) = true := by rw [HAl.out]; simp
              go_wp2_with fail
              go_ret
              exact ⟨rfl, HP9.out.below⟩
      · have kd' : (c.kind != 2) = true := by simpa using kd
        go_wp2_with fail
        go_ret
        exact ⟨rfl, HBL.out⟩
    · have k0' : (k != 0) = true := by simpa using k0
      have kk' : (k != k) = false := by simp
      have kq' : (k == k) = true := by simp
      go_wp2_with fail
      go_ret
      exact ⟨rfl, HBL.out⟩
end Go.Proofs.YtjjoeajnhblacaaGreatDoor
