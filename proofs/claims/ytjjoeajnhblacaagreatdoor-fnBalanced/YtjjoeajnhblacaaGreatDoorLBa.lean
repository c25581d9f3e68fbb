/- The law FnBalanced: behind a command a ledger is right: of each currency all accounts together have nought, and none is below its limit with what is held. -/
import Derived.Test.YtjjoeajnhblacaaGreatDoorLAg
import Derived.Test.YtjjoeajnhblacaaGreatDoorPvC
namespace Go.Proofs.YtjjoeajnhblacaaGreatDoor
open Go.ChangeShapes Go.WideShapes Go.ChangeAt Go.RowKit
set_option linter.unusedVariables false
set_option maxRecDepth 100000
/-- what FnBalanced asks of an account -/
theorem bal_at {L : Led} (h : ledS L = true) {m : Nat} (hm : m < L.acc.length) :
    totalO L L.acc[m].cur = 0 ∧ 0 ≤ freeO L L.acc[m].name ∧ (0 ≤ L.acc[m].limit → ¬ L.acc[m].posted - heldO L L.acc[m].name < -L.acc[m].limit) ∧ (0 ≤ heldO L L.acc[m].name ∧ heldO L L.acc[m].name ≤ 10000000000000) ∧ (-1000000000000 ≤ L.acc[m].posted ∧ L.acc[m].posted ≤ 1000000000000) ∧ (-1 ≤ L.acc[m].limit ∧ L.acc[m].limit ≤ 1000000000000) ∧ L.acc[m].name.size ≤ maxLen ∧ L.acc[m].cur.size ≤ maxLen := by
  have r := rt_of h
  obtain ⟨n1, n2, hl, hw, ht⟩ := r.ac _ (List.getElem_mem hm)
  have hi := idx_mem r.srt hm
  have hb := heldL_bd L.acc[m].name L.hold (fun x hx => by have := (r.ho x hx).2.1; omega)
  have hn := r.nh
  have eh : heldO L L.acc[m].name = heldL L.acc[m].name L.hold := by
    unfold heldO
    rw [if_pos ⟨h, by rw [hi]; rfl⟩]
  have sw := (led_f h).w.acc _ (List.getElem_mem hm)
  simp only [withinB, Bool.and_eq_true, Bool.or_eq_true, decide_eq_true_eq] at hw
  have hp := inB_iff.1 hw.1.1
  refine ⟨by unfold totalO; rw [if_pos h]; exact ht, ?_, fun h0 => by rw [eh]; omega, by rw [eh]; omega, hp, hl, sw.1, sw.2.1⟩
  rw [freeO_at h hi hm]
  unfold freeX
  split
  · omega
  · omega
theorem doM_more {D : Led} {c : Cm} : D.acc.length ≤ (doM D c).1.acc.length := by
  rcases doM_names D c with e | e
  · have := congrArg List.length e
    simp only [List.length_map] at this
    omega
  · rw [e, insA_len]; omega
theorem appl_more {D : Led} {c : Cm} (h : ledS D = true) : D.acc.length ≤ (applM D c).1.acc.length := by
  cases ha : admC D c with
  | some k => rw [adm_some h ha]; exact Nat.le_refl _
  | none =>
    obtain ⟨hB, hs, hf, e⟩ := adm_none h ha
    rw [e]
    exact doM_more
set_option maxHeartbeats 16000000 in
theorem walkBalanced (a0 : Option Addr) (len cap : Nat) (aA aD : Addr) (w : World) (h : IsCode w a0 len) (hv : VarsAt aA aD w) : Calls Tryz.prog 3 #[.slice a0 len cap] w fun e w' => YesEnd w e w' := by
  have H : Hid _ := hide h
  have HV : Hid _ := hide hv
  clear h hv
  go_enter Tryz.func3, Tryz.ntmps3
  go_wp2_with fail
  refine (big_any a0 len cap w).mono ?_
  rintro e w' ⟨rfl, hw'⟩
  rw [hw']
  clear hw' w'
  by_cases hbig : (1048576 : Int) < (len : Int)
  · go_wp2
    go_ret
    exact ⟨rfl, Below.refl _ _⟩
  · go_wp2_with fail
    refine (drawApplied_any a0 len cap w H.out).mono ?_
    rintro e w1 ⟨p, D, c, rfl, hpk, hf, hcf, hct, hp1⟩
    have HK : Hid (PlOk p D) := hide hpk
    have HF : Hid (LedF D) := hide hf
    have HC : Hid (c.fr.size ≤ maxLen ∧ c.to.size ≤ maxLen) := hide ⟨Nat.le_trans hcf (by decide), Nat.le_trans hct (by decide)⟩
    have HP1 : Hid (Pool [] w [[], [], [], [], ledL p D, [], []] w1) := hide (hp1.cast (by simp))
    have HN : Hid (D.acc.length ≤ 1048576 ∧ D.hold.length ≤ 1048576 ∧ D.seen.length ≤ 1048576) := hide (by have := hf.a; have := hf.h; have := hf.s; omega)
    clear hpk hf hcf hct hp1 H
    unfold ledV Cm.v
    go_wp2_with fail
    refine cnm_calls (fun W3 hW3 => ?_)
    have HP3 : Hid (Pool [] w [[blk w1.heap.size (ledC p D)], [blk (w1.heap.size + 1) c.cells], [], [], ledL p D, [], []] W3) := hide (by
      have p1 := HP1.out.newBlk (i := 0) rfl (ledC p D) 28
      have s1 : (w1.alloc (.cells (ledC p D).toArray 28)).heap.size = w1.heap.size + 1 := by simp
      have p2 := p1.newBlk (i := 1) rfl c.cells 30
      rw [s1] at p2
      rw [hW3]; exact p2)
    clear hW3 HP1
    obtain ⟨R, hR⟩ : ∃ R, R = applM D c := ⟨_, rfl⟩
    refine (implApplied_any p D c aA aD W3 HN.out.1 HN.out.2.1 HN.out.2.2 HC.out.1 HC.out.2 HK.out (PlOk.led HF.out.w (HP3.out.get (i := 4) rfl)) (HV.out.below HP3.out.below)).mono ?_
    rintro e w4 ⟨q, rfl, hqk, hq⟩
    rw [← hR] at hqk hq ⊢
    obtain ⟨⟨A1, H1, S1⟩, k⟩ := R
    dsimp only at hqk hq
    have HQK : Hid (PlOk q ⟨A1, H1, S1⟩) := hide hqk
    have HP4 : Hid (Pool [] w [[blk w1.heap.size (ledC p D)], [blk (w1.heap.size + 1) c.cells], [], [], ledL p D, ledL q ⟨A1, H1, S1⟩, []] w4) := hide (HP3.out.call (i := 5) rfl hq)
    have HR : Hid ((⟨A1, H1, S1⟩, k) = applM D c) := hide hR
    clear hqk hq HP3 hR
    unfold ledV
    dsimp only
    go_upto_region 5 with fail
    refine cnm_world (fun W5 hW5 => ?_)
    have HP5 : Hid (Pool [] w [[blk w1.heap.size (ledC p D)], [blk (w1.heap.size + 1) c.cells], [blk w4.heap.size (ledC q ⟨A1, H1, S1⟩)], [], ledL p D, ledL q ⟨A1, H1, S1⟩, []] W5) := hide (by
      have p1 := HP4.out.newBlk (i := 2) rfl (ledC q ⟨A1, H1, S1⟩) 28
      rw [hW5]; exact p1)
    clear hW5 HP4
    have n_0 := (HP5.out.blkAt (i := 0) rfl).c 0 _ rfl
    have n_1 := (HP5.out.blkAt (i := 0) rfl).c 1 _ rfl
    have n_2 := (HP5.out.blkAt (i := 0) rfl).c 2 _ rfl
    have a_0 := (HP5.out.blkAt (i := 1) rfl).c 0 _ rfl
    have a_1 := (HP5.out.blkAt (i := 1) rfl).c 1 _ rfl
    have a_2 := (HP5.out.blkAt (i := 1) rfl).c 2 _ rfl
    have a_3 := (HP5.out.blkAt (i := 1) rfl).c 3 _ rfl
    have a_4 := (HP5.out.blkAt (i := 1) rfl).c 4 _ rfl
    have a_5 := (HP5.out.blkAt (i := 1) rfl).c 5 _ rfl
    go_wp2_with fail
    refine (specApplied_any p D c W5 HN.out.1 HN.out.2.1 HN.out.2.2 HC.out.1 HC.out.2 HK.out (PlOk.led HF.out.w (HP5.out.get (i := 4) rfl))).mono ?_
    rintro e w6 ⟨q2, rfl, hqk, hq⟩
    rw [← HR.out] at hqk hq ⊢
    dsimp only at hqk hq
    have HQK2 : Hid (PlOk q2 ⟨A1, H1, S1⟩) := hide hqk
    have HP6 : Hid (Pool [] w [[blk w1.heap.size (ledC p D)], [blk (w1.heap.size + 1) c.cells], [blk w4.heap.size (ledC q ⟨A1, H1, S1⟩)], [], ledL p D, ledL q ⟨A1, H1, S1⟩, ledL q2 ⟨A1, H1, S1⟩] w6) := hide (HP5.out.call (i := 6) rfl hq)
    clear hqk hq HP5 n_0 n_1 n_2 a_0 a_1 a_2 a_3 a_4 a_5
    unfold ledV
    dsimp only
    go_upto_region 6 with fail
    refine cnm_world (fun W7 hW7 => ?_)
    have HP7 : Hid (Pool [] w [[blk w1.heap.size (ledC p D)], [blk (w1.heap.size + 1) c.cells], [blk w4.heap.size (ledC q ⟨A1, H1, S1⟩)], [blk w6.heap.size (ledC q2 ⟨A1, H1, S1⟩)], ledL p D, ledL q ⟨A1, H1, S1⟩, ledL q2 ⟨A1, H1, S1⟩] W7) := hide (by
      have p1 := HP6.out.newBlk (i := 3) rfl (ledC q2 ⟨A1, H1, S1⟩) 28
      rw [hW7]; exact p1)
    clear hW7 HP6
    have HBL : Hid (Below w.heap.size w W7) := hide HP7.out.below
    have HNY : Hid (A1.length ≤ 1048576 ∧ H1.length ≤ 1048576 ∧ S1.length ≤ 1048576) := hide (by
      cases hs : ledS D
      · have z := HR.out
        rw [applM_wrong hs] at z
        have z1 := congrArg (fun r : Led × Int => r.1) z
        simp only [Led.mk.injEq] at z1
        rw [z1.1, z1.2.1, z1.2.2]
        simp
      · have z := rt_appl (c := c) hs
        rw [← HR.out] at z
        have r := rt_of z
        have h1 : A1.length ≤ 12 := r.na
        have h2 : H1.length ≤ 10 := r.nh
        have h3 : S1.length ≤ 40 := r.ns
        omega)
    have kk' : (k != k) = false := by simp
    have kq' : (k == k) = true := by simp
    have n_0 := (HP7.out.blkAt (i := 2) rfl).c 0 _ rfl
    have n_1 := (HP7.out.blkAt (i := 2) rfl).c 1 _ rfl
    have n_2 := (HP7.out.blkAt (i := 2) rfl).c 2 _ rfl
    have m_0 := (HP7.out.blkAt (i := 3) rfl).c 0 _ rfl
    have m_1 := (HP7.out.blkAt (i := 3) rfl).c 1 _ rfl
    have m_2 := (HP7.out.blkAt (i := 3) rfl).c 2 _ rfl
    go_wp2_with fail
    refine (sameLedger_any q q2 ⟨A1, H1, S1⟩ _ HNY.out.1 HNY.out.2.1 HNY.out.2.2 (HP7.out.get (i := 5) rfl).rows3 (HP7.out.get (i := 6) rfl).rows3).mono ?_
    rintro e w8 ⟨rfl, hb⟩
    have HQ8 : Hid (Pool [] w [[blk w1.heap.size (ledC p D)], [blk (w1.heap.size + 1) c.cells], [blk w4.heap.size (ledC q ⟨A1, H1, S1⟩)], [blk w6.heap.size (ledC q2 ⟨A1, H1, S1⟩)], ledL p D, ledL q ⟨A1, H1, S1⟩, ledL q2 ⟨A1, H1, S1⟩, []] w8) := hide ((HP7.out.keep hb).cast (by simp))
    clear hb HP7 n_0 n_1 n_2 m_0 m_1 m_2
    by_cases k1 : k = 1
    · subst k1
      have n_0 := (HQ8.out.blkAt (i := 2) rfl).c 0 _ rfl
      have n_1 := (HQ8.out.blkAt (i := 2) rfl).c 1 _ rfl
      have n_2 := (HQ8.out.blkAt (i := 2) rfl).c 2 _ rfl
      have m_0 := (HQ8.out.blkAt (i := 3) rfl).c 0 _ rfl
      have m_1 := (HQ8.out.blkAt (i := 3) rfl).c 1 _ rfl
      have m_2 := (HQ8.out.blkAt (i := 3) rfl).c 2 _ rfl
      go_wp2_with fail
      refine (sameLedger_any q q2 ⟨A1, H1, S1⟩ _ HNY.out.1 HNY.out.2.1 HNY.out.2.2 (HQ8.out.get (i := 5) rfl).rows3 (HQ8.out.get (i := 6) rfl).rows3).mono ?_
      rintro e w9 ⟨rfl, hb⟩
      have HB9 : Hid (Below w.heap.size w w9) := hide (below_trans HQ8.out.below hb)
      clear hb HQ8 n_0 n_1 n_2 m_0 m_1 m_2
      go_wp2_with fail
      go_ret
      exact ⟨rfl, HB9.out⟩
    · have k1' : (k == 1) = false := by simpa using k1
      have hs : ledS D = true := applM_one (c := c) (by rw [← HR.out]; exact k1)
      have hY := rt_appl (c := c) hs
      have hmore := appl_more (c := c) hs
      rw [← HR.out] at hY hmore
      dsimp only at hY hmore
      have HY : Hid (ledS ⟨A1, H1, S1⟩ = true) := hide hY
      have HFY : Hid (LedF ⟨A1, H1, S1⟩) := hide (led_f hY)
      have HMo : Hid (D.acc.length ≤ A1.length) := hide hmore
      clear hs hY hmore k1
      have hal : A1.length ≤ 1048576 := HNY.out.1
      go_wp2_with fail
      go_loopw [9] (fun i wr => ∃ m : Nat, m ≤ A1.length ∧ i = .int .i64 (m : Int) ∧ Hid (Pool [] w [[blk w1.heap.size (ledC p D)], [blk (w1.heap.size + 1) c.cells], [blk w4.heap.size (ledC q ⟨A1, H1, S1⟩)], [blk w6.heap.size (ledC q2 ⟨A1, H1, S1⟩)], ledL p D, ledL q ⟨A1, H1, S1⟩, ledL q2 ⟨A1, H1, S1⟩, []] wr)) (fun i wr => A1.length - (intOf i).toNat)
      case atStart => exact ⟨0, Nat.zero_le _, rfl, HQ8⟩
      case round =>
        clear HQ8
        obtain ⟨m, hm, rfl, HP⟩ := hrel
        rename World => wr
        have n_0 := (HP.out.blkAt (i := 2) rfl).c 0 _ rfl
        by_cases hlt : m < A1.length
        · have hlt' : (m : Int) < (A1.length : Int) := by omega
          have hbal := bal_at HY.out (m := m) hlt
          dsimp only at hbal
          obtain ⟨b, off, ha, hb, c0, c1, c2, c3⟩ := acc_row2 ((HP.out.get (i := 5) rfl).get (r := orow 4 accCells q.aa q.ca A1) (by simp [ledL])).2.rows m hlt
          rw [ha] at n_0
          clear ha
          obtain ⟨x, hx⟩ : ∃ x, x = A1[m] := ⟨_, rfl⟩
          rw [← hx] at c0 c1 c2 c3 hbal
          clear hx
          obtain ⟨t0, f0, h0, ⟨hb1, hb2⟩, ⟨po1, po2⟩, ⟨li1, li2⟩, sn, sc⟩ := hbal
          obtain ⟨hv, hhv⟩ : ∃ hv, hv = heldO ⟨A1, H1, S1⟩ x.name := ⟨_, rfl⟩
          obtain ⟨fv, hfv⟩ : ∃ fv, fv = freeO ⟨A1, H1, S1⟩ x.name := ⟨_, rfl⟩
          rw [← hhv] at h0 hb1 hb2
          rw [← hfv] at f0
          have HT : Hid (totalO ⟨A1, H1, S1⟩ x.cur = 0) := hide t0
          have HHv : Hid (heldO ⟨A1, H1, S1⟩ x.name = hv) := hide hhv.symm
          have HFv : Hid (freeO ⟨A1, H1, S1⟩ x.name = fv) := hide hfv.symm
          have HSz : Hid (x.name.size ≤ maxLen ∧ x.cur.size ≤ maxLen) := hide ⟨sn, sc⟩
          have H0 : Hid _ := hide h0
          clear t0 hhv hfv sn sc h0
          have f0' : ¬ fv < 0 := by omega
          go_upto_region 12 with fail
          refine cnm_world (fun W1 hW1 => ?_)
          have HP1 : Hid (Pool [] w [[blk w1.heap.size (ledC p D)], [blk (w1.heap.size + 1) c.cells], [blk w4.heap.size (ledC q ⟨A1, H1, S1⟩)], [blk w6.heap.size (ledC q2 ⟨A1, H1, S1⟩)], ledL p D, ledL q ⟨A1, H1, S1⟩, ledL q2 ⟨A1, H1, S1⟩, [blk wr.heap.size (accCells x)]] W1) := hide (by
            have p1 := HP.out.newBlk (i := 7) rfl (accCells x) 37
            rw [hW1]; exact p1)
          clear hW1 c0 c1 c2 c3 n_0 HP
          have HBW : Hid (Below w.heap.size w W1) := hide HP1.out.below
          have HE : Hid (Pool [] w [[blk w1.heap.size (ledC p D)], [blk (w1.heap.size + 1) c.cells], [blk w4.heap.size (ledC q ⟨A1, H1, S1⟩)], [blk w6.heap.size (ledC q2 ⟨A1, H1, S1⟩)], ledL p D, ledL q ⟨A1, H1, S1⟩, ledL q2 ⟨A1, H1, S1⟩, []] W1) := hide (HP1.out.drop (i := 7) rfl)
          have n_0 := (HP1.out.blkAt (i := 2) rfl).c 0 _ rfl
          have n_1 := (HP1.out.blkAt (i := 2) rfl).c 1 _ rfl
          have n_2 := (HP1.out.blkAt (i := 2) rfl).c 2 _ rfl
          have x_0 := (HP1.out.blkAt (i := 7) rfl).c 0 _ rfl
          have x_1 := (HP1.out.blkAt (i := 7) rfl).c 1 _ rfl
          have x_2 := (HP1.out.blkAt (i := 7) rfl).c 2 _ rfl
          have x_3 := (HP1.out.blkAt (i := 7) rfl).c 3 _ rfl
          have kn_0 : ∀ y : Later W1, y.w.cell? _ = _ := fun y => below_keeps y.below _ _ n_0
          have kn_1 : ∀ y : Later W1, y.w.cell? _ = _ := fun y => below_keeps y.below _ _ n_1
          have kn_2 : ∀ y : Later W1, y.w.cell? _ = _ := fun y => below_keeps y.below _ _ n_2
          have kx_0 : ∀ y : Later W1, y.w.cell? _ = _ := fun y => below_keeps y.below _ _ x_0
          have kx_1 : ∀ y : Later W1, y.w.cell? _ = _ := fun y => below_keeps y.below _ _ x_1
          have kx_2 : ∀ y : Later W1, y.w.cell? _ = _ := fun y => below_keeps y.below _ _ x_2
          have kx_3 : ∀ y : Later W1, y.w.cell? _ = _ := fun y => below_keeps y.below _ _ x_3
          have HC1 : Hid (∀ y : Later W1, Calls Tryz.prog 14 #[.agg #[.slice q.aa A1.length q.ca, .slice q.ha H1.length q.ch, .slice q.sa S1.length q.cs], .string x.cur] y.w fun e w'' => e = .returned (.int .i64 0) ∧ ∃ z : Later W1, w'' = z.w) := hide (fun y => later_of (by
            have z := implTotalOf_any q.aa q.ha q.sa ⟨A1, H1, S1⟩ q.ca q.ch q.cs _ _ x.cur y.w (PlOk.led HFY.out.w ((HP1.out.keep y.below).get (i := 5) rfl)) (HV.out.below (below_trans HBW.out y.below)).d HSz.out.2 HNY.out.1 HNY.out.2.1 HNY.out.2.2
            rw [HT.out] at z
            exact z))
          have HC2 : Hid (∀ y : Later W1, Calls Tryz.prog 15 #[.agg #[.slice q.aa A1.length q.ca, .slice q.ha H1.length q.ch, .slice q.sa S1.length q.cs], .string x.name] y.w fun e w'' => e = .returned (.int .i64 hv) ∧ ∃ z : Later W1, w'' = z.w) := hide (fun y => later_of (by
            have z := implHeldOf_any q.aa q.ha q.sa ⟨A1, H1, S1⟩ q.ca q.ch q.cs _ _ x.name y.w (PlOk.led HFY.out.w ((HP1.out.keep y.below).get (i := 5) rfl)) (HV.out.below (below_trans HBW.out y.below)).d HSz.out.1 HNY.out.1 HNY.out.2.1 HNY.out.2.2
            rw [HHv.out] at z
            exact z))
          have HC3 : Hid (∀ y : Later W1, Calls Tryz.prog 16 #[.agg #[.slice q.aa A1.length q.ca, .slice q.ha H1.length q.ch, .slice q.sa S1.length q.cs], .string x.name] y.w fun e w'' => e = .returned (.int .i64 fv) ∧ ∃ z : Later W1, w'' = z.w) := hide (fun y => later_of (by
            have z := implFreeOf_any q.aa q.ha q.sa ⟨A1, H1, S1⟩ q.ca q.ch q.cs _ _ x.name y.w (PlOk.led HFY.out.w ((HP1.out.keep y.below).get (i := 5) rfl)) (HV.out.below (below_trans HBW.out y.below)).d HSz.out.1 HNY.out.1 HNY.out.2.1 HNY.out.2.2
            rw [HFv.out] at z
            exact z))
          have hne : Nonempty (Later W1) := later_there _
          have w1_ : IntKind.i64.wrap (x.posted - hv) = x.posted - hv := wrap64_id (by omega)
          have w2_ : IntKind.i64.wrap (-x.limit) = -x.limit := wrap64_id (by omega)
          cases ql : decide (0 ≤ x.limit)
          · have ql' : ¬ 0 ≤ x.limit := of_decide_eq_false ql
            refine wp_region_later W1 (by kernel_rfl) (by kernel_rfl) ((Below.refl _ _).drew) ?_
            repeat (go_big_quiet_step (first | (go_at_call 14; with_reducible exact HC1.out _) | (go_at_call 15; with_reducible exact HC2.out _) | (go_at_call 16; with_reducible exact HC3.out _)))
            refine wpQuiet_nil ?_
            intro _ hw'
            obtain ⟨nx, rfl⟩ := hw'
            have HE2 : Hid _ := hide (HE.out.keep nx.below)
            go_wp2_with fail
            exact ⟨⟨m + 1, by omega, by go_num, HE2⟩, by simp [intOf]; omega⟩
          · have ql' : 0 ≤ x.limit := of_decide_eq_true ql
            have q9 : ¬ x.posted - hv < -x.limit := H0.out ql'
            have q9' : decide (x.posted - hv < -x.limit) = false := decide_eq_false q9
            refine wp_region_later W1 (by kernel_rfl) (by kernel_rfl) ((Below.refl _ _).drew) ?_
            repeat (go_big_quiet_step (first | (go_at_call 14; with_reducible exact HC1.out _) | (go_at_call 15; with_reducible exact HC2.out _) | (go_at_call 16; with_reducible exact HC3.out _)))
            refine wpQuiet_nil ?_
            intro _ hw'
            obtain ⟨nx, rfl⟩ := hw'
            have HE2 : Hid _ := hide (HE.out.keep nx.below)
            go_wp2_with fail
            exact ⟨⟨m + 1, by omega, by go_num, HE2⟩, by simp [intOf]; omega⟩
        · have hlt' : ¬ (m : Int) < (A1.length : Int) := by omega
          have n_1 := (HP.out.blkAt (i := 2) rfl).c 1 _ rfl
          have n_2 := (HP.out.blkAt (i := 2) rfl).c 2 _ rfl
          go_wp2_with fail
          refine (implLedgerOk_any q.aa q.ha q.sa ⟨A1, H1, S1⟩ q.ca q.ch q.cs _ _ _ (PlOk.led HFY.out.w (HP.out.get (i := 5) rfl)) (HV.out.below HP.out.below).d HNY.out.1 HNY.out.2.1 HNY.out.2.2).mono ?_
          rintro e w9 ⟨rfl, hb⟩
          rw [HY.out]
          have HP9 : Hid (Pool [] w [[blk w1.heap.size (ledC p D)], [blk (w1.heap.size + 1) c.cells], [blk w4.heap.size (ledC q ⟨A1, H1, S1⟩)], [blk w6.heap.size (ledC q2 ⟨A1, H1, S1⟩)], ledL p D, ledL q ⟨A1, H1, S1⟩, ledL q2 ⟨A1, H1, S1⟩, []] w9) := hide (HP.out.keep hb)
          clear hb HP n_0 n_1 n_2
          have l_0 := (HP9.out.blkAt (i := 0) rfl).c 0 _ rfl
          have n_0 := (HP9.out.blkAt (i := 2) rfl).c 0 _ rfl
          have hge : (D.acc.length : Int) ≤ (A1.length : Int) := by have := HMo.out; omega
          go_wp2_with fail
          go_ret
          exact ⟨rfl, HP9.out.below⟩
end Go.Proofs.YtjjoeajnhblacaaGreatDoor
