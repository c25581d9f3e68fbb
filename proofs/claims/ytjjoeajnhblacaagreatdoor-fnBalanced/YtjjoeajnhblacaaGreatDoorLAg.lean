/- The law FnAgain: a command that comes again is answered as it was, and changes nothing. -/
import Derived.Test.YtjjoeajnhblacaaGreatDoorGr
namespace Go.Proofs.YtjjoeajnhblacaaGreatDoor
open Go.ChangeShapes Go.WideShapes Go.ChangeAt Go.RowKit
set_option linter.unusedVariables false
set_option maxRecDepth 100000
theorem Star.rows3 {p : LP} {D : Led} {w : World} (h : Star (ledL p D) w) : RowAt 4 accCells w p.aa D.acc ∧ RowAt 4 hldCells w p.ha D.hold ∧ RowAt 2 snCells w p.sa D.seen :=
  ⟨(h.get (r := orow 4 accCells p.aa p.ca D.acc) (by simp [ledL])).2.rows, (h.get (r := orow 4 hldCells p.ha p.ch D.hold) (by simp [ledL])).2.rows, (h.get (r := orow 2 snCells p.sa p.cs D.seen) (by simp [ledL])).2.rows⟩
set_option maxHeartbeats 4000000 in
theorem sameLedger_any (p q : LP) (Y : Led) (w : World) (n1 : Y.acc.length ≤ 1048576) (n2 : Y.hold.length ≤ 1048576) (n3 : Y.seen.length ≤ 1048576)
    (h : RowAt 4 accCells w p.aa Y.acc ∧ RowAt 4 hldCells w p.ha Y.hold ∧ RowAt 2 snCells w p.sa Y.seen) (h' : RowAt 4 accCells w q.aa Y.acc ∧ RowAt 4 hldCells w q.ha Y.hold ∧ RowAt 2 snCells w q.sa Y.seen) :
    Calls Tryz.prog 13 #[ledV p Y, ledV q Y] w fun e w' => e = .returned (.bool true) ∧ Below w.heap.size w w' := by
  have HR : Hid _ := hide h
  have HR' : Hid _ := hide h'
  obtain ⟨W2, hW2⟩ : ∃ W2, W2 = (w.alloc (.cells #[.slice p.aa Y.acc.length p.ca, .slice p.ha Y.hold.length p.ch, .slice p.sa Y.seen.length p.cs] 28)).alloc (.cells #[.slice q.aa Y.acc.length q.ca, .slice q.ha Y.hold.length q.ch, .slice q.sa Y.seen.length q.cs] 28) := ⟨_, rfl⟩
  have HP0 : Hid (Pool [] w [[blk w.heap.size (ledC p Y)], [blk (w.heap.size + 1) (ledC q Y)]] W2) := hide (by
    have p1 := (Pool.start w [[], []] rfl).newBlk (i := 0) rfl (ledC p Y) 28
    have s1 : (w.alloc (.cells (ledC p Y).toArray 28)).heap.size = w.heap.size + 1 := by simp
    have p2 := p1.newBlk (i := 1) rfl (ledC q Y) 28
    rw [s1] at p2
    rw [hW2]
    exact p2)
  have HW2 : Hid (_ = W2) := hide hW2.symm
  clear h h' hW2
  unfold ledV
  go_enter Tryz.func13, Tryz.ntmps13
  go_upto_region 1 with fail
  rw [HW2.out]
  have d0 := (HP0.out.blkAt (i := 0) rfl).c 0 _ rfl
  have g0 := (HP0.out.blkAt (i := 1) rfl).c 0 _ rfl
  go_wp2_with fail
  refine (sameAccounts_any p.aa q.aa Y.acc _ _ _ n1 (HR.out.1.below HP0.out.below) (HR'.out.1.below HP0.out.below)).mono ?_
  rintro e w3 ⟨rfl, hb⟩
  have HP1 : Hid (Pool [] w [[blk w.heap.size (ledC p Y)], [blk (w.heap.size + 1) (ledC q Y)]] w3) := hide (HP0.out.keep hb)
  clear hb d0 g0 HP0
  have d1 := (HP1.out.blkAt (i := 0) rfl).c 1 _ rfl
  have g1 := (HP1.out.blkAt (i := 1) rfl).c 1 _ rfl
  go_wp2_with fail
  refine (sameHolds_any p.ha q.ha Y.hold _ _ _ n2 (HR.out.2.1.below HP1.out.below) (HR'.out.2.1.below HP1.out.below)).mono ?_
  rintro e w4 ⟨rfl, hb⟩
  have HP2 : Hid (Pool [] w [[blk w.heap.size (ledC p Y)], [blk (w.heap.size + 1) (ledC q Y)]] w4) := hide (HP1.out.keep hb)
  clear hb d1 g1 HP1
  have d2 := (HP2.out.blkAt (i := 0) rfl).c 2 _ rfl
  have g2 := (HP2.out.blkAt (i := 1) rfl).c 2 _ rfl
  go_wp2_with fail
  refine (sameSeen_any p.sa q.sa Y.seen _ _ _ n3 (HR.out.2.2.below HP2.out.below) (HR'.out.2.2.below HP2.out.below)).mono ?_
  rintro e w5 ⟨rfl, hb⟩
  have HP3 : Hid (Pool [] w [[blk w.heap.size (ledC p Y)], [blk (w.heap.size + 1) (ledC q Y)]] w5) := hide (HP2.out.keep hb)
  clear hb d2 g2 HP2
  go_wp2_with fail
  go_ret
  exact ⟨rfl, HP3.out.below⟩
theorem other_ok {c : Cm} (h : c.B = true) : (⟨c.id, 5, ⟨#[]⟩, ⟨#[]⟩, 0, 7⟩ : Cm).B = true := by
  unfold Cm.B cmdB at h ⊢
  simp only [Bool.and_eq_true] at h ⊢
  refine ⟨h.1, ?_⟩
  decide +kernel
set_option maxHeartbeats 16000000 in
theorem walkAgain (a0 : Option Addr) (len cap : Nat) (aA aD : Addr) (w : World) (h : IsCode w a0 len) (hv : VarsAt aA aD w) : Calls Tryz.prog 4 #[.slice a0 len cap] w fun e w' => YesEnd w e w' := by
  have H : Hid _ := hide h
  have HV : Hid _ := hide hv
  clear h hv
  go_enter Tryz.func4, Tryz.ntmps4
  go_wp2_with fail
  refine (big_any a0 len cap w).mono ?_
  rintro e w' ⟨rfl, hw'⟩
  rw [hw']
  clear hw' w'
  by_cases hbig : (1048576 : Int) < (len : Int)
  · go_wp2
    go_ret
    exact ⟨rfl, Below.refl _ _⟩
  · go_wp2_with fail
    refine (drawApplied_any a0 len cap w H.out).mono ?_
    rintro e w1 ⟨p, D, c, rfl, hpk, hf, hcf, hct, hp1⟩
    have HK : Hid (PlOk p D) := hide hpk
    have HF : Hid (LedF D) := hide hf
    have HC : Hid (c.fr.size ≤ maxLen ∧ c.to.size ≤ maxLen) := hide ⟨Nat.le_trans hcf (by decide), Nat.le_trans hct (by decide)⟩
    have HP1 : Hid (Pool [] w [[], [], [], [], ledL p D, [], []] w1) := hide (hp1.cast (by simp))
    have HN : Hid (D.acc.length ≤ 1048576 ∧ D.hold.length ≤ 1048576 ∧ D.seen.length ≤ 1048576) := hide (by have := hf.a; have := hf.h; have := hf.s; omega)
    clear hpk hf hcf hct hp1 H
    unfold ledV Cm.v
    go_wp2_with fail
    refine cnm_calls (fun W3 hW3 => ?_)
    have HP3 : Hid (Pool [] w [[blk w1.heap.size (ledC p D)], [blk (w1.heap.size + 1) c.cells], [], [], ledL p D, [], []] W3) := hide (by
      have p1 := HP1.out.newBlk (i := 0) rfl (ledC p D) 28
      have s1 : (w1.alloc (.cells (ledC p D).toArray 28)).heap.size = w1.heap.size + 1 := by simp
      have p2 := p1.newBlk (i := 1) rfl c.cells 30
      rw [s1] at p2
      rw [hW3]; exact p2)
    clear hW3 HP1
    obtain ⟨R, hR⟩ : ∃ R, R = applM D c := ⟨_, rfl⟩
    refine (implApplied_any p D c aA aD W3 HN.out.1 HN.out.2.1 HN.out.2.2 HC.out.1 HC.out.2 HK.out (PlOk.led HF.out.w (HP3.out.get (i := 4) rfl)) (HV.out.below HP3.out.below)).mono ?_
    rintro e w4 ⟨q, rfl, hqk, hq⟩
    rw [← hR] at hqk hq ⊢
    obtain ⟨⟨A1, H1, S1⟩, k⟩ := R
    dsimp only at hqk hq
    have HQK : Hid (PlOk q ⟨A1, H1, S1⟩) := hide hqk
    have HP4 : Hid (Pool [] w [[blk w1.heap.size (ledC p D)], [blk (w1.heap.size + 1) c.cells], [], [], ledL p D, ledL q ⟨A1, H1, S1⟩, []] w4) := hide (HP3.out.call (i := 5) rfl hq)
    have HR : Hid ((⟨A1, H1, S1⟩, k) = applM D c) := hide hR
    clear hqk hq HP3 hR
    unfold ledV
    dsimp only
    go_upto_region 5 with fail
    refine cnm_world (fun W5 hW5 => ?_)
    have HP5 : Hid (Pool [] w [[blk w1.heap.size (ledC p D)], [blk (w1.heap.size + 1) c.cells], [blk w4.heap.size (ledC q ⟨A1, H1, S1⟩)], [], ledL p D, ledL q ⟨A1, H1, S1⟩, []] W5) := hide (by
      have p1 := HP4.out.newBlk (i := 2) rfl (ledC q ⟨A1, H1, S1⟩) 28
      rw [hW5]; exact p1)
    clear hW5 HP4
    have n_0 := (HP5.out.blkAt (i := 0) rfl).c 0 _ rfl
    have n_1 := (HP5.out.blkAt (i := 0) rfl).c 1 _ rfl
    have n_2 := (HP5.out.blkAt (i := 0) rfl).c 2 _ rfl
    have a_0 := (HP5.out.blkAt (i := 1) rfl).c 0 _ rfl
    have a_1 := (HP5.out.blkAt (i := 1) rfl).c 1 _ rfl
    have a_2 := (HP5.out.blkAt (i := 1) rfl).c 2 _ rfl
    have a_3 := (HP5.out.blkAt (i := 1) rfl).c 3 _ rfl
    have a_4 := (HP5.out.blkAt (i := 1) rfl).c 4 _ rfl
    have a_5 := (HP5.out.blkAt (i := 1) rfl).c 5 _ rfl
    go_wp2_with fail
    refine (specApplied_any p D c W5 HN.out.1 HN.out.2.1 HN.out.2.2 HC.out.1 HC.out.2 HK.out (PlOk.led HF.out.w (HP5.out.get (i := 4) rfl))).mono ?_
    rintro e w6 ⟨q2, rfl, hqk, hq⟩
    rw [← HR.out] at hqk hq ⊢
    dsimp only at hqk hq
    have HQK2 : Hid (PlOk q2 ⟨A1, H1, S1⟩) := hide hqk
    have HP6 : Hid (Pool [] w [[blk w1.heap.size (ledC p D)], [blk (w1.heap.size + 1) c.cells], [blk w4.heap.size (ledC q ⟨A1, H1, S1⟩)], [], ledL p D, ledL q ⟨A1, H1, S1⟩, ledL q2 ⟨A1, H1, S1⟩] w6) := hide (HP5.out.call (i := 6) rfl hq)
    clear hqk hq HP5 n_0 n_1 n_2 a_0 a_1 a_2 a_3 a_4 a_5
    unfold ledV
    dsimp only
    go_upto_region 6 with fail
    refine cnm_world (fun W7 hW7 => ?_)
    have HP7 : Hid (Pool [] w [[blk w1.heap.size (ledC p D)], [blk (w1.heap.size + 1) c.cells], [blk w4.heap.size (ledC q ⟨A1, H1, S1⟩)], [blk w6.heap.size (ledC q2 ⟨A1, H1, S1⟩)], ledL p D, ledL q ⟨A1, H1, S1⟩, ledL q2 ⟨A1, H1, S1⟩] W7) := hide (by
      have p1 := HP6.out.newBlk (i := 3) rfl (ledC q2 ⟨A1, H1, S1⟩) 28
      rw [hW7]; exact p1)
    clear hW7 HP6
    have HBL : Hid (Below w.heap.size w W7) := hide HP7.out.below
    by_cases k1 : k = 1
    · subst k1
      go_wp2_with fail
      go_ret
      exact ⟨rfl, HBL.out⟩
    · by_cases k2 : k = 2
      · subst k2
        go_wp2_with fail
        go_ret
        exact ⟨rfl, HBL.out⟩
      · by_cases k3 : k = 3
        · subst k3
          go_wp2_with fail
          go_ret
          exact ⟨rfl, HBL.out⟩
        · have k1' : (k == 1) = false := by simpa using k1
          have k2' : (k == 2) = false := by simpa using k2
          have k3' : (k == 3) = false := by simpa using k3
          have kk' : (k != k) = false := by simp
          have kq' : (k == k) = true := by simp
          have hs : ledS D = true := applM_one (c := c) (by rw [← HR.out]; exact k1)
          have hag := again (c := c) hs (by rw [← HR.out]; exact k2) (by rw [← HR.out]; exact k3)
          rw [← HR.out] at hag
          dsimp only at hag
          have HG : Hid (c.B = true ∧ ledS ⟨A1, H1, S1⟩ = true ∧ seenV S1 c.id = k ∧ 0 ≤ k) := hide hag
          have HFY : Hid (LedF ⟨A1, H1, S1⟩) := hide (led_f hag.2.1)
          have HA1 : Hid (applM ⟨A1, H1, S1⟩ c = (⟨A1, H1, S1⟩, k)) := hide (by have := applM_seen (c := c) hag.2.1 hag.1 (by rw [hag.2.2.1]; exact hag.2.2.2); rw [hag.2.2.1] at this; exact this)
          have HA2 : Hid (applM ⟨A1, H1, S1⟩ ⟨c.id, 5, ⟨#[]⟩, ⟨#[]⟩, 0, 7⟩ = (⟨A1, H1, S1⟩, k)) := hide (by have := applM_seen (c := ⟨c.id, 5, ⟨#[]⟩, ⟨#[]⟩, 0, 7⟩) hag.2.1 (other_ok hag.1) (by dsimp only; rw [hag.2.2.1]; exact hag.2.2.2); dsimp only at this; rw [hag.2.2.1] at this; exact this)
          have HNY : Hid (A1.length ≤ 1048576 ∧ H1.length ≤ 1048576 ∧ S1.length ≤ 1048576) := hide (by have f := HFY.out; have h1 : A1.length ≤ 1000 := f.a; have h2 : H1.length ≤ 1000 := f.h; have h3 : S1.length ≤ 1000 := f.s; omega)
          clear hs hag
          have HQ7 : Hid (Pool [] w [[blk w1.heap.size (ledC p D)], [blk (w1.heap.size + 1) c.cells], [blk w4.heap.size (ledC q ⟨A1, H1, S1⟩)], [blk w6.heap.size (ledC q2 ⟨A1, H1, S1⟩)], ledL p D, ledL q ⟨A1, H1, S1⟩, ledL q2 ⟨A1, H1, S1⟩, [], [], [], [], []] W7) := hide (HP7.out.cast (by simp))
          clear HP7
          have m_0 := (HQ7.out.blkAt (i := 2) rfl).c 0 _ rfl
          have m_1 := (HQ7.out.blkAt (i := 2) rfl).c 1 _ rfl
          have m_2 := (HQ7.out.blkAt (i := 2) rfl).c 2 _ rfl
          have a_0 := (HQ7.out.blkAt (i := 1) rfl).c 0 _ rfl
          have a_1 := (HQ7.out.blkAt (i := 1) rfl).c 1 _ rfl
          have a_2 := (HQ7.out.blkAt (i := 1) rfl).c 2 _ rfl
          have a_3 := (HQ7.out.blkAt (i := 1) rfl).c 3 _ rfl
          have a_4 := (HQ7.out.blkAt (i := 1) rfl).c 4 _ rfl
          have a_5 := (HQ7.out.blkAt (i := 1) rfl).c 5 _ rfl
          go_wp2_with fail
          refine (implApplied_any q ⟨A1, H1, S1⟩ c aA aD W7 HNY.out.1 HNY.out.2.1 HNY.out.2.2 HC.out.1 HC.out.2 HQK.out (PlOk.led HFY.out.w (HQ7.out.get (i := 5) rfl)) (HV.out.below HQ7.out.below)).mono ?_
          rintro e w8 ⟨q3, rfl, hqk, hq⟩
          rw [HA1.out] at hqk hq ⊢
          dsimp only at hqk hq
          have HQ8 : Hid (Pool [] w [[blk w1.heap.size (ledC p D)], [blk (w1.heap.size + 1) c.cells], [blk w4.heap.size (ledC q ⟨A1, H1, S1⟩)], [blk w6.heap.size (ledC q2 ⟨A1, H1, S1⟩)], ledL p D, ledL q ⟨A1, H1, S1⟩, ledL q2 ⟨A1, H1, S1⟩, ledL q3 ⟨A1, H1, S1⟩, [], [], [], []] w8) := hide (HQ7.out.call (i := 7) rfl hq)
          clear hqk hq HQ7 m_0 m_1 m_2 a_0 a_1 a_2 a_3 a_4 a_5
          unfold ledV
          dsimp only
          go_upto_region 9 with fail
          refine cnm_world (fun W9 hW9 => ?_)
          have HQ9 : Hid (Pool [] w [[blk w1.heap.size (ledC p D)], [blk (w1.heap.size + 1) c.cells], [blk w4.heap.size (ledC q ⟨A1, H1, S1⟩)], [blk w6.heap.size (ledC q2 ⟨A1, H1, S1⟩)], ledL p D, ledL q ⟨A1, H1, S1⟩, ledL q2 ⟨A1, H1, S1⟩, ledL q3 ⟨A1, H1, S1⟩, [blk w8.heap.size (ledC q3 ⟨A1, H1, S1⟩)], [], [], []] W9) := hide (by
            have p1 := HQ8.out.newBlk (i := 8) rfl (ledC q3 ⟨A1, H1, S1⟩) 28
            rw [hW9]; exact p1)
          clear hW9 HQ8
          have a_0 := (HQ9.out.blkAt (i := 1) rfl).c 0 _ rfl
          have a_1 := (HQ9.out.blkAt (i := 1) rfl).c 1 _ rfl
          have a_2 := (HQ9.out.blkAt (i := 1) rfl).c 2 _ rfl
          have a_3 := (HQ9.out.blkAt (i := 1) rfl).c 3 _ rfl
          have a_4 := (HQ9.out.blkAt (i := 1) rfl).c 4 _ rfl
          have a_5 := (HQ9.out.blkAt (i := 1) rfl).c 5 _ rfl
          go_upto_region 10 with fail
          refine cnm_world (fun W10 hW10 => ?_)
          have HQ10 : Hid (Pool [] w [[blk w1.heap.size (ledC p D)], [blk (w1.heap.size + 1) c.cells], [blk w4.heap.size (ledC q ⟨A1, H1, S1⟩)], [blk w6.heap.size (ledC q2 ⟨A1, H1, S1⟩)], ledL p D, ledL q ⟨A1, H1, S1⟩, ledL q2 ⟨A1, H1, S1⟩, ledL q3 ⟨A1, H1, S1⟩, [blk w8.heap.size (ledC q3 ⟨A1, H1, S1⟩)], [blk W9.heap.size c.cells], [], []] W10) := hide (by
            have p1 := HQ9.out.newBlk (i := 9) rfl c.cells 30
            rw [hW10]; exact p1)
          clear hW10 HQ9 a_0 a_1 a_2 a_3 a_4 a_5
          have o_0 := (HQ10.out.blkAt (i := 9) rfl).c 0 _ rfl
          have o_1 := (HQ10.out.blkAt (i := 9) rfl).c 1 _ rfl
          have o_2 := (HQ10.out.blkAt (i := 9) rfl).c 2 _ rfl
          have o_3 := (HQ10.out.blkAt (i := 9) rfl).c 3 _ rfl
          have o_4 := (HQ10.out.blkAt (i := 9) rfl).c 4 _ rfl
          have o_5 := (HQ10.out.blkAt (i := 9) rfl).c 5 _ rfl
          have zo_0 := (HQ10.out.blkAt (i := 9) rfl).f 0
          have zo_1 := (HQ10.out.blkAt (i := 9) rfl).f 1
          have zo_2 := (HQ10.out.blkAt (i := 9) rfl).f 2
          have zo_3 := (HQ10.out.blkAt (i := 9) rfl).f 3
          have zo_4 := (HQ10.out.blkAt (i := 9) rfl).f 4
          have zo_5 := (HQ10.out.blkAt (i := 9) rfl).f 5
          go_upto_region 15 with fail
          refine cnm_world (fun W11 hW11 => ?_)
          have HQ11 : Hid (Pool [] w [[blk w1.heap.size (ledC p D)], [blk (w1.heap.size + 1) c.cells], [blk w4.heap.size (ledC q ⟨A1, H1, S1⟩)], [blk w6.heap.size (ledC q2 ⟨A1, H1, S1⟩)], ledL p D, ledL q ⟨A1, H1, S1⟩, ledL q2 ⟨A1, H1, S1⟩, ledL q3 ⟨A1, H1, S1⟩, [blk w8.heap.size (ledC q3 ⟨A1, H1, S1⟩)], [blk W9.heap.size [.int .i64 c.id, .int .i64 5, .string ⟨#[]⟩, .string ⟨#[]⟩, .int .i64 0, .int .i64 7]], [], []] W11) := hide (by
            rw [hW11]
            exact ((((HQ10.out.setBlk (i := 9) rfl 1 (.int .i64 5) (by simp [Cm.cells])).setBlk (i := 9) rfl 2 (.string ⟨#[]⟩) (by simp [Cm.cells])).setBlk (i := 9) rfl 3 (.string ⟨#[]⟩) (by simp [Cm.cells])).setBlk (i := 9) rfl 4 (.int .i64 0) (by simp [Cm.cells])).setBlk (i := 9) rfl 5 (.int .i64 7) (by simp [Cm.cells]))
          clear hW11 HQ10 o_0 zo_0 o_1 zo_1 o_2 zo_2 o_3 zo_3 o_4 zo_4 o_5 zo_5
          have m_0 := (HQ11.out.blkAt (i := 2) rfl).c 0 _ rfl
          have m_1 := (HQ11.out.blkAt (i := 2) rfl).c 1 _ rfl
          have m_2 := (HQ11.out.blkAt (i := 2) rfl).c 2 _ rfl
          have o_0 := (HQ11.out.blkAt (i := 9) rfl).c 0 _ rfl
          have o_1 := (HQ11.out.blkAt (i := 9) rfl).c 1 _ rfl
          have o_2 := (HQ11.out.blkAt (i := 9) rfl).c 2 _ rfl
          have o_3 := (HQ11.out.blkAt (i := 9) rfl).c 3 _ rfl
          have o_4 := (HQ11.out.blkAt (i := 9) rfl).c 4 _ rfl
          have o_5 := (HQ11.out.blkAt (i := 9) rfl).c 5 _ rfl
          go_wp2_with fail
          refine (implApplied_any q ⟨A1, H1, S1⟩ ⟨c.id, 5, ⟨#[]⟩, ⟨#[]⟩, 0, 7⟩ aA aD W11 HNY.out.1 HNY.out.2.1 HNY.out.2.2 (show (⟨#[]⟩ : ByteArray).size ≤ maxLen by decide) (show (⟨#[]⟩ : ByteArray).size ≤ maxLen by decide) HQK.out (PlOk.led HFY.out.w (HQ11.out.get (i := 5) rfl)) (HV.out.below HQ11.out.below)).mono ?_
          rintro e w12 ⟨q4, rfl, hqk, hq⟩
          rw [HA2.out] at hqk hq ⊢
          dsimp only at hqk hq
          have HQ12 : Hid (Pool [] w [[blk w1.heap.size (ledC p D)], [blk (w1.heap.size + 1) c.cells], [blk w4.heap.size (ledC q ⟨A1, H1, S1⟩)], [blk w6.heap.size (ledC q2 ⟨A1, H1, S1⟩)], ledL p D, ledL q ⟨A1, H1, S1⟩, ledL q2 ⟨A1, H1, S1⟩, ledL q3 ⟨A1, H1, S1⟩, [blk w8.heap.size (ledC q3 ⟨A1, H1, S1⟩)], [blk W9.heap.size [.int .i64 c.id, .int .i64 5, .string ⟨#[]⟩, .string ⟨#[]⟩, .int .i64 0, .int .i64 7]], ledL q4 ⟨A1, H1, S1⟩, []] w12) := hide (HQ11.out.call (i := 10) rfl hq)
          clear hqk hq HQ11 m_0 m_1 m_2 o_0 o_1 o_2 o_3 o_4 o_5
          unfold ledV
          dsimp only
          go_upto_region 16 with fail
          refine cnm_world (fun W13 hW13 => ?_)
          have HQ13 : Hid (Pool [] w [[blk w1.heap.size (ledC p D)], [blk (w1.heap.size + 1) c.cells], [blk w4.heap.size (ledC q ⟨A1, H1, S1⟩)], [blk w6.heap.size (ledC q2 ⟨A1, H1, S1⟩)], ledL p D, ledL q ⟨A1, H1, S1⟩, ledL q2 ⟨A1, H1, S1⟩, ledL q3 ⟨A1, H1, S1⟩, [blk w8.heap.size (ledC q3 ⟨A1, H1, S1⟩)], [blk W9.heap.size [.int .i64 c.id, .int .i64 5, .string ⟨#[]⟩, .string ⟨#[]⟩, .int .i64 0, .int .i64 7]], ledL q4 ⟨A1, H1, S1⟩, [blk w12.heap.size (ledC q4 ⟨A1, H1, S1⟩)]] W13) := hide (by
            have p1 := HQ12.out.newBlk (i := 11) rfl (ledC q4 ⟨A1, H1, S1⟩) 28
            rw [hW13]; exact p1)
          clear hW13 HQ12
          have n_0 := (HQ13.out.blkAt (i := 8) rfl).c 0 _ rfl
          have n_1 := (HQ13.out.blkAt (i := 8) rfl).c 1 _ rfl
          have n_2 := (HQ13.out.blkAt (i := 8) rfl).c 2 _ rfl
          have m_0 := (HQ13.out.blkAt (i := 2) rfl).c 0 _ rfl
          have m_1 := (HQ13.out.blkAt (i := 2) rfl).c 1 _ rfl
          have m_2 := (HQ13.out.blkAt (i := 2) rfl).c 2 _ rfl
          go_wp2_with fail
          refine (sameLedger_any q3 q ⟨A1, H1, S1⟩ _ HNY.out.1 HNY.out.2.1 HNY.out.2.2 (HQ13.out.get (i := 7) rfl).rows3 (HQ13.out.get (i := 5) rfl).rows3).mono ?_
          rintro e w14 ⟨rfl, hb⟩
          have HQ14 : Hid (Pool [] w [[blk w1.heap.size (ledC p D)], [blk (w1.heap.size + 1) c.cells], [blk w4.heap.size (ledC q ⟨A1, H1, S1⟩)], [blk w6.heap.size (ledC q2 ⟨A1, H1, S1⟩)], ledL p D, ledL q ⟨A1, H1, S1⟩, ledL q2 ⟨A1, H1, S1⟩, ledL q3 ⟨A1, H1, S1⟩, [blk w8.heap.size (ledC q3 ⟨A1, H1, S1⟩)], [blk W9.heap.size [.int .i64 c.id, .int .i64 5, .string ⟨#[]⟩, .string ⟨#[]⟩, .int .i64 0, .int .i64 7]], ledL q4 ⟨A1, H1, S1⟩, [blk w12.heap.size (ledC q4 ⟨A1, H1, S1⟩)]] w14) := hide (HQ13.out.keep hb)
          clear hb HQ13 n_0 n_1 n_2 m_0 m_1 m_2
          have n_0 := (HQ14.out.blkAt (i := 11) rfl).c 0 _ rfl
          have n_1 := (HQ14.out.blkAt (i := 11) rfl).c 1 _ rfl
          have n_2 := (HQ14.out.blkAt (i := 11) rfl).c 2 _ rfl
          have m_0 := (HQ14.out.blkAt (i := 2) rfl).c 0 _ rfl
          have m_1 := (HQ14.out.blkAt (i := 2) rfl).c 1 _ rfl
          have m_2 := (HQ14.out.blkAt (i := 2) rfl).c 2 _ rfl
          go_wp2_with fail
          refine (sameLedger_any q4 q ⟨A1, H1, S1⟩ _ HNY.out.1 HNY.out.2.1 HNY.out.2.2 (HQ14.out.get (i := 10) rfl).rows3 (HQ14.out.get (i := 5) rfl).rows3).mono ?_
          rintro e w15 ⟨rfl, hb⟩
          have HB15 : Hid (Below w.heap.size w w15) := hide (below_trans HQ14.out.below hb)
          clear hb HQ14 n_0 n_1 n_2 m_0 m_1 m_2
          go_wp2_with fail
          go_ret
          exact ⟨rfl, HB15.out⟩
end Go.Proofs.YtjjoeajnhblacaaGreatDoor
