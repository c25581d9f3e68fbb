/- The law FnHeld: a hold that is dropped leaves accounts and holds as they were; one that is taken leaves them as a post of it does. -/
import Derived.Test.YtjjoeajnhblacaaGreatDoorGr
import Derived.Test.YtjjoeajnhblacaaGreatDoorPvC
namespace Go.Proofs.YtjjoeajnhblacaaGreatDoor
open Go.ChangeShapes Go.WideShapes Go.ChangeAt Go.RowKit
set_option linter.unusedVariables false
set_option maxRecDepth 100000
theorem Star.rows3' {p : LP} {D : Led} {w : World} (h : Star (ledL p D) w) : RowAt 4 accCells w p.aa D.acc ∧ RowAt 4 hldCells w p.ha D.hold ∧ RowAt 2 snCells w p.sa D.seen :=
  ⟨(h.get (r := orow 4 accCells p.aa p.ca D.acc) (by simp [ledL])).2.rows, (h.get (r := orow 4 hldCells p.ha p.ch D.hold) (by simp [ledL])).2.rows, (h.get (r := orow 2 snCells p.sa p.cs D.seen) (by simp [ledL])).2.rows⟩
set_option maxHeartbeats 16000000 in
theorem walkHeld (a0 : Option Addr) (len cap : Nat) (aA aD : Addr) (w : World) (h : IsCode w a0 len) (hv : VarsAt aA aD w) : Calls Tryz.prog 7 #[.slice a0 len cap] w fun e w' => YesEnd w e w' := by
  have H : Hid _ := hide h
  have HV : Hid _ := hide hv
  clear h hv
  go_enter Tryz.func7, Tryz.ntmps7
  go_wp2_with fail
  refine (big_any a0 len cap w).mono ?_
  rintro e w' ⟨rfl, hw'⟩
  rw [hw']
  clear hw' w'
  by_cases hbig : (1048576 : Int) < (len : Int)
  · go_wp2
    go_ret
    exact ⟨rfl, Below.refl _ _⟩
  · go_wp2_with fail
    refine (drawApplied_any a0 len cap w H.out).mono ?_
    rintro e w1 ⟨p, D, c, rfl, hpk, hf, hcf, hct, hp1⟩
    have HK : Hid (PlOk p D) := hide hpk
    have HF : Hid (LedF D) := hide hf
    have HC0 : Hid (c.fr.size ≤ maxLen ∧ c.to.size ≤ maxLen) := hide ⟨Nat.le_trans hcf (by decide), Nat.le_trans hct (by decide)⟩
    have HP1 : Hid (Pool [] w [[], [], [], [], ledL p D, [], [], [], [], [], [], [], []] w1) := hide (hp1.cast (by simp))
    have HN : Hid (D.acc.length ≤ 1048576 ∧ D.hold.length ≤ 1048576 ∧ D.seen.length ≤ 1048576) := hide (by have := hf.a; have := hf.h; have := hf.s; omega)
    clear hpk hf hcf hct hp1 H
    unfold ledV Cm.v
    go_upto_region 4 with fail
    refine cnm_world (fun W3 hW3 => ?_)
    have HP3 : Hid (Pool [] w [[blk w1.heap.size (ledC p D)], [blk (w1.heap.size + 1) c.cells], [], [], ledL p D, [], [], [], [], [], [], [], []] W3) := hide (by
      have p1 := HP1.out.newBlk (i := 0) rfl (ledC p D) 28
      have s1 : (w1.alloc (.cells (ledC p D).toArray 28)).heap.size = w1.heap.size + 1 := by simp
      have p2 := p1.newBlk (i := 1) rfl c.cells 30
      rw [s1] at p2
      rw [hW3]; exact p2)
    clear hW3 HP1
    go_cut [26] from 17 to 166 (fun sl wx => sl = .bool (c.kind == 2) ∧ Hid (Pool [] w [[blk w1.heap.size (ledC p D)], [blk (w1.heap.size + 1) c.cells], [], [], ledL p D, [], [], [], [], [], [], [], []] wx))
    case first =>
      have a_1 := (HP3.out.blkAt (i := 1) rfl).c 1 _ rfl
      go_wp2_with fail
      go_meet
      exact ⟨rfl, HP3⟩
    case rest =>
      obtain ⟨rfl, HPa⟩ := hcut
      clear HP3
      rename_i K0 hK0
      refine hK0 _ _ ?_
      go_cut [] from 17 to 166 (fun wx => Hid (∃ c2 : Cm, (c2.fr.size ≤ maxLen ∧ c2.to.size ≤ maxLen) ∧ Pool [] w [[blk w1.heap.size (ledC p D)], [blk (w1.heap.size + 1) c2.cells], [], [], ledL p D, [], [], [], [], [], [], [], []] wx))
      case first =>
        have a_1 := (HPa.out.blkAt (i := 1) rfl).c 1 _ rfl
        have f_1 := (HPa.out.blkAt (i := 1) rfl).f 1
        cases hb : (c.kind == 2)
        · go_wp2_with fail
          go_meet
          exact hide ⟨c, HC0.out, HPa.out⟩
        · go_wp2_with fail
          go_meet
          exact hide ⟨⟨c.id, 3, c.fr, c.to, c.am, c.ref⟩, HC0.out, HPa.out.setBlk (i := 1) rfl 1 (.int .i64 3) (by simp [Cm.cells])⟩
      case rest =>
        obtain ⟨c2, hc2, hp2⟩ := hcut.out
        have HC : Hid (c2.fr.size ≤ maxLen ∧ c2.to.size ≤ maxLen) := hide hc2
        rename World => W4
        have HP4 : Hid (Pool [] w [[blk w1.heap.size (ledC p D)], [blk (w1.heap.size + 1) c2.cells], [], [], ledL p D, [], [], [], [], [], [], [], []] W4) := hide hp2
        clear hcut hc2 hp2 HPa HC0
        have n_0 := (HP4.out.blkAt (i := 0) rfl).c 0 _ rfl
        have n_1 := (HP4.out.blkAt (i := 0) rfl).c 1 _ rfl
        have n_2 := (HP4.out.blkAt (i := 0) rfl).c 2 _ rfl
        have a_0 := (HP4.out.blkAt (i := 1) rfl).c 0 _ rfl
        have a_1 := (HP4.out.blkAt (i := 1) rfl).c 1 _ rfl
        have a_2 := (HP4.out.blkAt (i := 1) rfl).c 2 _ rfl
        have a_3 := (HP4.out.blkAt (i := 1) rfl).c 3 _ rfl
        have a_4 := (HP4.out.blkAt (i := 1) rfl).c 4 _ rfl
        have a_5 := (HP4.out.blkAt (i := 1) rfl).c 5 _ rfl
        go_wp2_with fail
        obtain ⟨R, hR⟩ : ∃ R, R = applM D c2 := ⟨_, rfl⟩
        refine (implApplied_any p D c2 aA aD W4 HN.out.1 HN.out.2.1 HN.out.2.2 HC.out.1 HC.out.2 HK.out (PlOk.led HF.out.w (HP4.out.get (i := 4) rfl)) (HV.out.below HP4.out.below)).mono ?_
        rintro e w4 ⟨q, rfl, hqk, hq⟩
        rw [← hR] at hqk hq ⊢
        obtain ⟨⟨A1, H1, S1⟩, k⟩ := R
        dsimp only at hqk hq
        have HQK : Hid (PlOk q ⟨A1, H1, S1⟩) := hide hqk
        have HP5 : Hid (Pool [] w [[blk w1.heap.size (ledC p D)], [blk (w1.heap.size + 1) c2.cells], [], [], ledL p D, ledL q ⟨A1, H1, S1⟩, [], [], [], [], [], [], []] w4) := hide (HP4.out.call (i := 5) rfl hq)
        have HR : Hid ((⟨A1, H1, S1⟩, k) = applM D c2) := hide hR
        clear hqk hq HP4 hR n_0 n_1 n_2 a_0 a_1 a_2 a_3 a_4 a_5
        unfold ledV
        dsimp only
        go_upto_region 7 with fail
        refine cnm_world (fun W5 hW5 => ?_)
        have HP6 : Hid (Pool [] w [[blk w1.heap.size (ledC p D)], [blk (w1.heap.size + 1) c2.cells], [blk w4.heap.size (ledC q ⟨A1, H1, S1⟩)], [], ledL p D, ledL q ⟨A1, H1, S1⟩, [], [], [], [], [], [], []] W5) := hide (by
          have p1 := HP5.out.newBlk (i := 2) rfl (ledC q ⟨A1, H1, S1⟩) 28
          rw [hW5]; exact p1)
        clear hW5 HP5
        have n_0 := (HP6.out.blkAt (i := 0) rfl).c 0 _ rfl
        have n_1 := (HP6.out.blkAt (i := 0) rfl).c 1 _ rfl
        have n_2 := (HP6.out.blkAt (i := 0) rfl).c 2 _ rfl
        have a_0 := (HP6.out.blkAt (i := 1) rfl).c 0 _ rfl
        have a_1 := (HP6.out.blkAt (i := 1) rfl).c 1 _ rfl
        have a_2 := (HP6.out.blkAt (i := 1) rfl).c 2 _ rfl
        have a_3 := (HP6.out.blkAt (i := 1) rfl).c 3 _ rfl
        have a_4 := (HP6.out.blkAt (i := 1) rfl).c 4 _ rfl
        have a_5 := (HP6.out.blkAt (i := 1) rfl).c 5 _ rfl
        go_wp2_with fail
        refine (specApplied_any p D c2 W5 HN.out.1 HN.out.2.1 HN.out.2.2 HC.out.1 HC.out.2 HK.out (PlOk.led HF.out.w (HP6.out.get (i := 4) rfl))).mono ?_
        rintro e w6 ⟨q2, rfl, hqk, hq⟩
        rw [← HR.out] at hqk hq ⊢
        dsimp only at hqk hq
        have HP7 : Hid (Pool [] w [[blk w1.heap.size (ledC p D)], [blk (w1.heap.size + 1) c2.cells], [blk w4.heap.size (ledC q ⟨A1, H1, S1⟩)], [], ledL p D, ledL q ⟨A1, H1, S1⟩, ledL q2 ⟨A1, H1, S1⟩, [], [], [], [], [], []] w6) := hide (HP6.out.call (i := 6) rfl hq)
        clear hqk hq HP6 n_0 n_1 n_2 a_0 a_1 a_2 a_3 a_4 a_5
        unfold ledV
        dsimp only
        go_upto_region 8 with fail
        refine cnm_world (fun W8 hW8 => ?_)
        have HP8 : Hid (Pool [] w [[blk w1.heap.size (ledC p D)], [blk (w1.heap.size + 1) c2.cells], [blk w4.heap.size (ledC q ⟨A1, H1, S1⟩)], [blk w6.heap.size (ledC q2 ⟨A1, H1, S1⟩)], ledL p D, ledL q ⟨A1, H1, S1⟩, ledL q2 ⟨A1, H1, S1⟩, [], [], [], [], [], []] W8) := hide (by
          have p1 := HP7.out.newBlk (i := 3) rfl (ledC q2 ⟨A1, H1, S1⟩) 28
          rw [hW8]; exact p1)
        clear hW8 HP7
        have HBL : Hid (Below w.heap.size w W8) := hide HP8.out.below
        have HSL : Hid (S1.length ≤ 1048576) := hide (by
          by_cases k1 : k = 1
          · have z := HR.out
            subst k1
            cases hs : ledS D
            · rw [applM_wrong hs] at z
              have := congrArg (fun r : Led × Int => r.1.seen) z
              simp only at this
              rw [this]; simp
            · have z2 := rt_appl (c := c2) hs
              rw [← z] at z2
              have : S1.length ≤ 40 := (rt_of z2).ns
              omega
          · have hs : ledS D = true := applM_one (c := c2) (by rw [← HR.out]; exact k1)
            have z2 := rt_appl (c := c2) hs
            rw [← HR.out] at z2
            have : S1.length ≤ 40 := (rt_of z2).ns
            omega)
        have hsl : S1.length ≤ 1048576 := HSL.out
        by_cases k0 : k = 0
        · subst k0
          have a_1 := (HP8.out.blkAt (i := 1) rfl).c 1 _ rfl
          by_cases kd : c2.kind = 3
          · have kd' : (c2.kind != 3) = false := by simp [kd]
            have HKd : Hid (c2.kind = 3) := hide kd
            clear kd
            have n_2 := (HP8.out.blkAt (i := 2) rfl).c 2 _ rfl
            have l_2 := (HP8.out.blkAt (i := 0) rfl).c 2 _ rfl
            by_cases hl : S1.length = D.seen.length
            · have hl' : ((S1.length : Int) == (D.seen.length : Int)) = true := by rw [hl]; simp
              clear hl
              go_wp2_with fail
              go_ret
              exact ⟨rfl, HBL.out⟩
            · have hl' : ((S1.length : Int) == (D.seen.length : Int)) = false := by simp only [beq_eq_false_iff_ne, ne_eq]; omega
              have HLn : Hid (S1.length ≠ D.seen.length) := hide hl
              clear hl
              by_cases h40 : S1.length = 40
              · have h40' : ((S1.length : Int) == 40) = true := by simp; omega
                clear h40
                go_wp2_with fail
                go_ret
                exact ⟨rfl, HBL.out⟩
              · have h40' : ((S1.length : Int) == 40) = false := by simp only [beq_eq_false_iff_ne, ne_eq]; omega
                have H40 : Hid (S1.length ≠ 40) := hide h40
                clear h40
                have hs : ledS D = true := applM_one (c := c2) (by rw [← HR.out]; show (0 : Int) ≠ 1; decide)
                go_wp2_with fail
                go_loop [10] (fun i => ∃ m : Nat, m ≤ S1.length ∧ i = .int .i64 (m : Int) ∧ Hid (∀ j (hj : j < S1.length), j < m → S1[j].id ≠ 999)) (fun i => S1.length - (intOf i).toNat)
                case atStart => exact ⟨0, Nat.zero_le _, rfl, hide (fun j _ hj => by omega)⟩
                case round =>
                  obtain ⟨m, hm, rfl, HNo⟩ := hrel
                  by_cases hlt : m < S1.length
                  · have hlt' : (m : Int) < (S1.length : Int) := by omega
                    obtain ⟨b, off, ha, hb, c0, c1⟩ := sn_row2 ((HP8.out.get (i := 5) rfl).get (r := orow 2 snCells q.sa q.cs S1) (by simp [ledL])).2.rows m hlt
                    rw [ha] at n_2
                    clear ha
                    by_cases hq : S1[m].id = 999
                    · have hq' : (S1[m].id == 999) = true := by simpa using hq
                      clear hq
                      go_wp2_with fail
                      go_ret
                      exact ⟨rfl, HBL.out⟩
                    · have hq' : (S1[m].id == 999) = false := by simpa using hq
                      have HS : Hid (∀ j (hj : j < S1.length), j < m + 1 → S1[j].id ≠ 999) := hide (fun j hj hjk => by
                        rcases Nat.lt_or_ge j m with h | h
                        · exact HNo.out j hj h
                        · obtain rfl : j = m := by omega
                          exact hq)
                      clear hq
                      go_wp2_with fail
                      exact ⟨⟨m + 1, by omega, by go_num, HS⟩, by simp [intOf]; omega⟩
                  · have hlt' : ¬ (m : Int) < (S1.length : Int) := by omega
                    have hHl := held_law (c := c2) hs (by rw [← HR.out]) HKd.out (by rw [← HR.out]; exact HLn.out) (by rw [← HR.out]; exact H40.out) (by
                      rw [← HR.out]
                      intro y hy
                      obtain ⟨j, hj, rfl⟩ := List.mem_iff_getElem.1 hy
                      exact HNo.out j hj (by simp only at hj; omega))
                    have hYs := rt_appl (c := c2) hs
                    rw [← HR.out] at hHl hYs
                    dsimp only at hHl hYs
                    have HHe : Hid (HeldIs D ⟨A1, H1, S1⟩ c2) := hide hHl
                    have HYs : Hid (ledS ⟨A1, H1, S1⟩ = true) := hide hYs
                    have HFY : Hid (LedF ⟨A1, H1, S1⟩) := hide (led_f hYs)
                    have HNY : Hid (A1.length ≤ 1048576 ∧ H1.length ≤ 1048576 ∧ S1.length ≤ 1048576) := hide (by have f := HFY.out; have h1 : A1.length ≤ 1000 := f.a; have h2 : H1.length ≤ 1000 := f.h; have h3 : S1.length ≤ 1000 := f.s; omega)
                    clear hHl hYs HNo
                    go_upto_region 16 with fail
                    clear a_1 n_2 l_2
                    obtain ⟨v1, hv1⟩ : ∃ v1, v1 = heldO D c2.fr := ⟨_, rfl⟩
                    have HV1 : Hid (heldO ⟨A1, H1, S1⟩ c2.fr = v1 + c2.am) := hide (by rw [hv1]; exact HHe.out.held)
                    have hb1 : 0 ≤ v1 ∧ v1 ≤ 10000000000000 ∧ 1 ≤ c2.am ∧ c2.am ≤ 1000000000000 := by rw [hv1]; exact HHe.out.bd
                    obtain ⟨hb1a, hb1b, hb1c, hb1d⟩ := hb1
                    have HV0 : Hid (heldO D c2.fr = v1) := hide hv1.symm
                    clear hv1
                    have n_0 := (HP8.out.blkAt (i := 2) rfl).c 0 _ rfl
                    have n_1 := (HP8.out.blkAt (i := 2) rfl).c 1 _ rfl
                    have n_2 := (HP8.out.blkAt (i := 2) rfl).c 2 _ rfl
                    have l_0 := (HP8.out.blkAt (i := 0) rfl).c 0 _ rfl
                    have l_1 := (HP8.out.blkAt (i := 0) rfl).c 1 _ rfl
                    have l_2 := (HP8.out.blkAt (i := 0) rfl).c 2 _ rfl
                    have c_2 := (HP8.out.blkAt (i := 1) rfl).c 2 _ rfl
                    have c_4 := (HP8.out.blkAt (i := 1) rfl).c 4 _ rfl
                    have kn_0 : ∀ y : Later W8, y.w.cell? _ = _ := fun y => below_keeps y.below _ _ n_0
                    have kn_1 : ∀ y : Later W8, y.w.cell? _ = _ := fun y => below_keeps y.below _ _ n_1
                    have kn_2 : ∀ y : Later W8, y.w.cell? _ = _ := fun y => below_keeps y.below _ _ n_2
                    have kl_0 : ∀ y : Later W8, y.w.cell? _ = _ := fun y => below_keeps y.below _ _ l_0
                    have kl_1 : ∀ y : Later W8, y.w.cell? _ = _ := fun y => below_keeps y.below _ _ l_1
                    have kl_2 : ∀ y : Later W8, y.w.cell? _ = _ := fun y => below_keeps y.below _ _ l_2
                    have kc_2 : ∀ y : Later W8, y.w.cell? _ = _ := fun y => below_keeps y.below _ _ c_2
                    have kc_4 : ∀ y : Later W8, y.w.cell? _ = _ := fun y => below_keeps y.below _ _ c_4
                    have HC1 : Hid (∀ y : Later W8, Calls Tryz.prog 15 #[.agg #[.slice q.aa A1.length q.ca, .slice q.ha H1.length q.ch, .slice q.sa S1.length q.cs], .string c2.fr] y.w fun e w'' => e = .returned (.int .i64 (v1 + c2.am)) ∧ ∃ z : Later W8, w'' = z.w) := hide (fun y => later_of (by
                      have z := implHeldOf_any q.aa q.ha q.sa ⟨A1, H1, S1⟩ q.ca q.ch q.cs _ _ c2.fr y.w (PlOk.led HFY.out.w ((HP8.out.keep y.below).get (i := 5) rfl)) (HV.out.below (below_trans HBL.out y.below)).d HC.out.1 HNY.out.1 HNY.out.2.1 HNY.out.2.2
                      rw [HV1.out] at z
                      exact z))
                    have HC2 : Hid (∀ y : Later W8, Calls Tryz.prog 15 #[.agg #[.slice p.aa D.acc.length p.ca, .slice p.ha D.hold.length p.ch, .slice p.sa D.seen.length p.cs], .string c2.fr] y.w fun e w'' => e = .returned (.int .i64 v1) ∧ ∃ z : Later W8, w'' = z.w) := hide (fun y => later_of (by
                      have z := implHeldOf_any p.aa p.ha p.sa D p.ca p.ch p.cs _ _ c2.fr y.w (PlOk.led HF.out.w ((HP8.out.keep y.below).get (i := 4) rfl)) (HV.out.below (below_trans HBL.out y.below)).d HC.out.1 HN.out.1 HN.out.2.1 HN.out.2.2
                      rw [HV0.out] at z
                      exact z))
                    have hne : Nonempty (Later W8) := later_there _
                    have hvv : (v1 + c2.am != v1 + c2.am) = false := by simp
                    refine wp_region_later W8 (by kernel_rfl) (by kernel_rfl) ((Below.refl _ _).drew) ?_
                    repeat (go_big_quiet_step (first | (go_at_call 15; first | with_reducible exact HC1.out _ | with_reducible exact HC2.out _)))
                    refine wpQuiet_nil ?_
                    intro _ hw'
                    obtain ⟨nx, rfl⟩ := hw'
                    obtain ⟨w10, hw10⟩ : ∃ w10, w10 = nx.w := ⟨_, rfl⟩
                    have HQ0 : Hid (Pool [] w [[blk w1.heap.size (ledC p D)], [blk (w1.heap.size + 1) c2.cells], [blk w4.heap.size (ledC q ⟨A1, H1, S1⟩)], [blk w6.heap.size (ledC q2 ⟨A1, H1, S1⟩)], ledL p D, ledL q ⟨A1, H1, S1⟩, ledL q2 ⟨A1, H1, S1⟩, [], [], [], [], [], []] w10) := hide (by rw [hw10]; exact HP8.out.keep nx.below)
                    rw [← hw10]
                    clear hw10 HC1 HC2 HBL n_0 kn_0 n_1 kn_1 n_2 kn_2 l_0 kl_0 l_1 kl_1 l_2 kl_2 c_2 kc_2 c_4 kc_4
                    clear nx hne
                    obtain ⟨Sd, hSd⟩ := HHe.out.drop
                    obtain ⟨g, A, ⟨X, hX, hXa⟩, Z, hZ, hZa⟩ := HHe.out.take
                    have HD : Hid _ := hide hSd
                    have HX : Hid _ := hide hX
                    have HXa : Hid _ := hide hXa
                    have HZ : Hid _ := hide hZ
                    have HZa : Hid _ := hide hZa
                    have HXl : Hid (X.acc.length ≤ 1048576) := hide (by
                      have z := rt_appl (c := ⟨999, 4, ⟨#[]⟩, ⟨#[]⟩, 0, c2.id⟩) HYs.out
                      rw [hX] at z
                      have : X.acc.length ≤ 12 := (rt_of z).na
                      omega)
                    clear hSd hX hXa hZ hZa hs
                    have n_0 := (HQ0.out.blkAt (i := 2) rfl).c 0 _ rfl
                    have n_1 := (HQ0.out.blkAt (i := 2) rfl).c 1 _ rfl
                    have n_2 := (HQ0.out.blkAt (i := 2) rfl).c 2 _ rfl
                    have c_0 := (HQ0.out.blkAt (i := 1) rfl).c 0 _ rfl
                    go_wp2_with fail
                    refine (implApplied_any q ⟨A1, H1, S1⟩ ⟨999, 5, ⟨#[]⟩, ⟨#[]⟩, 0, c2.id⟩ aA aD w10 HNY.out.1 HNY.out.2.1 HNY.out.2.2 (show (⟨#[]⟩ : ByteArray).size ≤ maxLen by decide) (show (⟨#[]⟩ : ByteArray).size ≤ maxLen by decide) HQK.out (PlOk.led HFY.out.w (HQ0.out.get (i := 5) rfl)) (HV.out.below HQ0.out.below)).mono ?_
                    rintro e w12 ⟨q3, rfl, hqk, hq⟩
                    rw [HD.out] at hqk hq ⊢
                    dsimp only at hqk hq
                    have HQ1 : Hid (Pool [] w [[blk w1.heap.size (ledC p D)], [blk (w1.heap.size + 1) c2.cells], [blk w4.heap.size (ledC q ⟨A1, H1, S1⟩)], [blk w6.heap.size (ledC q2 ⟨A1, H1, S1⟩)], ledL p D, ledL q ⟨A1, H1, S1⟩, ledL q2 ⟨A1, H1, S1⟩, ledL q3 ⟨D.acc, D.hold, Sd⟩, [], [], [], [], []] w12) := hide (HQ0.out.call (i := 7) rfl hq)
                    clear hqk hq HQ0 n_0 n_1 n_2 c_0
                    unfold ledV
                    dsimp only
                    go_upto_region 19 with fail
                    refine cnm_world (fun W13 hW13 => ?_)
                    have HQ2 : Hid (Pool [] w [[blk w1.heap.size (ledC p D)], [blk (w1.heap.size + 1) c2.cells], [blk w4.heap.size (ledC q ⟨A1, H1, S1⟩)], [blk w6.heap.size (ledC q2 ⟨A1, H1, S1⟩)], ledL p D, ledL q ⟨A1, H1, S1⟩, ledL q2 ⟨A1, H1, S1⟩, ledL q3 ⟨D.acc, D.hold, Sd⟩, [blk w12.heap.size (ledC q3 ⟨D.acc, D.hold, Sd⟩)], [], [], [], []] W13) := hide (by
                      have p1 := HQ1.out.newBlk (i := 8) rfl (ledC q3 ⟨D.acc, D.hold, Sd⟩) 28
                      rw [hW13]; exact p1)
                    clear hW13 HQ1
                    have n_0 := (HQ2.out.blkAt (i := 2) rfl).c 0 _ rfl
                    have n_1 := (HQ2.out.blkAt (i := 2) rfl).c 1 _ rfl
                    have n_2 := (HQ2.out.blkAt (i := 2) rfl).c 2 _ rfl
                    have c_0 := (HQ2.out.blkAt (i := 1) rfl).c 0 _ rfl
                    go_wp2_with fail
                    refine (implApplied_any q ⟨A1, H1, S1⟩ ⟨999, 4, ⟨#[]⟩, ⟨#[]⟩, 0, c2.id⟩ aA aD W13 HNY.out.1 HNY.out.2.1 HNY.out.2.2 (show (⟨#[]⟩ : ByteArray).size ≤ maxLen by decide) (show (⟨#[]⟩ : ByteArray).size ≤ maxLen by decide) HQK.out (PlOk.led HFY.out.w (HQ2.out.get (i := 5) rfl)) (HV.out.below HQ2.out.below)).mono ?_
                    rintro e w14 ⟨q4, rfl, hqk, hq⟩
                    rw [HX.out] at hqk hq ⊢
                    dsimp only at hqk hq
                    have HQ3 : Hid (Pool [] w [[blk w1.heap.size (ledC p D)], [blk (w1.heap.size + 1) c2.cells], [blk w4.heap.size (ledC q ⟨A1, H1, S1⟩)], [blk w6.heap.size (ledC q2 ⟨A1, H1, S1⟩)], ledL p D, ledL q ⟨A1, H1, S1⟩, ledL q2 ⟨A1, H1, S1⟩, ledL q3 ⟨D.acc, D.hold, Sd⟩, [blk w12.heap.size (ledC q3 ⟨D.acc, D.hold, Sd⟩)], ledL q4 X, [], [], []] w14) := hide (HQ2.out.call (i := 9) rfl hq)
                    clear hqk hq HQ2 n_0 n_1 n_2 c_0
                    unfold ledV
                    dsimp only
                    go_upto_region 20 with fail
                    refine cnm_world (fun W15 hW15 => ?_)
                    have HQ4 : Hid (Pool [] w [[blk w1.heap.size (ledC p D)], [blk (w1.heap.size + 1) c2.cells], [blk w4.heap.size (ledC q ⟨A1, H1, S1⟩)], [blk w6.heap.size (ledC q2 ⟨A1, H1, S1⟩)], ledL p D, ledL q ⟨A1, H1, S1⟩, ledL q2 ⟨A1, H1, S1⟩, ledL q3 ⟨D.acc, D.hold, Sd⟩, [blk w12.heap.size (ledC q3 ⟨D.acc, D.hold, Sd⟩)], ledL q4 X, [blk w14.heap.size (ledC q4 X)], [], []] W15) := hide (by
                      have p1 := HQ3.out.newBlk (i := 10) rfl (ledC q4 X) 28
                      rw [hW15]; exact p1)
                    clear hW15 HQ3
                    have l_0 := (HQ4.out.blkAt (i := 0) rfl).c 0 _ rfl
                    have l_1 := (HQ4.out.blkAt (i := 0) rfl).c 1 _ rfl
                    have l_2 := (HQ4.out.blkAt (i := 0) rfl).c 2 _ rfl
                    have c_2 := (HQ4.out.blkAt (i := 1) rfl).c 2 _ rfl
                    have c_3 := (HQ4.out.blkAt (i := 1) rfl).c 3 _ rfl
                    have c_4 := (HQ4.out.blkAt (i := 1) rfl).c 4 _ rfl
                    go_wp2_with fail
                    refine (implApplied_any p D ⟨999, 2, c2.fr, c2.to, c2.am, 0⟩ aA aD W15 HN.out.1 HN.out.2.1 HN.out.2.2 HC.out.1 HC.out.2 HK.out (PlOk.led HF.out.w (HQ4.out.get (i := 4) rfl)) (HV.out.below HQ4.out.below)).mono ?_
                    rintro e w16 ⟨q5, rfl, hqk, hq⟩
                    rw [HZ.out] at hqk hq ⊢
                    dsimp only at hqk hq
                    have HQ5 : Hid (Pool [] w [[blk w1.heap.size (ledC p D)], [blk (w1.heap.size + 1) c2.cells], [blk w4.heap.size (ledC q ⟨A1, H1, S1⟩)], [blk w6.heap.size (ledC q2 ⟨A1, H1, S1⟩)], ledL p D, ledL q ⟨A1, H1, S1⟩, ledL q2 ⟨A1, H1, S1⟩, ledL q3 ⟨D.acc, D.hold, Sd⟩, [blk w12.heap.size (ledC q3 ⟨D.acc, D.hold, Sd⟩)], ledL q4 X, [blk w14.heap.size (ledC q4 X)], ledL q5 Z, []] w16) := hide (HQ4.out.call (i := 11) rfl hq)
                    clear hqk hq HQ4 l_0 l_1 l_2 c_2 c_3 c_4
                    unfold ledV
                    dsimp only
                    go_upto_region 21 with fail
                    refine cnm_world (fun W17 hW17 => ?_)
                    have HQ6 : Hid (Pool [] w [[blk w1.heap.size (ledC p D)], [blk (w1.heap.size + 1) c2.cells], [blk w4.heap.size (ledC q ⟨A1, H1, S1⟩)], [blk w6.heap.size (ledC q2 ⟨A1, H1, S1⟩)], ledL p D, ledL q ⟨A1, H1, S1⟩, ledL q2 ⟨A1, H1, S1⟩, ledL q3 ⟨D.acc, D.hold, Sd⟩, [blk w12.heap.size (ledC q3 ⟨D.acc, D.hold, Sd⟩)], ledL q4 X, [blk w14.heap.size (ledC q4 X)], ledL q5 Z, [blk w16.heap.size (ledC q5 Z)]] W17) := hide (by
                      have p1 := HQ5.out.newBlk (i := 12) rfl (ledC q5 Z) 28
                      rw [hW17]; exact p1)
                    clear hW17 HQ5
                    have d_0 := (HQ6.out.blkAt (i := 8) rfl).c 0 _ rfl
                    have l_0 := (HQ6.out.blkAt (i := 0) rfl).c 0 _ rfl
                    go_wp2_with fail
                    refine (sameAccounts_any q3.aa p.aa D.acc _ _ _ HN.out.1 (Star.rows3' (HQ6.out.get (i := 7) rfl)).1 (Star.rows3' (HQ6.out.get (i := 4) rfl)).1).mono ?_
                    rintro e w18 ⟨rfl, hb⟩
                    have HQ7 : Hid (Pool [] w [[blk w1.heap.size (ledC p D)], [blk (w1.heap.size + 1) c2.cells], [blk w4.heap.size (ledC q ⟨A1, H1, S1⟩)], [blk w6.heap.size (ledC q2 ⟨A1, H1, S1⟩)], ledL p D, ledL q ⟨A1, H1, S1⟩, ledL q2 ⟨A1, H1, S1⟩, ledL q3 ⟨D.acc, D.hold, Sd⟩, [blk w12.heap.size (ledC q3 ⟨D.acc, D.hold, Sd⟩)], ledL q4 X, [blk w14.heap.size (ledC q4 X)], ledL q5 Z, [blk w16.heap.size (ledC q5 Z)]] w18) := hide (HQ6.out.keep hb)
                    clear hb HQ6 d_0 l_0
                    have d_1 := (HQ7.out.blkAt (i := 8) rfl).c 1 _ rfl
                    have l_1 := (HQ7.out.blkAt (i := 0) rfl).c 1 _ rfl
                    go_wp2_with fail
                    refine (sameHolds_any q3.ha p.ha D.hold _ _ _ HN.out.2.1 (Star.rows3' (HQ7.out.get (i := 7) rfl)).2.1 (Star.rows3' (HQ7.out.get (i := 4) rfl)).2.1).mono ?_
                    rintro e w19 ⟨rfl, hb⟩
                    have HQ8 : Hid (Pool [] w [[blk w1.heap.size (ledC p D)], [blk (w1.heap.size + 1) c2.cells], [blk w4.heap.size (ledC q ⟨A1, H1, S1⟩)], [blk w6.heap.size (ledC q2 ⟨A1, H1, S1⟩)], ledL p D, ledL q ⟨A1, H1, S1⟩, ledL q2 ⟨A1, H1, S1⟩, ledL q3 ⟨D.acc, D.hold, Sd⟩, [blk w12.heap.size (ledC q3 ⟨D.acc, D.hold, Sd⟩)], ledL q4 X, [blk w14.heap.size (ledC q4 X)], ledL q5 Z, [blk w16.heap.size (ledC q5 Z)]] w19) := hide (HQ7.out.keep hb)
                    clear hb HQ7 d_1 l_1
                    have gg : (g == g) = true := by simp
                    by_cases g0 : g = 0
                    · obtain ⟨x1, x2⟩ := HXa.out g0
                      have z1 := HZa.out g0
                      subst g0
                      obtain ⟨xa, xh, xs⟩ := X
                      obtain ⟨za, zh, zs⟩ := Z
                      dsimp only at x1 x2 z1
                      subst x1 x2 z1
                      have t_0 := (HQ8.out.blkAt (i := 10) rfl).c 0 _ rfl
                      have p_0 := (HQ8.out.blkAt (i := 12) rfl).c 0 _ rfl
                      go_wp2_with fail
                      refine (sameAccounts_any q4.aa q5.aa _ _ _ _ HXl.out (Star.rows3' (HQ8.out.get (i := 9) rfl)).1 (Star.rows3' (HQ8.out.get (i := 11) rfl)).1).mono ?_
                      rintro e w20 ⟨rfl, hb⟩
                      have HQ9 : Hid _ := hide (HQ8.out.keep hb)
                      clear hb HQ8 t_0 p_0
                      have t_1 := (HQ9.out.blkAt (i := 10) rfl).c 1 _ rfl
                      have l_1 := (HQ9.out.blkAt (i := 0) rfl).c 1 _ rfl
                      go_wp2_with fail
                      refine (sameHolds_any q4.ha p.ha D.hold _ _ _ HN.out.2.1 (Star.rows3' (HQ9.out.get (i := 9) rfl)).2.1 (Star.rows3' (HQ9.out.get (i := 4) rfl)).2.1).mono ?_
                      rintro e w21 ⟨rfl, hb⟩
                      have HB : Hid (Below w.heap.size w w21) := hide (below_trans HQ9.out.below hb)
                      clear hb HQ9 t_1 l_1
                      go_wp2_with fail
                      go_ret
                      exact ⟨rfl, HB.out⟩
                    · have g0' : (g != 0) = true := by simpa using g0
                      go_wp2_with fail
                      go_ret
                      exact ⟨rfl, HQ8.out.below⟩
          · have kd' : (c2.kind != 3) = true := by simpa using kd
            go_wp2_with fail
            go_ret
            exact ⟨rfl, HBL.out⟩
        · have k0' : (k != 0) = true := by simpa using k0
          have kk' : (k != k) = false := by simp
          have kq' : (k == k) = true := by simp
          go_wp2_with fail
          go_ret
          exact ⟨rfl, HBL.out⟩
end Go.Proofs.YtjjoeajnhblacaaGreatDoor
