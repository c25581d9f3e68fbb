/- The law FnFree: all that an account has free can be posted, and not one more, unless an amount would grow too great. -/
import Derived.Test.YtjjoeajnhblacaaGreatDoorLPo
import Derived.Test.YtjjoeajnhblacaaGreatDoorPvC
namespace Go.Proofs.YtjjoeajnhblacaaGreatDoor
open Go.ChangeShapes Go.WideShapes Go.ChangeAt Go.RowKit
set_option linter.unusedVariables false
set_option maxRecDepth 100000
theorem free_some {D : Led} {nm : ByteArray} (h : 0 ≤ freeO D nm) : ledS D = true ∧ ∃ i, idxA D.acc nm = some i := by
  unfold freeO at h
  split at h
  · rename_i q
    refine ⟨q, ?_⟩
    split at h
    · rename_i i e
      exact ⟨i, e⟩
    · omega
  · omega
theorem free_bd (D : Led) (nm : ByteArray) : -1000000000000000 ≤ freeO D nm ∧ freeO D nm ≤ 1000000000000 := by
  unfold freeO
  split
  · rename_i q
    split
    · split
      · rename_i i e x ex
        obtain ⟨hi, rfl⟩ := List.getElem?_eq_some_iff.1 ex
        have r := rt_of q
        obtain ⟨_, _, hl, hw, _⟩ := r.ac _ (List.getElem_mem hi)
        have hb := heldL_bd nm D.hold (fun x hx => by have := (r.ho x hx).2.1; omega)
        have := r.nh
        simp only [withinB, Bool.and_eq_true] at hw
        have hp := inB_iff.1 hw.1.1
        unfold freeX
        split
        · omega
        · omega
      · omega
    · omega
  · omega
set_option maxHeartbeats 16000000 in
theorem walkFree (a0 : Option Addr) (len cap : Nat) (aA aD : Addr) (w : World) (h : IsCode w a0 len) (hv : VarsAt aA aD w) : Calls Tryz.prog 8 #[.slice a0 len cap] w fun e w' => YesEnd w e w' := by
  have H : Hid _ := hide h
  have HV : Hid _ := hide hv
  clear h hv
  go_enter Tryz.func8, Tryz.ntmps8
  go_wp2_with fail
  refine (big_any a0 len cap w).mono ?_
  rintro e w' ⟨rfl, hw'⟩
  rw [hw']
  clear hw' w'
  by_cases hbig : (1048576 : Int) < (len : Int)
  · go_wp2
    go_ret
    exact ⟨rfl, Below.refl _ _⟩
  · go_wp2_with fail
    refine (drawApplied_any a0 len cap w H.out).mono ?_
    rintro e w1 ⟨p, D, c, rfl, hpk, hf, hcf, hct, hp1⟩
    have HK : Hid (PlOk p D) := hide hpk
    have HF : Hid (LedF D) := hide hf
    have HC : Hid (c.fr.size ≤ maxLen ∧ c.to.size ≤ maxLen) := hide ⟨Nat.le_trans hcf (by decide), Nat.le_trans hct (by decide)⟩
    have HP1 : Hid (Pool [] w [[], [], ledL p D, [], [], [], [], [], [], []] w1) := hide (hp1.cast (by simp))
    have HN : Hid (D.acc.length ≤ 1048576 ∧ D.hold.length ≤ 1048576 ∧ D.seen.length ≤ 1048576) := hide (by have := hf.a; have := hf.h; have := hf.s; omega)
    clear hpk hf hcf hct hp1 H
    unfold ledV Cm.v
    go_upto_region 4 with fail
    refine cnm_world (fun W3 hW3 => ?_)
    have HP3 : Hid (Pool [] w [[blk w1.heap.size (ledC p D)], [blk (w1.heap.size + 1) c.cells], ledL p D, [], [], [], [], [], [], []] W3) := hide (by
      have p1 := HP1.out.newBlk (i := 0) rfl (ledC p D) 28
      have s1 : (w1.alloc (.cells (ledC p D).toArray 28)).heap.size = w1.heap.size + 1 := by simp
      have p2 := p1.newBlk (i := 1) rfl c.cells 30
      rw [s1] at p2
      rw [hW3]; exact p2)
    clear hW3 HP1
    obtain ⟨fv, hfv⟩ : ∃ fv, fv = freeO D c.fr := ⟨_, rfl⟩
    have HFv : Hid (freeO D c.fr = fv) := hide hfv.symm
    obtain ⟨fb1, fb2⟩ : -1000000000000000 ≤ fv ∧ fv ≤ 1000000000000 := by rw [hfv]; exact free_bd D c.fr
    clear hfv
    have l_0 := (HP3.out.blkAt (i := 0) rfl).c 0 _ rfl
    have l_1 := (HP3.out.blkAt (i := 0) rfl).c 1 _ rfl
    have l_2 := (HP3.out.blkAt (i := 0) rfl).c 2 _ rfl
    have c_2 := (HP3.out.blkAt (i := 1) rfl).c 2 _ rfl
    go_wp2_with fail
    refine (implFreeOf_any p.aa p.ha p.sa D p.ca p.ch p.cs _ _ c.fr _ (PlOk.led HF.out.w (HP3.out.get (i := 2) rfl)) (HV.out.below HP3.out.below).d HC.out.1 HN.out.1 HN.out.2.1 HN.out.2.2).mono ?_
    rintro e w4 ⟨rfl, hb⟩
    rw [HFv.out]
    have HP4 : Hid (Pool [] w [[blk w1.heap.size (ledC p D)], [blk (w1.heap.size + 1) c.cells], ledL p D, [], [], [], [], [], [], []] w4) := hide (HP3.out.keep hb)
    clear hb HP3 l_0 l_1 l_2 c_2
    have l_0 := (HP4.out.blkAt (i := 0) rfl).c 0 _ rfl
    have l_1 := (HP4.out.blkAt (i := 0) rfl).c 1 _ rfl
    have l_2 := (HP4.out.blkAt (i := 0) rfl).c 2 _ rfl
    have c_2 := (HP4.out.blkAt (i := 1) rfl).c 2 _ rfl
    go_wp2_with fail
    refine ((specFreeOf_any p.aa p.ha p.sa D p.ca p.ch p.cs c.fr _ (PlOk.led HF.out.w (HP4.out.get (i := 2) rfl)) HC.out.1 HN.out.1 HN.out.2.1 HN.out.2.2)).mono ?_
    rintro e w5 ⟨rfl, hb⟩
    rw [HFv.out]
    have HP5 : Hid (Pool [] w [[blk w1.heap.size (ledC p D)], [blk (w1.heap.size + 1) c.cells], ledL p D, [], [], [], [], [], [], []] w5) := hide (HP4.out.keep hb)
    clear hb HP4 l_0 l_1 l_2 c_2
    have HBL : Hid (Below w.heap.size w w5) := hide HP5.out.below
    have l_0 := (HP5.out.blkAt (i := 0) rfl).c 0 _ rfl
    have l_1 := (HP5.out.blkAt (i := 0) rfl).c 1 _ rfl
    have l_2 := (HP5.out.blkAt (i := 0) rfl).c 2 _ rfl
    have c_2 := (HP5.out.blkAt (i := 1) rfl).c 2 _ rfl
    have fne : (fv != fv) = false := by simp
    have feq : (fv == fv) = true := by simp
    have hsl : D.seen.length ≤ 1048576 := HN.out.2.2
    by_cases f0 : fv < 0
    · go_wp2_with fail
      refine ((specFreeOf_any p.aa p.ha p.sa D p.ca p.ch p.cs c.fr _ (PlOk.led HF.out.w (HP5.out.get (i := 2) rfl)) HC.out.1 HN.out.1 HN.out.2.1 HN.out.2.2)).mono ?_
      rintro e w6 ⟨rfl, hb⟩
      rw [HFv.out]
      have HB6 : Hid (Below w.heap.size w w6) := hide (below_trans HBL.out hb)
      clear hb
      go_wp2_with fail
      go_ret
      exact ⟨rfl, HB6.out⟩
    · have f0' : ¬ fv < 0 := f0
      by_cases h40 : D.seen.length = 40
      · have h40' : ((D.seen.length : Int) == 40) = true := by simp; omega
        clear h40
        go_wp2_with fail
        refine ((specFreeOf_any p.aa p.ha p.sa D p.ca p.ch p.cs c.fr _ (PlOk.led HF.out.w (HP5.out.get (i := 2) rfl)) HC.out.1 HN.out.1 HN.out.2.1 HN.out.2.2)).mono ?_
        rintro e w6 ⟨rfl, hb⟩
        rw [HFv.out]
        have HB6 : Hid (Below w.heap.size w w6) := hide (below_trans HBL.out hb)
        clear hb
        go_wp2_with fail
        go_ret
        exact ⟨rfl, HB6.out⟩
      · have h40' : ((D.seen.length : Int) == 40) = false := by simp only [beq_eq_false_iff_ne, ne_eq]; omega
        have H40 : Hid (D.seen.length ≠ 40) := hide h40
        clear h40
        obtain ⟨hs, i, e1⟩ := free_some (D := D) (nm := c.fr) (by rw [HFv.out]; omega)
        have HS : Hid (ledS D = true) := hide hs
        have HE1 : Hid (idxA D.acc c.fr = some i) := hide e1
        have hi : i < D.acc.length := (idxA_lt e1).1
        clear hs e1
        go_wp2_with fail
        go_loop [6] (fun i => ∃ m : Nat, m ≤ D.seen.length ∧ i = .int .i64 (m : Int) ∧ Hid (∀ j (hj : j < D.seen.length), j < m → D.seen[j].id ≠ 888)) (fun i => D.seen.length - (intOf i).toNat)
        case atStart => exact ⟨0, Nat.zero_le _, rfl, hide (fun j _ hj => by omega)⟩
        case round =>
          obtain ⟨m, hm, rfl, HNo⟩ := hrel
          by_cases hlt : m < D.seen.length
          · have hlt' : (m : Int) < (D.seen.length : Int) := by omega
            obtain ⟨b, off, ha, hb, c0, c1⟩ := sn_row2 ((HP5.out.get (i := 2) rfl).get (r := orow 2 snCells p.sa p.cs D.seen) (by simp [ledL])).2.rows m hlt
            rw [ha] at l_2
            clear ha
            by_cases hq : D.seen[m].id = 888
            · have hq' : (D.seen[m].id == 888) = true := by simpa using hq
              clear hq
              go_wp2_with fail
              go_ret
              exact ⟨rfl, HBL.out⟩
            · have hq' : (D.seen[m].id == 888) = false := by simpa using hq
              have HS2 : Hid (∀ j (hj : j < D.seen.length), j < m + 1 → D.seen[j].id ≠ 888) := hide (fun j hj hjk => by
                rcases Nat.lt_or_ge j m with h | h
                · exact HNo.out j hj h
                · obtain rfl : j = m := by omega
                  exact hq)
              clear hq
              go_wp2_with fail
              exact ⟨⟨m + 1, by omega, by go_num, HS2⟩, by simp [intOf]; omega⟩
          · have hlt' : ¬ (m : Int) < (D.seen.length : Int) := by omega
            have H888 : Hid (∀ y ∈ D.seen, y.id ≠ 888) := hide (fun y hy => by
              obtain ⟨j, hj, rfl⟩ := List.mem_iff_getElem.1 hy
              exact HNo.out j hj (by omega))
            clear HNo
            go_upto_region 12 with fail
            go_wp2_with fail
            refine (account_any p D c.fr _ HN.out.1 ((HP5.out.get (i := 2) rfl).get (r := orow 4 accCells p.aa p.ca D.acc) (by simp [ledL])).2.rows).mono ?_
            rintro e w7 hacc
            obtain ⟨rfl, hb7⟩ : e = .returned (.tuple #[accV D.acc[i], .bool true]) ∧ Below w5.heap.size w5 w7 := by
              rcases hacc with ⟨i', hi', z1, z2, z3⟩ | ⟨z, _⟩
              · have z5 := z1.symm.trans HE1.out
                cases z5
                exact ⟨z2, z3⟩
              · rw [HE1.out] at z
                cases z
            have HP7 : Hid (Pool [] w [[blk w1.heap.size (ledC p D)], [blk (w1.heap.size + 1) c.cells], ledL p D, [], [], [], [], [], [], []] w7) := hide (HP5.out.keep hb7)
            clear hacc hb7 l_0 l_1 l_2 c_2 HP5
            unfold accV
            go_upto_region 13 with fail
            refine cnm_world (fun W8 hW8 => ?_)
            have HP8 : Hid (Pool [] w [[blk w1.heap.size (ledC p D)], [blk (w1.heap.size + 1) c.cells], ledL p D, [blk w7.heap.size (accCells D.acc[i])], [], [], [], [], [], []] W8) := hide (by
              have p1 := HP7.out.newBlk (i := 3) rfl (accCells D.acc[i]) 37
              rw [hW8]; exact p1)
            clear hW8 HP7
            have l_0 := (HP8.out.blkAt (i := 0) rfl).c 0 _ rfl
            have l_1 := (HP8.out.blkAt (i := 0) rfl).c 1 _ rfl
            have l_2 := (HP8.out.blkAt (i := 0) rfl).c 2 _ rfl
            have c_3 := (HP8.out.blkAt (i := 1) rfl).c 3 _ rfl
            go_wp2_with fail
            refine (account_any p D c.to _ HN.out.1 ((HP8.out.get (i := 2) rfl).get (r := orow 4 accCells p.aa p.ca D.acc) (by simp [ledL])).2.rows).mono ?_
            rintro e w9 hacc
            rcases hacc with ⟨j, hj, e2, rfl, hb9⟩ | ⟨e2, rfl, hb9⟩
            · have HE2 : Hid (idxA D.acc c.to = some j) := hide e2
              have HP9 : Hid (Pool [] w [[blk w1.heap.size (ledC p D)], [blk (w1.heap.size + 1) c.cells], ledL p D, [blk w7.heap.size (accCells D.acc[i])], [], [], [], [], [], []] w9) := hide (HP8.out.keep hb9)
              clear hb9 e2 l_0 l_1 l_2 c_3 HP8
              unfold accV
              go_upto_region 14 with fail
              refine cnm_world (fun W10 hW10 => ?_)
              have HPA : Hid (Pool [] w [[blk w1.heap.size (ledC p D)], [blk (w1.heap.size + 1) c.cells], ledL p D, [blk w7.heap.size (accCells D.acc[i])], [blk w9.heap.size (accCells D.acc[j])], [], [], [], [], []] W10) := hide (by
                have p1 := HP9.out.newBlk (i := 4) rfl (accCells D.acc[j]) 37
                rw [hW10]; exact p1)
              clear hW10 HP9
              have HBA : Hid (Below w.heap.size w W10) := hide HPA.out.below
              have x_0 := (HPA.out.blkAt (i := 3) rfl).c 0 _ rfl
              have x_1 := (HPA.out.blkAt (i := 3) rfl).c 1 _ rfl
              have x_2 := (HPA.out.blkAt (i := 3) rfl).c 2 _ rfl
              have x_3 := (HPA.out.blkAt (i := 3) rfl).c 3 _ rfl
              have y_0 := (HPA.out.blkAt (i := 4) rfl).c 0 _ rfl
              have y_1 := (HPA.out.blkAt (i := 4) rfl).c 1 _ rfl
              have y_2 := (HPA.out.blkAt (i := 4) rfl).c 2 _ rfl
              have y_3 := (HPA.out.blkAt (i := 4) rfl).c 3 _ rfl
              have c_2 := (HPA.out.blkAt (i := 1) rfl).c 2 _ rfl
              have c_3 := (HPA.out.blkAt (i := 1) rfl).c 3 _ rfl
              cases q1 : (D.acc[i].name.toList == D.acc[j].name.toList)
              · cases q2 : (D.acc[i].cur.toList == D.acc[j].cur.toList)
                · go_wp2_with fail
                  go_ret
                  exact ⟨rfl, HBA.out⟩
                · by_cases q3 : D.acc[i].limit < 0
                  · go_wp2_with fail
                    go_ret
                    exact ⟨rfl, HBA.out⟩
                  · have q3' : ¬ D.acc[i].limit < 0 := q3
                    have hfl := free_law (fr := c.fr) (tn := c.to) HS.out HE1.out HE2.out hi hj (fun e => by rw [beq_bytes.2 e] at q1; cases q1) (beq_bytes.1 q2) (by omega) H40.out H888.out (by rw [HFv.out]; omega)
                    rw [HFv.out] at hfl
                    obtain ⟨_, hA, hB⟩ := hfl
                    have HA : Hid _ := hide hA
                    have HB : Hid _ := hide hB
                    clear hA hB
                    go_upto_region 16 with fail
                    clear x_0 x_1 x_2 x_3 y_0 y_1 y_2 y_3
                    go_upto_region 17 with fail
                    refine cnm_world (fun W11 hW11 => ?_)
                    have HPB : Hid (Pool [] w [[blk w1.heap.size (ledC p D)], [blk (w1.heap.size + 1) c.cells], ledL p D, [blk w7.heap.size (accCells D.acc[i])], [blk w9.heap.size (accCells D.acc[j])], [blk W10.heap.size [.int .i64 888, .int .i64 2, .string c.fr, .string c.to, .int .i64 fv, .int .i64 0]], [], [], [], []] W11) := hide (by
                      have p1 := HPA.out.newBlk (i := 5) rfl [.int .i64 888, .int .i64 2, .string c.fr, .string c.to, .int .i64 fv, .int .i64 0] 30
                      rw [hW11]; exact p1)
                    clear hW11 HPA c_2 c_3
                    have l_0 := (HPB.out.blkAt (i := 0) rfl).c 0 _ rfl
                    have l_1 := (HPB.out.blkAt (i := 0) rfl).c 1 _ rfl
                    have l_2 := (HPB.out.blkAt (i := 0) rfl).c 2 _ rfl
                    have p_0 := (HPB.out.blkAt (i := 5) rfl).c 0 _ rfl
                    have p_1 := (HPB.out.blkAt (i := 5) rfl).c 1 _ rfl
                    have p_2 := (HPB.out.blkAt (i := 5) rfl).c 2 _ rfl
                    have p_3 := (HPB.out.blkAt (i := 5) rfl).c 3 _ rfl
                    have p_4 := (HPB.out.blkAt (i := 5) rfl).c 4 _ rfl
                    have p_5 := (HPB.out.blkAt (i := 5) rfl).c 5 _ rfl
                    go_wp2_with fail
                    refine (implApplied_any p D ⟨888, 2, c.fr, c.to, fv, 0⟩ aA aD W11 HN.out.1 HN.out.2.1 HN.out.2.2 HC.out.1 HC.out.2 HK.out (PlOk.led HF.out.w (HPB.out.get (i := 2) rfl)) (HV.out.below HPB.out.below)).mono ?_
                    rintro e w12 ⟨q, rfl, hqk, hq⟩
                    obtain ⟨RA, hRA⟩ : ∃ RA, RA = applM D ⟨888, 2, c.fr, c.to, fv, 0⟩ := ⟨_, rfl⟩
                    rw [← hRA] at hqk hq ⊢
                    have HA2 : Hid (fv = 0 ∨ RA.2 = 0 ∨ RA.2 = 8) := hide (by rw [hRA]; exact HA.out)
                    obtain ⟨X, ea⟩ := RA
                    dsimp only at hqk hq
                    have HPC : Hid (Pool [] w [[blk w1.heap.size (ledC p D)], [blk (w1.heap.size + 1) c.cells], ledL p D, [blk w7.heap.size (accCells D.acc[i])], [blk w9.heap.size (accCells D.acc[j])], [blk W10.heap.size [.int .i64 888, .int .i64 2, .string c.fr, .string c.to, .int .i64 fv, .int .i64 0]], ledL q X, [], [], []] w12) := hide (HPB.out.call (i := 6) rfl hq)
                    clear hqk hq HPB hRA HA l_0 l_1 l_2 p_0 p_1 p_2 p_3 p_4 p_5
                    unfold ledV
                    dsimp only
                    go_upto_region 18 with fail
                    refine cnm_world (fun W13 hW13 => ?_)
                    have HPD : Hid (Pool [] w [[blk w1.heap.size (ledC p D)], [blk (w1.heap.size + 1) c.cells], ledL p D, [blk w7.heap.size (accCells D.acc[i])], [blk w9.heap.size (accCells D.acc[j])], [blk W10.heap.size [.int .i64 888, .int .i64 2, .string c.fr, .string c.to, .int .i64 fv, .int .i64 0]], ledL q X, [blk w12.heap.size (ledC q X)], [], []] W13) := hide (by
                      have p1 := HPC.out.newBlk (i := 7) rfl (ledC q X) 28
                      rw [hW13]; exact p1)
                    clear hW13 HPC
                    have p_4 := (HPD.out.blkAt (i := 5) rfl).c 4 _ rfl
                    have f_4 := (HPD.out.blkAt (i := 5) rfl).f 4
                    go_upto_region 19 with fail
                    refine cnm_world (fun W14 hW14 => ?_)
                    have HPE : Hid (Pool [] w [[blk w1.heap.size (ledC p D)], [blk (w1.heap.size + 1) c.cells], ledL p D, [blk w7.heap.size (accCells D.acc[i])], [blk w9.heap.size (accCells D.acc[j])], [blk W10.heap.size [.int .i64 888, .int .i64 2, .string c.fr, .string c.to, .int .i64 (fv + 1), .int .i64 0]], ledL q X, [blk w12.heap.size (ledC q X)], [], []] W14) := hide (by
                      have p1 := HPD.out.setBlk (i := 5) rfl 4 (.int .i64 (fv + 1)) (by simp)
                      rw [hW14]; exact p1)
                    clear hW14 HPD p_4 f_4
                    have l_0 := (HPE.out.blkAt (i := 0) rfl).c 0 _ rfl
                    have l_1 := (HPE.out.blkAt (i := 0) rfl).c 1 _ rfl
                    have l_2 := (HPE.out.blkAt (i := 0) rfl).c 2 _ rfl
                    have p_0 := (HPE.out.blkAt (i := 5) rfl).c 0 _ rfl
                    have p_1 := (HPE.out.blkAt (i := 5) rfl).c 1 _ rfl
                    have p_2 := (HPE.out.blkAt (i := 5) rfl).c 2 _ rfl
                    have p_3 := (HPE.out.blkAt (i := 5) rfl).c 3 _ rfl
                    have p_4 := (HPE.out.blkAt (i := 5) rfl).c 4 _ rfl
                    have p_5 := (HPE.out.blkAt (i := 5) rfl).c 5 _ rfl
                    go_wp2_with fail
                    refine (implApplied_any p D ⟨888, 2, c.fr, c.to, fv + 1, 0⟩ aA aD W14 HN.out.1 HN.out.2.1 HN.out.2.2 HC.out.1 HC.out.2 HK.out (PlOk.led HF.out.w (HPE.out.get (i := 2) rfl)) (HV.out.below HPE.out.below)).mono ?_
                    rintro e w15 ⟨q2, rfl, hqk, hq⟩
                    obtain ⟨RB, hRB⟩ : ∃ RB, RB = applM D ⟨888, 2, c.fr, c.to, fv + 1, 0⟩ := ⟨_, rfl⟩
                    rw [← hRB] at hqk hq ⊢
                    have HB2 : Hid (fv = 1000000000000 ∨ RB.2 = 7 ∨ RB.2 = 8) := hide (by rw [hRB]; exact HB.out)
                    obtain ⟨Z, eb⟩ := RB
                    dsimp only at hqk hq
                    have HPF : Hid (Pool [] w [[blk w1.heap.size (ledC p D)], [blk (w1.heap.size + 1) c.cells], ledL p D, [blk w7.heap.size (accCells D.acc[i])], [blk w9.heap.size (accCells D.acc[j])], [blk W10.heap.size [.int .i64 888, .int .i64 2, .string c.fr, .string c.to, .int .i64 (fv + 1), .int .i64 0]], ledL q X, [blk w12.heap.size (ledC q X)], ledL q2 Z, []] w15) := hide (HPE.out.call (i := 8) rfl hq)
                    clear hqk hq HPE hRB HB l_0 l_1 l_2 p_0 p_1 p_2 p_3 p_4 p_5
                    unfold ledV
                    dsimp only
                    go_upto_region 20 with fail
                    refine cnm_world (fun W16 hW16 => ?_)
                    have HBF : Hid (Below w.heap.size w W16) := hide (by rw [hW16]; exact below_alloc HPF.out.below _)
                    clear hW16 HPF
                    have hA3 : ((fv == 0) = true) ∨ ((fv == 0) = false ∧ (ea == 0) = true) ∨ ((fv == 0) = false ∧ (ea == 0) = false ∧ (ea == 8) = true) := by
                      have z := HA2.out
                      simp only [beq_iff_eq, beq_eq_false_iff_ne, ne_eq]
                      omega
                    have hB3 : ((fv == 1000000000000) = true) ∨ ((fv == 1000000000000) = false ∧ (eb == 7) = true) ∨ ((fv == 1000000000000) = false ∧ (eb == 7) = false ∧ (eb == 8) = true) := by
                      have z := HB2.out
                      simp only [beq_iff_eq, beq_eq_false_iff_ne, ne_eq]
                      omega
                    clear HA2 HB2
                    rcases hA3 with g1 | ⟨g1, g2⟩ | ⟨g1, g2, g3⟩ <;> rcases hB3 with k1 | ⟨k1, k2⟩ | ⟨k1, k2, k3⟩ <;> (go_wp2_with fail; go_ret; exact ⟨rfl, HBF.out⟩)
              · go_wp2_with fail
                go_ret
                exact ⟨rfl, HBA.out⟩
            · have HP9 : Hid (Pool [] w [[blk w1.heap.size (ledC p D)], [blk (w1.heap.size + 1) c.cells], ledL p D, [blk w7.heap.size (accCells D.acc[i])], [], [], [], [], [], []] w9) := hide (HP8.out.keep hb9)
              clear hb9 e2 l_0 l_1 l_2 c_3 HP8
              unfold accV noA
              go_upto_region 14 with fail
              refine cnm_world (fun W10 hW10 => ?_)
              have HBA : Hid (Below w.heap.size w W10) := hide (by rw [hW10]; exact below_alloc HP9.out.below _)
              clear hW10 HP9
              go_wp2_with fail
              go_ret
              exact ⟨rfl, HBA.out⟩
end Go.Proofs.YtjjoeajnhblacaaGreatDoor
