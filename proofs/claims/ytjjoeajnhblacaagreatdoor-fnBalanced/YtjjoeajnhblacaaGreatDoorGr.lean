/- Rows that are the same. -/
import Derived.Test.YtjjoeajnhblacaaGreatDoorLEn
import Derived.Test.YtjjoeajnhblacaaGreatDoorGl
import Derived.Test.YtjjoeajnhblacaaGreatDoorDnP
import Derived.Test.YtjjoeajnhblacaaGreatDoorGn
import Derived.Test.YtjjoeajnhblacaaGreatDoorBkA
import Derived.Test.YtjjoeajnhblacaaGreatDoorGb
namespace Go.Proofs.YtjjoeajnhblacaaGreatDoor
open Go.ChangeShapes Go.WideShapes Go.ChangeAt Go.RowKit
set_option linter.unusedVariables false
set_option maxRecDepth 100000
theorem acc_row2 {w : World} {a : Option Addr} {l : List Acc} (h : RowAt 4 accCells w a l) (k : Nat) (hk : k < l.length) : ∃ b off, a = some ⟨b, off, none⟩ ∧ b < w.heap.size ∧ w.cell? ⟨b, off + k * 4, none⟩ = some (.string (l[k]).name) ∧ w.cell? ⟨b, off + k * 4 + 1, none⟩ = some (.string (l[k]).cur) ∧ w.cell? ⟨b, off + k * 4 + 2, none⟩ = some (.int .i64 (l[k]).limit) ∧ w.cell? ⟨b, off + k * 4 + 3, none⟩ = some (.int .i64 (l[k]).posted) := by
  obtain ⟨b, off, e, hb, hc⟩ := h k hk
  exact ⟨b, off, e, hb, by simpa using hc 0 _ rfl, hc 1 _ rfl, hc 2 _ rfl, hc 3 _ rfl⟩
theorem sn_row2 {w : World} {a : Option Addr} {l : List Sn} (h : RowAt 2 snCells w a l) (k : Nat) (hk : k < l.length) : ∃ b off, a = some ⟨b, off, none⟩ ∧ b < w.heap.size ∧ w.cell? ⟨b, off + k * 2, none⟩ = some (.int .i64 (l[k]).id) ∧ w.cell? ⟨b, off + k * 2 + 1, none⟩ = some (.int .i64 (l[k]).code) := by
  obtain ⟨b, off, e, hb, hc⟩ := h k hk
  exact ⟨b, off, e, hb, by simpa using hc 0 _ rfl, hc 1 _ rfl⟩
theorem hld_row2 {w : World} {a : Option Addr} {l : List Hld} (h : RowAt 4 hldCells w a l) (k : Nat) (hk : k < l.length) : ∃ b off, a = some ⟨b, off, none⟩ ∧ b < w.heap.size ∧ w.cell? ⟨b, off + k * 4, none⟩ = some (.int .i64 (l[k]).id) ∧ w.cell? ⟨b, off + k * 4 + 1, none⟩ = some (.string (l[k]).fr) ∧ w.cell? ⟨b, off + k * 4 + 2, none⟩ = some (.string (l[k]).to) ∧ w.cell? ⟨b, off + k * 4 + 3, none⟩ = some (.int .i64 (l[k]).amount) := by
  obtain ⟨b, off, e, hb, hc⟩ := h k hk
  exact ⟨b, off, e, hb, by simpa using hc 0 _ rfl, hc 1 _ rfl, hc 2 _ rfl, hc 3 _ rfl⟩
set_option maxHeartbeats 4000000 in
theorem sameSeen_any (a c : Option Addr) (l : List Sn) (ca cc : Nat) (w : World) (hl : l.length ≤ 1048576) (h : RowAt 2 snCells w a l) (h' : RowAt 2 snCells w c l) :
    Calls Tryz.prog 20 #[.slice a l.length ca, .slice c l.length cc] w fun e w' => e = .returned (.bool true) ∧ Below w.heap.size w w' := by
  have HC : Hid _ := hide h
  have HC' : Hid _ := hide h'
  clear h h'
  go_enter Tryz.func20, Tryz.ntmps20
  go_wp2
  go_loopw [5] (fun i wr => ∃ (k : Nat), k ≤ l.length ∧ i = .int .i64 (k : Int) ∧ Hid (Below w.heap.size w wr)) (fun i wr => l.length - (intOf i).toNat)
  case atStart => exact ⟨0, Nat.zero_le _, rfl, hide (Below.refl _ _)⟩
  case round =>
    obtain ⟨k, hk, rfl, HB⟩ := hrel
    by_cases hlt : k < l.length
    · have hlt' : (k : Int) < (l.length : Int) := by omega
      obtain ⟨b, off, rfl, hb, c0, c1⟩ := sn_row2 (HC.out.below HB.out) k hlt
      obtain ⟨b', off', rfl, hb', p0, p1⟩ := sn_row2 (HC'.out.below HB.out) k hlt
      go_wp2_with fail
      go_quiet (fail)
      go_wp2
      exact ⟨⟨k + 1, by omega, by go_num, hide (below_trans HB.out (((Kept.refl _).drewN _).below))⟩, by simp [intOf]; omega⟩
    · have hk' : ¬ (k : Int) < (l.length : Int) := by omega
      go_wp2
      go_ret
      exact ⟨rfl, HB.out⟩
set_option maxHeartbeats 4000000 in
theorem sameHolds_any (a c : Option Addr) (l : List Hld) (ca cc : Nat) (w : World) (hl : l.length ≤ 1048576) (h : RowAt 4 hldCells w a l) (h' : RowAt 4 hldCells w c l) :
    Calls Tryz.prog 19 #[.slice a l.length ca, .slice c l.length cc] w fun e w' => e = .returned (.bool true) ∧ Below w.heap.size w w' := by
  have HC : Hid _ := hide h
  have HC' : Hid _ := hide h'
  clear h h'
  go_enter Tryz.func19, Tryz.ntmps19
  go_wp2
  go_loopw [5] (fun i wr => ∃ (k : Nat), k ≤ l.length ∧ i = .int .i64 (k : Int) ∧ Hid (Below w.heap.size w wr)) (fun i wr => l.length - (intOf i).toNat)
  case atStart => exact ⟨0, Nat.zero_le _, rfl, hide (Below.refl _ _)⟩
  case round =>
    obtain ⟨k, hk, rfl, HB⟩ := hrel
    by_cases hlt : k < l.length
    · have hlt' : (k : Int) < (l.length : Int) := by omega
      obtain ⟨b, off, rfl, hb, c0, c1, c2, c3⟩ := hld_row2 (HC.out.below HB.out) k hlt
      obtain ⟨b', off', rfl, hb', p0, p1, p2, p3⟩ := hld_row2 (HC'.out.below HB.out) k hlt
      go_wp2_with fail
      go_quiet (fail)
      go_wp2
      exact ⟨⟨k + 1, by omega, by go_num, hide (below_trans HB.out (((Kept.refl _).drewN _).below))⟩, by simp [intOf]; omega⟩
    · have hk' : ¬ (k : Int) < (l.length : Int) := by omega
      go_wp2
      go_ret
      exact ⟨rfl, HB.out⟩
set_option maxHeartbeats 4000000 in
theorem sameAccounts_any (a c : Option Addr) (l : List Acc) (ca cc : Nat) (w : World) (hl : l.length ≤ 1048576) (h : RowAt 4 accCells w a l) (h' : RowAt 4 accCells w c l) :
    Calls Tryz.prog 18 #[.slice a l.length ca, .slice c l.length cc] w fun e w' => e = .returned (.bool true) ∧ Below w.heap.size w w' := by
  have HC : Hid _ := hide h
  have HC' : Hid _ := hide h'
  clear h h'
  go_enter Tryz.func18, Tryz.ntmps18
  go_wp2
  go_loopw [5] (fun i wr => ∃ (k : Nat), k ≤ l.length ∧ i = .int .i64 (k : Int) ∧ Hid (Below w.heap.size w wr)) (fun i wr => l.length - (intOf i).toNat)
  case atStart => exact ⟨0, Nat.zero_le _, rfl, hide (Below.refl _ _)⟩
  case round =>
    obtain ⟨k, hk, rfl, HB⟩ := hrel
    by_cases hlt : k < l.length
    · have hlt' : (k : Int) < (l.length : Int) := by omega
      obtain ⟨b, off, rfl, hb, c0, c1, c2, c3⟩ := acc_row2 (HC.out.below HB.out) k hlt
      obtain ⟨b', off', rfl, hb', p0, p1, p2, p3⟩ := acc_row2 (HC'.out.below HB.out) k hlt
      go_wp2_with fail
      go_quiet (fail)
      go_wp2
      exact ⟨⟨k + 1, by omega, by go_num, hide (below_trans HB.out (((Kept.refl _).drewN _).below))⟩, by simp [intOf]; omega⟩
    · have hk' : ¬ (k : Int) < (l.length : Int) := by omega
      go_wp2
      go_ret
      exact ⟨rfl, HB.out⟩
end Go.Proofs.YtjjoeajnhblacaaGreatDoor
/- The law FnRefused: a command that is refused changes neither accounts nor holds. -/
namespace Go.Proofs.YtjjoeajnhblacaaGreatDoor
open Go.ChangeShapes Go.WideShapes Go.ChangeAt Go.RowKit
set_option linter.unusedVariables false
set_option maxRecDepth 100000
theorem big_any (a : Option Addr) (len cap : Nat) (w : World) : Calls Tryz.prog 9 #[.slice a len cap] w fun e w' => e = .returned (.bool (decide (1048576 < (len : Int)))) ∧ w' = w := by
  go_enter Tryz.func9, Tryz.ntmps9
  go_wp2
  go_ret
  exact ⟨rfl, rfl⟩
def YesEnd (w : World) (e : Ending) (w' : World) : Prop := e = .returned (.bool true) ∧ Below w.heap.size w w'
set_option maxHeartbeats 16000000 in
theorem walkRefused (a0 : Option Addr) (len cap : Nat) (aA aD : Addr) (w : World) (h : IsCode w a0 len) (hv : VarsAt aA aD w) : Calls Tryz.prog 5 #[.slice a0 len cap] w fun e w' => YesEnd w e w' := by
  have H : Hid _ := hide h
  have HV : Hid _ := hide hv
  clear h hv
  go_enter Tryz.func5, Tryz.ntmps5
  go_wp2_with fail
  refine (big_any a0 len cap w).mono ?_
  rintro e w' ⟨rfl, hw'⟩
  rw [hw']
  clear hw' w'
  by_cases hbig : (1048576 : Int) < (len : Int)
  · go_wp2
    go_ret
    exact ⟨rfl, Below.refl _ _⟩
  · go_wp2_with fail
    refine (drawApplied_any a0 len cap w H.out).mono ?_
    rintro e w1 ⟨p, D, c, rfl, hpk, hf, hcf, hct, hp1⟩
    have HK : Hid (PlOk p D) := hide hpk
    have HF : Hid (LedF D) := hide hf
    have HC : Hid (c.fr.size ≤ maxLen ∧ c.to.size ≤ maxLen) := hide ⟨Nat.le_trans hcf (by decide), Nat.le_trans hct (by decide)⟩
    have HP1 : Hid (Pool [] w [[], [], [], [], ledL p D, [], []] w1) := hide (hp1.cast (by simp))
    have HN : Hid (D.acc.length ≤ 1048576 ∧ D.hold.length ≤ 1048576 ∧ D.seen.length ≤ 1048576) := hide (by have := hf.a; have := hf.h; have := hf.s; omega)
    clear hpk hf hcf hct hp1 H
    unfold ledV Cm.v
    go_wp2_with fail
    refine cnm_calls (fun W3 hW3 => ?_)
    have HP3 : Hid (Pool [] w [[blk w1.heap.size (ledC p D)], [blk (w1.heap.size + 1) c.cells], [], [], ledL p D, [], []] W3) := hide (by
      have p1 := HP1.out.newBlk (i := 0) rfl (ledC p D) 28
      have s1 : (w1.alloc (.cells (ledC p D).toArray 28)).heap.size = w1.heap.size + 1 := by simp
      have p2 := p1.newBlk (i := 1) rfl c.cells 30
      rw [s1] at p2
      rw [hW3]; exact p2)
    clear hW3 HP1
    obtain ⟨R, hR⟩ : ∃ R, R = applM D c := ⟨_, rfl⟩
    refine (implApplied_any p D c aA aD W3 HN.out.1 HN.out.2.1 HN.out.2.2 HC.out.1 HC.out.2 HK.out (PlOk.led HF.out.w (HP3.out.get (i := 4) rfl)) (HV.out.below HP3.out.below)).mono ?_
    rintro e w4 ⟨q, rfl, hqk, hq⟩
    rw [← hR] at hqk hq ⊢
    obtain ⟨⟨A1, H1, S1⟩, k⟩ := R
    dsimp only at hqk hq
    have HQK : Hid (PlOk q ⟨A1, H1, S1⟩) := hide hqk
    have HP4 : Hid (Pool [] w [[blk w1.heap.size (ledC p D)], [blk (w1.heap.size + 1) c.cells], [], [], ledL p D, ledL q ⟨A1, H1, S1⟩, []] w4) := hide (HP3.out.call (i := 5) rfl hq)
    have HR : Hid ((⟨A1, H1, S1⟩, k) = applM D c) := hide hR
    clear hqk hq HP3 hR
    unfold ledV
    dsimp only
    go_upto_region 5 with fail
    refine cnm_world (fun W5 hW5 => ?_)
    have HP5 : Hid (Pool [] w [[blk w1.heap.size (ledC p D)], [blk (w1.heap.size + 1) c.cells], [blk w4.heap.size (ledC q ⟨A1, H1, S1⟩)], [], ledL p D, ledL q ⟨A1, H1, S1⟩, []] W5) := hide (by
      have p1 := HP4.out.newBlk (i := 2) rfl (ledC q ⟨A1, H1, S1⟩) 28
      rw [hW5]; exact p1)
    clear hW5 HP4
    have n_0 := (HP5.out.blkAt (i := 0) rfl).c 0 _ rfl
    have n_1 := (HP5.out.blkAt (i := 0) rfl).c 1 _ rfl
    have n_2 := (HP5.out.blkAt (i := 0) rfl).c 2 _ rfl
    have a_0 := (HP5.out.blkAt (i := 1) rfl).c 0 _ rfl
    have a_1 := (HP5.out.blkAt (i := 1) rfl).c 1 _ rfl
    have a_2 := (HP5.out.blkAt (i := 1) rfl).c 2 _ rfl
    have a_3 := (HP5.out.blkAt (i := 1) rfl).c 3 _ rfl
    have a_4 := (HP5.out.blkAt (i := 1) rfl).c 4 _ rfl
    have a_5 := (HP5.out.blkAt (i := 1) rfl).c 5 _ rfl
    go_wp2_with fail
    refine (specApplied_any p D c W5 HN.out.1 HN.out.2.1 HN.out.2.2 HC.out.1 HC.out.2 HK.out (PlOk.led HF.out.w (HP5.out.get (i := 4) rfl))).mono ?_
    rintro e w6 ⟨q2, rfl, hqk, hq⟩
    rw [← HR.out] at hqk hq ⊢
    dsimp only at hqk hq
    have HQK2 : Hid (PlOk q2 ⟨A1, H1, S1⟩) := hide hqk
    have HP6 : Hid (Pool [] w [[blk w1.heap.size (ledC p D)], [blk (w1.heap.size + 1) c.cells], [blk w4.heap.size (ledC q ⟨A1, H1, S1⟩)], [], ledL p D, ledL q ⟨A1, H1, S1⟩, ledL q2 ⟨A1, H1, S1⟩] w6) := hide (HP5.out.call (i := 6) rfl hq)
    clear hqk hq HP5 n_0 n_1 n_2 a_0 a_1 a_2 a_3 a_4 a_5
    unfold ledV
    dsimp only
    go_upto_region 6 with fail
    refine cnm_world (fun W7 hW7 => ?_)
    have HP7 : Hid (Pool [] w [[blk w1.heap.size (ledC p D)], [blk (w1.heap.size + 1) c.cells], [blk w4.heap.size (ledC q ⟨A1, H1, S1⟩)], [blk w6.heap.size (ledC q2 ⟨A1, H1, S1⟩)], ledL p D, ledL q ⟨A1, H1, S1⟩, ledL q2 ⟨A1, H1, S1⟩] W7) := hide (by
      have p1 := HP6.out.newBlk (i := 3) rfl (ledC q2 ⟨A1, H1, S1⟩) 28
      rw [hW7]; exact p1)
    clear hW7 HP6
    have HBL : Hid (Below w.heap.size w W7) := hide HP7.out.below
    by_cases k0 : k = 0
    · subst k0
      go_wp2_with fail
      go_ret
      exact ⟨rfl, HBL.out⟩
    · by_cases k1 : k = 1
      · subst k1
        go_wp2_with fail
        go_ret
        exact ⟨rfl, HBL.out⟩
      · have k0' : (k == 0) = false := by simpa using k0
        have k1' : (k == 1) = false := by simpa using k1
        have kk' : (k != k) = false := by simp
        have kq' : (k == k) = true := by simp
        have hs : ledS D = true := applM_one (c := c) (by rw [← HR.out]; exact k1)
        have hrf := refused (c := c) hs (by rw [← HR.out]; exact k0)
        rw [← HR.out] at hrf
        dsimp only at hrf
        obtain ⟨e1, e2, e3, e4⟩ := hrf
        subst e1 e2
        have HX3 : Hid (k < 4 → S1 = D.seen) := hide e3
        have HX4 : Hid (k = 2 → c.B = false) := hide e4
        clear e3 e4 hs
        have l_0 := (HP7.out.blkAt (i := 0) rfl).c 0 _ rfl
        have m_0 := (HP7.out.blkAt (i := 2) rfl).c 0 _ rfl
        go_wp2_with fail
        refine (sameAccounts_any q.aa p.aa D.acc _ _ _ HN.out.1 ((HP7.out.get (i := 5) rfl).get (r := orow 4 accCells q.aa q.ca D.acc) (by simp [ledL])).2.rows ((HP7.out.get (i := 4) rfl).get (r := orow 4 accCells p.aa p.ca D.acc) (by simp [ledL])).2.rows).mono ?_
        rintro e w8 ⟨rfl, hb8⟩
        have HP8 : Hid (Pool [] w [[blk w1.heap.size (ledC p D)], [blk (w1.heap.size + 1) c.cells], [blk w4.heap.size (ledC q ⟨D.acc, D.hold, S1⟩)], [blk w6.heap.size (ledC q2 ⟨D.acc, D.hold, S1⟩)], ledL p D, ledL q ⟨D.acc, D.hold, S1⟩, ledL q2 ⟨D.acc, D.hold, S1⟩] w8) := hide (HP7.out.keep hb8)
        clear hb8 HP7 l_0 m_0
        have l_1 := (HP8.out.blkAt (i := 0) rfl).c 1 _ rfl
        have m_1 := (HP8.out.blkAt (i := 2) rfl).c 1 _ rfl
        go_wp2_with fail
        refine (sameHolds_any q.ha p.ha D.hold _ _ _ HN.out.2.1 ((HP8.out.get (i := 5) rfl).get (r := orow 4 hldCells q.ha q.ch D.hold) (by simp [ledL])).2.rows ((HP8.out.get (i := 4) rfl).get (r := orow 4 hldCells p.ha p.ch D.hold) (by simp [ledL])).2.rows).mono ?_
        rintro e w9 ⟨rfl, hb9⟩
        have HP9 : Hid (Pool [] w [[blk w1.heap.size (ledC p D)], [blk (w1.heap.size + 1) c.cells], [blk w4.heap.size (ledC q ⟨D.acc, D.hold, S1⟩)], [blk w6.heap.size (ledC q2 ⟨D.acc, D.hold, S1⟩)], ledL p D, ledL q ⟨D.acc, D.hold, S1⟩, ledL q2 ⟨D.acc, D.hold, S1⟩] w9) := hide (HP8.out.keep hb9)
        clear hb9 HP8 l_1 m_1
        by_cases k4 : 4 ≤ k
        · have k2' : (k != 2) = true := by simp; omega
          go_wp2_with fail
          go_ret
          exact ⟨rfl, HP9.out.below⟩
        · have k4' : ¬ 4 ≤ k := k4
          have es := HX3.out (by omega)
          subst es
          have l_2 := (HP9.out.blkAt (i := 0) rfl).c 2 _ rfl
          have m_2 := (HP9.out.blkAt (i := 2) rfl).c 2 _ rfl
          go_wp2_with fail
          refine (sameSeen_any q.sa p.sa D.seen _ _ _ HN.out.2.2 ((HP9.out.get (i := 5) rfl).get (r := orow 2 snCells q.sa q.cs D.seen) (by simp [ledL])).2.rows ((HP9.out.get (i := 4) rfl).get (r := orow 2 snCells p.sa p.cs D.seen) (by simp [ledL])).2.rows).mono ?_
          rintro e w10 ⟨rfl, hb10⟩
          have HPX : Hid (Pool [] w [[blk w1.heap.size (ledC p D)], [blk (w1.heap.size + 1) c.cells], [blk w4.heap.size (ledC q ⟨D.acc, D.hold, D.seen⟩)], [blk w6.heap.size (ledC q2 ⟨D.acc, D.hold, D.seen⟩)], ledL p D, ledL q ⟨D.acc, D.hold, D.seen⟩, ledL q2 ⟨D.acc, D.hold, D.seen⟩] w10) := hide (HP9.out.keep hb10)
          clear hb10 HP9 l_2 m_2
          by_cases k2 : k = 2
          · subst k2
            have a_0 := (HPX.out.blkAt (i := 1) rfl).c 0 _ rfl
            have a_1 := (HPX.out.blkAt (i := 1) rfl).c 1 _ rfl
            have a_2 := (HPX.out.blkAt (i := 1) rfl).c 2 _ rfl
            have a_3 := (HPX.out.blkAt (i := 1) rfl).c 3 _ rfl
            have a_4 := (HPX.out.blkAt (i := 1) rfl).c 4 _ rfl
            have a_5 := (HPX.out.blkAt (i := 1) rfl).c 5 _ rfl
            go_wp2_with fail
            refine (implCommandOk_any c.id c.kind c.fr c.to c.am c.ref _ HC.out.1 HC.out.2).mono ?_
            rintro e w11 ⟨rfl, hk11⟩
            have eb : cmdB c.id c.kind c.fr c.to c.am c.ref = false := by first | exact HX4.out trivial | exact HX4.out rfl
            rw [eb]
            have HB11 : Hid (Below w.heap.size w w11) := hide (below_trans HPX.out.below hk11.below)
            clear hk11 eb
            go_wp2_with fail
            go_ret
            exact ⟨rfl, HB11.out⟩
          · have k2' : (k != 2) = true := by simpa using k2
            go_wp2_with fail
            go_ret
            exact ⟨rfl, HPX.out.below⟩
end Go.Proofs.YtjjoeajnhblacaaGreatDoor
