/- The contract of the program's Applied. -/
import Derived.Test.YtjjoeajnhblacaaGreatDoorBkC
import Derived.Test.YtjjoeajnhblacaaGreatDoorLAq
import Derived.Test.YtjjoeajnhblacaaGreatDoorGw
namespace Go.Proofs.YtjjoeajnhblacaaGreatDoor
open Go.ChangeShapes Go.WideShapes Go.ChangeAt Go.RowKit Go.Maps
set_option linter.unusedVariables false
set_option maxRecDepth 100000
/-- what the listed package variables hold -/
structure VarsAt (aA aD : Addr) (w : World) : Prop where
  a : w.cell? ⟨0, 0, none⟩ = some (.iface 199 (.pointer (some aA)))
  d : w.cell? ⟨2, 0, none⟩ = some (.iface 199 (.pointer (some aD)))
  t : w.cell? ⟨1, 0, none⟩ = some (.iface 134 (.agg #[.pointer (some ⟨3, 55, none⟩)]))
  ne : aD ≠ aA
  ba : ∃ ca ta, w.heap[aA.block]? = some (.cells ca ta (0, 0))
  bd : ∃ ca ta, w.heap[aD.block]? = some (.cells ca ta (0, 0))
theorem VarsAt.below {aA aD : Addr} {w x : World} (h : VarsAt aA aD w) (b : Below w.heap.size w x) : VarsAt aA aD x := by
  obtain ⟨c1, t1, h1⟩ := h.ba
  obtain ⟨c2, t2, h2⟩ := h.bd
  exact ⟨(b.cell (cell_lt h.a)).trans h.a, (b.cell (cell_lt h.d)).trans h.d, (b.cell (cell_lt h.t)).trans h.t, h.ne, ⟨c1, t1, (b.block _ (Array.getElem?_eq_some_iff.1 h1).1).trans h1⟩, ⟨c2, t2, (b.block _ (Array.getElem?_eq_some_iff.1 h2).1).trans h2⟩⟩
set_option maxHeartbeats 8000000 in
theorem implApplied_any (p : LP) (D : Led) (c : Cm) (aA aD : Addr) (w : World) (n1 : D.acc.length ≤ 1048576) (n2 : D.hold.length ≤ 1048576) (n3 : D.seen.length ≤ 1048576) (hcf : c.fr.size ≤ maxLen) (hct : c.to.size ≤ maxLen) (hpk : PlOk p D) (h : LedAt w p.aa p.ha p.sa D) (hv : VarsAt aA aD w) :
    Calls Tryz.prog 11 #[ledV p D, c.v] w fun e w' => ApplEnd (applM D c) w e w' := by
  have HL : Hid _ := hide h
  have HK : Hid _ := hide hpk
  have HV : Hid _ := hide hv
  obtain ⟨W3, hW3⟩ : ∃ W3, W3 = ((w.alloc (.cells #[.slice p.aa D.acc.length p.ca, .slice p.ha D.hold.length p.ch, .slice p.sa D.seen.length p.cs] 28)).alloc (.cells #[.int .i64 c.id, .int .i64 c.kind, .string c.fr, .string c.to, .int .i64 c.am, .int .i64 c.ref] 30)).alloc (.cells #[.slice none 0 0, .slice none 0 0, .slice none 0 0] 28) := ⟨_, rfl⟩
  have HP0 : Hid (Pool [] w [[blk w.heap.size (ledC p D)], [blk (w.heap.size + 1) c.cells], [blk (w.heap.size + 1 + 1) [.slice none 0 0, .slice none 0 0, .slice none 0 0]], [], []] W3) := hide (by
    have p1 := (Pool.start w [[], [], [], [], []] rfl).newBlk (i := 0) rfl (ledC p D) 28
    have s1 : (w.alloc (.cells (ledC p D).toArray 28)).heap.size = w.heap.size + 1 := by simp
    have p2 := p1.newBlk (i := 1) rfl c.cells 30
    have s2 : ((w.alloc (.cells (ledC p D).toArray 28)).alloc (.cells c.cells.toArray 30)).heap.size = w.heap.size + 1 + 1 := by simp
    have p3 := p2.newBlk (i := 2) rfl [.slice none 0 0, .slice none 0 0, .slice none 0 0] 28
    rw [s2, s1] at p3
    rw [hW3]
    exact p3)
  have HW3 : Hid (_ = W3) := hide hW3.symm
  clear hW3 h hpk hv
  unfold ledV Cm.v
  go_enter Tryz.func11, Tryz.ntmps11
  go_upto_region 1 with fail
  rw [HW3.out]
  have d0 := (HP0.out.blkAt (i := 0) rfl).c 0 _ rfl
  have d1 := (HP0.out.blkAt (i := 0) rfl).c 1 _ rfl
  have d2 := (HP0.out.blkAt (i := 0) rfl).c 2 _ rfl
  go_wp2_with fail
  refine (implLedgerOk_any p.aa p.ha p.sa D p.ca p.ch p.cs _ _ W3 (HL.out.below HP0.out.below) (HV.out.below HP0.out.below).d n1 n2 n3).mono ?_
  rintro e w4 ⟨rfl, hb4⟩
  have HP4 : Hid (Pool [] w [[blk w.heap.size (ledC p D)], [blk (w.heap.size + 1) c.cells], [blk (w.heap.size + 1 + 1) [.slice none 0 0, .slice none 0 0, .slice none 0 0]], [], []] w4) := hide (HP0.out.keep hb4)
  clear hb4 HP0 d0 d1 d2
  cases hls : ledS D
  · have HM : Hid (applM D c = (⟨[], [], []⟩, 1)) := hide (by unfold applM; rw [hls]; rfl)
    have r0 := (HP4.out.blkAt (i := 2) rfl).c 0 _ rfl
    have fr0 := (HP4.out.blkAt (i := 2) rfl).f 0
    have r1 := (HP4.out.blkAt (i := 2) rfl).c 1 _ rfl
    have fr1 := (HP4.out.blkAt (i := 2) rfl).f 1
    have r2 := (HP4.out.blkAt (i := 2) rfl).c 2 _ rfl
    have fr2 := (HP4.out.blkAt (i := 2) rfl).f 2
    have HQ : Hid _ := hide (((HP4.out.setBlk (i := 2) rfl 0 (.slice none 0 0) (by simp)).setBlk (i := 2) rfl 1 (.slice none 0 0) (by simp)).setBlk (i := 2) rfl 2 (.slice none 0 0) (by simp))
    go_wp2
    refine name_post9 (fun W9 hW9 => ?_)
    have hq := HQ.out
    rw [← hW9] at hq
    have z_ := hq.blkAt (i := 2) rfl
    have g0_ := z_.c 0 _ rfl
    have g1_ := z_.c 1 _ rfl
    have g2_ := z_.c 2 _ rfl
    exact bodyPost_ret (v := .tuple #[.agg #[.slice none 0 0, .slice none 0 0, .slice none 0 0], .int .i64 (1)]) (by simp [results, Tryz.results11, go_sem, g0_, g1_, g2_]) rfl ⟨⟨none, 0, none, 0, none, 0⟩, by rw [HM.out]; rfl, by
      rw [HM.out]
      have k : SlOk none 0 0 := ⟨fun x h => (by cases h), fun _ => rfl, Nat.le_refl _⟩
      exact ⟨k, k, k⟩, by
      rw [HM.out]
      have p1 := ((hq.drop (i := 2) rfl).drop (i := 1) rfl).drop (i := 0) rfl
      have st : Star (ledL ⟨none, 0, none, 0, none, 0⟩ ⟨[], [], []⟩) W9 := by
        have e0 : ∀ {A : Type} (sz : Nat) (f : A → List Value), Star [orow sz f none 0 ([] : List A)] W9 := fun sz f => Star.ofNone
        have z : ∀ {A : Type} (sz : Nat) (f : A → List Value), fps [orow sz f none 0 ([] : List A)] = [] := fun sz f => by rw [fps_one]; rfl
        exact (e0 4 accCells).app ((e0 4 hldCells).app (e0 2 snCells) (fun c hc => by rw [z] at hc; cases hc)) (fun c hc => by rw [z] at hc; cases hc)
      have p2 := p1.new (i := 3) rfl (Below.refl _ _) st (fun c hc => by
        have : fps (ledL ⟨none, 0, none, 0, none, 0⟩ ⟨[], [], []⟩) = [] := rfl
        rw [this] at hc; cases hc)
      exact p2.cast (by simp)⟩
  · have HLS : Hid _ := hide hls
    have HOK : Hid _ := hide (led_ok hls)
    have HM : Hid _ := hide (led_m hls)
    have HLW : Hid _ := hide HL.out.wf
    clear hls
    have d0 := (HP4.out.blkAt (i := 0) rfl).c 0 _ rfl
    have d1 := (HP4.out.blkAt (i := 0) rfl).c 1 _ rfl
    have d2 := (HP4.out.blkAt (i := 0) rfl).c 2 _ rfl
    have HBO : Hid _ := hide (bookOf_pool p D w4 HOK.out.a.1 HOK.out.h.1 HOK.out.s HK.out (HL.out.below HP4.out.below) (srt_off HM.out.srt))
    unfold ledV at HBO
    go_wp2_with fail
    refine HBO.out.mono ?_
    rintro e w5 ⟨q, m, ps, hv, sv, rfl, hps, hpb⟩
    have HPS : Hid _ := hide hps
    have HP5 : Hid (Pool [] w [[blk w.heap.size (ledC p D)], [blk (w.heap.size + 1) c.cells], [blk (w.heap.size + 1 + 1) [.slice none 0 0, .slice none 0 0, .slice none 0 0]], (bkS q m ps hv sv D.acc D.hold D.seen).flatten, []] w5) := hide ((HP4.out.new (i := 3) rfl hpb.below hpb.st (fun b hb => (hpb.hi b hb).resolve_left (by simp))))
    clear hps hpb HP4 HBO d0 d1 d2
    have HV5 : Hid _ := hide (HV.out.below HP5.out.below)
    have HAD : Hid (∃ ha ch sa cs, hv = .slice ha D.hold.length ch ∧ sv = .slice sa D.seen.length cs ∧ BkIs w5 q m ps ha ch sa cs D.acc D.hold D.seen) := hide ((HP5.out.get (i := 3) rfl).bk HPS.out)
    obtain ⟨ha, ch, sa, cs, _, _, hbk⟩ := HAD.out
    have HAM : Hid _ := hide (admit_any q m ps ha ch sa cs D c _ _ w5 n2 n3 hcf hct (fun y hy => by have := (HOK.out.codes y hy).2; omega) hbk HV5.out.a)
    clear hbk HAD
    unfold Cm.v at HAM
    have c0 := (HP5.out.blkAt (i := 1) rfl).c 0 _ rfl
    have c1 := (HP5.out.blkAt (i := 1) rfl).c 1 _ rfl
    have c2 := (HP5.out.blkAt (i := 1) rfl).c 2 _ rfl
    have c3 := (HP5.out.blkAt (i := 1) rfl).c 3 _ rfl
    have c4 := (HP5.out.blkAt (i := 1) rfl).c 4 _ rfl
    have c5 := (HP5.out.blkAt (i := 1) rfl).c 5 _ rfl
    go_wp2_with fail
    refine HAM.out.mono ?_
    intro e w6 hre
    unfold RefEnd at hre
    clear HAM c0 c1 c2 c3 c4 c5
    cases hac : admC D c with
    | some code =>
      rw [hac] at hre
      obtain ⟨hb6, n, hpn, rfl⟩ := hre
      have HR0 : Hid _ := hide (adm_some HLS.out hac)
      have HP6 : Hid (Pool [] w [[blk w.heap.size (ledC p D)], [blk (w.heap.size + 1) c.cells], [blk (w.heap.size + 1 + 1) [.slice none 0 0, .slice none 0 0, .slice none 0 0]], (bkS q m ps hv sv D.acc D.hold D.seen).flatten, [blk n [.int .i64 code, .iface 199 (.pointer (some aA))]]] w6) := hide ((HP5.out.new (i := 4) rfl hb6 (hpn.get (i := 0) rfl) (fun b hb => (hpn.hi b (by simpa using hb)).resolve_left (by simp))))
      clear hac hb6 hpn HP5 HV5
      have HV6 : Hid _ := hide (HV.out.below HP6.out.below)
      go_wp2_with fail
      refine (codeOf_some n code _ w6 (HP6.out.blkAt (i := 4) rfl) HV6.out.t).mono ?_
      rintro e w7 ⟨rfl, hb7⟩
      have HP7 : Hid (Pool [] w [[blk w.heap.size (ledC p D)], [blk (w.heap.size + 1) c.cells], [blk (w.heap.size + 1 + 1) [.slice none 0 0, .slice none 0 0, .slice none 0 0]], (bkS q m ps hv sv D.acc D.hold D.seen).flatten, [blk n [.int .i64 code, .iface 199 (.pointer (some aA))]]] w7) := hide (HP6.out.keep hb7)
      clear hb7 HP6 HV6
      have HV7 : Hid _ := hide (HV.out.below HP7.out.below)
      have va := HV7.out.a
      have HIS : Hid _ := hide (is_wrap_same n aA w7 ((HP7.out.blkAt (i := 4) rfl).c 1 _ rfl))
      go_wp2_with fail
      refine HIS.out.mono ?_
      rintro e w8 ⟨rfl, hw8⟩
      have hw8' := hw8.symm
      subst hw8'
      clear hw8 HIS va HV7
      have HLC : Hid _ := hide (ledger_any q m ps hv sv D.acc D.acc D.hold D.seen w7 HPS.out (List.Perm.refl _) HM.out.srt (by have := HOK.out.a.1; omega) (fun y hy => (HLW.out.acc y hy).1) (HP7.out.get (i := 3) rfl))
      go_wp2_with fail
      refine HLC.out.mono ?_
      rintro e x9 ⟨p9, rfl, hpl, hpo⟩
      have HP9 : Hid _ := hide (HP7.out.call (i := 3) rfl hpo)
      have HPL : Hid _ := hide hpl
      clear hpl hpo HLC
      obtain ⟨Y, hY⟩ : ∃ Y : Led, Y = ⟨D.acc, D.hold, D.seen⟩ := ⟨_, rfl⟩
      rw [← hY] at HP9 HPL ⊢
      have HR : Hid (applM D c = (Y, code)) := hide (by rw [hY]; exact HR0.out)
      clear hY
      obtain ⟨y0, k0, y1, k1, y2, k2⟩ := p9
      unfold ledV
      have r0 := (HP9.out.blkAt (i := 2) rfl).c 0 _ rfl
      have fr0 := (HP9.out.blkAt (i := 2) rfl).f 0
      have r1 := (HP9.out.blkAt (i := 2) rfl).c 1 _ rfl
      have fr1 := (HP9.out.blkAt (i := 2) rfl).f 1
      have r2 := (HP9.out.blkAt (i := 2) rfl).c 2 _ rfl
      have fr2 := (HP9.out.blkAt (i := 2) rfl).f 2
      have HQ : Hid _ := hide (((HP9.out.setBlk (i := 2) rfl 0 (.slice y0 Y.acc.length k0) (by simp)).setBlk (i := 2) rfl 1 (.slice y1 Y.hold.length k1) (by simp)).setBlk (i := 2) rfl 2 (.slice y2 Y.seen.length k2) (by simp))
      clear HP9 HP7
      go_wp2
      refine name_post9 (fun W9 hW9 => ?_)
      have hq := HQ.out
      rw [← hW9] at hq
      have z_ := hq.blkAt (i := 2) rfl
      have g0_ := z_.c 0 _ rfl
      have g1_ := z_.c 1 _ rfl
      have g2_ := z_.c 2 _ rfl
      exact bodyPost_ret (v := .tuple #[.agg #[.slice y0 Y.acc.length k0, .slice y1 Y.hold.length k1, .slice y2 Y.seen.length k2], .int .i64 code]) (by simp [results, Tryz.results11, go_sem, g0_, g1_, g2_]) rfl ⟨⟨y0, k0, y1, k1, y2, k2⟩, by rw [HR.out]; rfl, by rw [HR.out]; exact HPL.out, by
        rw [HR.out]
        exact ((((hq.drop (i := 4) rfl).drop (i := 2) rfl).drop (i := 1) rfl).drop (i := 0) rfl).cast (by simp)⟩
    | none =>
      rw [hac] at hre
      obtain ⟨hb6, rfl⟩ := hre
      obtain ⟨hcB, hsn, hfu, hap⟩ := adm_none HLS.out hac
      have HCB : Hid _ := hide hcB
      have HFU : Hid _ := hide hfu
      have HAP : Hid _ := hide hap
      have HSO : Hid _ := hide (seen_off (fun y hy => by have := (HOK.out.codes y hy).2; omega) hsn)
      have HP6 : Hid (Pool [] w [[blk w.heap.size (ledC p D)], [blk (w.heap.size + 1) c.cells], [blk (w.heap.size + 1 + 1) [.slice none 0 0, .slice none 0 0, .slice none 0 0]], (bkS q m ps hv sv D.acc D.hold D.seen).flatten, []] w6) := hide (HP5.out.keep hb6)
      clear hac hb6 HP5 HV5 hcB hsn hfu hap
      have HV6 : Hid _ := hide (HV.out.below HP6.out.below)
      have HDO : Hid _ := hide (do_any q m ps hv sv D c _ _ w6 HPS.out HOK.out HM.out HLW.out HCB.out HFU.out (HP6.out.get (i := 3) rfl) HV6.out.d (fun hb => by
        have h1 := HP6.out.hi 2 (by
          rw [mem_fps] at hb ⊢
          obtain ⟨r, hr, hb⟩ := hb
          exact ⟨r, List.mem_flatten.2 ⟨_, by simp, hr⟩, hb⟩)
        have h2 := cell_lt HV.out.d
        rcases h1 with h1 | h1
        · cases h1
        · simp only at h2; omega))
      unfold Cm.v at HDO
      have c0 := (HP6.out.blkAt (i := 1) rfl).c 0 _ rfl
      have c1 := (HP6.out.blkAt (i := 1) rfl).c 1 _ rfl
      have c2 := (HP6.out.blkAt (i := 1) rfl).c 2 _ rfl
      have c3 := (HP6.out.blkAt (i := 1) rfl).c 3 _ rfl
      have c4 := (HP6.out.blkAt (i := 1) rfl).c 4 _ rfl
      have c5 := (HP6.out.blkAt (i := 1) rfl).c 5 _ rfl
      go_wp2_with fail
      refine HDO.out.mono ?_
      rintro e w7 ⟨o, ps', hv', A', H', hI, hps', hde⟩
      have HI : Hid _ := hide hI
      have HPS' : Hid _ := hide hps'
      unfold DoEnd at hde
      clear HDO HV6 c0 c1 c2 c3 c4 c5 hI hps'
      have HUP : Hid _ := hide HOK.out.up
      have HAL : Hid (A'.length ≤ 1000) := hide (by have := HI.out.acc.length_eq; have := doM_lenA (c := c) HOK.out.a.1; omega)
      have HAN : Hid (∀ y ∈ A', y.name.size ≤ maxLen) := hide (fun y hy => doM_sz HLW.out hcf y (HI.out.acc.mem_iff.1 hy))
      cases o with
      | none =>
        obtain ⟨rfl, hpd⟩ := hde
        have HC0 : Hid ((doM D c).2 = 0) := hide HI.out.code
        have HP7 : Hid (Pool [] w [[blk w.heap.size (ledC p D)], [blk (w.heap.size + 1) c.cells], [blk (w.heap.size + 1 + 1) [.slice none 0 0, .slice none 0 0, .slice none 0 0]], (bkS q m ps' hv' sv A' H' D.seen).flatten, []] w7) := hide (HP6.out.call (i := 3) rfl (hpd.cast (by simp)))
        clear hpd HP6
        go_wp2_with fail
        refine (codeOf_nil w7).mono ?_
        rintro e w8 ⟨rfl, hb8⟩
        have HP8 : Hid (Pool [] w [[blk w.heap.size (ledC p D)], [blk (w.heap.size + 1) c.cells], [blk (w.heap.size + 1 + 1) [.slice none 0 0, .slice none 0 0, .slice none 0 0]], (bkS q m ps' hv' sv A' H' D.seen).flatten, []] w8) := hide (HP7.out.keep hb8)
        clear hb8 HP7
        have HV8 : Hid _ := hide (HV.out.below HP8.out.below)
        have va := HV8.out.a
        have HIS : Hid _ := hide (is_nil aA w8)
        go_wp2_with fail
        refine HIS.out.mono ?_
        rintro e w9 ⟨rfl, hw9⟩
        have hw9' := hw9.symm
        subst hw9'
        clear hw9 HIS va HV8
        have c0 := (HP8.out.blkAt (i := 1) rfl).c 0 _ rfl
        have HNO : Hid _ := hide (note_any q m ps' hv' sv A' H' D.seen c.id 0 w8 HOK.out.s HPS'.out HUP.out HSO.out (HP8.out.get (i := 3) rfl))
        go_wp2_with fail
        refine HNO.out.mono ?_
        rintro e x1 ⟨rfl, sv', hpn⟩
        have HPA : Hid (Pool [] w [[blk w.heap.size (ledC p D)], [blk (w.heap.size + 1) c.cells], [blk (w.heap.size + 1 + 1) [.slice none 0 0, .slice none 0 0, .slice none 0 0]], (bkS q m ps' hv' sv' A' H' (seeL D.seen c.id 0)).flatten, []] x1) := hide (HP8.out.call (i := 3) rfl hpn)
        clear hpn HP8 HNO c0
        have HLC : Hid _ := hide (ledger_any q m ps' hv' sv' A' (doM D c).1.acc H' (seeL D.seen c.id 0) x1 HPS'.out HI.out.acc.symm HI.out.srt HAL.out HAN.out (HPA.out.get (i := 3) rfl))
        go_wp2_with fail
        refine HLC.out.mono ?_
        rintro e x9 ⟨p9, rfl, hpl, hpo⟩
        have HP9 : Hid _ := hide (HPA.out.call (i := 3) rfl hpo)
        have HPL : Hid _ := hide hpl
        clear hpl hpo HLC
        obtain ⟨Y, hY⟩ : ∃ Y : Led, Y = ⟨(doM D c).1.acc, H', (seeL D.seen c.id 0)⟩ := ⟨_, rfl⟩
        rw [← hY] at HP9 HPL ⊢
        have HR : Hid (applM D c = (Y, 0)) := hide (by rw [hY]; exact (by rw [HAP.out, HC0.out, HI.out.hold]))
        clear hY
        obtain ⟨y0, k0, y1, k1, y2, k2⟩ := p9
        unfold ledV
        have r0 := (HP9.out.blkAt (i := 2) rfl).c 0 _ rfl
        have fr0 := (HP9.out.blkAt (i := 2) rfl).f 0
        have r1 := (HP9.out.blkAt (i := 2) rfl).c 1 _ rfl
        have fr1 := (HP9.out.blkAt (i := 2) rfl).f 1
        have r2 := (HP9.out.blkAt (i := 2) rfl).c 2 _ rfl
        have fr2 := (HP9.out.blkAt (i := 2) rfl).f 2
        have HQ : Hid _ := hide (((HP9.out.setBlk (i := 2) rfl 0 (.slice y0 Y.acc.length k0) (by simp)).setBlk (i := 2) rfl 1 (.slice y1 Y.hold.length k1) (by simp)).setBlk (i := 2) rfl 2 (.slice y2 Y.seen.length k2) (by simp))
        clear HP9 HPA
        go_wp2
        refine name_post9 (fun W9 hW9 => ?_)
        have hq := HQ.out
        rw [← hW9] at hq
        have z_ := hq.blkAt (i := 2) rfl
        have g0_ := z_.c 0 _ rfl
        have g1_ := z_.c 1 _ rfl
        have g2_ := z_.c 2 _ rfl
        exact bodyPost_ret (v := .tuple #[.agg #[.slice y0 Y.acc.length k0, .slice y1 Y.hold.length k1, .slice y2 Y.seen.length k2], .int .i64 0]) (by simp [results, Tryz.results11, go_sem, g0_, g1_, g2_]) rfl ⟨⟨y0, k0, y1, k1, y2, k2⟩, by rw [HR.out]; rfl, by rw [HR.out]; exact HPL.out, by
          rw [HR.out]
          exact ((((hq.drop (i := 4) rfl).drop (i := 2) rfl).drop (i := 1) rfl).drop (i := 0) rfl).cast (by simp)⟩
      | some code =>
        obtain ⟨n, rfl, hpd⟩ := hde
        have HC0 : Hid ((doM D c).2 = code) := hide HI.out.code
        have HP7 : Hid (Pool [] w [[blk w.heap.size (ledC p D)], [blk (w.heap.size + 1) c.cells], [blk (w.heap.size + 1 + 1) [.slice none 0 0, .slice none 0 0, .slice none 0 0]], (bkS q m ps' hv' sv A' H' D.seen).flatten, [blk n [.int .i64 code, .iface 199 (.pointer (some aD))]]] w7) := hide ((HP6.out.call (i := 3) rfl (rs' := (bkS q m ps' hv' sv A' H' D.seen).flatten ++ [blk n [.int .i64 code, .iface 199 (.pointer (some aD))]]) (hpd.cast (by simp))).cast (by simp))
        clear hpd HP6
        have HV7 : Hid _ := hide (HV.out.below HP7.out.below)
        go_wp2_with fail
        refine (codeOf_some n code _ w7 (HP7.out.blkAt (i := 4) rfl) HV7.out.t).mono ?_
        rintro e w8 ⟨rfl, hb8⟩
        have HP8 : Hid (Pool [] w [[blk w.heap.size (ledC p D)], [blk (w.heap.size + 1) c.cells], [blk (w.heap.size + 1 + 1) [.slice none 0 0, .slice none 0 0, .slice none 0 0]], (bkS q m ps' hv' sv A' H' D.seen).flatten, [blk n [.int .i64 code, .iface 199 (.pointer (some aD))]]] w8) := hide (HP7.out.keep hb8)
        clear hb8 HP7 HV7
        have HV8 : Hid _ := hide (HV.out.below HP8.out.below)
        have va := HV8.out.a
        obtain ⟨ca, ta, hba⟩ := HV8.out.ba
        obtain ⟨cd, td, hbd⟩ := HV8.out.bd
        have HIS : Hid _ := hide (is_wrap_other n aA aD cd ca td ta w8 ((HP8.out.blkAt (i := 4) rfl).c 1 _ rfl) HV8.out.ne hbd hba)
        clear hba hbd
        go_wp2_with fail
        refine HIS.out.mono ?_
        rintro e w9 ⟨rfl, hw9⟩
        have hw9' := hw9.symm
        subst hw9'
        clear hw9 HIS va HV8
        have c0 := (HP8.out.blkAt (i := 1) rfl).c 0 _ rfl
        have HNO : Hid _ := hide (note_any q m ps' hv' sv A' H' D.seen c.id code w8 HOK.out.s HPS'.out HUP.out HSO.out (HP8.out.get (i := 3) rfl))
        go_wp2_with fail
        refine HNO.out.mono ?_
        rintro e x1 ⟨rfl, sv', hpn⟩
        have HPA : Hid (Pool [] w [[blk w.heap.size (ledC p D)], [blk (w.heap.size + 1) c.cells], [blk (w.heap.size + 1 + 1) [.slice none 0 0, .slice none 0 0, .slice none 0 0]], (bkS q m ps' hv' sv' A' H' (seeL D.seen c.id code)).flatten, [blk n [.int .i64 code, .iface 199 (.pointer (some aD))]]] x1) := hide (HP8.out.call (i := 3) rfl hpn)
        clear hpn HP8 HNO c0
        have HLC : Hid _ := hide (ledger_any q m ps' hv' sv' A' (doM D c).1.acc H' (seeL D.seen c.id code) x1 HPS'.out HI.out.acc.symm HI.out.srt HAL.out HAN.out (HPA.out.get (i := 3) rfl))
        go_wp2_with fail
        refine HLC.out.mono ?_
        rintro e x9 ⟨p9, rfl, hpl, hpo⟩
        have HP9 : Hid _ := hide (HPA.out.call (i := 3) rfl hpo)
        have HPL : Hid _ := hide hpl
        clear hpl hpo HLC
        obtain ⟨Y, hY⟩ : ∃ Y : Led, Y = ⟨(doM D c).1.acc, H', (seeL D.seen c.id code)⟩ := ⟨_, rfl⟩
        rw [← hY] at HP9 HPL ⊢
        have HR : Hid (applM D c = (Y, code)) := hide (by rw [hY]; exact (by rw [HAP.out, HC0.out, HI.out.hold]))
        clear hY
        obtain ⟨y0, k0, y1, k1, y2, k2⟩ := p9
        unfold ledV
        have r0 := (HP9.out.blkAt (i := 2) rfl).c 0 _ rfl
        have fr0 := (HP9.out.blkAt (i := 2) rfl).f 0
        have r1 := (HP9.out.blkAt (i := 2) rfl).c 1 _ rfl
        have fr1 := (HP9.out.blkAt (i := 2) rfl).f 1
        have r2 := (HP9.out.blkAt (i := 2) rfl).c 2 _ rfl
        have fr2 := (HP9.out.blkAt (i := 2) rfl).f 2
        have HQ : Hid _ := hide (((HP9.out.setBlk (i := 2) rfl 0 (.slice y0 Y.acc.length k0) (by simp)).setBlk (i := 2) rfl 1 (.slice y1 Y.hold.length k1) (by simp)).setBlk (i := 2) rfl 2 (.slice y2 Y.seen.length k2) (by simp))
        clear HP9 HPA
        go_wp2
        refine name_post9 (fun W9 hW9 => ?_)
        have hq := HQ.out
        rw [← hW9] at hq
        have z_ := hq.blkAt (i := 2) rfl
        have g0_ := z_.c 0 _ rfl
        have g1_ := z_.c 1 _ rfl
        have g2_ := z_.c 2 _ rfl
        exact bodyPost_ret (v := .tuple #[.agg #[.slice y0 Y.acc.length k0, .slice y1 Y.hold.length k1, .slice y2 Y.seen.length k2], .int .i64 code]) (by simp [results, Tryz.results11, go_sem, g0_, g1_, g2_]) rfl ⟨⟨y0, k0, y1, k1, y2, k2⟩, by rw [HR.out]; rfl, by rw [HR.out]; exact HPL.out, by
          rw [HR.out]
          exact ((((hq.drop (i := 4) rfl).drop (i := 2) rfl).drop (i := 1) rfl).drop (i := 0) rfl).cast (by simp)⟩
end Go.Proofs.YtjjoeajnhblacaaGreatDoor
