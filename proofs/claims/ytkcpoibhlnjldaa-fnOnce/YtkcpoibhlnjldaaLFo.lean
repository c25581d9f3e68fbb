/- The law FnOnce: what is spent or earned under a number is done once. -/
import Derived.Test.YtkcpoibhlnjldaaLFa
namespace Go.Proofs.Ytkcpoibhlnjldaa
open Go.Value renaming int → J, slice → V
open Go.IntKind renaming i64 → Z
open Go.ChangeShapes Go.WideShapes Go.ChangeAt Go.RowKit
set_option linter.unusedVariables false
set_option maxRecDepth 100000
set_option maxHeartbeats 4000000 in
theorem sameSeen_any (a c : Option Addr) (l : List Sn) (ca cc : Nat) (w : World) (hl : l.length ≤ 1048576) (h : RowAt 2 snCells w a l) (h' : RowAt 2 snCells w c l) :
  Calls Try.prog 10 #[V a l.length ca, V c l.length cc] w fun e w' => e = .returned (.bool true) ∧ Below w.heap.size w w' := by
 have HC : Hid _ := hide h
 have HC' : Hid _ := hide h'
 clear h h'
 go_enter Try.func10, Try.ntmps10
 go_wp2
 go_loopw [5] (fun i wr => ∃ (k : Nat), k ≤ l.length ∧ i = J Z (k : Int) ∧ Hid (Below w.heap.size w wr)) (fun i wr => l.length - (intOf i).toNat)
 case atStart => exact ⟨0, Nat.zero_le _, rfl, hide (Below.refl _ _)⟩
 case round =>
  obtain ⟨k, hk, rfl, HB⟩ := hrel
  by_cases hlt : k < l.length
  ·have hlt' : (k : Int) < (l.length : Int) := by omega
   obtain ⟨b, off, rfl, hb, c0, c1⟩ := sn_row (HC.out.below HB.out) k hlt
   obtain ⟨b', off', rfl, hb', p0, p1⟩ := sn_row (HC'.out.below HB.out) k hlt
   go_wp2_with fail
   go_quiet (fail)
   go_wp2
   exact ⟨⟨k + 1, by omega, by go_num, hide (below_trans HB.out (((Kept.refl _).drewN _).below))⟩, by simp [intOf]; omega⟩
  ·have hk' : ¬ (k : Int) < (l.length : Int) := by omega
   go_wp2
   go_ret
   exact ⟨rfl, HB.out⟩
set_option maxHeartbeats 16000000 in
theorem walkOnce (a0 : Option Addr) (len cap : Nat) (w : World) (h : IsCode w a0 len) : Calls Try.prog 4 #[V a0 len cap] w fun e w' => YesEnd w e w' := by
 have H : Hid _ := hide h
 clear h
 go_enter Try.func4, Try.ntmps4
 go_wp2_with fail
 refine (big_any a0 len cap w).mono ?_
 rintro e w' ⟨rfl, hw'⟩
 rw [hw']
 clear hw' w'
 by_cases hbig : (1048576 : Int) < (len : Int)
 ·go_wp2
  go_ret
  exact ⟨rfl, Below.refl _ _⟩
 ·go_wp2_with fail
  refine (drawActed_any a0 len cap w H.out).mono ?_
  rintro e w1 ⟨n, a, rfl, hs, hp1⟩
  have HS : Hid (SmN n) := hide hs
  have hpl : n.peers.length ≤ 1048576 := hs.2.1
  have HP1 : Hid (Pool [] w [[], [], [], [], ndL n, [], [], [], []] w1) := hide (hp1.cast (by simp))
  clear hs hp1 H
  unfold ndV Ac.v
  go_wp2_with fail
  refine name_calls (fun W3 hW3 => ?_)
  have HP3 : Hid (Pool [] w [[blk w1.heap.size (ndCells n)], [blk (w1.heap.size + 1) (acCells a)], [], [], ndL n, [], [], [], []] W3) := hide (by
   have p1 := HP1.out.newBlk (i := 0) rfl (ndCells n) 27
   have s1 : (w1.alloc (.cells (ndCells n).toArray 27)).heap.size = w1.heap.size + 1 := by simp
   have p2 := p1.newBlk (i := 1) rfl (acCells a) 31
   rw [s1] at p2
   rw [hW3]; exact p2)
  clear hW3 HP1
  obtain ⟨R, hR⟩ : ∃ R, R = actM n.d a := ⟨_, rfl⟩
  have hst := HP3.out.get (i := 4) rfl
  refine (implActed_any n a W3 HS.out hst.caps.1 hst.caps.2.1 hst.caps.2.2 hst.nodeAt).mono ?_
  rintro e w4 ⟨m, la, lc, rfl, hd, hp⟩
  rw [← hR] at hd hp ⊢
  have HD : Hid (m.d = R.1) := hide hd
  have HP4 : Hid (Pool [] w [[blk w1.heap.size (ndCells n)], [blk (w1.heap.size + 1) (acCells a)], [], [], ndL n, ndL m, [orow 5 mgCells la lc R.2.1], [], []] w4) := hide (by
   have p1 := HP3.out.call (i := 5) rfl (rs' := ndL m ++ [orow 5 mgCells la lc R.2.1]) (hp.cast (by simp))
   exact p1.cast (by simp))
  have HR : Hid (R = actM n.d a) := hide hR
  clear hst hd hp HP3 hR
  rw [ndV_of HD.out]
  go_upto_region 5 with fail
  refine name_world9 (fun W5 hW5 => ?_)
  have HP5 : Hid (Pool [] w [[blk w1.heap.size (ndCells n)], [blk (w1.heap.size + 1) (acCells a)], [blk w4.heap.size (ndK R.1 m.sa m.sc m.pa m.pc)], [], ndL n, ndL m, [orow 5 mgCells la lc R.2.1], [], []] W5) := hide (by
   have p1 := HP4.out.newBlk (i := 2) rfl (ndK R.1 m.sa m.sc m.pa m.pc) 27
   rw [hW5]; exact p1)
  clear hW5 HP4
  have n_0 := (HP5.out.blkAt (i := 0) rfl).c 0 _ rfl
  have n_1 := (HP5.out.blkAt (i := 0) rfl).c 1 _ rfl
  have n_2 := (HP5.out.blkAt (i := 0) rfl).c 2 _ rfl
  have n_3 := (HP5.out.blkAt (i := 0) rfl).c 3 _ rfl
  have n_4 := (HP5.out.blkAt (i := 0) rfl).c 4 _ rfl
  have n_5 := (HP5.out.blkAt (i := 0) rfl).c 5 _ rfl
  have a_0 := (HP5.out.blkAt (i := 1) rfl).c 0 _ rfl
  have a_1 := (HP5.out.blkAt (i := 1) rfl).c 1 _ rfl
  have a_2 := (HP5.out.blkAt (i := 1) rfl).c 2 _ rfl
  have a_3 := (HP5.out.blkAt (i := 1) rfl).c 3 _ rfl
  have a_4 := (HP5.out.blkAt (i := 1) rfl).c 4 _ rfl
  have a_5 := (HP5.out.blkAt (i := 1) rfl).c 5 _ rfl
  have a_6 := (HP5.out.blkAt (i := 1) rfl).c 6 _ rfl
  have a_7 := (HP5.out.blkAt (i := 1) rfl).c 7 _ rfl
  have a_8 := (HP5.out.blkAt (i := 1) rfl).c 8 _ rfl
  go_wp2_with fail
  have hst := HP5.out.get (i := 4) rfl
  refine (specActed_any n a W5 HS.out hst.caps.1 hst.caps.2.2 hst.nodeAt).mono ?_
  rintro e w6 ⟨m2, la2, lc2, rfl, hd, hp⟩
  rw [← HR.out] at hd hp ⊢
  have HD2 : Hid (m2.d = R.1) := hide hd
  have HP6 : Hid (Pool [] w [[blk w1.heap.size (ndCells n)], [blk (w1.heap.size + 1) (acCells a)], [blk w4.heap.size (ndK R.1 m.sa m.sc m.pa m.pc)], [], ndL n, ndL m, [orow 5 mgCells la lc R.2.1], ndL m2, [orow 5 mgCells la2 lc2 R.2.1]] w6) := hide (by
   have p1 := HP5.out.call (i := 7) rfl (rs' := ndL m2 ++ [orow 5 mgCells la2 lc2 R.2.1]) (hp.cast (by simp))
   exact p1.cast (by simp))
  clear hst hd hp HP5 n_0 n_1 n_2 n_3 n_4 n_5 a_0 a_1 a_2 a_3 a_4 a_5 a_6 a_7 a_8
  rw [ndV_of HD2.out]
  go_upto_region 6 with fail
  refine name_world9 (fun W7 hW7 => ?_)
  have HP7 : Hid (Pool [] w [[blk w1.heap.size (ndCells n)], [blk (w1.heap.size + 1) (acCells a)], [blk w4.heap.size (ndK R.1 m.sa m.sc m.pa m.pc)], [blk w6.heap.size (ndK R.1 m2.sa m2.sc m2.pa m2.pc)], ndL n, ndL m, [orow 5 mgCells la lc R.2.1], ndL m2, [orow 5 mgCells la2 lc2 R.2.1]] W7) := hide (by
   have p1 := HP6.out.newBlk (i := 3) rfl (ndK R.1 m2.sa m2.sc m2.pa m2.pc) 27
   rw [hW7]; exact p1)
  clear hW7 HP6
  have a_0 := (HP7.out.blkAt (i := 1) rfl).c 0 _ rfl
  obtain ⟨BAD, hBAD⟩ : ∃ BAD, BAD = (¬ (a.kind = 1 ∨ a.kind = 2) ∨ ¬ (R.2.2 = 0 ∨ R.2.2 = 4 ∨ R.2.2 = 6)) := ⟨_, rfl⟩
  go_cut [60] from 36 to 60 (fun t wx => ((t = .bool true ∧ (¬ (a.kind = 1 ∨ a.kind = 2) ∨ ¬ (R.2.2 = 0 ∨ R.2.2 = 4 ∨ R.2.2 = 6))) ∨ (t = .bool false ∧ (a.kind = 1 ∨ a.kind = 2) ∧ (R.2.2 = 0 ∨ R.2.2 = 4 ∨ R.2.2 = 6))) ∧ Hid (FaS w w1.heap.size (w1.heap.size + 1) w4.heap.size w6.heap.size n a R m m2 la lc la2 lc2 wx))
  case first =>
   have HG : Hid (FaS w w1.heap.size (w1.heap.size + 1) w4.heap.size w6.heap.size n a R m m2 la lc la2 lc2 W7) := hide HP7.out
   by_cases k1 : a.kind = 1
   ·have k1' : (a.kind != 1) = false := by simp [k1]
    by_cases c0 : R.2.2 = 0
    ·have c0' : (R.2.2 != 0) = false := by simp [c0]
     go_wp2_with fail
     go_meet
     exact ⟨.inr ⟨rfl, .inl k1, .inl c0⟩, HG⟩
    ·have c0' : (R.2.2 != 0) = true := by simp [c0]
     by_cases c4 : R.2.2 = 4
     ·have c4' : (R.2.2 != 4) = false := by simp [c4]
      go_wp2_with fail
      go_meet
      exact ⟨.inr ⟨rfl, .inl k1, .inr (.inl c4)⟩, HG⟩
     ·have c4' : (R.2.2 != 4) = true := by simp [c4]
      by_cases c6 : R.2.2 = 6
      ·have c6' : (R.2.2 != 6) = false := by simp [c6]
       go_wp2_with fail
       go_meet
       exact ⟨.inr ⟨rfl, .inl k1, .inr (.inr c6)⟩, HG⟩
      ·have c6' : (R.2.2 != 6) = true := by simp [c6]
       go_wp2_with fail
       go_meet
       exact ⟨.inl ⟨rfl, .inr (fun q => by rcases q with q | q | q; exact c0 q; exact c4 q; exact c6 q)⟩, HG⟩
   ·have k1' : (a.kind != 1) = true := by simp [k1]
    by_cases k2 : a.kind = 2
    ·have k2' : (a.kind != 2) = false := by simp [k2]
     by_cases c0 : R.2.2 = 0
     ·have c0' : (R.2.2 != 0) = false := by simp [c0]
      go_wp2_with fail
      go_meet
      exact ⟨.inr ⟨rfl, .inr k2, .inl c0⟩, HG⟩
     ·have c0' : (R.2.2 != 0) = true := by simp [c0]
      by_cases c4 : R.2.2 = 4
      ·have c4' : (R.2.2 != 4) = false := by simp [c4]
       go_wp2_with fail
       go_meet
       exact ⟨.inr ⟨rfl, .inr k2, .inr (.inl c4)⟩, HG⟩
      ·have c4' : (R.2.2 != 4) = true := by simp [c4]
       by_cases c6 : R.2.2 = 6
       ·have c6' : (R.2.2 != 6) = false := by simp [c6]
        go_wp2_with fail
        go_meet
        exact ⟨.inr ⟨rfl, .inr k2, .inr (.inr c6)⟩, HG⟩
       ·have c6' : (R.2.2 != 6) = true := by simp [c6]
        go_wp2_with fail
        go_meet
        exact ⟨.inl ⟨rfl, .inr (fun q => by rcases q with q | q | q; exact c0 q; exact c4 q; exact c6 q)⟩, HG⟩
    ·have k2' : (a.kind != 2) = true := by simp [k2]
     go_wp2_with fail
     go_meet
     exact ⟨.inl ⟨rfl, .inl (fun q => by rcases q with q | q; exact k1 q; exact k2 q)⟩, HG⟩
  case rest =>
   obtain ⟨hcase, HF⟩ := hcut
   clear HP7 a_0 hBAD
   rcases hcase with ⟨rfl, hbad⟩ | ⟨rfl, hkk, hcc⟩
   ·clear hbad
    go_wp2
    go_ret
    exact ⟨rfl, HF.out.below⟩
   ·have HAG : Hid (actM R.1 ⟨a.kind, a.id, a.to, 1, a.msg⟩ = (R.1, [], R.2.2) ∧ (R.2.2 = 0 ∨ R.1.has = n.has)) := hide (by
     have q := act_again (D := n.d) (a := a) hkk (by rw [← HR.out]; exact hcc)
     rw [← HR.out] at q
     exact q)
    have HRB : Hid (nodeB n.d = true) := hide (act_wrong (a := a) (by rw [← HR.out]; omega))
    have HSM : Hid (SmN m) := hide (smN_d0 HS.out (by rw [HD.out, HR.out]))
    have hsl : R.1.seen.length ≤ 1048576 := by rw [← (nd_of HD.out).2.2.2.2.1]; exact HSM.out.1
    clear hkk hcc
    have a_0 := (HF.out.blkAt (i := 1) rfl).c 0 _ rfl
    have a_1 := (HF.out.blkAt (i := 1) rfl).c 1 _ rfl
    have a_2 := (HF.out.blkAt (i := 1) rfl).c 2 _ rfl
    have a_3 := (HF.out.blkAt (i := 1) rfl).c 3 _ rfl
    have a_4 := (HF.out.blkAt (i := 1) rfl).c 4 _ rfl
    have a_5 := (HF.out.blkAt (i := 1) rfl).c 5 _ rfl
    have a_6 := (HF.out.blkAt (i := 1) rfl).c 6 _ rfl
    have a_7 := (HF.out.blkAt (i := 1) rfl).c 7 _ rfl
    have a_8 := (HF.out.blkAt (i := 1) rfl).c 8 _ rfl
    go_upto_region 10 with fail
    refine name_world9 (fun W8 hW8 => ?_)
    have HF8 : Hid (Pool [] w [[blk w1.heap.size (ndCells n)], [blk w4.heap.size (ndK R.1 m.sa m.sc m.pa m.pc)], [blk wc.heap.size (acCells ⟨a.kind, a.id, a.to, 1, a.msg⟩)], ndL m, [], []] W8) := hide (by
     rw [hW8]
     have p1 := HF.out.drop (i := 8) rfl
     have p2 := (((((p1.drop (i := 7) rfl).drop (i := 6) rfl).drop (i := 4) rfl).drop (i := 3) rfl).drop (i := 1) rfl)
     have p3 : Pool [] w [[blk w1.heap.size (ndCells n)], [blk w4.heap.size (ndK R.1 m.sa m.sc m.pa m.pc)], [], ndL m, [], []] wc := p2.cast (by simp)
     exact p3.newBlk (i := 2) rfl (acCells ⟨a.kind, a.id, a.to, 1, a.msg⟩) 31)
    clear hW8 HF a_0 a_1 a_2 a_3 a_4 a_5 a_6 a_7 a_8
    have a_0 := (HF8.out.blkAt (i := 2) rfl).c 0 _ rfl
    have a_1 := (HF8.out.blkAt (i := 2) rfl).c 1 _ rfl
    have a_2 := (HF8.out.blkAt (i := 2) rfl).c 2 _ rfl
    have a_3 := (HF8.out.blkAt (i := 2) rfl).c 3 _ rfl
    have a_4 := (HF8.out.blkAt (i := 2) rfl).c 4 _ rfl
    have a_5 := (HF8.out.blkAt (i := 2) rfl).c 5 _ rfl
    have a_6 := (HF8.out.blkAt (i := 2) rfl).c 6 _ rfl
    have a_7 := (HF8.out.blkAt (i := 2) rfl).c 7 _ rfl
    have a_8 := (HF8.out.blkAt (i := 2) rfl).c 8 _ rfl
    have m_0 := (HF8.out.blkAt (i := 1) rfl).c 0 _ rfl
    have m_1 := (HF8.out.blkAt (i := 1) rfl).c 1 _ rfl
    have m_2 := (HF8.out.blkAt (i := 1) rfl).c 2 _ rfl
    have m_3 := (HF8.out.blkAt (i := 1) rfl).c 3 _ rfl
    have m_4 := (HF8.out.blkAt (i := 1) rfl).c 4 _ rfl
    have m_5 := (HF8.out.blkAt (i := 1) rfl).c 5 _ rfl
    go_wp2_with fail
    have hst := HF8.out.get (i := 3) rfl
    have hco : Calls Try.prog 7 #[.agg #[J Z R.1.id, J Z R.1.has, J Z R.1.spent, J Z R.1.earned, V m.sa R.1.seen.length m.sc, V m.pa R.1.peers.length m.pc], Ac.v ⟨a.kind, a.id, a.to, 1, a.msg⟩] W8 fun e w' => ActedEnd [] (R.1, [], R.2.2) W8 e w' := by
     have := implActed_any m ⟨a.kind, a.id, a.to, 1, a.msg⟩ W8 HSM.out hst.caps.1 hst.caps.2.1 hst.caps.2.2 hst.nodeAt
     rw [HD.out, HAG.out.1, ndV_of HD.out] at this
     exact this
    refine hco.mono ?_
    rintro e w9 ⟨m3, la3, lc3, rfl, hd3, hp3⟩
    have HD3 : Hid (m3.d = R.1) := hide hd3
    have HP9 : Hid (Pool [] w [[blk w1.heap.size (ndCells n)], [blk w4.heap.size (ndK R.1 m.sa m.sc m.pa m.pc)], [blk wc.heap.size (acCells ⟨a.kind, a.id, a.to, 1, a.msg⟩)], ndL m, ndL m3, []] w9) := hide (by
     have p1 := HF8.out.call (i := 4) rfl (rs' := ndL m3 ++ [orow 5 mgCells la3 lc3 ([] : List Mg)]) (hp3.cast (by simp))
     have p2 : Pool [] w [[blk w1.heap.size (ndCells n)], [blk w4.heap.size (ndK R.1 m.sa m.sc m.pa m.pc)], [blk wc.heap.size (acCells ⟨a.kind, a.id, a.to, 1, a.msg⟩)], ndL m, ndL m3, [orow 5 mgCells la3 lc3 ([] : List Mg)]] w9 := p1.cast (by simp)
     exact p2.drop (i := 5) rfl)
    clear hst hco hd3 hp3 HF8 a_0 a_1 a_2 a_3 a_4 a_5 a_6 a_7 a_8 m_0 m_1 m_2 m_3 m_4 m_5
    rw [ndV_of HD3.out]
    go_upto_region 11 with fail
    refine name_world9 (fun W10 hW10 => ?_)
    have HX : Hid (Pool [] w [[blk w1.heap.size (ndCells n)], [blk w4.heap.size (ndK R.1 m.sa m.sc m.pa m.pc)], [blk wc.heap.size (acCells ⟨a.kind, a.id, a.to, 1, a.msg⟩)], ndL m, ndL m3, [blk w9.heap.size (ndK R.1 m3.sa m3.sc m3.pa m3.pc)]] W10) := hide (by
     rw [hW10]; exact HP9.out.newBlk (i := 5) rfl (ndK R.1 m3.sa m3.sc m3.pa m3.pc) 27)
    clear hW10 HP9
    have m_1 := (HX.out.blkAt (i := 1) rfl).c 1 _ rfl
    have x_1 := (HX.out.blkAt (i := 5) rfl).c 1 _ rfl
    have m_2 := (HX.out.blkAt (i := 1) rfl).c 2 _ rfl
    have x_2 := (HX.out.blkAt (i := 5) rfl).c 2 _ rfl
    have m_3 := (HX.out.blkAt (i := 1) rfl).c 3 _ rfl
    have x_3 := (HX.out.blkAt (i := 5) rfl).c 3 _ rfl
    have m_4 := (HX.out.blkAt (i := 1) rfl).c 4 _ rfl
    have x_4 := (HX.out.blkAt (i := 5) rfl).c 4 _ rfl
    go_wp2_with fail
    have h1 := (HX.out.get (i := 4) rfl).nodeAt.seen
    have h2 := (HX.out.get (i := 3) rfl).nodeAt.seen
    rw [(nd_of HD3.out).2.2.2.2.1] at h1
    rw [(nd_of HD.out).2.2.2.2.1] at h2
    refine (sameSeen_any m3.sa m.sa R.1.seen m3.sc m.sc W10 hsl h1 h2).mono ?_
    rintro e w11 ⟨rfl, hb11⟩
    have HY : Hid _ := hide (HX.out.keep hb11)
    have m1 := (HY.out.blkAt (i := 1) rfl).c 1 _ rfl
    have n1 := (HY.out.blkAt (i := 0) rfl).c 1 _ rfl
    clear h1 h2 hb11 HX m_1 m_2 m_3 m_4 x_1 x_2 x_3 x_4
    by_cases hc0 : R.2.2 = 0
    ·have hc0' : (R.2.2 == 0) = true := by simp [hc0]
     clear hc0
     go_wp2
     go_ret
     exact ⟨rfl, HY.out.below⟩
    ·have hc0' : (R.2.2 == 0) = false := by simp [hc0]
     have hh : R.1.has = n.has := HAG.out.2.resolve_left hc0
     rw [hh] at m1
     clear hc0 hh
     go_wp2
     go_ret
     exact ⟨rfl, HY.out.below⟩
end Go.Proofs.Ytkcpoibhlnjldaa
