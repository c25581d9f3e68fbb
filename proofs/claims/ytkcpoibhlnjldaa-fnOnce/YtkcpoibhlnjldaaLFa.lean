/- The law FnActed: what an act keeps. -/
import Derived.Test.YtkcpoibhlnjldaaDnD
import Derived.Test.YtkcpoibhlnjldaaAcIH
namespace Go.Proofs.Ytkcpoibhlnjldaa
open Go.Value renaming int → J, slice → V
open Go.IntKind renaming i64 → Z
open Go.ChangeShapes Go.WideShapes Go.ChangeAt Go.RowKit
set_option linter.unusedVariables false
set_option maxRecDepth 100000
theorem big_any (a : Option Addr) (len cap : Nat) (w : World) : Calls Try.prog 5 #[V a len cap] w fun e w' => e = .returned (.bool (decide (1048576 < (len : Int)))) ∧ w' = w := by
 go_enter Try.func5, Try.ntmps5
 go_wp2
 go_ret
 exact ⟨rfl, rfl⟩
/-- the numbers of a node are those of its data -/
theorem nd_of {m : Nd} {D : NdD} (h : m.d = D) : m.id = D.id ∧ m.has = D.has ∧ m.spent = D.spent ∧ m.earned = D.earned ∧ m.seen = D.seen ∧ m.peers.length = D.peers.length := by
 subst h; exact ⟨rfl, rfl, rfl, rfl, rfl, by simp [Nd.d]⟩
def ndK (D : NdD) (sa : Option Addr) (sc : Nat) (pa : Option Addr) (pc : Nat) : List Value := [J Z D.id, J Z D.has, J Z D.spent, J Z D.earned, V sa D.seen.length sc, V pa D.peers.length pc]
theorem ndV_of {m : Nd} {D : NdD} (h : m.d = D) : ndV m = .agg #[J Z D.id, J Z D.has, J Z D.spent, J Z D.earned, V m.sa D.seen.length m.sc, V m.pa D.peers.length m.pc] := by
 subst h; simp [ndV, Nd.d]
/-- what stands while the law looks at what was answered -/
def FaS (w : World) (b0 b1 b2 b3 : Nat) (n : Nd) (a : Ac) (R : NdD × List Mg × Int) (m m2 : Nd) (la : Option Addr) (lc : Nat) (la2 : Option Addr) (lc2 : Nat) (x : World) : Prop := Pool [] w [[blk b0 (ndCells n)], [blk b1 (acCells a)], [blk b2 (ndK R.1 m.sa m.sc m.pa m.pc)], [blk b3 (ndK R.1 m2.sa m2.sc m2.pa m2.pc)], ndL n, ndL m, [orow 5 mgCells la lc R.2.1], ndL m2, [orow 5 mgCells la2 lc2 R.2.1]] x
theorem FaS.drewN {w : World} {b0 b1 b2 b3 : Nat} {n : Nd} {a : Ac} {R : NdD × List Mg × Int} {m m2 : Nd} {la : Option Addr} {lc : Nat} {la2 : Option Addr} {lc2 : Nat} {x : World} (h : FaS w b0 b1 b2 b3 n a R m m2 la lc la2 lc2 x) (q : Nat) : FaS w b0 b1 b2 b3 n a R m m2 la lc la2 lc2 (x.drewN q) := Pool.keep h (((Kept.refl _).drewN q).below)
theorem act_amt {D : NdD} {a : Ac} (hb : nodeB D = true) (h : (actM D a).2.2 = 0) : (a.kind = 3 → 1 ≤ a.amt ∧ a.amt ≤ 1000000000000) ∧ (a.kind = 4 → 0 ≤ a.msg.amt ∧ a.msg.amt ≤ 1000000000000) := by
 cases hf : actB D.id a with
 | false =>
  have e : (actM D a).2.2 = 2 := by simp [actM, hb, hf]
  omega
 | true =>
  unfold actB at hf
  constructor
  ·intro q
   rw [if_neg (by omega), if_pos q] at hf
   simp only [inB, Bool.and_eq_true, decide_eq_true_eq] at hf
   exact hf.1.2
  ·intro q
   rw [if_neg (by omega), if_neg (by omega), if_pos q] at hf
   simp only [takeB, inB, Bool.and_eq_true, Bool.or_eq_true, beq_iff_eq, decide_eq_true_eq] at hf
   rcases hf.2 with h | h <;> omega
/-- what a parcel brings, of the first k peers -/
def takTo (D : NdD) (m : Mg) (k : Nat) : Int := if (D.peers.take k).any (fun p => (p.id == m.fr) && (m.seq == p.E.got + 1)) then m.amt else 0
theorem takTo_zero (D : NdD) (m : Mg) : takTo D m 0 = 0 := by simp [takTo]
theorem takTo_all (D : NdD) (m : Mg) : takTo D m D.peers.length = takenV D m := by simp [takTo, takenV]
theorem takTo_hit {D : NdD} {m : Mg} {k : Nat} (hk : k < D.peers.length) (h1 : D.peers[k].id = m.fr) (h2 : m.seq = D.peers[k].E.got + 1) : takTo D m (k + 1) = m.amt := by
 unfold takTo
 rw [List.take_succ_eq_append_getElem hk, List.any_append]
 simp [h1, h2]
theorem takTo_miss {D : NdD} {m : Mg} {k : Nat} (hk : k < D.peers.length) (h : ¬ (D.peers[k].id = m.fr ∧ m.seq = D.peers[k].E.got + 1)) : takTo D m (k + 1) = takTo D m k := by
 unfold takTo
 rw [List.take_succ_eq_append_getElem hk, List.any_append]
 have : ((D.peers[k].id == m.fr) && (m.seq == D.peers[k].E.got + 1)) = false := by
  cases e : ((D.peers[k].id == m.fr) && (m.seq == D.peers[k].E.got + 1)) with
  | false => rfl
  | true => simp only [Bool.and_eq_true, beq_iff_eq] at e; exact absurd e h
 simp [this]
theorem takenV_le {D : NdD} {m : Mg} (h : 0 ≤ m.amt ∧ m.amt ≤ 1000000000000) : 0 ≤ takenV D m ∧ takenV D m ≤ 1000000000000 := by
 unfold takenV; split <;> omega
set_option maxHeartbeats 16000000 in
theorem walkActed (a0 : Option Addr) (len cap : Nat) (w : World) (h : IsCode w a0 len) : Calls Try.prog 3 #[V a0 len cap] w fun e w' => YesEnd w e w' := by
 have H : Hid _ := hide h
 clear h
 go_enter Try.func3, Try.ntmps3
 go_wp2_with fail
 refine (big_any a0 len cap w).mono ?_
 rintro e w' ⟨rfl, hw'⟩
 rw [hw']
 clear hw' w'
 by_cases hbig : (1048576 : Int) < (len : Int)
 ·go_wp2
  go_ret
  exact ⟨rfl, Below.refl _ _⟩
 ·go_wp2_with fail
  refine (drawActed_any a0 len cap w H.out).mono ?_
  rintro e w1 ⟨n, a, rfl, hs, hp1⟩
  have HS : Hid (SmN n) := hide hs
  have hpl : n.peers.length ≤ 1048576 := hs.2.1
  have HP1 : Hid (Pool [] w [[], [], [], [], ndL n, [], [], [], []] w1) := hide (hp1.cast (by simp))
  clear hs hp1 H
  unfold ndV Ac.v
  go_wp2_with fail
  refine name_calls (fun W3 hW3 => ?_)
  have HP3 : Hid (Pool [] w [[blk w1.heap.size (ndCells n)], [blk (w1.heap.size + 1) (acCells a)], [], [], ndL n, [], [], [], []] W3) := hide (by
   have p1 := HP1.out.newBlk (i := 0) rfl (ndCells n) 27
   have s1 : (w1.alloc (.cells (ndCells n).toArray 27)).heap.size = w1.heap.size + 1 := by simp
   have p2 := p1.newBlk (i := 1) rfl (acCells a) 31
   rw [s1] at p2
   rw [hW3]; exact p2)
  clear hW3 HP1
  obtain ⟨R, hR⟩ : ∃ R, R = actM n.d a := ⟨_, rfl⟩
  have hst := HP3.out.get (i := 4) rfl
  refine (implActed_any n a W3 HS.out hst.caps.1 hst.caps.2.1 hst.caps.2.2 hst.nodeAt).mono ?_
  rintro e w4 ⟨m, la, lc, rfl, hd, hp⟩
  rw [← hR] at hd hp ⊢
  have HD : Hid (m.d = R.1) := hide hd
  have HP4 : Hid (Pool [] w [[blk w1.heap.size (ndCells n)], [blk (w1.heap.size + 1) (acCells a)], [], [], ndL n, ndL m, [orow 5 mgCells la lc R.2.1], [], []] w4) := hide (by
   have p1 := HP3.out.call (i := 5) rfl (rs' := ndL m ++ [orow 5 mgCells la lc R.2.1]) (hp.cast (by simp))
   exact p1.cast (by simp))
  have HR : Hid (R = actM n.d a) := hide hR
  clear hst hd hp HP3 hR
  rw [ndV_of HD.out]
  go_upto_region 5 with fail
  refine name_world9 (fun W5 hW5 => ?_)
  have HP5 : Hid (Pool [] w [[blk w1.heap.size (ndCells n)], [blk (w1.heap.size + 1) (acCells a)], [blk w4.heap.size (ndK R.1 m.sa m.sc m.pa m.pc)], [], ndL n, ndL m, [orow 5 mgCells la lc R.2.1], [], []] W5) := hide (by
   have p1 := HP4.out.newBlk (i := 2) rfl (ndK R.1 m.sa m.sc m.pa m.pc) 27
   rw [hW5]; exact p1)
  clear hW5 HP4
  have n_0 := (HP5.out.blkAt (i := 0) rfl).c 0 _ rfl
  have n_1 := (HP5.out.blkAt (i := 0) rfl).c 1 _ rfl
  have n_2 := (HP5.out.blkAt (i := 0) rfl).c 2 _ rfl
  have n_3 := (HP5.out.blkAt (i := 0) rfl).c 3 _ rfl
  have n_4 := (HP5.out.blkAt (i := 0) rfl).c 4 _ rfl
  have n_5 := (HP5.out.blkAt (i := 0) rfl).c 5 _ rfl
  have a_0 := (HP5.out.blkAt (i := 1) rfl).c 0 _ rfl
  have a_1 := (HP5.out.blkAt (i := 1) rfl).c 1 _ rfl
  have a_2 := (HP5.out.blkAt (i := 1) rfl).c 2 _ rfl
  have a_3 := (HP5.out.blkAt (i := 1) rfl).c 3 _ rfl
  have a_4 := (HP5.out.blkAt (i := 1) rfl).c 4 _ rfl
  have a_5 := (HP5.out.blkAt (i := 1) rfl).c 5 _ rfl
  have a_6 := (HP5.out.blkAt (i := 1) rfl).c 6 _ rfl
  have a_7 := (HP5.out.blkAt (i := 1) rfl).c 7 _ rfl
  have a_8 := (HP5.out.blkAt (i := 1) rfl).c 8 _ rfl
  go_wp2_with fail
  have hst := HP5.out.get (i := 4) rfl
  refine (specActed_any n a W5 HS.out hst.caps.1 hst.caps.2.2 hst.nodeAt).mono ?_
  rintro e w6 ⟨m2, la2, lc2, rfl, hd, hp⟩
  rw [← HR.out] at hd hp ⊢
  have HD2 : Hid (m2.d = R.1) := hide hd
  have HP6 : Hid (Pool [] w [[blk w1.heap.size (ndCells n)], [blk (w1.heap.size + 1) (acCells a)], [blk w4.heap.size (ndK R.1 m.sa m.sc m.pa m.pc)], [], ndL n, ndL m, [orow 5 mgCells la lc R.2.1], ndL m2, [orow 5 mgCells la2 lc2 R.2.1]] w6) := hide (by
   have p1 := HP5.out.call (i := 7) rfl (rs' := ndL m2 ++ [orow 5 mgCells la2 lc2 R.2.1]) (hp.cast (by simp))
   exact p1.cast (by simp))
  clear hst hd hp HP5 n_0 n_1 n_2 n_3 n_4 n_5 a_0 a_1 a_2 a_3 a_4 a_5 a_6 a_7 a_8
  rw [ndV_of HD2.out]
  go_upto_region 6 with fail
  refine name_world9 (fun W7 hW7 => ?_)
  have HP7 : Hid (Pool [] w [[blk w1.heap.size (ndCells n)], [blk (w1.heap.size + 1) (acCells a)], [blk w4.heap.size (ndK R.1 m.sa m.sc m.pa m.pc)], [blk w6.heap.size (ndK R.1 m2.sa m2.sc m2.pa m2.pc)], ndL n, ndL m, [orow 5 mgCells la lc R.2.1], ndL m2, [orow 5 mgCells la2 lc2 R.2.1]] W7) := hide (by
   have p1 := HP6.out.newBlk (i := 3) rfl (ndK R.1 m2.sa m2.sc m2.pa m2.pc) 27
   rw [hW7]; exact p1)
  clear hW7 HP6
  have b51 := (HP7.out.blkAt (i := 2) rfl).c 1 _ rfl
  have b81 := (HP7.out.blkAt (i := 3) rfl).c 1 _ rfl
  by_cases hc1 : R.2.2 = 1
  ·have hc1' : (R.2.2 == 1) = true := by simpa using hc1
   go_wp2
   go_ret
   exact ⟨rfl, HP7.out.below⟩
  ·have hc1' : (R.2.2 == 1) = false := by simpa using hc1
   have HRB : Hid (nodeB n.d = true) := hide (act_wrong (a := a) (by rw [← HR.out]; exact hc1))
   have HAR : Hid (ActR n.d a R) := hide (by rw [HR.out]; exact act_right HRB.out a)
   have HLL : Hid (R.2.1.length ≤ 1048576) := hide (by rw [HR.out]; exact (actM_small (smN_d.1 HS.out)).2)
   have hll := HLL.out
   clear hc1
   have HF : Hid (FaS w w1.heap.size (w1.heap.size + 1) w4.heap.size w6.heap.size n a R m m2 la lc la2 lc2 W7) := hide HP7.out
   go_wp2_with fail
   clear HP7 b51 b81 hbig
   go_loopw [11] (fun i wr => ∃ (k : Nat), k ≤ R.2.1.length ∧ i = J Z (k : Int) ∧ Hid (FaS w w1.heap.size (w1.heap.size + 1) w4.heap.size w6.heap.size n a R m m2 la lc la2 lc2 wr)) (fun i wr => R.2.1.length - (intOf i).toNat)
   case atStart => exact ⟨0, Nat.zero_le _, rfl, HF⟩
   case round =>
    obtain ⟨k, hk, rfl, HF1⟩ := hrel
    by_cases hlt : k < R.2.1.length
    ·have hlt' : (k : Int) < (R.2.1.length : Int) := by omega
     have n_0 := (HF1.out.blkAt (i := 0) rfl).c 0 _ rfl
     obtain ⟨b, off, rfl, hb, c0, c1, c2, c3, c4⟩ := mg_row (HF1.out.orowAt (i := 6) rfl).rows k hlt
     obtain ⟨b', off', rfl, hb', p0, p1, p2, p3, p4⟩ := mg_row (HF1.out.orowAt (i := 8) rfl).rows k hlt
     have hfr : (R.2.1[k]).fr = n.id := HAR.out.fr _ (List.getElem_mem hlt)
     rw [hfr] at c0 p0
     go_wp2
     go_quiet (fail)
     go_wp2
     exact ⟨⟨k + 1, by omega, by go_num, hide (HF1.out.drewN _)⟩, by simp [intOf]; omega⟩
    ·have hlt' : ¬ (k : Int) < (R.2.1.length : Int) := by omega
     obtain rfl : k = R.2.1.length := by omega
     clear hk hlt hlt' HF
     have a_0 := (HF1.out.blkAt (i := 1) rfl).c 0 _ rfl
     by_cases hc0 : R.2.2 = 0
     ·by_cases hg : R.2.2 = 0 ∧ a.kind = 3
      ·clear hc0
       obtain ⟨hc0, hk3⟩ := hg
       have hc0' : (R.2.2 == 0) = true := by simp [hc0]
       have hk3' : (a.kind == 3) = true := by simp [hk3]
       have hk4 : ¬ a.kind = 4 := by omega
       have hk4' : (a.kind == 4) = false := by simp [hk4]
       have a_3 := (HF1.out.blkAt (i := 1) rfl).c 3 _ rfl
       obtain ⟨am0, am1⟩ := (act_amt HRB.out (by rw [← HR.out]; exact hc0)).1 hk3
       have HC0 : Hid (R.2.2 = 0) := hide hc0
       have HK3 : Hid (a.kind = 3) := hide hk3
       clear hc0 hk3 hk4
       go_upto_block 2 with fail
       clear a_0 a_3
       go_cut [13] from 101 to 149 (fun t wx => t = J Z (if R.2.2 = 0 ∧ a.kind = 4 ∧ a.msg.kind = 1 then takenV n.d a.msg else 0) ∧ Hid (FaS w w1.heap.size (w1.heap.size + 1) w4.heap.size w6.heap.size n a R m m2 la lc la2 lc2 wx))
       case first =>
        go_wp2_with fail
        go_loopw [13, 14] (fun t i wr => t = J Z 0 ∧ i = J Z 0 ∧ Hid (FaS w w1.heap.size (w1.heap.size + 1) w4.heap.size w6.heap.size n a R m m2 la lc la2 lc2 wr)) (fun t i wr => 0)
        case atStart => exact ⟨rfl, rfl, HF1⟩
        case round =>
         obtain ⟨rfl, rfl, HF4⟩ := hrel
         have n5 := (HF4.out.blkAt (i := 0) rfl).c 5 _ rfl
         have a0_ := (HF4.out.blkAt (i := 1) rfl).c 0 _ rfl
         by_cases hlt : 0 < n.peers.length
         ·have hlt' : (0 : Int) < (n.peers.length : Int) := by omega
          go_wp2_with fail
          go_meet
          exact ⟨by rw [if_neg (fun q => by have h3 := HK3.out; have h4 := q.2.1; omega)], HF4⟩
         ·have hlt' : ¬ (0 : Int) < (n.peers.length : Int) := by omega
          go_wp2_with fail
          go_meet
          exact ⟨by rw [if_neg (fun q => by have h3 := HK3.out; have h4 := q.2.1; omega)], HF4⟩
       case rest =>
        obtain ⟨rfl, HF2⟩ := hcut
        have hne : (R.2.2 != 0) = false := by simp [HC0.out]
        have TVv : ∃ tv : Int, tv = (if R.2.2 = 0 ∧ a.kind = 4 ∧ a.msg.kind = 1 then takenV n.d a.msg else 0) := ⟨_, rfl⟩
        obtain ⟨tv, htv⟩ := TVv
        rw [← htv]
        have HTV : Hid _ := hide htv
        have tvb : 0 ≤ tv ∧ tv ≤ 1000000000000 := by
         rw [htv]; split
         ·rename_i q; exact takenV_le ((act_amt HRB.out (by rw [← HR.out]; exact q.1)).2 q.2.1)
         ·omega
        obtain ⟨tv0, tv1⟩ := tvb
        clear htv
        have hR1 := HAR.out.right
        have hN1 := nodeR.1 HRB.out
        obtain ⟨x0, x1⟩ := hR1.has
        obtain ⟨x2, x3⟩ := hR1.spent
        obtain ⟨x4, x5⟩ := hR1.earned
        have y01 : 0 ≤ n.has ∧ n.has ≤ 10000000000000 := hN1.has
        have y23 : 0 ≤ n.spent ∧ n.spent ≤ 1000000000000 := hN1.spent
        have y45 : 0 ≤ n.earned ∧ n.earned ≤ 1000000000000 := hN1.earned
        obtain ⟨y0, y1⟩ := y01
        obtain ⟨y2, y3⟩ := y23
        obtain ⟨y4, y5⟩ := y45
        have HRT : Hid _ := hide hR1
        clear hR1 hN1
        have b50 := (HF2.out.blkAt (i := 2) rfl).c 0 _ rfl
        have b51 := (HF2.out.blkAt (i := 2) rfl).c 1 _ rfl
        have b52 := (HF2.out.blkAt (i := 2) rfl).c 2 _ rfl
        have b53 := (HF2.out.blkAt (i := 2) rfl).c 3 _ rfl
        have b54 := (HF2.out.blkAt (i := 2) rfl).c 4 _ rfl
        have b55 := (HF2.out.blkAt (i := 2) rfl).c 5 _ rfl
        go_wp2_with fail
        have hst := HF2.out.get (i := 5) rfl
        have e1 := nd_of HD.out
        have HSM : Hid (SmN m) := hide (smN_d0 HS.out (by rw [HD.out, HR.out]))
        have hok : nodeB R.1 = true := nodeR.2 HRT.out
        have hco : Calls Try.prog 9 #[.agg #[J Z R.1.id, J Z R.1.has, J Z R.1.spent, J Z R.1.earned, V m.sa R.1.seen.length m.sc, V m.pa R.1.peers.length m.pc]] wc fun e w' => e = .returned (.bool true) ∧ Below wc.heap.size wc w' := by
         have := implNodeOk_any m.id m.has m.spent m.earned m.sa m.seen m.sc m.pa m.peers m.pc wc HSM.out.1 HSM.out.2.1 HSM.out.2.2 hst.nodeAt.seen hst.nodeAt.peers
         have e9 : (⟨m.id, m.has, m.spent, m.earned, m.seen, m.peers.map Pr.d⟩ : NdD) = R.1 := HD.out
         rw [e9, hok, e1.1, e1.2.1, e1.2.2.1, e1.2.2.2.1, e1.2.2.2.2.1, e1.2.2.2.2.2] at this
         exact this
        clear hst e1 hok HSM b50 b51 b52 b53 b54 b55
        refine hco.mono ?_
        rintro e w9 ⟨rfl, hb9⟩
        have HF3 : Hid (FaS w w1.heap.size (w1.heap.size + 1) w4.heap.size w6.heap.size n a R m m2 la lc la2 lc2 w9) := hide (Pool.keep HF2.out hb9)
        clear hco hb9 HF2
        have b51 := (HF3.out.blkAt (i := 2) rfl).c 1 _ rfl
        have n1 := (HF3.out.blkAt (i := 0) rfl).c 1 _ rfl
        have b52 := (HF3.out.blkAt (i := 2) rfl).c 2 _ rfl
        have n2 := (HF3.out.blkAt (i := 0) rfl).c 2 _ rfl
        have b53 := (HF3.out.blkAt (i := 2) rfl).c 3 _ rfl
        have n3 := (HF3.out.blkAt (i := 0) rfl).c 3 _ rfl
        have hsp : n.spent ≤ R.1.spent := HAR.out.spent
        have hea : n.earned ≤ R.1.earned := HAR.out.earned
        have heq : R.1.has = n.has + R.1.earned - n.earned - (R.1.spent - n.spent) - a.amt + tv := by
         have q := HAR.out.has
         rw [← HTV.out] at q
         have q2 : R.1.has = n.has + R.1.earned - n.earned - (R.1.spent - n.spent) - (if R.2.2 = 0 ∧ a.kind = 3 then a.amt else 0) + tv := q
         rw [if_pos ⟨HC0.out, HK3.out⟩] at q2
         omega
        go_wp2
        go_ret
        exact ⟨rfl, HF3.out.below⟩
      ·skip
       have hc0' : (R.2.2 == 0) = true := by simp [hc0]
       have hk3 : ¬ a.kind = 3 := fun q => hg ⟨hc0, q⟩
       have hk3' : (a.kind == 3) = false := by simp [hk3]
       have HC0 : Hid (R.2.2 = 0) := hide hc0
       have HK3 : Hid (¬ a.kind = 3) := hide hk3
       clear hc0 hk3 hg
       go_upto_block 2 with fail
       clear a_0
       go_cut [13] from 101 to 149 (fun t wx => t = J Z (if R.2.2 = 0 ∧ a.kind = 4 ∧ a.msg.kind = 1 then takenV n.d a.msg else 0) ∧ Hid (FaS w w1.heap.size (w1.heap.size + 1) w4.heap.size w6.heap.size n a R m m2 la lc la2 lc2 wx))
       case first =>
        go_wp2_with fail
        go_loopw [13, 14] (fun t i wr => ∃ (k : Nat), k ≤ n.peers.length ∧ i = J Z (k : Int) ∧ t = J Z (if a.kind = 4 ∧ a.msg.kind = 1 then takTo n.d a.msg k else 0) ∧ Hid (FaS w w1.heap.size (w1.heap.size + 1) w4.heap.size w6.heap.size n a R m m2 la lc la2 lc2 wr)) (fun t i wr => n.peers.length - (intOf i).toNat)
        case atStart => exact ⟨0, Nat.zero_le _, rfl, by rw [takTo_zero]; simp, HF1⟩
        case round =>
         obtain ⟨k, hk, rfl, rfl, HF4⟩ := hrel
         have n5 := (HF4.out.blkAt (i := 0) rfl).c 5 _ rfl
         have a0_ := (HF4.out.blkAt (i := 1) rfl).c 0 _ rfl
         have a4_ := (HF4.out.blkAt (i := 1) rfl).c 4 _ rfl
         have a6_ := (HF4.out.blkAt (i := 1) rfl).c 6 _ rfl
         have a7_ := (HF4.out.blkAt (i := 1) rfl).c 7 _ rfl
         have a8_ := (HF4.out.blkAt (i := 1) rfl).c 8 _ rfl
         obtain ⟨t0, ht0⟩ : ∃ t0 : Int, t0 = (if a.kind = 4 ∧ a.msg.kind = 1 then takTo n.d a.msg k else 0) := ⟨_, rfl⟩
         rw [← ht0]
         have HT : Hid _ := hide ht0
         clear ht0
         by_cases hlt : k < n.peers.length
         ·have hlt' : (k : Int) < (n.peers.length : Int) := by omega
          by_cases hk4 : a.kind = 4
          ·have hk4' : (a.kind == 4) = true := by simp [hk4]
           by_cases hm1 : a.msg.kind = 1
           ·have hm1' : (a.msg.kind == 1) = true := by simp [hm1]
            have HK4 : Hid (a.kind = 4 ∧ a.msg.kind = 1) := hide ⟨hk4, hm1⟩
            clear hk4 hm1
            have hst := HF4.out.get (i := 4) rfl
            have hgt : 0 ≤ (n.peers[k]).E.got ∧ (n.peers[k]).E.got ≤ 1000000000 := by
             have q := ((nodeR.1 HRB.out).pn (n.peers[k]).d (by simp only [Nd.d]; exact List.mem_map_of_mem (List.getElem_mem hlt))).2.2
             obtain ⟨_, _, q3, _⟩ := endB_parts q
             exact q3
            obtain ⟨g0, g1⟩ := hgt
            obtain ⟨b, off, e, hb, c0, c1, c2, c3⟩ := pr_row hst.nodeAt.peers.row k hlt
            rw [e] at n5
            have HE : Hid _ := hide e
            clear hst e
            have hkd : k < n.d.peers.length := by simpa [Nd.d] using hlt
            have HDK : Hid (n.d.peers[k] = (n.peers[k]).d) := hide (by simp [Nd.d])
            by_cases hid : (n.peers[k]).id = a.msg.fr
            ·have hid' : ((n.peers[k]).id == a.msg.fr) = true := by simp [hid]
             by_cases hsq : a.msg.seq = (n.peers[k]).E.got + 1
             ·have hsq' : (a.msg.seq == (n.peers[k]).E.got + 1) = true := by simp [hsq]
              have HH : Hid (takTo n.d a.msg (k + 1) = a.msg.amt) := hide (takTo_hit hkd (by rw [HDK.out]; exact hid) (by rw [HDK.out]; exact hsq))
              clear hid hsq
              go_wp2
              go_quiet (fail)
              go_wp2
              exact ⟨⟨k + 1, by omega, by go_num, by rw [if_pos HK4.out, HH.out], hide (HF4.out.drewN _)⟩, by simp [intOf]; omega⟩
             ·have hsq' : (a.msg.seq == (n.peers[k]).E.got + 1) = false := by simp [hsq]
              have HH : Hid (takTo n.d a.msg (k + 1) = takTo n.d a.msg k) := hide (takTo_miss hkd (fun q => hsq (by have q2 := q.2; rw [HDK.out] at q2; exact q2)))
              clear hid hsq
              go_wp2
              go_quiet (fail)
              go_wp2
              exact ⟨⟨k + 1, by omega, by go_num, by rw [if_pos HK4.out, HH.out, HT.out, if_pos HK4.out], hide (HF4.out.drewN _)⟩, by simp [intOf]; omega⟩
            ·have hid' : ((n.peers[k]).id == a.msg.fr) = false := by simp [hid]
             have HH : Hid (takTo n.d a.msg (k + 1) = takTo n.d a.msg k) := hide (takTo_miss hkd (fun q => hid (by have q2 := q.1; rw [HDK.out] at q2; exact q2)))
             clear hid
             go_wp2
             go_quiet (fail)
             go_wp2
             exact ⟨⟨k + 1, by omega, by go_num, by rw [if_pos HK4.out, HH.out, HT.out, if_pos HK4.out], hide (HF4.out.drewN _)⟩, by simp [intOf]; omega⟩
           ·have hm1' : (a.msg.kind == 1) = false := by simp [hm1]
            go_wp2_with fail
            go_meet
            exact ⟨by rw [HT.out, if_neg (fun q => hm1 q.2), if_neg (fun q => hm1 q.2.2)], HF4⟩
          ·have hk4' : (a.kind == 4) = false := by simp [hk4]
           go_wp2_with fail
           go_meet
           exact ⟨by rw [HT.out, if_neg (fun q => hk4 q.1), if_neg (fun q => hk4 q.2.1)], HF4⟩
         ·have hlt' : ¬ (k : Int) < (n.peers.length : Int) := by omega
          obtain rfl : k = n.peers.length := by omega
          go_wp2_with fail
          go_meet
          exact ⟨by
           have e : n.peers.length = n.d.peers.length := by simp [Nd.d]
           rw [HT.out, e, takTo_all]
           by_cases q : a.kind = 4 ∧ a.msg.kind = 1
           ·rw [if_pos q, if_pos ⟨HC0.out, q⟩]
           ·rw [if_neg q, if_neg (fun r => q r.2)], HF4⟩
       case rest =>
        obtain ⟨rfl, HF2⟩ := hcut
        have hne : (R.2.2 != 0) = false := by simp [HC0.out]
        have TVv : ∃ tv : Int, tv = (if R.2.2 = 0 ∧ a.kind = 4 ∧ a.msg.kind = 1 then takenV n.d a.msg else 0) := ⟨_, rfl⟩
        obtain ⟨tv, htv⟩ := TVv
        rw [← htv]
        have HTV : Hid _ := hide htv
        have tvb : 0 ≤ tv ∧ tv ≤ 1000000000000 := by
         rw [htv]; split
         ·rename_i q; exact takenV_le ((act_amt HRB.out (by rw [← HR.out]; exact q.1)).2 q.2.1)
         ·omega
        obtain ⟨tv0, tv1⟩ := tvb
        clear htv
        have hR1 := HAR.out.right
        have hN1 := nodeR.1 HRB.out
        obtain ⟨x0, x1⟩ := hR1.has
        obtain ⟨x2, x3⟩ := hR1.spent
        obtain ⟨x4, x5⟩ := hR1.earned
        have y01 : 0 ≤ n.has ∧ n.has ≤ 10000000000000 := hN1.has
        have y23 : 0 ≤ n.spent ∧ n.spent ≤ 1000000000000 := hN1.spent
        have y45 : 0 ≤ n.earned ∧ n.earned ≤ 1000000000000 := hN1.earned
        obtain ⟨y0, y1⟩ := y01
        obtain ⟨y2, y3⟩ := y23
        obtain ⟨y4, y5⟩ := y45
        have HRT : Hid _ := hide hR1
        clear hR1 hN1
        have b50 := (HF2.out.blkAt (i := 2) rfl).c 0 _ rfl
        have b51 := (HF2.out.blkAt (i := 2) rfl).c 1 _ rfl
        have b52 := (HF2.out.blkAt (i := 2) rfl).c 2 _ rfl
        have b53 := (HF2.out.blkAt (i := 2) rfl).c 3 _ rfl
        have b54 := (HF2.out.blkAt (i := 2) rfl).c 4 _ rfl
        have b55 := (HF2.out.blkAt (i := 2) rfl).c 5 _ rfl
        go_wp2_with fail
        have hst := HF2.out.get (i := 5) rfl
        have e1 := nd_of HD.out
        have HSM : Hid (SmN m) := hide (smN_d0 HS.out (by rw [HD.out, HR.out]))
        have hok : nodeB R.1 = true := nodeR.2 HRT.out
        have hco : Calls Try.prog 9 #[.agg #[J Z R.1.id, J Z R.1.has, J Z R.1.spent, J Z R.1.earned, V m.sa R.1.seen.length m.sc, V m.pa R.1.peers.length m.pc]] wc fun e w' => e = .returned (.bool true) ∧ Below wc.heap.size wc w' := by
         have := implNodeOk_any m.id m.has m.spent m.earned m.sa m.seen m.sc m.pa m.peers m.pc wc HSM.out.1 HSM.out.2.1 HSM.out.2.2 hst.nodeAt.seen hst.nodeAt.peers
         have e9 : (⟨m.id, m.has, m.spent, m.earned, m.seen, m.peers.map Pr.d⟩ : NdD) = R.1 := HD.out
         rw [e9, hok, e1.1, e1.2.1, e1.2.2.1, e1.2.2.2.1, e1.2.2.2.2.1, e1.2.2.2.2.2] at this
         exact this
        clear hst e1 hok HSM b50 b51 b52 b53 b54 b55
        refine hco.mono ?_
        rintro e w9 ⟨rfl, hb9⟩
        have HF3 : Hid (FaS w w1.heap.size (w1.heap.size + 1) w4.heap.size w6.heap.size n a R m m2 la lc la2 lc2 w9) := hide (Pool.keep HF2.out hb9)
        clear hco hb9 HF2
        have b51 := (HF3.out.blkAt (i := 2) rfl).c 1 _ rfl
        have n1 := (HF3.out.blkAt (i := 0) rfl).c 1 _ rfl
        have b52 := (HF3.out.blkAt (i := 2) rfl).c 2 _ rfl
        have n2 := (HF3.out.blkAt (i := 0) rfl).c 2 _ rfl
        have b53 := (HF3.out.blkAt (i := 2) rfl).c 3 _ rfl
        have n3 := (HF3.out.blkAt (i := 0) rfl).c 3 _ rfl
        have hsp : n.spent ≤ R.1.spent := HAR.out.spent
        have hea : n.earned ≤ R.1.earned := HAR.out.earned
        have heq : R.1.has = n.has + R.1.earned - n.earned - (R.1.spent - n.spent) + tv := by
         have q := HAR.out.has
         rw [← HTV.out] at q
         have q2 : R.1.has = n.has + R.1.earned - n.earned - (R.1.spent - n.spent) - (if R.2.2 = 0 ∧ a.kind = 3 then a.amt else 0) + tv := q
         rw [if_neg (fun r => HK3.out r.2)] at q2
         omega
        go_wp2
        go_ret
        exact ⟨rfl, HF3.out.below⟩
     ·have hg := trivial
      have hc0' : (R.2.2 == 0) = false := by simp [hc0]
      have HC0 : Hid (¬ R.2.2 = 0) := hide hc0
      clear hc0 hg
      go_upto_block 2 with fail
      clear a_0
      go_cut [13] from 101 to 149 (fun t wx => t = J Z (if R.2.2 = 0 ∧ a.kind = 4 ∧ a.msg.kind = 1 then takenV n.d a.msg else 0) ∧ Hid (FaS w w1.heap.size (w1.heap.size + 1) w4.heap.size w6.heap.size n a R m m2 la lc la2 lc2 wx))
      case first =>
       go_wp2_with fail
       go_loopw [13, 14] (fun t i wr => t = J Z 0 ∧ i = J Z 0 ∧ Hid (FaS w w1.heap.size (w1.heap.size + 1) w4.heap.size w6.heap.size n a R m m2 la lc la2 lc2 wr)) (fun t i wr => 0)
       case atStart => exact ⟨rfl, rfl, HF1⟩
       case round =>
        obtain ⟨rfl, rfl, HF4⟩ := hrel
        have n5 := (HF4.out.blkAt (i := 0) rfl).c 5 _ rfl
        have a0_ := (HF4.out.blkAt (i := 1) rfl).c 0 _ rfl
        by_cases hlt : 0 < n.peers.length
        ·have hlt' : (0 : Int) < (n.peers.length : Int) := by omega
         go_wp2_with fail
         go_meet
         exact ⟨by rw [if_neg (fun q => HC0.out q.1)], HF4⟩
        ·have hlt' : ¬ (0 : Int) < (n.peers.length : Int) := by omega
         go_wp2_with fail
         go_meet
         exact ⟨by rw [if_neg (fun q => HC0.out q.1)], HF4⟩
      case rest =>
       obtain ⟨rfl, HF2⟩ := hcut
       have hnil : R.2.1.length = 0 := by rw [HAR.out.none HC0.out]; rfl
       have hne : (R.2.2 != 0) = true := by simp [HC0.out]
       have TVv : ∃ tv : Int, tv = (if R.2.2 = 0 ∧ a.kind = 4 ∧ a.msg.kind = 1 then takenV n.d a.msg else 0) := ⟨_, rfl⟩
       obtain ⟨tv, htv⟩ := TVv
       rw [← htv]
       have HTV : Hid _ := hide htv
       have tvb : 0 ≤ tv ∧ tv ≤ 1000000000000 := by
        rw [htv]; split
        ·rename_i q; exact takenV_le ((act_amt HRB.out (by rw [← HR.out]; exact q.1)).2 q.2.1)
        ·omega
       obtain ⟨tv0, tv1⟩ := tvb
       clear htv
       have hR1 := HAR.out.right
       have hN1 := nodeR.1 HRB.out
       obtain ⟨x0, x1⟩ := hR1.has
       obtain ⟨x2, x3⟩ := hR1.spent
       obtain ⟨x4, x5⟩ := hR1.earned
       have y01 : 0 ≤ n.has ∧ n.has ≤ 10000000000000 := hN1.has
       have y23 : 0 ≤ n.spent ∧ n.spent ≤ 1000000000000 := hN1.spent
       have y45 : 0 ≤ n.earned ∧ n.earned ≤ 1000000000000 := hN1.earned
       obtain ⟨y0, y1⟩ := y01
       obtain ⟨y2, y3⟩ := y23
       obtain ⟨y4, y5⟩ := y45
       have HRT : Hid _ := hide hR1
       clear hR1 hN1
       have b50 := (HF2.out.blkAt (i := 2) rfl).c 0 _ rfl
       have b51 := (HF2.out.blkAt (i := 2) rfl).c 1 _ rfl
       have b52 := (HF2.out.blkAt (i := 2) rfl).c 2 _ rfl
       have b53 := (HF2.out.blkAt (i := 2) rfl).c 3 _ rfl
       have b54 := (HF2.out.blkAt (i := 2) rfl).c 4 _ rfl
       have b55 := (HF2.out.blkAt (i := 2) rfl).c 5 _ rfl
       go_wp2_with fail
       have hst := HF2.out.get (i := 5) rfl
       have e1 := nd_of HD.out
       have HSM : Hid (SmN m) := hide (smN_d0 HS.out (by rw [HD.out, HR.out]))
       have hok : nodeB R.1 = true := nodeR.2 HRT.out
       have hco : Calls Try.prog 9 #[.agg #[J Z R.1.id, J Z R.1.has, J Z R.1.spent, J Z R.1.earned, V m.sa R.1.seen.length m.sc, V m.pa R.1.peers.length m.pc]] wc fun e w' => e = .returned (.bool true) ∧ Below wc.heap.size wc w' := by
        have := implNodeOk_any m.id m.has m.spent m.earned m.sa m.seen m.sc m.pa m.peers m.pc wc HSM.out.1 HSM.out.2.1 HSM.out.2.2 hst.nodeAt.seen hst.nodeAt.peers
        have e9 : (⟨m.id, m.has, m.spent, m.earned, m.seen, m.peers.map Pr.d⟩ : NdD) = R.1 := HD.out
        rw [e9, hok, e1.1, e1.2.1, e1.2.2.1, e1.2.2.2.1, e1.2.2.2.2.1, e1.2.2.2.2.2] at this
        exact this
       clear hst e1 hok HSM b50 b51 b52 b53 b54 b55
       refine hco.mono ?_
       rintro e w9 ⟨rfl, hb9⟩
       have HF3 : Hid (FaS w w1.heap.size (w1.heap.size + 1) w4.heap.size w6.heap.size n a R m m2 la lc la2 lc2 w9) := hide (Pool.keep HF2.out hb9)
       clear hco hb9 HF2
       have b51 := (HF3.out.blkAt (i := 2) rfl).c 1 _ rfl
       have n1 := (HF3.out.blkAt (i := 0) rfl).c 1 _ rfl
       have b52 := (HF3.out.blkAt (i := 2) rfl).c 2 _ rfl
       have n2 := (HF3.out.blkAt (i := 0) rfl).c 2 _ rfl
       have b53 := (HF3.out.blkAt (i := 2) rfl).c 3 _ rfl
       have n3 := (HF3.out.blkAt (i := 0) rfl).c 3 _ rfl
       have hsp : n.spent ≤ R.1.spent := HAR.out.spent
       have hea : n.earned ≤ R.1.earned := HAR.out.earned
       have heq : R.1.has = n.has + R.1.earned - n.earned - (R.1.spent - n.spent) + tv := by
        have q := HAR.out.has
        rw [← HTV.out] at q
        have q2 : R.1.has = n.has + R.1.earned - n.earned - (R.1.spent - n.spent) - (if R.2.2 = 0 ∧ a.kind = 3 then a.amt else 0) + tv := q
        rw [if_neg (fun r => HC0.out r.1)] at q2
        omega
       go_wp2
       go_ret
       exact ⟨rfl, HF3.out.below⟩
end Go.Proofs.Ytkcpoibhlnjldaa
