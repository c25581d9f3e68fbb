/- The contract of the model's l6Money. -/
import Derived.Test.YtkcpoibhlnjldaaBb
namespace Go.Proofs.Ytkcpoibhlnjldaa
open Go.Value renaming int → J, slice → V
open Go.IntKind renaming i64 → Z
open Go.ChangeShapes Go.WideShapes Go.ChangeAt Go.RowKit
set_option linter.unusedVariables false
set_option maxRecDepth 100000
def acCells (a : Ac) : List Value := [J Z a.kind, J Z a.id, J Z a.to, J Z a.amt, J Z a.msg.fr, J Z a.msg.to, J Z a.msg.kind, J Z a.msg.seq, J Z a.msg.amt]
def MoneyEnd (n : Nd) (a : Ac) (w : World) (e : Ending) (w' : World) : Prop := ∃ n' : Nd, e = .returned (.tuple #[ndV n', J Z (moneyM n.d a).2]) ∧ n'.d = (moneyM n.d a).1 ∧ Pool (fps (ndL n)) w [ndL n'] w'
/-- what a node has, in its bounds -/
def InN (n : Nd) : Prop := (0 ≤ n.has ∧ n.has ≤ 10000000000000) ∧ (0 ≤ n.spent ∧ n.spent ≤ 1000000000000) ∧ (0 ≤ n.earned ∧ n.earned ≤ 1000000000000)
theorem Star.sl {n : Nd} {w : World} (h : Star (ndL n) w) : OwnRow 2 snCells w (gOf n.sa) n.sa n.sc n.seen := h.all (orow 2 snCells n.sa n.sc n.seen) (by simp [ndL])
theorem Star.pl {n : Nd} {w : World} (h : Star (ndL n) w) : OwnRow 4 prCells w (gOf n.pa) n.pa n.pc n.peers := h.all (orow 4 prCells n.pa n.pc n.peers) (by simp [ndL])
theorem name_post {P : Program} {f : Func} {Q : Ending → World → Prop} {e : Exit} {a : Act} {w : World} (h : ∀ W, W = w → bodyPost P f Q e a W) : bodyPost P f Q e a w := h w rfl
set_option maxHeartbeats 4000000 in
theorem money_seen (n : Nd) (kd aid ato amt : Int) (m : Mg) (w : World) (hs : n.seen.length ≤ 1048576) (hn : Near n.sa) (h : Star (ndL n) w) (hr : InN n) (ha : 1 ≤ amt ∧ amt ≤ 1000000000000) (q : 0 ≤ seenV n.seen aid) :
  Calls Try.prog 20 #[.agg #[J Z n.id, J Z n.has, J Z n.spent, J Z n.earned, V n.sa n.seen.length n.sc, V n.pa n.peers.length n.pc], .agg #[J Z kd, J Z aid, J Z ato, J Z amt, J Z m.fr, J Z m.to, J Z m.kind, J Z m.seq, J Z m.amt]] w fun e w' => MoneyEnd n (⟨kd, aid, ato, amt, m⟩ : Ac) w e w' := by
 obtain ⟨⟨r1, r2⟩, ⟨r3, r4⟩, ⟨r5, r6⟩⟩ := hr
 obtain ⟨a1, a2⟩ := ha
 have HN : Hid _ := hide hn
 have HS : Hid _ := hide h
 obtain ⟨W, hW⟩ : ∃ W, W = ((w.alloc (.cells (ndCells n).toArray 27)).alloc (.cells (acCells ⟨kd, aid, ato, amt, m⟩).toArray 31)).alloc (.cells #[J Z 0, J Z 0, J Z 0, J Z 0, V none 0 0, V none 0 0] 27) := ⟨_, rfl⟩
 have s1 : (w.alloc (.cells (ndCells n).toArray 27)).heap.size = w.heap.size + 1 := by simp
 have s2 : ((w.alloc (.cells (ndCells n).toArray 27)).alloc (.cells (acCells ⟨kd, aid, ato, amt, m⟩).toArray 31)).heap.size = w.heap.size + 1 + 1 := by simp
 have hP : Pool (fps (ndL n)) w [[orow 2 snCells n.sa n.sc n.seen], orow 4 prCells n.pa n.pc n.peers :: endsL n.peers, [blk w.heap.size [J Z n.id, J Z n.has, J Z n.spent, J Z n.earned, V n.sa n.seen.length n.sc, V n.pa n.peers.length n.pc]], [blk (w.heap.size + 1) [J Z kd, J Z aid, J Z ato, J Z amt, J Z m.fr, J Z m.to, J Z m.kind, J Z m.seq, J Z m.amt]], [blk (w.heap.size + 1 + 1) [J Z 0, J Z 0, J Z 0, J Z 0, V none 0 0, V none 0 0]]] W := by
  rw [hW, ← s2, ← s1]
  exact ((((Pool.of h).cast (S' := [[orow 2 snCells n.sa n.sc n.seen], orow 4 prCells n.pa n.pc n.peers :: endsL n.peers, [], [], []]) (by simp [ndL])).newBlk (i := 2) rfl (ndCells n) 27).newBlk (i := 3) rfl (acCells ⟨kd, aid, ato, amt, m⟩) 31).newBlk (i := 4) rfl [J Z 0, J Z 0, J Z 0, J Z 0, V none 0 0, V none 0 0] 27
 have HW : Hid (((w.alloc (.cells #[J Z n.id, J Z n.has, J Z n.spent, J Z n.earned, V n.sa n.seen.length n.sc, V n.pa n.peers.length n.pc] 27)).alloc (.cells #[J Z kd, J Z aid, J Z ato, J Z amt, J Z m.fr, J Z m.to, J Z m.kind, J Z m.seq, J Z m.amt] 31)).alloc (.cells #[J Z 0, J Z 0, J Z 0, J Z 0, V none 0 0, V none 0 0] 27) = W) := hide hW.symm
 clear hW s1 s2 h hn
 have HM : Hid (moneyM n.d (⟨kd, aid, ato, amt, m⟩ : Ac) = (n.d, seenV n.seen aid)) := hide (by have q2 : 0 ≤ seenV n.d.seen aid := q; unfold moneyM; rw [if_pos q2]; rfl)
 have HP : Hid _ := hide hP
 have n_ := hP.blkAt (i := 2) rfl
 have a_ := hP.blkAt (i := 3) rfl
 have z_ := hP.blkAt (i := 4) rfl
 have c0 := n_.c 0 _ rfl
 have c1 := n_.c 1 _ rfl
 have c2 := n_.c 2 _ rfl
 have c3 := n_.c 3 _ rfl
 have c4 := n_.c 4 _ rfl
 have c5 := n_.c 5 _ rfl
 have d0 := a_.c 0 _ rfl
 have d1 := a_.c 1 _ rfl
 have d3 := a_.c 3 _ rfl
 have e0 := z_.c 0 _ rfl
 have f0 := z_.f 0
 have e1 := z_.c 1 _ rfl
 have f1 := z_.f 1
 have e2 := z_.c 2 _ rfl
 have f2 := z_.f 2
 have e3 := z_.c 3 _ rfl
 have f3 := z_.f 3
 have e4 := z_.c 4 _ rfl
 have f4 := z_.f 4
 have e5 := z_.c 5 _ rfl
 have f5 := z_.f 5
 have g1 := n_.f 1
 have g2 := n_.f 2
 have g3 := n_.f 3
 have g4 := n_.f 4
 clear hP n_ a_ z_
 go_enter Try.func20, Try.ntmps20
 go_wp2_with (first | (go_at_call 51; fail) | fail)
 rw [HW.out]
 have hrow : RowAt 2 snCells W n.sa n.seen := (HP.out.orowAt (i := 0) rfl).rows
 refine (l2Seen_any n.sa n.seen n.sc aid W hs hrow).mono ?_
 rintro e w1 ⟨rfl, hw1⟩
 rw [hw1]
 clear hrow hw1
 have HQ : Hid _ := hide (HP.out.set6 (i := 4) rfl (J Z n.id) (J Z n.has) (J Z n.spent) (J Z n.earned) (V n.sa n.seen.length n.sc) (V n.pa n.peers.length n.pc))
 go_wp2
 refine name_post (fun W9 hW9 => ?_)
 have hq := HQ.out
 rw [← hW9] at hq
 have z_ := hq.blkAt (i := 4) rfl
 have g0_ := z_.c 0 _ rfl
 have g1_ := z_.c 1 _ rfl
 have g2_ := z_.c 2 _ rfl
 have g3_ := z_.c 3 _ rfl
 have g4_ := z_.c 4 _ rfl
 have g5_ := z_.c 5 _ rfl
 exact bodyPost_ret (v := .tuple #[ndV n, J Z (seenV n.seen aid)]) (by simp [results, Try.results20, go_sem, g0_, g1_, g2_, g3_, g4_, g5_, ndV]) rfl ⟨n, (by rw [HM.out]), (by rw [HM.out] <;> rfl), (((hq.drop (i := 4) rfl).drop (i := 3) rfl).drop (i := 2) rfl).cast (by simp [ndL])⟩
set_option maxHeartbeats 4000000 in
theorem money_full (n : Nd) (kd aid ato amt : Int) (m : Mg) (w : World) (hs : n.seen.length ≤ 1048576) (hn : Near n.sa) (h : Star (ndL n) w) (hr : InN n) (ha : 1 ≤ amt ∧ amt ≤ 1000000000000) (q : ¬ 0 ≤ seenV n.seen aid) (q1 : n.seen.length = 40) :
  Calls Try.prog 20 #[.agg #[J Z n.id, J Z n.has, J Z n.spent, J Z n.earned, V n.sa n.seen.length n.sc, V n.pa n.peers.length n.pc], .agg #[J Z kd, J Z aid, J Z ato, J Z amt, J Z m.fr, J Z m.to, J Z m.kind, J Z m.seq, J Z m.amt]] w fun e w' => MoneyEnd n (⟨kd, aid, ato, amt, m⟩ : Ac) w e w' := by
 obtain ⟨⟨r1, r2⟩, ⟨r3, r4⟩, ⟨r5, r6⟩⟩ := hr
 obtain ⟨a1, a2⟩ := ha
 have HN : Hid _ := hide hn
 have HS : Hid _ := hide h
 obtain ⟨W, hW⟩ : ∃ W, W = ((w.alloc (.cells (ndCells n).toArray 27)).alloc (.cells (acCells ⟨kd, aid, ato, amt, m⟩).toArray 31)).alloc (.cells #[J Z 0, J Z 0, J Z 0, J Z 0, V none 0 0, V none 0 0] 27) := ⟨_, rfl⟩
 have s1 : (w.alloc (.cells (ndCells n).toArray 27)).heap.size = w.heap.size + 1 := by simp
 have s2 : ((w.alloc (.cells (ndCells n).toArray 27)).alloc (.cells (acCells ⟨kd, aid, ato, amt, m⟩).toArray 31)).heap.size = w.heap.size + 1 + 1 := by simp
 have hP : Pool (fps (ndL n)) w [[orow 2 snCells n.sa n.sc n.seen], orow 4 prCells n.pa n.pc n.peers :: endsL n.peers, [blk w.heap.size [J Z n.id, J Z n.has, J Z n.spent, J Z n.earned, V n.sa n.seen.length n.sc, V n.pa n.peers.length n.pc]], [blk (w.heap.size + 1) [J Z kd, J Z aid, J Z ato, J Z amt, J Z m.fr, J Z m.to, J Z m.kind, J Z m.seq, J Z m.amt]], [blk (w.heap.size + 1 + 1) [J Z 0, J Z 0, J Z 0, J Z 0, V none 0 0, V none 0 0]]] W := by
  rw [hW, ← s2, ← s1]
  exact ((((Pool.of h).cast (S' := [[orow 2 snCells n.sa n.sc n.seen], orow 4 prCells n.pa n.pc n.peers :: endsL n.peers, [], [], []]) (by simp [ndL])).newBlk (i := 2) rfl (ndCells n) 27).newBlk (i := 3) rfl (acCells ⟨kd, aid, ato, amt, m⟩) 31).newBlk (i := 4) rfl [J Z 0, J Z 0, J Z 0, J Z 0, V none 0 0, V none 0 0] 27
 have HW : Hid (((w.alloc (.cells #[J Z n.id, J Z n.has, J Z n.spent, J Z n.earned, V n.sa n.seen.length n.sc, V n.pa n.peers.length n.pc] 27)).alloc (.cells #[J Z kd, J Z aid, J Z ato, J Z amt, J Z m.fr, J Z m.to, J Z m.kind, J Z m.seq, J Z m.amt] 31)).alloc (.cells #[J Z 0, J Z 0, J Z 0, J Z 0, V none 0 0, V none 0 0] 27) = W) := hide hW.symm
 clear hW s1 s2 h hn
 have HM : Hid (moneyM n.d (⟨kd, aid, ato, amt, m⟩ : Ac) = (n.d, 5)) := hide (by have q2 : ¬ 0 ≤ seenV n.d.seen aid := q; have q3 : n.d.seen.length = 40 := q1; unfold moneyM; rw [if_neg q2, if_pos q3])
 have q1i : ((n.seen.length : Int) == 40) = true := by simp; omega
 clear q1
 have HP : Hid _ := hide hP
 have n_ := hP.blkAt (i := 2) rfl
 have a_ := hP.blkAt (i := 3) rfl
 have z_ := hP.blkAt (i := 4) rfl
 have c0 := n_.c 0 _ rfl
 have c1 := n_.c 1 _ rfl
 have c2 := n_.c 2 _ rfl
 have c3 := n_.c 3 _ rfl
 have c4 := n_.c 4 _ rfl
 have c5 := n_.c 5 _ rfl
 have d0 := a_.c 0 _ rfl
 have d1 := a_.c 1 _ rfl
 have d3 := a_.c 3 _ rfl
 have e0 := z_.c 0 _ rfl
 have f0 := z_.f 0
 have e1 := z_.c 1 _ rfl
 have f1 := z_.f 1
 have e2 := z_.c 2 _ rfl
 have f2 := z_.f 2
 have e3 := z_.c 3 _ rfl
 have f3 := z_.f 3
 have e4 := z_.c 4 _ rfl
 have f4 := z_.f 4
 have e5 := z_.c 5 _ rfl
 have f5 := z_.f 5
 have g1 := n_.f 1
 have g2 := n_.f 2
 have g3 := n_.f 3
 have g4 := n_.f 4
 clear hP n_ a_ z_
 go_enter Try.func20, Try.ntmps20
 go_wp2_with (first | (go_at_call 51; fail) | fail)
 rw [HW.out]
 have hrow : RowAt 2 snCells W n.sa n.seen := (HP.out.orowAt (i := 0) rfl).rows
 refine (l2Seen_any n.sa n.seen n.sc aid W hs hrow).mono ?_
 rintro e w1 ⟨rfl, hw1⟩
 rw [hw1]
 clear hrow hw1
 have HQ : Hid _ := hide (HP.out.set6 (i := 4) rfl (J Z n.id) (J Z n.has) (J Z n.spent) (J Z n.earned) (V n.sa n.seen.length n.sc) (V n.pa n.peers.length n.pc))
 go_wp2
 refine name_post (fun W9 hW9 => ?_)
 have hq := HQ.out
 rw [← hW9] at hq
 have z_ := hq.blkAt (i := 4) rfl
 have g0_ := z_.c 0 _ rfl
 have g1_ := z_.c 1 _ rfl
 have g2_ := z_.c 2 _ rfl
 have g3_ := z_.c 3 _ rfl
 have g4_ := z_.c 4 _ rfl
 have g5_ := z_.c 5 _ rfl
 exact bodyPost_ret (v := .tuple #[ndV n, J Z (5)]) (by simp [results, Try.results20, go_sem, g0_, g1_, g2_, g3_, g4_, g5_, ndV]) rfl ⟨n, (by rw [HM.out]), (by rw [HM.out] <;> rfl), (((hq.drop (i := 4) rfl).drop (i := 3) rfl).drop (i := 2) rfl).cast (by simp [ndL])⟩
set_option maxHeartbeats 4000000 in
theorem money_s4 (n : Nd) ( aid ato amt : Int) (m : Mg) (w : World) (hs : n.seen.length ≤ 1048576) (hn : Near n.sa) (h : Star (ndL n) w) (hr : InN n) (ha : 1 ≤ amt ∧ amt ≤ 1000000000000) (q : ¬ 0 ≤ seenV n.seen aid) (q1 : ¬ n.seen.length = 40) (q4 : n.has < amt) :
  Calls Try.prog 20 #[.agg #[J Z n.id, J Z n.has, J Z n.spent, J Z n.earned, V n.sa n.seen.length n.sc, V n.pa n.peers.length n.pc], .agg #[J Z 1, J Z aid, J Z ato, J Z amt, J Z m.fr, J Z m.to, J Z m.kind, J Z m.seq, J Z m.amt]] w fun e w' => MoneyEnd n (⟨1, aid, ato, amt, m⟩ : Ac) w e w' := by
 obtain ⟨⟨r1, r2⟩, ⟨r3, r4⟩, ⟨r5, r6⟩⟩ := hr
 obtain ⟨a1, a2⟩ := ha
 have HN : Hid _ := hide hn
 have HS : Hid _ := hide h
 obtain ⟨W, hW⟩ : ∃ W, W = ((w.alloc (.cells (ndCells n).toArray 27)).alloc (.cells (acCells ⟨1, aid, ato, amt, m⟩).toArray 31)).alloc (.cells #[J Z 0, J Z 0, J Z 0, J Z 0, V none 0 0, V none 0 0] 27) := ⟨_, rfl⟩
 have s1 : (w.alloc (.cells (ndCells n).toArray 27)).heap.size = w.heap.size + 1 := by simp
 have s2 : ((w.alloc (.cells (ndCells n).toArray 27)).alloc (.cells (acCells ⟨1, aid, ato, amt, m⟩).toArray 31)).heap.size = w.heap.size + 1 + 1 := by simp
 have hP : Pool (fps (ndL n)) w [[orow 2 snCells n.sa n.sc n.seen], orow 4 prCells n.pa n.pc n.peers :: endsL n.peers, [blk w.heap.size [J Z n.id, J Z n.has, J Z n.spent, J Z n.earned, V n.sa n.seen.length n.sc, V n.pa n.peers.length n.pc]], [blk (w.heap.size + 1) [J Z 1, J Z aid, J Z ato, J Z amt, J Z m.fr, J Z m.to, J Z m.kind, J Z m.seq, J Z m.amt]], [blk (w.heap.size + 1 + 1) [J Z 0, J Z 0, J Z 0, J Z 0, V none 0 0, V none 0 0]]] W := by
  rw [hW, ← s2, ← s1]
  exact ((((Pool.of h).cast (S' := [[orow 2 snCells n.sa n.sc n.seen], orow 4 prCells n.pa n.pc n.peers :: endsL n.peers, [], [], []]) (by simp [ndL])).newBlk (i := 2) rfl (ndCells n) 27).newBlk (i := 3) rfl (acCells ⟨1, aid, ato, amt, m⟩) 31).newBlk (i := 4) rfl [J Z 0, J Z 0, J Z 0, J Z 0, V none 0 0, V none 0 0] 27
 have HW : Hid (((w.alloc (.cells #[J Z n.id, J Z n.has, J Z n.spent, J Z n.earned, V n.sa n.seen.length n.sc, V n.pa n.peers.length n.pc] 27)).alloc (.cells #[J Z 1, J Z aid, J Z ato, J Z amt, J Z m.fr, J Z m.to, J Z m.kind, J Z m.seq, J Z m.amt] 31)).alloc (.cells #[J Z 0, J Z 0, J Z 0, J Z 0, V none 0 0, V none 0 0] 27) = W) := hide hW.symm
 clear hW s1 s2 h hn
 have HM : Hid (moneyM n.d (⟨1, aid, ato, amt, m⟩ : Ac) = (⟨n.id, n.has, n.spent, n.earned, seeL n.seen aid 4, n.peers.map Pr.d⟩, 4)) := hide (by
  have q2 : ¬ 0 ≤ seenV n.d.seen aid := q
  have q3 : ¬ n.d.seen.length = 40 := q1
  unfold moneyM
  rw [if_neg q2, if_neg q3]
  rw [if_pos rfl]; simp [Nd.d, spendM, q4])
 have q1i : ((n.seen.length : Int) == 40) = false := by simp; omega
 have HP : Hid _ := hide hP
 have n_ := hP.blkAt (i := 2) rfl
 have a_ := hP.blkAt (i := 3) rfl
 have z_ := hP.blkAt (i := 4) rfl
 have c0 := n_.c 0 _ rfl
 have c1 := n_.c 1 _ rfl
 have c2 := n_.c 2 _ rfl
 have c3 := n_.c 3 _ rfl
 have c4 := n_.c 4 _ rfl
 have c5 := n_.c 5 _ rfl
 have d0 := a_.c 0 _ rfl
 have d1 := a_.c 1 _ rfl
 have d3 := a_.c 3 _ rfl
 have e0 := z_.c 0 _ rfl
 have f0 := z_.f 0
 have e1 := z_.c 1 _ rfl
 have f1 := z_.f 1
 have e2 := z_.c 2 _ rfl
 have f2 := z_.f 2
 have e3 := z_.c 3 _ rfl
 have f3 := z_.f 3
 have e4 := z_.c 4 _ rfl
 have f4 := z_.f 4
 have e5 := z_.c 5 _ rfl
 have f5 := z_.f 5
 have g1 := n_.f 1
 have g2 := n_.f 2
 have g3 := n_.f 3
 have g4 := n_.f 4
 clear hP n_ a_ z_
 go_enter Try.func20, Try.ntmps20
 go_wp2_with (first | (go_at_call 51; fail) | fail)
 rw [HW.out]
 have hrow : RowAt 2 snCells W n.sa n.seen := (HP.out.orowAt (i := 0) rfl).rows
 refine (l2Seen_any n.sa n.seen n.sc aid W hs hrow).mono ?_
 rintro e w1 ⟨rfl, hw1⟩
 rw [hw1]
 clear hrow hw1
 have HP3 : Hid (Pool (fps (ndL n)) w [[orow 2 snCells n.sa n.sc n.seen], orow 4 prCells n.pa n.pc n.peers :: endsL n.peers, [blk w.heap.size [J Z n.id, J Z (n.has), J Z (n.spent), J Z (n.earned), V n.sa n.seen.length n.sc, V n.pa n.peers.length n.pc]], [blk (w.heap.size + 1) [J Z 1, J Z aid, J Z ato, J Z amt, J Z m.fr, J Z m.to, J Z m.kind, J Z m.seq, J Z m.amt]], [blk (w.heap.size + 1 + 1) [J Z 0, J Z 0, J Z 0, J Z 0, V none 0 0, V none 0 0]]] W) := hide HP.out
 go_wp2_with fail
 refine (l2See_own (gOf n.sa) n.sa n.seen n.sc aid 4 _ hs (HP3.out.orowAt (i := 0) rfl) HN.out).mono ?_
 rintro e w2 ⟨hb2, v, rfl, ho2⟩
 rw [← see_len n.seen aid 4] at ho2
 have st2 := Star.ofRow ho2
 have hP4 := ((HP3.out.drop (i := 0) rfl).new (i := 0) rfl hb2 st2 (fun c hc => by
  rw [fps_one, row_fp, Option.mem_toList] at hc
  exact (ho2.lt c hc).1))
 obtain ⟨sa2, sc2, rfl, HP5⟩ := hP4.asOrow snLen (i := 0) (l := seeL n.seen aid 4) rfl
 have HP6 := HP5.setBlk (i := 2) rfl 4 (V sa2 (seeL n.seen aid 4).length sc2) (by simp)
 have n_ := HP5.blkAt (i := 2) rfl
 have f4 := n_.f 4
 have c4 := n_.c 4 _ rfl
 have x_ := HP6.blkAt (i := 2) rfl
 have y_ := HP6.blkAt (i := 4) rfl
 have x0 := x_.c 0 _ rfl
 have y0 := y_.c 0 _ rfl
 have w0_ := y_.f 0
 have x1 := x_.c 1 _ rfl
 have y1 := y_.c 1 _ rfl
 have w1_ := y_.f 1
 have x2 := x_.c 2 _ rfl
 have y2 := y_.c 2 _ rfl
 have w2_ := y_.f 2
 have x3 := x_.c 3 _ rfl
 have y3 := y_.c 3 _ rfl
 have w3_ := y_.f 3
 have x4 := x_.c 4 _ rfl
 have y4 := y_.c 4 _ rfl
 have w4_ := y_.f 4
 have x5 := x_.c 5 _ rfl
 have y5 := y_.c 5 _ rfl
 have w5_ := y_.f 5
 have HQ : Hid _ := hide (HP6.set6 (i := 4) rfl (J Z n.id) (J Z (n.has)) (J Z (n.spent)) (J Z (n.earned)) (V sa2 (seeL n.seen aid 4).length sc2) (V n.pa n.peers.length n.pc))
 clear st2 hP4 HP5 HP6 hb2 ho2 n_ x_ y_
 go_wp2
 refine name_post (fun W9 hW9 => ?_)
 have hq := HQ.out
 rw [← hW9] at hq
 have z_ := hq.blkAt (i := 4) rfl
 have g0_ := z_.c 0 _ rfl
 have g1_ := z_.c 1 _ rfl
 have g2_ := z_.c 2 _ rfl
 have g3_ := z_.c 3 _ rfl
 have g4_ := z_.c 4 _ rfl
 have g5_ := z_.c 5 _ rfl
 exact bodyPost_ret (v := .tuple #[ndV ⟨n.id, n.has, n.spent, n.earned, sa2, sc2, seeL n.seen aid 4, n.pa, n.pc, n.peers⟩, J Z (4)]) (by simp [results, Try.results20, go_sem, g0_, g1_, g2_, g3_, g4_, g5_, ndV]) rfl ⟨⟨n.id, n.has, n.spent, n.earned, sa2, sc2, seeL n.seen aid 4, n.pa, n.pc, n.peers⟩, (by rw [HM.out]), (by rw [HM.out] <;> rfl), (((hq.drop (i := 4) rfl).drop (i := 3) rfl).drop (i := 2) rfl).cast (by simp [ndL])⟩
set_option maxHeartbeats 4000000 in
theorem money_s6 (n : Nd) ( aid ato amt : Int) (m : Mg) (w : World) (hs : n.seen.length ≤ 1048576) (hn : Near n.sa) (h : Star (ndL n) w) (hr : InN n) (ha : 1 ≤ amt ∧ amt ≤ 1000000000000) (q : ¬ 0 ≤ seenV n.seen aid) (q1 : ¬ n.seen.length = 40) (q4 : ¬ n.has < amt) (q5 : 1000000000000 < n.spent + amt) :
  Calls Try.prog 20 #[.agg #[J Z n.id, J Z n.has, J Z n.spent, J Z n.earned, V n.sa n.seen.length n.sc, V n.pa n.peers.length n.pc], .agg #[J Z 1, J Z aid, J Z ato, J Z amt, J Z m.fr, J Z m.to, J Z m.kind, J Z m.seq, J Z m.amt]] w fun e w' => MoneyEnd n (⟨1, aid, ato, amt, m⟩ : Ac) w e w' := by
 obtain ⟨⟨r1, r2⟩, ⟨r3, r4⟩, ⟨r5, r6⟩⟩ := hr
 obtain ⟨a1, a2⟩ := ha
 have HN : Hid _ := hide hn
 have HS : Hid _ := hide h
 obtain ⟨W, hW⟩ : ∃ W, W = ((w.alloc (.cells (ndCells n).toArray 27)).alloc (.cells (acCells ⟨1, aid, ato, amt, m⟩).toArray 31)).alloc (.cells #[J Z 0, J Z 0, J Z 0, J Z 0, V none 0 0, V none 0 0] 27) := ⟨_, rfl⟩
 have s1 : (w.alloc (.cells (ndCells n).toArray 27)).heap.size = w.heap.size + 1 := by simp
 have s2 : ((w.alloc (.cells (ndCells n).toArray 27)).alloc (.cells (acCells ⟨1, aid, ato, amt, m⟩).toArray 31)).heap.size = w.heap.size + 1 + 1 := by simp
 have hP : Pool (fps (ndL n)) w [[orow 2 snCells n.sa n.sc n.seen], orow 4 prCells n.pa n.pc n.peers :: endsL n.peers, [blk w.heap.size [J Z n.id, J Z n.has, J Z n.spent, J Z n.earned, V n.sa n.seen.length n.sc, V n.pa n.peers.length n.pc]], [blk (w.heap.size + 1) [J Z 1, J Z aid, J Z ato, J Z amt, J Z m.fr, J Z m.to, J Z m.kind, J Z m.seq, J Z m.amt]], [blk (w.heap.size + 1 + 1) [J Z 0, J Z 0, J Z 0, J Z 0, V none 0 0, V none 0 0]]] W := by
  rw [hW, ← s2, ← s1]
  exact ((((Pool.of h).cast (S' := [[orow 2 snCells n.sa n.sc n.seen], orow 4 prCells n.pa n.pc n.peers :: endsL n.peers, [], [], []]) (by simp [ndL])).newBlk (i := 2) rfl (ndCells n) 27).newBlk (i := 3) rfl (acCells ⟨1, aid, ato, amt, m⟩) 31).newBlk (i := 4) rfl [J Z 0, J Z 0, J Z 0, J Z 0, V none 0 0, V none 0 0] 27
 have HW : Hid (((w.alloc (.cells #[J Z n.id, J Z n.has, J Z n.spent, J Z n.earned, V n.sa n.seen.length n.sc, V n.pa n.peers.length n.pc] 27)).alloc (.cells #[J Z 1, J Z aid, J Z ato, J Z amt, J Z m.fr, J Z m.to, J Z m.kind, J Z m.seq, J Z m.amt] 31)).alloc (.cells #[J Z 0, J Z 0, J Z 0, J Z 0, V none 0 0, V none 0 0] 27) = W) := hide hW.symm
 clear hW s1 s2 h hn
 have HM : Hid (moneyM n.d (⟨1, aid, ato, amt, m⟩ : Ac) = (⟨n.id, n.has, n.spent, n.earned, seeL n.seen aid 6, n.peers.map Pr.d⟩, 6)) := hide (by
  have q2 : ¬ 0 ≤ seenV n.d.seen aid := q
  have q3 : ¬ n.d.seen.length = 40 := q1
  unfold moneyM
  rw [if_neg q2, if_neg q3]
  rw [if_pos rfl]; simp [Nd.d, spendM, q4, q5])
 have q1i : ((n.seen.length : Int) == 40) = false := by simp; omega
 have w1_ : IntKind.i64.wrap (n.spent + amt) = n.spent + amt := wrap_in (by omega) (by omega)
 have HP : Hid _ := hide hP
 have n_ := hP.blkAt (i := 2) rfl
 have a_ := hP.blkAt (i := 3) rfl
 have z_ := hP.blkAt (i := 4) rfl
 have c0 := n_.c 0 _ rfl
 have c1 := n_.c 1 _ rfl
 have c2 := n_.c 2 _ rfl
 have c3 := n_.c 3 _ rfl
 have c4 := n_.c 4 _ rfl
 have c5 := n_.c 5 _ rfl
 have d0 := a_.c 0 _ rfl
 have d1 := a_.c 1 _ rfl
 have d3 := a_.c 3 _ rfl
 have e0 := z_.c 0 _ rfl
 have f0 := z_.f 0
 have e1 := z_.c 1 _ rfl
 have f1 := z_.f 1
 have e2 := z_.c 2 _ rfl
 have f2 := z_.f 2
 have e3 := z_.c 3 _ rfl
 have f3 := z_.f 3
 have e4 := z_.c 4 _ rfl
 have f4 := z_.f 4
 have e5 := z_.c 5 _ rfl
 have f5 := z_.f 5
 have g1 := n_.f 1
 have g2 := n_.f 2
 have g3 := n_.f 3
 have g4 := n_.f 4
 clear hP n_ a_ z_
 go_enter Try.func20, Try.ntmps20
 go_wp2_with (first | (go_at_call 51; fail) | fail)
 rw [HW.out]
 have hrow : RowAt 2 snCells W n.sa n.seen := (HP.out.orowAt (i := 0) rfl).rows
 refine (l2Seen_any n.sa n.seen n.sc aid W hs hrow).mono ?_
 rintro e w1 ⟨rfl, hw1⟩
 rw [hw1]
 clear hrow hw1
 have HP3 : Hid (Pool (fps (ndL n)) w [[orow 2 snCells n.sa n.sc n.seen], orow 4 prCells n.pa n.pc n.peers :: endsL n.peers, [blk w.heap.size [J Z n.id, J Z (n.has), J Z (n.spent), J Z (n.earned), V n.sa n.seen.length n.sc, V n.pa n.peers.length n.pc]], [blk (w.heap.size + 1) [J Z 1, J Z aid, J Z ato, J Z amt, J Z m.fr, J Z m.to, J Z m.kind, J Z m.seq, J Z m.amt]], [blk (w.heap.size + 1 + 1) [J Z 0, J Z 0, J Z 0, J Z 0, V none 0 0, V none 0 0]]] W) := hide HP.out
 go_wp2_with fail
 refine (l2See_own (gOf n.sa) n.sa n.seen n.sc aid 6 _ hs (HP3.out.orowAt (i := 0) rfl) HN.out).mono ?_
 rintro e w2 ⟨hb2, v, rfl, ho2⟩
 rw [← see_len n.seen aid 6] at ho2
 have st2 := Star.ofRow ho2
 have hP4 := ((HP3.out.drop (i := 0) rfl).new (i := 0) rfl hb2 st2 (fun c hc => by
  rw [fps_one, row_fp, Option.mem_toList] at hc
  exact (ho2.lt c hc).1))
 obtain ⟨sa2, sc2, rfl, HP5⟩ := hP4.asOrow snLen (i := 0) (l := seeL n.seen aid 6) rfl
 have HP6 := HP5.setBlk (i := 2) rfl 4 (V sa2 (seeL n.seen aid 6).length sc2) (by simp)
 have n_ := HP5.blkAt (i := 2) rfl
 have f4 := n_.f 4
 have c4 := n_.c 4 _ rfl
 have x_ := HP6.blkAt (i := 2) rfl
 have y_ := HP6.blkAt (i := 4) rfl
 have x0 := x_.c 0 _ rfl
 have y0 := y_.c 0 _ rfl
 have w0_ := y_.f 0
 have x1 := x_.c 1 _ rfl
 have y1 := y_.c 1 _ rfl
 have w1_ := y_.f 1
 have x2 := x_.c 2 _ rfl
 have y2 := y_.c 2 _ rfl
 have w2_ := y_.f 2
 have x3 := x_.c 3 _ rfl
 have y3 := y_.c 3 _ rfl
 have w3_ := y_.f 3
 have x4 := x_.c 4 _ rfl
 have y4 := y_.c 4 _ rfl
 have w4_ := y_.f 4
 have x5 := x_.c 5 _ rfl
 have y5 := y_.c 5 _ rfl
 have w5_ := y_.f 5
 have HQ : Hid _ := hide (HP6.set6 (i := 4) rfl (J Z n.id) (J Z (n.has)) (J Z (n.spent)) (J Z (n.earned)) (V sa2 (seeL n.seen aid 6).length sc2) (V n.pa n.peers.length n.pc))
 clear st2 hP4 HP5 HP6 hb2 ho2 n_ x_ y_
 go_wp2
 refine name_post (fun W9 hW9 => ?_)
 have hq := HQ.out
 rw [← hW9] at hq
 have z_ := hq.blkAt (i := 4) rfl
 have g0_ := z_.c 0 _ rfl
 have g1_ := z_.c 1 _ rfl
 have g2_ := z_.c 2 _ rfl
 have g3_ := z_.c 3 _ rfl
 have g4_ := z_.c 4 _ rfl
 have g5_ := z_.c 5 _ rfl
 exact bodyPost_ret (v := .tuple #[ndV ⟨n.id, n.has, n.spent, n.earned, sa2, sc2, seeL n.seen aid 6, n.pa, n.pc, n.peers⟩, J Z (6)]) (by simp [results, Try.results20, go_sem, g0_, g1_, g2_, g3_, g4_, g5_, ndV]) rfl ⟨⟨n.id, n.has, n.spent, n.earned, sa2, sc2, seeL n.seen aid 6, n.pa, n.pc, n.peers⟩, (by rw [HM.out]), (by rw [HM.out] <;> rfl), (((hq.drop (i := 4) rfl).drop (i := 3) rfl).drop (i := 2) rfl).cast (by simp [ndL])⟩
set_option maxHeartbeats 4000000 in
theorem money_s0 (n : Nd) ( aid ato amt : Int) (m : Mg) (w : World) (hs : n.seen.length ≤ 1048576) (hn : Near n.sa) (h : Star (ndL n) w) (hr : InN n) (ha : 1 ≤ amt ∧ amt ≤ 1000000000000) (q : ¬ 0 ≤ seenV n.seen aid) (q1 : ¬ n.seen.length = 40) (q4 : ¬ n.has < amt) (q5 : ¬ 1000000000000 < n.spent + amt) :
  Calls Try.prog 20 #[.agg #[J Z n.id, J Z n.has, J Z n.spent, J Z n.earned, V n.sa n.seen.length n.sc, V n.pa n.peers.length n.pc], .agg #[J Z 1, J Z aid, J Z ato, J Z amt, J Z m.fr, J Z m.to, J Z m.kind, J Z m.seq, J Z m.amt]] w fun e w' => MoneyEnd n (⟨1, aid, ato, amt, m⟩ : Ac) w e w' := by
 obtain ⟨⟨r1, r2⟩, ⟨r3, r4⟩, ⟨r5, r6⟩⟩ := hr
 obtain ⟨a1, a2⟩ := ha
 have HN : Hid _ := hide hn
 have HS : Hid _ := hide h
 obtain ⟨W, hW⟩ : ∃ W, W = ((w.alloc (.cells (ndCells n).toArray 27)).alloc (.cells (acCells ⟨1, aid, ato, amt, m⟩).toArray 31)).alloc (.cells #[J Z 0, J Z 0, J Z 0, J Z 0, V none 0 0, V none 0 0] 27) := ⟨_, rfl⟩
 have s1 : (w.alloc (.cells (ndCells n).toArray 27)).heap.size = w.heap.size + 1 := by simp
 have s2 : ((w.alloc (.cells (ndCells n).toArray 27)).alloc (.cells (acCells ⟨1, aid, ato, amt, m⟩).toArray 31)).heap.size = w.heap.size + 1 + 1 := by simp
 have hP : Pool (fps (ndL n)) w [[orow 2 snCells n.sa n.sc n.seen], orow 4 prCells n.pa n.pc n.peers :: endsL n.peers, [blk w.heap.size [J Z n.id, J Z n.has, J Z n.spent, J Z n.earned, V n.sa n.seen.length n.sc, V n.pa n.peers.length n.pc]], [blk (w.heap.size + 1) [J Z 1, J Z aid, J Z ato, J Z amt, J Z m.fr, J Z m.to, J Z m.kind, J Z m.seq, J Z m.amt]], [blk (w.heap.size + 1 + 1) [J Z 0, J Z 0, J Z 0, J Z 0, V none 0 0, V none 0 0]]] W := by
  rw [hW, ← s2, ← s1]
  exact ((((Pool.of h).cast (S' := [[orow 2 snCells n.sa n.sc n.seen], orow 4 prCells n.pa n.pc n.peers :: endsL n.peers, [], [], []]) (by simp [ndL])).newBlk (i := 2) rfl (ndCells n) 27).newBlk (i := 3) rfl (acCells ⟨1, aid, ato, amt, m⟩) 31).newBlk (i := 4) rfl [J Z 0, J Z 0, J Z 0, J Z 0, V none 0 0, V none 0 0] 27
 have HW : Hid (((w.alloc (.cells #[J Z n.id, J Z n.has, J Z n.spent, J Z n.earned, V n.sa n.seen.length n.sc, V n.pa n.peers.length n.pc] 27)).alloc (.cells #[J Z 1, J Z aid, J Z ato, J Z amt, J Z m.fr, J Z m.to, J Z m.kind, J Z m.seq, J Z m.amt] 31)).alloc (.cells #[J Z 0, J Z 0, J Z 0, J Z 0, V none 0 0, V none 0 0] 27) = W) := hide hW.symm
 clear hW s1 s2 h hn
 have HM : Hid (moneyM n.d (⟨1, aid, ato, amt, m⟩ : Ac) = (⟨n.id, n.has - amt, n.spent + amt, n.earned, seeL n.seen aid 0, n.peers.map Pr.d⟩, 0)) := hide (by
  have q2 : ¬ 0 ≤ seenV n.d.seen aid := q
  have q3 : ¬ n.d.seen.length = 40 := q1
  unfold moneyM
  rw [if_neg q2, if_neg q3]
  rw [if_pos rfl]; simp [Nd.d, spendM, q4, q5])
 have q1i : ((n.seen.length : Int) == 40) = false := by simp; omega
 have w1_ : IntKind.i64.wrap (n.spent + amt) = n.spent + amt := wrap_in (by omega) (by omega)
 have w2_ : IntKind.i64.wrap (n.has - amt) = n.has - amt := wrap_in (by omega) (by omega)
 have HP : Hid _ := hide hP
 have n_ := hP.blkAt (i := 2) rfl
 have a_ := hP.blkAt (i := 3) rfl
 have z_ := hP.blkAt (i := 4) rfl
 have c0 := n_.c 0 _ rfl
 have c1 := n_.c 1 _ rfl
 have c2 := n_.c 2 _ rfl
 have c3 := n_.c 3 _ rfl
 have c4 := n_.c 4 _ rfl
 have c5 := n_.c 5 _ rfl
 have d0 := a_.c 0 _ rfl
 have d1 := a_.c 1 _ rfl
 have d3 := a_.c 3 _ rfl
 have e0 := z_.c 0 _ rfl
 have f0 := z_.f 0
 have e1 := z_.c 1 _ rfl
 have f1 := z_.f 1
 have e2 := z_.c 2 _ rfl
 have f2 := z_.f 2
 have e3 := z_.c 3 _ rfl
 have f3 := z_.f 3
 have e4 := z_.c 4 _ rfl
 have f4 := z_.f 4
 have e5 := z_.c 5 _ rfl
 have f5 := z_.f 5
 have g1 := n_.f 1
 have g2 := n_.f 2
 have g3 := n_.f 3
 have g4 := n_.f 4
 clear hP n_ a_ z_
 go_enter Try.func20, Try.ntmps20
 go_wp2_with (first | (go_at_call 51; fail) | fail)
 rw [HW.out]
 have hrow : RowAt 2 snCells W n.sa n.seen := (HP.out.orowAt (i := 0) rfl).rows
 refine (l2Seen_any n.sa n.seen n.sc aid W hs hrow).mono ?_
 rintro e w1 ⟨rfl, hw1⟩
 rw [hw1]
 clear hrow hw1
 have HP3 : Hid (Pool (fps (ndL n)) w [[orow 2 snCells n.sa n.sc n.seen], orow 4 prCells n.pa n.pc n.peers :: endsL n.peers, [blk w.heap.size [J Z n.id, J Z (n.has - amt), J Z (n.spent + amt), J Z (n.earned), V n.sa n.seen.length n.sc, V n.pa n.peers.length n.pc]], [blk (w.heap.size + 1) [J Z 1, J Z aid, J Z ato, J Z amt, J Z m.fr, J Z m.to, J Z m.kind, J Z m.seq, J Z m.amt]], [blk (w.heap.size + 1 + 1) [J Z 0, J Z 0, J Z 0, J Z 0, V none 0 0, V none 0 0]]] ((W.setCell ⟨w.heap.size, 1, none⟩ (J Z (n.has - amt))).setCell ⟨w.heap.size, 2, none⟩ (J Z (n.spent + amt)))) := hide ((HP.out.setBlk (i := 2) rfl 1 (J Z (n.has - amt)) (by simp)).setBlk (i := 2) rfl 2 (J Z (n.spent + amt)) (by simp))
 have m2 : (W.setCell ⟨w.heap.size, 1, none⟩ (J Z (n.has - amt))).cell? ⟨w.heap.size, 2, none⟩ = some (J Z n.spent) := ((HP.out.setBlk (i := 2) rfl 1 (J Z (n.has - amt)) (by simp)).blkAt (i := 2) rfl).c 2 _ rfl
 have ma : (W.setCell ⟨w.heap.size, 1, none⟩ (J Z (n.has - amt))).cell? ⟨w.heap.size + 1, 3, none⟩ = some (J Z amt) := ((HP.out.setBlk (i := 2) rfl 1 (J Z (n.has - amt)) (by simp)).blkAt (i := 3) rfl).c 3 _ rfl
 have k4 : ((W.setCell ⟨w.heap.size, 1, none⟩ (J Z (n.has - amt))).setCell ⟨w.heap.size, 2, none⟩ (J Z (n.spent + amt))).cell? ⟨w.heap.size, 4, none⟩ = some (V n.sa n.seen.length n.sc) := (HP3.out.blkAt (i := 2) rfl).c 4 _ rfl
 have k1 : ((W.setCell ⟨w.heap.size, 1, none⟩ (J Z (n.has - amt))).setCell ⟨w.heap.size, 2, none⟩ (J Z (n.spent + amt))).cell? ⟨w.heap.size + 1, 1, none⟩ = some (J Z aid) := (HP3.out.blkAt (i := 3) rfl).c 1 _ rfl
 go_wp2_with fail
 refine (l2See_own (gOf n.sa) n.sa n.seen n.sc aid 0 _ hs (HP3.out.orowAt (i := 0) rfl) HN.out).mono ?_
 rintro e w2 ⟨hb2, v, rfl, ho2⟩
 rw [← see_len n.seen aid 0] at ho2
 have st2 := Star.ofRow ho2
 have hP4 := ((HP3.out.drop (i := 0) rfl).new (i := 0) rfl hb2 st2 (fun c hc => by
  rw [fps_one, row_fp, Option.mem_toList] at hc
  exact (ho2.lt c hc).1))
 obtain ⟨sa2, sc2, rfl, HP5⟩ := hP4.asOrow snLen (i := 0) (l := seeL n.seen aid 0) rfl
 have HP6 := HP5.setBlk (i := 2) rfl 4 (V sa2 (seeL n.seen aid 0).length sc2) (by simp)
 have n_ := HP5.blkAt (i := 2) rfl
 have f4 := n_.f 4
 have c4 := n_.c 4 _ rfl
 have x_ := HP6.blkAt (i := 2) rfl
 have y_ := HP6.blkAt (i := 4) rfl
 have x0 := x_.c 0 _ rfl
 have y0 := y_.c 0 _ rfl
 have w0_ := y_.f 0
 have x1 := x_.c 1 _ rfl
 have y1 := y_.c 1 _ rfl
 have w1_ := y_.f 1
 have x2 := x_.c 2 _ rfl
 have y2 := y_.c 2 _ rfl
 have w2_ := y_.f 2
 have x3 := x_.c 3 _ rfl
 have y3 := y_.c 3 _ rfl
 have w3_ := y_.f 3
 have x4 := x_.c 4 _ rfl
 have y4 := y_.c 4 _ rfl
 have w4_ := y_.f 4
 have x5 := x_.c 5 _ rfl
 have y5 := y_.c 5 _ rfl
 have w5_ := y_.f 5
 have HQ : Hid _ := hide (HP6.set6 (i := 4) rfl (J Z n.id) (J Z (n.has - amt)) (J Z (n.spent + amt)) (J Z (n.earned)) (V sa2 (seeL n.seen aid 0).length sc2) (V n.pa n.peers.length n.pc))
 clear st2 hP4 HP5 HP6 hb2 ho2 n_ x_ y_
 go_wp2
 refine name_post (fun W9 hW9 => ?_)
 have hq := HQ.out
 rw [← hW9] at hq
 have z_ := hq.blkAt (i := 4) rfl
 have g0_ := z_.c 0 _ rfl
 have g1_ := z_.c 1 _ rfl
 have g2_ := z_.c 2 _ rfl
 have g3_ := z_.c 3 _ rfl
 have g4_ := z_.c 4 _ rfl
 have g5_ := z_.c 5 _ rfl
 exact bodyPost_ret (v := .tuple #[ndV ⟨n.id, n.has - amt, n.spent + amt, n.earned, sa2, sc2, seeL n.seen aid 0, n.pa, n.pc, n.peers⟩, J Z (0)]) (by simp [results, Try.results20, go_sem, g0_, g1_, g2_, g3_, g4_, g5_, ndV]) rfl ⟨⟨n.id, n.has - amt, n.spent + amt, n.earned, sa2, sc2, seeL n.seen aid 0, n.pa, n.pc, n.peers⟩, (by rw [HM.out]), (by rw [HM.out] <;> rfl), (((hq.drop (i := 4) rfl).drop (i := 3) rfl).drop (i := 2) rfl).cast (by simp [ndL])⟩
set_option maxHeartbeats 4000000 in
theorem money_e6a (n : Nd) ( aid ato amt : Int) (m : Mg) (w : World) (hs : n.seen.length ≤ 1048576) (hn : Near n.sa) (h : Star (ndL n) w) (hr : InN n) (ha : 1 ≤ amt ∧ amt ≤ 1000000000000) (q : ¬ 0 ≤ seenV n.seen aid) (q1 : ¬ n.seen.length = 40) (q4 : 10000000000000 < n.has + amt) :
  Calls Try.prog 20 #[.agg #[J Z n.id, J Z n.has, J Z n.spent, J Z n.earned, V n.sa n.seen.length n.sc, V n.pa n.peers.length n.pc], .agg #[J Z 2, J Z aid, J Z ato, J Z amt, J Z m.fr, J Z m.to, J Z m.kind, J Z m.seq, J Z m.amt]] w fun e w' => MoneyEnd n (⟨2, aid, ato, amt, m⟩ : Ac) w e w' := by
 obtain ⟨⟨r1, r2⟩, ⟨r3, r4⟩, ⟨r5, r6⟩⟩ := hr
 obtain ⟨a1, a2⟩ := ha
 have HN : Hid _ := hide hn
 have HS : Hid _ := hide h
 obtain ⟨W, hW⟩ : ∃ W, W = ((w.alloc (.cells (ndCells n).toArray 27)).alloc (.cells (acCells ⟨2, aid, ato, amt, m⟩).toArray 31)).alloc (.cells #[J Z 0, J Z 0, J Z 0, J Z 0, V none 0 0, V none 0 0] 27) := ⟨_, rfl⟩
 have s1 : (w.alloc (.cells (ndCells n).toArray 27)).heap.size = w.heap.size + 1 := by simp
 have s2 : ((w.alloc (.cells (ndCells n).toArray 27)).alloc (.cells (acCells ⟨2, aid, ato, amt, m⟩).toArray 31)).heap.size = w.heap.size + 1 + 1 := by simp
 have hP : Pool (fps (ndL n)) w [[orow 2 snCells n.sa n.sc n.seen], orow 4 prCells n.pa n.pc n.peers :: endsL n.peers, [blk w.heap.size [J Z n.id, J Z n.has, J Z n.spent, J Z n.earned, V n.sa n.seen.length n.sc, V n.pa n.peers.length n.pc]], [blk (w.heap.size + 1) [J Z 2, J Z aid, J Z ato, J Z amt, J Z m.fr, J Z m.to, J Z m.kind, J Z m.seq, J Z m.amt]], [blk (w.heap.size + 1 + 1) [J Z 0, J Z 0, J Z 0, J Z 0, V none 0 0, V none 0 0]]] W := by
  rw [hW, ← s2, ← s1]
  exact ((((Pool.of h).cast (S' := [[orow 2 snCells n.sa n.sc n.seen], orow 4 prCells n.pa n.pc n.peers :: endsL n.peers, [], [], []]) (by simp [ndL])).newBlk (i := 2) rfl (ndCells n) 27).newBlk (i := 3) rfl (acCells ⟨2, aid, ato, amt, m⟩) 31).newBlk (i := 4) rfl [J Z 0, J Z 0, J Z 0, J Z 0, V none 0 0, V none 0 0] 27
 have HW : Hid (((w.alloc (.cells #[J Z n.id, J Z n.has, J Z n.spent, J Z n.earned, V n.sa n.seen.length n.sc, V n.pa n.peers.length n.pc] 27)).alloc (.cells #[J Z 2, J Z aid, J Z ato, J Z amt, J Z m.fr, J Z m.to, J Z m.kind, J Z m.seq, J Z m.amt] 31)).alloc (.cells #[J Z 0, J Z 0, J Z 0, J Z 0, V none 0 0, V none 0 0] 27) = W) := hide hW.symm
 clear hW s1 s2 h hn
 have HM : Hid (moneyM n.d (⟨2, aid, ato, amt, m⟩ : Ac) = (⟨n.id, n.has, n.spent, n.earned, seeL n.seen aid 6, n.peers.map Pr.d⟩, 6)) := hide (by
  have q2 : ¬ 0 ≤ seenV n.d.seen aid := q
  have q3 : ¬ n.d.seen.length = 40 := q1
  unfold moneyM
  rw [if_neg q2, if_neg q3]
  rw [if_neg (show ¬ (2 : Int) = 1 by omega)]; simp [Nd.d, earnM, q4])
 have q1i : ((n.seen.length : Int) == 40) = false := by simp; omega
 have w1_ : IntKind.i64.wrap (n.has + amt) = n.has + amt := wrap_in (by omega) (by omega)
 have w2_ : IntKind.i64.wrap (n.earned + amt) = n.earned + amt := wrap_in (by omega) (by omega)
 have HP : Hid _ := hide hP
 have n_ := hP.blkAt (i := 2) rfl
 have a_ := hP.blkAt (i := 3) rfl
 have z_ := hP.blkAt (i := 4) rfl
 have c0 := n_.c 0 _ rfl
 have c1 := n_.c 1 _ rfl
 have c2 := n_.c 2 _ rfl
 have c3 := n_.c 3 _ rfl
 have c4 := n_.c 4 _ rfl
 have c5 := n_.c 5 _ rfl
 have d0 := a_.c 0 _ rfl
 have d1 := a_.c 1 _ rfl
 have d3 := a_.c 3 _ rfl
 have e0 := z_.c 0 _ rfl
 have f0 := z_.f 0
 have e1 := z_.c 1 _ rfl
 have f1 := z_.f 1
 have e2 := z_.c 2 _ rfl
 have f2 := z_.f 2
 have e3 := z_.c 3 _ rfl
 have f3 := z_.f 3
 have e4 := z_.c 4 _ rfl
 have f4 := z_.f 4
 have e5 := z_.c 5 _ rfl
 have f5 := z_.f 5
 have g1 := n_.f 1
 have g2 := n_.f 2
 have g3 := n_.f 3
 have g4 := n_.f 4
 clear hP n_ a_ z_
 go_enter Try.func20, Try.ntmps20
 go_wp2_with (first | (go_at_call 51; fail) | fail)
 rw [HW.out]
 have hrow : RowAt 2 snCells W n.sa n.seen := (HP.out.orowAt (i := 0) rfl).rows
 refine (l2Seen_any n.sa n.seen n.sc aid W hs hrow).mono ?_
 rintro e w1 ⟨rfl, hw1⟩
 rw [hw1]
 clear hrow hw1
 have HP3 : Hid (Pool (fps (ndL n)) w [[orow 2 snCells n.sa n.sc n.seen], orow 4 prCells n.pa n.pc n.peers :: endsL n.peers, [blk w.heap.size [J Z n.id, J Z (n.has), J Z (n.spent), J Z (n.earned), V n.sa n.seen.length n.sc, V n.pa n.peers.length n.pc]], [blk (w.heap.size + 1) [J Z 2, J Z aid, J Z ato, J Z amt, J Z m.fr, J Z m.to, J Z m.kind, J Z m.seq, J Z m.amt]], [blk (w.heap.size + 1 + 1) [J Z 0, J Z 0, J Z 0, J Z 0, V none 0 0, V none 0 0]]] W) := hide HP.out
 go_wp2_with fail
 refine (l2See_own (gOf n.sa) n.sa n.seen n.sc aid 6 _ hs (HP3.out.orowAt (i := 0) rfl) HN.out).mono ?_
 rintro e w2 ⟨hb2, v, rfl, ho2⟩
 rw [← see_len n.seen aid 6] at ho2
 have st2 := Star.ofRow ho2
 have hP4 := ((HP3.out.drop (i := 0) rfl).new (i := 0) rfl hb2 st2 (fun c hc => by
  rw [fps_one, row_fp, Option.mem_toList] at hc
  exact (ho2.lt c hc).1))
 obtain ⟨sa2, sc2, rfl, HP5⟩ := hP4.asOrow snLen (i := 0) (l := seeL n.seen aid 6) rfl
 have HP6 := HP5.setBlk (i := 2) rfl 4 (V sa2 (seeL n.seen aid 6).length sc2) (by simp)
 have n_ := HP5.blkAt (i := 2) rfl
 have f4 := n_.f 4
 have c4 := n_.c 4 _ rfl
 have x_ := HP6.blkAt (i := 2) rfl
 have y_ := HP6.blkAt (i := 4) rfl
 have x0 := x_.c 0 _ rfl
 have y0 := y_.c 0 _ rfl
 have w0_ := y_.f 0
 have x1 := x_.c 1 _ rfl
 have y1 := y_.c 1 _ rfl
 have w1_ := y_.f 1
 have x2 := x_.c 2 _ rfl
 have y2 := y_.c 2 _ rfl
 have w2_ := y_.f 2
 have x3 := x_.c 3 _ rfl
 have y3 := y_.c 3 _ rfl
 have w3_ := y_.f 3
 have x4 := x_.c 4 _ rfl
 have y4 := y_.c 4 _ rfl
 have w4_ := y_.f 4
 have x5 := x_.c 5 _ rfl
 have y5 := y_.c 5 _ rfl
 have w5_ := y_.f 5
 have HQ : Hid _ := hide (HP6.set6 (i := 4) rfl (J Z n.id) (J Z (n.has)) (J Z (n.spent)) (J Z (n.earned)) (V sa2 (seeL n.seen aid 6).length sc2) (V n.pa n.peers.length n.pc))
 clear st2 hP4 HP5 HP6 hb2 ho2 n_ x_ y_
 go_wp2
 refine name_post (fun W9 hW9 => ?_)
 have hq := HQ.out
 rw [← hW9] at hq
 have z_ := hq.blkAt (i := 4) rfl
 have g0_ := z_.c 0 _ rfl
 have g1_ := z_.c 1 _ rfl
 have g2_ := z_.c 2 _ rfl
 have g3_ := z_.c 3 _ rfl
 have g4_ := z_.c 4 _ rfl
 have g5_ := z_.c 5 _ rfl
 exact bodyPost_ret (v := .tuple #[ndV ⟨n.id, n.has, n.spent, n.earned, sa2, sc2, seeL n.seen aid 6, n.pa, n.pc, n.peers⟩, J Z (6)]) (by simp [results, Try.results20, go_sem, g0_, g1_, g2_, g3_, g4_, g5_, ndV]) rfl ⟨⟨n.id, n.has, n.spent, n.earned, sa2, sc2, seeL n.seen aid 6, n.pa, n.pc, n.peers⟩, (by rw [HM.out]), (by rw [HM.out] <;> rfl), (((hq.drop (i := 4) rfl).drop (i := 3) rfl).drop (i := 2) rfl).cast (by simp [ndL])⟩
set_option maxHeartbeats 4000000 in
theorem money_e6b (n : Nd) ( aid ato amt : Int) (m : Mg) (w : World) (hs : n.seen.length ≤ 1048576) (hn : Near n.sa) (h : Star (ndL n) w) (hr : InN n) (ha : 1 ≤ amt ∧ amt ≤ 1000000000000) (q : ¬ 0 ≤ seenV n.seen aid) (q1 : ¬ n.seen.length = 40) (q4 : ¬ 10000000000000 < n.has + amt) (q5 : 1000000000000 < n.earned + amt) :
  Calls Try.prog 20 #[.agg #[J Z n.id, J Z n.has, J Z n.spent, J Z n.earned, V n.sa n.seen.length n.sc, V n.pa n.peers.length n.pc], .agg #[J Z 2, J Z aid, J Z ato, J Z amt, J Z m.fr, J Z m.to, J Z m.kind, J Z m.seq, J Z m.amt]] w fun e w' => MoneyEnd n (⟨2, aid, ato, amt, m⟩ : Ac) w e w' := by
 obtain ⟨⟨r1, r2⟩, ⟨r3, r4⟩, ⟨r5, r6⟩⟩ := hr
 obtain ⟨a1, a2⟩ := ha
 have HN : Hid _ := hide hn
 have HS : Hid _ := hide h
 obtain ⟨W, hW⟩ : ∃ W, W = ((w.alloc (.cells (ndCells n).toArray 27)).alloc (.cells (acCells ⟨2, aid, ato, amt, m⟩).toArray 31)).alloc (.cells #[J Z 0, J Z 0, J Z 0, J Z 0, V none 0 0, V none 0 0] 27) := ⟨_, rfl⟩
 have s1 : (w.alloc (.cells (ndCells n).toArray 27)).heap.size = w.heap.size + 1 := by simp
 have s2 : ((w.alloc (.cells (ndCells n).toArray 27)).alloc (.cells (acCells ⟨2, aid, ato, amt, m⟩).toArray 31)).heap.size = w.heap.size + 1 + 1 := by simp
 have hP : Pool (fps (ndL n)) w [[orow 2 snCells n.sa n.sc n.seen], orow 4 prCells n.pa n.pc n.peers :: endsL n.peers, [blk w.heap.size [J Z n.id, J Z n.has, J Z n.spent, J Z n.earned, V n.sa n.seen.length n.sc, V n.pa n.peers.length n.pc]], [blk (w.heap.size + 1) [J Z 2, J Z aid, J Z ato, J Z amt, J Z m.fr, J Z m.to, J Z m.kind, J Z m.seq, J Z m.amt]], [blk (w.heap.size + 1 + 1) [J Z 0, J Z 0, J Z 0, J Z 0, V none 0 0, V none 0 0]]] W := by
  rw [hW, ← s2, ← s1]
  exact ((((Pool.of h).cast (S' := [[orow 2 snCells n.sa n.sc n.seen], orow 4 prCells n.pa n.pc n.peers :: endsL n.peers, [], [], []]) (by simp [ndL])).newBlk (i := 2) rfl (ndCells n) 27).newBlk (i := 3) rfl (acCells ⟨2, aid, ato, amt, m⟩) 31).newBlk (i := 4) rfl [J Z 0, J Z 0, J Z 0, J Z 0, V none 0 0, V none 0 0] 27
 have HW : Hid (((w.alloc (.cells #[J Z n.id, J Z n.has, J Z n.spent, J Z n.earned, V n.sa n.seen.length n.sc, V n.pa n.peers.length n.pc] 27)).alloc (.cells #[J Z 2, J Z aid, J Z ato, J Z amt, J Z m.fr, J Z m.to, J Z m.kind, J Z m.seq, J Z m.amt] 31)).alloc (.cells #[J Z 0, J Z 0, J Z 0, J Z 0, V none 0 0, V none 0 0] 27) = W) := hide hW.symm
 clear hW s1 s2 h hn
 have HM : Hid (moneyM n.d (⟨2, aid, ato, amt, m⟩ : Ac) = (⟨n.id, n.has, n.spent, n.earned, seeL n.seen aid 6, n.peers.map Pr.d⟩, 6)) := hide (by
  have q2 : ¬ 0 ≤ seenV n.d.seen aid := q
  have q3 : ¬ n.d.seen.length = 40 := q1
  unfold moneyM
  rw [if_neg q2, if_neg q3]
  rw [if_neg (show ¬ (2 : Int) = 1 by omega)]; simp [Nd.d, earnM, q5])
 have q1i : ((n.seen.length : Int) == 40) = false := by simp; omega
 have w1_ : IntKind.i64.wrap (n.has + amt) = n.has + amt := wrap_in (by omega) (by omega)
 have w2_ : IntKind.i64.wrap (n.earned + amt) = n.earned + amt := wrap_in (by omega) (by omega)
 have HP : Hid _ := hide hP
 have n_ := hP.blkAt (i := 2) rfl
 have a_ := hP.blkAt (i := 3) rfl
 have z_ := hP.blkAt (i := 4) rfl
 have c0 := n_.c 0 _ rfl
 have c1 := n_.c 1 _ rfl
 have c2 := n_.c 2 _ rfl
 have c3 := n_.c 3 _ rfl
 have c4 := n_.c 4 _ rfl
 have c5 := n_.c 5 _ rfl
 have d0 := a_.c 0 _ rfl
 have d1 := a_.c 1 _ rfl
 have d3 := a_.c 3 _ rfl
 have e0 := z_.c 0 _ rfl
 have f0 := z_.f 0
 have e1 := z_.c 1 _ rfl
 have f1 := z_.f 1
 have e2 := z_.c 2 _ rfl
 have f2 := z_.f 2
 have e3 := z_.c 3 _ rfl
 have f3 := z_.f 3
 have e4 := z_.c 4 _ rfl
 have f4 := z_.f 4
 have e5 := z_.c 5 _ rfl
 have f5 := z_.f 5
 have g1 := n_.f 1
 have g2 := n_.f 2
 have g3 := n_.f 3
 have g4 := n_.f 4
 clear hP n_ a_ z_
 go_enter Try.func20, Try.ntmps20
 go_wp2_with (first | (go_at_call 51; fail) | fail)
 rw [HW.out]
 have hrow : RowAt 2 snCells W n.sa n.seen := (HP.out.orowAt (i := 0) rfl).rows
 refine (l2Seen_any n.sa n.seen n.sc aid W hs hrow).mono ?_
 rintro e w1 ⟨rfl, hw1⟩
 rw [hw1]
 clear hrow hw1
 have HP3 : Hid (Pool (fps (ndL n)) w [[orow 2 snCells n.sa n.sc n.seen], orow 4 prCells n.pa n.pc n.peers :: endsL n.peers, [blk w.heap.size [J Z n.id, J Z (n.has), J Z (n.spent), J Z (n.earned), V n.sa n.seen.length n.sc, V n.pa n.peers.length n.pc]], [blk (w.heap.size + 1) [J Z 2, J Z aid, J Z ato, J Z amt, J Z m.fr, J Z m.to, J Z m.kind, J Z m.seq, J Z m.amt]], [blk (w.heap.size + 1 + 1) [J Z 0, J Z 0, J Z 0, J Z 0, V none 0 0, V none 0 0]]] W) := hide HP.out
 go_wp2_with fail
 refine (l2See_own (gOf n.sa) n.sa n.seen n.sc aid 6 _ hs (HP3.out.orowAt (i := 0) rfl) HN.out).mono ?_
 rintro e w2 ⟨hb2, v, rfl, ho2⟩
 rw [← see_len n.seen aid 6] at ho2
 have st2 := Star.ofRow ho2
 have hP4 := ((HP3.out.drop (i := 0) rfl).new (i := 0) rfl hb2 st2 (fun c hc => by
  rw [fps_one, row_fp, Option.mem_toList] at hc
  exact (ho2.lt c hc).1))
 obtain ⟨sa2, sc2, rfl, HP5⟩ := hP4.asOrow snLen (i := 0) (l := seeL n.seen aid 6) rfl
 have HP6 := HP5.setBlk (i := 2) rfl 4 (V sa2 (seeL n.seen aid 6).length sc2) (by simp)
 have n_ := HP5.blkAt (i := 2) rfl
 have f4 := n_.f 4
 have c4 := n_.c 4 _ rfl
 have x_ := HP6.blkAt (i := 2) rfl
 have y_ := HP6.blkAt (i := 4) rfl
 have x0 := x_.c 0 _ rfl
 have y0 := y_.c 0 _ rfl
 have w0_ := y_.f 0
 have x1 := x_.c 1 _ rfl
 have y1 := y_.c 1 _ rfl
 have w1_ := y_.f 1
 have x2 := x_.c 2 _ rfl
 have y2 := y_.c 2 _ rfl
 have w2_ := y_.f 2
 have x3 := x_.c 3 _ rfl
 have y3 := y_.c 3 _ rfl
 have w3_ := y_.f 3
 have x4 := x_.c 4 _ rfl
 have y4 := y_.c 4 _ rfl
 have w4_ := y_.f 4
 have x5 := x_.c 5 _ rfl
 have y5 := y_.c 5 _ rfl
 have w5_ := y_.f 5
 have HQ : Hid _ := hide (HP6.set6 (i := 4) rfl (J Z n.id) (J Z (n.has)) (J Z (n.spent)) (J Z (n.earned)) (V sa2 (seeL n.seen aid 6).length sc2) (V n.pa n.peers.length n.pc))
 clear st2 hP4 HP5 HP6 hb2 ho2 n_ x_ y_
 go_wp2
 refine name_post (fun W9 hW9 => ?_)
 have hq := HQ.out
 rw [← hW9] at hq
 have z_ := hq.blkAt (i := 4) rfl
 have g0_ := z_.c 0 _ rfl
 have g1_ := z_.c 1 _ rfl
 have g2_ := z_.c 2 _ rfl
 have g3_ := z_.c 3 _ rfl
 have g4_ := z_.c 4 _ rfl
 have g5_ := z_.c 5 _ rfl
 exact bodyPost_ret (v := .tuple #[ndV ⟨n.id, n.has, n.spent, n.earned, sa2, sc2, seeL n.seen aid 6, n.pa, n.pc, n.peers⟩, J Z (6)]) (by simp [results, Try.results20, go_sem, g0_, g1_, g2_, g3_, g4_, g5_, ndV]) rfl ⟨⟨n.id, n.has, n.spent, n.earned, sa2, sc2, seeL n.seen aid 6, n.pa, n.pc, n.peers⟩, (by rw [HM.out]), (by rw [HM.out] <;> rfl), (((hq.drop (i := 4) rfl).drop (i := 3) rfl).drop (i := 2) rfl).cast (by simp [ndL])⟩
set_option maxHeartbeats 4000000 in
theorem money_e0 (n : Nd) ( aid ato amt : Int) (m : Mg) (w : World) (hs : n.seen.length ≤ 1048576) (hn : Near n.sa) (h : Star (ndL n) w) (hr : InN n) (ha : 1 ≤ amt ∧ amt ≤ 1000000000000) (q : ¬ 0 ≤ seenV n.seen aid) (q1 : ¬ n.seen.length = 40) (q4 : ¬ 10000000000000 < n.has + amt) (q5 : ¬ 1000000000000 < n.earned + amt) :
  Calls Try.prog 20 #[.agg #[J Z n.id, J Z n.has, J Z n.spent, J Z n.earned, V n.sa n.seen.length n.sc, V n.pa n.peers.length n.pc], .agg #[J Z 2, J Z aid, J Z ato, J Z amt, J Z m.fr, J Z m.to, J Z m.kind, J Z m.seq, J Z m.amt]] w fun e w' => MoneyEnd n (⟨2, aid, ato, amt, m⟩ : Ac) w e w' := by
 obtain ⟨⟨r1, r2⟩, ⟨r3, r4⟩, ⟨r5, r6⟩⟩ := hr
 obtain ⟨a1, a2⟩ := ha
 have HN : Hid _ := hide hn
 have HS : Hid _ := hide h
 obtain ⟨W, hW⟩ : ∃ W, W = ((w.alloc (.cells (ndCells n).toArray 27)).alloc (.cells (acCells ⟨2, aid, ato, amt, m⟩).toArray 31)).alloc (.cells #[J Z 0, J Z 0, J Z 0, J Z 0, V none 0 0, V none 0 0] 27) := ⟨_, rfl⟩
 have s1 : (w.alloc (.cells (ndCells n).toArray 27)).heap.size = w.heap.size + 1 := by simp
 have s2 : ((w.alloc (.cells (ndCells n).toArray 27)).alloc (.cells (acCells ⟨2, aid, ato, amt, m⟩).toArray 31)).heap.size = w.heap.size + 1 + 1 := by simp
 have hP : Pool (fps (ndL n)) w [[orow 2 snCells n.sa n.sc n.seen], orow 4 prCells n.pa n.pc n.peers :: endsL n.peers, [blk w.heap.size [J Z n.id, J Z n.has, J Z n.spent, J Z n.earned, V n.sa n.seen.length n.sc, V n.pa n.peers.length n.pc]], [blk (w.heap.size + 1) [J Z 2, J Z aid, J Z ato, J Z amt, J Z m.fr, J Z m.to, J Z m.kind, J Z m.seq, J Z m.amt]], [blk (w.heap.size + 1 + 1) [J Z 0, J Z 0, J Z 0, J Z 0, V none 0 0, V none 0 0]]] W := by
  rw [hW, ← s2, ← s1]
  exact ((((Pool.of h).cast (S' := [[orow 2 snCells n.sa n.sc n.seen], orow 4 prCells n.pa n.pc n.peers :: endsL n.peers, [], [], []]) (by simp [ndL])).newBlk (i := 2) rfl (ndCells n) 27).newBlk (i := 3) rfl (acCells ⟨2, aid, ato, amt, m⟩) 31).newBlk (i := 4) rfl [J Z 0, J Z 0, J Z 0, J Z 0, V none 0 0, V none 0 0] 27
 have HW : Hid (((w.alloc (.cells #[J Z n.id, J Z n.has, J Z n.spent, J Z n.earned, V n.sa n.seen.length n.sc, V n.pa n.peers.length n.pc] 27)).alloc (.cells #[J Z 2, J Z aid, J Z ato, J Z amt, J Z m.fr, J Z m.to, J Z m.kind, J Z m.seq, J Z m.amt] 31)).alloc (.cells #[J Z 0, J Z 0, J Z 0, J Z 0, V none 0 0, V none 0 0] 27) = W) := hide hW.symm
 clear hW s1 s2 h hn
 have HM : Hid (moneyM n.d (⟨2, aid, ato, amt, m⟩ : Ac) = (⟨n.id, n.has + amt, n.spent, n.earned + amt, seeL n.seen aid 0, n.peers.map Pr.d⟩, 0)) := hide (by
  have q2 : ¬ 0 ≤ seenV n.d.seen aid := q
  have q3 : ¬ n.d.seen.length = 40 := q1
  unfold moneyM
  rw [if_neg q2, if_neg q3]
  rw [if_neg (show ¬ (2 : Int) = 1 by omega)]; rw [show earnM n.d.has n.d.earned amt = (0, n.has + amt, n.earned + amt) from by simp [Nd.d, earnM, q4, q5]]; rfl)
 have q1i : ((n.seen.length : Int) == 40) = false := by simp; omega
 have w1_ : IntKind.i64.wrap (n.has + amt) = n.has + amt := wrap_in (by omega) (by omega)
 have w2_ : IntKind.i64.wrap (n.earned + amt) = n.earned + amt := wrap_in (by omega) (by omega)
 have HP : Hid _ := hide hP
 have n_ := hP.blkAt (i := 2) rfl
 have a_ := hP.blkAt (i := 3) rfl
 have z_ := hP.blkAt (i := 4) rfl
 have c0 := n_.c 0 _ rfl
 have c1 := n_.c 1 _ rfl
 have c2 := n_.c 2 _ rfl
 have c3 := n_.c 3 _ rfl
 have c4 := n_.c 4 _ rfl
 have c5 := n_.c 5 _ rfl
 have d0 := a_.c 0 _ rfl
 have d1 := a_.c 1 _ rfl
 have d3 := a_.c 3 _ rfl
 have e0 := z_.c 0 _ rfl
 have f0 := z_.f 0
 have e1 := z_.c 1 _ rfl
 have f1 := z_.f 1
 have e2 := z_.c 2 _ rfl
 have f2 := z_.f 2
 have e3 := z_.c 3 _ rfl
 have f3 := z_.f 3
 have e4 := z_.c 4 _ rfl
 have f4 := z_.f 4
 have e5 := z_.c 5 _ rfl
 have f5 := z_.f 5
 have g1 := n_.f 1
 have g2 := n_.f 2
 have g3 := n_.f 3
 have g4 := n_.f 4
 clear hP n_ a_ z_
 go_enter Try.func20, Try.ntmps20
 go_wp2_with (first | (go_at_call 51; fail) | fail)
 rw [HW.out]
 have hrow : RowAt 2 snCells W n.sa n.seen := (HP.out.orowAt (i := 0) rfl).rows
 refine (l2Seen_any n.sa n.seen n.sc aid W hs hrow).mono ?_
 rintro e w1 ⟨rfl, hw1⟩
 rw [hw1]
 clear hrow hw1
 have HP3 : Hid (Pool (fps (ndL n)) w [[orow 2 snCells n.sa n.sc n.seen], orow 4 prCells n.pa n.pc n.peers :: endsL n.peers, [blk w.heap.size [J Z n.id, J Z (n.has + amt), J Z (n.spent), J Z (n.earned + amt), V n.sa n.seen.length n.sc, V n.pa n.peers.length n.pc]], [blk (w.heap.size + 1) [J Z 2, J Z aid, J Z ato, J Z amt, J Z m.fr, J Z m.to, J Z m.kind, J Z m.seq, J Z m.amt]], [blk (w.heap.size + 1 + 1) [J Z 0, J Z 0, J Z 0, J Z 0, V none 0 0, V none 0 0]]] ((W.setCell ⟨w.heap.size, 1, none⟩ (J Z (n.has + amt))).setCell ⟨w.heap.size, 3, none⟩ (J Z (n.earned + amt)))) := hide ((HP.out.setBlk (i := 2) rfl 1 (J Z (n.has + amt)) (by simp)).setBlk (i := 2) rfl 3 (J Z (n.earned + amt)) (by simp))
 have m3 : (W.setCell ⟨w.heap.size, 1, none⟩ (J Z (n.has + amt))).cell? ⟨w.heap.size, 3, none⟩ = some (J Z n.earned) := ((HP.out.setBlk (i := 2) rfl 1 (J Z (n.has + amt)) (by simp)).blkAt (i := 2) rfl).c 3 _ rfl
 have ma : (W.setCell ⟨w.heap.size, 1, none⟩ (J Z (n.has + amt))).cell? ⟨w.heap.size + 1, 3, none⟩ = some (J Z amt) := ((HP.out.setBlk (i := 2) rfl 1 (J Z (n.has + amt)) (by simp)).blkAt (i := 3) rfl).c 3 _ rfl
 have k4 : ((W.setCell ⟨w.heap.size, 1, none⟩ (J Z (n.has + amt))).setCell ⟨w.heap.size, 3, none⟩ (J Z (n.earned + amt))).cell? ⟨w.heap.size, 4, none⟩ = some (V n.sa n.seen.length n.sc) := (HP3.out.blkAt (i := 2) rfl).c 4 _ rfl
 have k1 : ((W.setCell ⟨w.heap.size, 1, none⟩ (J Z (n.has + amt))).setCell ⟨w.heap.size, 3, none⟩ (J Z (n.earned + amt))).cell? ⟨w.heap.size + 1, 1, none⟩ = some (J Z aid) := (HP3.out.blkAt (i := 3) rfl).c 1 _ rfl
 go_wp2_with fail
 refine (l2See_own (gOf n.sa) n.sa n.seen n.sc aid 0 _ hs (HP3.out.orowAt (i := 0) rfl) HN.out).mono ?_
 rintro e w2 ⟨hb2, v, rfl, ho2⟩
 rw [← see_len n.seen aid 0] at ho2
 have st2 := Star.ofRow ho2
 have hP4 := ((HP3.out.drop (i := 0) rfl).new (i := 0) rfl hb2 st2 (fun c hc => by
  rw [fps_one, row_fp, Option.mem_toList] at hc
  exact (ho2.lt c hc).1))
 obtain ⟨sa2, sc2, rfl, HP5⟩ := hP4.asOrow snLen (i := 0) (l := seeL n.seen aid 0) rfl
 have HP6 := HP5.setBlk (i := 2) rfl 4 (V sa2 (seeL n.seen aid 0).length sc2) (by simp)
 have n_ := HP5.blkAt (i := 2) rfl
 have f4 := n_.f 4
 have c4 := n_.c 4 _ rfl
 have x_ := HP6.blkAt (i := 2) rfl
 have y_ := HP6.blkAt (i := 4) rfl
 have x0 := x_.c 0 _ rfl
 have y0 := y_.c 0 _ rfl
 have w0_ := y_.f 0
 have x1 := x_.c 1 _ rfl
 have y1 := y_.c 1 _ rfl
 have w1_ := y_.f 1
 have x2 := x_.c 2 _ rfl
 have y2 := y_.c 2 _ rfl
 have w2_ := y_.f 2
 have x3 := x_.c 3 _ rfl
 have y3 := y_.c 3 _ rfl
 have w3_ := y_.f 3
 have x4 := x_.c 4 _ rfl
 have y4 := y_.c 4 _ rfl
 have w4_ := y_.f 4
 have x5 := x_.c 5 _ rfl
 have y5 := y_.c 5 _ rfl
 have w5_ := y_.f 5
 have HQ : Hid _ := hide (HP6.set6 (i := 4) rfl (J Z n.id) (J Z (n.has + amt)) (J Z (n.spent)) (J Z (n.earned + amt)) (V sa2 (seeL n.seen aid 0).length sc2) (V n.pa n.peers.length n.pc))
 clear st2 hP4 HP5 HP6 hb2 ho2 n_ x_ y_
 go_wp2
 refine name_post (fun W9 hW9 => ?_)
 have hq := HQ.out
 rw [← hW9] at hq
 have z_ := hq.blkAt (i := 4) rfl
 have g0_ := z_.c 0 _ rfl
 have g1_ := z_.c 1 _ rfl
 have g2_ := z_.c 2 _ rfl
 have g3_ := z_.c 3 _ rfl
 have g4_ := z_.c 4 _ rfl
 have g5_ := z_.c 5 _ rfl
 exact bodyPost_ret (v := .tuple #[ndV ⟨n.id, n.has + amt, n.spent, n.earned + amt, sa2, sc2, seeL n.seen aid 0, n.pa, n.pc, n.peers⟩, J Z (0)]) (by simp [results, Try.results20, go_sem, g0_, g1_, g2_, g3_, g4_, g5_, ndV]) rfl ⟨⟨n.id, n.has + amt, n.spent, n.earned + amt, sa2, sc2, seeL n.seen aid 0, n.pa, n.pc, n.peers⟩, (by rw [HM.out]), (by rw [HM.out] <;> rfl), (((hq.drop (i := 4) rfl).drop (i := 3) rfl).drop (i := 2) rfl).cast (by simp [ndL])⟩
theorem l6Money_any (n : Nd) (a : Ac) (w : World) (hs : n.seen.length ≤ 1048576) (hn : Near n.sa) (h : Star (ndL n) w) (hr : InN n) (ha : 1 ≤ a.amt ∧ a.amt ≤ 1000000000000) (hk : a.kind = 1 ∨ a.kind = 2) :
  Calls Try.prog 20 #[ndV n, a.v] w fun e w' => MoneyEnd n a w e w' := by
 obtain ⟨kd, aid, ato, amt, m⟩ := a
 by_cases q : 0 ≤ seenV n.seen aid
 ·exact money_seen n kd aid ato amt m w hs hn h hr ha q
 by_cases q1 : n.seen.length = 40
 ·exact money_full n kd aid ato amt m w hs hn h hr ha q q1
 rcases hk with hk | hk
 ·have hk : kd = 1 := hk
  subst hk
  by_cases q4 : n.has < amt
  ·exact money_s4 n aid ato amt m w hs hn h hr ha q q1 q4
  by_cases q5 : 1000000000000 < n.spent + amt
  ·exact money_s6 n aid ato amt m w hs hn h hr ha q q1 q4 q5
  exact money_s0 n aid ato amt m w hs hn h hr ha q q1 q4 q5
 ·have hk : kd = 2 := hk
  subst hk
  by_cases q4 : 10000000000000 < n.has + amt
  ·exact money_e6a n aid ato amt m w hs hn h hr ha q q1 q4
  by_cases q5 : 1000000000000 < n.earned + amt
  ·exact money_e6b n aid ato amt m w hs hn h hr ha q q1 q4 q5
  exact money_e0 n aid ato amt m w hs hn h hr ha q q1 q4 q5
end Go.Proofs.Ytkcpoibhlnjldaa
