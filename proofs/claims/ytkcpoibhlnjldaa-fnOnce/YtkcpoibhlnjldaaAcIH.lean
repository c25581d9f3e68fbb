/- The contract of the program's Acted. -/
import Derived.Test.YtkcpoibhlnjldaaAcIG
import Derived.Test.YtkcpoibhlnjldaaAcS9
namespace Go.Proofs.Ytkcpoibhlnjldaa
open Go.Value renaming int → J, slice → V
open Go.IntKind renaming i64 → Z
open Go.ChangeShapes Go.WideShapes Go.ChangeAt Go.RowKit
set_option linter.unusedVariables false
set_option maxRecDepth 100000
theorem actM_do {D : NdD} {a : Ac} (h : nodeB D = true) (h2 : actB D.id a = true) : actM D a = doM D a := by
 unfold actM
 rw [if_neg (by rw [h]; simp), if_neg (by rw [h2]; simp)]
 rfl
theorem nodeB_of {n n2 : Nd} (e : n2.d = n.d) (h : nodeB n.d = true) : nodeB n2.d = true := by rw [e]; exact h
/-- the list of what was answered, as a row that may be written -/
theorem Pool.ofR {F : List Nat} {w x : World} {S : List (List Rs)} (h : Pool F w S x) {i j : Nat} {n : Nd} (hij : i ≠ j) (hi : S[i]? = some (ndR n)) (hj : S[j]? = some []) : Pool F w (S.set i (ndL n)) x := by
 have hl : i < S.length := (List.getElem?_eq_some_iff.1 hi).1
 have hs := h.get hi
 have hr : x.ownsRow 0 70 2 (V n.sa n.seen.length n.sc) n.seen.length (n.seen.flatMap snCells) := hs.all (row 70 2 (V n.sa n.seen.length n.sc) n.seen.length (n.seen.flatMap snCells)) (by simp [ndR])
 obtain ⟨a, cap, e, st, hb⟩ := Star.of_row snLen hr
 simp only [Value.slice.injEq, true_and] at e
 obtain ⟨rfl, rfl⟩ := e
 have hsub : ∀ b ∈ fps [orow 2 snCells n.sa n.sc n.seen], b ∈ fps [row 70 2 (V n.sa n.seen.length n.sc) n.seen.length (n.seen.flatMap snCells)] := fun b q => by rw [fps_one, row_fp]; exact hb b q
 refine h.step hi (Fr.refl _ _) ?_ (fun b q => .inl ?_)
 ·refine Star.app (a := [orow 2 snCells n.sa n.sc n.seen]) st (Star.right (a := [row 70 2 (V n.sa n.seen.length n.sc) n.seen.length (n.seen.flatMap snCells)]) hs) (fun c hc => ?_)
  exact hs.apart (a := [row 70 2 (V n.sa n.seen.length n.sc) n.seen.length (n.seen.flatMap snCells)]) c (hsub c hc)
 ·rw [ndL, fps_cons] at q
  rw [ndR, fps_cons]
  rcases List.mem_append.1 q with q | q
  ·exact List.mem_append.2 (.inl (by have := hsub b (by rw [fps_one]; exact q); rwa [fps_one] at this))
  ·exact List.mem_append.2 (.inr q)
set_option maxHeartbeats 4000000 in
theorem impl_wrong (n : Nd) (kd aid ato amt m_fr m_to m_kd m_seq m_amt : Int) (w : World) (hs : SmN n) (hn0 : n.sa = none → n.sc = 0) (hq0 : n.pa = none → n.pc = 0) (hp0 : ∀ p ∈ n.peers, p.a = none → p.cap = 0) (h : NodeAt w n) (hno : nodeB n.d = false)  :
  Calls Try.prog 7 #[.agg #[J Z n.id, J Z n.has, J Z n.spent, J Z n.earned, V n.sa n.seen.length n.sc, V n.pa n.peers.length n.pc], .agg #[J Z kd, J Z aid, J Z ato, J Z amt, J Z m_fr, J Z m_to, J Z m_kd, J Z m_seq, J Z m_amt]] w fun e w' => ActedEnd [] (actM n.d (⟨kd, aid, ato, amt, ⟨m_fr, m_to, m_kd, m_seq, m_amt⟩⟩ : Ac)) w e w' := by
 have HM : Hid (actM n.d (⟨kd, aid, ato, amt, ⟨m_fr, m_to, m_kd, m_seq, m_amt⟩⟩ : Ac) = (zeroD, [], 1)) := hide (by
  unfold actM; rw [if_pos hno])
 have HS : Hid _ := hide hs
 have HL : Hid _ := hide h
 have HO : Hid _ := hide hno
 have HP0 : Hid _ := hide hp0
 obtain ⟨W, hW⟩ : ∃ W, W = ((w.alloc (.cells #[J Z n.id, J Z n.has, J Z n.spent, J Z n.earned, V n.sa n.seen.length n.sc, V n.pa n.peers.length n.pc] 27)).alloc (.cells #[J Z kd, J Z aid, J Z ato, J Z amt, J Z m_fr, J Z m_to, J Z m_kd, J Z m_seq, J Z m_amt] 31)).alloc (.cells #[J Z 0, J Z 0, J Z 0, J Z 0, V none 0 0, V none 0 0] 27) := ⟨_, rfl⟩
 have s1 : (w.alloc (.cells #[J Z n.id, J Z n.has, J Z n.spent, J Z n.earned, V n.sa n.seen.length n.sc, V n.pa n.peers.length n.pc] 27)).heap.size = w.heap.size + 1 := by simp
 have s2 : ((w.alloc (.cells #[J Z n.id, J Z n.has, J Z n.spent, J Z n.earned, V n.sa n.seen.length n.sc, V n.pa n.peers.length n.pc] 27)).alloc (.cells #[J Z kd, J Z aid, J Z ato, J Z amt, J Z m_fr, J Z m_to, J Z m_kd, J Z m_seq, J Z m_amt] 31)).heap.size = w.heap.size + 1 + 1 := by simp
 have HP : Hid (Pool [] w [[], [blk w.heap.size [J Z n.id, J Z n.has, J Z n.spent, J Z n.earned, V n.sa n.seen.length n.sc, V n.pa n.peers.length n.pc]], [blk (w.heap.size + 1) [J Z kd, J Z aid, J Z ato, J Z amt, J Z m_fr, J Z m_to, J Z m_kd, J Z m_seq, J Z m_amt]], [blk (w.heap.size + 1 + 1) [J Z 0, J Z 0, J Z 0, J Z 0, V none 0 0, V none 0 0]], [], [], []] W) := hide (by
  rw [hW, ← s2, ← s1]
  exact (((Pool.start w [[], [], [], [], [], [], []] rfl).newBlk (i := 1) rfl [J Z n.id, J Z n.has, J Z n.spent, J Z n.earned, V n.sa n.seen.length n.sc, V n.pa n.peers.length n.pc] 27).newBlk (i := 2) rfl [J Z kd, J Z aid, J Z ato, J Z amt, J Z m_fr, J Z m_to, J Z m_kd, J Z m_seq, J Z m_amt] 31).newBlk (i := 3) rfl [J Z 0, J Z 0, J Z 0, J Z 0, V none 0 0, V none 0 0] 27)
 have HW : Hid (((w.alloc (.cells #[J Z n.id, J Z n.has, J Z n.spent, J Z n.earned, V n.sa n.seen.length n.sc, V n.pa n.peers.length n.pc] 27)).alloc (.cells #[J Z kd, J Z aid, J Z ato, J Z amt, J Z m_fr, J Z m_to, J Z m_kd, J Z m_seq, J Z m_amt] 31)).alloc (.cells #[J Z 0, J Z 0, J Z 0, J Z 0, V none 0 0, V none 0 0] 27) = W) := hide hW.symm
 clear hW s1 s2 hs h hno hp0
 go_enter Try.func7, Try.ntmps7
 go_wp2_with fail
 rw [HW.out]
 refine (implNodeOk_any _ _ _ _ _ n.seen _ _ n.peers _ W HS.out.1 HS.out.2.1 HS.out.2.2 (HL.out.seen.below HP.out.below) (HL.out.peers.below HP.out.below)).mono ?_
 rw [show nodeB ⟨n.id, n.has, n.spent, n.earned, n.seen, n.peers.map Pr.d⟩ = false from HO.out]
 rintro e w1 ⟨rfl, hb1⟩
 have HP1 : Hid (Pool [] w [[], [blk w.heap.size [J Z n.id, J Z n.has, J Z n.spent, J Z n.earned, V n.sa n.seen.length n.sc, V n.pa n.peers.length n.pc]], [blk (w.heap.size + 1) [J Z kd, J Z aid, J Z ato, J Z amt, J Z m_fr, J Z m_to, J Z m_kd, J Z m_seq, J Z m_amt]], [blk (w.heap.size + 1 + 1) [J Z 0, J Z 0, J Z 0, J Z 0, V none 0 0, V none 0 0]], [], [], []] w1) := hide (HP.out.keep hb1)
 clear hb1 HP HW
 have ny0 : w1.cell? ⟨w.heap.size + 1 + 1, 0, none⟩ = some (J Z 0) := (HP1.out.blkAt (i := 3) rfl).c 0 _ rfl
 have ny1 : w1.cell? ⟨w.heap.size + 1 + 1, 1, none⟩ = some (J Z 0) := (HP1.out.blkAt (i := 3) rfl).c 1 _ rfl
 have ny2 : w1.cell? ⟨w.heap.size + 1 + 1, 2, none⟩ = some (J Z 0) := (HP1.out.blkAt (i := 3) rfl).c 2 _ rfl
 have ny3 : w1.cell? ⟨w.heap.size + 1 + 1, 3, none⟩ = some (J Z 0) := (HP1.out.blkAt (i := 3) rfl).c 3 _ rfl
 have ny4 : w1.cell? ⟨w.heap.size + 1 + 1, 4, none⟩ = some (V none 0 0) := (HP1.out.blkAt (i := 3) rfl).c 4 _ rfl
 have ny5 : w1.cell? ⟨w.heap.size + 1 + 1, 5, none⟩ = some (V none 0 0) := (HP1.out.blkAt (i := 3) rfl).c 5 _ rfl
 have zny0 : w1.frozen? ⟨w.heap.size + 1 + 1, 0, none⟩ = false := (HP1.out.blkAt (i := 3) rfl).f 0
 have zny1 : w1.frozen? ⟨w.heap.size + 1 + 1, 1, none⟩ = false := (HP1.out.blkAt (i := 3) rfl).f 1
 have zny2 : w1.frozen? ⟨w.heap.size + 1 + 1, 2, none⟩ = false := (HP1.out.blkAt (i := 3) rfl).f 2
 have zny3 : w1.frozen? ⟨w.heap.size + 1 + 1, 3, none⟩ = false := (HP1.out.blkAt (i := 3) rfl).f 3
 have zny4 : w1.frozen? ⟨w.heap.size + 1 + 1, 4, none⟩ = false := (HP1.out.blkAt (i := 3) rfl).f 4
 have zny5 : w1.frozen? ⟨w.heap.size + 1 + 1, 5, none⟩ = false := (HP1.out.blkAt (i := 3) rfl).f 5
 have HQ : Hid _ := hide (HP1.out.set6 (i := 3) rfl (J Z 0) (J Z 0) (J Z 0) (J Z 0) (V none 0 0) (V none 0 0))
 go_wp2
 refine name_post (fun W9 hW9 => ?_)
 have hq := HQ.out
 rw [← hW9] at hq
 have z_ := hq.blkAt (i := 3) rfl
 have g0_ := z_.c 0 _ rfl
 have g1_ := z_.c 1 _ rfl
 have g2_ := z_.c 2 _ rfl
 have g3_ := z_.c 3 _ rfl
 have g4_ := z_.c 4 _ rfl
 have g5_ := z_.c 5 _ rfl
 have hq2 := ((hq.noMsg (i := 6) rfl).new (i := 0) rfl (Below.refl _ _) (Star.ofOrow (sz := 2) (f := snCells) (g := 0) (a := none) (cap := 0) (l := []) (OwnRow.nil (fun _ => rfl))).1 (fun c hc => by simp [fps_one, orow_nil_fp] at hc)).new (i := 5) rfl (Below.refl _ _) (Star.ofOrow (sz := 4) (f := prCells) (g := 0) (a := none) (cap := 0) (l := []) (OwnRow.nil (fun _ => rfl))).1 (fun c hc => by simp [fps_one, orow_nil_fp] at hc)
 exact bodyPost_ret (v := .tuple #[ndV ⟨0, 0, 0, 0, none, 0, [], none, 0, []⟩, V none 0 0, J Z (1)]) (by simp [results, Try.results7, go_sem, g0_, g1_, g2_, g3_, g4_, g5_, ndV]) rfl ⟨⟨0, 0, 0, 0, none, 0, [], none, 0, []⟩, none, 0, (by rw [HM.out] <;> rfl), (by rw [HM.out] <;> exact rfl), (by
  rw [HM.out]
  exact ((((hq2.drop (i := 4) rfl).drop (i := 3) rfl).drop (i := 2) rfl).drop (i := 1) rfl).cast (by simp [ndL, endsL]))⟩
set_option maxHeartbeats 4000000 in
theorem impl_form (n : Nd) (kd aid ato amt m_fr m_to m_kd m_seq m_amt : Int) (w : World) (hs : SmN n) (hn0 : n.sa = none → n.sc = 0) (hq0 : n.pa = none → n.pc = 0) (hp0 : ∀ p ∈ n.peers, p.a = none → p.cap = 0) (h : NodeAt w n) (hno : nodeB n.d = true) (hfo : actB n.id (⟨kd, aid, ato, amt, ⟨m_fr, m_to, m_kd, m_seq, m_amt⟩⟩ : Ac) = false) :
  Calls Try.prog 7 #[.agg #[J Z n.id, J Z n.has, J Z n.spent, J Z n.earned, V n.sa n.seen.length n.sc, V n.pa n.peers.length n.pc], .agg #[J Z kd, J Z aid, J Z ato, J Z amt, J Z m_fr, J Z m_to, J Z m_kd, J Z m_seq, J Z m_amt]] w fun e w' => ActedEnd [] (actM n.d (⟨kd, aid, ato, amt, ⟨m_fr, m_to, m_kd, m_seq, m_amt⟩⟩ : Ac)) w e w' := by
 have HM : Hid (actM n.d (⟨kd, aid, ato, amt, ⟨m_fr, m_to, m_kd, m_seq, m_amt⟩⟩ : Ac) = (n.d, [], 2)) := hide (by
  unfold actM; rw [if_neg (by rw [hno]; simp), if_pos (show actB n.d.id _ = false from hfo)])
 have HS : Hid _ := hide hs
 have HL : Hid _ := hide h
 have HO : Hid _ := hide hno
 have HP0 : Hid _ := hide hp0
 obtain ⟨W, hW⟩ : ∃ W, W = ((w.alloc (.cells #[J Z n.id, J Z n.has, J Z n.spent, J Z n.earned, V n.sa n.seen.length n.sc, V n.pa n.peers.length n.pc] 27)).alloc (.cells #[J Z kd, J Z aid, J Z ato, J Z amt, J Z m_fr, J Z m_to, J Z m_kd, J Z m_seq, J Z m_amt] 31)).alloc (.cells #[J Z 0, J Z 0, J Z 0, J Z 0, V none 0 0, V none 0 0] 27) := ⟨_, rfl⟩
 have s1 : (w.alloc (.cells #[J Z n.id, J Z n.has, J Z n.spent, J Z n.earned, V n.sa n.seen.length n.sc, V n.pa n.peers.length n.pc] 27)).heap.size = w.heap.size + 1 := by simp
 have s2 : ((w.alloc (.cells #[J Z n.id, J Z n.has, J Z n.spent, J Z n.earned, V n.sa n.seen.length n.sc, V n.pa n.peers.length n.pc] 27)).alloc (.cells #[J Z kd, J Z aid, J Z ato, J Z amt, J Z m_fr, J Z m_to, J Z m_kd, J Z m_seq, J Z m_amt] 31)).heap.size = w.heap.size + 1 + 1 := by simp
 have HP : Hid (Pool [] w [[], [blk w.heap.size [J Z n.id, J Z n.has, J Z n.spent, J Z n.earned, V n.sa n.seen.length n.sc, V n.pa n.peers.length n.pc]], [blk (w.heap.size + 1) [J Z kd, J Z aid, J Z ato, J Z amt, J Z m_fr, J Z m_to, J Z m_kd, J Z m_seq, J Z m_amt]], [blk (w.heap.size + 1 + 1) [J Z 0, J Z 0, J Z 0, J Z 0, V none 0 0, V none 0 0]], [], [], []] W) := hide (by
  rw [hW, ← s2, ← s1]
  exact (((Pool.start w [[], [], [], [], [], [], []] rfl).newBlk (i := 1) rfl [J Z n.id, J Z n.has, J Z n.spent, J Z n.earned, V n.sa n.seen.length n.sc, V n.pa n.peers.length n.pc] 27).newBlk (i := 2) rfl [J Z kd, J Z aid, J Z ato, J Z amt, J Z m_fr, J Z m_to, J Z m_kd, J Z m_seq, J Z m_amt] 31).newBlk (i := 3) rfl [J Z 0, J Z 0, J Z 0, J Z 0, V none 0 0, V none 0 0] 27)
 have HW : Hid (((w.alloc (.cells #[J Z n.id, J Z n.has, J Z n.spent, J Z n.earned, V n.sa n.seen.length n.sc, V n.pa n.peers.length n.pc] 27)).alloc (.cells #[J Z kd, J Z aid, J Z ato, J Z amt, J Z m_fr, J Z m_to, J Z m_kd, J Z m_seq, J Z m_amt] 31)).alloc (.cells #[J Z 0, J Z 0, J Z 0, J Z 0, V none 0 0, V none 0 0] 27) = W) := hide hW.symm
 have HF : Hid _ := hide hfo
 clear hfo
 clear hW s1 s2 hs h hno hp0
 go_enter Try.func7, Try.ntmps7
 go_wp2_with fail
 rw [HW.out]
 refine (implNodeOk_any _ _ _ _ _ n.seen _ _ n.peers _ W HS.out.1 HS.out.2.1 HS.out.2.2 (HL.out.seen.below HP.out.below) (HL.out.peers.below HP.out.below)).mono ?_
 rw [show nodeB ⟨n.id, n.has, n.spent, n.earned, n.seen, n.peers.map Pr.d⟩ = true from HO.out]
 rintro e w1 ⟨rfl, hb1⟩
 have HP1 : Hid (Pool [] w [[], [blk w.heap.size [J Z n.id, J Z n.has, J Z n.spent, J Z n.earned, V n.sa n.seen.length n.sc, V n.pa n.peers.length n.pc]], [blk (w.heap.size + 1) [J Z kd, J Z aid, J Z ato, J Z amt, J Z m_fr, J Z m_to, J Z m_kd, J Z m_seq, J Z m_amt]], [blk (w.heap.size + 1 + 1) [J Z 0, J Z 0, J Z 0, J Z 0, V none 0 0, V none 0 0]], [], [], []] w1) := hide (HP.out.keep hb1)
 clear hb1 HP HW
 have nc0 : w1.cell? ⟨w.heap.size, 0, none⟩ = some (J Z n.id) := (HP1.out.blkAt (i := 1) rfl).c 0 _ rfl
 have nc1 : w1.cell? ⟨w.heap.size, 1, none⟩ = some (J Z n.has) := (HP1.out.blkAt (i := 1) rfl).c 1 _ rfl
 have nc2 : w1.cell? ⟨w.heap.size, 2, none⟩ = some (J Z n.spent) := (HP1.out.blkAt (i := 1) rfl).c 2 _ rfl
 have nc3 : w1.cell? ⟨w.heap.size, 3, none⟩ = some (J Z n.earned) := (HP1.out.blkAt (i := 1) rfl).c 3 _ rfl
 have nc4 : w1.cell? ⟨w.heap.size, 4, none⟩ = some (V n.sa n.seen.length n.sc) := (HP1.out.blkAt (i := 1) rfl).c 4 _ rfl
 have nc5 : w1.cell? ⟨w.heap.size, 5, none⟩ = some (V n.pa n.peers.length n.pc) := (HP1.out.blkAt (i := 1) rfl).c 5 _ rfl
 go_wp2_with fail
 refine (nodeCopy_any n w1 HS.out hn0 hq0 HP0.out (HL.out.below HP1.out.below)).mono ?_
 rintro e w2 ⟨n2, rfl, hd, hP2⟩
 have HD : Hid _ := hide hd
 have HP3 := (HP1.out.call (i := 0) (rs := []) (rs' := ndR n2) rfl hP2).newBlk (i := 4) rfl [J Z n2.id, J Z n2.has, J Z n2.spent, J Z n2.earned, V n2.sa n2.seen.length n2.sc, V n2.pa n2.peers.length n2.pc] 27
 obtain ⟨B, hB⟩ : ∃ B, B = w2.heap.size := ⟨_, rfl⟩
 obtain ⟨w3, hw3⟩ : ∃ w3, w3 = w2.alloc (.cells #[J Z n2.id, J Z n2.has, J Z n2.spent, J Z n2.earned, V n2.sa n2.seen.length n2.sc, V n2.pa n2.peers.length n2.pc] 27) := ⟨_, rfl⟩
 have HP4 : Hid (Pool [] w [ndR n2, [blk w.heap.size [J Z n.id, J Z n.has, J Z n.spent, J Z n.earned, V n.sa n.seen.length n.sc, V n.pa n.peers.length n.pc]], [blk (w.heap.size + 1) [J Z kd, J Z aid, J Z ato, J Z amt, J Z m_fr, J Z m_to, J Z m_kd, J Z m_seq, J Z m_amt]], [blk (w.heap.size + 1 + 1) [J Z 0, J Z 0, J Z 0, J Z 0, V none 0 0, V none 0 0]], [blk B [J Z n2.id, J Z n2.has, J Z n2.spent, J Z n2.earned, V n2.sa n2.seen.length n2.sc, V n2.pa n2.peers.length n2.pc]], [], []] w3) := hide (by rw [hB, hw3]; exact HP3)
 have HW3 : Hid _ := hide hw3
 have HBB : Hid _ := hide hB
 have na0 : (w2.alloc (.cells #[J Z n2.id, J Z n2.has, J Z n2.spent, J Z n2.earned, V n2.sa n2.seen.length n2.sc, V n2.pa n2.peers.length n2.pc] 27)).cell? ⟨w.heap.size + 1, 0, none⟩ = some (J Z kd) := (HP3.blkAt (i := 2) rfl).c 0 _ rfl
 have na1 : (w2.alloc (.cells #[J Z n2.id, J Z n2.has, J Z n2.spent, J Z n2.earned, V n2.sa n2.seen.length n2.sc, V n2.pa n2.peers.length n2.pc] 27)).cell? ⟨w.heap.size + 1, 1, none⟩ = some (J Z aid) := (HP3.blkAt (i := 2) rfl).c 1 _ rfl
 have na2 : (w2.alloc (.cells #[J Z n2.id, J Z n2.has, J Z n2.spent, J Z n2.earned, V n2.sa n2.seen.length n2.sc, V n2.pa n2.peers.length n2.pc] 27)).cell? ⟨w.heap.size + 1, 2, none⟩ = some (J Z ato) := (HP3.blkAt (i := 2) rfl).c 2 _ rfl
 have na3 : (w2.alloc (.cells #[J Z n2.id, J Z n2.has, J Z n2.spent, J Z n2.earned, V n2.sa n2.seen.length n2.sc, V n2.pa n2.peers.length n2.pc] 27)).cell? ⟨w.heap.size + 1, 3, none⟩ = some (J Z amt) := (HP3.blkAt (i := 2) rfl).c 3 _ rfl
 have na4 : (w2.alloc (.cells #[J Z n2.id, J Z n2.has, J Z n2.spent, J Z n2.earned, V n2.sa n2.seen.length n2.sc, V n2.pa n2.peers.length n2.pc] 27)).cell? ⟨w.heap.size + 1, 4, none⟩ = some (J Z m_fr) := (HP3.blkAt (i := 2) rfl).c 4 _ rfl
 have na5 : (w2.alloc (.cells #[J Z n2.id, J Z n2.has, J Z n2.spent, J Z n2.earned, V n2.sa n2.seen.length n2.sc, V n2.pa n2.peers.length n2.pc] 27)).cell? ⟨w.heap.size + 1, 5, none⟩ = some (J Z m_to) := (HP3.blkAt (i := 2) rfl).c 5 _ rfl
 have na6 : (w2.alloc (.cells #[J Z n2.id, J Z n2.has, J Z n2.spent, J Z n2.earned, V n2.sa n2.seen.length n2.sc, V n2.pa n2.peers.length n2.pc] 27)).cell? ⟨w.heap.size + 1, 6, none⟩ = some (J Z m_kd) := (HP3.blkAt (i := 2) rfl).c 6 _ rfl
 have na7 : (w2.alloc (.cells #[J Z n2.id, J Z n2.has, J Z n2.spent, J Z n2.earned, V n2.sa n2.seen.length n2.sc, V n2.pa n2.peers.length n2.pc] 27)).cell? ⟨w.heap.size + 1, 7, none⟩ = some (J Z m_seq) := (HP3.blkAt (i := 2) rfl).c 7 _ rfl
 have na8 : (w2.alloc (.cells #[J Z n2.id, J Z n2.has, J Z n2.spent, J Z n2.earned, V n2.sa n2.seen.length n2.sc, V n2.pa n2.peers.length n2.pc] 27)).cell? ⟨w.heap.size + 1, 8, none⟩ = some (J Z m_amt) := (HP3.blkAt (i := 2) rfl).c 8 _ rfl
 have nb0 : (w2.alloc (.cells #[J Z n2.id, J Z n2.has, J Z n2.spent, J Z n2.earned, V n2.sa n2.seen.length n2.sc, V n2.pa n2.peers.length n2.pc] 27)).cell? ⟨w2.heap.size, 0, none⟩ = some (J Z n2.id) := (HP3.blkAt (i := 4) rfl).c 0 _ rfl
 have nb1 : (w2.alloc (.cells #[J Z n2.id, J Z n2.has, J Z n2.spent, J Z n2.earned, V n2.sa n2.seen.length n2.sc, V n2.pa n2.peers.length n2.pc] 27)).cell? ⟨w2.heap.size, 1, none⟩ = some (J Z n2.has) := (HP3.blkAt (i := 4) rfl).c 1 _ rfl
 have nb2 : (w2.alloc (.cells #[J Z n2.id, J Z n2.has, J Z n2.spent, J Z n2.earned, V n2.sa n2.seen.length n2.sc, V n2.pa n2.peers.length n2.pc] 27)).cell? ⟨w2.heap.size, 2, none⟩ = some (J Z n2.spent) := (HP3.blkAt (i := 4) rfl).c 2 _ rfl
 have nb3 : (w2.alloc (.cells #[J Z n2.id, J Z n2.has, J Z n2.spent, J Z n2.earned, V n2.sa n2.seen.length n2.sc, V n2.pa n2.peers.length n2.pc] 27)).cell? ⟨w2.heap.size, 3, none⟩ = some (J Z n2.earned) := (HP3.blkAt (i := 4) rfl).c 3 _ rfl
 have nb4 : (w2.alloc (.cells #[J Z n2.id, J Z n2.has, J Z n2.spent, J Z n2.earned, V n2.sa n2.seen.length n2.sc, V n2.pa n2.peers.length n2.pc] 27)).cell? ⟨w2.heap.size, 4, none⟩ = some (V n2.sa n2.seen.length n2.sc) := (HP3.blkAt (i := 4) rfl).c 4 _ rfl
 have nb5 : (w2.alloc (.cells #[J Z n2.id, J Z n2.has, J Z n2.spent, J Z n2.earned, V n2.sa n2.seen.length n2.sc, V n2.pa n2.peers.length n2.pc] 27)).cell? ⟨w2.heap.size, 5, none⟩ = some (V n2.pa n2.peers.length n2.pc) := (HP3.blkAt (i := 4) rfl).c 5 _ rfl
 clear hw3 hB HP3 hP2 hd
 unfold ndV
 go_wp2_with fail
 rw [← HBB.out, ← HW3.out]
 refine (actOf_any (⟨kd, aid, ato, amt, ⟨m_fr, m_to, m_kd, m_seq, m_amt⟩⟩ : Ac) n2.id w3).mono ?_
 rw [show actB n2.id (⟨kd, aid, ato, amt, ⟨m_fr, m_to, m_kd, m_seq, m_amt⟩⟩ : Ac) = false from by rw [show n2.id = n.id from congrArg NdD.id HD.out]; exact HF.out]
 rintro e w4 ⟨rfl, hb4⟩
 have HP5 : Hid (Pool [] w [ndR n2, [blk w.heap.size [J Z n.id, J Z n.has, J Z n.spent, J Z n.earned, V n.sa n.seen.length n.sc, V n.pa n.peers.length n.pc]], [blk (w.heap.size + 1) [J Z kd, J Z aid, J Z ato, J Z amt, J Z m_fr, J Z m_to, J Z m_kd, J Z m_seq, J Z m_amt]], [blk (w.heap.size + 1 + 1) [J Z 0, J Z 0, J Z 0, J Z 0, V none 0 0, V none 0 0]], [blk B [J Z n2.id, J Z n2.has, J Z n2.spent, J Z n2.earned, V n2.sa n2.seen.length n2.sc, V n2.pa n2.peers.length n2.pc]], [], []] w4) := hide (HP4.out.keep hb4)
 clear hb4 HP4 HW3 HBB HP1
 have nb0 : w4.cell? ⟨B, 0, none⟩ = some (J Z n2.id) := (HP5.out.blkAt (i := 4) rfl).c 0 _ rfl
 have nb1 : w4.cell? ⟨B, 1, none⟩ = some (J Z n2.has) := (HP5.out.blkAt (i := 4) rfl).c 1 _ rfl
 have nb2 : w4.cell? ⟨B, 2, none⟩ = some (J Z n2.spent) := (HP5.out.blkAt (i := 4) rfl).c 2 _ rfl
 have nb3 : w4.cell? ⟨B, 3, none⟩ = some (J Z n2.earned) := (HP5.out.blkAt (i := 4) rfl).c 3 _ rfl
 have nb4 : w4.cell? ⟨B, 4, none⟩ = some (V n2.sa n2.seen.length n2.sc) := (HP5.out.blkAt (i := 4) rfl).c 4 _ rfl
 have nb5 : w4.cell? ⟨B, 5, none⟩ = some (V n2.pa n2.peers.length n2.pc) := (HP5.out.blkAt (i := 4) rfl).c 5 _ rfl
 have ny0 : w4.cell? ⟨w.heap.size + 1 + 1, 0, none⟩ = some (J Z 0) := (HP5.out.blkAt (i := 3) rfl).c 0 _ rfl
 have ny1 : w4.cell? ⟨w.heap.size + 1 + 1, 1, none⟩ = some (J Z 0) := (HP5.out.blkAt (i := 3) rfl).c 1 _ rfl
 have ny2 : w4.cell? ⟨w.heap.size + 1 + 1, 2, none⟩ = some (J Z 0) := (HP5.out.blkAt (i := 3) rfl).c 2 _ rfl
 have ny3 : w4.cell? ⟨w.heap.size + 1 + 1, 3, none⟩ = some (J Z 0) := (HP5.out.blkAt (i := 3) rfl).c 3 _ rfl
 have ny4 : w4.cell? ⟨w.heap.size + 1 + 1, 4, none⟩ = some (V none 0 0) := (HP5.out.blkAt (i := 3) rfl).c 4 _ rfl
 have ny5 : w4.cell? ⟨w.heap.size + 1 + 1, 5, none⟩ = some (V none 0 0) := (HP5.out.blkAt (i := 3) rfl).c 5 _ rfl
 have zny0 : w4.frozen? ⟨w.heap.size + 1 + 1, 0, none⟩ = false := (HP5.out.blkAt (i := 3) rfl).f 0
 have zny1 : w4.frozen? ⟨w.heap.size + 1 + 1, 1, none⟩ = false := (HP5.out.blkAt (i := 3) rfl).f 1
 have zny2 : w4.frozen? ⟨w.heap.size + 1 + 1, 2, none⟩ = false := (HP5.out.blkAt (i := 3) rfl).f 2
 have zny3 : w4.frozen? ⟨w.heap.size + 1 + 1, 3, none⟩ = false := (HP5.out.blkAt (i := 3) rfl).f 3
 have zny4 : w4.frozen? ⟨w.heap.size + 1 + 1, 4, none⟩ = false := (HP5.out.blkAt (i := 3) rfl).f 4
 have zny5 : w4.frozen? ⟨w.heap.size + 1 + 1, 5, none⟩ = false := (HP5.out.blkAt (i := 3) rfl).f 5
 have HQ : Hid _ := hide (HP5.out.set6 (i := 3) rfl (J Z n2.id) (J Z n2.has) (J Z n2.spent) (J Z n2.earned) (V n2.sa n2.seen.length n2.sc) (V n2.pa n2.peers.length n2.pc))
 go_wp2
 refine name_post (fun W9 hW9 => ?_)
 have hq := HQ.out
 rw [← hW9] at hq
 have z_ := hq.blkAt (i := 3) rfl
 have g0_ := z_.c 0 _ rfl
 have g1_ := z_.c 1 _ rfl
 have g2_ := z_.c 2 _ rfl
 have g3_ := z_.c 3 _ rfl
 have g4_ := z_.c 4 _ rfl
 have g5_ := z_.c 5 _ rfl
 have hq2 := (hq.ofR (i := 0) (j := 6) (by decide) rfl rfl).noMsg (i := 6) rfl
 exact bodyPost_ret (v := .tuple #[ndV n2, V none 0 0, J Z (2)]) (by simp [results, Try.results7, go_sem, g0_, g1_, g2_, g3_, g4_, g5_, ndV]) rfl ⟨n2, none, 0, (by rw [HM.out] <;> rfl), (by rw [HM.out] <;> exact HD.out), (by
  rw [HM.out]
  exact ((((hq2.drop (i := 4) rfl).drop (i := 3) rfl).drop (i := 2) rfl).drop (i := 1) rfl).cast (by simp [ndL, endsL]))⟩
set_option maxHeartbeats 4000000 in
theorem impl_right (n : Nd) (kd aid ato amt m_fr m_to m_kd m_seq m_amt : Int) (w : World) (hs : SmN n) (hn0 : n.sa = none → n.sc = 0) (hq0 : n.pa = none → n.pc = 0) (hp0 : ∀ p ∈ n.peers, p.a = none → p.cap = 0) (h : NodeAt w n) (hno : nodeB n.d = true) (hfo : actB n.id (⟨kd, aid, ato, amt, ⟨m_fr, m_to, m_kd, m_seq, m_amt⟩⟩ : Ac) = true) :
  Calls Try.prog 7 #[.agg #[J Z n.id, J Z n.has, J Z n.spent, J Z n.earned, V n.sa n.seen.length n.sc, V n.pa n.peers.length n.pc], .agg #[J Z kd, J Z aid, J Z ato, J Z amt, J Z m_fr, J Z m_to, J Z m_kd, J Z m_seq, J Z m_amt]] w fun e w' => ActedEnd [] (actM n.d (⟨kd, aid, ato, amt, ⟨m_fr, m_to, m_kd, m_seq, m_amt⟩⟩ : Ac)) w e w' := by
 have HM : Hid (actM n.d (⟨kd, aid, ato, amt, ⟨m_fr, m_to, m_kd, m_seq, m_amt⟩⟩ : Ac) = doM n.d (⟨kd, aid, ato, amt, ⟨m_fr, m_to, m_kd, m_seq, m_amt⟩⟩ : Ac)) := hide (by
  exact actM_do hno hfo)
 have HS : Hid _ := hide hs
 have HL : Hid _ := hide h
 have HO : Hid _ := hide hno
 have HP0 : Hid _ := hide hp0
 obtain ⟨W, hW⟩ : ∃ W, W = ((w.alloc (.cells #[J Z n.id, J Z n.has, J Z n.spent, J Z n.earned, V n.sa n.seen.length n.sc, V n.pa n.peers.length n.pc] 27)).alloc (.cells #[J Z kd, J Z aid, J Z ato, J Z amt, J Z m_fr, J Z m_to, J Z m_kd, J Z m_seq, J Z m_amt] 31)).alloc (.cells #[J Z 0, J Z 0, J Z 0, J Z 0, V none 0 0, V none 0 0] 27) := ⟨_, rfl⟩
 have s1 : (w.alloc (.cells #[J Z n.id, J Z n.has, J Z n.spent, J Z n.earned, V n.sa n.seen.length n.sc, V n.pa n.peers.length n.pc] 27)).heap.size = w.heap.size + 1 := by simp
 have s2 : ((w.alloc (.cells #[J Z n.id, J Z n.has, J Z n.spent, J Z n.earned, V n.sa n.seen.length n.sc, V n.pa n.peers.length n.pc] 27)).alloc (.cells #[J Z kd, J Z aid, J Z ato, J Z amt, J Z m_fr, J Z m_to, J Z m_kd, J Z m_seq, J Z m_amt] 31)).heap.size = w.heap.size + 1 + 1 := by simp
 have HP : Hid (Pool [] w [[], [blk w.heap.size [J Z n.id, J Z n.has, J Z n.spent, J Z n.earned, V n.sa n.seen.length n.sc, V n.pa n.peers.length n.pc]], [blk (w.heap.size + 1) [J Z kd, J Z aid, J Z ato, J Z amt, J Z m_fr, J Z m_to, J Z m_kd, J Z m_seq, J Z m_amt]], [blk (w.heap.size + 1 + 1) [J Z 0, J Z 0, J Z 0, J Z 0, V none 0 0, V none 0 0]], [], [], []] W) := hide (by
  rw [hW, ← s2, ← s1]
  exact (((Pool.start w [[], [], [], [], [], [], []] rfl).newBlk (i := 1) rfl [J Z n.id, J Z n.has, J Z n.spent, J Z n.earned, V n.sa n.seen.length n.sc, V n.pa n.peers.length n.pc] 27).newBlk (i := 2) rfl [J Z kd, J Z aid, J Z ato, J Z amt, J Z m_fr, J Z m_to, J Z m_kd, J Z m_seq, J Z m_amt] 31).newBlk (i := 3) rfl [J Z 0, J Z 0, J Z 0, J Z 0, V none 0 0, V none 0 0] 27)
 have HW : Hid (((w.alloc (.cells #[J Z n.id, J Z n.has, J Z n.spent, J Z n.earned, V n.sa n.seen.length n.sc, V n.pa n.peers.length n.pc] 27)).alloc (.cells #[J Z kd, J Z aid, J Z ato, J Z amt, J Z m_fr, J Z m_to, J Z m_kd, J Z m_seq, J Z m_amt] 31)).alloc (.cells #[J Z 0, J Z 0, J Z 0, J Z 0, V none 0 0, V none 0 0] 27) = W) := hide hW.symm
 have HF : Hid _ := hide hfo
 clear hfo
 clear hW s1 s2 hs h hno hp0
 go_enter Try.func7, Try.ntmps7
 go_wp2_with fail
 rw [HW.out]
 refine (implNodeOk_any _ _ _ _ _ n.seen _ _ n.peers _ W HS.out.1 HS.out.2.1 HS.out.2.2 (HL.out.seen.below HP.out.below) (HL.out.peers.below HP.out.below)).mono ?_
 rw [show nodeB ⟨n.id, n.has, n.spent, n.earned, n.seen, n.peers.map Pr.d⟩ = true from HO.out]
 rintro e w1 ⟨rfl, hb1⟩
 have HP1 : Hid (Pool [] w [[], [blk w.heap.size [J Z n.id, J Z n.has, J Z n.spent, J Z n.earned, V n.sa n.seen.length n.sc, V n.pa n.peers.length n.pc]], [blk (w.heap.size + 1) [J Z kd, J Z aid, J Z ato, J Z amt, J Z m_fr, J Z m_to, J Z m_kd, J Z m_seq, J Z m_amt]], [blk (w.heap.size + 1 + 1) [J Z 0, J Z 0, J Z 0, J Z 0, V none 0 0, V none 0 0]], [], [], []] w1) := hide (HP.out.keep hb1)
 clear hb1 HP HW
 have nc0 : w1.cell? ⟨w.heap.size, 0, none⟩ = some (J Z n.id) := (HP1.out.blkAt (i := 1) rfl).c 0 _ rfl
 have nc1 : w1.cell? ⟨w.heap.size, 1, none⟩ = some (J Z n.has) := (HP1.out.blkAt (i := 1) rfl).c 1 _ rfl
 have nc2 : w1.cell? ⟨w.heap.size, 2, none⟩ = some (J Z n.spent) := (HP1.out.blkAt (i := 1) rfl).c 2 _ rfl
 have nc3 : w1.cell? ⟨w.heap.size, 3, none⟩ = some (J Z n.earned) := (HP1.out.blkAt (i := 1) rfl).c 3 _ rfl
 have nc4 : w1.cell? ⟨w.heap.size, 4, none⟩ = some (V n.sa n.seen.length n.sc) := (HP1.out.blkAt (i := 1) rfl).c 4 _ rfl
 have nc5 : w1.cell? ⟨w.heap.size, 5, none⟩ = some (V n.pa n.peers.length n.pc) := (HP1.out.blkAt (i := 1) rfl).c 5 _ rfl
 go_wp2_with fail
 refine (nodeCopy_any n w1 HS.out hn0 hq0 HP0.out (HL.out.below HP1.out.below)).mono ?_
 rintro e w2 ⟨n2, rfl, hd, hP2⟩
 have HD : Hid _ := hide hd
 have HP3 := (HP1.out.call (i := 0) (rs := []) (rs' := ndR n2) rfl hP2).newBlk (i := 4) rfl [J Z n2.id, J Z n2.has, J Z n2.spent, J Z n2.earned, V n2.sa n2.seen.length n2.sc, V n2.pa n2.peers.length n2.pc] 27
 obtain ⟨B, hB⟩ : ∃ B, B = w2.heap.size := ⟨_, rfl⟩
 obtain ⟨w3, hw3⟩ : ∃ w3, w3 = w2.alloc (.cells #[J Z n2.id, J Z n2.has, J Z n2.spent, J Z n2.earned, V n2.sa n2.seen.length n2.sc, V n2.pa n2.peers.length n2.pc] 27) := ⟨_, rfl⟩
 have HP4 : Hid (Pool [] w [ndR n2, [blk w.heap.size [J Z n.id, J Z n.has, J Z n.spent, J Z n.earned, V n.sa n.seen.length n.sc, V n.pa n.peers.length n.pc]], [blk (w.heap.size + 1) [J Z kd, J Z aid, J Z ato, J Z amt, J Z m_fr, J Z m_to, J Z m_kd, J Z m_seq, J Z m_amt]], [blk (w.heap.size + 1 + 1) [J Z 0, J Z 0, J Z 0, J Z 0, V none 0 0, V none 0 0]], [blk B [J Z n2.id, J Z n2.has, J Z n2.spent, J Z n2.earned, V n2.sa n2.seen.length n2.sc, V n2.pa n2.peers.length n2.pc]], [], []] w3) := hide (by rw [hB, hw3]; exact HP3)
 have HW3 : Hid _ := hide hw3
 have HBB : Hid _ := hide hB
 have na0 : (w2.alloc (.cells #[J Z n2.id, J Z n2.has, J Z n2.spent, J Z n2.earned, V n2.sa n2.seen.length n2.sc, V n2.pa n2.peers.length n2.pc] 27)).cell? ⟨w.heap.size + 1, 0, none⟩ = some (J Z kd) := (HP3.blkAt (i := 2) rfl).c 0 _ rfl
 have na1 : (w2.alloc (.cells #[J Z n2.id, J Z n2.has, J Z n2.spent, J Z n2.earned, V n2.sa n2.seen.length n2.sc, V n2.pa n2.peers.length n2.pc] 27)).cell? ⟨w.heap.size + 1, 1, none⟩ = some (J Z aid) := (HP3.blkAt (i := 2) rfl).c 1 _ rfl
 have na2 : (w2.alloc (.cells #[J Z n2.id, J Z n2.has, J Z n2.spent, J Z n2.earned, V n2.sa n2.seen.length n2.sc, V n2.pa n2.peers.length n2.pc] 27)).cell? ⟨w.heap.size + 1, 2, none⟩ = some (J Z ato) := (HP3.blkAt (i := 2) rfl).c 2 _ rfl
 have na3 : (w2.alloc (.cells #[J Z n2.id, J Z n2.has, J Z n2.spent, J Z n2.earned, V n2.sa n2.seen.length n2.sc, V n2.pa n2.peers.length n2.pc] 27)).cell? ⟨w.heap.size + 1, 3, none⟩ = some (J Z amt) := (HP3.blkAt (i := 2) rfl).c 3 _ rfl
 have na4 : (w2.alloc (.cells #[J Z n2.id, J Z n2.has, J Z n2.spent, J Z n2.earned, V n2.sa n2.seen.length n2.sc, V n2.pa n2.peers.length n2.pc] 27)).cell? ⟨w.heap.size + 1, 4, none⟩ = some (J Z m_fr) := (HP3.blkAt (i := 2) rfl).c 4 _ rfl
 have na5 : (w2.alloc (.cells #[J Z n2.id, J Z n2.has, J Z n2.spent, J Z n2.earned, V n2.sa n2.seen.length n2.sc, V n2.pa n2.peers.length n2.pc] 27)).cell? ⟨w.heap.size + 1, 5, none⟩ = some (J Z m_to) := (HP3.blkAt (i := 2) rfl).c 5 _ rfl
 have na6 : (w2.alloc (.cells #[J Z n2.id, J Z n2.has, J Z n2.spent, J Z n2.earned, V n2.sa n2.seen.length n2.sc, V n2.pa n2.peers.length n2.pc] 27)).cell? ⟨w.heap.size + 1, 6, none⟩ = some (J Z m_kd) := (HP3.blkAt (i := 2) rfl).c 6 _ rfl
 have na7 : (w2.alloc (.cells #[J Z n2.id, J Z n2.has, J Z n2.spent, J Z n2.earned, V n2.sa n2.seen.length n2.sc, V n2.pa n2.peers.length n2.pc] 27)).cell? ⟨w.heap.size + 1, 7, none⟩ = some (J Z m_seq) := (HP3.blkAt (i := 2) rfl).c 7 _ rfl
 have na8 : (w2.alloc (.cells #[J Z n2.id, J Z n2.has, J Z n2.spent, J Z n2.earned, V n2.sa n2.seen.length n2.sc, V n2.pa n2.peers.length n2.pc] 27)).cell? ⟨w.heap.size + 1, 8, none⟩ = some (J Z m_amt) := (HP3.blkAt (i := 2) rfl).c 8 _ rfl
 have nb0 : (w2.alloc (.cells #[J Z n2.id, J Z n2.has, J Z n2.spent, J Z n2.earned, V n2.sa n2.seen.length n2.sc, V n2.pa n2.peers.length n2.pc] 27)).cell? ⟨w2.heap.size, 0, none⟩ = some (J Z n2.id) := (HP3.blkAt (i := 4) rfl).c 0 _ rfl
 have nb1 : (w2.alloc (.cells #[J Z n2.id, J Z n2.has, J Z n2.spent, J Z n2.earned, V n2.sa n2.seen.length n2.sc, V n2.pa n2.peers.length n2.pc] 27)).cell? ⟨w2.heap.size, 1, none⟩ = some (J Z n2.has) := (HP3.blkAt (i := 4) rfl).c 1 _ rfl
 have nb2 : (w2.alloc (.cells #[J Z n2.id, J Z n2.has, J Z n2.spent, J Z n2.earned, V n2.sa n2.seen.length n2.sc, V n2.pa n2.peers.length n2.pc] 27)).cell? ⟨w2.heap.size, 2, none⟩ = some (J Z n2.spent) := (HP3.blkAt (i := 4) rfl).c 2 _ rfl
 have nb3 : (w2.alloc (.cells #[J Z n2.id, J Z n2.has, J Z n2.spent, J Z n2.earned, V n2.sa n2.seen.length n2.sc, V n2.pa n2.peers.length n2.pc] 27)).cell? ⟨w2.heap.size, 3, none⟩ = some (J Z n2.earned) := (HP3.blkAt (i := 4) rfl).c 3 _ rfl
 have nb4 : (w2.alloc (.cells #[J Z n2.id, J Z n2.has, J Z n2.spent, J Z n2.earned, V n2.sa n2.seen.length n2.sc, V n2.pa n2.peers.length n2.pc] 27)).cell? ⟨w2.heap.size, 4, none⟩ = some (V n2.sa n2.seen.length n2.sc) := (HP3.blkAt (i := 4) rfl).c 4 _ rfl
 have nb5 : (w2.alloc (.cells #[J Z n2.id, J Z n2.has, J Z n2.spent, J Z n2.earned, V n2.sa n2.seen.length n2.sc, V n2.pa n2.peers.length n2.pc] 27)).cell? ⟨w2.heap.size, 5, none⟩ = some (V n2.pa n2.peers.length n2.pc) := (HP3.blkAt (i := 4) rfl).c 5 _ rfl
 clear hw3 hB HP3 hP2 hd
 unfold ndV
 go_wp2_with fail
 rw [← HBB.out, ← HW3.out]
 refine (actOf_any (⟨kd, aid, ato, amt, ⟨m_fr, m_to, m_kd, m_seq, m_amt⟩⟩ : Ac) n2.id w3).mono ?_
 rw [show actB n2.id (⟨kd, aid, ato, amt, ⟨m_fr, m_to, m_kd, m_seq, m_amt⟩⟩ : Ac) = true from by rw [show n2.id = n.id from congrArg NdD.id HD.out]; exact HF.out]
 rintro e w4 ⟨rfl, hb4⟩
 have HP5 : Hid (Pool [] w [ndR n2, [blk w.heap.size [J Z n.id, J Z n.has, J Z n.spent, J Z n.earned, V n.sa n.seen.length n.sc, V n.pa n.peers.length n.pc]], [blk (w.heap.size + 1) [J Z kd, J Z aid, J Z ato, J Z amt, J Z m_fr, J Z m_to, J Z m_kd, J Z m_seq, J Z m_amt]], [blk (w.heap.size + 1 + 1) [J Z 0, J Z 0, J Z 0, J Z 0, V none 0 0, V none 0 0]], [blk B [J Z n2.id, J Z n2.has, J Z n2.spent, J Z n2.earned, V n2.sa n2.seen.length n2.sc, V n2.pa n2.peers.length n2.pc]], [], []] w4) := hide (HP4.out.keep hb4)
 clear hb4 HP4 HW3 HBB HP1
 have hst : Pool [] w [ndB B n2, [blk w.heap.size [J Z n.id, J Z n.has, J Z n.spent, J Z n.earned, V n.sa n.seen.length n.sc, V n.pa n.peers.length n.pc]], [blk (w.heap.size + 1) [J Z kd, J Z aid, J Z ato, J Z amt, J Z m_fr, J Z m_to, J Z m_kd, J Z m_seq, J Z m_amt]], [blk (w.heap.size + 1 + 1) [J Z 0, J Z 0, J Z 0, J Z 0, V none 0 0, V none 0 0]], [], []] w4 := HP5.out.perm (by
  simp only [ndB, ndCells, List.flatten_cons, List.flatten_nil, List.append_nil, List.cons_append, List.nil_append]
  exact (List.perm_append_comm (l₁ := ndR n2) (l₂ := [_, _, _, _])).trans (List.Perm.trans (List.perm_append_comm (l₁ := [_, _, _]) (l₂ := _ :: ndR n2)) (by simp)))
 have hfo2 : actB n2.id (⟨kd, aid, ato, amt, ⟨m_fr, m_to, m_kd, m_seq, m_amt⟩⟩ : Ac) = true := by rw [show n2.id = n.id from congrArg NdD.id HD.out]; exact HF.out
 obtain ⟨RR, hRR⟩ : ∃ RR, RR = doM n2.d (⟨kd, aid, ato, amt, ⟨m_fr, m_to, m_kd, m_seq, m_amt⟩⟩ : Ac) := ⟨_, rfl⟩
 have HRR : Hid (RR = doM n.d (⟨kd, aid, ato, amt, ⟨m_fr, m_to, m_kd, m_seq, m_amt⟩⟩ : Ac)) := hide (by rw [hRR, HD.out])
 rw [← HRR.out] at HM
 go_wp2_with fail
 refine (do_any B n2 (⟨kd, aid, ato, amt, ⟨m_fr, m_to, m_kd, m_seq, m_amt⟩⟩ : Ac) w4 (nodeB_of HD.out HO.out) (smN_of HD.out HS.out) (hst.get (i := 0) rfl) hfo2).mono ?_
 rintro e w5 ⟨n3, ma, mc, rfl, hd3, hP6⟩
 rw [← hRR] at hd3 hP6 ⊢
 have hp7 := hst.call (i := 0) rfl (hP6.cast (S' := [ndB B n3 ++ [orow 5 mgCells ma mc RR.2.1]]) (by simp))
 have HP8 : Hid (Pool [] w [ndR n3, [blk w.heap.size [J Z n.id, J Z n.has, J Z n.spent, J Z n.earned, V n.sa n.seen.length n.sc, V n.pa n.peers.length n.pc]], [blk (w.heap.size + 1) [J Z kd, J Z aid, J Z ato, J Z amt, J Z m_fr, J Z m_to, J Z m_kd, J Z m_seq, J Z m_amt]], [blk (w.heap.size + 1 + 1) [J Z 0, J Z 0, J Z 0, J Z 0, V none 0 0, V none 0 0]], [blk B [J Z n3.id, J Z n3.has, J Z n3.spent, J Z n3.earned, V n3.sa n3.seen.length n3.sc, V n3.pa n3.peers.length n3.pc]], [], [orow 5 mgCells ma mc RR.2.1]] w5) := hide (hp7.perm (by
  simp only [ndB, ndCells, List.set_cons_zero, List.flatten_cons, List.flatten_nil, List.append_nil, List.cons_append, List.nil_append, List.append_assoc]
  refine List.Perm.trans (List.Perm.cons _ (List.perm_append_comm (l₁ := ndR n3) (l₂ := [_, _, _, _]))) ?_
  refine List.Perm.trans ?_ (List.perm_append_comm (l₁ := ndR n3) (l₂ := [_, _, _, _, _])).symm
  simp only [List.cons_append, List.nil_append]
  exact (List.Perm.append_right (ndR n3) (List.perm_append_comm (l₁ := [_, _]) (l₂ := [_, _, _])))))
 have HD3 : Hid _ := hide hd3
 clear hst hp7 hP6 HP5 hd3 hfo2 hRR
 have nb0 : w5.cell? ⟨B, 0, none⟩ = some (J Z n3.id) := (HP8.out.blkAt (i := 4) rfl).c 0 _ rfl
 have nb1 : w5.cell? ⟨B, 1, none⟩ = some (J Z n3.has) := (HP8.out.blkAt (i := 4) rfl).c 1 _ rfl
 have nb2 : w5.cell? ⟨B, 2, none⟩ = some (J Z n3.spent) := (HP8.out.blkAt (i := 4) rfl).c 2 _ rfl
 have nb3 : w5.cell? ⟨B, 3, none⟩ = some (J Z n3.earned) := (HP8.out.blkAt (i := 4) rfl).c 3 _ rfl
 have nb4 : w5.cell? ⟨B, 4, none⟩ = some (V n3.sa n3.seen.length n3.sc) := (HP8.out.blkAt (i := 4) rfl).c 4 _ rfl
 have nb5 : w5.cell? ⟨B, 5, none⟩ = some (V n3.pa n3.peers.length n3.pc) := (HP8.out.blkAt (i := 4) rfl).c 5 _ rfl
 have ny0 : w5.cell? ⟨w.heap.size + 1 + 1, 0, none⟩ = some (J Z 0) := (HP8.out.blkAt (i := 3) rfl).c 0 _ rfl
 have ny1 : w5.cell? ⟨w.heap.size + 1 + 1, 1, none⟩ = some (J Z 0) := (HP8.out.blkAt (i := 3) rfl).c 1 _ rfl
 have ny2 : w5.cell? ⟨w.heap.size + 1 + 1, 2, none⟩ = some (J Z 0) := (HP8.out.blkAt (i := 3) rfl).c 2 _ rfl
 have ny3 : w5.cell? ⟨w.heap.size + 1 + 1, 3, none⟩ = some (J Z 0) := (HP8.out.blkAt (i := 3) rfl).c 3 _ rfl
 have ny4 : w5.cell? ⟨w.heap.size + 1 + 1, 4, none⟩ = some (V none 0 0) := (HP8.out.blkAt (i := 3) rfl).c 4 _ rfl
 have ny5 : w5.cell? ⟨w.heap.size + 1 + 1, 5, none⟩ = some (V none 0 0) := (HP8.out.blkAt (i := 3) rfl).c 5 _ rfl
 have zny0 : w5.frozen? ⟨w.heap.size + 1 + 1, 0, none⟩ = false := (HP8.out.blkAt (i := 3) rfl).f 0
 have zny1 : w5.frozen? ⟨w.heap.size + 1 + 1, 1, none⟩ = false := (HP8.out.blkAt (i := 3) rfl).f 1
 have zny2 : w5.frozen? ⟨w.heap.size + 1 + 1, 2, none⟩ = false := (HP8.out.blkAt (i := 3) rfl).f 2
 have zny3 : w5.frozen? ⟨w.heap.size + 1 + 1, 3, none⟩ = false := (HP8.out.blkAt (i := 3) rfl).f 3
 have zny4 : w5.frozen? ⟨w.heap.size + 1 + 1, 4, none⟩ = false := (HP8.out.blkAt (i := 3) rfl).f 4
 have zny5 : w5.frozen? ⟨w.heap.size + 1 + 1, 5, none⟩ = false := (HP8.out.blkAt (i := 3) rfl).f 5
 have HQ : Hid _ := hide (HP8.out.set6 (i := 3) rfl (J Z n3.id) (J Z n3.has) (J Z n3.spent) (J Z n3.earned) (V n3.sa n3.seen.length n3.sc) (V n3.pa n3.peers.length n3.pc))
 go_wp2
 refine name_post (fun W9 hW9 => ?_)
 have hq := HQ.out
 rw [← hW9] at hq
 have z_ := hq.blkAt (i := 3) rfl
 have g0_ := z_.c 0 _ rfl
 have g1_ := z_.c 1 _ rfl
 have g2_ := z_.c 2 _ rfl
 have g3_ := z_.c 3 _ rfl
 have g4_ := z_.c 4 _ rfl
 have g5_ := z_.c 5 _ rfl
 have hq2 := hq.ofR (i := 0) (j := 5) (by decide) rfl rfl
 exact bodyPost_ret (v := .tuple #[ndV n3, V ma RR.2.1.length mc, J Z (RR.2.2)]) (by simp [results, Try.results7, go_sem, g0_, g1_, g2_, g3_, g4_, g5_, ndV]) rfl ⟨n3, ma, mc, (by rw [HM.out] <;> rfl), (by rw [HM.out] <;> exact HD3.out), (by
  rw [HM.out]
  exact ((((hq2.drop (i := 4) rfl).drop (i := 3) rfl).drop (i := 2) rfl).drop (i := 1) rfl).cast (by simp [ndL, endsL]))⟩
theorem implActed_any (n : Nd) (a : Ac) (w : World) (hs : SmN n) (hn0 : n.sa = none → n.sc = 0) (hq0 : n.pa = none → n.pc = 0) (hp0 : ∀ p ∈ n.peers, p.a = none → p.cap = 0) (h : NodeAt w n) :
  Calls Try.prog 7 #[ndV n, a.v] w fun e w' => ActedEnd [] (actM n.d a) w e w' := by
 obtain ⟨kd, aid, ato, amt, ⟨m_fr, m_to, m_kd, m_seq, m_amt⟩⟩ := a
 cases hno : nodeB n.d
 ·exact impl_wrong n kd aid ato amt m_fr m_to m_kd m_seq m_amt w hs hn0 hq0 hp0 h hno
 cases hfo : actB n.id ⟨kd, aid, ato, amt, ⟨m_fr, m_to, m_kd, m_seq, m_amt⟩⟩
 ·exact impl_form n kd aid ato amt m_fr m_to m_kd m_seq m_amt w hs hn0 hq0 hp0 h hno hfo
 ·exact impl_right n kd aid ato amt m_fr m_to m_kd m_seq m_amt w hs hn0 hq0 hp0 h hno hfo
end Go.Proofs.Ytkcpoibhlnjldaa
