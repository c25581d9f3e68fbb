/- The contract of the model's Acted. -/
import Derived.Test.YtkcpoibhlnjldaaAcS5
import Derived.Test.YtkcpoibhlnjldaaAcS2
namespace Go.Proofs.Ytkcpoibhlnjldaa
open Go.Value renaming int → J, slice → V
open Go.IntKind renaming i64 → Z
open Go.ChangeShapes Go.WideShapes Go.ChangeAt Go.RowKit
set_option linter.unusedVariables false
set_option maxRecDepth 100000
theorem l6Take_any (n : Nd) (m : Mg) (w : World) (hs : SmL n.peers) (h : Star (ndL n) w) (hr : 0 ≤ n.has ∧ n.has ≤ 10000000000000) (hk : m.kind = 1 ∨ m.kind = 2) :
  Calls Try.prog 21 #[ndV n, m.v] w fun e w' => ActedEnd (fps (ndL n)) (takeM n.d m) w e w' := by
 obtain ⟨fr, to, kd, seq, amt⟩ := m
 cases hf : fi (n.peers.map Pr.id) fr with
 | none => exact take_none n kd fr to seq amt w hs h hr hf
 | some k =>
  obtain ⟨hk', _⟩ := fi_some hf
  have hk'' : k < n.peers.length := by simpa using hk'
  rcases hk with q | q
  ·have q : kd = 1 := q
   subst q
   by_cases hq : 10000000000000 < n.has + rcvX n.peers[k].E ⟨seq, amt⟩
   ·exact take_range n fr to seq amt w hs h hr k hk'' hf hq
   ·exact take_got n fr to seq amt w hs h hr k hk'' hf hq
  ·have q : kd = 2 := q
   subst q
   cases hq : ackOk n.peers[k].E seq
   ·exact take_bad n fr to seq amt w hs h hr k hk'' hf hq
   ·exact take_ack n fr to seq amt w hs h hr k hk'' hf hq
/-- what is so of a right node -/
theorem nodeB_in {n : Nd} (h : nodeB n.d = true) : InN n ∧ (1 ≤ n.id ∧ n.id ≤ 1000000000) ∧ n.seen.length ≤ 40 ∧ n.peers.length ≤ 8 := by
 simp only [nodeB, Nd.d, inB, Bool.and_eq_true, List.length_map] at h
 obtain ⟨⟨⟨⟨⟨⟨⟨h1, h2⟩, h3⟩, h4⟩, h5⟩, h6⟩, _⟩, _⟩ := h
 exact ⟨⟨of_decide_eq_true h2, of_decide_eq_true h3, of_decide_eq_true h4⟩, of_decide_eq_true h1, of_decide_eq_true h5, of_decide_eq_true h6⟩
theorem actB_money {own : Int} {a : Ac} (hk : a.kind = 1 ∨ a.kind = 2) (h : actB own a = true) : 1 ≤ a.amt ∧ a.amt ≤ 1000000000000 := by
 unfold actB at h
 rw [if_pos hk] at h
 simp only [inB, Bool.and_eq_true, decide_eq_true_eq] at h
 exact h.1.2
theorem actB_take {own : Int} {a : Ac} (hk : a.kind = 4) (h : actB own a = true) : a.msg.kind = 1 ∨ a.msg.kind = 2 := by
 unfold actB at h
 rw [if_neg (by omega), if_neg (by omega), if_pos hk] at h
 simp only [takeB, Bool.and_eq_true, Bool.or_eq_true, beq_iff_eq] at h
 rcases h.2 with q | q
 ·exact .inl q.1.1
 ·exact .inr q.1.1
theorem actB_give {own : Int} {a : Ac} (hk : a.kind = 3) (h : actB own a = true) : 1 ≤ a.amt ∧ a.amt ≤ 1000000000000 := by
 unfold actB at h
 rw [if_neg (by omega), if_pos hk] at h
 simp only [inB, Bool.and_eq_true, decide_eq_true_eq] at h
 exact h.1.2
theorem actB_kinds {own : Int} {a : Ac} (h : actB own a = true) : a.kind = 1 ∨ a.kind = 2 ∨ a.kind = 3 ∨ a.kind = 4 ∨ a.kind = 5 := by
 unfold actB at h
 by_cases q1 : a.kind = 1 ∨ a.kind = 2
 ·omega
 by_cases q3 : a.kind = 3
 ·omega
 by_cases q4 : a.kind = 4
 ·omega
 by_cases q5 : a.kind = 5
 ·omega
 rw [if_neg q1, if_neg q3, if_neg q4, if_neg q5] at h
 cases h
theorem smN_of {n n2 : Nd} (e : n2.d = n.d) (h : SmN n) : SmN n2 := by
 obtain ⟨h1, h2, h3⟩ := h
 have e1 : n2.seen = n.seen := congrArg NdD.seen e
 have e2 : n2.peers.map Pr.d = n.peers.map Pr.d := congrArg NdD.peers e
 have e3 : n2.peers.length = n.peers.length := by simpa using congrArg List.length e2
 refine ⟨by rw [e1]; exact h1, by rw [e3]; exact h2, fun p hp => ?_⟩
 have : p.d ∈ n.peers.map Pr.d := by rw [← e2]; exact List.mem_map_of_mem hp
 obtain ⟨q, hq, e4⟩ := List.mem_map.1 this
 have e5 : q.E = p.E := congrArg PD.E e4
 rw [← e5]
 exact h3 q hq
theorem inN_of {n n2 : Nd} (e : n2.d = n.d) (h : InN n) : InN n2 := by
 have e1 : n2.has = n.has := congrArg NdD.has e
 have e2 : n2.spent = n.spent := congrArg NdD.spent e
 have e3 : n2.earned = n.earned := congrArg NdD.earned e
 unfold InN
 rw [e1, e2, e3]
 exact h
set_option maxHeartbeats 4000000 in
theorem acted_wrong (n : Nd) (kd aid ato amt m_fr m_to m_kd m_seq m_amt : Int) (w : World) (hs : SmN n) (hn0 : n.sa = none → n.sc = 0) (hp0 : ∀ p ∈ n.peers, p.a = none → p.cap = 0) (h : NodeAt w n) (hno : nodeB n.d = false)  :
  Calls Try.prog 8 #[.agg #[J Z n.id, J Z n.has, J Z n.spent, J Z n.earned, V n.sa n.seen.length n.sc, V n.pa n.peers.length n.pc], .agg #[J Z kd, J Z aid, J Z ato, J Z amt, J Z m_fr, J Z m_to, J Z m_kd, J Z m_seq, J Z m_amt]] w fun e w' => ActedEnd [] (actM n.d (⟨kd, aid, ato, amt, ⟨m_fr, m_to, m_kd, m_seq, m_amt⟩⟩ : Ac)) w e w' := by
 have HM : Hid (actM n.d (⟨kd, aid, ato, amt, ⟨m_fr, m_to, m_kd, m_seq, m_amt⟩⟩ : Ac) = (zeroD, [], 1)) := hide (by
  unfold actM; rw [if_pos hno])
 have HS : Hid _ := hide hs
 have HL : Hid _ := hide h
 have HO : Hid _ := hide hno
 have HP0 : Hid _ := hide hp0
 obtain ⟨W, hW⟩ : ∃ W, W = ((w.alloc (.cells #[J Z n.id, J Z n.has, J Z n.spent, J Z n.earned, V n.sa n.seen.length n.sc, V n.pa n.peers.length n.pc] 27)).alloc (.cells #[J Z kd, J Z aid, J Z ato, J Z amt, J Z m_fr, J Z m_to, J Z m_kd, J Z m_seq, J Z m_amt] 31)).alloc (.cells #[J Z 0, J Z 0, J Z 0, J Z 0, V none 0 0, V none 0 0] 27) := ⟨_, rfl⟩
 have s1 : (w.alloc (.cells #[J Z n.id, J Z n.has, J Z n.spent, J Z n.earned, V n.sa n.seen.length n.sc, V n.pa n.peers.length n.pc] 27)).heap.size = w.heap.size + 1 := by simp
 have s2 : ((w.alloc (.cells #[J Z n.id, J Z n.has, J Z n.spent, J Z n.earned, V n.sa n.seen.length n.sc, V n.pa n.peers.length n.pc] 27)).alloc (.cells #[J Z kd, J Z aid, J Z ato, J Z amt, J Z m_fr, J Z m_to, J Z m_kd, J Z m_seq, J Z m_amt] 31)).heap.size = w.heap.size + 1 + 1 := by simp
 have HP : Hid (Pool [] w [[], [], [], [blk w.heap.size [J Z n.id, J Z n.has, J Z n.spent, J Z n.earned, V n.sa n.seen.length n.sc, V n.pa n.peers.length n.pc]], [blk (w.heap.size + 1) [J Z kd, J Z aid, J Z ato, J Z amt, J Z m_fr, J Z m_to, J Z m_kd, J Z m_seq, J Z m_amt]], [blk (w.heap.size + 1 + 1) [J Z 0, J Z 0, J Z 0, J Z 0, V none 0 0, V none 0 0]], [], [], [], [], []] W) := hide (by
  rw [hW, ← s2, ← s1]
  exact (((Pool.start w [[], [], [], [], [], [], [], [], [], [], []] rfl).newBlk (i := 3) rfl [J Z n.id, J Z n.has, J Z n.spent, J Z n.earned, V n.sa n.seen.length n.sc, V n.pa n.peers.length n.pc] 27).newBlk (i := 4) rfl [J Z kd, J Z aid, J Z ato, J Z amt, J Z m_fr, J Z m_to, J Z m_kd, J Z m_seq, J Z m_amt] 31).newBlk (i := 5) rfl [J Z 0, J Z 0, J Z 0, J Z 0, V none 0 0, V none 0 0] 27)
 have HW : Hid (((w.alloc (.cells #[J Z n.id, J Z n.has, J Z n.spent, J Z n.earned, V n.sa n.seen.length n.sc, V n.pa n.peers.length n.pc] 27)).alloc (.cells #[J Z kd, J Z aid, J Z ato, J Z amt, J Z m_fr, J Z m_to, J Z m_kd, J Z m_seq, J Z m_amt] 31)).alloc (.cells #[J Z 0, J Z 0, J Z 0, J Z 0, V none 0 0, V none 0 0] 27) = W) := hide hW.symm
 clear hW s1 s2 hs h hno hp0
 go_enter Try.func8, Try.ntmps8
 go_wp2_with fail
 rw [HW.out]
 refine (specNodeOk_any _ _ _ _ _ n.seen _ _ n.peers _ W HS.out.1 HS.out.2.1 HS.out.2.2 (HL.out.seen.below HP.out.below) (HL.out.peers.below HP.out.below)).mono ?_
 rw [show nodeB ⟨n.id, n.has, n.spent, n.earned, n.seen, n.peers.map Pr.d⟩ = false from HO.out]
 rintro e w1 ⟨rfl, hb1⟩
 have HP1 : Hid (Pool [] w [[], [], [], [blk w.heap.size [J Z n.id, J Z n.has, J Z n.spent, J Z n.earned, V n.sa n.seen.length n.sc, V n.pa n.peers.length n.pc]], [blk (w.heap.size + 1) [J Z kd, J Z aid, J Z ato, J Z amt, J Z m_fr, J Z m_to, J Z m_kd, J Z m_seq, J Z m_amt]], [blk (w.heap.size + 1 + 1) [J Z 0, J Z 0, J Z 0, J Z 0, V none 0 0, V none 0 0]], [], [], [], [], []] w1) := hide (HP.out.keep hb1)
 clear hb1 HP HW
 have ny0 : w1.cell? ⟨w.heap.size + 1 + 1, 0, none⟩ = some (J Z 0) := (HP1.out.blkAt (i := 5) rfl).c 0 _ rfl
 have ny1 : w1.cell? ⟨w.heap.size + 1 + 1, 1, none⟩ = some (J Z 0) := (HP1.out.blkAt (i := 5) rfl).c 1 _ rfl
 have ny2 : w1.cell? ⟨w.heap.size + 1 + 1, 2, none⟩ = some (J Z 0) := (HP1.out.blkAt (i := 5) rfl).c 2 _ rfl
 have ny3 : w1.cell? ⟨w.heap.size + 1 + 1, 3, none⟩ = some (J Z 0) := (HP1.out.blkAt (i := 5) rfl).c 3 _ rfl
 have ny4 : w1.cell? ⟨w.heap.size + 1 + 1, 4, none⟩ = some (V none 0 0) := (HP1.out.blkAt (i := 5) rfl).c 4 _ rfl
 have ny5 : w1.cell? ⟨w.heap.size + 1 + 1, 5, none⟩ = some (V none 0 0) := (HP1.out.blkAt (i := 5) rfl).c 5 _ rfl
 have zny0 : w1.frozen? ⟨w.heap.size + 1 + 1, 0, none⟩ = false := (HP1.out.blkAt (i := 5) rfl).f 0
 have zny1 : w1.frozen? ⟨w.heap.size + 1 + 1, 1, none⟩ = false := (HP1.out.blkAt (i := 5) rfl).f 1
 have zny2 : w1.frozen? ⟨w.heap.size + 1 + 1, 2, none⟩ = false := (HP1.out.blkAt (i := 5) rfl).f 2
 have zny3 : w1.frozen? ⟨w.heap.size + 1 + 1, 3, none⟩ = false := (HP1.out.blkAt (i := 5) rfl).f 3
 have zny4 : w1.frozen? ⟨w.heap.size + 1 + 1, 4, none⟩ = false := (HP1.out.blkAt (i := 5) rfl).f 4
 have zny5 : w1.frozen? ⟨w.heap.size + 1 + 1, 5, none⟩ = false := (HP1.out.blkAt (i := 5) rfl).f 5
 have HQ : Hid _ := hide (HP1.out.set6 (i := 5) rfl (J Z 0) (J Z 0) (J Z 0) (J Z 0) (V none 0 0) (V none 0 0))
 go_wp2
 refine name_post (fun W9 hW9 => ?_)
 have hq := HQ.out
 rw [← hW9] at hq
 have z_ := hq.blkAt (i := 5) rfl
 have g0_ := z_.c 0 _ rfl
 have g1_ := z_.c 1 _ rfl
 have g2_ := z_.c 2 _ rfl
 have g3_ := z_.c 3 _ rfl
 have g4_ := z_.c 4 _ rfl
 have g5_ := z_.c 5 _ rfl
 have hq2 := ((hq.noMsg (i := 8) rfl).new (i := 0) rfl (Below.refl _ _) (Star.ofOrow (sz := 2) (f := snCells) (g := 0) (a := none) (cap := 0) (l := []) (OwnRow.nil (fun _ => rfl))).1 (fun c hc => by simp [fps_one, orow_nil_fp] at hc)).new (i := 1) rfl (Below.refl _ _) (Star.ofOrow (sz := 4) (f := prCells) (g := 0) (a := none) (cap := 0) (l := []) (OwnRow.nil (fun _ => rfl))).1 (fun c hc => by simp [fps_one, orow_nil_fp] at hc)
 exact bodyPost_ret (v := .tuple #[ndV ⟨0, 0, 0, 0, none, 0, [], none, 0, []⟩, V none 0 0, J Z (1)]) (by simp [results, Try.results8, go_sem, g0_, g1_, g2_, g3_, g4_, g5_, ndV]) rfl ⟨⟨0, 0, 0, 0, none, 0, [], none, 0, []⟩, none, 0, (by rw [HM.out] <;> rfl), (by rw [HM.out] <;> exact rfl), (by
  rw [HM.out]
  exact (((((((hq2.drop (i := 10) rfl).drop (i := 9) rfl).drop (i := 7) rfl).drop (i := 6) rfl).drop (i := 5) rfl).drop (i := 4) rfl).drop (i := 3) rfl).cast (by simp [ndL, endsL]))⟩
set_option maxHeartbeats 4000000 in
theorem acted_form (n : Nd) (kd aid ato amt m_fr m_to m_kd m_seq m_amt : Int) (w : World) (hs : SmN n) (hn0 : n.sa = none → n.sc = 0) (hp0 : ∀ p ∈ n.peers, p.a = none → p.cap = 0) (h : NodeAt w n) (hno : nodeB n.d = true) (hfo : actB n.id ⟨kd, aid, ato, amt, ⟨m_fr, m_to, m_kd, m_seq, m_amt⟩⟩ = false) :
  Calls Try.prog 8 #[.agg #[J Z n.id, J Z n.has, J Z n.spent, J Z n.earned, V n.sa n.seen.length n.sc, V n.pa n.peers.length n.pc], .agg #[J Z kd, J Z aid, J Z ato, J Z amt, J Z m_fr, J Z m_to, J Z m_kd, J Z m_seq, J Z m_amt]] w fun e w' => ActedEnd [] (actM n.d (⟨kd, aid, ato, amt, ⟨m_fr, m_to, m_kd, m_seq, m_amt⟩⟩ : Ac)) w e w' := by
 have HM : Hid (actM n.d (⟨kd, aid, ato, amt, ⟨m_fr, m_to, m_kd, m_seq, m_amt⟩⟩ : Ac) = (n.d, [], 2)) := hide (by
  unfold actM; rw [if_neg (by rw [hno]; simp), if_pos (show actB n.d.id _ = false from hfo)])
 have HS : Hid _ := hide hs
 have HL : Hid _ := hide h
 have HO : Hid _ := hide hno
 have HP0 : Hid _ := hide hp0
 obtain ⟨W, hW⟩ : ∃ W, W = ((w.alloc (.cells #[J Z n.id, J Z n.has, J Z n.spent, J Z n.earned, V n.sa n.seen.length n.sc, V n.pa n.peers.length n.pc] 27)).alloc (.cells #[J Z kd, J Z aid, J Z ato, J Z amt, J Z m_fr, J Z m_to, J Z m_kd, J Z m_seq, J Z m_amt] 31)).alloc (.cells #[J Z 0, J Z 0, J Z 0, J Z 0, V none 0 0, V none 0 0] 27) := ⟨_, rfl⟩
 have s1 : (w.alloc (.cells #[J Z n.id, J Z n.has, J Z n.spent, J Z n.earned, V n.sa n.seen.length n.sc, V n.pa n.peers.length n.pc] 27)).heap.size = w.heap.size + 1 := by simp
 have s2 : ((w.alloc (.cells #[J Z n.id, J Z n.has, J Z n.spent, J Z n.earned, V n.sa n.seen.length n.sc, V n.pa n.peers.length n.pc] 27)).alloc (.cells #[J Z kd, J Z aid, J Z ato, J Z amt, J Z m_fr, J Z m_to, J Z m_kd, J Z m_seq, J Z m_amt] 31)).heap.size = w.heap.size + 1 + 1 := by simp
 have HP : Hid (Pool [] w [[], [], [], [blk w.heap.size [J Z n.id, J Z n.has, J Z n.spent, J Z n.earned, V n.sa n.seen.length n.sc, V n.pa n.peers.length n.pc]], [blk (w.heap.size + 1) [J Z kd, J Z aid, J Z ato, J Z amt, J Z m_fr, J Z m_to, J Z m_kd, J Z m_seq, J Z m_amt]], [blk (w.heap.size + 1 + 1) [J Z 0, J Z 0, J Z 0, J Z 0, V none 0 0, V none 0 0]], [], [], [], [], []] W) := hide (by
  rw [hW, ← s2, ← s1]
  exact (((Pool.start w [[], [], [], [], [], [], [], [], [], [], []] rfl).newBlk (i := 3) rfl [J Z n.id, J Z n.has, J Z n.spent, J Z n.earned, V n.sa n.seen.length n.sc, V n.pa n.peers.length n.pc] 27).newBlk (i := 4) rfl [J Z kd, J Z aid, J Z ato, J Z amt, J Z m_fr, J Z m_to, J Z m_kd, J Z m_seq, J Z m_amt] 31).newBlk (i := 5) rfl [J Z 0, J Z 0, J Z 0, J Z 0, V none 0 0, V none 0 0] 27)
 have HW : Hid (((w.alloc (.cells #[J Z n.id, J Z n.has, J Z n.spent, J Z n.earned, V n.sa n.seen.length n.sc, V n.pa n.peers.length n.pc] 27)).alloc (.cells #[J Z kd, J Z aid, J Z ato, J Z amt, J Z m_fr, J Z m_to, J Z m_kd, J Z m_seq, J Z m_amt] 31)).alloc (.cells #[J Z 0, J Z 0, J Z 0, J Z 0, V none 0 0, V none 0 0] 27) = W) := hide hW.symm
 have HF : Hid _ := hide hfo
 clear hW s1 s2 hs h hno hp0 hfo
 go_enter Try.func8, Try.ntmps8
 go_wp2_with fail
 rw [HW.out]
 refine (specNodeOk_any _ _ _ _ _ n.seen _ _ n.peers _ W HS.out.1 HS.out.2.1 HS.out.2.2 (HL.out.seen.below HP.out.below) (HL.out.peers.below HP.out.below)).mono ?_
 rw [show nodeB ⟨n.id, n.has, n.spent, n.earned, n.seen, n.peers.map Pr.d⟩ = true from HO.out]
 rintro e w1 ⟨rfl, hb1⟩
 have HP1 : Hid (Pool [] w [[], [], [], [blk w.heap.size [J Z n.id, J Z n.has, J Z n.spent, J Z n.earned, V n.sa n.seen.length n.sc, V n.pa n.peers.length n.pc]], [blk (w.heap.size + 1) [J Z kd, J Z aid, J Z ato, J Z amt, J Z m_fr, J Z m_to, J Z m_kd, J Z m_seq, J Z m_amt]], [blk (w.heap.size + 1 + 1) [J Z 0, J Z 0, J Z 0, J Z 0, V none 0 0, V none 0 0]], [], [], [], [], []] w1) := hide (HP.out.keep hb1)
 clear hb1 HP HW
 have nc0 : w1.cell? ⟨w.heap.size, 0, none⟩ = some (J Z n.id) := (HP1.out.blkAt (i := 3) rfl).c 0 _ rfl
 have nc1 : w1.cell? ⟨w.heap.size, 1, none⟩ = some (J Z n.has) := (HP1.out.blkAt (i := 3) rfl).c 1 _ rfl
 have nc2 : w1.cell? ⟨w.heap.size, 2, none⟩ = some (J Z n.spent) := (HP1.out.blkAt (i := 3) rfl).c 2 _ rfl
 have nc3 : w1.cell? ⟨w.heap.size, 3, none⟩ = some (J Z n.earned) := (HP1.out.blkAt (i := 3) rfl).c 3 _ rfl
 have nc4 : w1.cell? ⟨w.heap.size, 4, none⟩ = some (V n.sa n.seen.length n.sc) := (HP1.out.blkAt (i := 3) rfl).c 4 _ rfl
 have nc5 : w1.cell? ⟨w.heap.size, 5, none⟩ = some (V n.pa n.peers.length n.pc) := (HP1.out.blkAt (i := 3) rfl).c 5 _ rfl
 go_wp2_with fail
 refine (l6Copy_any n w1 HS.out hn0 HP0.out (HL.out.below HP1.out.below)).mono ?_
 rintro e w2 ⟨n2, rfl, hd, hnear, hP2⟩
 have HD : Hid _ := hide hd
 have HN2 : Hid _ := hide hnear
 have hB : w2.heap.size = w2.heap.size := rfl
 have HP3 := (HP1.out.call (i := 0) (rs := []) (rs' := ndL n2) rfl hP2).newBlk (i := 7) rfl [J Z n2.id, J Z n2.has, J Z n2.spent, J Z n2.earned, V n2.sa n2.seen.length n2.sc, V n2.pa n2.peers.length n2.pc] 27
 obtain ⟨B, hB⟩ : ∃ B, B = w2.heap.size := ⟨_, rfl⟩
 obtain ⟨w3, hw3⟩ : ∃ w3, w3 = w2.alloc (.cells #[J Z n2.id, J Z n2.has, J Z n2.spent, J Z n2.earned, V n2.sa n2.seen.length n2.sc, V n2.pa n2.peers.length n2.pc] 27) := ⟨_, rfl⟩
 have HP4 : Hid (Pool [] w [ndL n2, [], [], [blk w.heap.size [J Z n.id, J Z n.has, J Z n.spent, J Z n.earned, V n.sa n.seen.length n.sc, V n.pa n.peers.length n.pc]], [blk (w.heap.size + 1) [J Z kd, J Z aid, J Z ato, J Z amt, J Z m_fr, J Z m_to, J Z m_kd, J Z m_seq, J Z m_amt]], [blk (w.heap.size + 1 + 1) [J Z 0, J Z 0, J Z 0, J Z 0, V none 0 0, V none 0 0]], [], [blk B [J Z n2.id, J Z n2.has, J Z n2.spent, J Z n2.earned, V n2.sa n2.seen.length n2.sc, V n2.pa n2.peers.length n2.pc]], [], [], []] w3) := hide (by rw [hB, hw3]; exact HP3)
 have HW3 : Hid _ := hide hw3
 have HBB : Hid _ := hide hB
 have nc0 : (w2.alloc (.cells #[J Z n2.id, J Z n2.has, J Z n2.spent, J Z n2.earned, V n2.sa n2.seen.length n2.sc, V n2.pa n2.peers.length n2.pc] 27)).cell? ⟨w.heap.size, 0, none⟩ = some (J Z n.id) := (HP3.blkAt (i := 3) rfl).c 0 _ rfl
 have nc1 : (w2.alloc (.cells #[J Z n2.id, J Z n2.has, J Z n2.spent, J Z n2.earned, V n2.sa n2.seen.length n2.sc, V n2.pa n2.peers.length n2.pc] 27)).cell? ⟨w.heap.size, 1, none⟩ = some (J Z n.has) := (HP3.blkAt (i := 3) rfl).c 1 _ rfl
 have nc2 : (w2.alloc (.cells #[J Z n2.id, J Z n2.has, J Z n2.spent, J Z n2.earned, V n2.sa n2.seen.length n2.sc, V n2.pa n2.peers.length n2.pc] 27)).cell? ⟨w.heap.size, 2, none⟩ = some (J Z n.spent) := (HP3.blkAt (i := 3) rfl).c 2 _ rfl
 have nc3 : (w2.alloc (.cells #[J Z n2.id, J Z n2.has, J Z n2.spent, J Z n2.earned, V n2.sa n2.seen.length n2.sc, V n2.pa n2.peers.length n2.pc] 27)).cell? ⟨w.heap.size, 3, none⟩ = some (J Z n.earned) := (HP3.blkAt (i := 3) rfl).c 3 _ rfl
 have nc4 : (w2.alloc (.cells #[J Z n2.id, J Z n2.has, J Z n2.spent, J Z n2.earned, V n2.sa n2.seen.length n2.sc, V n2.pa n2.peers.length n2.pc] 27)).cell? ⟨w.heap.size, 4, none⟩ = some (V n.sa n.seen.length n.sc) := (HP3.blkAt (i := 3) rfl).c 4 _ rfl
 have nc5 : (w2.alloc (.cells #[J Z n2.id, J Z n2.has, J Z n2.spent, J Z n2.earned, V n2.sa n2.seen.length n2.sc, V n2.pa n2.peers.length n2.pc] 27)).cell? ⟨w.heap.size, 5, none⟩ = some (V n.pa n.peers.length n.pc) := (HP3.blkAt (i := 3) rfl).c 5 _ rfl
 have na0 : (w2.alloc (.cells #[J Z n2.id, J Z n2.has, J Z n2.spent, J Z n2.earned, V n2.sa n2.seen.length n2.sc, V n2.pa n2.peers.length n2.pc] 27)).cell? ⟨w.heap.size + 1, 0, none⟩ = some (J Z kd) := (HP3.blkAt (i := 4) rfl).c 0 _ rfl
 have na1 : (w2.alloc (.cells #[J Z n2.id, J Z n2.has, J Z n2.spent, J Z n2.earned, V n2.sa n2.seen.length n2.sc, V n2.pa n2.peers.length n2.pc] 27)).cell? ⟨w.heap.size + 1, 1, none⟩ = some (J Z aid) := (HP3.blkAt (i := 4) rfl).c 1 _ rfl
 have na2 : (w2.alloc (.cells #[J Z n2.id, J Z n2.has, J Z n2.spent, J Z n2.earned, V n2.sa n2.seen.length n2.sc, V n2.pa n2.peers.length n2.pc] 27)).cell? ⟨w.heap.size + 1, 2, none⟩ = some (J Z ato) := (HP3.blkAt (i := 4) rfl).c 2 _ rfl
 have na3 : (w2.alloc (.cells #[J Z n2.id, J Z n2.has, J Z n2.spent, J Z n2.earned, V n2.sa n2.seen.length n2.sc, V n2.pa n2.peers.length n2.pc] 27)).cell? ⟨w.heap.size + 1, 3, none⟩ = some (J Z amt) := (HP3.blkAt (i := 4) rfl).c 3 _ rfl
 have na4 : (w2.alloc (.cells #[J Z n2.id, J Z n2.has, J Z n2.spent, J Z n2.earned, V n2.sa n2.seen.length n2.sc, V n2.pa n2.peers.length n2.pc] 27)).cell? ⟨w.heap.size + 1, 4, none⟩ = some (J Z m_fr) := (HP3.blkAt (i := 4) rfl).c 4 _ rfl
 have na5 : (w2.alloc (.cells #[J Z n2.id, J Z n2.has, J Z n2.spent, J Z n2.earned, V n2.sa n2.seen.length n2.sc, V n2.pa n2.peers.length n2.pc] 27)).cell? ⟨w.heap.size + 1, 5, none⟩ = some (J Z m_to) := (HP3.blkAt (i := 4) rfl).c 5 _ rfl
 have na6 : (w2.alloc (.cells #[J Z n2.id, J Z n2.has, J Z n2.spent, J Z n2.earned, V n2.sa n2.seen.length n2.sc, V n2.pa n2.peers.length n2.pc] 27)).cell? ⟨w.heap.size + 1, 6, none⟩ = some (J Z m_kd) := (HP3.blkAt (i := 4) rfl).c 6 _ rfl
 have na7 : (w2.alloc (.cells #[J Z n2.id, J Z n2.has, J Z n2.spent, J Z n2.earned, V n2.sa n2.seen.length n2.sc, V n2.pa n2.peers.length n2.pc] 27)).cell? ⟨w.heap.size + 1, 7, none⟩ = some (J Z m_seq) := (HP3.blkAt (i := 4) rfl).c 7 _ rfl
 have na8 : (w2.alloc (.cells #[J Z n2.id, J Z n2.has, J Z n2.spent, J Z n2.earned, V n2.sa n2.seen.length n2.sc, V n2.pa n2.peers.length n2.pc] 27)).cell? ⟨w.heap.size + 1, 8, none⟩ = some (J Z m_amt) := (HP3.blkAt (i := 4) rfl).c 8 _ rfl
 clear hw3 hB HP3 hP2 hd hnear
 unfold ndV
 go_wp2_with fail
 rw [← HBB.out, ← HW3.out]
 refine (l6Form_any _ _ _ _ _ _ _ _ _ _ kd aid ato amt m_fr m_to m_kd m_seq m_amt w3).mono ?_
 rw [show actB n.id (⟨kd, aid, ato, amt, ⟨m_fr, m_to, m_kd, m_seq, m_amt⟩⟩ : Ac) = false from HF.out]
 rintro e w4 ⟨rfl, hb4⟩
 have HP5 : Hid (Pool [] w [ndL n2, [], [], [blk w.heap.size [J Z n.id, J Z n.has, J Z n.spent, J Z n.earned, V n.sa n.seen.length n.sc, V n.pa n.peers.length n.pc]], [blk (w.heap.size + 1) [J Z kd, J Z aid, J Z ato, J Z amt, J Z m_fr, J Z m_to, J Z m_kd, J Z m_seq, J Z m_amt]], [blk (w.heap.size + 1 + 1) [J Z 0, J Z 0, J Z 0, J Z 0, V none 0 0, V none 0 0]], [], [blk B [J Z n2.id, J Z n2.has, J Z n2.spent, J Z n2.earned, V n2.sa n2.seen.length n2.sc, V n2.pa n2.peers.length n2.pc]], [], [], []] w4) := hide (HP4.out.keep hb4)
 clear hb4 HP4 HW3 HBB HP1
 have nb0 : w4.cell? ⟨B, 0, none⟩ = some (J Z n2.id) := (HP5.out.blkAt (i := 7) rfl).c 0 _ rfl
 have nb1 : w4.cell? ⟨B, 1, none⟩ = some (J Z n2.has) := (HP5.out.blkAt (i := 7) rfl).c 1 _ rfl
 have nb2 : w4.cell? ⟨B, 2, none⟩ = some (J Z n2.spent) := (HP5.out.blkAt (i := 7) rfl).c 2 _ rfl
 have nb3 : w4.cell? ⟨B, 3, none⟩ = some (J Z n2.earned) := (HP5.out.blkAt (i := 7) rfl).c 3 _ rfl
 have nb4 : w4.cell? ⟨B, 4, none⟩ = some (V n2.sa n2.seen.length n2.sc) := (HP5.out.blkAt (i := 7) rfl).c 4 _ rfl
 have nb5 : w4.cell? ⟨B, 5, none⟩ = some (V n2.pa n2.peers.length n2.pc) := (HP5.out.blkAt (i := 7) rfl).c 5 _ rfl
 have ny0 : w4.cell? ⟨w.heap.size + 1 + 1, 0, none⟩ = some (J Z 0) := (HP5.out.blkAt (i := 5) rfl).c 0 _ rfl
 have ny1 : w4.cell? ⟨w.heap.size + 1 + 1, 1, none⟩ = some (J Z 0) := (HP5.out.blkAt (i := 5) rfl).c 1 _ rfl
 have ny2 : w4.cell? ⟨w.heap.size + 1 + 1, 2, none⟩ = some (J Z 0) := (HP5.out.blkAt (i := 5) rfl).c 2 _ rfl
 have ny3 : w4.cell? ⟨w.heap.size + 1 + 1, 3, none⟩ = some (J Z 0) := (HP5.out.blkAt (i := 5) rfl).c 3 _ rfl
 have ny4 : w4.cell? ⟨w.heap.size + 1 + 1, 4, none⟩ = some (V none 0 0) := (HP5.out.blkAt (i := 5) rfl).c 4 _ rfl
 have ny5 : w4.cell? ⟨w.heap.size + 1 + 1, 5, none⟩ = some (V none 0 0) := (HP5.out.blkAt (i := 5) rfl).c 5 _ rfl
 have zny0 : w4.frozen? ⟨w.heap.size + 1 + 1, 0, none⟩ = false := (HP5.out.blkAt (i := 5) rfl).f 0
 have zny1 : w4.frozen? ⟨w.heap.size + 1 + 1, 1, none⟩ = false := (HP5.out.blkAt (i := 5) rfl).f 1
 have zny2 : w4.frozen? ⟨w.heap.size + 1 + 1, 2, none⟩ = false := (HP5.out.blkAt (i := 5) rfl).f 2
 have zny3 : w4.frozen? ⟨w.heap.size + 1 + 1, 3, none⟩ = false := (HP5.out.blkAt (i := 5) rfl).f 3
 have zny4 : w4.frozen? ⟨w.heap.size + 1 + 1, 4, none⟩ = false := (HP5.out.blkAt (i := 5) rfl).f 4
 have zny5 : w4.frozen? ⟨w.heap.size + 1 + 1, 5, none⟩ = false := (HP5.out.blkAt (i := 5) rfl).f 5
 have HQ : Hid _ := hide (HP5.out.set6 (i := 5) rfl (J Z n2.id) (J Z n2.has) (J Z n2.spent) (J Z n2.earned) (V n2.sa n2.seen.length n2.sc) (V n2.pa n2.peers.length n2.pc))
 go_wp2
 refine name_post (fun W9 hW9 => ?_)
 have hq := HQ.out
 rw [← hW9] at hq
 have z_ := hq.blkAt (i := 5) rfl
 have g0_ := z_.c 0 _ rfl
 have g1_ := z_.c 1 _ rfl
 have g2_ := z_.c 2 _ rfl
 have g3_ := z_.c 3 _ rfl
 have g4_ := z_.c 4 _ rfl
 have g5_ := z_.c 5 _ rfl
 have hq2 := hq.noMsg (i := 8) rfl
 exact bodyPost_ret (v := .tuple #[ndV n2, V none 0 0, J Z (2)]) (by simp [results, Try.results8, go_sem, g0_, g1_, g2_, g3_, g4_, g5_, ndV]) rfl ⟨n2, none, 0, (by rw [HM.out] <;> rfl), (by rw [HM.out] <;> exact HD.out), (by
  rw [HM.out]
  exact (((((((hq2.drop (i := 10) rfl).drop (i := 9) rfl).drop (i := 7) rfl).drop (i := 6) rfl).drop (i := 5) rfl).drop (i := 4) rfl).drop (i := 3) rfl).cast (by simp [ndL, endsL]))⟩
set_option maxHeartbeats 4000000 in
theorem acted_money1 (n : Nd) (aid ato amt m_fr m_to m_kd m_seq m_amt : Int) (w : World) (hs : SmN n) (hn0 : n.sa = none → n.sc = 0) (hp0 : ∀ p ∈ n.peers, p.a = none → p.cap = 0) (h : NodeAt w n) (hno : nodeB n.d = true) (hfo : actB n.id ⟨1, aid, ato, amt, ⟨m_fr, m_to, m_kd, m_seq, m_amt⟩⟩ = true) :
  Calls Try.prog 8 #[.agg #[J Z n.id, J Z n.has, J Z n.spent, J Z n.earned, V n.sa n.seen.length n.sc, V n.pa n.peers.length n.pc], .agg #[J Z 1, J Z aid, J Z ato, J Z amt, J Z m_fr, J Z m_to, J Z m_kd, J Z m_seq, J Z m_amt]] w fun e w' => ActedEnd [] (actM n.d (⟨1, aid, ato, amt, ⟨m_fr, m_to, m_kd, m_seq, m_amt⟩⟩ : Ac)) w e w' := by
 have HM : Hid (actM n.d (⟨1, aid, ato, amt, ⟨m_fr, m_to, m_kd, m_seq, m_amt⟩⟩ : Ac) = ((moneyM n.d (⟨1, aid, ato, amt, ⟨m_fr, m_to, m_kd, m_seq, m_amt⟩⟩ : Ac)).1, [], (moneyM n.d (⟨1, aid, ato, amt, ⟨m_fr, m_to, m_kd, m_seq, m_amt⟩⟩ : Ac)).2)) := hide (by
  unfold actM; rw [if_neg (by rw [hno]; simp), if_neg (show ¬ actB n.d.id _ = false by rw [show actB n.d.id _ = true from hfo]; simp)]; rfl)
 have HS : Hid _ := hide hs
 have HL : Hid _ := hide h
 have HO : Hid _ := hide hno
 have HP0 : Hid _ := hide hp0
 obtain ⟨W, hW⟩ : ∃ W, W = ((w.alloc (.cells #[J Z n.id, J Z n.has, J Z n.spent, J Z n.earned, V n.sa n.seen.length n.sc, V n.pa n.peers.length n.pc] 27)).alloc (.cells #[J Z 1, J Z aid, J Z ato, J Z amt, J Z m_fr, J Z m_to, J Z m_kd, J Z m_seq, J Z m_amt] 31)).alloc (.cells #[J Z 0, J Z 0, J Z 0, J Z 0, V none 0 0, V none 0 0] 27) := ⟨_, rfl⟩
 have s1 : (w.alloc (.cells #[J Z n.id, J Z n.has, J Z n.spent, J Z n.earned, V n.sa n.seen.length n.sc, V n.pa n.peers.length n.pc] 27)).heap.size = w.heap.size + 1 := by simp
 have s2 : ((w.alloc (.cells #[J Z n.id, J Z n.has, J Z n.spent, J Z n.earned, V n.sa n.seen.length n.sc, V n.pa n.peers.length n.pc] 27)).alloc (.cells #[J Z 1, J Z aid, J Z ato, J Z amt, J Z m_fr, J Z m_to, J Z m_kd, J Z m_seq, J Z m_amt] 31)).heap.size = w.heap.size + 1 + 1 := by simp
 have HP : Hid (Pool [] w [[], [], [], [blk w.heap.size [J Z n.id, J Z n.has, J Z n.spent, J Z n.earned, V n.sa n.seen.length n.sc, V n.pa n.peers.length n.pc]], [blk (w.heap.size + 1) [J Z 1, J Z aid, J Z ato, J Z amt, J Z m_fr, J Z m_to, J Z m_kd, J Z m_seq, J Z m_amt]], [blk (w.heap.size + 1 + 1) [J Z 0, J Z 0, J Z 0, J Z 0, V none 0 0, V none 0 0]], [], [], [], [], []] W) := hide (by
  rw [hW, ← s2, ← s1]
  exact (((Pool.start w [[], [], [], [], [], [], [], [], [], [], []] rfl).newBlk (i := 3) rfl [J Z n.id, J Z n.has, J Z n.spent, J Z n.earned, V n.sa n.seen.length n.sc, V n.pa n.peers.length n.pc] 27).newBlk (i := 4) rfl [J Z 1, J Z aid, J Z ato, J Z amt, J Z m_fr, J Z m_to, J Z m_kd, J Z m_seq, J Z m_amt] 31).newBlk (i := 5) rfl [J Z 0, J Z 0, J Z 0, J Z 0, V none 0 0, V none 0 0] 27)
 have HW : Hid (((w.alloc (.cells #[J Z n.id, J Z n.has, J Z n.spent, J Z n.earned, V n.sa n.seen.length n.sc, V n.pa n.peers.length n.pc] 27)).alloc (.cells #[J Z 1, J Z aid, J Z ato, J Z amt, J Z m_fr, J Z m_to, J Z m_kd, J Z m_seq, J Z m_amt] 31)).alloc (.cells #[J Z 0, J Z 0, J Z 0, J Z 0, V none 0 0, V none 0 0] 27) = W) := hide hW.symm
 have HF : Hid _ := hide hfo
 clear hW s1 s2 hs h hno hp0 hfo
 go_enter Try.func8, Try.ntmps8
 go_wp2_with fail
 rw [HW.out]
 refine (specNodeOk_any _ _ _ _ _ n.seen _ _ n.peers _ W HS.out.1 HS.out.2.1 HS.out.2.2 (HL.out.seen.below HP.out.below) (HL.out.peers.below HP.out.below)).mono ?_
 rw [show nodeB ⟨n.id, n.has, n.spent, n.earned, n.seen, n.peers.map Pr.d⟩ = true from HO.out]
 rintro e w1 ⟨rfl, hb1⟩
 have HP1 : Hid (Pool [] w [[], [], [], [blk w.heap.size [J Z n.id, J Z n.has, J Z n.spent, J Z n.earned, V n.sa n.seen.length n.sc, V n.pa n.peers.length n.pc]], [blk (w.heap.size + 1) [J Z 1, J Z aid, J Z ato, J Z amt, J Z m_fr, J Z m_to, J Z m_kd, J Z m_seq, J Z m_amt]], [blk (w.heap.size + 1 + 1) [J Z 0, J Z 0, J Z 0, J Z 0, V none 0 0, V none 0 0]], [], [], [], [], []] w1) := hide (HP.out.keep hb1)
 clear hb1 HP HW
 have nc0 : w1.cell? ⟨w.heap.size, 0, none⟩ = some (J Z n.id) := (HP1.out.blkAt (i := 3) rfl).c 0 _ rfl
 have nc1 : w1.cell? ⟨w.heap.size, 1, none⟩ = some (J Z n.has) := (HP1.out.blkAt (i := 3) rfl).c 1 _ rfl
 have nc2 : w1.cell? ⟨w.heap.size, 2, none⟩ = some (J Z n.spent) := (HP1.out.blkAt (i := 3) rfl).c 2 _ rfl
 have nc3 : w1.cell? ⟨w.heap.size, 3, none⟩ = some (J Z n.earned) := (HP1.out.blkAt (i := 3) rfl).c 3 _ rfl
 have nc4 : w1.cell? ⟨w.heap.size, 4, none⟩ = some (V n.sa n.seen.length n.sc) := (HP1.out.blkAt (i := 3) rfl).c 4 _ rfl
 have nc5 : w1.cell? ⟨w.heap.size, 5, none⟩ = some (V n.pa n.peers.length n.pc) := (HP1.out.blkAt (i := 3) rfl).c 5 _ rfl
 go_wp2_with fail
 refine (l6Copy_any n w1 HS.out hn0 HP0.out (HL.out.below HP1.out.below)).mono ?_
 rintro e w2 ⟨n2, rfl, hd, hnear, hP2⟩
 have HD : Hid _ := hide hd
 have HN2 : Hid _ := hide hnear
 have hB : w2.heap.size = w2.heap.size := rfl
 have HP3 := (HP1.out.call (i := 0) (rs := []) (rs' := ndL n2) rfl hP2).newBlk (i := 7) rfl [J Z n2.id, J Z n2.has, J Z n2.spent, J Z n2.earned, V n2.sa n2.seen.length n2.sc, V n2.pa n2.peers.length n2.pc] 27
 obtain ⟨B, hB⟩ : ∃ B, B = w2.heap.size := ⟨_, rfl⟩
 obtain ⟨w3, hw3⟩ : ∃ w3, w3 = w2.alloc (.cells #[J Z n2.id, J Z n2.has, J Z n2.spent, J Z n2.earned, V n2.sa n2.seen.length n2.sc, V n2.pa n2.peers.length n2.pc] 27) := ⟨_, rfl⟩
 have HP4 : Hid (Pool [] w [ndL n2, [], [], [blk w.heap.size [J Z n.id, J Z n.has, J Z n.spent, J Z n.earned, V n.sa n.seen.length n.sc, V n.pa n.peers.length n.pc]], [blk (w.heap.size + 1) [J Z 1, J Z aid, J Z ato, J Z amt, J Z m_fr, J Z m_to, J Z m_kd, J Z m_seq, J Z m_amt]], [blk (w.heap.size + 1 + 1) [J Z 0, J Z 0, J Z 0, J Z 0, V none 0 0, V none 0 0]], [], [blk B [J Z n2.id, J Z n2.has, J Z n2.spent, J Z n2.earned, V n2.sa n2.seen.length n2.sc, V n2.pa n2.peers.length n2.pc]], [], [], []] w3) := hide (by rw [hB, hw3]; exact HP3)
 have HW3 : Hid _ := hide hw3
 have HBB : Hid _ := hide hB
 have nc0 : (w2.alloc (.cells #[J Z n2.id, J Z n2.has, J Z n2.spent, J Z n2.earned, V n2.sa n2.seen.length n2.sc, V n2.pa n2.peers.length n2.pc] 27)).cell? ⟨w.heap.size, 0, none⟩ = some (J Z n.id) := (HP3.blkAt (i := 3) rfl).c 0 _ rfl
 have nc1 : (w2.alloc (.cells #[J Z n2.id, J Z n2.has, J Z n2.spent, J Z n2.earned, V n2.sa n2.seen.length n2.sc, V n2.pa n2.peers.length n2.pc] 27)).cell? ⟨w.heap.size, 1, none⟩ = some (J Z n.has) := (HP3.blkAt (i := 3) rfl).c 1 _ rfl
 have nc2 : (w2.alloc (.cells #[J Z n2.id, J Z n2.has, J Z n2.spent, J Z n2.earned, V n2.sa n2.seen.length n2.sc, V n2.pa n2.peers.length n2.pc] 27)).cell? ⟨w.heap.size, 2, none⟩ = some (J Z n.spent) := (HP3.blkAt (i := 3) rfl).c 2 _ rfl
 have nc3 : (w2.alloc (.cells #[J Z n2.id, J Z n2.has, J Z n2.spent, J Z n2.earned, V n2.sa n2.seen.length n2.sc, V n2.pa n2.peers.length n2.pc] 27)).cell? ⟨w.heap.size, 3, none⟩ = some (J Z n.earned) := (HP3.blkAt (i := 3) rfl).c 3 _ rfl
 have nc4 : (w2.alloc (.cells #[J Z n2.id, J Z n2.has, J Z n2.spent, J Z n2.earned, V n2.sa n2.seen.length n2.sc, V n2.pa n2.peers.length n2.pc] 27)).cell? ⟨w.heap.size, 4, none⟩ = some (V n.sa n.seen.length n.sc) := (HP3.blkAt (i := 3) rfl).c 4 _ rfl
 have nc5 : (w2.alloc (.cells #[J Z n2.id, J Z n2.has, J Z n2.spent, J Z n2.earned, V n2.sa n2.seen.length n2.sc, V n2.pa n2.peers.length n2.pc] 27)).cell? ⟨w.heap.size, 5, none⟩ = some (V n.pa n.peers.length n.pc) := (HP3.blkAt (i := 3) rfl).c 5 _ rfl
 have na0 : (w2.alloc (.cells #[J Z n2.id, J Z n2.has, J Z n2.spent, J Z n2.earned, V n2.sa n2.seen.length n2.sc, V n2.pa n2.peers.length n2.pc] 27)).cell? ⟨w.heap.size + 1, 0, none⟩ = some (J Z 1) := (HP3.blkAt (i := 4) rfl).c 0 _ rfl
 have na1 : (w2.alloc (.cells #[J Z n2.id, J Z n2.has, J Z n2.spent, J Z n2.earned, V n2.sa n2.seen.length n2.sc, V n2.pa n2.peers.length n2.pc] 27)).cell? ⟨w.heap.size + 1, 1, none⟩ = some (J Z aid) := (HP3.blkAt (i := 4) rfl).c 1 _ rfl
 have na2 : (w2.alloc (.cells #[J Z n2.id, J Z n2.has, J Z n2.spent, J Z n2.earned, V n2.sa n2.seen.length n2.sc, V n2.pa n2.peers.length n2.pc] 27)).cell? ⟨w.heap.size + 1, 2, none⟩ = some (J Z ato) := (HP3.blkAt (i := 4) rfl).c 2 _ rfl
 have na3 : (w2.alloc (.cells #[J Z n2.id, J Z n2.has, J Z n2.spent, J Z n2.earned, V n2.sa n2.seen.length n2.sc, V n2.pa n2.peers.length n2.pc] 27)).cell? ⟨w.heap.size + 1, 3, none⟩ = some (J Z amt) := (HP3.blkAt (i := 4) rfl).c 3 _ rfl
 have na4 : (w2.alloc (.cells #[J Z n2.id, J Z n2.has, J Z n2.spent, J Z n2.earned, V n2.sa n2.seen.length n2.sc, V n2.pa n2.peers.length n2.pc] 27)).cell? ⟨w.heap.size + 1, 4, none⟩ = some (J Z m_fr) := (HP3.blkAt (i := 4) rfl).c 4 _ rfl
 have na5 : (w2.alloc (.cells #[J Z n2.id, J Z n2.has, J Z n2.spent, J Z n2.earned, V n2.sa n2.seen.length n2.sc, V n2.pa n2.peers.length n2.pc] 27)).cell? ⟨w.heap.size + 1, 5, none⟩ = some (J Z m_to) := (HP3.blkAt (i := 4) rfl).c 5 _ rfl
 have na6 : (w2.alloc (.cells #[J Z n2.id, J Z n2.has, J Z n2.spent, J Z n2.earned, V n2.sa n2.seen.length n2.sc, V n2.pa n2.peers.length n2.pc] 27)).cell? ⟨w.heap.size + 1, 6, none⟩ = some (J Z m_kd) := (HP3.blkAt (i := 4) rfl).c 6 _ rfl
 have na7 : (w2.alloc (.cells #[J Z n2.id, J Z n2.has, J Z n2.spent, J Z n2.earned, V n2.sa n2.seen.length n2.sc, V n2.pa n2.peers.length n2.pc] 27)).cell? ⟨w.heap.size + 1, 7, none⟩ = some (J Z m_seq) := (HP3.blkAt (i := 4) rfl).c 7 _ rfl
 have na8 : (w2.alloc (.cells #[J Z n2.id, J Z n2.has, J Z n2.spent, J Z n2.earned, V n2.sa n2.seen.length n2.sc, V n2.pa n2.peers.length n2.pc] 27)).cell? ⟨w.heap.size + 1, 8, none⟩ = some (J Z m_amt) := (HP3.blkAt (i := 4) rfl).c 8 _ rfl
 clear hw3 hB HP3 hP2 hd hnear
 unfold ndV
 go_wp2_with fail
 rw [← HBB.out, ← HW3.out]
 refine (l6Form_any _ _ _ _ _ _ _ _ _ _ 1 aid ato amt m_fr m_to m_kd m_seq m_amt w3).mono ?_
 rw [show actB n.id (⟨1, aid, ato, amt, ⟨m_fr, m_to, m_kd, m_seq, m_amt⟩⟩ : Ac) = true from HF.out]
 rintro e w4 ⟨rfl, hb4⟩
 have HP5 : Hid (Pool [] w [ndL n2, [], [], [blk w.heap.size [J Z n.id, J Z n.has, J Z n.spent, J Z n.earned, V n.sa n.seen.length n.sc, V n.pa n.peers.length n.pc]], [blk (w.heap.size + 1) [J Z 1, J Z aid, J Z ato, J Z amt, J Z m_fr, J Z m_to, J Z m_kd, J Z m_seq, J Z m_amt]], [blk (w.heap.size + 1 + 1) [J Z 0, J Z 0, J Z 0, J Z 0, V none 0 0, V none 0 0]], [], [blk B [J Z n2.id, J Z n2.has, J Z n2.spent, J Z n2.earned, V n2.sa n2.seen.length n2.sc, V n2.pa n2.peers.length n2.pc]], [], [], []] w4) := hide (HP4.out.keep hb4)
 clear hb4 HP4 HW3 HBB HP1
 have nb0 : w4.cell? ⟨B, 0, none⟩ = some (J Z n2.id) := (HP5.out.blkAt (i := 7) rfl).c 0 _ rfl
 have nb1 : w4.cell? ⟨B, 1, none⟩ = some (J Z n2.has) := (HP5.out.blkAt (i := 7) rfl).c 1 _ rfl
 have nb2 : w4.cell? ⟨B, 2, none⟩ = some (J Z n2.spent) := (HP5.out.blkAt (i := 7) rfl).c 2 _ rfl
 have nb3 : w4.cell? ⟨B, 3, none⟩ = some (J Z n2.earned) := (HP5.out.blkAt (i := 7) rfl).c 3 _ rfl
 have nb4 : w4.cell? ⟨B, 4, none⟩ = some (V n2.sa n2.seen.length n2.sc) := (HP5.out.blkAt (i := 7) rfl).c 4 _ rfl
 have nb5 : w4.cell? ⟨B, 5, none⟩ = some (V n2.pa n2.peers.length n2.pc) := (HP5.out.blkAt (i := 7) rfl).c 5 _ rfl
 have na0 : w4.cell? ⟨w.heap.size + 1, 0, none⟩ = some (J Z 1) := (HP5.out.blkAt (i := 4) rfl).c 0 _ rfl
 have na1 : w4.cell? ⟨w.heap.size + 1, 1, none⟩ = some (J Z aid) := (HP5.out.blkAt (i := 4) rfl).c 1 _ rfl
 have na2 : w4.cell? ⟨w.heap.size + 1, 2, none⟩ = some (J Z ato) := (HP5.out.blkAt (i := 4) rfl).c 2 _ rfl
 have na3 : w4.cell? ⟨w.heap.size + 1, 3, none⟩ = some (J Z amt) := (HP5.out.blkAt (i := 4) rfl).c 3 _ rfl
 have na4 : w4.cell? ⟨w.heap.size + 1, 4, none⟩ = some (J Z m_fr) := (HP5.out.blkAt (i := 4) rfl).c 4 _ rfl
 have na5 : w4.cell? ⟨w.heap.size + 1, 5, none⟩ = some (J Z m_to) := (HP5.out.blkAt (i := 4) rfl).c 5 _ rfl
 have na6 : w4.cell? ⟨w.heap.size + 1, 6, none⟩ = some (J Z m_kd) := (HP5.out.blkAt (i := 4) rfl).c 6 _ rfl
 have na7 : w4.cell? ⟨w.heap.size + 1, 7, none⟩ = some (J Z m_seq) := (HP5.out.blkAt (i := 4) rfl).c 7 _ rfl
 have na8 : w4.cell? ⟨w.heap.size + 1, 8, none⟩ = some (J Z m_amt) := (HP5.out.blkAt (i := 4) rfl).c 8 _ rfl
 go_wp2_with fail
 refine (l6Money_any n2 (⟨1, aid, ato, amt, ⟨m_fr, m_to, m_kd, m_seq, m_amt⟩⟩ : Ac) w4 (smN_of HD.out HS.out).1 HN2.out (HP5.out.get (i := 0) rfl) (inN_of HD.out (nodeB_in HO.out).1) (actB_money (a := (⟨1, aid, ato, amt, ⟨m_fr, m_to, m_kd, m_seq, m_amt⟩⟩ : Ac)) (by simp) HF.out) (by simp)).mono ?_
 rintro e w5 ⟨n3, rfl, hd3, hP6⟩
 rw [HD.out] at hd3
 rw [show moneyM n2.d (⟨1, aid, ato, amt, ⟨m_fr, m_to, m_kd, m_seq, m_amt⟩⟩ : Ac) = moneyM n.d (⟨1, aid, ato, amt, ⟨m_fr, m_to, m_kd, m_seq, m_amt⟩⟩ : Ac) from by rw [HD.out]]
 have HD3 : Hid _ := hide hd3
 have HP7 := (HP5.out.call (i := 0) rfl hP6).newBlk (i := 6) rfl [J Z n3.id, J Z n3.has, J Z n3.spent, J Z n3.earned, V n3.sa n3.seen.length n3.sc, V n3.pa n3.peers.length n3.pc] 27
 obtain ⟨B6, hB6⟩ : ∃ B6, B6 = w5.heap.size := ⟨_, rfl⟩
 obtain ⟨w6, hw6⟩ : ∃ w6, w6 = w5.alloc (.cells #[J Z n3.id, J Z n3.has, J Z n3.spent, J Z n3.earned, V n3.sa n3.seen.length n3.sc, V n3.pa n3.peers.length n3.pc] 27) := ⟨_, rfl⟩
 have HP8 : Hid (Pool [] w [ndL n3, [], [], [blk w.heap.size [J Z n.id, J Z n.has, J Z n.spent, J Z n.earned, V n.sa n.seen.length n.sc, V n.pa n.peers.length n.pc]], [blk (w.heap.size + 1) [J Z 1, J Z aid, J Z ato, J Z amt, J Z m_fr, J Z m_to, J Z m_kd, J Z m_seq, J Z m_amt]], [blk (w.heap.size + 1 + 1) [J Z 0, J Z 0, J Z 0, J Z 0, V none 0 0, V none 0 0]], [blk B6 [J Z n3.id, J Z n3.has, J Z n3.spent, J Z n3.earned, V n3.sa n3.seen.length n3.sc, V n3.pa n3.peers.length n3.pc]], [blk B [J Z n2.id, J Z n2.has, J Z n2.spent, J Z n2.earned, V n2.sa n2.seen.length n2.sc, V n2.pa n2.peers.length n2.pc]], [], [], []] w6) := hide (by rw [hB6, hw6]; exact HP7)
 have HW6 : Hid _ := hide hw6
 clear hP6 HP7 HP5 hd3
 obtain ⟨MM, hMM⟩ : ∃ MM, MM = moneyM n.d (⟨1, aid, ato, amt, ⟨m_fr, m_to, m_kd, m_seq, m_amt⟩⟩ : Ac) := ⟨_, rfl⟩
 rw [← hMM] at HD3 HM ⊢
 clear hMM
 unfold ndV
 have HPW : Pool [] w [ndL n3, [], [], [blk w.heap.size [J Z n.id, J Z n.has, J Z n.spent, J Z n.earned, V n.sa n.seen.length n.sc, V n.pa n.peers.length n.pc]], [blk (w.heap.size + 1) [J Z 1, J Z aid, J Z ato, J Z amt, J Z m_fr, J Z m_to, J Z m_kd, J Z m_seq, J Z m_amt]], [blk (w.heap.size + 1 + 1) [J Z 0, J Z 0, J Z 0, J Z 0, V none 0 0, V none 0 0]], [blk w5.heap.size [J Z n3.id, J Z n3.has, J Z n3.spent, J Z n3.earned, V n3.sa n3.seen.length n3.sc, V n3.pa n3.peers.length n3.pc]], [blk B [J Z n2.id, J Z n2.has, J Z n2.spent, J Z n2.earned, V n2.sa n2.seen.length n2.sc, V n2.pa n2.peers.length n2.pc]], [], [], []] (w5.alloc (.cells #[J Z n3.id, J Z n3.has, J Z n3.spent, J Z n3.earned, V n3.sa n3.seen.length n3.sc, V n3.pa n3.peers.length n3.pc] 27)) := by have := HP8.out; rw [hB6, hw6] at this; exact this
 have nb0 : (w5.alloc (.cells #[J Z n3.id, J Z n3.has, J Z n3.spent, J Z n3.earned, V n3.sa n3.seen.length n3.sc, V n3.pa n3.peers.length n3.pc] 27)).cell? ⟨w5.heap.size, 0, none⟩ = some (J Z n3.id) := (HPW.blkAt (i := 6) rfl).c 0 _ rfl
 have nb1 : (w5.alloc (.cells #[J Z n3.id, J Z n3.has, J Z n3.spent, J Z n3.earned, V n3.sa n3.seen.length n3.sc, V n3.pa n3.peers.length n3.pc] 27)).cell? ⟨w5.heap.size, 1, none⟩ = some (J Z n3.has) := (HPW.blkAt (i := 6) rfl).c 1 _ rfl
 have nb2 : (w5.alloc (.cells #[J Z n3.id, J Z n3.has, J Z n3.spent, J Z n3.earned, V n3.sa n3.seen.length n3.sc, V n3.pa n3.peers.length n3.pc] 27)).cell? ⟨w5.heap.size, 2, none⟩ = some (J Z n3.spent) := (HPW.blkAt (i := 6) rfl).c 2 _ rfl
 have nb3 : (w5.alloc (.cells #[J Z n3.id, J Z n3.has, J Z n3.spent, J Z n3.earned, V n3.sa n3.seen.length n3.sc, V n3.pa n3.peers.length n3.pc] 27)).cell? ⟨w5.heap.size, 3, none⟩ = some (J Z n3.earned) := (HPW.blkAt (i := 6) rfl).c 3 _ rfl
 have nb4 : (w5.alloc (.cells #[J Z n3.id, J Z n3.has, J Z n3.spent, J Z n3.earned, V n3.sa n3.seen.length n3.sc, V n3.pa n3.peers.length n3.pc] 27)).cell? ⟨w5.heap.size, 4, none⟩ = some (V n3.sa n3.seen.length n3.sc) := (HPW.blkAt (i := 6) rfl).c 4 _ rfl
 have nb5 : (w5.alloc (.cells #[J Z n3.id, J Z n3.has, J Z n3.spent, J Z n3.earned, V n3.sa n3.seen.length n3.sc, V n3.pa n3.peers.length n3.pc] 27)).cell? ⟨w5.heap.size, 5, none⟩ = some (V n3.pa n3.peers.length n3.pc) := (HPW.blkAt (i := 6) rfl).c 5 _ rfl
 have ny0 : (w5.alloc (.cells #[J Z n3.id, J Z n3.has, J Z n3.spent, J Z n3.earned, V n3.sa n3.seen.length n3.sc, V n3.pa n3.peers.length n3.pc] 27)).cell? ⟨w.heap.size + 1 + 1, 0, none⟩ = some (J Z 0) := (HPW.blkAt (i := 5) rfl).c 0 _ rfl
 have ny1 : (w5.alloc (.cells #[J Z n3.id, J Z n3.has, J Z n3.spent, J Z n3.earned, V n3.sa n3.seen.length n3.sc, V n3.pa n3.peers.length n3.pc] 27)).cell? ⟨w.heap.size + 1 + 1, 1, none⟩ = some (J Z 0) := (HPW.blkAt (i := 5) rfl).c 1 _ rfl
 have ny2 : (w5.alloc (.cells #[J Z n3.id, J Z n3.has, J Z n3.spent, J Z n3.earned, V n3.sa n3.seen.length n3.sc, V n3.pa n3.peers.length n3.pc] 27)).cell? ⟨w.heap.size + 1 + 1, 2, none⟩ = some (J Z 0) := (HPW.blkAt (i := 5) rfl).c 2 _ rfl
 have ny3 : (w5.alloc (.cells #[J Z n3.id, J Z n3.has, J Z n3.spent, J Z n3.earned, V n3.sa n3.seen.length n3.sc, V n3.pa n3.peers.length n3.pc] 27)).cell? ⟨w.heap.size + 1 + 1, 3, none⟩ = some (J Z 0) := (HPW.blkAt (i := 5) rfl).c 3 _ rfl
 have ny4 : (w5.alloc (.cells #[J Z n3.id, J Z n3.has, J Z n3.spent, J Z n3.earned, V n3.sa n3.seen.length n3.sc, V n3.pa n3.peers.length n3.pc] 27)).cell? ⟨w.heap.size + 1 + 1, 4, none⟩ = some (V none 0 0) := (HPW.blkAt (i := 5) rfl).c 4 _ rfl
 have ny5 : (w5.alloc (.cells #[J Z n3.id, J Z n3.has, J Z n3.spent, J Z n3.earned, V n3.sa n3.seen.length n3.sc, V n3.pa n3.peers.length n3.pc] 27)).cell? ⟨w.heap.size + 1 + 1, 5, none⟩ = some (V none 0 0) := (HPW.blkAt (i := 5) rfl).c 5 _ rfl
 have zny0 : (w5.alloc (.cells #[J Z n3.id, J Z n3.has, J Z n3.spent, J Z n3.earned, V n3.sa n3.seen.length n3.sc, V n3.pa n3.peers.length n3.pc] 27)).frozen? ⟨w.heap.size + 1 + 1, 0, none⟩ = false := (HPW.blkAt (i := 5) rfl).f 0
 have zny1 : (w5.alloc (.cells #[J Z n3.id, J Z n3.has, J Z n3.spent, J Z n3.earned, V n3.sa n3.seen.length n3.sc, V n3.pa n3.peers.length n3.pc] 27)).frozen? ⟨w.heap.size + 1 + 1, 1, none⟩ = false := (HPW.blkAt (i := 5) rfl).f 1
 have zny2 : (w5.alloc (.cells #[J Z n3.id, J Z n3.has, J Z n3.spent, J Z n3.earned, V n3.sa n3.seen.length n3.sc, V n3.pa n3.peers.length n3.pc] 27)).frozen? ⟨w.heap.size + 1 + 1, 2, none⟩ = false := (HPW.blkAt (i := 5) rfl).f 2
 have zny3 : (w5.alloc (.cells #[J Z n3.id, J Z n3.has, J Z n3.spent, J Z n3.earned, V n3.sa n3.seen.length n3.sc, V n3.pa n3.peers.length n3.pc] 27)).frozen? ⟨w.heap.size + 1 + 1, 3, none⟩ = false := (HPW.blkAt (i := 5) rfl).f 3
 have zny4 : (w5.alloc (.cells #[J Z n3.id, J Z n3.has, J Z n3.spent, J Z n3.earned, V n3.sa n3.seen.length n3.sc, V n3.pa n3.peers.length n3.pc] 27)).frozen? ⟨w.heap.size + 1 + 1, 4, none⟩ = false := (HPW.blkAt (i := 5) rfl).f 4
 have zny5 : (w5.alloc (.cells #[J Z n3.id, J Z n3.has, J Z n3.spent, J Z n3.earned, V n3.sa n3.seen.length n3.sc, V n3.pa n3.peers.length n3.pc] 27)).frozen? ⟨w.heap.size + 1 + 1, 5, none⟩ = false := (HPW.blkAt (i := 5) rfl).f 5
 have HPV : Hid _ := hide HPW
 clear HPW hw6 hB6
 have HQ : Hid _ := hide (HPV.out.set6 (i := 5) rfl (J Z n3.id) (J Z n3.has) (J Z n3.spent) (J Z n3.earned) (V n3.sa n3.seen.length n3.sc) (V n3.pa n3.peers.length n3.pc))
 go_wp2
 refine name_post (fun W9 hW9 => ?_)
 have hq := HQ.out
 rw [← hW9] at hq
 have z_ := hq.blkAt (i := 5) rfl
 have g0_ := z_.c 0 _ rfl
 have g1_ := z_.c 1 _ rfl
 have g2_ := z_.c 2 _ rfl
 have g3_ := z_.c 3 _ rfl
 have g4_ := z_.c 4 _ rfl
 have g5_ := z_.c 5 _ rfl
 have hq2 := hq.noMsg (i := 8) rfl
 exact bodyPost_ret (v := .tuple #[ndV n3, V none 0 0, J Z (MM.2)]) (by simp [results, Try.results8, go_sem, g0_, g1_, g2_, g3_, g4_, g5_, ndV]) rfl ⟨n3, none, 0, (by rw [HM.out] <;> rfl), (by rw [HM.out] <;> exact HD3.out), (by
  rw [HM.out]
  exact (((((((hq2.drop (i := 10) rfl).drop (i := 9) rfl).drop (i := 7) rfl).drop (i := 6) rfl).drop (i := 5) rfl).drop (i := 4) rfl).drop (i := 3) rfl).cast (by simp [ndL, endsL]))⟩
set_option maxHeartbeats 4000000 in
theorem acted_money2 (n : Nd) (aid ato amt m_fr m_to m_kd m_seq m_amt : Int) (w : World) (hs : SmN n) (hn0 : n.sa = none → n.sc = 0) (hp0 : ∀ p ∈ n.peers, p.a = none → p.cap = 0) (h : NodeAt w n) (hno : nodeB n.d = true) (hfo : actB n.id ⟨2, aid, ato, amt, ⟨m_fr, m_to, m_kd, m_seq, m_amt⟩⟩ = true) :
  Calls Try.prog 8 #[.agg #[J Z n.id, J Z n.has, J Z n.spent, J Z n.earned, V n.sa n.seen.length n.sc, V n.pa n.peers.length n.pc], .agg #[J Z 2, J Z aid, J Z ato, J Z amt, J Z m_fr, J Z m_to, J Z m_kd, J Z m_seq, J Z m_amt]] w fun e w' => ActedEnd [] (actM n.d (⟨2, aid, ato, amt, ⟨m_fr, m_to, m_kd, m_seq, m_amt⟩⟩ : Ac)) w e w' := by
 have HM : Hid (actM n.d (⟨2, aid, ato, amt, ⟨m_fr, m_to, m_kd, m_seq, m_amt⟩⟩ : Ac) = ((moneyM n.d (⟨2, aid, ato, amt, ⟨m_fr, m_to, m_kd, m_seq, m_amt⟩⟩ : Ac)).1, [], (moneyM n.d (⟨2, aid, ato, amt, ⟨m_fr, m_to, m_kd, m_seq, m_amt⟩⟩ : Ac)).2)) := hide (by
  unfold actM; rw [if_neg (by rw [hno]; simp), if_neg (show ¬ actB n.d.id _ = false by rw [show actB n.d.id _ = true from hfo]; simp)]; rfl)
 have HS : Hid _ := hide hs
 have HL : Hid _ := hide h
 have HO : Hid _ := hide hno
 have HP0 : Hid _ := hide hp0
 obtain ⟨W, hW⟩ : ∃ W, W = ((w.alloc (.cells #[J Z n.id, J Z n.has, J Z n.spent, J Z n.earned, V n.sa n.seen.length n.sc, V n.pa n.peers.length n.pc] 27)).alloc (.cells #[J Z 2, J Z aid, J Z ato, J Z amt, J Z m_fr, J Z m_to, J Z m_kd, J Z m_seq, J Z m_amt] 31)).alloc (.cells #[J Z 0, J Z 0, J Z 0, J Z 0, V none 0 0, V none 0 0] 27) := ⟨_, rfl⟩
 have s1 : (w.alloc (.cells #[J Z n.id, J Z n.has, J Z n.spent, J Z n.earned, V n.sa n.seen.length n.sc, V n.pa n.peers.length n.pc] 27)).heap.size = w.heap.size + 1 := by simp
 have s2 : ((w.alloc (.cells #[J Z n.id, J Z n.has, J Z n.spent, J Z n.earned, V n.sa n.seen.length n.sc, V n.pa n.peers.length n.pc] 27)).alloc (.cells #[J Z 2, J Z aid, J Z ato, J Z amt, J Z m_fr, J Z m_to, J Z m_kd, J Z m_seq, J Z m_amt] 31)).heap.size = w.heap.size + 1 + 1 := by simp
 have HP : Hid (Pool [] w [[], [], [], [blk w.heap.size [J Z n.id, J Z n.has, J Z n.spent, J Z n.earned, V n.sa n.seen.length n.sc, V n.pa n.peers.length n.pc]], [blk (w.heap.size + 1) [J Z 2, J Z aid, J Z ato, J Z amt, J Z m_fr, J Z m_to, J Z m_kd, J Z m_seq, J Z m_amt]], [blk (w.heap.size + 1 + 1) [J Z 0, J Z 0, J Z 0, J Z 0, V none 0 0, V none 0 0]], [], [], [], [], []] W) := hide (by
  rw [hW, ← s2, ← s1]
  exact (((Pool.start w [[], [], [], [], [], [], [], [], [], [], []] rfl).newBlk (i := 3) rfl [J Z n.id, J Z n.has, J Z n.spent, J Z n.earned, V n.sa n.seen.length n.sc, V n.pa n.peers.length n.pc] 27).newBlk (i := 4) rfl [J Z 2, J Z aid, J Z ato, J Z amt, J Z m_fr, J Z m_to, J Z m_kd, J Z m_seq, J Z m_amt] 31).newBlk (i := 5) rfl [J Z 0, J Z 0, J Z 0, J Z 0, V none 0 0, V none 0 0] 27)
 have HW : Hid (((w.alloc (.cells #[J Z n.id, J Z n.has, J Z n.spent, J Z n.earned, V n.sa n.seen.length n.sc, V n.pa n.peers.length n.pc] 27)).alloc (.cells #[J Z 2, J Z aid, J Z ato, J Z amt, J Z m_fr, J Z m_to, J Z m_kd, J Z m_seq, J Z m_amt] 31)).alloc (.cells #[J Z 0, J Z 0, J Z 0, J Z 0, V none 0 0, V none 0 0] 27) = W) := hide hW.symm
 have HF : Hid _ := hide hfo
 clear hW s1 s2 hs h hno hp0 hfo
 go_enter Try.func8, Try.ntmps8
 go_wp2_with fail
 rw [HW.out]
 refine (specNodeOk_any _ _ _ _ _ n.seen _ _ n.peers _ W HS.out.1 HS.out.2.1 HS.out.2.2 (HL.out.seen.below HP.out.below) (HL.out.peers.below HP.out.below)).mono ?_
 rw [show nodeB ⟨n.id, n.has, n.spent, n.earned, n.seen, n.peers.map Pr.d⟩ = true from HO.out]
 rintro e w1 ⟨rfl, hb1⟩
 have HP1 : Hid (Pool [] w [[], [], [], [blk w.heap.size [J Z n.id, J Z n.has, J Z n.spent, J Z n.earned, V n.sa n.seen.length n.sc, V n.pa n.peers.length n.pc]], [blk (w.heap.size + 1) [J Z 2, J Z aid, J Z ato, J Z amt, J Z m_fr, J Z m_to, J Z m_kd, J Z m_seq, J Z m_amt]], [blk (w.heap.size + 1 + 1) [J Z 0, J Z 0, J Z 0, J Z 0, V none 0 0, V none 0 0]], [], [], [], [], []] w1) := hide (HP.out.keep hb1)
 clear hb1 HP HW
 have nc0 : w1.cell? ⟨w.heap.size, 0, none⟩ = some (J Z n.id) := (HP1.out.blkAt (i := 3) rfl).c 0 _ rfl
 have nc1 : w1.cell? ⟨w.heap.size, 1, none⟩ = some (J Z n.has) := (HP1.out.blkAt (i := 3) rfl).c 1 _ rfl
 have nc2 : w1.cell? ⟨w.heap.size, 2, none⟩ = some (J Z n.spent) := (HP1.out.blkAt (i := 3) rfl).c 2 _ rfl
 have nc3 : w1.cell? ⟨w.heap.size, 3, none⟩ = some (J Z n.earned) := (HP1.out.blkAt (i := 3) rfl).c 3 _ rfl
 have nc4 : w1.cell? ⟨w.heap.size, 4, none⟩ = some (V n.sa n.seen.length n.sc) := (HP1.out.blkAt (i := 3) rfl).c 4 _ rfl
 have nc5 : w1.cell? ⟨w.heap.size, 5, none⟩ = some (V n.pa n.peers.length n.pc) := (HP1.out.blkAt (i := 3) rfl).c 5 _ rfl
 go_wp2_with fail
 refine (l6Copy_any n w1 HS.out hn0 HP0.out (HL.out.below HP1.out.below)).mono ?_
 rintro e w2 ⟨n2, rfl, hd, hnear, hP2⟩
 have HD : Hid _ := hide hd
 have HN2 : Hid _ := hide hnear
 have hB : w2.heap.size = w2.heap.size := rfl
 have HP3 := (HP1.out.call (i := 0) (rs := []) (rs' := ndL n2) rfl hP2).newBlk (i := 7) rfl [J Z n2.id, J Z n2.has, J Z n2.spent, J Z n2.earned, V n2.sa n2.seen.length n2.sc, V n2.pa n2.peers.length n2.pc] 27
 obtain ⟨B, hB⟩ : ∃ B, B = w2.heap.size := ⟨_, rfl⟩
 obtain ⟨w3, hw3⟩ : ∃ w3, w3 = w2.alloc (.cells #[J Z n2.id, J Z n2.has, J Z n2.spent, J Z n2.earned, V n2.sa n2.seen.length n2.sc, V n2.pa n2.peers.length n2.pc] 27) := ⟨_, rfl⟩
 have HP4 : Hid (Pool [] w [ndL n2, [], [], [blk w.heap.size [J Z n.id, J Z n.has, J Z n.spent, J Z n.earned, V n.sa n.seen.length n.sc, V n.pa n.peers.length n.pc]], [blk (w.heap.size + 1) [J Z 2, J Z aid, J Z ato, J Z amt, J Z m_fr, J Z m_to, J Z m_kd, J Z m_seq, J Z m_amt]], [blk (w.heap.size + 1 + 1) [J Z 0, J Z 0, J Z 0, J Z 0, V none 0 0, V none 0 0]], [], [blk B [J Z n2.id, J Z n2.has, J Z n2.spent, J Z n2.earned, V n2.sa n2.seen.length n2.sc, V n2.pa n2.peers.length n2.pc]], [], [], []] w3) := hide (by rw [hB, hw3]; exact HP3)
 have HW3 : Hid _ := hide hw3
 have HBB : Hid _ := hide hB
 have nc0 : (w2.alloc (.cells #[J Z n2.id, J Z n2.has, J Z n2.spent, J Z n2.earned, V n2.sa n2.seen.length n2.sc, V n2.pa n2.peers.length n2.pc] 27)).cell? ⟨w.heap.size, 0, none⟩ = some (J Z n.id) := (HP3.blkAt (i := 3) rfl).c 0 _ rfl
 have nc1 : (w2.alloc (.cells #[J Z n2.id, J Z n2.has, J Z n2.spent, J Z n2.earned, V n2.sa n2.seen.length n2.sc, V n2.pa n2.peers.length n2.pc] 27)).cell? ⟨w.heap.size, 1, none⟩ = some (J Z n.has) := (HP3.blkAt (i := 3) rfl).c 1 _ rfl
 have nc2 : (w2.alloc (.cells #[J Z n2.id, J Z n2.has, J Z n2.spent, J Z n2.earned, V n2.sa n2.seen.length n2.sc, V n2.pa n2.peers.length n2.pc] 27)).cell? ⟨w.heap.size, 2, none⟩ = some (J Z n.spent) := (HP3.blkAt (i := 3) rfl).c 2 _ rfl
 have nc3 : (w2.alloc (.cells #[J Z n2.id, J Z n2.has, J Z n2.spent, J Z n2.earned, V n2.sa n2.seen.length n2.sc, V n2.pa n2.peers.length n2.pc] 27)).cell? ⟨w.heap.size, 3, none⟩ = some (J Z n.earned) := (HP3.blkAt (i := 3) rfl).c 3 _ rfl
 have nc4 : (w2.alloc (.cells #[J Z n2.id, J Z n2.has, J Z n2.spent, J Z n2.earned, V n2.sa n2.seen.length n2.sc, V n2.pa n2.peers.length n2.pc] 27)).cell? ⟨w.heap.size, 4, none⟩ = some (V n.sa n.seen.length n.sc) := (HP3.blkAt (i := 3) rfl).c 4 _ rfl
 have nc5 : (w2.alloc (.cells #[J Z n2.id, J Z n2.has, J Z n2.spent, J Z n2.earned, V n2.sa n2.seen.length n2.sc, V n2.pa n2.peers.length n2.pc] 27)).cell? ⟨w.heap.size, 5, none⟩ = some (V n.pa n.peers.length n.pc) := (HP3.blkAt (i := 3) rfl).c 5 _ rfl
 have na0 : (w2.alloc (.cells #[J Z n2.id, J Z n2.has, J Z n2.spent, J Z n2.earned, V n2.sa n2.seen.length n2.sc, V n2.pa n2.peers.length n2.pc] 27)).cell? ⟨w.heap.size + 1, 0, none⟩ = some (J Z 2) := (HP3.blkAt (i := 4) rfl).c 0 _ rfl
 have na1 : (w2.alloc (.cells #[J Z n2.id, J Z n2.has, J Z n2.spent, J Z n2.earned, V n2.sa n2.seen.length n2.sc, V n2.pa n2.peers.length n2.pc] 27)).cell? ⟨w.heap.size + 1, 1, none⟩ = some (J Z aid) := (HP3.blkAt (i := 4) rfl).c 1 _ rfl
 have na2 : (w2.alloc (.cells #[J Z n2.id, J Z n2.has, J Z n2.spent, J Z n2.earned, V n2.sa n2.seen.length n2.sc, V n2.pa n2.peers.length n2.pc] 27)).cell? ⟨w.heap.size + 1, 2, none⟩ = some (J Z ato) := (HP3.blkAt (i := 4) rfl).c 2 _ rfl
 have na3 : (w2.alloc (.cells #[J Z n2.id, J Z n2.has, J Z n2.spent, J Z n2.earned, V n2.sa n2.seen.length n2.sc, V n2.pa n2.peers.length n2.pc] 27)).cell? ⟨w.heap.size + 1, 3, none⟩ = some (J Z amt) := (HP3.blkAt (i := 4) rfl).c 3 _ rfl
 have na4 : (w2.alloc (.cells #[J Z n2.id, J Z n2.has, J Z n2.spent, J Z n2.earned, V n2.sa n2.seen.length n2.sc, V n2.pa n2.peers.length n2.pc] 27)).cell? ⟨w.heap.size + 1, 4, none⟩ = some (J Z m_fr) := (HP3.blkAt (i := 4) rfl).c 4 _ rfl
 have na5 : (w2.alloc (.cells #[J Z n2.id, J Z n2.has, J Z n2.spent, J Z n2.earned, V n2.sa n2.seen.length n2.sc, V n2.pa n2.peers.length n2.pc] 27)).cell? ⟨w.heap.size + 1, 5, none⟩ = some (J Z m_to) := (HP3.blkAt (i := 4) rfl).c 5 _ rfl
 have na6 : (w2.alloc (.cells #[J Z n2.id, J Z n2.has, J Z n2.spent, J Z n2.earned, V n2.sa n2.seen.length n2.sc, V n2.pa n2.peers.length n2.pc] 27)).cell? ⟨w.heap.size + 1, 6, none⟩ = some (J Z m_kd) := (HP3.blkAt (i := 4) rfl).c 6 _ rfl
 have na7 : (w2.alloc (.cells #[J Z n2.id, J Z n2.has, J Z n2.spent, J Z n2.earned, V n2.sa n2.seen.length n2.sc, V n2.pa n2.peers.length n2.pc] 27)).cell? ⟨w.heap.size + 1, 7, none⟩ = some (J Z m_seq) := (HP3.blkAt (i := 4) rfl).c 7 _ rfl
 have na8 : (w2.alloc (.cells #[J Z n2.id, J Z n2.has, J Z n2.spent, J Z n2.earned, V n2.sa n2.seen.length n2.sc, V n2.pa n2.peers.length n2.pc] 27)).cell? ⟨w.heap.size + 1, 8, none⟩ = some (J Z m_amt) := (HP3.blkAt (i := 4) rfl).c 8 _ rfl
 clear hw3 hB HP3 hP2 hd hnear
 unfold ndV
 go_wp2_with fail
 rw [← HBB.out, ← HW3.out]
 refine (l6Form_any _ _ _ _ _ _ _ _ _ _ 2 aid ato amt m_fr m_to m_kd m_seq m_amt w3).mono ?_
 rw [show actB n.id (⟨2, aid, ato, amt, ⟨m_fr, m_to, m_kd, m_seq, m_amt⟩⟩ : Ac) = true from HF.out]
 rintro e w4 ⟨rfl, hb4⟩
 have HP5 : Hid (Pool [] w [ndL n2, [], [], [blk w.heap.size [J Z n.id, J Z n.has, J Z n.spent, J Z n.earned, V n.sa n.seen.length n.sc, V n.pa n.peers.length n.pc]], [blk (w.heap.size + 1) [J Z 2, J Z aid, J Z ato, J Z amt, J Z m_fr, J Z m_to, J Z m_kd, J Z m_seq, J Z m_amt]], [blk (w.heap.size + 1 + 1) [J Z 0, J Z 0, J Z 0, J Z 0, V none 0 0, V none 0 0]], [], [blk B [J Z n2.id, J Z n2.has, J Z n2.spent, J Z n2.earned, V n2.sa n2.seen.length n2.sc, V n2.pa n2.peers.length n2.pc]], [], [], []] w4) := hide (HP4.out.keep hb4)
 clear hb4 HP4 HW3 HBB HP1
 have nb0 : w4.cell? ⟨B, 0, none⟩ = some (J Z n2.id) := (HP5.out.blkAt (i := 7) rfl).c 0 _ rfl
 have nb1 : w4.cell? ⟨B, 1, none⟩ = some (J Z n2.has) := (HP5.out.blkAt (i := 7) rfl).c 1 _ rfl
 have nb2 : w4.cell? ⟨B, 2, none⟩ = some (J Z n2.spent) := (HP5.out.blkAt (i := 7) rfl).c 2 _ rfl
 have nb3 : w4.cell? ⟨B, 3, none⟩ = some (J Z n2.earned) := (HP5.out.blkAt (i := 7) rfl).c 3 _ rfl
 have nb4 : w4.cell? ⟨B, 4, none⟩ = some (V n2.sa n2.seen.length n2.sc) := (HP5.out.blkAt (i := 7) rfl).c 4 _ rfl
 have nb5 : w4.cell? ⟨B, 5, none⟩ = some (V n2.pa n2.peers.length n2.pc) := (HP5.out.blkAt (i := 7) rfl).c 5 _ rfl
 have na0 : w4.cell? ⟨w.heap.size + 1, 0, none⟩ = some (J Z 2) := (HP5.out.blkAt (i := 4) rfl).c 0 _ rfl
 have na1 : w4.cell? ⟨w.heap.size + 1, 1, none⟩ = some (J Z aid) := (HP5.out.blkAt (i := 4) rfl).c 1 _ rfl
 have na2 : w4.cell? ⟨w.heap.size + 1, 2, none⟩ = some (J Z ato) := (HP5.out.blkAt (i := 4) rfl).c 2 _ rfl
 have na3 : w4.cell? ⟨w.heap.size + 1, 3, none⟩ = some (J Z amt) := (HP5.out.blkAt (i := 4) rfl).c 3 _ rfl
 have na4 : w4.cell? ⟨w.heap.size + 1, 4, none⟩ = some (J Z m_fr) := (HP5.out.blkAt (i := 4) rfl).c 4 _ rfl
 have na5 : w4.cell? ⟨w.heap.size + 1, 5, none⟩ = some (J Z m_to) := (HP5.out.blkAt (i := 4) rfl).c 5 _ rfl
 have na6 : w4.cell? ⟨w.heap.size + 1, 6, none⟩ = some (J Z m_kd) := (HP5.out.blkAt (i := 4) rfl).c 6 _ rfl
 have na7 : w4.cell? ⟨w.heap.size + 1, 7, none⟩ = some (J Z m_seq) := (HP5.out.blkAt (i := 4) rfl).c 7 _ rfl
 have na8 : w4.cell? ⟨w.heap.size + 1, 8, none⟩ = some (J Z m_amt) := (HP5.out.blkAt (i := 4) rfl).c 8 _ rfl
 go_wp2_with fail
 refine (l6Money_any n2 (⟨2, aid, ato, amt, ⟨m_fr, m_to, m_kd, m_seq, m_amt⟩⟩ : Ac) w4 (smN_of HD.out HS.out).1 HN2.out (HP5.out.get (i := 0) rfl) (inN_of HD.out (nodeB_in HO.out).1) (actB_money (a := (⟨2, aid, ato, amt, ⟨m_fr, m_to, m_kd, m_seq, m_amt⟩⟩ : Ac)) (by simp) HF.out) (by simp)).mono ?_
 rintro e w5 ⟨n3, rfl, hd3, hP6⟩
 rw [HD.out] at hd3
 rw [show moneyM n2.d (⟨2, aid, ato, amt, ⟨m_fr, m_to, m_kd, m_seq, m_amt⟩⟩ : Ac) = moneyM n.d (⟨2, aid, ato, amt, ⟨m_fr, m_to, m_kd, m_seq, m_amt⟩⟩ : Ac) from by rw [HD.out]]
 have HD3 : Hid _ := hide hd3
 have HP7 := (HP5.out.call (i := 0) rfl hP6).newBlk (i := 6) rfl [J Z n3.id, J Z n3.has, J Z n3.spent, J Z n3.earned, V n3.sa n3.seen.length n3.sc, V n3.pa n3.peers.length n3.pc] 27
 obtain ⟨B6, hB6⟩ : ∃ B6, B6 = w5.heap.size := ⟨_, rfl⟩
 obtain ⟨w6, hw6⟩ : ∃ w6, w6 = w5.alloc (.cells #[J Z n3.id, J Z n3.has, J Z n3.spent, J Z n3.earned, V n3.sa n3.seen.length n3.sc, V n3.pa n3.peers.length n3.pc] 27) := ⟨_, rfl⟩
 have HP8 : Hid (Pool [] w [ndL n3, [], [], [blk w.heap.size [J Z n.id, J Z n.has, J Z n.spent, J Z n.earned, V n.sa n.seen.length n.sc, V n.pa n.peers.length n.pc]], [blk (w.heap.size + 1) [J Z 2, J Z aid, J Z ato, J Z amt, J Z m_fr, J Z m_to, J Z m_kd, J Z m_seq, J Z m_amt]], [blk (w.heap.size + 1 + 1) [J Z 0, J Z 0, J Z 0, J Z 0, V none 0 0, V none 0 0]], [blk B6 [J Z n3.id, J Z n3.has, J Z n3.spent, J Z n3.earned, V n3.sa n3.seen.length n3.sc, V n3.pa n3.peers.length n3.pc]], [blk B [J Z n2.id, J Z n2.has, J Z n2.spent, J Z n2.earned, V n2.sa n2.seen.length n2.sc, V n2.pa n2.peers.length n2.pc]], [], [], []] w6) := hide (by rw [hB6, hw6]; exact HP7)
 have HW6 : Hid _ := hide hw6
 clear hP6 HP7 HP5 hd3
 obtain ⟨MM, hMM⟩ : ∃ MM, MM = moneyM n.d (⟨2, aid, ato, amt, ⟨m_fr, m_to, m_kd, m_seq, m_amt⟩⟩ : Ac) := ⟨_, rfl⟩
 rw [← hMM] at HD3 HM ⊢
 clear hMM
 unfold ndV
 have HPW : Pool [] w [ndL n3, [], [], [blk w.heap.size [J Z n.id, J Z n.has, J Z n.spent, J Z n.earned, V n.sa n.seen.length n.sc, V n.pa n.peers.length n.pc]], [blk (w.heap.size + 1) [J Z 2, J Z aid, J Z ato, J Z amt, J Z m_fr, J Z m_to, J Z m_kd, J Z m_seq, J Z m_amt]], [blk (w.heap.size + 1 + 1) [J Z 0, J Z 0, J Z 0, J Z 0, V none 0 0, V none 0 0]], [blk w5.heap.size [J Z n3.id, J Z n3.has, J Z n3.spent, J Z n3.earned, V n3.sa n3.seen.length n3.sc, V n3.pa n3.peers.length n3.pc]], [blk B [J Z n2.id, J Z n2.has, J Z n2.spent, J Z n2.earned, V n2.sa n2.seen.length n2.sc, V n2.pa n2.peers.length n2.pc]], [], [], []] (w5.alloc (.cells #[J Z n3.id, J Z n3.has, J Z n3.spent, J Z n3.earned, V n3.sa n3.seen.length n3.sc, V n3.pa n3.peers.length n3.pc] 27)) := by have := HP8.out; rw [hB6, hw6] at this; exact this
 have nb0 : (w5.alloc (.cells #[J Z n3.id, J Z n3.has, J Z n3.spent, J Z n3.earned, V n3.sa n3.seen.length n3.sc, V n3.pa n3.peers.length n3.pc] 27)).cell? ⟨w5.heap.size, 0, none⟩ = some (J Z n3.id) := (HPW.blkAt (i := 6) rfl).c 0 _ rfl
 have nb1 : (w5.alloc (.cells #[J Z n3.id, J Z n3.has, J Z n3.spent, J Z n3.earned, V n3.sa n3.seen.length n3.sc, V n3.pa n3.peers.length n3.pc] 27)).cell? ⟨w5.heap.size, 1, none⟩ = some (J Z n3.has) := (HPW.blkAt (i := 6) rfl).c 1 _ rfl
 have nb2 : (w5.alloc (.cells #[J Z n3.id, J Z n3.has, J Z n3.spent, J Z n3.earned, V n3.sa n3.seen.length n3.sc, V n3.pa n3.peers.length n3.pc] 27)).cell? ⟨w5.heap.size, 2, none⟩ = some (J Z n3.spent) := (HPW.blkAt (i := 6) rfl).c 2 _ rfl
 have nb3 : (w5.alloc (.cells #[J Z n3.id, J Z n3.has, J Z n3.spent, J Z n3.earned, V n3.sa n3.seen.length n3.sc, V n3.pa n3.peers.length n3.pc] 27)).cell? ⟨w5.heap.size, 3, none⟩ = some (J Z n3.earned) := (HPW.blkAt (i := 6) rfl).c 3 _ rfl
 have nb4 : (w5.alloc (.cells #[J Z n3.id, J Z n3.has, J Z n3.spent, J Z n3.earned, V n3.sa n3.seen.length n3.sc, V n3.pa n3.peers.length n3.pc] 27)).cell? ⟨w5.heap.size, 4, none⟩ = some (V n3.sa n3.seen.length n3.sc) := (HPW.blkAt (i := 6) rfl).c 4 _ rfl
 have nb5 : (w5.alloc (.cells #[J Z n3.id, J Z n3.has, J Z n3.spent, J Z n3.earned, V n3.sa n3.seen.length n3.sc, V n3.pa n3.peers.length n3.pc] 27)).cell? ⟨w5.heap.size, 5, none⟩ = some (V n3.pa n3.peers.length n3.pc) := (HPW.blkAt (i := 6) rfl).c 5 _ rfl
 have ny0 : (w5.alloc (.cells #[J Z n3.id, J Z n3.has, J Z n3.spent, J Z n3.earned, V n3.sa n3.seen.length n3.sc, V n3.pa n3.peers.length n3.pc] 27)).cell? ⟨w.heap.size + 1 + 1, 0, none⟩ = some (J Z 0) := (HPW.blkAt (i := 5) rfl).c 0 _ rfl
 have ny1 : (w5.alloc (.cells #[J Z n3.id, J Z n3.has, J Z n3.spent, J Z n3.earned, V n3.sa n3.seen.length n3.sc, V n3.pa n3.peers.length n3.pc] 27)).cell? ⟨w.heap.size + 1 + 1, 1, none⟩ = some (J Z 0) := (HPW.blkAt (i := 5) rfl).c 1 _ rfl
 have ny2 : (w5.alloc (.cells #[J Z n3.id, J Z n3.has, J Z n3.spent, J Z n3.earned, V n3.sa n3.seen.length n3.sc, V n3.pa n3.peers.length n3.pc] 27)).cell? ⟨w.heap.size + 1 + 1, 2, none⟩ = some (J Z 0) := (HPW.blkAt (i := 5) rfl).c 2 _ rfl
 have ny3 : (w5.alloc (.cells #[J Z n3.id, J Z n3.has, J Z n3.spent, J Z n3.earned, V n3.sa n3.seen.length n3.sc, V n3.pa n3.peers.length n3.pc] 27)).cell? ⟨w.heap.size + 1 + 1, 3, none⟩ = some (J Z 0) := (HPW.blkAt (i := 5) rfl).c 3 _ rfl
 have ny4 : (w5.alloc (.cells #[J Z n3.id, J Z n3.has, J Z n3.spent, J Z n3.earned, V n3.sa n3.seen.length n3.sc, V n3.pa n3.peers.length n3.pc] 27)).cell? ⟨w.heap.size + 1 + 1, 4, none⟩ = some (V none 0 0) := (HPW.blkAt (i := 5) rfl).c 4 _ rfl
 have ny5 : (w5.alloc (.cells #[J Z n3.id, J Z n3.has, J Z n3.spent, J Z n3.earned, V n3.sa n3.seen.length n3.sc, V n3.pa n3.peers.length n3.pc] 27)).cell? ⟨w.heap.size + 1 + 1, 5, none⟩ = some (V none 0 0) := (HPW.blkAt (i := 5) rfl).c 5 _ rfl
 have zny0 : (w5.alloc (.cells #[J Z n3.id, J Z n3.has, J Z n3.spent, J Z n3.earned, V n3.sa n3.seen.length n3.sc, V n3.pa n3.peers.length n3.pc] 27)).frozen? ⟨w.heap.size + 1 + 1, 0, none⟩ = false := (HPW.blkAt (i := 5) rfl).f 0
 have zny1 : (w5.alloc (.cells #[J Z n3.id, J Z n3.has, J Z n3.spent, J Z n3.earned, V n3.sa n3.seen.length n3.sc, V n3.pa n3.peers.length n3.pc] 27)).frozen? ⟨w.heap.size + 1 + 1, 1, none⟩ = false := (HPW.blkAt (i := 5) rfl).f 1
 have zny2 : (w5.alloc (.cells #[J Z n3.id, J Z n3.has, J Z n3.spent, J Z n3.earned, V n3.sa n3.seen.length n3.sc, V n3.pa n3.peers.length n3.pc] 27)).frozen? ⟨w.heap.size + 1 + 1, 2, none⟩ = false := (HPW.blkAt (i := 5) rfl).f 2
 have zny3 : (w5.alloc (.cells #[J Z n3.id, J Z n3.has, J Z n3.spent, J Z n3.earned, V n3.sa n3.seen.length n3.sc, V n3.pa n3.peers.length n3.pc] 27)).frozen? ⟨w.heap.size + 1 + 1, 3, none⟩ = false := (HPW.blkAt (i := 5) rfl).f 3
 have zny4 : (w5.alloc (.cells #[J Z n3.id, J Z n3.has, J Z n3.spent, J Z n3.earned, V n3.sa n3.seen.length n3.sc, V n3.pa n3.peers.length n3.pc] 27)).frozen? ⟨w.heap.size + 1 + 1, 4, none⟩ = false := (HPW.blkAt (i := 5) rfl).f 4
 have zny5 : (w5.alloc (.cells #[J Z n3.id, J Z n3.has, J Z n3.spent, J Z n3.earned, V n3.sa n3.seen.length n3.sc, V n3.pa n3.peers.length n3.pc] 27)).frozen? ⟨w.heap.size + 1 + 1, 5, none⟩ = false := (HPW.blkAt (i := 5) rfl).f 5
 have HPV : Hid _ := hide HPW
 clear HPW hw6 hB6
 have HQ : Hid _ := hide (HPV.out.set6 (i := 5) rfl (J Z n3.id) (J Z n3.has) (J Z n3.spent) (J Z n3.earned) (V n3.sa n3.seen.length n3.sc) (V n3.pa n3.peers.length n3.pc))
 go_wp2
 refine name_post (fun W9 hW9 => ?_)
 have hq := HQ.out
 rw [← hW9] at hq
 have z_ := hq.blkAt (i := 5) rfl
 have g0_ := z_.c 0 _ rfl
 have g1_ := z_.c 1 _ rfl
 have g2_ := z_.c 2 _ rfl
 have g3_ := z_.c 3 _ rfl
 have g4_ := z_.c 4 _ rfl
 have g5_ := z_.c 5 _ rfl
 have hq2 := hq.noMsg (i := 8) rfl
 exact bodyPost_ret (v := .tuple #[ndV n3, V none 0 0, J Z (MM.2)]) (by simp [results, Try.results8, go_sem, g0_, g1_, g2_, g3_, g4_, g5_, ndV]) rfl ⟨n3, none, 0, (by rw [HM.out] <;> rfl), (by rw [HM.out] <;> exact HD3.out), (by
  rw [HM.out]
  exact (((((((hq2.drop (i := 10) rfl).drop (i := 9) rfl).drop (i := 7) rfl).drop (i := 6) rfl).drop (i := 5) rfl).drop (i := 4) rfl).drop (i := 3) rfl).cast (by simp [ndL, endsL]))⟩
set_option maxHeartbeats 4000000 in
theorem acted_take (n : Nd) (aid ato amt m_fr m_to m_kd m_seq m_amt : Int) (w : World) (hs : SmN n) (hn0 : n.sa = none → n.sc = 0) (hp0 : ∀ p ∈ n.peers, p.a = none → p.cap = 0) (h : NodeAt w n) (hno : nodeB n.d = true) (hfo : actB n.id ⟨4, aid, ato, amt, ⟨m_fr, m_to, m_kd, m_seq, m_amt⟩⟩ = true) :
  Calls Try.prog 8 #[.agg #[J Z n.id, J Z n.has, J Z n.spent, J Z n.earned, V n.sa n.seen.length n.sc, V n.pa n.peers.length n.pc], .agg #[J Z 4, J Z aid, J Z ato, J Z amt, J Z m_fr, J Z m_to, J Z m_kd, J Z m_seq, J Z m_amt]] w fun e w' => ActedEnd [] (actM n.d (⟨4, aid, ato, amt, ⟨m_fr, m_to, m_kd, m_seq, m_amt⟩⟩ : Ac)) w e w' := by
 have HM : Hid (actM n.d (⟨4, aid, ato, amt, ⟨m_fr, m_to, m_kd, m_seq, m_amt⟩⟩ : Ac) = takeM n.d ⟨m_fr, m_to, m_kd, m_seq, m_amt⟩) := hide (by
  unfold actM; rw [if_neg (by rw [hno]; simp), if_neg (show ¬ actB n.d.id _ = false by rw [show actB n.d.id _ = true from hfo]; simp)]; rfl)
 have HS : Hid _ := hide hs
 have HL : Hid _ := hide h
 have HO : Hid _ := hide hno
 have HP0 : Hid _ := hide hp0
 obtain ⟨W, hW⟩ : ∃ W, W = ((w.alloc (.cells #[J Z n.id, J Z n.has, J Z n.spent, J Z n.earned, V n.sa n.seen.length n.sc, V n.pa n.peers.length n.pc] 27)).alloc (.cells #[J Z 4, J Z aid, J Z ato, J Z amt, J Z m_fr, J Z m_to, J Z m_kd, J Z m_seq, J Z m_amt] 31)).alloc (.cells #[J Z 0, J Z 0, J Z 0, J Z 0, V none 0 0, V none 0 0] 27) := ⟨_, rfl⟩
 have s1 : (w.alloc (.cells #[J Z n.id, J Z n.has, J Z n.spent, J Z n.earned, V n.sa n.seen.length n.sc, V n.pa n.peers.length n.pc] 27)).heap.size = w.heap.size + 1 := by simp
 have s2 : ((w.alloc (.cells #[J Z n.id, J Z n.has, J Z n.spent, J Z n.earned, V n.sa n.seen.length n.sc, V n.pa n.peers.length n.pc] 27)).alloc (.cells #[J Z 4, J Z aid, J Z ato, J Z amt, J Z m_fr, J Z m_to, J Z m_kd, J Z m_seq, J Z m_amt] 31)).heap.size = w.heap.size + 1 + 1 := by simp
 have HP : Hid (Pool [] w [[], [], [], [blk w.heap.size [J Z n.id, J Z n.has, J Z n.spent, J Z n.earned, V n.sa n.seen.length n.sc, V n.pa n.peers.length n.pc]], [blk (w.heap.size + 1) [J Z 4, J Z aid, J Z ato, J Z amt, J Z m_fr, J Z m_to, J Z m_kd, J Z m_seq, J Z m_amt]], [blk (w.heap.size + 1 + 1) [J Z 0, J Z 0, J Z 0, J Z 0, V none 0 0, V none 0 0]], [], [], [], [], []] W) := hide (by
  rw [hW, ← s2, ← s1]
  exact (((Pool.start w [[], [], [], [], [], [], [], [], [], [], []] rfl).newBlk (i := 3) rfl [J Z n.id, J Z n.has, J Z n.spent, J Z n.earned, V n.sa n.seen.length n.sc, V n.pa n.peers.length n.pc] 27).newBlk (i := 4) rfl [J Z 4, J Z aid, J Z ato, J Z amt, J Z m_fr, J Z m_to, J Z m_kd, J Z m_seq, J Z m_amt] 31).newBlk (i := 5) rfl [J Z 0, J Z 0, J Z 0, J Z 0, V none 0 0, V none 0 0] 27)
 have HW : Hid (((w.alloc (.cells #[J Z n.id, J Z n.has, J Z n.spent, J Z n.earned, V n.sa n.seen.length n.sc, V n.pa n.peers.length n.pc] 27)).alloc (.cells #[J Z 4, J Z aid, J Z ato, J Z amt, J Z m_fr, J Z m_to, J Z m_kd, J Z m_seq, J Z m_amt] 31)).alloc (.cells #[J Z 0, J Z 0, J Z 0, J Z 0, V none 0 0, V none 0 0] 27) = W) := hide hW.symm
 have HF : Hid _ := hide hfo
 clear hW s1 s2 hs h hno hp0 hfo
 go_enter Try.func8, Try.ntmps8
 go_wp2_with fail
 rw [HW.out]
 refine (specNodeOk_any _ _ _ _ _ n.seen _ _ n.peers _ W HS.out.1 HS.out.2.1 HS.out.2.2 (HL.out.seen.below HP.out.below) (HL.out.peers.below HP.out.below)).mono ?_
 rw [show nodeB ⟨n.id, n.has, n.spent, n.earned, n.seen, n.peers.map Pr.d⟩ = true from HO.out]
 rintro e w1 ⟨rfl, hb1⟩
 have HP1 : Hid (Pool [] w [[], [], [], [blk w.heap.size [J Z n.id, J Z n.has, J Z n.spent, J Z n.earned, V n.sa n.seen.length n.sc, V n.pa n.peers.length n.pc]], [blk (w.heap.size + 1) [J Z 4, J Z aid, J Z ato, J Z amt, J Z m_fr, J Z m_to, J Z m_kd, J Z m_seq, J Z m_amt]], [blk (w.heap.size + 1 + 1) [J Z 0, J Z 0, J Z 0, J Z 0, V none 0 0, V none 0 0]], [], [], [], [], []] w1) := hide (HP.out.keep hb1)
 clear hb1 HP HW
 have nc0 : w1.cell? ⟨w.heap.size, 0, none⟩ = some (J Z n.id) := (HP1.out.blkAt (i := 3) rfl).c 0 _ rfl
 have nc1 : w1.cell? ⟨w.heap.size, 1, none⟩ = some (J Z n.has) := (HP1.out.blkAt (i := 3) rfl).c 1 _ rfl
 have nc2 : w1.cell? ⟨w.heap.size, 2, none⟩ = some (J Z n.spent) := (HP1.out.blkAt (i := 3) rfl).c 2 _ rfl
 have nc3 : w1.cell? ⟨w.heap.size, 3, none⟩ = some (J Z n.earned) := (HP1.out.blkAt (i := 3) rfl).c 3 _ rfl
 have nc4 : w1.cell? ⟨w.heap.size, 4, none⟩ = some (V n.sa n.seen.length n.sc) := (HP1.out.blkAt (i := 3) rfl).c 4 _ rfl
 have nc5 : w1.cell? ⟨w.heap.size, 5, none⟩ = some (V n.pa n.peers.length n.pc) := (HP1.out.blkAt (i := 3) rfl).c 5 _ rfl
 go_wp2_with fail
 refine (l6Copy_any n w1 HS.out hn0 HP0.out (HL.out.below HP1.out.below)).mono ?_
 rintro e w2 ⟨n2, rfl, hd, hnear, hP2⟩
 have HD : Hid _ := hide hd
 have HN2 : Hid _ := hide hnear
 have hB : w2.heap.size = w2.heap.size := rfl
 have HP3 := (HP1.out.call (i := 0) (rs := []) (rs' := ndL n2) rfl hP2).newBlk (i := 7) rfl [J Z n2.id, J Z n2.has, J Z n2.spent, J Z n2.earned, V n2.sa n2.seen.length n2.sc, V n2.pa n2.peers.length n2.pc] 27
 obtain ⟨B, hB⟩ : ∃ B, B = w2.heap.size := ⟨_, rfl⟩
 obtain ⟨w3, hw3⟩ : ∃ w3, w3 = w2.alloc (.cells #[J Z n2.id, J Z n2.has, J Z n2.spent, J Z n2.earned, V n2.sa n2.seen.length n2.sc, V n2.pa n2.peers.length n2.pc] 27) := ⟨_, rfl⟩
 have HP4 : Hid (Pool [] w [ndL n2, [], [], [blk w.heap.size [J Z n.id, J Z n.has, J Z n.spent, J Z n.earned, V n.sa n.seen.length n.sc, V n.pa n.peers.length n.pc]], [blk (w.heap.size + 1) [J Z 4, J Z aid, J Z ato, J Z amt, J Z m_fr, J Z m_to, J Z m_kd, J Z m_seq, J Z m_amt]], [blk (w.heap.size + 1 + 1) [J Z 0, J Z 0, J Z 0, J Z 0, V none 0 0, V none 0 0]], [], [blk B [J Z n2.id, J Z n2.has, J Z n2.spent, J Z n2.earned, V n2.sa n2.seen.length n2.sc, V n2.pa n2.peers.length n2.pc]], [], [], []] w3) := hide (by rw [hB, hw3]; exact HP3)
 have HW3 : Hid _ := hide hw3
 have HBB : Hid _ := hide hB
 have nc0 : (w2.alloc (.cells #[J Z n2.id, J Z n2.has, J Z n2.spent, J Z n2.earned, V n2.sa n2.seen.length n2.sc, V n2.pa n2.peers.length n2.pc] 27)).cell? ⟨w.heap.size, 0, none⟩ = some (J Z n.id) := (HP3.blkAt (i := 3) rfl).c 0 _ rfl
 have nc1 : (w2.alloc (.cells #[J Z n2.id, J Z n2.has, J Z n2.spent, J Z n2.earned, V n2.sa n2.seen.length n2.sc, V n2.pa n2.peers.length n2.pc] 27)).cell? ⟨w.heap.size, 1, none⟩ = some (J Z n.has) := (HP3.blkAt (i := 3) rfl).c 1 _ rfl
 have nc2 : (w2.alloc (.cells #[J Z n2.id, J Z n2.has, J Z n2.spent, J Z n2.earned, V n2.sa n2.seen.length n2.sc, V n2.pa n2.peers.length n2.pc] 27)).cell? ⟨w.heap.size, 2, none⟩ = some (J Z n.spent) := (HP3.blkAt (i := 3) rfl).c 2 _ rfl
 have nc3 : (w2.alloc (.cells #[J Z n2.id, J Z n2.has, J Z n2.spent, J Z n2.earned, V n2.sa n2.seen.length n2.sc, V n2.pa n2.peers.length n2.pc] 27)).cell? ⟨w.heap.size, 3, none⟩ = some (J Z n.earned) := (HP3.blkAt (i := 3) rfl).c 3 _ rfl
 have nc4 : (w2.alloc (.cells #[J Z n2.id, J Z n2.has, J Z n2.spent, J Z n2.earned, V n2.sa n2.seen.length n2.sc, V n2.pa n2.peers.length n2.pc] 27)).cell? ⟨w.heap.size, 4, none⟩ = some (V n.sa n.seen.length n.sc) := (HP3.blkAt (i := 3) rfl).c 4 _ rfl
 have nc5 : (w2.alloc (.cells #[J Z n2.id, J Z n2.has, J Z n2.spent, J Z n2.earned, V n2.sa n2.seen.length n2.sc, V n2.pa n2.peers.length n2.pc] 27)).cell? ⟨w.heap.size, 5, none⟩ = some (V n.pa n.peers.length n.pc) := (HP3.blkAt (i := 3) rfl).c 5 _ rfl
 have na0 : (w2.alloc (.cells #[J Z n2.id, J Z n2.has, J Z n2.spent, J Z n2.earned, V n2.sa n2.seen.length n2.sc, V n2.pa n2.peers.length n2.pc] 27)).cell? ⟨w.heap.size + 1, 0, none⟩ = some (J Z 4) := (HP3.blkAt (i := 4) rfl).c 0 _ rfl
 have na1 : (w2.alloc (.cells #[J Z n2.id, J Z n2.has, J Z n2.spent, J Z n2.earned, V n2.sa n2.seen.length n2.sc, V n2.pa n2.peers.length n2.pc] 27)).cell? ⟨w.heap.size + 1, 1, none⟩ = some (J Z aid) := (HP3.blkAt (i := 4) rfl).c 1 _ rfl
 have na2 : (w2.alloc (.cells #[J Z n2.id, J Z n2.has, J Z n2.spent, J Z n2.earned, V n2.sa n2.seen.length n2.sc, V n2.pa n2.peers.length n2.pc] 27)).cell? ⟨w.heap.size + 1, 2, none⟩ = some (J Z ato) := (HP3.blkAt (i := 4) rfl).c 2 _ rfl
 have na3 : (w2.alloc (.cells #[J Z n2.id, J Z n2.has, J Z n2.spent, J Z n2.earned, V n2.sa n2.seen.length n2.sc, V n2.pa n2.peers.length n2.pc] 27)).cell? ⟨w.heap.size + 1, 3, none⟩ = some (J Z amt) := (HP3.blkAt (i := 4) rfl).c 3 _ rfl
 have na4 : (w2.alloc (.cells #[J Z n2.id, J Z n2.has, J Z n2.spent, J Z n2.earned, V n2.sa n2.seen.length n2.sc, V n2.pa n2.peers.length n2.pc] 27)).cell? ⟨w.heap.size + 1, 4, none⟩ = some (J Z m_fr) := (HP3.blkAt (i := 4) rfl).c 4 _ rfl
 have na5 : (w2.alloc (.cells #[J Z n2.id, J Z n2.has, J Z n2.spent, J Z n2.earned, V n2.sa n2.seen.length n2.sc, V n2.pa n2.peers.length n2.pc] 27)).cell? ⟨w.heap.size + 1, 5, none⟩ = some (J Z m_to) := (HP3.blkAt (i := 4) rfl).c 5 _ rfl
 have na6 : (w2.alloc (.cells #[J Z n2.id, J Z n2.has, J Z n2.spent, J Z n2.earned, V n2.sa n2.seen.length n2.sc, V n2.pa n2.peers.length n2.pc] 27)).cell? ⟨w.heap.size + 1, 6, none⟩ = some (J Z m_kd) := (HP3.blkAt (i := 4) rfl).c 6 _ rfl
 have na7 : (w2.alloc (.cells #[J Z n2.id, J Z n2.has, J Z n2.spent, J Z n2.earned, V n2.sa n2.seen.length n2.sc, V n2.pa n2.peers.length n2.pc] 27)).cell? ⟨w.heap.size + 1, 7, none⟩ = some (J Z m_seq) := (HP3.blkAt (i := 4) rfl).c 7 _ rfl
 have na8 : (w2.alloc (.cells #[J Z n2.id, J Z n2.has, J Z n2.spent, J Z n2.earned, V n2.sa n2.seen.length n2.sc, V n2.pa n2.peers.length n2.pc] 27)).cell? ⟨w.heap.size + 1, 8, none⟩ = some (J Z m_amt) := (HP3.blkAt (i := 4) rfl).c 8 _ rfl
 clear hw3 hB HP3 hP2 hd hnear
 unfold ndV
 go_wp2_with fail
 rw [← HBB.out, ← HW3.out]
 refine (l6Form_any _ _ _ _ _ _ _ _ _ _ 4 aid ato amt m_fr m_to m_kd m_seq m_amt w3).mono ?_
 rw [show actB n.id (⟨4, aid, ato, amt, ⟨m_fr, m_to, m_kd, m_seq, m_amt⟩⟩ : Ac) = true from HF.out]
 rintro e w4 ⟨rfl, hb4⟩
 have HP5 : Hid (Pool [] w [ndL n2, [], [], [blk w.heap.size [J Z n.id, J Z n.has, J Z n.spent, J Z n.earned, V n.sa n.seen.length n.sc, V n.pa n.peers.length n.pc]], [blk (w.heap.size + 1) [J Z 4, J Z aid, J Z ato, J Z amt, J Z m_fr, J Z m_to, J Z m_kd, J Z m_seq, J Z m_amt]], [blk (w.heap.size + 1 + 1) [J Z 0, J Z 0, J Z 0, J Z 0, V none 0 0, V none 0 0]], [], [blk B [J Z n2.id, J Z n2.has, J Z n2.spent, J Z n2.earned, V n2.sa n2.seen.length n2.sc, V n2.pa n2.peers.length n2.pc]], [], [], []] w4) := hide (HP4.out.keep hb4)
 clear hb4 HP4 HW3 HBB HP1
 have nb0 : w4.cell? ⟨B, 0, none⟩ = some (J Z n2.id) := (HP5.out.blkAt (i := 7) rfl).c 0 _ rfl
 have nb1 : w4.cell? ⟨B, 1, none⟩ = some (J Z n2.has) := (HP5.out.blkAt (i := 7) rfl).c 1 _ rfl
 have nb2 : w4.cell? ⟨B, 2, none⟩ = some (J Z n2.spent) := (HP5.out.blkAt (i := 7) rfl).c 2 _ rfl
 have nb3 : w4.cell? ⟨B, 3, none⟩ = some (J Z n2.earned) := (HP5.out.blkAt (i := 7) rfl).c 3 _ rfl
 have nb4 : w4.cell? ⟨B, 4, none⟩ = some (V n2.sa n2.seen.length n2.sc) := (HP5.out.blkAt (i := 7) rfl).c 4 _ rfl
 have nb5 : w4.cell? ⟨B, 5, none⟩ = some (V n2.pa n2.peers.length n2.pc) := (HP5.out.blkAt (i := 7) rfl).c 5 _ rfl
 have na0 : w4.cell? ⟨w.heap.size + 1, 0, none⟩ = some (J Z 4) := (HP5.out.blkAt (i := 4) rfl).c 0 _ rfl
 have na1 : w4.cell? ⟨w.heap.size + 1, 1, none⟩ = some (J Z aid) := (HP5.out.blkAt (i := 4) rfl).c 1 _ rfl
 have na2 : w4.cell? ⟨w.heap.size + 1, 2, none⟩ = some (J Z ato) := (HP5.out.blkAt (i := 4) rfl).c 2 _ rfl
 have na3 : w4.cell? ⟨w.heap.size + 1, 3, none⟩ = some (J Z amt) := (HP5.out.blkAt (i := 4) rfl).c 3 _ rfl
 have na4 : w4.cell? ⟨w.heap.size + 1, 4, none⟩ = some (J Z m_fr) := (HP5.out.blkAt (i := 4) rfl).c 4 _ rfl
 have na5 : w4.cell? ⟨w.heap.size + 1, 5, none⟩ = some (J Z m_to) := (HP5.out.blkAt (i := 4) rfl).c 5 _ rfl
 have na6 : w4.cell? ⟨w.heap.size + 1, 6, none⟩ = some (J Z m_kd) := (HP5.out.blkAt (i := 4) rfl).c 6 _ rfl
 have na7 : w4.cell? ⟨w.heap.size + 1, 7, none⟩ = some (J Z m_seq) := (HP5.out.blkAt (i := 4) rfl).c 7 _ rfl
 have na8 : w4.cell? ⟨w.heap.size + 1, 8, none⟩ = some (J Z m_amt) := (HP5.out.blkAt (i := 4) rfl).c 8 _ rfl
 go_wp2_with fail
 refine (l6Take_any n2 ⟨m_fr, m_to, m_kd, m_seq, m_amt⟩ w4 (smN_of HD.out HS.out).2 (HP5.out.get (i := 0) rfl) (inN_of HD.out (nodeB_in HO.out).1).1 (actB_take (a := (⟨4, aid, ato, amt, ⟨m_fr, m_to, m_kd, m_seq, m_amt⟩⟩ : Ac)) rfl HF.out)).mono ?_
 rintro e w5 ⟨n3, ma, mc, rfl, hd3, hP6⟩
 have hP6' := (hP6.merge (i := 0) (j := 1) (by decide) rfl rfl).cast (S' := [ndL n3 ++ [orow 5 mgCells ma mc (takeM n2.d ⟨m_fr, m_to, m_kd, m_seq, m_amt⟩).2.1]]) (by simp)
 have HP7 := HP5.out.call (i := 0) rfl hP6'
 rw [HD.out] at hd3 HP7 ⊢
 obtain ⟨MM, hMM⟩ : ∃ MM, MM = takeM n.d ⟨m_fr, m_to, m_kd, m_seq, m_amt⟩ := ⟨_, rfl⟩
 rw [← hMM] at hd3 HP7 HM ⊢
 have HD3 : Hid _ := hide hd3
 have HP8 : Hid (Pool [] w [ndL n3, [], [], [blk w.heap.size [J Z n.id, J Z n.has, J Z n.spent, J Z n.earned, V n.sa n.seen.length n.sc, V n.pa n.peers.length n.pc]], [blk (w.heap.size + 1) [J Z 4, J Z aid, J Z ato, J Z amt, J Z m_fr, J Z m_to, J Z m_kd, J Z m_seq, J Z m_amt]], [blk (w.heap.size + 1 + 1) [J Z 0, J Z 0, J Z 0, J Z 0, V none 0 0, V none 0 0]], [], [blk B [J Z n2.id, J Z n2.has, J Z n2.spent, J Z n2.earned, V n2.sa n2.seen.length n2.sc, V n2.pa n2.peers.length n2.pc]], [orow 5 mgCells ma mc MM.2.1], [], []] w5) := hide (by
  refine HP7.perm ?_
  simp only [List.set_cons_zero, List.flatten_cons, List.flatten_nil, List.nil_append, List.append_nil, List.append_assoc, List.cons_append]
  refine List.Perm.append_left _ ?_
  exact (List.perm_append_comm (l₁ := [_]) (l₂ := [_, _, _, _])))
 clear hP6 hP6' HP7 HP5 hd3 hMM
 unfold ndV
 have ny0 : w5.cell? ⟨w.heap.size + 1 + 1, 0, none⟩ = some (J Z 0) := (HP8.out.blkAt (i := 5) rfl).c 0 _ rfl
 have ny1 : w5.cell? ⟨w.heap.size + 1 + 1, 1, none⟩ = some (J Z 0) := (HP8.out.blkAt (i := 5) rfl).c 1 _ rfl
 have ny2 : w5.cell? ⟨w.heap.size + 1 + 1, 2, none⟩ = some (J Z 0) := (HP8.out.blkAt (i := 5) rfl).c 2 _ rfl
 have ny3 : w5.cell? ⟨w.heap.size + 1 + 1, 3, none⟩ = some (J Z 0) := (HP8.out.blkAt (i := 5) rfl).c 3 _ rfl
 have ny4 : w5.cell? ⟨w.heap.size + 1 + 1, 4, none⟩ = some (V none 0 0) := (HP8.out.blkAt (i := 5) rfl).c 4 _ rfl
 have ny5 : w5.cell? ⟨w.heap.size + 1 + 1, 5, none⟩ = some (V none 0 0) := (HP8.out.blkAt (i := 5) rfl).c 5 _ rfl
 have zny0 : w5.frozen? ⟨w.heap.size + 1 + 1, 0, none⟩ = false := (HP8.out.blkAt (i := 5) rfl).f 0
 have zny1 : w5.frozen? ⟨w.heap.size + 1 + 1, 1, none⟩ = false := (HP8.out.blkAt (i := 5) rfl).f 1
 have zny2 : w5.frozen? ⟨w.heap.size + 1 + 1, 2, none⟩ = false := (HP8.out.blkAt (i := 5) rfl).f 2
 have zny3 : w5.frozen? ⟨w.heap.size + 1 + 1, 3, none⟩ = false := (HP8.out.blkAt (i := 5) rfl).f 3
 have zny4 : w5.frozen? ⟨w.heap.size + 1 + 1, 4, none⟩ = false := (HP8.out.blkAt (i := 5) rfl).f 4
 have zny5 : w5.frozen? ⟨w.heap.size + 1 + 1, 5, none⟩ = false := (HP8.out.blkAt (i := 5) rfl).f 5
 have HQ : Hid _ := hide (HP8.out.set6 (i := 5) rfl (J Z n3.id) (J Z n3.has) (J Z n3.spent) (J Z n3.earned) (V n3.sa n3.seen.length n3.sc) (V n3.pa n3.peers.length n3.pc))
 go_wp2
 refine name_post (fun W9 hW9 => ?_)
 have hq := HQ.out
 rw [← hW9] at hq
 have z_ := hq.blkAt (i := 5) rfl
 have g0_ := z_.c 0 _ rfl
 have g1_ := z_.c 1 _ rfl
 have g2_ := z_.c 2 _ rfl
 have g3_ := z_.c 3 _ rfl
 have g4_ := z_.c 4 _ rfl
 have g5_ := z_.c 5 _ rfl
 have hq2 := hq
 exact bodyPost_ret (v := .tuple #[ndV n3, V ma MM.2.1.length mc, J Z MM.2.2]) (by simp [results, Try.results8, go_sem, g0_, g1_, g2_, g3_, g4_, g5_, ndV]) rfl ⟨n3, ma, mc, (by rw [HM.out] <;> rfl), (by rw [HM.out] <;> exact HD3.out), (by
  rw [HM.out]
  exact (((((((hq2.drop (i := 10) rfl).drop (i := 9) rfl).drop (i := 7) rfl).drop (i := 6) rfl).drop (i := 5) rfl).drop (i := 4) rfl).drop (i := 3) rfl).cast (by simp [ndL, endsL]))⟩
end Go.Proofs.Ytkcpoibhlnjldaa
