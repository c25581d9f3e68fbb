/- What the law of Acted needs: equal nodes, the act's copy, bounds of what an act leaves. -/
import Derived.Test.YtaohhdlkgnjphaaGreatMkP
import Derived.Test.YtaohhdlkgnjphaaGreatAcIH
namespace Go.Proofs.YtaohhdlkgnjphaaGreat
open Go.Value renaming int → J, slice → V
open Go.IntKind renaming i64 → Z
open Go.ChangeShapes Go.WideShapes Go.ChangeAt Go.RowKit
set_option linter.unusedVariables false
set_option maxRecDepth 100000
theorem Star.node {n : Nd} {x : World} (h : Star (ndL n) x) : NodeAt x n := ⟨h.sl.rows, ⟨h.pl.rows, fun p hp => by
 have q : OwnRow 2 prcCells x (gOf p.a) p.a p.cap p.E.out := h.all (orow 2 prcCells p.a p.cap p.E.out) (by simp only [ndL, endsL, List.mem_cons, List.mem_map]; exact .inr (.inr ⟨_, hp, rfl⟩))
 exact q.rows⟩⟩
theorem eqNode_same (n1 n2 : Nd) (w : World) (hs : SmN n1) (e : n2.d = n1.d) (h1 : NodeAt w n1) (h2 : NodeAt w n2) :
  Calls Tryz.prog 9 #[ndV n1, ndV n2] w fun e w' => e = .returned (.bool true) ∧ Below w.heap.size w w' := by
 have e1 : n2.id = n1.id := congrArg NdD.id e
 have e2 : n2.has = n1.has := congrArg NdD.has e
 have e3 : n2.spent = n1.spent := congrArg NdD.spent e
 have e4 : n2.earned = n1.earned := congrArg NdD.earned e
 have e5 : n2.seen = n1.seen := congrArg NdD.seen e
 have e6 : n2.peers.map Pr.d = n1.peers.map Pr.d := peers_d e
 have e7 := peers_len e
 obtain ⟨h3, h4⟩ := h2
 rw [e5] at h3
 unfold ndV
 rw [e1, e2, e3, e4, e5, e7]
 exact eqNode_any n1.id n1.has n1.spent n1.earned n1.seen n1.peers n2.peers n1.sa n2.sa n1.pa n2.pa n1.sc n2.sc n1.pc n2.pc w hs.1 hs.2 e6 h1.seen h3 h1.peers h4
/-- one place's pieces parted -/
theorem Pool.split {F : List Nat} {w x : World} {S : List (List Rs)} (h : Pool F w S x) {i j : Nat} {ri rj : List Rs} (hij : i ≠ j) (hi : S[i]? = some (ri ++ rj)) (hj : S[j]? = some []) : Pool F w ((S.set i ri).set j rj) x := by
 refine h.perm ?_
 have p1 := flat_set hi ri
 have p2 := flat_set (S := S.set i ri) (i := j) (rs := []) (by rw [List.getElem?_set_ne hij]; exact hj) rj
 rw [List.nil_append] at p2
 have p3 : (ri ++ S.flatten).Perm (ri ++ ((S.set i ri).set j rj).flatten) := by
  refine p1.trans ?_
  rw [List.append_assoc]
  exact List.Perm.append_left _ p2
 exact (List.perm_append_left_iff _).1 p3
set_option maxHeartbeats 2000000 in
theorem toNAct_any (a : Ac) (w : World) : Calls Tryz.prog 7 #[a.v] w fun e w' => e = .returned a.v ∧ Below w.heap.size w w' := by
 unfold Ac.v
 obtain ⟨W, hW⟩ : ∃ W, W = ((w.alloc (.cells #[J Z a.kind, J Z a.id, J Z a.to, J Z a.amt, J Z a.msg.fr, J Z a.msg.to, J Z a.msg.kind, J Z a.msg.seq, J Z a.msg.amt] 29)).alloc (.cells #[J Z 0, J Z 0, J Z 0, J Z 0, J Z 0, J Z 0, J Z 0, J Z 0, J Z 0] 41)).alloc (.cells #[J Z a.kind, J Z a.id, J Z a.to, J Z a.amt, J Z 0, J Z 0, J Z 0, J Z 0, J Z 0] 41) := ⟨_, rfl⟩
 have s1 : (w.alloc (.cells #[J Z a.kind, J Z a.id, J Z a.to, J Z a.amt, J Z a.msg.fr, J Z a.msg.to, J Z a.msg.kind, J Z a.msg.seq, J Z a.msg.amt] 29)).heap.size = w.heap.size + 1 := by simp
 have s2 : ((w.alloc (.cells #[J Z a.kind, J Z a.id, J Z a.to, J Z a.amt, J Z a.msg.fr, J Z a.msg.to, J Z a.msg.kind, J Z a.msg.seq, J Z a.msg.amt] 29)).alloc (.cells #[J Z 0, J Z 0, J Z 0, J Z 0, J Z 0, J Z 0, J Z 0, J Z 0, J Z 0] 41)).heap.size = w.heap.size + 1 + 1 := by simp
 have HP : Hid (Pool [] w [[blk w.heap.size [J Z a.kind, J Z a.id, J Z a.to, J Z a.amt, J Z a.msg.fr, J Z a.msg.to, J Z a.msg.kind, J Z a.msg.seq, J Z a.msg.amt]], [blk (w.heap.size + 1) [J Z 0, J Z 0, J Z 0, J Z 0, J Z 0, J Z 0, J Z 0, J Z 0, J Z 0]], [blk (w.heap.size + 1 + 1) [J Z a.kind, J Z a.id, J Z a.to, J Z a.amt, J Z 0, J Z 0, J Z 0, J Z 0, J Z 0]]] W) := hide (by
  rw [hW, ← s2, ← s1]
  exact (((Pool.start w [[], [], []] rfl).newBlk (i := 0) rfl [J Z a.kind, J Z a.id, J Z a.to, J Z a.amt, J Z a.msg.fr, J Z a.msg.to, J Z a.msg.kind, J Z a.msg.seq, J Z a.msg.amt] 29).newBlk (i := 1) rfl [J Z 0, J Z 0, J Z 0, J Z 0, J Z 0, J Z 0, J Z 0, J Z 0, J Z 0] 41).newBlk (i := 2) rfl [J Z a.kind, J Z a.id, J Z a.to, J Z a.amt, J Z 0, J Z 0, J Z 0, J Z 0, J Z 0] 41)
 have HW : Hid (((w.alloc (.cells #[J Z a.kind, J Z a.id, J Z a.to, J Z a.amt, J Z a.msg.fr, J Z a.msg.to, J Z a.msg.kind, J Z a.msg.seq, J Z a.msg.amt] 29)).alloc (.cells #[J Z 0, J Z 0, J Z 0, J Z 0, J Z 0, J Z 0, J Z 0, J Z 0, J Z 0] 41)).alloc (.cells #[J Z a.kind, J Z a.id, J Z a.to, J Z a.amt, J Z 0, J Z 0, J Z 0, J Z 0, J Z 0] 41) = W) := hide hW.symm
 clear hW s1 s2
 go_enter Tryz.func7, Tryz.ntmps7
 go_wp2_with fail
 rw [HW.out]
 refine (toMsg_any _ _ _ _ _ W).mono ?_
 rintro e w1 ⟨rfl, hb1⟩
 have p1 := HP.out.keep hb1
 have p2 := (((((p1.setBlk (i := 2) rfl 4 (J Z a.msg.fr) (by simp)).setBlk (i := 2) rfl 5 (J Z a.msg.to) (by simp)).setBlk (i := 2) rfl 6 (J Z a.msg.kind) (by simp)).setBlk (i := 2) rfl 7 (J Z a.msg.seq) (by simp)).setBlk (i := 2) rfl 8 (J Z a.msg.amt) (by simp))
 have p3 := (((((((((p2.setBlk (i := 1) rfl 0 (J Z a.kind) (by simp)).setBlk (i := 1) rfl 1 (J Z a.id) (by simp)).setBlk (i := 1) rfl 2 (J Z a.to) (by simp)).setBlk (i := 1) rfl 3 (J Z a.amt) (by simp)).setBlk (i := 1) rfl 4 (J Z a.msg.fr) (by simp)).setBlk (i := 1) rfl 5 (J Z a.msg.to) (by simp)).setBlk (i := 1) rfl 6 (J Z a.msg.kind) (by simp)).setBlk (i := 1) rfl 7 (J Z a.msg.seq) (by simp)).setBlk (i := 1) rfl 8 (J Z a.msg.amt) (by simp))
 have HQ : Hid _ := hide p3
 have jO := p1.blkAt (i := 2) rfl
 have jR := p2.blkAt (i := 1) rfl
 have jP := p2.blkAt (i := 2) rfl
 have u0 := jR.c 0 _ rfl
 have fu0 := jR.f 0
 have q0 := jP.c 0 _ rfl
 have u1 := jR.c 1 _ rfl
 have fu1 := jR.f 1
 have q1 := jP.c 1 _ rfl
 have u2 := jR.c 2 _ rfl
 have fu2 := jR.f 2
 have q2 := jP.c 2 _ rfl
 have u3 := jR.c 3 _ rfl
 have fu3 := jR.f 3
 have q3 := jP.c 3 _ rfl
 have t4 := jO.c 4 _ rfl
 have ft4 := jO.f 4
 have u4 := jR.c 4 _ rfl
 have fu4 := jR.f 4
 have q4 := jP.c 4 _ rfl
 have t5 := jO.c 5 _ rfl
 have ft5 := jO.f 5
 have u5 := jR.c 5 _ rfl
 have fu5 := jR.f 5
 have q5 := jP.c 5 _ rfl
 have t6 := jO.c 6 _ rfl
 have ft6 := jO.f 6
 have u6 := jR.c 6 _ rfl
 have fu6 := jR.f 6
 have q6 := jP.c 6 _ rfl
 have t7 := jO.c 7 _ rfl
 have ft7 := jO.f 7
 have u7 := jR.c 7 _ rfl
 have fu7 := jR.f 7
 have q7 := jP.c 7 _ rfl
 have t8 := jO.c 8 _ rfl
 have ft8 := jO.f 8
 have u8 := jR.c 8 _ rfl
 have fu8 := jR.f 8
 have q8 := jP.c 8 _ rfl
 clear jO jR jP p1 p2 p3 hb1 HP
 go_wp2
 refine name_post0 (fun W9 hW9 => ?_)
 have hq := HQ.out
 rw [← hW9] at hq
 have z_ := hq.blkAt (i := 1) rfl
 have g0_ := z_.c 0 _ rfl
 have g1_ := z_.c 1 _ rfl
 have g2_ := z_.c 2 _ rfl
 have g3_ := z_.c 3 _ rfl
 have g4_ := z_.c 4 _ rfl
 have g5_ := z_.c 5 _ rfl
 have g6_ := z_.c 6 _ rfl
 have g7_ := z_.c 7 _ rfl
 have g8_ := z_.c 8 _ rfl
 exact bodyPost_ret (v := .agg #[J Z a.kind, J Z a.id, J Z a.to, J Z a.amt, J Z a.msg.fr, J Z a.msg.to, J Z a.msg.kind, J Z a.msg.seq, J Z a.msg.amt]) (by simp [results, Tryz.results7, go_sem, g0_, g1_, g2_, g3_, g4_, g5_, g6_, g7_, g8_]) rfl ⟨rfl, hq.below⟩
/-- small, as data -/
def SmD (D : NdD) : Prop := D.seen.length ≤ 1048576 ∧ D.peers.length ≤ 1048576 ∧ ∀ p ∈ D.peers, p.E.out.length ≤ 1048576
theorem smN_d {n : Nd} : SmN n ↔ SmD n.d := by
 unfold SmN SmL SmP SmD Nd.d
 simp only [List.length_map, List.mem_map]
 constructor
 ·rintro ⟨h1, h2, h3⟩
  exact ⟨h1, h2, by rintro p ⟨q, hq, rfl⟩; exact h3 q hq⟩
 ·rintro ⟨h1, h2, h3⟩
  exact ⟨h1, h2, fun p hp => h3 p.d ⟨p, hp, rfl⟩⟩
theorem nodeB_sm {D : NdD} (h : nodeB D = true) : D.seen.length ≤ 40 ∧ D.peers.length ≤ 8 ∧ ∀ p ∈ D.peers, p.E.out.length ≤ 8 := by
 simp only [nodeB, Bool.and_eq_true] at h
 refine ⟨of_decide_eq_true h.1.1.1.2, of_decide_eq_true h.1.1.2, fun p hp => ?_⟩
 obtain ⟨i, hi, rfl⟩ := List.mem_iff_getElem.1 hp
 have h1 := allTo_get h.2 hi
 simp only [pdB, List.getElem?_eq_getElem hi, Bool.and_eq_true, endB, decide_eq_true_eq] at h1
 exact h1.2.1.1.1
theorem set_small {l : List PD} {k : Nat} {p : PD} (h : ∀ x ∈ l, x.E.out.length ≤ 8) (hp : p.E.out.length ≤ 9) : ∀ x ∈ l.set k p, x.E.out.length ≤ 1048576 := by
 intro x hx
 rcases List.mem_or_eq_of_mem_set hx with q | q
 ·have := h x q; omega
 ·rw [q]; omega
theorem ackE_len (E : En) (s : Int) : (ackE E s).out.length ≤ E.out.length := by
 unfold ackE
 split
 ·exact List.length_filter_le _ _
 ·simp
theorem rcvE_len (E : En) (p : Prc) : (rcvE E p).out.length ≤ E.out.length := by
 unfold rcvE
 split
 ·split
  ·exact Nat.le_refl _
  ·exact Nat.le_refl _
 ·simp
theorem pkE_len (E : En) (m : Int) : (pkE E m).out.length ≤ E.out.length + 1 := by
 unfold pkE
 split
 ·simp
 ·simp
theorem tickM_len (D : NdD) (h : ∀ p ∈ D.peers, p.E.out.length ≤ 8) : (tickM D).length ≤ 8 * D.peers.length := by
 unfold tickM
 have h1 : ∀ l : List PD, (∀ p ∈ l, p.E.out.length ≤ 8) → (l.flatMap (fun p => p.E.out.map (fun q => (⟨D.id, p.id, 1, q.seq, q.amt⟩ : Mg)))).length ≤ 8 * l.length := by
  intro l
  induction l with
  | nil => intro _; simp
  | cons x t ih =>
   intro hh
   have h2 := ih (fun p hp => hh p (by simp [hp]))
   have h3 := hh x (by simp)
   simp only [List.flatMap_cons, List.length_append, List.length_cons, List.length_map]
   omega
 exact h1 D.peers h
theorem actM_small {D : NdD} {a : Ac} (h : SmD D) : SmD (actM D a).1 ∧ (actM D a).2.1.length ≤ 1048576 := by
 unfold actM
 split
 ·exact ⟨⟨by simp [zeroD], by simp [zeroD], fun p hp => by simp [zeroD] at hp⟩, by simp⟩
 ·rename_i hno
  have hno : nodeB D = true := by simpa using hno
  obtain ⟨b1, b2, b3⟩ := nodeB_sm hno
  split
  ·exact ⟨h, by simp⟩
  ·split
   ·refine ⟨?_, by simp⟩
    simp only [moneyM]
    split
    ·exact h
    ·split
     ·exact h
     ·split
      ·exact ⟨by simp only [see_len]; omega, h.2⟩
      ·exact ⟨by simp only [see_len]; omega, h.2⟩
   ·split
    ·unfold takeM
     split
     ·exact ⟨h, by simp⟩
     ·split
      ·exact ⟨h, by simp⟩
      ·rename_i k p hp
       have hp8 := b3 p (List.mem_of_getElem? hp)
       have l1 := ackE_len p.E a.msg.seq
       have l2 := rcvE_len p.E ⟨a.msg.seq, a.msg.amt⟩
       split
       ·split
        ·exact ⟨⟨h.1, by rw [List.length_set]; exact h.2.1, set_small b3 (show (ackE p.E a.msg.seq).out.length ≤ 9 by omega)⟩, by simp⟩
        ·exact ⟨h, by simp⟩
       ·split
        ·exact ⟨h, by simp⟩
        ·exact ⟨⟨h.1, by rw [List.length_set]; exact h.2.1, set_small b3 (show (rcvE p.E ⟨a.msg.seq, a.msg.amt⟩).out.length ≤ 9 by omega)⟩, by simp⟩
    ·split
     ·have := tickM_len D b3
      exact ⟨h, by show (tickM D).length ≤ _; omega⟩
     ·unfold giveM
      split
      ·exact ⟨h, by simp⟩
      ·split
       ·exact ⟨h, by simp⟩
       ·rename_i k p hp
        have hp8 := b3 p (List.mem_of_getElem? hp)
        have l1 := pkE_len p.E a.amt
        split
        ·exact ⟨h, by simp⟩
        ·split
         ·exact ⟨⟨h.1, by rw [List.length_set]; exact h.2.1, set_small b3 (show (pkE p.E a.amt).out.length ≤ 9 by omega)⟩, by simp⟩
         ·exact ⟨h, by simp⟩
end Go.Proofs.YtaohhdlkgnjphaaGreat
