/- The contract of the model's Acted: give. -/
import Derived.Test.YtkcpoibhlnjldaaAcS5
import Derived.Test.YtkcpoibhlnjldaaAcS6
import Derived.Test.YtkcpoibhlnjldaaSPk2
import Derived.Test.YtkcpoibhlnjldaaAcI8
namespace Go.Proofs.Ytkcpoibhlnjldaa
open Go.Value renaming int → J, slice → V
open Go.IntKind renaming i64 → Z
open Go renaming undef → U
open Go.ChangeShapes Go.WideShapes Go.ChangeAt Go.RowKit
set_option linter.unusedVariables false
set_option maxRecDepth 100000
theorem specPacked_pool (a : Option Addr) (l : List Prc) (cap : Nat) (sent got s : Int) (w : World) (hl : l.length ≤ 1048576) (hn0 : a = none → cap = 0) (h : RowAt 2 prcCells w a l) :
  Calls Try.prog 24 #[.agg #[V a l.length cap, J Z sent, J Z got], J Z s] w fun e w' => ∃ a5 c5, e = .returned (.tuple #[.agg #[V a5 (pkE ⟨l, sent, got⟩ s).out.length c5, J Z (pkE ⟨l, sent, got⟩ s).sent, J Z (pkE ⟨l, sent, got⟩ s).got], .agg #[J Z (pkP ⟨l, sent, got⟩ s).seq, J Z (pkP ⟨l, sent, got⟩ s).amt], .bool (pkOk ⟨l, sent, got⟩ s)]) ∧ Below w.heap.size w w' ∧ Star [orow 2 prcCells a5 c5 (pkE ⟨l, sent, got⟩ s).out] w' ∧ ∀ b ∈ fps [orow 2 prcCells a5 c5 (pkE ⟨l, sent, got⟩ s).out], w.heap.size ≤ b := by
 refine (specPacked_any a l cap sent got s w hl hn0 h).mono ?_
 rintro e w1 ⟨hb, v, rfl, hn⟩
 obtain ⟨a5, c5, rfl, st, hi⟩ := hn.star
 exact ⟨a5, c5, rfl, hb, st, hi⟩
theorem peers_d {n n2 : Nd} (e : n2.d = n.d) : n2.peers.map Pr.d = n.peers.map Pr.d := congrArg NdD.peers e
theorem peers_len {n n2 : Nd} (e : n2.d = n.d) : n2.peers.length = n.peers.length := by simpa using congrArg List.length (peers_d e)
theorem peers_at {n n2 : Nd} (e : n2.d = n.d) {k : Nat} (h : k < n.peers.length) (h2 : k < n2.peers.length) : n2.peers[k].d = n.peers[k].d := by
 have := congrArg (fun l => l[k]?) (peers_d e)
 simpa [h, h2] using this
set_option maxHeartbeats 4000000 in
theorem give_nopeer (n : Nd) (aid ato amt m_fr m_to m_kd m_seq m_amt : Int) (w : World) (hs : SmN n) (hn0 : n.sa = none → n.sc = 0) (hp0 : ∀ p ∈ n.peers, p.a = none → p.cap = 0) (h : NodeAt w n) (hno : nodeB n.d = true) (hfo : actB n.id ⟨3, aid, ato, amt, ⟨m_fr, m_to, m_kd, m_seq, m_amt⟩⟩ = true) (hf : fi (n.peers.map Pr.id) ato = none) :
  Calls Try.prog 8 #[.agg #[J Z n.id, J Z n.has, J Z n.spent, J Z n.earned, V n.sa n.seen.length n.sc, V n.pa n.peers.length n.pc], .agg #[J Z 3, J Z aid, J Z ato, J Z amt, J Z m_fr, J Z m_to, J Z m_kd, J Z m_seq, J Z m_amt]] w fun e w' => ActedEnd [] (actM n.d (⟨3, aid, ato, amt, ⟨m_fr, m_to, m_kd, m_seq, m_amt⟩⟩ : Ac)) w e w' := by
 have HM : Hid (actM n.d (⟨3, aid, ato, amt, ⟨m_fr, m_to, m_kd, m_seq, m_amt⟩⟩ : Ac) = (n.d, [], 3)) := hide (by
  unfold actM; rw [if_neg (by rw [hno]; simp), if_neg (show ¬ actB n.d.id _ = false by rw [show actB n.d.id _ = true from hfo]; simp)]
  show giveM n.d ato amt = _
  unfold giveM
  rw [show n.d.peers.map PD.id = n.peers.map Pr.id from ids_p _, hf])
 have HS : Hid _ := hide hs
 have HL : Hid _ := hide h
 have HO : Hid _ := hide hno
 have HP0 : Hid _ := hide hp0
 obtain ⟨W, hW⟩ : ∃ W, W = ((w.alloc (.cells #[J Z n.id, J Z n.has, J Z n.spent, J Z n.earned, V n.sa n.seen.length n.sc, V n.pa n.peers.length n.pc] 27)).alloc (.cells #[J Z 3, J Z aid, J Z ato, J Z amt, J Z m_fr, J Z m_to, J Z m_kd, J Z m_seq, J Z m_amt] 31)).alloc (.cells #[J Z 0, J Z 0, J Z 0, J Z 0, V none 0 0, V none 0 0] 27) := ⟨_, rfl⟩
 have s1 : (w.alloc (.cells #[J Z n.id, J Z n.has, J Z n.spent, J Z n.earned, V n.sa n.seen.length n.sc, V n.pa n.peers.length n.pc] 27)).heap.size = w.heap.size + 1 := by simp
 have s2 : ((w.alloc (.cells #[J Z n.id, J Z n.has, J Z n.spent, J Z n.earned, V n.sa n.seen.length n.sc, V n.pa n.peers.length n.pc] 27)).alloc (.cells #[J Z 3, J Z aid, J Z ato, J Z amt, J Z m_fr, J Z m_to, J Z m_kd, J Z m_seq, J Z m_amt] 31)).heap.size = w.heap.size + 1 + 1 := by simp
 have HP : Hid (Pool [] w [[], [], [], [blk w.heap.size [J Z n.id, J Z n.has, J Z n.spent, J Z n.earned, V n.sa n.seen.length n.sc, V n.pa n.peers.length n.pc]], [blk (w.heap.size + 1) [J Z 3, J Z aid, J Z ato, J Z amt, J Z m_fr, J Z m_to, J Z m_kd, J Z m_seq, J Z m_amt]], [blk (w.heap.size + 1 + 1) [J Z 0, J Z 0, J Z 0, J Z 0, V none 0 0, V none 0 0]], [], [], [], [], []] W) := hide (by
  rw [hW, ← s2, ← s1]
  exact (((Pool.start w [[], [], [], [], [], [], [], [], [], [], []] rfl).newBlk (i := 3) rfl [J Z n.id, J Z n.has, J Z n.spent, J Z n.earned, V n.sa n.seen.length n.sc, V n.pa n.peers.length n.pc] 27).newBlk (i := 4) rfl [J Z 3, J Z aid, J Z ato, J Z amt, J Z m_fr, J Z m_to, J Z m_kd, J Z m_seq, J Z m_amt] 31).newBlk (i := 5) rfl [J Z 0, J Z 0, J Z 0, J Z 0, V none 0 0, V none 0 0] 27)
 have HW : Hid (((w.alloc (.cells #[J Z n.id, J Z n.has, J Z n.spent, J Z n.earned, V n.sa n.seen.length n.sc, V n.pa n.peers.length n.pc] 27)).alloc (.cells #[J Z 3, J Z aid, J Z ato, J Z amt, J Z m_fr, J Z m_to, J Z m_kd, J Z m_seq, J Z m_amt] 31)).alloc (.cells #[J Z 0, J Z 0, J Z 0, J Z 0, V none 0 0, V none 0 0] 27) = W) := hide hW.symm
 have HF : Hid _ := hide hfo
 have HFI : Hid _ := hide hf
 clear hf
 clear hW s1 s2 hs h hno hp0 hfo
 go_enter Try.func8, Try.ntmps8
 go_wp2_with fail
 rw [HW.out]
 refine (specNodeOk_any _ _ _ _ _ n.seen _ _ n.peers _ W HS.out.1 HS.out.2.1 HS.out.2.2 (HL.out.seen.below HP.out.below) (HL.out.peers.below HP.out.below)).mono ?_
 rw [show nodeB ⟨n.id, n.has, n.spent, n.earned, n.seen, n.peers.map Pr.d⟩ = true from HO.out]
 rintro e w1 ⟨rfl, hb1⟩
 have HP1 : Hid (Pool [] w [[], [], [], [blk w.heap.size [J Z n.id, J Z n.has, J Z n.spent, J Z n.earned, V n.sa n.seen.length n.sc, V n.pa n.peers.length n.pc]], [blk (w.heap.size + 1) [J Z 3, J Z aid, J Z ato, J Z amt, J Z m_fr, J Z m_to, J Z m_kd, J Z m_seq, J Z m_amt]], [blk (w.heap.size + 1 + 1) [J Z 0, J Z 0, J Z 0, J Z 0, V none 0 0, V none 0 0]], [], [], [], [], []] w1) := hide (HP.out.keep hb1)
 clear hb1 HP HW
 have nc0 : w1.cell? ⟨w.heap.size, 0, none⟩ = some (J Z n.id) := (HP1.out.blkAt (i := 3) rfl).c 0 _ rfl
 have nc1 : w1.cell? ⟨w.heap.size, 1, none⟩ = some (J Z n.has) := (HP1.out.blkAt (i := 3) rfl).c 1 _ rfl
 have nc2 : w1.cell? ⟨w.heap.size, 2, none⟩ = some (J Z n.spent) := (HP1.out.blkAt (i := 3) rfl).c 2 _ rfl
 have nc3 : w1.cell? ⟨w.heap.size, 3, none⟩ = some (J Z n.earned) := (HP1.out.blkAt (i := 3) rfl).c 3 _ rfl
 have nc4 : w1.cell? ⟨w.heap.size, 4, none⟩ = some (V n.sa n.seen.length n.sc) := (HP1.out.blkAt (i := 3) rfl).c 4 _ rfl
 have nc5 : w1.cell? ⟨w.heap.size, 5, none⟩ = some (V n.pa n.peers.length n.pc) := (HP1.out.blkAt (i := 3) rfl).c 5 _ rfl
 go_wp2_with fail
 refine (l6Copy_any n w1 HS.out hn0 HP0.out (HL.out.below HP1.out.below)).mono ?_
 rintro e w2 ⟨n2, rfl, hd, hnear, hP2⟩
 have HD : Hid _ := hide hd
 have HN2 : Hid _ := hide hnear
 have hB : w2.heap.size = w2.heap.size := rfl
 have HP3 := (HP1.out.call (i := 0) (rs := []) (rs' := ndL n2) rfl hP2).newBlk (i := 7) rfl [J Z n2.id, J Z n2.has, J Z n2.spent, J Z n2.earned, V n2.sa n2.seen.length n2.sc, V n2.pa n2.peers.length n2.pc] 27
 obtain ⟨B, hB⟩ : ∃ B, B = w2.heap.size := ⟨_, rfl⟩
 obtain ⟨w3, hw3⟩ : ∃ w3, w3 = w2.alloc (.cells #[J Z n2.id, J Z n2.has, J Z n2.spent, J Z n2.earned, V n2.sa n2.seen.length n2.sc, V n2.pa n2.peers.length n2.pc] 27) := ⟨_, rfl⟩
 have HP4 : Hid (Pool [] w [ndL n2, [], [], [blk w.heap.size [J Z n.id, J Z n.has, J Z n.spent, J Z n.earned, V n.sa n.seen.length n.sc, V n.pa n.peers.length n.pc]], [blk (w.heap.size + 1) [J Z 3, J Z aid, J Z ato, J Z amt, J Z m_fr, J Z m_to, J Z m_kd, J Z m_seq, J Z m_amt]], [blk (w.heap.size + 1 + 1) [J Z 0, J Z 0, J Z 0, J Z 0, V none 0 0, V none 0 0]], [], [blk B [J Z n2.id, J Z n2.has, J Z n2.spent, J Z n2.earned, V n2.sa n2.seen.length n2.sc, V n2.pa n2.peers.length n2.pc]], [], [], []] w3) := hide (by rw [hB, hw3]; exact HP3)
 have HW3 : Hid _ := hide hw3
 have HBB : Hid _ := hide hB
 have nc0 : (w2.alloc (.cells #[J Z n2.id, J Z n2.has, J Z n2.spent, J Z n2.earned, V n2.sa n2.seen.length n2.sc, V n2.pa n2.peers.length n2.pc] 27)).cell? ⟨w.heap.size, 0, none⟩ = some (J Z n.id) := (HP3.blkAt (i := 3) rfl).c 0 _ rfl
 have nc1 : (w2.alloc (.cells #[J Z n2.id, J Z n2.has, J Z n2.spent, J Z n2.earned, V n2.sa n2.seen.length n2.sc, V n2.pa n2.peers.length n2.pc] 27)).cell? ⟨w.heap.size, 1, none⟩ = some (J Z n.has) := (HP3.blkAt (i := 3) rfl).c 1 _ rfl
 have nc2 : (w2.alloc (.cells #[J Z n2.id, J Z n2.has, J Z n2.spent, J Z n2.earned, V n2.sa n2.seen.length n2.sc, V n2.pa n2.peers.length n2.pc] 27)).cell? ⟨w.heap.size, 2, none⟩ = some (J Z n.spent) := (HP3.blkAt (i := 3) rfl).c 2 _ rfl
 have nc3 : (w2.alloc (.cells #[J Z n2.id, J Z n2.has, J Z n2.spent, J Z n2.earned, V n2.sa n2.seen.length n2.sc, V n2.pa n2.peers.length n2.pc] 27)).cell? ⟨w.heap.size, 3, none⟩ = some (J Z n.earned) := (HP3.blkAt (i := 3) rfl).c 3 _ rfl
 have nc4 : (w2.alloc (.cells #[J Z n2.id, J Z n2.has, J Z n2.spent, J Z n2.earned, V n2.sa n2.seen.length n2.sc, V n2.pa n2.peers.length n2.pc] 27)).cell? ⟨w.heap.size, 4, none⟩ = some (V n.sa n.seen.length n.sc) := (HP3.blkAt (i := 3) rfl).c 4 _ rfl
 have nc5 : (w2.alloc (.cells #[J Z n2.id, J Z n2.has, J Z n2.spent, J Z n2.earned, V n2.sa n2.seen.length n2.sc, V n2.pa n2.peers.length n2.pc] 27)).cell? ⟨w.heap.size, 5, none⟩ = some (V n.pa n.peers.length n.pc) := (HP3.blkAt (i := 3) rfl).c 5 _ rfl
 have na0 : (w2.alloc (.cells #[J Z n2.id, J Z n2.has, J Z n2.spent, J Z n2.earned, V n2.sa n2.seen.length n2.sc, V n2.pa n2.peers.length n2.pc] 27)).cell? ⟨w.heap.size + 1, 0, none⟩ = some (J Z 3) := (HP3.blkAt (i := 4) rfl).c 0 _ rfl
 have na1 : (w2.alloc (.cells #[J Z n2.id, J Z n2.has, J Z n2.spent, J Z n2.earned, V n2.sa n2.seen.length n2.sc, V n2.pa n2.peers.length n2.pc] 27)).cell? ⟨w.heap.size + 1, 1, none⟩ = some (J Z aid) := (HP3.blkAt (i := 4) rfl).c 1 _ rfl
 have na2 : (w2.alloc (.cells #[J Z n2.id, J Z n2.has, J Z n2.spent, J Z n2.earned, V n2.sa n2.seen.length n2.sc, V n2.pa n2.peers.length n2.pc] 27)).cell? ⟨w.heap.size + 1, 2, none⟩ = some (J Z ato) := (HP3.blkAt (i := 4) rfl).c 2 _ rfl
 have na3 : (w2.alloc (.cells #[J Z n2.id, J Z n2.has, J Z n2.spent, J Z n2.earned, V n2.sa n2.seen.length n2.sc, V n2.pa n2.peers.length n2.pc] 27)).cell? ⟨w.heap.size + 1, 3, none⟩ = some (J Z amt) := (HP3.blkAt (i := 4) rfl).c 3 _ rfl
 have na4 : (w2.alloc (.cells #[J Z n2.id, J Z n2.has, J Z n2.spent, J Z n2.earned, V n2.sa n2.seen.length n2.sc, V n2.pa n2.peers.length n2.pc] 27)).cell? ⟨w.heap.size + 1, 4, none⟩ = some (J Z m_fr) := (HP3.blkAt (i := 4) rfl).c 4 _ rfl
 have na5 : (w2.alloc (.cells #[J Z n2.id, J Z n2.has, J Z n2.spent, J Z n2.earned, V n2.sa n2.seen.length n2.sc, V n2.pa n2.peers.length n2.pc] 27)).cell? ⟨w.heap.size + 1, 5, none⟩ = some (J Z m_to) := (HP3.blkAt (i := 4) rfl).c 5 _ rfl
 have na6 : (w2.alloc (.cells #[J Z n2.id, J Z n2.has, J Z n2.spent, J Z n2.earned, V n2.sa n2.seen.length n2.sc, V n2.pa n2.peers.length n2.pc] 27)).cell? ⟨w.heap.size + 1, 6, none⟩ = some (J Z m_kd) := (HP3.blkAt (i := 4) rfl).c 6 _ rfl
 have na7 : (w2.alloc (.cells #[J Z n2.id, J Z n2.has, J Z n2.spent, J Z n2.earned, V n2.sa n2.seen.length n2.sc, V n2.pa n2.peers.length n2.pc] 27)).cell? ⟨w.heap.size + 1, 7, none⟩ = some (J Z m_seq) := (HP3.blkAt (i := 4) rfl).c 7 _ rfl
 have na8 : (w2.alloc (.cells #[J Z n2.id, J Z n2.has, J Z n2.spent, J Z n2.earned, V n2.sa n2.seen.length n2.sc, V n2.pa n2.peers.length n2.pc] 27)).cell? ⟨w.heap.size + 1, 8, none⟩ = some (J Z m_amt) := (HP3.blkAt (i := 4) rfl).c 8 _ rfl
 clear hw3 hB HP3 hP2 hd hnear
 unfold ndV
 go_wp2_with fail
 rw [← HBB.out, ← HW3.out]
 refine (l6Form_any _ _ _ _ _ _ _ _ _ _ 3 aid ato amt m_fr m_to m_kd m_seq m_amt w3).mono ?_
 rw [show actB n.id (⟨3, aid, ato, amt, ⟨m_fr, m_to, m_kd, m_seq, m_amt⟩⟩ : Ac) = true from HF.out]
 rintro e w4 ⟨rfl, hb4⟩
 have HP5 : Hid (Pool [] w [ndL n2, [], [], [blk w.heap.size [J Z n.id, J Z n.has, J Z n.spent, J Z n.earned, V n.sa n.seen.length n.sc, V n.pa n.peers.length n.pc]], [blk (w.heap.size + 1) [J Z 3, J Z aid, J Z ato, J Z amt, J Z m_fr, J Z m_to, J Z m_kd, J Z m_seq, J Z m_amt]], [blk (w.heap.size + 1 + 1) [J Z 0, J Z 0, J Z 0, J Z 0, V none 0 0, V none 0 0]], [], [blk B [J Z n2.id, J Z n2.has, J Z n2.spent, J Z n2.earned, V n2.sa n2.seen.length n2.sc, V n2.pa n2.peers.length n2.pc]], [], [], []] w4) := hide (HP4.out.keep hb4)
 clear hb4 HP4 HW3 HBB HP1
 have nc0 : w4.cell? ⟨w.heap.size, 0, none⟩ = some (J Z n.id) := (HP5.out.blkAt (i := 3) rfl).c 0 _ rfl
 have nc1 : w4.cell? ⟨w.heap.size, 1, none⟩ = some (J Z n.has) := (HP5.out.blkAt (i := 3) rfl).c 1 _ rfl
 have nc2 : w4.cell? ⟨w.heap.size, 2, none⟩ = some (J Z n.spent) := (HP5.out.blkAt (i := 3) rfl).c 2 _ rfl
 have nc3 : w4.cell? ⟨w.heap.size, 3, none⟩ = some (J Z n.earned) := (HP5.out.blkAt (i := 3) rfl).c 3 _ rfl
 have nc4 : w4.cell? ⟨w.heap.size, 4, none⟩ = some (V n.sa n.seen.length n.sc) := (HP5.out.blkAt (i := 3) rfl).c 4 _ rfl
 have nc5 : w4.cell? ⟨w.heap.size, 5, none⟩ = some (V n.pa n.peers.length n.pc) := (HP5.out.blkAt (i := 3) rfl).c 5 _ rfl
 have na0 : w4.cell? ⟨w.heap.size + 1, 0, none⟩ = some (J Z 3) := (HP5.out.blkAt (i := 4) rfl).c 0 _ rfl
 have na1 : w4.cell? ⟨w.heap.size + 1, 1, none⟩ = some (J Z aid) := (HP5.out.blkAt (i := 4) rfl).c 1 _ rfl
 have na2 : w4.cell? ⟨w.heap.size + 1, 2, none⟩ = some (J Z ato) := (HP5.out.blkAt (i := 4) rfl).c 2 _ rfl
 have na3 : w4.cell? ⟨w.heap.size + 1, 3, none⟩ = some (J Z amt) := (HP5.out.blkAt (i := 4) rfl).c 3 _ rfl
 have na4 : w4.cell? ⟨w.heap.size + 1, 4, none⟩ = some (J Z m_fr) := (HP5.out.blkAt (i := 4) rfl).c 4 _ rfl
 have na5 : w4.cell? ⟨w.heap.size + 1, 5, none⟩ = some (J Z m_to) := (HP5.out.blkAt (i := 4) rfl).c 5 _ rfl
 have na6 : w4.cell? ⟨w.heap.size + 1, 6, none⟩ = some (J Z m_kd) := (HP5.out.blkAt (i := 4) rfl).c 6 _ rfl
 have na7 : w4.cell? ⟨w.heap.size + 1, 7, none⟩ = some (J Z m_seq) := (HP5.out.blkAt (i := 4) rfl).c 7 _ rfl
 have na8 : w4.cell? ⟨w.heap.size + 1, 8, none⟩ = some (J Z m_amt) := (HP5.out.blkAt (i := 4) rfl).c 8 _ rfl
 go_wp2_with fail
 refine (l6Peer_any n ato w4 HS.out.2.1 (HL.out.peers.row.below HP5.out.below)).mono ?_
 rw [HFI.out]
 rintro e w5 ⟨rfl, hb5⟩
 have HP6 : Hid (Pool [] w [[orow 2 snCells n2.sa n2.sc n2.seen], [orow 4 prCells n2.pa n2.pc n2.peers], endsL n2.peers, [blk w.heap.size [J Z n.id, J Z n.has, J Z n.spent, J Z n.earned, V n.sa n.seen.length n.sc, V n.pa n.peers.length n.pc]], [blk (w.heap.size + 1) [J Z 3, J Z aid, J Z ato, J Z amt, J Z m_fr, J Z m_to, J Z m_kd, J Z m_seq, J Z m_amt]], [blk (w.heap.size + 1 + 1) [J Z 0, J Z 0, J Z 0, J Z 0, V none 0 0, V none 0 0]], [], [blk B [J Z n2.id, J Z n2.has, J Z n2.spent, J Z n2.earned, V n2.sa n2.seen.length n2.sc, V n2.pa n2.peers.length n2.pc]], [], [], []] w5) := hide ((HP5.out.keep hb5).cast (by simp [ndL]))
 clear hb5 HP5
 unfold ixV
 have nb0 : w5.cell? ⟨B, 0, none⟩ = some (J Z n2.id) := (HP6.out.blkAt (i := 7) rfl).c 0 _ rfl
 have nb1 : w5.cell? ⟨B, 1, none⟩ = some (J Z n2.has) := (HP6.out.blkAt (i := 7) rfl).c 1 _ rfl
 have nb2 : w5.cell? ⟨B, 2, none⟩ = some (J Z n2.spent) := (HP6.out.blkAt (i := 7) rfl).c 2 _ rfl
 have nb3 : w5.cell? ⟨B, 3, none⟩ = some (J Z n2.earned) := (HP6.out.blkAt (i := 7) rfl).c 3 _ rfl
 have nb4 : w5.cell? ⟨B, 4, none⟩ = some (V n2.sa n2.seen.length n2.sc) := (HP6.out.blkAt (i := 7) rfl).c 4 _ rfl
 have nb5 : w5.cell? ⟨B, 5, none⟩ = some (V n2.pa n2.peers.length n2.pc) := (HP6.out.blkAt (i := 7) rfl).c 5 _ rfl
 have ny0 : w5.cell? ⟨w.heap.size + 1 + 1, 0, none⟩ = some (J Z 0) := (HP6.out.blkAt (i := 5) rfl).c 0 _ rfl
 have ny1 : w5.cell? ⟨w.heap.size + 1 + 1, 1, none⟩ = some (J Z 0) := (HP6.out.blkAt (i := 5) rfl).c 1 _ rfl
 have ny2 : w5.cell? ⟨w.heap.size + 1 + 1, 2, none⟩ = some (J Z 0) := (HP6.out.blkAt (i := 5) rfl).c 2 _ rfl
 have ny3 : w5.cell? ⟨w.heap.size + 1 + 1, 3, none⟩ = some (J Z 0) := (HP6.out.blkAt (i := 5) rfl).c 3 _ rfl
 have ny4 : w5.cell? ⟨w.heap.size + 1 + 1, 4, none⟩ = some (V none 0 0) := (HP6.out.blkAt (i := 5) rfl).c 4 _ rfl
 have ny5 : w5.cell? ⟨w.heap.size + 1 + 1, 5, none⟩ = some (V none 0 0) := (HP6.out.blkAt (i := 5) rfl).c 5 _ rfl
 have zny0 : w5.frozen? ⟨w.heap.size + 1 + 1, 0, none⟩ = false := (HP6.out.blkAt (i := 5) rfl).f 0
 have zny1 : w5.frozen? ⟨w.heap.size + 1 + 1, 1, none⟩ = false := (HP6.out.blkAt (i := 5) rfl).f 1
 have zny2 : w5.frozen? ⟨w.heap.size + 1 + 1, 2, none⟩ = false := (HP6.out.blkAt (i := 5) rfl).f 2
 have zny3 : w5.frozen? ⟨w.heap.size + 1 + 1, 3, none⟩ = false := (HP6.out.blkAt (i := 5) rfl).f 3
 have zny4 : w5.frozen? ⟨w.heap.size + 1 + 1, 4, none⟩ = false := (HP6.out.blkAt (i := 5) rfl).f 4
 have zny5 : w5.frozen? ⟨w.heap.size + 1 + 1, 5, none⟩ = false := (HP6.out.blkAt (i := 5) rfl).f 5
 have HQ : Hid _ := hide (HP6.out.set6 (i := 5) rfl (J Z n2.id) (J Z n2.has) (J Z n2.spent) (J Z n2.earned) (V n2.sa n2.seen.length n2.sc) (V n2.pa n2.peers.length n2.pc))
 go_wp2
 refine name_post (fun W9 hW9 => ?_)
 have hq := HQ.out
 rw [← hW9] at hq
 have z_ := hq.blkAt (i := 5) rfl
 have g0_ := z_.c 0 _ rfl
 have g1_ := z_.c 1 _ rfl
 have g2_ := z_.c 2 _ rfl
 have g3_ := z_.c 3 _ rfl
 have g4_ := z_.c 4 _ rfl
 have g5_ := z_.c 5 _ rfl
 have hq2 := hq.noMsg (i := 8) rfl
 exact bodyPost_ret (v := .tuple #[ndV n2, V none 0 0, J Z (3)]) (by simp [results, Try.results8, go_sem, g0_, g1_, g2_, g3_, g4_, g5_, ndV]) rfl ⟨n2, none, 0, (by rw [HM.out] <;> rfl), (by rw [HM.out] <;> exact HD.out), (by
  rw [HM.out]
  exact (((((((hq2.drop (i := 10) rfl).drop (i := 9) rfl).drop (i := 7) rfl).drop (i := 6) rfl).drop (i := 5) rfl).drop (i := 4) rfl).drop (i := 3) rfl).cast (by simp [ndL, endsL]))⟩
set_option maxHeartbeats 4000000 in
theorem give_small (n : Nd) (aid ato amt m_fr m_to m_kd m_seq m_amt : Int) (w : World) (hs : SmN n) (hn0 : n.sa = none → n.sc = 0) (hp0 : ∀ p ∈ n.peers, p.a = none → p.cap = 0) (h : NodeAt w n) (hno : nodeB n.d = true) (hfo : actB n.id ⟨3, aid, ato, amt, ⟨m_fr, m_to, m_kd, m_seq, m_amt⟩⟩ = true) (k : Nat) (hk : k < n.peers.length) (hf : fi (n.peers.map Pr.id) ato = some k) (hq : n.has < amt) :
  Calls Try.prog 8 #[.agg #[J Z n.id, J Z n.has, J Z n.spent, J Z n.earned, V n.sa n.seen.length n.sc, V n.pa n.peers.length n.pc], .agg #[J Z 3, J Z aid, J Z ato, J Z amt, J Z m_fr, J Z m_to, J Z m_kd, J Z m_seq, J Z m_amt]] w fun e w' => ActedEnd [] (actM n.d (⟨3, aid, ato, amt, ⟨m_fr, m_to, m_kd, m_seq, m_amt⟩⟩ : Ac)) w e w' := by
 have HM : Hid (actM n.d (⟨3, aid, ato, amt, ⟨m_fr, m_to, m_kd, m_seq, m_amt⟩⟩ : Ac) = (n.d, [], 4)) := hide (by
  unfold actM; rw [if_neg (by rw [hno]; simp), if_neg (show ¬ actB n.d.id _ = false by rw [show actB n.d.id _ = true from hfo]; simp)]
  show giveM n.d ato amt = _
  unfold giveM
  rw [show n.d.peers.map PD.id = n.peers.map Pr.id from ids_p _, hf]
  simp only [Nd.d, List.getElem?_map, List.getElem?_eq_getElem hk, Option.map_some, Pr.d]
  simp [hq])
 have HS : Hid _ := hide hs
 have HL : Hid _ := hide h
 have HO : Hid _ := hide hno
 have HP0 : Hid _ := hide hp0
 obtain ⟨W, hW⟩ : ∃ W, W = ((w.alloc (.cells #[J Z n.id, J Z n.has, J Z n.spent, J Z n.earned, V n.sa n.seen.length n.sc, V n.pa n.peers.length n.pc] 27)).alloc (.cells #[J Z 3, J Z aid, J Z ato, J Z amt, J Z m_fr, J Z m_to, J Z m_kd, J Z m_seq, J Z m_amt] 31)).alloc (.cells #[J Z 0, J Z 0, J Z 0, J Z 0, V none 0 0, V none 0 0] 27) := ⟨_, rfl⟩
 have s1 : (w.alloc (.cells #[J Z n.id, J Z n.has, J Z n.spent, J Z n.earned, V n.sa n.seen.length n.sc, V n.pa n.peers.length n.pc] 27)).heap.size = w.heap.size + 1 := by simp
 have s2 : ((w.alloc (.cells #[J Z n.id, J Z n.has, J Z n.spent, J Z n.earned, V n.sa n.seen.length n.sc, V n.pa n.peers.length n.pc] 27)).alloc (.cells #[J Z 3, J Z aid, J Z ato, J Z amt, J Z m_fr, J Z m_to, J Z m_kd, J Z m_seq, J Z m_amt] 31)).heap.size = w.heap.size + 1 + 1 := by simp
 have HP : Hid (Pool [] w [[], [], [], [blk w.heap.size [J Z n.id, J Z n.has, J Z n.spent, J Z n.earned, V n.sa n.seen.length n.sc, V n.pa n.peers.length n.pc]], [blk (w.heap.size + 1) [J Z 3, J Z aid, J Z ato, J Z amt, J Z m_fr, J Z m_to, J Z m_kd, J Z m_seq, J Z m_amt]], [blk (w.heap.size + 1 + 1) [J Z 0, J Z 0, J Z 0, J Z 0, V none 0 0, V none 0 0]], [], [], [], [], []] W) := hide (by
  rw [hW, ← s2, ← s1]
  exact (((Pool.start w [[], [], [], [], [], [], [], [], [], [], []] rfl).newBlk (i := 3) rfl [J Z n.id, J Z n.has, J Z n.spent, J Z n.earned, V n.sa n.seen.length n.sc, V n.pa n.peers.length n.pc] 27).newBlk (i := 4) rfl [J Z 3, J Z aid, J Z ato, J Z amt, J Z m_fr, J Z m_to, J Z m_kd, J Z m_seq, J Z m_amt] 31).newBlk (i := 5) rfl [J Z 0, J Z 0, J Z 0, J Z 0, V none 0 0, V none 0 0] 27)
 have HW : Hid (((w.alloc (.cells #[J Z n.id, J Z n.has, J Z n.spent, J Z n.earned, V n.sa n.seen.length n.sc, V n.pa n.peers.length n.pc] 27)).alloc (.cells #[J Z 3, J Z aid, J Z ato, J Z amt, J Z m_fr, J Z m_to, J Z m_kd, J Z m_seq, J Z m_amt] 31)).alloc (.cells #[J Z 0, J Z 0, J Z 0, J Z 0, V none 0 0, V none 0 0] 27) = W) := hide hW.symm
 have HF : Hid _ := hide hfo
 have HFI : Hid _ := hide hf
 clear hf
 clear hW s1 s2 hs h hno hp0 hfo
 go_enter Try.func8, Try.ntmps8
 go_wp2_with fail
 rw [HW.out]
 refine (specNodeOk_any _ _ _ _ _ n.seen _ _ n.peers _ W HS.out.1 HS.out.2.1 HS.out.2.2 (HL.out.seen.below HP.out.below) (HL.out.peers.below HP.out.below)).mono ?_
 rw [show nodeB ⟨n.id, n.has, n.spent, n.earned, n.seen, n.peers.map Pr.d⟩ = true from HO.out]
 rintro e w1 ⟨rfl, hb1⟩
 have HP1 : Hid (Pool [] w [[], [], [], [blk w.heap.size [J Z n.id, J Z n.has, J Z n.spent, J Z n.earned, V n.sa n.seen.length n.sc, V n.pa n.peers.length n.pc]], [blk (w.heap.size + 1) [J Z 3, J Z aid, J Z ato, J Z amt, J Z m_fr, J Z m_to, J Z m_kd, J Z m_seq, J Z m_amt]], [blk (w.heap.size + 1 + 1) [J Z 0, J Z 0, J Z 0, J Z 0, V none 0 0, V none 0 0]], [], [], [], [], []] w1) := hide (HP.out.keep hb1)
 clear hb1 HP HW
 have nc0 : w1.cell? ⟨w.heap.size, 0, none⟩ = some (J Z n.id) := (HP1.out.blkAt (i := 3) rfl).c 0 _ rfl
 have nc1 : w1.cell? ⟨w.heap.size, 1, none⟩ = some (J Z n.has) := (HP1.out.blkAt (i := 3) rfl).c 1 _ rfl
 have nc2 : w1.cell? ⟨w.heap.size, 2, none⟩ = some (J Z n.spent) := (HP1.out.blkAt (i := 3) rfl).c 2 _ rfl
 have nc3 : w1.cell? ⟨w.heap.size, 3, none⟩ = some (J Z n.earned) := (HP1.out.blkAt (i := 3) rfl).c 3 _ rfl
 have nc4 : w1.cell? ⟨w.heap.size, 4, none⟩ = some (V n.sa n.seen.length n.sc) := (HP1.out.blkAt (i := 3) rfl).c 4 _ rfl
 have nc5 : w1.cell? ⟨w.heap.size, 5, none⟩ = some (V n.pa n.peers.length n.pc) := (HP1.out.blkAt (i := 3) rfl).c 5 _ rfl
 go_wp2_with fail
 refine (l6Copy_any n w1 HS.out hn0 HP0.out (HL.out.below HP1.out.below)).mono ?_
 rintro e w2 ⟨n2, rfl, hd, hnear, hP2⟩
 have HD : Hid _ := hide hd
 have HN2 : Hid _ := hide hnear
 have hB : w2.heap.size = w2.heap.size := rfl
 have HP3 := (HP1.out.call (i := 0) (rs := []) (rs' := ndL n2) rfl hP2).newBlk (i := 7) rfl [J Z n2.id, J Z n2.has, J Z n2.spent, J Z n2.earned, V n2.sa n2.seen.length n2.sc, V n2.pa n2.peers.length n2.pc] 27
 obtain ⟨B, hB⟩ : ∃ B, B = w2.heap.size := ⟨_, rfl⟩
 obtain ⟨w3, hw3⟩ : ∃ w3, w3 = w2.alloc (.cells #[J Z n2.id, J Z n2.has, J Z n2.spent, J Z n2.earned, V n2.sa n2.seen.length n2.sc, V n2.pa n2.peers.length n2.pc] 27) := ⟨_, rfl⟩
 have HP4 : Hid (Pool [] w [ndL n2, [], [], [blk w.heap.size [J Z n.id, J Z n.has, J Z n.spent, J Z n.earned, V n.sa n.seen.length n.sc, V n.pa n.peers.length n.pc]], [blk (w.heap.size + 1) [J Z 3, J Z aid, J Z ato, J Z amt, J Z m_fr, J Z m_to, J Z m_kd, J Z m_seq, J Z m_amt]], [blk (w.heap.size + 1 + 1) [J Z 0, J Z 0, J Z 0, J Z 0, V none 0 0, V none 0 0]], [], [blk B [J Z n2.id, J Z n2.has, J Z n2.spent, J Z n2.earned, V n2.sa n2.seen.length n2.sc, V n2.pa n2.peers.length n2.pc]], [], [], []] w3) := hide (by rw [hB, hw3]; exact HP3)
 have HW3 : Hid _ := hide hw3
 have HBB : Hid _ := hide hB
 have nc0 : (w2.alloc (.cells #[J Z n2.id, J Z n2.has, J Z n2.spent, J Z n2.earned, V n2.sa n2.seen.length n2.sc, V n2.pa n2.peers.length n2.pc] 27)).cell? ⟨w.heap.size, 0, none⟩ = some (J Z n.id) := (HP3.blkAt (i := 3) rfl).c 0 _ rfl
 have nc1 : (w2.alloc (.cells #[J Z n2.id, J Z n2.has, J Z n2.spent, J Z n2.earned, V n2.sa n2.seen.length n2.sc, V n2.pa n2.peers.length n2.pc] 27)).cell? ⟨w.heap.size, 1, none⟩ = some (J Z n.has) := (HP3.blkAt (i := 3) rfl).c 1 _ rfl
 have nc2 : (w2.alloc (.cells #[J Z n2.id, J Z n2.has, J Z n2.spent, J Z n2.earned, V n2.sa n2.seen.length n2.sc, V n2.pa n2.peers.length n2.pc] 27)).cell? ⟨w.heap.size, 2, none⟩ = some (J Z n.spent) := (HP3.blkAt (i := 3) rfl).c 2 _ rfl
 have nc3 : (w2.alloc (.cells #[J Z n2.id, J Z n2.has, J Z n2.spent, J Z n2.earned, V n2.sa n2.seen.length n2.sc, V n2.pa n2.peers.length n2.pc] 27)).cell? ⟨w.heap.size, 3, none⟩ = some (J Z n.earned) := (HP3.blkAt (i := 3) rfl).c 3 _ rfl
 have nc4 : (w2.alloc (.cells #[J Z n2.id, J Z n2.has, J Z n2.spent, J Z n2.earned, V n2.sa n2.seen.length n2.sc, V n2.pa n2.peers.length n2.pc] 27)).cell? ⟨w.heap.size, 4, none⟩ = some (V n.sa n.seen.length n.sc) := (HP3.blkAt (i := 3) rfl).c 4 _ rfl
 have nc5 : (w2.alloc (.cells #[J Z n2.id, J Z n2.has, J Z n2.spent, J Z n2.earned, V n2.sa n2.seen.length n2.sc, V n2.pa n2.peers.length n2.pc] 27)).cell? ⟨w.heap.size, 5, none⟩ = some (V n.pa n.peers.length n.pc) := (HP3.blkAt (i := 3) rfl).c 5 _ rfl
 have na0 : (w2.alloc (.cells #[J Z n2.id, J Z n2.has, J Z n2.spent, J Z n2.earned, V n2.sa n2.seen.length n2.sc, V n2.pa n2.peers.length n2.pc] 27)).cell? ⟨w.heap.size + 1, 0, none⟩ = some (J Z 3) := (HP3.blkAt (i := 4) rfl).c 0 _ rfl
 have na1 : (w2.alloc (.cells #[J Z n2.id, J Z n2.has, J Z n2.spent, J Z n2.earned, V n2.sa n2.seen.length n2.sc, V n2.pa n2.peers.length n2.pc] 27)).cell? ⟨w.heap.size + 1, 1, none⟩ = some (J Z aid) := (HP3.blkAt (i := 4) rfl).c 1 _ rfl
 have na2 : (w2.alloc (.cells #[J Z n2.id, J Z n2.has, J Z n2.spent, J Z n2.earned, V n2.sa n2.seen.length n2.sc, V n2.pa n2.peers.length n2.pc] 27)).cell? ⟨w.heap.size + 1, 2, none⟩ = some (J Z ato) := (HP3.blkAt (i := 4) rfl).c 2 _ rfl
 have na3 : (w2.alloc (.cells #[J Z n2.id, J Z n2.has, J Z n2.spent, J Z n2.earned, V n2.sa n2.seen.length n2.sc, V n2.pa n2.peers.length n2.pc] 27)).cell? ⟨w.heap.size + 1, 3, none⟩ = some (J Z amt) := (HP3.blkAt (i := 4) rfl).c 3 _ rfl
 have na4 : (w2.alloc (.cells #[J Z n2.id, J Z n2.has, J Z n2.spent, J Z n2.earned, V n2.sa n2.seen.length n2.sc, V n2.pa n2.peers.length n2.pc] 27)).cell? ⟨w.heap.size + 1, 4, none⟩ = some (J Z m_fr) := (HP3.blkAt (i := 4) rfl).c 4 _ rfl
 have na5 : (w2.alloc (.cells #[J Z n2.id, J Z n2.has, J Z n2.spent, J Z n2.earned, V n2.sa n2.seen.length n2.sc, V n2.pa n2.peers.length n2.pc] 27)).cell? ⟨w.heap.size + 1, 5, none⟩ = some (J Z m_to) := (HP3.blkAt (i := 4) rfl).c 5 _ rfl
 have na6 : (w2.alloc (.cells #[J Z n2.id, J Z n2.has, J Z n2.spent, J Z n2.earned, V n2.sa n2.seen.length n2.sc, V n2.pa n2.peers.length n2.pc] 27)).cell? ⟨w.heap.size + 1, 6, none⟩ = some (J Z m_kd) := (HP3.blkAt (i := 4) rfl).c 6 _ rfl
 have na7 : (w2.alloc (.cells #[J Z n2.id, J Z n2.has, J Z n2.spent, J Z n2.earned, V n2.sa n2.seen.length n2.sc, V n2.pa n2.peers.length n2.pc] 27)).cell? ⟨w.heap.size + 1, 7, none⟩ = some (J Z m_seq) := (HP3.blkAt (i := 4) rfl).c 7 _ rfl
 have na8 : (w2.alloc (.cells #[J Z n2.id, J Z n2.has, J Z n2.spent, J Z n2.earned, V n2.sa n2.seen.length n2.sc, V n2.pa n2.peers.length n2.pc] 27)).cell? ⟨w.heap.size + 1, 8, none⟩ = some (J Z m_amt) := (HP3.blkAt (i := 4) rfl).c 8 _ rfl
 clear hw3 hB HP3 hP2 hd hnear
 unfold ndV
 go_wp2_with fail
 rw [← HBB.out, ← HW3.out]
 refine (l6Form_any _ _ _ _ _ _ _ _ _ _ 3 aid ato amt m_fr m_to m_kd m_seq m_amt w3).mono ?_
 rw [show actB n.id (⟨3, aid, ato, amt, ⟨m_fr, m_to, m_kd, m_seq, m_amt⟩⟩ : Ac) = true from HF.out]
 rintro e w4 ⟨rfl, hb4⟩
 have HP5 : Hid (Pool [] w [ndL n2, [], [], [blk w.heap.size [J Z n.id, J Z n.has, J Z n.spent, J Z n.earned, V n.sa n.seen.length n.sc, V n.pa n.peers.length n.pc]], [blk (w.heap.size + 1) [J Z 3, J Z aid, J Z ato, J Z amt, J Z m_fr, J Z m_to, J Z m_kd, J Z m_seq, J Z m_amt]], [blk (w.heap.size + 1 + 1) [J Z 0, J Z 0, J Z 0, J Z 0, V none 0 0, V none 0 0]], [], [blk B [J Z n2.id, J Z n2.has, J Z n2.spent, J Z n2.earned, V n2.sa n2.seen.length n2.sc, V n2.pa n2.peers.length n2.pc]], [], [], []] w4) := hide (HP4.out.keep hb4)
 clear hb4 HP4 HW3 HBB HP1
 have nc0 : w4.cell? ⟨w.heap.size, 0, none⟩ = some (J Z n.id) := (HP5.out.blkAt (i := 3) rfl).c 0 _ rfl
 have nc1 : w4.cell? ⟨w.heap.size, 1, none⟩ = some (J Z n.has) := (HP5.out.blkAt (i := 3) rfl).c 1 _ rfl
 have nc2 : w4.cell? ⟨w.heap.size, 2, none⟩ = some (J Z n.spent) := (HP5.out.blkAt (i := 3) rfl).c 2 _ rfl
 have nc3 : w4.cell? ⟨w.heap.size, 3, none⟩ = some (J Z n.earned) := (HP5.out.blkAt (i := 3) rfl).c 3 _ rfl
 have nc4 : w4.cell? ⟨w.heap.size, 4, none⟩ = some (V n.sa n.seen.length n.sc) := (HP5.out.blkAt (i := 3) rfl).c 4 _ rfl
 have nc5 : w4.cell? ⟨w.heap.size, 5, none⟩ = some (V n.pa n.peers.length n.pc) := (HP5.out.blkAt (i := 3) rfl).c 5 _ rfl
 have na0 : w4.cell? ⟨w.heap.size + 1, 0, none⟩ = some (J Z 3) := (HP5.out.blkAt (i := 4) rfl).c 0 _ rfl
 have na1 : w4.cell? ⟨w.heap.size + 1, 1, none⟩ = some (J Z aid) := (HP5.out.blkAt (i := 4) rfl).c 1 _ rfl
 have na2 : w4.cell? ⟨w.heap.size + 1, 2, none⟩ = some (J Z ato) := (HP5.out.blkAt (i := 4) rfl).c 2 _ rfl
 have na3 : w4.cell? ⟨w.heap.size + 1, 3, none⟩ = some (J Z amt) := (HP5.out.blkAt (i := 4) rfl).c 3 _ rfl
 have na4 : w4.cell? ⟨w.heap.size + 1, 4, none⟩ = some (J Z m_fr) := (HP5.out.blkAt (i := 4) rfl).c 4 _ rfl
 have na5 : w4.cell? ⟨w.heap.size + 1, 5, none⟩ = some (J Z m_to) := (HP5.out.blkAt (i := 4) rfl).c 5 _ rfl
 have na6 : w4.cell? ⟨w.heap.size + 1, 6, none⟩ = some (J Z m_kd) := (HP5.out.blkAt (i := 4) rfl).c 6 _ rfl
 have na7 : w4.cell? ⟨w.heap.size + 1, 7, none⟩ = some (J Z m_seq) := (HP5.out.blkAt (i := 4) rfl).c 7 _ rfl
 have na8 : w4.cell? ⟨w.heap.size + 1, 8, none⟩ = some (J Z m_amt) := (HP5.out.blkAt (i := 4) rfl).c 8 _ rfl
 go_wp2_with fail
 refine (l6Peer_any n ato w4 HS.out.2.1 (HL.out.peers.row.below HP5.out.below)).mono ?_
 rw [HFI.out]
 rintro e w5 ⟨rfl, hb5⟩
 have HP6 : Hid (Pool [] w [[orow 2 snCells n2.sa n2.sc n2.seen], [orow 4 prCells n2.pa n2.pc n2.peers], endsL n2.peers, [blk w.heap.size [J Z n.id, J Z n.has, J Z n.spent, J Z n.earned, V n.sa n.seen.length n.sc, V n.pa n.peers.length n.pc]], [blk (w.heap.size + 1) [J Z 3, J Z aid, J Z ato, J Z amt, J Z m_fr, J Z m_to, J Z m_kd, J Z m_seq, J Z m_amt]], [blk (w.heap.size + 1 + 1) [J Z 0, J Z 0, J Z 0, J Z 0, V none 0 0, V none 0 0]], [], [blk B [J Z n2.id, J Z n2.has, J Z n2.spent, J Z n2.earned, V n2.sa n2.seen.length n2.sc, V n2.pa n2.peers.length n2.pc]], [], [], []] w5) := hide ((HP5.out.keep hb5).cast (by simp [ndL]))
 clear hb5 HP5
 unfold ixV
 have nc0 : w5.cell? ⟨w.heap.size, 0, none⟩ = some (J Z n.id) := (HP6.out.blkAt (i := 3) rfl).c 0 _ rfl
 have nc1 : w5.cell? ⟨w.heap.size, 1, none⟩ = some (J Z n.has) := (HP6.out.blkAt (i := 3) rfl).c 1 _ rfl
 have nc2 : w5.cell? ⟨w.heap.size, 2, none⟩ = some (J Z n.spent) := (HP6.out.blkAt (i := 3) rfl).c 2 _ rfl
 have nc3 : w5.cell? ⟨w.heap.size, 3, none⟩ = some (J Z n.earned) := (HP6.out.blkAt (i := 3) rfl).c 3 _ rfl
 have nc4 : w5.cell? ⟨w.heap.size, 4, none⟩ = some (V n.sa n.seen.length n.sc) := (HP6.out.blkAt (i := 3) rfl).c 4 _ rfl
 have nc5 : w5.cell? ⟨w.heap.size, 5, none⟩ = some (V n.pa n.peers.length n.pc) := (HP6.out.blkAt (i := 3) rfl).c 5 _ rfl
 have na0 : w5.cell? ⟨w.heap.size + 1, 0, none⟩ = some (J Z 3) := (HP6.out.blkAt (i := 4) rfl).c 0 _ rfl
 have na1 : w5.cell? ⟨w.heap.size + 1, 1, none⟩ = some (J Z aid) := (HP6.out.blkAt (i := 4) rfl).c 1 _ rfl
 have na2 : w5.cell? ⟨w.heap.size + 1, 2, none⟩ = some (J Z ato) := (HP6.out.blkAt (i := 4) rfl).c 2 _ rfl
 have na3 : w5.cell? ⟨w.heap.size + 1, 3, none⟩ = some (J Z amt) := (HP6.out.blkAt (i := 4) rfl).c 3 _ rfl
 have na4 : w5.cell? ⟨w.heap.size + 1, 4, none⟩ = some (J Z m_fr) := (HP6.out.blkAt (i := 4) rfl).c 4 _ rfl
 have na5 : w5.cell? ⟨w.heap.size + 1, 5, none⟩ = some (J Z m_to) := (HP6.out.blkAt (i := 4) rfl).c 5 _ rfl
 have na6 : w5.cell? ⟨w.heap.size + 1, 6, none⟩ = some (J Z m_kd) := (HP6.out.blkAt (i := 4) rfl).c 6 _ rfl
 have na7 : w5.cell? ⟨w.heap.size + 1, 7, none⟩ = some (J Z m_seq) := (HP6.out.blkAt (i := 4) rfl).c 7 _ rfl
 have na8 : w5.cell? ⟨w.heap.size + 1, 8, none⟩ = some (J Z m_amt) := (HP6.out.blkAt (i := 4) rfl).c 8 _ rfl
 have nb0 : w5.cell? ⟨B, 0, none⟩ = some (J Z n2.id) := (HP6.out.blkAt (i := 7) rfl).c 0 _ rfl
 have nb1 : w5.cell? ⟨B, 1, none⟩ = some (J Z n2.has) := (HP6.out.blkAt (i := 7) rfl).c 1 _ rfl
 have nb2 : w5.cell? ⟨B, 2, none⟩ = some (J Z n2.spent) := (HP6.out.blkAt (i := 7) rfl).c 2 _ rfl
 have nb3 : w5.cell? ⟨B, 3, none⟩ = some (J Z n2.earned) := (HP6.out.blkAt (i := 7) rfl).c 3 _ rfl
 have nb4 : w5.cell? ⟨B, 4, none⟩ = some (V n2.sa n2.seen.length n2.sc) := (HP6.out.blkAt (i := 7) rfl).c 4 _ rfl
 have nb5 : w5.cell? ⟨B, 5, none⟩ = some (V n2.pa n2.peers.length n2.pc) := (HP6.out.blkAt (i := 7) rfl).c 5 _ rfl
 have ny0 : w5.cell? ⟨w.heap.size + 1 + 1, 0, none⟩ = some (J Z 0) := (HP6.out.blkAt (i := 5) rfl).c 0 _ rfl
 have ny1 : w5.cell? ⟨w.heap.size + 1 + 1, 1, none⟩ = some (J Z 0) := (HP6.out.blkAt (i := 5) rfl).c 1 _ rfl
 have ny2 : w5.cell? ⟨w.heap.size + 1 + 1, 2, none⟩ = some (J Z 0) := (HP6.out.blkAt (i := 5) rfl).c 2 _ rfl
 have ny3 : w5.cell? ⟨w.heap.size + 1 + 1, 3, none⟩ = some (J Z 0) := (HP6.out.blkAt (i := 5) rfl).c 3 _ rfl
 have ny4 : w5.cell? ⟨w.heap.size + 1 + 1, 4, none⟩ = some (V none 0 0) := (HP6.out.blkAt (i := 5) rfl).c 4 _ rfl
 have ny5 : w5.cell? ⟨w.heap.size + 1 + 1, 5, none⟩ = some (V none 0 0) := (HP6.out.blkAt (i := 5) rfl).c 5 _ rfl
 have zny0 : w5.frozen? ⟨w.heap.size + 1 + 1, 0, none⟩ = false := (HP6.out.blkAt (i := 5) rfl).f 0
 have zny1 : w5.frozen? ⟨w.heap.size + 1 + 1, 1, none⟩ = false := (HP6.out.blkAt (i := 5) rfl).f 1
 have zny2 : w5.frozen? ⟨w.heap.size + 1 + 1, 2, none⟩ = false := (HP6.out.blkAt (i := 5) rfl).f 2
 have zny3 : w5.frozen? ⟨w.heap.size + 1 + 1, 3, none⟩ = false := (HP6.out.blkAt (i := 5) rfl).f 3
 have zny4 : w5.frozen? ⟨w.heap.size + 1 + 1, 4, none⟩ = false := (HP6.out.blkAt (i := 5) rfl).f 4
 have zny5 : w5.frozen? ⟨w.heap.size + 1 + 1, 5, none⟩ = false := (HP6.out.blkAt (i := 5) rfl).f 5
 have HQ : Hid _ := hide (HP6.out.set6 (i := 5) rfl (J Z n2.id) (J Z n2.has) (J Z n2.spent) (J Z n2.earned) (V n2.sa n2.seen.length n2.sc) (V n2.pa n2.peers.length n2.pc))
 go_wp2
 refine name_post (fun W9 hW9 => ?_)
 have hq := HQ.out
 rw [← hW9] at hq
 have z_ := hq.blkAt (i := 5) rfl
 have g0_ := z_.c 0 _ rfl
 have g1_ := z_.c 1 _ rfl
 have g2_ := z_.c 2 _ rfl
 have g3_ := z_.c 3 _ rfl
 have g4_ := z_.c 4 _ rfl
 have g5_ := z_.c 5 _ rfl
 have hq2 := hq.noMsg (i := 8) rfl
 exact bodyPost_ret (v := .tuple #[ndV n2, V none 0 0, J Z (4)]) (by simp [results, Try.results8, go_sem, g0_, g1_, g2_, g3_, g4_, g5_, ndV]) rfl ⟨n2, none, 0, (by rw [HM.out] <;> rfl), (by rw [HM.out] <;> exact HD.out), (by
  rw [HM.out]
  exact (((((((hq2.drop (i := 10) rfl).drop (i := 9) rfl).drop (i := 7) rfl).drop (i := 6) rfl).drop (i := 5) rfl).drop (i := 4) rfl).drop (i := 3) rfl).cast (by simp [ndL, endsL]))⟩
structure GvN (n n2 : Nd) (w : World) (B b off k : Nat) (hk : k < n.peers.length) (aid ato amt m_fr m_to m_kd m_seq m_amt : Int) (l0 l1 l2 l3 l4 l5 l6 l7 l8 l9 l10 l11 l12 l13 l14 l15 l16 l17 : Bool) (u14 u15 u16 u108 u109 u110 u111 u112 u113 u114 u115 u116 u117 u118 u119 u120 : Value) (x : World) : Prop where
 pool : Pool [] w [[orow 2 snCells n2.sa n2.sc n2.seen], [orow 4 prCells n2.pa n2.pc n2.peers], endsL n2.peers, [blk w.heap.size [J Z n.id, J Z n.has, J Z n.spent, J Z n.earned, V n.sa n.seen.length n.sc, V n.pa n.peers.length n.pc]], [blk (w.heap.size + 1) [J Z 3, J Z aid, J Z ato, J Z amt, J Z m_fr, J Z m_to, J Z m_kd, J Z m_seq, J Z m_amt]], [blk (w.heap.size + 1 + 1) [J Z 0, J Z 0, J Z 0, J Z 0, V none 0 0, V none 0 0]], cond l8 [orow 2 prcCells (slA u117) (slC u117) (pkE n.peers[k].E amt).out] [], [blk B [J Z n2.id, J Z n2.has, J Z n2.spent, J Z n2.earned, V n2.sa n2.seen.length n2.sc, V n2.pa n2.peers.length n2.pc]], [], cond l15 [blk (ptB u14) [V (slA u117) (pkE n.peers[k].E amt).out.length (slC u117), J Z (pkE n.peers[k].E amt).sent, J Z (pkE n.peers[k].E amt).got]] (cond l13 [blk (ptB u14) [V none 0 0, J Z 0, J Z 0]] []), cond l16 [blk (ptB u15) [J Z (pkP n.peers[k].E amt).seq, J Z (pkP n.peers[k].E amt).amt]] (cond l14 [blk (ptB u15) [J Z 0, J Z 0]] [])] x
 q117 : l8 = true → u117 = .tuple #[.agg #[V (slA u117) (pkE n.peers[k].E amt).out.length (slC u117), J Z (pkE n.peers[k].E amt).sent, J Z (pkE n.peers[k].E amt).got], .agg #[J Z (pkP n.peers[k].E amt).seq, J Z (pkP n.peers[k].E amt).amt], .bool false]
 q108 : l9 = true → u108 = .tuple #[.agg #[V (slA u117) (pkE n.peers[k].E amt).out.length (slC u117), J Z (pkE n.peers[k].E amt).sent, J Z (pkE n.peers[k].E amt).got], .agg #[J Z (pkP n.peers[k].E amt).seq, J Z (pkP n.peers[k].E amt).amt], .bool false]
 q118 : l10 = true → u118 = .agg #[V (slA u117) (pkE n.peers[k].E amt).out.length (slC u117), J Z (pkE n.peers[k].E amt).sent, J Z (pkE n.peers[k].E amt).got]
 q119 : l11 = true → u119 = .agg #[J Z (pkP n.peers[k].E amt).seq, J Z (pkP n.peers[k].E amt).amt]
 q120 : l12 = true → u120 = .bool false
 q16 : l17 = true → u16 = .bool false
 a14 : l13 = true → u14 = .pointer (some ⟨ptB u14, 0, none⟩)
 a15 : l14 = true → u15 = .pointer (some ⟨ptB u15, 0, none⟩)
 d9_8 : l9 = true → l8 = true
 d10_8 : l10 = true → l8 = true
 d15_8 : l15 = true → l8 = true
 d15_13 : l15 = true → l13 = true
 d16_14 : l16 = true → l14 = true
 d10_9 : l10 = true → l9 = true
 d15_10 : l15 = true → l10 = true
 p109 : l0 = true → u109 = .pointer (some ⟨w.heap.size, 5, none⟩)
 p110 : l1 = true → u110 = V (some ⟨b, off, none⟩) n.peers.length n.pc
 p111 : l2 = true → u111 = J Z ↑k
 p112 : l3 = true → u112 = .pointer (some ⟨b, off + k * 4, none⟩)
 p113 : l4 = true → u113 = .pointer (some ⟨b, off + k * 4 + 1, none⟩)
 p114 : l5 = true → u114 = .agg #[V n.peers[k].a n.peers[k].E.out.length n.peers[k].cap, J Z n.peers[k].E.sent, J Z n.peers[k].E.got]
 p115 : l6 = true → u115 = .pointer (some ⟨w.heap.size + 1, 3, none⟩)
 p116 : l7 = true → u116 = J Z amt
set_option maxHeartbeats 4000000 in
theorem give_bad (n : Nd) (aid ato amt m_fr m_to m_kd m_seq m_amt : Int) (w : World) (hs : SmN n) (hn0 : n.sa = none → n.sc = 0) (hp0 : ∀ p ∈ n.peers, p.a = none → p.cap = 0) (h : NodeAt w n) (hno : nodeB n.d = true) (hfo : actB n.id ⟨3, aid, ato, amt, ⟨m_fr, m_to, m_kd, m_seq, m_amt⟩⟩ = true) (k : Nat) (hk : k < n.peers.length) (hf : fi (n.peers.map Pr.id) ato = some k) (hq : ¬ n.has < amt) (hpk : pkOk n.peers[k].E amt = false) :
  Calls Try.prog 8 #[.agg #[J Z n.id, J Z n.has, J Z n.spent, J Z n.earned, V n.sa n.seen.length n.sc, V n.pa n.peers.length n.pc], .agg #[J Z 3, J Z aid, J Z ato, J Z amt, J Z m_fr, J Z m_to, J Z m_kd, J Z m_seq, J Z m_amt]] w fun e w' => ActedEnd [] (actM n.d (⟨3, aid, ato, amt, ⟨m_fr, m_to, m_kd, m_seq, m_amt⟩⟩ : Ac)) w e w' := by
 have HM : Hid (actM n.d (⟨3, aid, ato, amt, ⟨m_fr, m_to, m_kd, m_seq, m_amt⟩⟩ : Ac) = (n.d, [], 5)) := hide (by
  unfold actM; rw [if_neg (by rw [hno]; simp), if_neg (show ¬ actB n.d.id _ = false by rw [show actB n.d.id _ = true from hfo]; simp)]
  show giveM n.d ato amt = _
  unfold giveM
  rw [show n.d.peers.map PD.id = n.peers.map Pr.id from ids_p _, hf]
  simp only [Nd.d, List.getElem?_map, List.getElem?_eq_getElem hk, Option.map_some, Pr.d]
  have hq2 : (n.has < amt) = False := eq_false hq
  simp [hq2, hpk])
 have HS : Hid _ := hide hs
 have HL : Hid _ := hide h
 have HO : Hid _ := hide hno
 have HP0 : Hid _ := hide hp0
 obtain ⟨W, hW⟩ : ∃ W, W = ((w.alloc (.cells #[J Z n.id, J Z n.has, J Z n.spent, J Z n.earned, V n.sa n.seen.length n.sc, V n.pa n.peers.length n.pc] 27)).alloc (.cells #[J Z 3, J Z aid, J Z ato, J Z amt, J Z m_fr, J Z m_to, J Z m_kd, J Z m_seq, J Z m_amt] 31)).alloc (.cells #[J Z 0, J Z 0, J Z 0, J Z 0, V none 0 0, V none 0 0] 27) := ⟨_, rfl⟩
 have s1 : (w.alloc (.cells #[J Z n.id, J Z n.has, J Z n.spent, J Z n.earned, V n.sa n.seen.length n.sc, V n.pa n.peers.length n.pc] 27)).heap.size = w.heap.size + 1 := by simp
 have s2 : ((w.alloc (.cells #[J Z n.id, J Z n.has, J Z n.spent, J Z n.earned, V n.sa n.seen.length n.sc, V n.pa n.peers.length n.pc] 27)).alloc (.cells #[J Z 3, J Z aid, J Z ato, J Z amt, J Z m_fr, J Z m_to, J Z m_kd, J Z m_seq, J Z m_amt] 31)).heap.size = w.heap.size + 1 + 1 := by simp
 have HP : Hid (Pool [] w [[], [], [], [blk w.heap.size [J Z n.id, J Z n.has, J Z n.spent, J Z n.earned, V n.sa n.seen.length n.sc, V n.pa n.peers.length n.pc]], [blk (w.heap.size + 1) [J Z 3, J Z aid, J Z ato, J Z amt, J Z m_fr, J Z m_to, J Z m_kd, J Z m_seq, J Z m_amt]], [blk (w.heap.size + 1 + 1) [J Z 0, J Z 0, J Z 0, J Z 0, V none 0 0, V none 0 0]], [], [], [], [], []] W) := hide (by
  rw [hW, ← s2, ← s1]
  exact (((Pool.start w [[], [], [], [], [], [], [], [], [], [], []] rfl).newBlk (i := 3) rfl [J Z n.id, J Z n.has, J Z n.spent, J Z n.earned, V n.sa n.seen.length n.sc, V n.pa n.peers.length n.pc] 27).newBlk (i := 4) rfl [J Z 3, J Z aid, J Z ato, J Z amt, J Z m_fr, J Z m_to, J Z m_kd, J Z m_seq, J Z m_amt] 31).newBlk (i := 5) rfl [J Z 0, J Z 0, J Z 0, J Z 0, V none 0 0, V none 0 0] 27)
 have HW : Hid (((w.alloc (.cells #[J Z n.id, J Z n.has, J Z n.spent, J Z n.earned, V n.sa n.seen.length n.sc, V n.pa n.peers.length n.pc] 27)).alloc (.cells #[J Z 3, J Z aid, J Z ato, J Z amt, J Z m_fr, J Z m_to, J Z m_kd, J Z m_seq, J Z m_amt] 31)).alloc (.cells #[J Z 0, J Z 0, J Z 0, J Z 0, V none 0 0, V none 0 0] 27) = W) := hide hW.symm
 have HF : Hid _ := hide hfo
 have HFI : Hid _ := hide hf
 clear hf
 obtain ⟨⟨⟨r1, r2⟩, r3, r4⟩, _⟩ := nodeB_in hno
 obtain ⟨a1, a2⟩ := actB_give (a := (⟨3, aid, ato, amt, ⟨m_fr, m_to, m_kd, m_seq, m_amt⟩⟩ : Ac)) rfl hfo
 simp only at a1 a2
 clear hW s1 s2 hs h hno hp0 hfo
 go_enter Try.func8, Try.ntmps8
 go_wp2_with fail
 rw [HW.out]
 refine (specNodeOk_any _ _ _ _ _ n.seen _ _ n.peers _ W HS.out.1 HS.out.2.1 HS.out.2.2 (HL.out.seen.below HP.out.below) (HL.out.peers.below HP.out.below)).mono ?_
 rw [show nodeB ⟨n.id, n.has, n.spent, n.earned, n.seen, n.peers.map Pr.d⟩ = true from HO.out]
 rintro e w1 ⟨rfl, hb1⟩
 have HP1 : Hid (Pool [] w [[], [], [], [blk w.heap.size [J Z n.id, J Z n.has, J Z n.spent, J Z n.earned, V n.sa n.seen.length n.sc, V n.pa n.peers.length n.pc]], [blk (w.heap.size + 1) [J Z 3, J Z aid, J Z ato, J Z amt, J Z m_fr, J Z m_to, J Z m_kd, J Z m_seq, J Z m_amt]], [blk (w.heap.size + 1 + 1) [J Z 0, J Z 0, J Z 0, J Z 0, V none 0 0, V none 0 0]], [], [], [], [], []] w1) := hide (HP.out.keep hb1)
 clear hb1 HP HW
 have nc0 : w1.cell? ⟨w.heap.size, 0, none⟩ = some (J Z n.id) := (HP1.out.blkAt (i := 3) rfl).c 0 _ rfl
 have nc1 : w1.cell? ⟨w.heap.size, 1, none⟩ = some (J Z n.has) := (HP1.out.blkAt (i := 3) rfl).c 1 _ rfl
 have nc2 : w1.cell? ⟨w.heap.size, 2, none⟩ = some (J Z n.spent) := (HP1.out.blkAt (i := 3) rfl).c 2 _ rfl
 have nc3 : w1.cell? ⟨w.heap.size, 3, none⟩ = some (J Z n.earned) := (HP1.out.blkAt (i := 3) rfl).c 3 _ rfl
 have nc4 : w1.cell? ⟨w.heap.size, 4, none⟩ = some (V n.sa n.seen.length n.sc) := (HP1.out.blkAt (i := 3) rfl).c 4 _ rfl
 have nc5 : w1.cell? ⟨w.heap.size, 5, none⟩ = some (V n.pa n.peers.length n.pc) := (HP1.out.blkAt (i := 3) rfl).c 5 _ rfl
 go_wp2_with fail
 refine (l6Copy_any n w1 HS.out hn0 HP0.out (HL.out.below HP1.out.below)).mono ?_
 rintro e w2 ⟨n2, rfl, hd, hnear, hP2⟩
 have HD : Hid _ := hide hd
 have HN2 : Hid _ := hide hnear
 have hB : w2.heap.size = w2.heap.size := rfl
 have HP3 := (HP1.out.call (i := 0) (rs := []) (rs' := ndL n2) rfl hP2).newBlk (i := 7) rfl [J Z n2.id, J Z n2.has, J Z n2.spent, J Z n2.earned, V n2.sa n2.seen.length n2.sc, V n2.pa n2.peers.length n2.pc] 27
 obtain ⟨B, hB⟩ : ∃ B, B = w2.heap.size := ⟨_, rfl⟩
 obtain ⟨w3, hw3⟩ : ∃ w3, w3 = w2.alloc (.cells #[J Z n2.id, J Z n2.has, J Z n2.spent, J Z n2.earned, V n2.sa n2.seen.length n2.sc, V n2.pa n2.peers.length n2.pc] 27) := ⟨_, rfl⟩
 have HP4 : Hid (Pool [] w [ndL n2, [], [], [blk w.heap.size [J Z n.id, J Z n.has, J Z n.spent, J Z n.earned, V n.sa n.seen.length n.sc, V n.pa n.peers.length n.pc]], [blk (w.heap.size + 1) [J Z 3, J Z aid, J Z ato, J Z amt, J Z m_fr, J Z m_to, J Z m_kd, J Z m_seq, J Z m_amt]], [blk (w.heap.size + 1 + 1) [J Z 0, J Z 0, J Z 0, J Z 0, V none 0 0, V none 0 0]], [], [blk B [J Z n2.id, J Z n2.has, J Z n2.spent, J Z n2.earned, V n2.sa n2.seen.length n2.sc, V n2.pa n2.peers.length n2.pc]], [], [], []] w3) := hide (by rw [hB, hw3]; exact HP3)
 have HW3 : Hid _ := hide hw3
 have HBB : Hid _ := hide hB
 have nc0 : (w2.alloc (.cells #[J Z n2.id, J Z n2.has, J Z n2.spent, J Z n2.earned, V n2.sa n2.seen.length n2.sc, V n2.pa n2.peers.length n2.pc] 27)).cell? ⟨w.heap.size, 0, none⟩ = some (J Z n.id) := (HP3.blkAt (i := 3) rfl).c 0 _ rfl
 have nc1 : (w2.alloc (.cells #[J Z n2.id, J Z n2.has, J Z n2.spent, J Z n2.earned, V n2.sa n2.seen.length n2.sc, V n2.pa n2.peers.length n2.pc] 27)).cell? ⟨w.heap.size, 1, none⟩ = some (J Z n.has) := (HP3.blkAt (i := 3) rfl).c 1 _ rfl
 have nc2 : (w2.alloc (.cells #[J Z n2.id, J Z n2.has, J Z n2.spent, J Z n2.earned, V n2.sa n2.seen.length n2.sc, V n2.pa n2.peers.length n2.pc] 27)).cell? ⟨w.heap.size, 2, none⟩ = some (J Z n.spent) := (HP3.blkAt (i := 3) rfl).c 2 _ rfl
 have nc3 : (w2.alloc (.cells #[J Z n2.id, J Z n2.has, J Z n2.spent, J Z n2.earned, V n2.sa n2.seen.length n2.sc, V n2.pa n2.peers.length n2.pc] 27)).cell? ⟨w.heap.size, 3, none⟩ = some (J Z n.earned) := (HP3.blkAt (i := 3) rfl).c 3 _ rfl
 have nc4 : (w2.alloc (.cells #[J Z n2.id, J Z n2.has, J Z n2.spent, J Z n2.earned, V n2.sa n2.seen.length n2.sc, V n2.pa n2.peers.length n2.pc] 27)).cell? ⟨w.heap.size, 4, none⟩ = some (V n.sa n.seen.length n.sc) := (HP3.blkAt (i := 3) rfl).c 4 _ rfl
 have nc5 : (w2.alloc (.cells #[J Z n2.id, J Z n2.has, J Z n2.spent, J Z n2.earned, V n2.sa n2.seen.length n2.sc, V n2.pa n2.peers.length n2.pc] 27)).cell? ⟨w.heap.size, 5, none⟩ = some (V n.pa n.peers.length n.pc) := (HP3.blkAt (i := 3) rfl).c 5 _ rfl
 have na0 : (w2.alloc (.cells #[J Z n2.id, J Z n2.has, J Z n2.spent, J Z n2.earned, V n2.sa n2.seen.length n2.sc, V n2.pa n2.peers.length n2.pc] 27)).cell? ⟨w.heap.size + 1, 0, none⟩ = some (J Z 3) := (HP3.blkAt (i := 4) rfl).c 0 _ rfl
 have na1 : (w2.alloc (.cells #[J Z n2.id, J Z n2.has, J Z n2.spent, J Z n2.earned, V n2.sa n2.seen.length n2.sc, V n2.pa n2.peers.length n2.pc] 27)).cell? ⟨w.heap.size + 1, 1, none⟩ = some (J Z aid) := (HP3.blkAt (i := 4) rfl).c 1 _ rfl
 have na2 : (w2.alloc (.cells #[J Z n2.id, J Z n2.has, J Z n2.spent, J Z n2.earned, V n2.sa n2.seen.length n2.sc, V n2.pa n2.peers.length n2.pc] 27)).cell? ⟨w.heap.size + 1, 2, none⟩ = some (J Z ato) := (HP3.blkAt (i := 4) rfl).c 2 _ rfl
 have na3 : (w2.alloc (.cells #[J Z n2.id, J Z n2.has, J Z n2.spent, J Z n2.earned, V n2.sa n2.seen.length n2.sc, V n2.pa n2.peers.length n2.pc] 27)).cell? ⟨w.heap.size + 1, 3, none⟩ = some (J Z amt) := (HP3.blkAt (i := 4) rfl).c 3 _ rfl
 have na4 : (w2.alloc (.cells #[J Z n2.id, J Z n2.has, J Z n2.spent, J Z n2.earned, V n2.sa n2.seen.length n2.sc, V n2.pa n2.peers.length n2.pc] 27)).cell? ⟨w.heap.size + 1, 4, none⟩ = some (J Z m_fr) := (HP3.blkAt (i := 4) rfl).c 4 _ rfl
 have na5 : (w2.alloc (.cells #[J Z n2.id, J Z n2.has, J Z n2.spent, J Z n2.earned, V n2.sa n2.seen.length n2.sc, V n2.pa n2.peers.length n2.pc] 27)).cell? ⟨w.heap.size + 1, 5, none⟩ = some (J Z m_to) := (HP3.blkAt (i := 4) rfl).c 5 _ rfl
 have na6 : (w2.alloc (.cells #[J Z n2.id, J Z n2.has, J Z n2.spent, J Z n2.earned, V n2.sa n2.seen.length n2.sc, V n2.pa n2.peers.length n2.pc] 27)).cell? ⟨w.heap.size + 1, 6, none⟩ = some (J Z m_kd) := (HP3.blkAt (i := 4) rfl).c 6 _ rfl
 have na7 : (w2.alloc (.cells #[J Z n2.id, J Z n2.has, J Z n2.spent, J Z n2.earned, V n2.sa n2.seen.length n2.sc, V n2.pa n2.peers.length n2.pc] 27)).cell? ⟨w.heap.size + 1, 7, none⟩ = some (J Z m_seq) := (HP3.blkAt (i := 4) rfl).c 7 _ rfl
 have na8 : (w2.alloc (.cells #[J Z n2.id, J Z n2.has, J Z n2.spent, J Z n2.earned, V n2.sa n2.seen.length n2.sc, V n2.pa n2.peers.length n2.pc] 27)).cell? ⟨w.heap.size + 1, 8, none⟩ = some (J Z m_amt) := (HP3.blkAt (i := 4) rfl).c 8 _ rfl
 clear hw3 hB HP3 hP2 hd hnear
 unfold ndV
 go_wp2_with fail
 rw [← HBB.out, ← HW3.out]
 refine (l6Form_any _ _ _ _ _ _ _ _ _ _ 3 aid ato amt m_fr m_to m_kd m_seq m_amt w3).mono ?_
 rw [show actB n.id (⟨3, aid, ato, amt, ⟨m_fr, m_to, m_kd, m_seq, m_amt⟩⟩ : Ac) = true from HF.out]
 rintro e w4 ⟨rfl, hb4⟩
 have HP5 : Hid (Pool [] w [ndL n2, [], [], [blk w.heap.size [J Z n.id, J Z n.has, J Z n.spent, J Z n.earned, V n.sa n.seen.length n.sc, V n.pa n.peers.length n.pc]], [blk (w.heap.size + 1) [J Z 3, J Z aid, J Z ato, J Z amt, J Z m_fr, J Z m_to, J Z m_kd, J Z m_seq, J Z m_amt]], [blk (w.heap.size + 1 + 1) [J Z 0, J Z 0, J Z 0, J Z 0, V none 0 0, V none 0 0]], [], [blk B [J Z n2.id, J Z n2.has, J Z n2.spent, J Z n2.earned, V n2.sa n2.seen.length n2.sc, V n2.pa n2.peers.length n2.pc]], [], [], []] w4) := hide (HP4.out.keep hb4)
 clear hb4 HP4 HW3 HBB HP1
 have nc0 : w4.cell? ⟨w.heap.size, 0, none⟩ = some (J Z n.id) := (HP5.out.blkAt (i := 3) rfl).c 0 _ rfl
 have nc1 : w4.cell? ⟨w.heap.size, 1, none⟩ = some (J Z n.has) := (HP5.out.blkAt (i := 3) rfl).c 1 _ rfl
 have nc2 : w4.cell? ⟨w.heap.size, 2, none⟩ = some (J Z n.spent) := (HP5.out.blkAt (i := 3) rfl).c 2 _ rfl
 have nc3 : w4.cell? ⟨w.heap.size, 3, none⟩ = some (J Z n.earned) := (HP5.out.blkAt (i := 3) rfl).c 3 _ rfl
 have nc4 : w4.cell? ⟨w.heap.size, 4, none⟩ = some (V n.sa n.seen.length n.sc) := (HP5.out.blkAt (i := 3) rfl).c 4 _ rfl
 have nc5 : w4.cell? ⟨w.heap.size, 5, none⟩ = some (V n.pa n.peers.length n.pc) := (HP5.out.blkAt (i := 3) rfl).c 5 _ rfl
 have na0 : w4.cell? ⟨w.heap.size + 1, 0, none⟩ = some (J Z 3) := (HP5.out.blkAt (i := 4) rfl).c 0 _ rfl
 have na1 : w4.cell? ⟨w.heap.size + 1, 1, none⟩ = some (J Z aid) := (HP5.out.blkAt (i := 4) rfl).c 1 _ rfl
 have na2 : w4.cell? ⟨w.heap.size + 1, 2, none⟩ = some (J Z ato) := (HP5.out.blkAt (i := 4) rfl).c 2 _ rfl
 have na3 : w4.cell? ⟨w.heap.size + 1, 3, none⟩ = some (J Z amt) := (HP5.out.blkAt (i := 4) rfl).c 3 _ rfl
 have na4 : w4.cell? ⟨w.heap.size + 1, 4, none⟩ = some (J Z m_fr) := (HP5.out.blkAt (i := 4) rfl).c 4 _ rfl
 have na5 : w4.cell? ⟨w.heap.size + 1, 5, none⟩ = some (J Z m_to) := (HP5.out.blkAt (i := 4) rfl).c 5 _ rfl
 have na6 : w4.cell? ⟨w.heap.size + 1, 6, none⟩ = some (J Z m_kd) := (HP5.out.blkAt (i := 4) rfl).c 6 _ rfl
 have na7 : w4.cell? ⟨w.heap.size + 1, 7, none⟩ = some (J Z m_seq) := (HP5.out.blkAt (i := 4) rfl).c 7 _ rfl
 have na8 : w4.cell? ⟨w.heap.size + 1, 8, none⟩ = some (J Z m_amt) := (HP5.out.blkAt (i := 4) rfl).c 8 _ rfl
 go_wp2_with fail
 refine (l6Peer_any n ato w4 HS.out.2.1 (HL.out.peers.row.below HP5.out.below)).mono ?_
 rw [HFI.out]
 rintro e w5 ⟨rfl, hb5⟩
 have HP6 : Hid (Pool [] w [[orow 2 snCells n2.sa n2.sc n2.seen], [orow 4 prCells n2.pa n2.pc n2.peers], endsL n2.peers, [blk w.heap.size [J Z n.id, J Z n.has, J Z n.spent, J Z n.earned, V n.sa n.seen.length n.sc, V n.pa n.peers.length n.pc]], [blk (w.heap.size + 1) [J Z 3, J Z aid, J Z ato, J Z amt, J Z m_fr, J Z m_to, J Z m_kd, J Z m_seq, J Z m_amt]], [blk (w.heap.size + 1 + 1) [J Z 0, J Z 0, J Z 0, J Z 0, V none 0 0, V none 0 0]], [], [blk B [J Z n2.id, J Z n2.has, J Z n2.spent, J Z n2.earned, V n2.sa n2.seen.length n2.sc, V n2.pa n2.peers.length n2.pc]], [], [], []] w5) := hide ((HP5.out.keep hb5).cast (by simp [ndL]))
 clear hb5 HP5
 unfold ixV
 obtain ⟨b, off, hpa, _⟩ := pr_row HL.out.peers.row k hk
 have HPA : Hid (n.pa = some ⟨b, off, none⟩) := hide hpa
 clear hpa
 have nc0 : w5.cell? ⟨w.heap.size, 0, none⟩ = some (J Z n.id) := (HP6.out.blkAt (i := 3) rfl).c 0 _ rfl
 have nc1 : w5.cell? ⟨w.heap.size, 1, none⟩ = some (J Z n.has) := (HP6.out.blkAt (i := 3) rfl).c 1 _ rfl
 have nc2 : w5.cell? ⟨w.heap.size, 2, none⟩ = some (J Z n.spent) := (HP6.out.blkAt (i := 3) rfl).c 2 _ rfl
 have nc3 : w5.cell? ⟨w.heap.size, 3, none⟩ = some (J Z n.earned) := (HP6.out.blkAt (i := 3) rfl).c 3 _ rfl
 have nc4 : w5.cell? ⟨w.heap.size, 4, none⟩ = some (V n.sa n.seen.length n.sc) := (HP6.out.blkAt (i := 3) rfl).c 4 _ rfl
 have nc5 : w5.cell? ⟨w.heap.size, 5, none⟩ = some (V n.pa n.peers.length n.pc) := (HP6.out.blkAt (i := 3) rfl).c 5 _ rfl
 have na0 : w5.cell? ⟨w.heap.size + 1, 0, none⟩ = some (J Z 3) := (HP6.out.blkAt (i := 4) rfl).c 0 _ rfl
 have na1 : w5.cell? ⟨w.heap.size + 1, 1, none⟩ = some (J Z aid) := (HP6.out.blkAt (i := 4) rfl).c 1 _ rfl
 have na2 : w5.cell? ⟨w.heap.size + 1, 2, none⟩ = some (J Z ato) := (HP6.out.blkAt (i := 4) rfl).c 2 _ rfl
 have na3 : w5.cell? ⟨w.heap.size + 1, 3, none⟩ = some (J Z amt) := (HP6.out.blkAt (i := 4) rfl).c 3 _ rfl
 have na4 : w5.cell? ⟨w.heap.size + 1, 4, none⟩ = some (J Z m_fr) := (HP6.out.blkAt (i := 4) rfl).c 4 _ rfl
 have na5 : w5.cell? ⟨w.heap.size + 1, 5, none⟩ = some (J Z m_to) := (HP6.out.blkAt (i := 4) rfl).c 5 _ rfl
 have na6 : w5.cell? ⟨w.heap.size + 1, 6, none⟩ = some (J Z m_kd) := (HP6.out.blkAt (i := 4) rfl).c 6 _ rfl
 have na7 : w5.cell? ⟨w.heap.size + 1, 7, none⟩ = some (J Z m_seq) := (HP6.out.blkAt (i := 4) rfl).c 7 _ rfl
 have na8 : w5.cell? ⟨w.heap.size + 1, 8, none⟩ = some (J Z m_amt) := (HP6.out.blkAt (i := 4) rfl).c 8 _ rfl
 go_wp2_with fail
 rename_i K5 hK5
 refine wp_region_inv (by kernel_rfl) (fun L act x => ∃ l0 l1 l2 l3 l4 l5 l6 l7 l8 l9 l10 l11 l12 l13 l14 l15 l16 l17 : Bool, ∃ u14 u15 u16 u108 u109 u110 u111 u112 u113 u114 u115 u116 u117 u118 u119 u120 : Value, L = #[l0, l1, l2, l3, l4, l5, l6, l7, l8, l9, l10, l11, l12, l13, l14, l15, l16, l17] ∧ act = { tmps := #[Value.agg #[J Z n.id, J Z n.has, J Z n.spent, J Z n.earned, V n.sa n.seen.length n.sc, V n.pa n.peers.length n.pc], Value.agg #[J Z 3, J Z aid, J Z ato, J Z amt, J Z m_fr, J Z m_to, J Z m_kd, J Z m_seq, J Z m_amt], Value.pointer (some { block := w.heap.size, off := 0 }), Value.pointer (some { block := w.heap.size + 1, off := 0 }), Value.pointer (some { block := w.heap.size + 1 + 1, off := 0 }), V none 0 0, J Z 0, Value.pointer (some { block := B, off := 0 }), U, U, U, U, U, J Z ↑k, u14, u15, u16, Value.agg #[J Z n.id, J Z n.has, J Z n.spent, J Z n.earned, V n.sa n.seen.length n.sc, V n.pa n.peers.length n.pc], Value.bool true, Value.bool false, U, Value.agg #[J Z n.id, J Z n.has, J Z n.spent, J Z n.earned, V n.sa n.seen.length n.sc, V n.pa n.peers.length n.pc], Value.agg #[J Z n2.id, J Z n2.has, J Z n2.spent, J Z n2.earned, V n2.sa n2.seen.length n2.sc, V n2.pa n2.peers.length n2.pc], Value.agg #[J Z n.id, J Z n.has, J Z n.spent, J Z n.earned, V n.sa n.seen.length n.sc, V n.pa n.peers.length n.pc], Value.agg #[J Z 3, J Z aid, J Z ato, J Z amt, J Z m_fr, J Z m_to, J Z m_kd, J Z m_seq, J Z m_amt], Value.bool true, Value.bool false, U, Value.pointer (some { block := w.heap.size + 1, off := 0 }), J Z 3, Value.bool false, Value.bool false, Value.bool false, U, U, U, U, U, U, U, U, Value.bool false, Value.bool false, U, U, U, U, U, U, U, Value.bool false, Value.bool false, U, U, U, U, U, U, U, U, U, U, U, U, U, U, U, U, U, U, U, U, U, U, U, U, U, U, U, U, U, U, U, U, U, U, U, U, U, U, U, U, U, U, U, Value.agg #[J Z n.id, J Z n.has, J Z n.spent, J Z n.earned, V n.sa n.seen.length n.sc, V n.pa n.peers.length n.pc], Value.pointer (some { block := w.heap.size + 1, off := 2 }), J Z ato, J Z ↑k, J Z ↑k, Value.bool (decide (↑k < 0)), U, Value.pointer (some { block := w.heap.size + 1, off := 3 }), J Z amt, Value.pointer (some { block := w.heap.size, off := 1 }), J Z n.has, Value.bool (decide (n.has < amt)), U, u108, u109, u110, u111, u112, u113, u114, u115, u116, u117, u118, u119, u120, U, U, U, U, U, U, U, U, U, U, U, U, U, U, U, U, U, U, U, U, U, U], defers := [] } ∧ GvN n n2 w B b off k hk aid ato amt m_fr m_to m_kd m_seq m_amt l0 l1 l2 l3 l4 l5 l6 l7 l8 l9 l10 l11 l12 l13 l14 l15 l16 l17 u14 u15 u16 u108 u109 u110 u111 u112 u113 u114 u115 u116 u117 u118 u119 u120 x) ?_ ?_ ?_
 rotate_left 2
 ·exact ⟨false, false, false, false, false, false, false, false, false, false, false, false, false, false, false, false, false, false, U, U, U, U, U, U, U, U, U, U, U, U, U, U, U, U, rfl, rfl, ⟨HP6.out.drew, nofun, nofun, nofun, nofun, nofun, nofun, nofun, nofun, nofun, nofun, nofun, nofun, nofun, nofun, nofun, nofun, nofun, nofun, nofun, nofun, nofun, nofun, nofun⟩⟩
 ·rintro L act x i ⟨l0, l1, l2, l3, l4, l5, l6, l7, l8, l9, l10, l11, l12, l13, l14, l15, l16, l17, u14, u15, u16, u108, u109, u110, u111, u112, u113, u114, u115, u116, u117, u118, u119, u120, rfl, rfl, h⟩ hi K hK
  have hi15 : i < 18 := by
   obtain ⟨_, o, ho, _⟩ := mem_ready.1 hi
   exact (Array.getElem?_eq_some_iff.1 ho).1
  have hl := (mem_ready.1 hi).1
  obtain rfl | rfl | rfl | rfl | rfl | rfl | rfl | rfl | rfl | rfl | rfl | rfl | rfl | rfl | rfl | rfl | rfl | rfl := (by omega : i = 0 ∨ i = 1 ∨ i = 2 ∨ i = 3 ∨ i = 4 ∨ i = 5 ∨ i = 6 ∨ i = 7 ∨ i = 8 ∨ i = 9 ∨ i = 10 ∨ i = 11 ∨ i = 12 ∨ i = 13 ∨ i = 14 ∨ i = 15 ∨ i = 16 ∨ i = 17)
  ·have e : l0 = false := hl
   subst e
   refine wpOp_run (v := .pointer (some ⟨w.heap.size, 5, none⟩)) (w' := x) (by rfl) (by rfl) ?_ (hK _ _ ⟨true, l1, l2, l3, l4, l5, l6, l7, l8, l9, l10, l11, l12, l13, l14, l15, l16, l17, u14, u15, u16, u108, (.pointer (some ⟨w.heap.size, 5, none⟩)), u110, u111, u112, u113, u114, u115, u116, u117, u118, u119, u120, rfl, rfl, { h with p109 := fun _ => rfl }⟩)
   go_simp
  ·have e : l1 = false := hl
   subst e
   have d0 : l0 = true := ready_on hi 0 (by kernel_rfl)
   subst d0
   have c5_ : x.cell? ⟨w.heap.size, 5, none⟩ = some (V (some ⟨b, off, none⟩) n.peers.length n.pc) := by rw [← HPA.out]; exact (h.pool.blkAt (i := 3) rfl).c 5 _ rfl
   refine wpOp_run (v := V (some ⟨b, off, none⟩) n.peers.length n.pc) (w' := x) (by rfl) (by rfl) ?_ (hK _ _ ⟨true, true, l2, l3, l4, l5, l6, l7, l8, l9, l10, l11, l12, l13, l14, l15, l16, l17, u14, u15, u16, u108, u109, (V (some ⟨b, off, none⟩) n.peers.length n.pc), u111, u112, u113, u114, u115, u116, u117, u118, u119, u120, rfl, rfl, { h with p110 := fun _ => rfl }⟩)
   rw [h.p109 rfl]
   go_simp
  ·have e : l2 = false := hl
   subst e
   refine wpOp_run (v := J Z ↑k) (w' := x) (by rfl) (by rfl) ?_ (hK _ _ ⟨l0, l1, true, l3, l4, l5, l6, l7, l8, l9, l10, l11, l12, l13, l14, l15, l16, l17, u14, u15, u16, u108, u109, u110, (J Z ↑k), u112, u113, u114, u115, u116, u117, u118, u119, u120, rfl, rfl, { h with p111 := fun _ => rfl }⟩)
   go_simp
  ·have e : l3 = false := hl
   subst e
   have d1 : l1 = true := ready_on hi 1 (by kernel_rfl)
   subst d1
   have d2 : l2 = true := ready_on hi 2 (by kernel_rfl)
   subst d2
   refine wpOp_run (v := .pointer (some ⟨b, off + k * 4, none⟩)) (w' := x) (by rfl) (by rfl) ?_ (hK _ _ ⟨l0, true, true, true, l4, l5, l6, l7, l8, l9, l10, l11, l12, l13, l14, l15, l16, l17, u14, u15, u16, u108, u109, u110, u111, (.pointer (some ⟨b, off + k * 4, none⟩)), u113, u114, u115, u116, u117, u118, u119, u120, rfl, rfl, { h with p112 := fun _ => rfl }⟩)
   rw [h.p110 rfl, h.p111 rfl]
   go_simp
  ·have e : l4 = false := hl
   subst e
   have d3 : l3 = true := ready_on hi 3 (by kernel_rfl)
   subst d3
   refine wpOp_run (v := .pointer (some ⟨b, off + k * 4 + 1, none⟩)) (w' := x) (by rfl) (by rfl) ?_ (hK _ _ ⟨l0, l1, l2, true, true, l5, l6, l7, l8, l9, l10, l11, l12, l13, l14, l15, l16, l17, u14, u15, u16, u108, u109, u110, u111, u112, (.pointer (some ⟨b, off + k * 4 + 1, none⟩)), u114, u115, u116, u117, u118, u119, u120, rfl, rfl, { h with p113 := fun _ => rfl }⟩)
   rw [h.p112 rfl]
   go_simp
  ·have e : l5 = false := hl
   subst e
   have d4 : l4 = true := ready_on hi 4 (by kernel_rfl)
   subst d4
   obtain ⟨c0_, c1_, c2_, c3_⟩ := pr_at HL.out.peers.row h.pool.below HPA.out k hk
   refine wpOp_run (v := .agg #[V n.peers[k].a n.peers[k].E.out.length n.peers[k].cap, J Z n.peers[k].E.sent, J Z n.peers[k].E.got]) (w' := x) (by rfl) (by rfl) ?_ (hK _ _ ⟨l0, l1, l2, l3, true, true, l6, l7, l8, l9, l10, l11, l12, l13, l14, l15, l16, l17, u14, u15, u16, u108, u109, u110, u111, u112, u113, (.agg #[V n.peers[k].a n.peers[k].E.out.length n.peers[k].cap, J Z n.peers[k].E.sent, J Z n.peers[k].E.got]), u115, u116, u117, u118, u119, u120, rfl, rfl, { h with p114 := fun _ => rfl }⟩)
   rw [h.p113 rfl]
   go_simp
  ·have e : l6 = false := hl
   subst e
   refine wpOp_run (v := .pointer (some ⟨w.heap.size + 1, 3, none⟩)) (w' := x) (by rfl) (by rfl) ?_ (hK _ _ ⟨l0, l1, l2, l3, l4, l5, true, l7, l8, l9, l10, l11, l12, l13, l14, l15, l16, l17, u14, u15, u16, u108, u109, u110, u111, u112, u113, u114, (.pointer (some ⟨w.heap.size + 1, 3, none⟩)), u116, u117, u118, u119, u120, rfl, rfl, { h with p115 := fun _ => rfl }⟩)
   go_simp
  ·have e : l7 = false := hl
   subst e
   have d6 : l6 = true := ready_on hi 6 (by kernel_rfl)
   subst d6
   have c3_ : x.cell? ⟨w.heap.size + 1, 3, none⟩ = some (J Z amt) := (h.pool.blkAt (i := 4) rfl).c 3 _ rfl
   refine wpOp_run (v := J Z amt) (w' := x) (by rfl) (by rfl) ?_ (hK _ _ ⟨l0, l1, l2, l3, l4, l5, true, true, l8, l9, l10, l11, l12, l13, l14, l15, l16, l17, u14, u15, u16, u108, u109, u110, u111, u112, u113, u114, u115, (J Z amt), u117, u118, u119, u120, rfl, rfl, { h with p116 := fun _ => rfl }⟩)
   rw [h.p115 rfl]
   go_simp
  ·have e : l8 = false := hl
   subst e
   have d5 : l5 = true := ready_on hi 5 (by kernel_rfl)
   subst d5
   have d7 : l7 = true := ready_on hi 7 (by kernel_rfl)
   subst d7
   have z9 : l9 = false := by
    cases hz : l9
    ·rfl
    ·exact absurd (h.d9_8 hz) (by simp)
   subst z9
   have z10 : l10 = false := by
    cases hz : l10
    ·rfl
    ·exact absurd (h.d10_8 hz) (by simp)
   subst z10
   have z15 : l15 = false := by
    cases hz : l15
    ·rfl
    ·exact absurd (h.d15_8 hz) (by simp)
   subst z15
   refine wpOp_call (by rfl) (by rfl) ?_ (specPacked_pool n.peers[k].a n.peers[k].E.out n.peers[k].cap n.peers[k].E.sent n.peers[k].E.got amt x (HS.out.2.2 _ (List.getElem_mem hk)) (HP0.out _ (List.getElem_mem hk)) ((HL.out.peers.ends _ (List.getElem_mem hk)).below h.pool.below)) ?_
   ·rw [h.p114 rfl, h.p116 rfl]; go_simp
   ·rintro e w' ⟨a5, c5, rfl, hb5, st5, hi5⟩
    exact ⟨_, rfl, hK _ _ ⟨l0, l1, l2, l3, l4, true, l6, true, true, false, false, l11, l12, l13, l14, false, l16, l17, u14, u15, u16, u108, u109, u110, u111, u112, u113, u114, u115, u116, (.tuple #[.agg #[V a5 (pkE n.peers[k].E amt).out.length c5, J Z (pkE n.peers[k].E amt).sent, J Z (pkE n.peers[k].E amt).got], .agg #[J Z (pkP n.peers[k].E amt).seq, J Z (pkP n.peers[k].E amt).amt], .bool (pkOk n.peers[k].E amt)]), u118, u119, u120, rfl, rfl, { h with q117 := (fun _ => by rw [show pkOk n.peers[k].E amt = false from hpk]; rfl), q108 := (fun q => by cases q), q118 := (fun q => by cases q), pool := (h.pool.new (i := 6) rfl hb5 st5 hi5), d9_8 := fun _ => rfl, d10_8 := fun _ => rfl, d15_8 := fun _ => rfl }⟩⟩
  ·have e : l9 = false := hl
   subst e
   have d8 : l8 = true := ready_on hi 8 (by kernel_rfl)
   subst d8
   have z10 : l10 = false := by
    cases hz : l10
    ·rfl
    ·exact absurd (h.d10_9 hz) (by simp)
   subst z10
   refine wpOp_run (v := .tuple #[.agg #[V (slA u117) (pkE n.peers[k].E amt).out.length (slC u117), J Z (pkE n.peers[k].E amt).sent, J Z (pkE n.peers[k].E amt).got], .agg #[J Z (pkP n.peers[k].E amt).seq, J Z (pkP n.peers[k].E amt).amt], .bool false]) (w' := x) (by rfl) (by rfl) ?_ (hK _ _ ⟨l0, l1, l2, l3, l4, l5, l6, l7, true, true, false, l11, l12, l13, l14, l15, l16, l17, u14, u15, u16, (.tuple #[.agg #[V (slA u117) (pkE n.peers[k].E amt).out.length (slC u117), J Z (pkE n.peers[k].E amt).sent, J Z (pkE n.peers[k].E amt).got], .agg #[J Z (pkP n.peers[k].E amt).seq, J Z (pkP n.peers[k].E amt).amt], .bool false]), u109, u110, u111, u112, u113, u114, u115, u116, u117, u118, u119, u120, rfl, rfl, { h with q108 := (fun _ => rfl), d9_8 := fun _ => rfl, d10_9 := fun _ => rfl }⟩)
   rw [← h.q117 rfl]
   go_simp
  ·have e : l10 = false := hl
   subst e
   have d9 : l9 = true := ready_on hi 9 (by kernel_rfl)
   subst d9
   have z15 : l15 = false := by
    cases hz : l15
    ·rfl
    ·exact absurd (h.d15_10 hz) (by simp)
   subst z15
   refine wpOp_run (v := .agg #[V (slA u117) (pkE n.peers[k].E amt).out.length (slC u117), J Z (pkE n.peers[k].E amt).sent, J Z (pkE n.peers[k].E amt).got]) (w' := x) (by rfl) (by rfl) ?_ (hK _ _ ⟨l0, l1, l2, l3, l4, l5, l6, l7, l8, true, true, l11, l12, l13, l14, false, l16, l17, u14, u15, u16, u108, u109, u110, u111, u112, u113, u114, u115, u116, u117, (.agg #[V (slA u117) (pkE n.peers[k].E amt).out.length (slC u117), J Z (pkE n.peers[k].E amt).sent, J Z (pkE n.peers[k].E amt).got]), u119, u120, rfl, rfl, { h with q118 := (fun _ => rfl), d10_8 := fun _ => h.d9_8 rfl, d10_9 := fun _ => rfl, d15_10 := fun _ => rfl }⟩)
   rw [h.q108 rfl]
   go_simp
  ·have e : l11 = false := hl
   subst e
   have d9 : l9 = true := ready_on hi 9 (by kernel_rfl)
   subst d9
   refine wpOp_run (v := .agg #[J Z (pkP n.peers[k].E amt).seq, J Z (pkP n.peers[k].E amt).amt]) (w' := x) (by rfl) (by rfl) ?_ (hK _ _ ⟨l0, l1, l2, l3, l4, l5, l6, l7, l8, true, l10, true, l12, l13, l14, l15, l16, l17, u14, u15, u16, u108, u109, u110, u111, u112, u113, u114, u115, u116, u117, u118, (.agg #[J Z (pkP n.peers[k].E amt).seq, J Z (pkP n.peers[k].E amt).amt]), u120, rfl, rfl, { h with q119 := (fun _ => rfl) }⟩)
   rw [h.q108 rfl]
   go_simp
  ·have e : l12 = false := hl
   subst e
   have d9 : l9 = true := ready_on hi 9 (by kernel_rfl)
   subst d9
   refine wpOp_run (v := .bool false) (w' := x) (by rfl) (by rfl) ?_ (hK _ _ ⟨l0, l1, l2, l3, l4, l5, l6, l7, l8, true, l10, l11, true, l13, l14, l15, l16, l17, u14, u15, u16, u108, u109, u110, u111, u112, u113, u114, u115, u116, u117, u118, u119, (.bool false), rfl, rfl, { h with q120 := (fun _ => rfl) }⟩)
   rw [h.q108 rfl]
   go_simp
  ·have e : l13 = false := hl
   subst e
   have z15 : l15 = false := by
    cases hz : l15
    ·rfl
    ·exact absurd (h.d15_13 hz) (by simp)
   subst z15
   refine wpOp_run (v := .pointer (some ⟨x.heap.size, 0, none⟩)) (w' := x.alloc (.cells #[V none 0 0, J Z 0, J Z 0] 39)) (by rfl) (by rfl) ?_ (hK _ _ ⟨l0, l1, l2, l3, l4, l5, l6, l7, l8, l9, l10, l11, l12, true, l14, false, l16, l17, (.pointer (some ⟨x.heap.size, 0, none⟩)), u15, u16, u108, u109, u110, u111, u112, u113, u114, u115, u116, u117, u118, u119, u120, rfl, rfl, { h with a14 := (fun _ => rfl), pool := (h.pool.newBlk (i := 9) rfl [V none 0 0, J Z 0, J Z 0] 39), d15_13 := fun _ => rfl }⟩)
   go_simp
  ·have e : l14 = false := hl
   subst e
   have z16 : l16 = false := by
    cases hz : l16
    ·rfl
    ·exact absurd (h.d16_14 hz) (by simp)
   subst z16
   refine wpOp_run (v := .pointer (some ⟨x.heap.size, 0, none⟩)) (w' := x.alloc (.cells #[J Z 0, J Z 0] 61)) (by rfl) (by rfl) ?_ (hK _ _ ⟨l0, l1, l2, l3, l4, l5, l6, l7, l8, l9, l10, l11, l12, l13, true, l15, false, l17, u14, (.pointer (some ⟨x.heap.size, 0, none⟩)), u16, u108, u109, u110, u111, u112, u113, u114, u115, u116, u117, u118, u119, u120, rfl, rfl, { h with a15 := (fun _ => rfl), pool := (h.pool.newBlk (i := 10) rfl [J Z 0, J Z 0] 61), d16_14 := fun _ => rfl }⟩)
   go_simp
  ·have e : l15 = false := hl
   subst e
   have d0 : l0 = true := ready_on hi 0 (by kernel_rfl)
   subst d0
   have d1 : l1 = true := ready_on hi 1 (by kernel_rfl)
   subst d1
   have d2 : l2 = true := ready_on hi 2 (by kernel_rfl)
   subst d2
   have d3 : l3 = true := ready_on hi 3 (by kernel_rfl)
   subst d3
   have d4 : l4 = true := ready_on hi 4 (by kernel_rfl)
   subst d4
   have d5 : l5 = true := ready_on hi 5 (by kernel_rfl)
   subst d5
   have d6 : l6 = true := ready_on hi 6 (by kernel_rfl)
   subst d6
   have d7 : l7 = true := ready_on hi 7 (by kernel_rfl)
   subst d7
   have d8 : l8 = true := ready_on hi 8 (by kernel_rfl)
   subst d8
   have d9 : l9 = true := ready_on hi 9 (by kernel_rfl)
   subst d9
   have d10 : l10 = true := ready_on hi 10 (by kernel_rfl)
   subst d10
   have d13 : l13 = true := ready_on hi 13 (by kernel_rfl)
   subst d13
   have d14 : l14 = true := ready_on hi 14 (by kernel_rfl)
   subst d14
   refine wpOp_skip (w' := (((x.setCell ⟨ptB u14, 0, none⟩ (V (slA u117) (pkE n.peers[k].E amt).out.length (slC u117))).setCell ⟨ptB u14, 1, none⟩ (J Z (pkE n.peers[k].E amt).sent)).setCell ⟨ptB u14, 2, none⟩ (J Z (pkE n.peers[k].E amt).got))) (by rfl) (by rfl) ?_ (hK _ _ ⟨true, true, true, true, true, true, true, true, true, true, true, l11, l12, true, true, true, l16, l17, u14, u15, u16, u108, u109, u110, u111, u112, u113, u114, u115, u116, u117, u118, u119, u120, rfl, rfl, { h with pool := ((((h.pool.setBlk (i := 9) rfl 0 (V (slA u117) (pkE n.peers[k].E amt).out.length (slC u117)) (by simp)).setBlk (i := 9) rfl 1 (J Z (pkE n.peers[k].E amt).sent) (by simp)).setBlk (i := 9) rfl 2 (J Z (pkE n.peers[k].E amt).got) (by simp))), d15_8 := fun _ => rfl, d15_13 := fun _ => rfl, d15_10 := fun _ => rfl }⟩)
   have A := h.pool.blkAt (i := 9) rfl
   have t0 := A.c 0 _ rfl
   have f0 := A.f 0
   have t1 := A.c 1 _ rfl
   have f1 := A.f 1
   have t2 := A.c 2 _ rfl
   have f2 := A.f 2
   obtain ⟨P8, hP8⟩ : ∃ P8, P8 = ptB u14 := ⟨_, rfl⟩
   have e8 := h.a14 rfl
   rw [h.q118 rfl]
   rw [← hP8] at t0 f0 t1 f1 t2 f2 e8 ⊢
   rw [e8]
   clear e8 hP8 A h
   go_simp
  ·have e : l16 = false := hl
   subst e
   have d0 : l0 = true := ready_on hi 0 (by kernel_rfl)
   subst d0
   have d1 : l1 = true := ready_on hi 1 (by kernel_rfl)
   subst d1
   have d2 : l2 = true := ready_on hi 2 (by kernel_rfl)
   subst d2
   have d3 : l3 = true := ready_on hi 3 (by kernel_rfl)
   subst d3
   have d4 : l4 = true := ready_on hi 4 (by kernel_rfl)
   subst d4
   have d5 : l5 = true := ready_on hi 5 (by kernel_rfl)
   subst d5
   have d6 : l6 = true := ready_on hi 6 (by kernel_rfl)
   subst d6
   have d7 : l7 = true := ready_on hi 7 (by kernel_rfl)
   subst d7
   have d8 : l8 = true := ready_on hi 8 (by kernel_rfl)
   subst d8
   have d9 : l9 = true := ready_on hi 9 (by kernel_rfl)
   subst d9
   have d10 : l10 = true := ready_on hi 10 (by kernel_rfl)
   subst d10
   have d11 : l11 = true := ready_on hi 11 (by kernel_rfl)
   subst d11
   have d13 : l13 = true := ready_on hi 13 (by kernel_rfl)
   subst d13
   have d14 : l14 = true := ready_on hi 14 (by kernel_rfl)
   subst d14
   have d15 : l15 = true := ready_on hi 15 (by kernel_rfl)
   subst d15
   refine wpOp_skip (w' := ((x.setCell ⟨ptB u15, 0, none⟩ (J Z (pkP n.peers[k].E amt).seq)).setCell ⟨ptB u15, 1, none⟩ (J Z (pkP n.peers[k].E amt).amt))) (by rfl) (by rfl) ?_ (hK _ _ ⟨true, true, true, true, true, true, true, true, true, true, true, true, l12, true, true, true, true, l17, u14, u15, u16, u108, u109, u110, u111, u112, u113, u114, u115, u116, u117, u118, u119, u120, rfl, rfl, { h with pool := (((h.pool.setBlk (i := 10) rfl 0 (J Z (pkP n.peers[k].E amt).seq) (by simp)).setBlk (i := 10) rfl 1 (J Z (pkP n.peers[k].E amt).amt) (by simp))), d16_14 := fun _ => rfl }⟩)
   have A := h.pool.blkAt (i := 10) rfl
   have t0 := A.c 0 _ rfl
   have f0 := A.f 0
   have t1 := A.c 1 _ rfl
   have f1 := A.f 1
   obtain ⟨P8, hP8⟩ : ∃ P8, P8 = ptB u15 := ⟨_, rfl⟩
   have e8 := h.a15 rfl
   rw [h.q119 rfl]
   rw [← hP8] at t0 f0 t1 f1 e8 ⊢
   rw [e8]
   clear e8 hP8 A h
   go_simp
  ·have e : l17 = false := hl
   subst e
   have d0 : l0 = true := ready_on hi 0 (by kernel_rfl)
   subst d0
   have d1 : l1 = true := ready_on hi 1 (by kernel_rfl)
   subst d1
   have d2 : l2 = true := ready_on hi 2 (by kernel_rfl)
   subst d2
   have d3 : l3 = true := ready_on hi 3 (by kernel_rfl)
   subst d3
   have d4 : l4 = true := ready_on hi 4 (by kernel_rfl)
   subst d4
   have d5 : l5 = true := ready_on hi 5 (by kernel_rfl)
   subst d5
   have d6 : l6 = true := ready_on hi 6 (by kernel_rfl)
   subst d6
   have d7 : l7 = true := ready_on hi 7 (by kernel_rfl)
   subst d7
   have d8 : l8 = true := ready_on hi 8 (by kernel_rfl)
   subst d8
   have d9 : l9 = true := ready_on hi 9 (by kernel_rfl)
   subst d9
   have d10 : l10 = true := ready_on hi 10 (by kernel_rfl)
   subst d10
   have d11 : l11 = true := ready_on hi 11 (by kernel_rfl)
   subst d11
   have d12 : l12 = true := ready_on hi 12 (by kernel_rfl)
   subst d12
   have d13 : l13 = true := ready_on hi 13 (by kernel_rfl)
   subst d13
   have d14 : l14 = true := ready_on hi 14 (by kernel_rfl)
   subst d14
   have d15 : l15 = true := ready_on hi 15 (by kernel_rfl)
   subst d15
   have d16 : l16 = true := ready_on hi 16 (by kernel_rfl)
   subst d16
   refine wpOp_run (v := .bool false) (w' := x) (by rfl) (by rfl) ?_ (hK _ _ ⟨true, true, true, true, true, true, true, true, true, true, true, true, true, true, true, true, true, true, u14, u15, (.bool false), u108, u109, u110, u111, u112, u113, u114, u115, u116, u117, u118, u119, u120, rfl, rfl, { h with q16 := (fun _ => rfl) }⟩)
   rw [h.q120 rfl]
   go_simp
 ·rintro L act x ⟨l0, l1, l2, l3, l4, l5, l6, l7, l8, l9, l10, l11, l12, l13, l14, l15, l16, l17, u14, u15, u16, u108, u109, u110, u111, u112, u113, u114, u115, u116, u117, u118, u119, u120, rfl, rfl, h⟩ hr
  have hall := ready_all hr rfl (by decide)
  have t0 : l0 = true := hall 0 (by decide)
  have t1 : l1 = true := hall 1 (by decide)
  have t2 : l2 = true := hall 2 (by decide)
  have t3 : l3 = true := hall 3 (by decide)
  have t4 : l4 = true := hall 4 (by decide)
  have t5 : l5 = true := hall 5 (by decide)
  have t6 : l6 = true := hall 6 (by decide)
  have t7 : l7 = true := hall 7 (by decide)
  have t8 : l8 = true := hall 8 (by decide)
  have t9 : l9 = true := hall 9 (by decide)
  have t10 : l10 = true := hall 10 (by decide)
  have t11 : l11 = true := hall 11 (by decide)
  have t12 : l12 = true := hall 12 (by decide)
  have t13 : l13 = true := hall 13 (by decide)
  have t14 : l14 = true := hall 14 (by decide)
  have t15 : l15 = true := hall 15 (by decide)
  have t16 : l16 = true := hall 16 (by decide)
  have t17 : l17 = true := hall 17 (by decide)
  subst t0 t1 t2 t3 t4 t5 t6 t7 t8 t9 t10 t11 t12 t13 t14 t15 t16 t17
  clear hall hr
  have e8 := h.a14 rfl
  have e9 := h.a15 rfl
  have e10 := h.q16 rfl
  obtain ⟨a5, c5, ha5⟩ : ∃ a c, a = slA u117 ∧ c = slC u117 := ⟨_, _, rfl, rfl⟩
  obtain ⟨P8, hP8⟩ : ∃ P8, P8 = ptB u14 := ⟨_, rfl⟩
  obtain ⟨P9, hP9⟩ : ∃ P9, P9 = ptB u15 := ⟨_, rfl⟩
  have HP7 : Hid (Pool [] w [[orow 2 snCells n2.sa n2.sc n2.seen], [orow 4 prCells n2.pa n2.pc n2.peers], endsL n2.peers, [blk w.heap.size [J Z n.id, J Z n.has, J Z n.spent, J Z n.earned, V n.sa n.seen.length n.sc, V n.pa n.peers.length n.pc]], [blk (w.heap.size + 1) [J Z 3, J Z aid, J Z ato, J Z amt, J Z m_fr, J Z m_to, J Z m_kd, J Z m_seq, J Z m_amt]], [blk (w.heap.size + 1 + 1) [J Z 0, J Z 0, J Z 0, J Z 0, V none 0 0, V none 0 0]], [orow 2 prcCells a5 c5 (pkE n.peers[k].E amt).out], [blk B [J Z n2.id, J Z n2.has, J Z n2.spent, J Z n2.earned, V n2.sa n2.seen.length n2.sc, V n2.pa n2.peers.length n2.pc]], [], [blk P8 [V a5 (pkE n.peers[k].E amt).out.length c5, J Z (pkE n.peers[k].E amt).sent, J Z (pkE n.peers[k].E amt).got]], [blk P9 [J Z (pkP n.peers[k].E amt).seq, J Z (pkP n.peers[k].E amt).amt]]] x) := hide (by rw [ha5.1, ha5.2, hP8, hP9]; exact h.pool)
  rw [← hP8] at e8
  rw [← hP9] at e9
  clear h ha5 hP8 hP9
  subst e8 e9 e10
  refine hK5 _ _ ?_
  clear hK5
  have nb0 : x.cell? ⟨B, 0, none⟩ = some (J Z n2.id) := (HP7.out.blkAt (i := 7) rfl).c 0 _ rfl
  have nb1 : x.cell? ⟨B, 1, none⟩ = some (J Z n2.has) := (HP7.out.blkAt (i := 7) rfl).c 1 _ rfl
  have nb2 : x.cell? ⟨B, 2, none⟩ = some (J Z n2.spent) := (HP7.out.blkAt (i := 7) rfl).c 2 _ rfl
  have nb3 : x.cell? ⟨B, 3, none⟩ = some (J Z n2.earned) := (HP7.out.blkAt (i := 7) rfl).c 3 _ rfl
  have nb4 : x.cell? ⟨B, 4, none⟩ = some (V n2.sa n2.seen.length n2.sc) := (HP7.out.blkAt (i := 7) rfl).c 4 _ rfl
  have nb5 : x.cell? ⟨B, 5, none⟩ = some (V n2.pa n2.peers.length n2.pc) := (HP7.out.blkAt (i := 7) rfl).c 5 _ rfl
  have ny0 : x.cell? ⟨w.heap.size + 1 + 1, 0, none⟩ = some (J Z 0) := (HP7.out.blkAt (i := 5) rfl).c 0 _ rfl
  have ny1 : x.cell? ⟨w.heap.size + 1 + 1, 1, none⟩ = some (J Z 0) := (HP7.out.blkAt (i := 5) rfl).c 1 _ rfl
  have ny2 : x.cell? ⟨w.heap.size + 1 + 1, 2, none⟩ = some (J Z 0) := (HP7.out.blkAt (i := 5) rfl).c 2 _ rfl
  have ny3 : x.cell? ⟨w.heap.size + 1 + 1, 3, none⟩ = some (J Z 0) := (HP7.out.blkAt (i := 5) rfl).c 3 _ rfl
  have ny4 : x.cell? ⟨w.heap.size + 1 + 1, 4, none⟩ = some (V none 0 0) := (HP7.out.blkAt (i := 5) rfl).c 4 _ rfl
  have ny5 : x.cell? ⟨w.heap.size + 1 + 1, 5, none⟩ = some (V none 0 0) := (HP7.out.blkAt (i := 5) rfl).c 5 _ rfl
  have zny0 : x.frozen? ⟨w.heap.size + 1 + 1, 0, none⟩ = false := (HP7.out.blkAt (i := 5) rfl).f 0
  have zny1 : x.frozen? ⟨w.heap.size + 1 + 1, 1, none⟩ = false := (HP7.out.blkAt (i := 5) rfl).f 1
  have zny2 : x.frozen? ⟨w.heap.size + 1 + 1, 2, none⟩ = false := (HP7.out.blkAt (i := 5) rfl).f 2
  have zny3 : x.frozen? ⟨w.heap.size + 1 + 1, 3, none⟩ = false := (HP7.out.blkAt (i := 5) rfl).f 3
  have zny4 : x.frozen? ⟨w.heap.size + 1 + 1, 4, none⟩ = false := (HP7.out.blkAt (i := 5) rfl).f 4
  have zny5 : x.frozen? ⟨w.heap.size + 1 + 1, 5, none⟩ = false := (HP7.out.blkAt (i := 5) rfl).f 5
  have HQ : Hid _ := hide (HP7.out.set6 (i := 5) rfl (J Z n2.id) (J Z n2.has) (J Z n2.spent) (J Z n2.earned) (V n2.sa n2.seen.length n2.sc) (V n2.pa n2.peers.length n2.pc))
  go_wp2
  refine name_post (fun W9 hW9 => ?_)
  have hq := HQ.out
  rw [← hW9] at hq
  have z_ := hq.blkAt (i := 5) rfl
  have g0_ := z_.c 0 _ rfl
  have g1_ := z_.c 1 _ rfl
  have g2_ := z_.c 2 _ rfl
  have g3_ := z_.c 3 _ rfl
  have g4_ := z_.c 4 _ rfl
  have g5_ := z_.c 5 _ rfl
  have hq2 := hq.noMsg (i := 8) rfl
  exact bodyPost_ret (v := .tuple #[ndV n2, V none 0 0, J Z (5)]) (by simp [results, Try.results8, go_sem, g0_, g1_, g2_, g3_, g4_, g5_, ndV]) rfl ⟨n2, none, 0, (by rw [HM.out] <;> rfl), (by rw [HM.out] <;> exact HD.out), (by
   rw [HM.out]
   exact (((((((hq2.drop (i := 10) rfl).drop (i := 9) rfl).drop (i := 7) rfl).drop (i := 6) rfl).drop (i := 5) rfl).drop (i := 4) rfl).drop (i := 3) rfl).cast (by simp [ndL, endsL]))⟩
structure GvY (n n2 : Nd) (w : World) (B b off k : Nat) (hk : k < n.peers.length) (aid ato amt m_fr m_to m_kd m_seq m_amt : Int) (l0 l1 l2 l3 l4 l5 l6 l7 l8 l9 l10 l11 l12 l13 l14 l15 l16 l17 : Bool) (u14 u15 u16 u108 u109 u110 u111 u112 u113 u114 u115 u116 u117 u118 u119 u120 : Value) (x : World) : Prop where
 pool : Pool [] w [[orow 2 snCells n2.sa n2.sc n2.seen], [orow 4 prCells n2.pa n2.pc n2.peers], endsL n2.peers, [blk w.heap.size [J Z n.id, J Z n.has, J Z n.spent, J Z n.earned, V n.sa n.seen.length n.sc, V n.pa n.peers.length n.pc]], [blk (w.heap.size + 1) [J Z 3, J Z aid, J Z ato, J Z amt, J Z m_fr, J Z m_to, J Z m_kd, J Z m_seq, J Z m_amt]], [blk (w.heap.size + 1 + 1) [J Z 0, J Z 0, J Z 0, J Z 0, V none 0 0, V none 0 0]], cond l8 [orow 2 prcCells (slA u117) (slC u117) (pkE n.peers[k].E amt).out] [], [blk B [J Z n2.id, J Z n2.has, J Z n2.spent, J Z n2.earned, V n2.sa n2.seen.length n2.sc, V n2.pa n2.peers.length n2.pc]], [], cond l15 [blk (ptB u14) [V (slA u117) (pkE n.peers[k].E amt).out.length (slC u117), J Z (pkE n.peers[k].E amt).sent, J Z (pkE n.peers[k].E amt).got]] (cond l13 [blk (ptB u14) [V none 0 0, J Z 0, J Z 0]] []), cond l16 [blk (ptB u15) [J Z (pkP n.peers[k].E amt).seq, J Z (pkP n.peers[k].E amt).amt]] (cond l14 [blk (ptB u15) [J Z 0, J Z 0]] [])] x
 q117 : l8 = true → u117 = .tuple #[.agg #[V (slA u117) (pkE n.peers[k].E amt).out.length (slC u117), J Z (pkE n.peers[k].E amt).sent, J Z (pkE n.peers[k].E amt).got], .agg #[J Z (pkP n.peers[k].E amt).seq, J Z (pkP n.peers[k].E amt).amt], .bool true]
 q108 : l9 = true → u108 = .tuple #[.agg #[V (slA u117) (pkE n.peers[k].E amt).out.length (slC u117), J Z (pkE n.peers[k].E amt).sent, J Z (pkE n.peers[k].E amt).got], .agg #[J Z (pkP n.peers[k].E amt).seq, J Z (pkP n.peers[k].E amt).amt], .bool true]
 q118 : l10 = true → u118 = .agg #[V (slA u117) (pkE n.peers[k].E amt).out.length (slC u117), J Z (pkE n.peers[k].E amt).sent, J Z (pkE n.peers[k].E amt).got]
 q119 : l11 = true → u119 = .agg #[J Z (pkP n.peers[k].E amt).seq, J Z (pkP n.peers[k].E amt).amt]
 q120 : l12 = true → u120 = .bool true
 q16 : l17 = true → u16 = .bool true
 a14 : l13 = true → u14 = .pointer (some ⟨ptB u14, 0, none⟩)
 a15 : l14 = true → u15 = .pointer (some ⟨ptB u15, 0, none⟩)
 d9_8 : l9 = true → l8 = true
 d10_8 : l10 = true → l8 = true
 d15_8 : l15 = true → l8 = true
 d15_13 : l15 = true → l13 = true
 d16_14 : l16 = true → l14 = true
 d10_9 : l10 = true → l9 = true
 d15_10 : l15 = true → l10 = true
 p109 : l0 = true → u109 = .pointer (some ⟨w.heap.size, 5, none⟩)
 p110 : l1 = true → u110 = V (some ⟨b, off, none⟩) n.peers.length n.pc
 p111 : l2 = true → u111 = J Z ↑k
 p112 : l3 = true → u112 = .pointer (some ⟨b, off + k * 4, none⟩)
 p113 : l4 = true → u113 = .pointer (some ⟨b, off + k * 4 + 1, none⟩)
 p114 : l5 = true → u114 = .agg #[V n.peers[k].a n.peers[k].E.out.length n.peers[k].cap, J Z n.peers[k].E.sent, J Z n.peers[k].E.got]
 p115 : l6 = true → u115 = .pointer (some ⟨w.heap.size + 1, 3, none⟩)
 p116 : l7 = true → u116 = J Z amt
structure Gw (n n2 : Nd) (w : World) (B b off k : Nat) (hk : k < n.peers.length) (hk2 : k < n2.peers.length) (aid ato amt m_fr m_to m_kd m_seq m_amt : Int) (a5 : Option Addr) (c5 P8 P9 : Nat) (l0 l1 l2 l3 l4 l5 l6 l7 l8 l9 : Bool) (u5 u6 u136 u137 u138 u139 u140 u141 u142 : Value) (x : World) : Prop where
 pool : Pool [] w [[orow 2 snCells n2.sa n2.sc n2.seen], [orow 4 prCells n2.pa n2.pc (n2.peers.set k (⟨n2.peers[k].id, a5, c5, pkE n.peers[k].E amt⟩ : Pr))], endsL (n2.peers.set k (⟨n2.peers[k].id, a5, c5, pkE n.peers[k].E amt⟩ : Pr)), [blk w.heap.size [J Z n.id, J Z n.has, J Z n.spent, J Z n.earned, V n.sa n.seen.length n.sc, V n.pa n.peers.length n.pc]], [blk (w.heap.size + 1) [J Z 3, J Z aid, J Z ato, J Z amt, J Z m_fr, J Z m_to, J Z m_kd, J Z m_seq, J Z m_amt]], cond l7 [blk (w.heap.size + 1 + 1) [J Z n2.id, J Z (n2.has - amt), J Z n2.spent, J Z n2.earned, V n2.sa n2.seen.length n2.sc, V n2.pa n2.peers.length n2.pc]] [blk (w.heap.size + 1 + 1) [J Z 0, J Z 0, J Z 0, J Z 0, V none 0 0, V none 0 0]], [], [blk B [J Z n2.id, J Z (n2.has - amt), J Z n2.spent, J Z n2.earned, V n2.sa n2.seen.length n2.sc, V n2.pa n2.peers.length n2.pc]], cond l6 [blk (gOf (slA u142)) [J Z n.id, J Z ato, J Z 1, J Z (pkP n.peers[k].E amt).seq, J Z (pkP n.peers[k].E amt).amt]] [], [blk P8 [V a5 (pkE n.peers[k].E amt).out.length c5, J Z (pkE n.peers[k].E amt).sent, J Z (pkE n.peers[k].E amt).got]], [blk P9 [J Z (pkP n.peers[k].E amt).seq, J Z (pkP n.peers[k].E amt).amt]]] x
 q141 : l5 = true → u141 = .agg #[J Z n.id, J Z ato, J Z 1, J Z (pkP n.peers[k].E amt).seq, J Z (pkP n.peers[k].E amt).amt]
 q142 : l6 = true → u142 = V (some ⟨gOf (slA u142), 0, none⟩) 1 1
 q5 : l8 = true → u5 = u142
 q6 : l9 = true → u6 = J Z 0
 d8_6 : l8 = true → l6 = true
 p136 : l0 = true → u136 = .agg #[J Z n2.id, J Z (n2.has - amt), J Z n2.spent, J Z n2.earned, V n2.sa n2.seen.length n2.sc, V n2.pa n2.peers.length n2.pc]
 p137 : l1 = true → u137 = .agg #[J Z n.id, J Z n.has, J Z n.spent, J Z n.earned, V n.sa n.seen.length n.sc, V n.pa n.peers.length n.pc]
 p138 : l2 = true → u138 = .pointer (some ⟨w.heap.size + 1, 2, none⟩)
 p139 : l3 = true → u139 = J Z ato
 p140 : l4 = true → u140 = .agg #[J Z (pkP n.peers[k].E amt).seq, J Z (pkP n.peers[k].E amt).amt]
set_option maxHeartbeats 4000000 in
theorem give_ok (n : Nd) (aid ato amt m_fr m_to m_kd m_seq m_amt : Int) (w : World) (hs : SmN n) (hn0 : n.sa = none → n.sc = 0) (hp0 : ∀ p ∈ n.peers, p.a = none → p.cap = 0) (h : NodeAt w n) (hno : nodeB n.d = true) (hfo : actB n.id ⟨3, aid, ato, amt, ⟨m_fr, m_to, m_kd, m_seq, m_amt⟩⟩ = true) (k : Nat) (hk : k < n.peers.length) (hf : fi (n.peers.map Pr.id) ato = some k) (hq : ¬ n.has < amt) (hpk : pkOk n.peers[k].E amt = true) :
  Calls Try.prog 8 #[.agg #[J Z n.id, J Z n.has, J Z n.spent, J Z n.earned, V n.sa n.seen.length n.sc, V n.pa n.peers.length n.pc], .agg #[J Z 3, J Z aid, J Z ato, J Z amt, J Z m_fr, J Z m_to, J Z m_kd, J Z m_seq, J Z m_amt]] w fun e w' => ActedEnd [] (actM n.d (⟨3, aid, ato, amt, ⟨m_fr, m_to, m_kd, m_seq, m_amt⟩⟩ : Ac)) w e w' := by
 have HM : Hid (actM n.d (⟨3, aid, ato, amt, ⟨m_fr, m_to, m_kd, m_seq, m_amt⟩⟩ : Ac) = ((⟨n.id, n.has - amt, n.spent, n.earned, n.seen, (n.peers.map Pr.d).set k ⟨n.peers[k].id, pkE n.peers[k].E amt⟩⟩ : NdD), [(⟨n.id, ato, 1, (pkP n.peers[k].E amt).seq, (pkP n.peers[k].E amt).amt⟩ : Mg)], 0)) := hide (by
  unfold actM; rw [if_neg (by rw [hno]; simp), if_neg (show ¬ actB n.d.id _ = false by rw [show actB n.d.id _ = true from hfo]; simp)]
  show giveM n.d ato amt = _
  unfold giveM
  rw [show n.d.peers.map PD.id = n.peers.map Pr.id from ids_p _, hf]
  simp only [Nd.d, List.getElem?_map, List.getElem?_eq_getElem hk, Option.map_some, Pr.d]
  have hq2 : (n.has < amt) = False := eq_false hq
  simp [hq2, hpk])
 have HS : Hid _ := hide hs
 have HL : Hid _ := hide h
 have HO : Hid _ := hide hno
 have HP0 : Hid _ := hide hp0
 obtain ⟨W, hW⟩ : ∃ W, W = ((w.alloc (.cells #[J Z n.id, J Z n.has, J Z n.spent, J Z n.earned, V n.sa n.seen.length n.sc, V n.pa n.peers.length n.pc] 27)).alloc (.cells #[J Z 3, J Z aid, J Z ato, J Z amt, J Z m_fr, J Z m_to, J Z m_kd, J Z m_seq, J Z m_amt] 31)).alloc (.cells #[J Z 0, J Z 0, J Z 0, J Z 0, V none 0 0, V none 0 0] 27) := ⟨_, rfl⟩
 have s1 : (w.alloc (.cells #[J Z n.id, J Z n.has, J Z n.spent, J Z n.earned, V n.sa n.seen.length n.sc, V n.pa n.peers.length n.pc] 27)).heap.size = w.heap.size + 1 := by simp
 have s2 : ((w.alloc (.cells #[J Z n.id, J Z n.has, J Z n.spent, J Z n.earned, V n.sa n.seen.length n.sc, V n.pa n.peers.length n.pc] 27)).alloc (.cells #[J Z 3, J Z aid, J Z ato, J Z amt, J Z m_fr, J Z m_to, J Z m_kd, J Z m_seq, J Z m_amt] 31)).heap.size = w.heap.size + 1 + 1 := by simp
 have HP : Hid (Pool [] w [[], [], [], [blk w.heap.size [J Z n.id, J Z n.has, J Z n.spent, J Z n.earned, V n.sa n.seen.length n.sc, V n.pa n.peers.length n.pc]], [blk (w.heap.size + 1) [J Z 3, J Z aid, J Z ato, J Z amt, J Z m_fr, J Z m_to, J Z m_kd, J Z m_seq, J Z m_amt]], [blk (w.heap.size + 1 + 1) [J Z 0, J Z 0, J Z 0, J Z 0, V none 0 0, V none 0 0]], [], [], [], [], []] W) := hide (by
  rw [hW, ← s2, ← s1]
  exact (((Pool.start w [[], [], [], [], [], [], [], [], [], [], []] rfl).newBlk (i := 3) rfl [J Z n.id, J Z n.has, J Z n.spent, J Z n.earned, V n.sa n.seen.length n.sc, V n.pa n.peers.length n.pc] 27).newBlk (i := 4) rfl [J Z 3, J Z aid, J Z ato, J Z amt, J Z m_fr, J Z m_to, J Z m_kd, J Z m_seq, J Z m_amt] 31).newBlk (i := 5) rfl [J Z 0, J Z 0, J Z 0, J Z 0, V none 0 0, V none 0 0] 27)
 have HW : Hid (((w.alloc (.cells #[J Z n.id, J Z n.has, J Z n.spent, J Z n.earned, V n.sa n.seen.length n.sc, V n.pa n.peers.length n.pc] 27)).alloc (.cells #[J Z 3, J Z aid, J Z ato, J Z amt, J Z m_fr, J Z m_to, J Z m_kd, J Z m_seq, J Z m_amt] 31)).alloc (.cells #[J Z 0, J Z 0, J Z 0, J Z 0, V none 0 0, V none 0 0] 27) = W) := hide hW.symm
 have HF : Hid _ := hide hfo
 have HFI : Hid _ := hide hf
 clear hf
 obtain ⟨⟨⟨r1, r2⟩, r3, r4⟩, _⟩ := nodeB_in hno
 obtain ⟨a1, a2⟩ := actB_give (a := (⟨3, aid, ato, amt, ⟨m_fr, m_to, m_kd, m_seq, m_amt⟩⟩ : Ac)) rfl hfo
 simp only at a1 a2
 clear hW s1 s2 hs h hno hp0 hfo
 go_enter Try.func8, Try.ntmps8
 go_wp2_with fail
 rw [HW.out]
 refine (specNodeOk_any _ _ _ _ _ n.seen _ _ n.peers _ W HS.out.1 HS.out.2.1 HS.out.2.2 (HL.out.seen.below HP.out.below) (HL.out.peers.below HP.out.below)).mono ?_
 rw [show nodeB ⟨n.id, n.has, n.spent, n.earned, n.seen, n.peers.map Pr.d⟩ = true from HO.out]
 rintro e w1 ⟨rfl, hb1⟩
 have HP1 : Hid (Pool [] w [[], [], [], [blk w.heap.size [J Z n.id, J Z n.has, J Z n.spent, J Z n.earned, V n.sa n.seen.length n.sc, V n.pa n.peers.length n.pc]], [blk (w.heap.size + 1) [J Z 3, J Z aid, J Z ato, J Z amt, J Z m_fr, J Z m_to, J Z m_kd, J Z m_seq, J Z m_amt]], [blk (w.heap.size + 1 + 1) [J Z 0, J Z 0, J Z 0, J Z 0, V none 0 0, V none 0 0]], [], [], [], [], []] w1) := hide (HP.out.keep hb1)
 clear hb1 HP HW
 have nc0 : w1.cell? ⟨w.heap.size, 0, none⟩ = some (J Z n.id) := (HP1.out.blkAt (i := 3) rfl).c 0 _ rfl
 have nc1 : w1.cell? ⟨w.heap.size, 1, none⟩ = some (J Z n.has) := (HP1.out.blkAt (i := 3) rfl).c 1 _ rfl
 have nc2 : w1.cell? ⟨w.heap.size, 2, none⟩ = some (J Z n.spent) := (HP1.out.blkAt (i := 3) rfl).c 2 _ rfl
 have nc3 : w1.cell? ⟨w.heap.size, 3, none⟩ = some (J Z n.earned) := (HP1.out.blkAt (i := 3) rfl).c 3 _ rfl
 have nc4 : w1.cell? ⟨w.heap.size, 4, none⟩ = some (V n.sa n.seen.length n.sc) := (HP1.out.blkAt (i := 3) rfl).c 4 _ rfl
 have nc5 : w1.cell? ⟨w.heap.size, 5, none⟩ = some (V n.pa n.peers.length n.pc) := (HP1.out.blkAt (i := 3) rfl).c 5 _ rfl
 go_wp2_with fail
 refine (l6Copy_any n w1 HS.out hn0 HP0.out (HL.out.below HP1.out.below)).mono ?_
 rintro e w2 ⟨n2, rfl, hd, hnear, hP2⟩
 have HD : Hid _ := hide hd
 have HN2 : Hid _ := hide hnear
 have hB : w2.heap.size = w2.heap.size := rfl
 have HP3 := (HP1.out.call (i := 0) (rs := []) (rs' := ndL n2) rfl hP2).newBlk (i := 7) rfl [J Z n2.id, J Z n2.has, J Z n2.spent, J Z n2.earned, V n2.sa n2.seen.length n2.sc, V n2.pa n2.peers.length n2.pc] 27
 obtain ⟨B, hB⟩ : ∃ B, B = w2.heap.size := ⟨_, rfl⟩
 obtain ⟨w3, hw3⟩ : ∃ w3, w3 = w2.alloc (.cells #[J Z n2.id, J Z n2.has, J Z n2.spent, J Z n2.earned, V n2.sa n2.seen.length n2.sc, V n2.pa n2.peers.length n2.pc] 27) := ⟨_, rfl⟩
 have HP4 : Hid (Pool [] w [ndL n2, [], [], [blk w.heap.size [J Z n.id, J Z n.has, J Z n.spent, J Z n.earned, V n.sa n.seen.length n.sc, V n.pa n.peers.length n.pc]], [blk (w.heap.size + 1) [J Z 3, J Z aid, J Z ato, J Z amt, J Z m_fr, J Z m_to, J Z m_kd, J Z m_seq, J Z m_amt]], [blk (w.heap.size + 1 + 1) [J Z 0, J Z 0, J Z 0, J Z 0, V none 0 0, V none 0 0]], [], [blk B [J Z n2.id, J Z n2.has, J Z n2.spent, J Z n2.earned, V n2.sa n2.seen.length n2.sc, V n2.pa n2.peers.length n2.pc]], [], [], []] w3) := hide (by rw [hB, hw3]; exact HP3)
 have HW3 : Hid _ := hide hw3
 have HBB : Hid _ := hide hB
 have nc0 : (w2.alloc (.cells #[J Z n2.id, J Z n2.has, J Z n2.spent, J Z n2.earned, V n2.sa n2.seen.length n2.sc, V n2.pa n2.peers.length n2.pc] 27)).cell? ⟨w.heap.size, 0, none⟩ = some (J Z n.id) := (HP3.blkAt (i := 3) rfl).c 0 _ rfl
 have nc1 : (w2.alloc (.cells #[J Z n2.id, J Z n2.has, J Z n2.spent, J Z n2.earned, V n2.sa n2.seen.length n2.sc, V n2.pa n2.peers.length n2.pc] 27)).cell? ⟨w.heap.size, 1, none⟩ = some (J Z n.has) := (HP3.blkAt (i := 3) rfl).c 1 _ rfl
 have nc2 : (w2.alloc (.cells #[J Z n2.id, J Z n2.has, J Z n2.spent, J Z n2.earned, V n2.sa n2.seen.length n2.sc, V n2.pa n2.peers.length n2.pc] 27)).cell? ⟨w.heap.size, 2, none⟩ = some (J Z n.spent) := (HP3.blkAt (i := 3) rfl).c 2 _ rfl
 have nc3 : (w2.alloc (.cells #[J Z n2.id, J Z n2.has, J Z n2.spent, J Z n2.earned, V n2.sa n2.seen.length n2.sc, V n2.pa n2.peers.length n2.pc] 27)).cell? ⟨w.heap.size, 3, none⟩ = some (J Z n.earned) := (HP3.blkAt (i := 3) rfl).c 3 _ rfl
 have nc4 : (w2.alloc (.cells #[J Z n2.id, J Z n2.has, J Z n2.spent, J Z n2.earned, V n2.sa n2.seen.length n2.sc, V n2.pa n2.peers.length n2.pc] 27)).cell? ⟨w.heap.size, 4, none⟩ = some (V n.sa n.seen.length n.sc) := (HP3.blkAt (i := 3) rfl).c 4 _ rfl
 have nc5 : (w2.alloc (.cells #[J Z n2.id, J Z n2.has, J Z n2.spent, J Z n2.earned, V n2.sa n2.seen.length n2.sc, V n2.pa n2.peers.length n2.pc] 27)).cell? ⟨w.heap.size, 5, none⟩ = some (V n.pa n.peers.length n.pc) := (HP3.blkAt (i := 3) rfl).c 5 _ rfl
 have na0 : (w2.alloc (.cells #[J Z n2.id, J Z n2.has, J Z n2.spent, J Z n2.earned, V n2.sa n2.seen.length n2.sc, V n2.pa n2.peers.length n2.pc] 27)).cell? ⟨w.heap.size + 1, 0, none⟩ = some (J Z 3) := (HP3.blkAt (i := 4) rfl).c 0 _ rfl
 have na1 : (w2.alloc (.cells #[J Z n2.id, J Z n2.has, J Z n2.spent, J Z n2.earned, V n2.sa n2.seen.length n2.sc, V n2.pa n2.peers.length n2.pc] 27)).cell? ⟨w.heap.size + 1, 1, none⟩ = some (J Z aid) := (HP3.blkAt (i := 4) rfl).c 1 _ rfl
 have na2 : (w2.alloc (.cells #[J Z n2.id, J Z n2.has, J Z n2.spent, J Z n2.earned, V n2.sa n2.seen.length n2.sc, V n2.pa n2.peers.length n2.pc] 27)).cell? ⟨w.heap.size + 1, 2, none⟩ = some (J Z ato) := (HP3.blkAt (i := 4) rfl).c 2 _ rfl
 have na3 : (w2.alloc (.cells #[J Z n2.id, J Z n2.has, J Z n2.spent, J Z n2.earned, V n2.sa n2.seen.length n2.sc, V n2.pa n2.peers.length n2.pc] 27)).cell? ⟨w.heap.size + 1, 3, none⟩ = some (J Z amt) := (HP3.blkAt (i := 4) rfl).c 3 _ rfl
 have na4 : (w2.alloc (.cells #[J Z n2.id, J Z n2.has, J Z n2.spent, J Z n2.earned, V n2.sa n2.seen.length n2.sc, V n2.pa n2.peers.length n2.pc] 27)).cell? ⟨w.heap.size + 1, 4, none⟩ = some (J Z m_fr) := (HP3.blkAt (i := 4) rfl).c 4 _ rfl
 have na5 : (w2.alloc (.cells #[J Z n2.id, J Z n2.has, J Z n2.spent, J Z n2.earned, V n2.sa n2.seen.length n2.sc, V n2.pa n2.peers.length n2.pc] 27)).cell? ⟨w.heap.size + 1, 5, none⟩ = some (J Z m_to) := (HP3.blkAt (i := 4) rfl).c 5 _ rfl
 have na6 : (w2.alloc (.cells #[J Z n2.id, J Z n2.has, J Z n2.spent, J Z n2.earned, V n2.sa n2.seen.length n2.sc, V n2.pa n2.peers.length n2.pc] 27)).cell? ⟨w.heap.size + 1, 6, none⟩ = some (J Z m_kd) := (HP3.blkAt (i := 4) rfl).c 6 _ rfl
 have na7 : (w2.alloc (.cells #[J Z n2.id, J Z n2.has, J Z n2.spent, J Z n2.earned, V n2.sa n2.seen.length n2.sc, V n2.pa n2.peers.length n2.pc] 27)).cell? ⟨w.heap.size + 1, 7, none⟩ = some (J Z m_seq) := (HP3.blkAt (i := 4) rfl).c 7 _ rfl
 have na8 : (w2.alloc (.cells #[J Z n2.id, J Z n2.has, J Z n2.spent, J Z n2.earned, V n2.sa n2.seen.length n2.sc, V n2.pa n2.peers.length n2.pc] 27)).cell? ⟨w.heap.size + 1, 8, none⟩ = some (J Z m_amt) := (HP3.blkAt (i := 4) rfl).c 8 _ rfl
 clear hw3 hB HP3 hP2 hd hnear
 unfold ndV
 go_wp2_with fail
 rw [← HBB.out, ← HW3.out]
 refine (l6Form_any _ _ _ _ _ _ _ _ _ _ 3 aid ato amt m_fr m_to m_kd m_seq m_amt w3).mono ?_
 rw [show actB n.id (⟨3, aid, ato, amt, ⟨m_fr, m_to, m_kd, m_seq, m_amt⟩⟩ : Ac) = true from HF.out]
 rintro e w4 ⟨rfl, hb4⟩
 have HP5 : Hid (Pool [] w [ndL n2, [], [], [blk w.heap.size [J Z n.id, J Z n.has, J Z n.spent, J Z n.earned, V n.sa n.seen.length n.sc, V n.pa n.peers.length n.pc]], [blk (w.heap.size + 1) [J Z 3, J Z aid, J Z ato, J Z amt, J Z m_fr, J Z m_to, J Z m_kd, J Z m_seq, J Z m_amt]], [blk (w.heap.size + 1 + 1) [J Z 0, J Z 0, J Z 0, J Z 0, V none 0 0, V none 0 0]], [], [blk B [J Z n2.id, J Z n2.has, J Z n2.spent, J Z n2.earned, V n2.sa n2.seen.length n2.sc, V n2.pa n2.peers.length n2.pc]], [], [], []] w4) := hide (HP4.out.keep hb4)
 clear hb4 HP4 HW3 HBB HP1
 have nc0 : w4.cell? ⟨w.heap.size, 0, none⟩ = some (J Z n.id) := (HP5.out.blkAt (i := 3) rfl).c 0 _ rfl
 have nc1 : w4.cell? ⟨w.heap.size, 1, none⟩ = some (J Z n.has) := (HP5.out.blkAt (i := 3) rfl).c 1 _ rfl
 have nc2 : w4.cell? ⟨w.heap.size, 2, none⟩ = some (J Z n.spent) := (HP5.out.blkAt (i := 3) rfl).c 2 _ rfl
 have nc3 : w4.cell? ⟨w.heap.size, 3, none⟩ = some (J Z n.earned) := (HP5.out.blkAt (i := 3) rfl).c 3 _ rfl
 have nc4 : w4.cell? ⟨w.heap.size, 4, none⟩ = some (V n.sa n.seen.length n.sc) := (HP5.out.blkAt (i := 3) rfl).c 4 _ rfl
 have nc5 : w4.cell? ⟨w.heap.size, 5, none⟩ = some (V n.pa n.peers.length n.pc) := (HP5.out.blkAt (i := 3) rfl).c 5 _ rfl
 have na0 : w4.cell? ⟨w.heap.size + 1, 0, none⟩ = some (J Z 3) := (HP5.out.blkAt (i := 4) rfl).c 0 _ rfl
 have na1 : w4.cell? ⟨w.heap.size + 1, 1, none⟩ = some (J Z aid) := (HP5.out.blkAt (i := 4) rfl).c 1 _ rfl
 have na2 : w4.cell? ⟨w.heap.size + 1, 2, none⟩ = some (J Z ato) := (HP5.out.blkAt (i := 4) rfl).c 2 _ rfl
 have na3 : w4.cell? ⟨w.heap.size + 1, 3, none⟩ = some (J Z amt) := (HP5.out.blkAt (i := 4) rfl).c 3 _ rfl
 have na4 : w4.cell? ⟨w.heap.size + 1, 4, none⟩ = some (J Z m_fr) := (HP5.out.blkAt (i := 4) rfl).c 4 _ rfl
 have na5 : w4.cell? ⟨w.heap.size + 1, 5, none⟩ = some (J Z m_to) := (HP5.out.blkAt (i := 4) rfl).c 5 _ rfl
 have na6 : w4.cell? ⟨w.heap.size + 1, 6, none⟩ = some (J Z m_kd) := (HP5.out.blkAt (i := 4) rfl).c 6 _ rfl
 have na7 : w4.cell? ⟨w.heap.size + 1, 7, none⟩ = some (J Z m_seq) := (HP5.out.blkAt (i := 4) rfl).c 7 _ rfl
 have na8 : w4.cell? ⟨w.heap.size + 1, 8, none⟩ = some (J Z m_amt) := (HP5.out.blkAt (i := 4) rfl).c 8 _ rfl
 go_wp2_with fail
 refine (l6Peer_any n ato w4 HS.out.2.1 (HL.out.peers.row.below HP5.out.below)).mono ?_
 rw [HFI.out]
 rintro e w5 ⟨rfl, hb5⟩
 have HP6 : Hid (Pool [] w [[orow 2 snCells n2.sa n2.sc n2.seen], [orow 4 prCells n2.pa n2.pc n2.peers], endsL n2.peers, [blk w.heap.size [J Z n.id, J Z n.has, J Z n.spent, J Z n.earned, V n.sa n.seen.length n.sc, V n.pa n.peers.length n.pc]], [blk (w.heap.size + 1) [J Z 3, J Z aid, J Z ato, J Z amt, J Z m_fr, J Z m_to, J Z m_kd, J Z m_seq, J Z m_amt]], [blk (w.heap.size + 1 + 1) [J Z 0, J Z 0, J Z 0, J Z 0, V none 0 0, V none 0 0]], [], [blk B [J Z n2.id, J Z n2.has, J Z n2.spent, J Z n2.earned, V n2.sa n2.seen.length n2.sc, V n2.pa n2.peers.length n2.pc]], [], [], []] w5) := hide ((HP5.out.keep hb5).cast (by simp [ndL]))
 clear hb5 HP5
 unfold ixV
 obtain ⟨b, off, hpa, _⟩ := pr_row HL.out.peers.row k hk
 have HPA : Hid (n.pa = some ⟨b, off, none⟩) := hide hpa
 clear hpa
 have nc0 : w5.cell? ⟨w.heap.size, 0, none⟩ = some (J Z n.id) := (HP6.out.blkAt (i := 3) rfl).c 0 _ rfl
 have nc1 : w5.cell? ⟨w.heap.size, 1, none⟩ = some (J Z n.has) := (HP6.out.blkAt (i := 3) rfl).c 1 _ rfl
 have nc2 : w5.cell? ⟨w.heap.size, 2, none⟩ = some (J Z n.spent) := (HP6.out.blkAt (i := 3) rfl).c 2 _ rfl
 have nc3 : w5.cell? ⟨w.heap.size, 3, none⟩ = some (J Z n.earned) := (HP6.out.blkAt (i := 3) rfl).c 3 _ rfl
 have nc4 : w5.cell? ⟨w.heap.size, 4, none⟩ = some (V n.sa n.seen.length n.sc) := (HP6.out.blkAt (i := 3) rfl).c 4 _ rfl
 have nc5 : w5.cell? ⟨w.heap.size, 5, none⟩ = some (V n.pa n.peers.length n.pc) := (HP6.out.blkAt (i := 3) rfl).c 5 _ rfl
 have na0 : w5.cell? ⟨w.heap.size + 1, 0, none⟩ = some (J Z 3) := (HP6.out.blkAt (i := 4) rfl).c 0 _ rfl
 have na1 : w5.cell? ⟨w.heap.size + 1, 1, none⟩ = some (J Z aid) := (HP6.out.blkAt (i := 4) rfl).c 1 _ rfl
 have na2 : w5.cell? ⟨w.heap.size + 1, 2, none⟩ = some (J Z ato) := (HP6.out.blkAt (i := 4) rfl).c 2 _ rfl
 have na3 : w5.cell? ⟨w.heap.size + 1, 3, none⟩ = some (J Z amt) := (HP6.out.blkAt (i := 4) rfl).c 3 _ rfl
 have na4 : w5.cell? ⟨w.heap.size + 1, 4, none⟩ = some (J Z m_fr) := (HP6.out.blkAt (i := 4) rfl).c 4 _ rfl
 have na5 : w5.cell? ⟨w.heap.size + 1, 5, none⟩ = some (J Z m_to) := (HP6.out.blkAt (i := 4) rfl).c 5 _ rfl
 have na6 : w5.cell? ⟨w.heap.size + 1, 6, none⟩ = some (J Z m_kd) := (HP6.out.blkAt (i := 4) rfl).c 6 _ rfl
 have na7 : w5.cell? ⟨w.heap.size + 1, 7, none⟩ = some (J Z m_seq) := (HP6.out.blkAt (i := 4) rfl).c 7 _ rfl
 have na8 : w5.cell? ⟨w.heap.size + 1, 8, none⟩ = some (J Z m_amt) := (HP6.out.blkAt (i := 4) rfl).c 8 _ rfl
 go_wp2_with fail
 rename_i K5 hK5
 refine wp_region_inv (by kernel_rfl) (fun L act x => ∃ l0 l1 l2 l3 l4 l5 l6 l7 l8 l9 l10 l11 l12 l13 l14 l15 l16 l17 : Bool, ∃ u14 u15 u16 u108 u109 u110 u111 u112 u113 u114 u115 u116 u117 u118 u119 u120 : Value, L = #[l0, l1, l2, l3, l4, l5, l6, l7, l8, l9, l10, l11, l12, l13, l14, l15, l16, l17] ∧ act = { tmps := #[Value.agg #[J Z n.id, J Z n.has, J Z n.spent, J Z n.earned, V n.sa n.seen.length n.sc, V n.pa n.peers.length n.pc], Value.agg #[J Z 3, J Z aid, J Z ato, J Z amt, J Z m_fr, J Z m_to, J Z m_kd, J Z m_seq, J Z m_amt], Value.pointer (some { block := w.heap.size, off := 0 }), Value.pointer (some { block := w.heap.size + 1, off := 0 }), Value.pointer (some { block := w.heap.size + 1 + 1, off := 0 }), V none 0 0, J Z 0, Value.pointer (some { block := B, off := 0 }), U, U, U, U, U, J Z ↑k, u14, u15, u16, Value.agg #[J Z n.id, J Z n.has, J Z n.spent, J Z n.earned, V n.sa n.seen.length n.sc, V n.pa n.peers.length n.pc], Value.bool true, Value.bool false, U, Value.agg #[J Z n.id, J Z n.has, J Z n.spent, J Z n.earned, V n.sa n.seen.length n.sc, V n.pa n.peers.length n.pc], Value.agg #[J Z n2.id, J Z n2.has, J Z n2.spent, J Z n2.earned, V n2.sa n2.seen.length n2.sc, V n2.pa n2.peers.length n2.pc], Value.agg #[J Z n.id, J Z n.has, J Z n.spent, J Z n.earned, V n.sa n.seen.length n.sc, V n.pa n.peers.length n.pc], Value.agg #[J Z 3, J Z aid, J Z ato, J Z amt, J Z m_fr, J Z m_to, J Z m_kd, J Z m_seq, J Z m_amt], Value.bool true, Value.bool false, U, Value.pointer (some { block := w.heap.size + 1, off := 0 }), J Z 3, Value.bool false, Value.bool false, Value.bool false, U, U, U, U, U, U, U, U, Value.bool false, Value.bool false, U, U, U, U, U, U, U, Value.bool false, Value.bool false, U, U, U, U, U, U, U, U, U, U, U, U, U, U, U, U, U, U, U, U, U, U, U, U, U, U, U, U, U, U, U, U, U, U, U, U, U, U, U, U, U, U, U, Value.agg #[J Z n.id, J Z n.has, J Z n.spent, J Z n.earned, V n.sa n.seen.length n.sc, V n.pa n.peers.length n.pc], Value.pointer (some { block := w.heap.size + 1, off := 2 }), J Z ato, J Z ↑k, J Z ↑k, Value.bool (decide (↑k < 0)), U, Value.pointer (some { block := w.heap.size + 1, off := 3 }), J Z amt, Value.pointer (some { block := w.heap.size, off := 1 }), J Z n.has, Value.bool (decide (n.has < amt)), U, u108, u109, u110, u111, u112, u113, u114, u115, u116, u117, u118, u119, u120, U, U, U, U, U, U, U, U, U, U, U, U, U, U, U, U, U, U, U, U, U, U], defers := [] } ∧ GvY n n2 w B b off k hk aid ato amt m_fr m_to m_kd m_seq m_amt l0 l1 l2 l3 l4 l5 l6 l7 l8 l9 l10 l11 l12 l13 l14 l15 l16 l17 u14 u15 u16 u108 u109 u110 u111 u112 u113 u114 u115 u116 u117 u118 u119 u120 x) ?_ ?_ ?_
 rotate_left 2
 ·exact ⟨false, false, false, false, false, false, false, false, false, false, false, false, false, false, false, false, false, false, U, U, U, U, U, U, U, U, U, U, U, U, U, U, U, U, rfl, rfl, ⟨HP6.out.drew, nofun, nofun, nofun, nofun, nofun, nofun, nofun, nofun, nofun, nofun, nofun, nofun, nofun, nofun, nofun, nofun, nofun, nofun, nofun, nofun, nofun, nofun, nofun⟩⟩
 ·rintro L act x i ⟨l0, l1, l2, l3, l4, l5, l6, l7, l8, l9, l10, l11, l12, l13, l14, l15, l16, l17, u14, u15, u16, u108, u109, u110, u111, u112, u113, u114, u115, u116, u117, u118, u119, u120, rfl, rfl, h⟩ hi K hK
  have hi15 : i < 18 := by
   obtain ⟨_, o, ho, _⟩ := mem_ready.1 hi
   exact (Array.getElem?_eq_some_iff.1 ho).1
  have hl := (mem_ready.1 hi).1
  obtain rfl | rfl | rfl | rfl | rfl | rfl | rfl | rfl | rfl | rfl | rfl | rfl | rfl | rfl | rfl | rfl | rfl | rfl := (by omega : i = 0 ∨ i = 1 ∨ i = 2 ∨ i = 3 ∨ i = 4 ∨ i = 5 ∨ i = 6 ∨ i = 7 ∨ i = 8 ∨ i = 9 ∨ i = 10 ∨ i = 11 ∨ i = 12 ∨ i = 13 ∨ i = 14 ∨ i = 15 ∨ i = 16 ∨ i = 17)
  ·have e : l0 = false := hl
   subst e
   refine wpOp_run (v := .pointer (some ⟨w.heap.size, 5, none⟩)) (w' := x) (by rfl) (by rfl) ?_ (hK _ _ ⟨true, l1, l2, l3, l4, l5, l6, l7, l8, l9, l10, l11, l12, l13, l14, l15, l16, l17, u14, u15, u16, u108, (.pointer (some ⟨w.heap.size, 5, none⟩)), u110, u111, u112, u113, u114, u115, u116, u117, u118, u119, u120, rfl, rfl, { h with p109 := fun _ => rfl }⟩)
   go_simp
  ·have e : l1 = false := hl
   subst e
   have d0 : l0 = true := ready_on hi 0 (by kernel_rfl)
   subst d0
   have c5_ : x.cell? ⟨w.heap.size, 5, none⟩ = some (V (some ⟨b, off, none⟩) n.peers.length n.pc) := by rw [← HPA.out]; exact (h.pool.blkAt (i := 3) rfl).c 5 _ rfl
   refine wpOp_run (v := V (some ⟨b, off, none⟩) n.peers.length n.pc) (w' := x) (by rfl) (by rfl) ?_ (hK _ _ ⟨true, true, l2, l3, l4, l5, l6, l7, l8, l9, l10, l11, l12, l13, l14, l15, l16, l17, u14, u15, u16, u108, u109, (V (some ⟨b, off, none⟩) n.peers.length n.pc), u111, u112, u113, u114, u115, u116, u117, u118, u119, u120, rfl, rfl, { h with p110 := fun _ => rfl }⟩)
   rw [h.p109 rfl]
   go_simp
  ·have e : l2 = false := hl
   subst e
   refine wpOp_run (v := J Z ↑k) (w' := x) (by rfl) (by rfl) ?_ (hK _ _ ⟨l0, l1, true, l3, l4, l5, l6, l7, l8, l9, l10, l11, l12, l13, l14, l15, l16, l17, u14, u15, u16, u108, u109, u110, (J Z ↑k), u112, u113, u114, u115, u116, u117, u118, u119, u120, rfl, rfl, { h with p111 := fun _ => rfl }⟩)
   go_simp
  ·have e : l3 = false := hl
   subst e
   have d1 : l1 = true := ready_on hi 1 (by kernel_rfl)
   subst d1
   have d2 : l2 = true := ready_on hi 2 (by kernel_rfl)
   subst d2
   refine wpOp_run (v := .pointer (some ⟨b, off + k * 4, none⟩)) (w' := x) (by rfl) (by rfl) ?_ (hK _ _ ⟨l0, true, true, true, l4, l5, l6, l7, l8, l9, l10, l11, l12, l13, l14, l15, l16, l17, u14, u15, u16, u108, u109, u110, u111, (.pointer (some ⟨b, off + k * 4, none⟩)), u113, u114, u115, u116, u117, u118, u119, u120, rfl, rfl, { h with p112 := fun _ => rfl }⟩)
   rw [h.p110 rfl, h.p111 rfl]
   go_simp
  ·have e : l4 = false := hl
   subst e
   have d3 : l3 = true := ready_on hi 3 (by kernel_rfl)
   subst d3
   refine wpOp_run (v := .pointer (some ⟨b, off + k * 4 + 1, none⟩)) (w' := x) (by rfl) (by rfl) ?_ (hK _ _ ⟨l0, l1, l2, true, true, l5, l6, l7, l8, l9, l10, l11, l12, l13, l14, l15, l16, l17, u14, u15, u16, u108, u109, u110, u111, u112, (.pointer (some ⟨b, off + k * 4 + 1, none⟩)), u114, u115, u116, u117, u118, u119, u120, rfl, rfl, { h with p113 := fun _ => rfl }⟩)
   rw [h.p112 rfl]
   go_simp
  ·have e : l5 = false := hl
   subst e
   have d4 : l4 = true := ready_on hi 4 (by kernel_rfl)
   subst d4
   obtain ⟨c0_, c1_, c2_, c3_⟩ := pr_at HL.out.peers.row h.pool.below HPA.out k hk
   refine wpOp_run (v := .agg #[V n.peers[k].a n.peers[k].E.out.length n.peers[k].cap, J Z n.peers[k].E.sent, J Z n.peers[k].E.got]) (w' := x) (by rfl) (by rfl) ?_ (hK _ _ ⟨l0, l1, l2, l3, true, true, l6, l7, l8, l9, l10, l11, l12, l13, l14, l15, l16, l17, u14, u15, u16, u108, u109, u110, u111, u112, u113, (.agg #[V n.peers[k].a n.peers[k].E.out.length n.peers[k].cap, J Z n.peers[k].E.sent, J Z n.peers[k].E.got]), u115, u116, u117, u118, u119, u120, rfl, rfl, { h with p114 := fun _ => rfl }⟩)
   rw [h.p113 rfl]
   go_simp
  ·have e : l6 = false := hl
   subst e
   refine wpOp_run (v := .pointer (some ⟨w.heap.size + 1, 3, none⟩)) (w' := x) (by rfl) (by rfl) ?_ (hK _ _ ⟨l0, l1, l2, l3, l4, l5, true, l7, l8, l9, l10, l11, l12, l13, l14, l15, l16, l17, u14, u15, u16, u108, u109, u110, u111, u112, u113, u114, (.pointer (some ⟨w.heap.size + 1, 3, none⟩)), u116, u117, u118, u119, u120, rfl, rfl, { h with p115 := fun _ => rfl }⟩)
   go_simp
  ·have e : l7 = false := hl
   subst e
   have d6 : l6 = true := ready_on hi 6 (by kernel_rfl)
   subst d6
   have c3_ : x.cell? ⟨w.heap.size + 1, 3, none⟩ = some (J Z amt) := (h.pool.blkAt (i := 4) rfl).c 3 _ rfl
   refine wpOp_run (v := J Z amt) (w' := x) (by rfl) (by rfl) ?_ (hK _ _ ⟨l0, l1, l2, l3, l4, l5, true, true, l8, l9, l10, l11, l12, l13, l14, l15, l16, l17, u14, u15, u16, u108, u109, u110, u111, u112, u113, u114, u115, (J Z amt), u117, u118, u119, u120, rfl, rfl, { h with p116 := fun _ => rfl }⟩)
   rw [h.p115 rfl]
   go_simp
  ·have e : l8 = false := hl
   subst e
   have d5 : l5 = true := ready_on hi 5 (by kernel_rfl)
   subst d5
   have d7 : l7 = true := ready_on hi 7 (by kernel_rfl)
   subst d7
   have z9 : l9 = false := by
    cases hz : l9
    ·rfl
    ·exact absurd (h.d9_8 hz) (by simp)
   subst z9
   have z10 : l10 = false := by
    cases hz : l10
    ·rfl
    ·exact absurd (h.d10_8 hz) (by simp)
   subst z10
   have z15 : l15 = false := by
    cases hz : l15
    ·rfl
    ·exact absurd (h.d15_8 hz) (by simp)
   subst z15
   refine wpOp_call (by rfl) (by rfl) ?_ (specPacked_pool n.peers[k].a n.peers[k].E.out n.peers[k].cap n.peers[k].E.sent n.peers[k].E.got amt x (HS.out.2.2 _ (List.getElem_mem hk)) (HP0.out _ (List.getElem_mem hk)) ((HL.out.peers.ends _ (List.getElem_mem hk)).below h.pool.below)) ?_
   ·rw [h.p114 rfl, h.p116 rfl]; go_simp
   ·rintro e w' ⟨a5, c5, rfl, hb5, st5, hi5⟩
    exact ⟨_, rfl, hK _ _ ⟨l0, l1, l2, l3, l4, true, l6, true, true, false, false, l11, l12, l13, l14, false, l16, l17, u14, u15, u16, u108, u109, u110, u111, u112, u113, u114, u115, u116, (.tuple #[.agg #[V a5 (pkE n.peers[k].E amt).out.length c5, J Z (pkE n.peers[k].E amt).sent, J Z (pkE n.peers[k].E amt).got], .agg #[J Z (pkP n.peers[k].E amt).seq, J Z (pkP n.peers[k].E amt).amt], .bool (pkOk n.peers[k].E amt)]), u118, u119, u120, rfl, rfl, { h with q117 := (fun _ => by rw [show pkOk n.peers[k].E amt = true from hpk]; rfl), q108 := (fun q => by cases q), q118 := (fun q => by cases q), pool := (h.pool.new (i := 6) rfl hb5 st5 hi5), d9_8 := fun _ => rfl, d10_8 := fun _ => rfl, d15_8 := fun _ => rfl }⟩⟩
  ·have e : l9 = false := hl
   subst e
   have d8 : l8 = true := ready_on hi 8 (by kernel_rfl)
   subst d8
   have z10 : l10 = false := by
    cases hz : l10
    ·rfl
    ·exact absurd (h.d10_9 hz) (by simp)
   subst z10
   refine wpOp_run (v := .tuple #[.agg #[V (slA u117) (pkE n.peers[k].E amt).out.length (slC u117), J Z (pkE n.peers[k].E amt).sent, J Z (pkE n.peers[k].E amt).got], .agg #[J Z (pkP n.peers[k].E amt).seq, J Z (pkP n.peers[k].E amt).amt], .bool true]) (w' := x) (by rfl) (by rfl) ?_ (hK _ _ ⟨l0, l1, l2, l3, l4, l5, l6, l7, true, true, false, l11, l12, l13, l14, l15, l16, l17, u14, u15, u16, (.tuple #[.agg #[V (slA u117) (pkE n.peers[k].E amt).out.length (slC u117), J Z (pkE n.peers[k].E amt).sent, J Z (pkE n.peers[k].E amt).got], .agg #[J Z (pkP n.peers[k].E amt).seq, J Z (pkP n.peers[k].E amt).amt], .bool true]), u109, u110, u111, u112, u113, u114, u115, u116, u117, u118, u119, u120, rfl, rfl, { h with q108 := (fun _ => rfl), d9_8 := fun _ => rfl, d10_9 := fun _ => rfl }⟩)
   rw [← h.q117 rfl]
   go_simp
  ·have e : l10 = false := hl
   subst e
   have d9 : l9 = true := ready_on hi 9 (by kernel_rfl)
   subst d9
   have z15 : l15 = false := by
    cases hz : l15
    ·rfl
    ·exact absurd (h.d15_10 hz) (by simp)
   subst z15
   refine wpOp_run (v := .agg #[V (slA u117) (pkE n.peers[k].E amt).out.length (slC u117), J Z (pkE n.peers[k].E amt).sent, J Z (pkE n.peers[k].E amt).got]) (w' := x) (by rfl) (by rfl) ?_ (hK _ _ ⟨l0, l1, l2, l3, l4, l5, l6, l7, l8, true, true, l11, l12, l13, l14, false, l16, l17, u14, u15, u16, u108, u109, u110, u111, u112, u113, u114, u115, u116, u117, (.agg #[V (slA u117) (pkE n.peers[k].E amt).out.length (slC u117), J Z (pkE n.peers[k].E amt).sent, J Z (pkE n.peers[k].E amt).got]), u119, u120, rfl, rfl, { h with q118 := (fun _ => rfl), d10_8 := fun _ => h.d9_8 rfl, d10_9 := fun _ => rfl, d15_10 := fun _ => rfl }⟩)
   rw [h.q108 rfl]
   go_simp
  ·have e : l11 = false := hl
   subst e
   have d9 : l9 = true := ready_on hi 9 (by kernel_rfl)
   subst d9
   refine wpOp_run (v := .agg #[J Z (pkP n.peers[k].E amt).seq, J Z (pkP n.peers[k].E amt).amt]) (w' := x) (by rfl) (by rfl) ?_ (hK _ _ ⟨l0, l1, l2, l3, l4, l5, l6, l7, l8, true, l10, true, l12, l13, l14, l15, l16, l17, u14, u15, u16, u108, u109, u110, u111, u112, u113, u114, u115, u116, u117, u118, (.agg #[J Z (pkP n.peers[k].E amt).seq, J Z (pkP n.peers[k].E amt).amt]), u120, rfl, rfl, { h with q119 := (fun _ => rfl) }⟩)
   rw [h.q108 rfl]
   go_simp
  ·have e : l12 = false := hl
   subst e
   have d9 : l9 = true := ready_on hi 9 (by kernel_rfl)
   subst d9
   refine wpOp_run (v := .bool true) (w' := x) (by rfl) (by rfl) ?_ (hK _ _ ⟨l0, l1, l2, l3, l4, l5, l6, l7, l8, true, l10, l11, true, l13, l14, l15, l16, l17, u14, u15, u16, u108, u109, u110, u111, u112, u113, u114, u115, u116, u117, u118, u119, (.bool true), rfl, rfl, { h with q120 := (fun _ => rfl) }⟩)
   rw [h.q108 rfl]
   go_simp
  ·have e : l13 = false := hl
   subst e
   have z15 : l15 = false := by
    cases hz : l15
    ·rfl
    ·exact absurd (h.d15_13 hz) (by simp)
   subst z15
   refine wpOp_run (v := .pointer (some ⟨x.heap.size, 0, none⟩)) (w' := x.alloc (.cells #[V none 0 0, J Z 0, J Z 0] 39)) (by rfl) (by rfl) ?_ (hK _ _ ⟨l0, l1, l2, l3, l4, l5, l6, l7, l8, l9, l10, l11, l12, true, l14, false, l16, l17, (.pointer (some ⟨x.heap.size, 0, none⟩)), u15, u16, u108, u109, u110, u111, u112, u113, u114, u115, u116, u117, u118, u119, u120, rfl, rfl, { h with a14 := (fun _ => rfl), pool := (h.pool.newBlk (i := 9) rfl [V none 0 0, J Z 0, J Z 0] 39), d15_13 := fun _ => rfl }⟩)
   go_simp
  ·have e : l14 = false := hl
   subst e
   have z16 : l16 = false := by
    cases hz : l16
    ·rfl
    ·exact absurd (h.d16_14 hz) (by simp)
   subst z16
   refine wpOp_run (v := .pointer (some ⟨x.heap.size, 0, none⟩)) (w' := x.alloc (.cells #[J Z 0, J Z 0] 61)) (by rfl) (by rfl) ?_ (hK _ _ ⟨l0, l1, l2, l3, l4, l5, l6, l7, l8, l9, l10, l11, l12, l13, true, l15, false, l17, u14, (.pointer (some ⟨x.heap.size, 0, none⟩)), u16, u108, u109, u110, u111, u112, u113, u114, u115, u116, u117, u118, u119, u120, rfl, rfl, { h with a15 := (fun _ => rfl), pool := (h.pool.newBlk (i := 10) rfl [J Z 0, J Z 0] 61), d16_14 := fun _ => rfl }⟩)
   go_simp
  ·have e : l15 = false := hl
   subst e
   have d0 : l0 = true := ready_on hi 0 (by kernel_rfl)
   subst d0
   have d1 : l1 = true := ready_on hi 1 (by kernel_rfl)
   subst d1
   have d2 : l2 = true := ready_on hi 2 (by kernel_rfl)
   subst d2
   have d3 : l3 = true := ready_on hi 3 (by kernel_rfl)
   subst d3
   have d4 : l4 = true := ready_on hi 4 (by kernel_rfl)
   subst d4
   have d5 : l5 = true := ready_on hi 5 (by kernel_rfl)
   subst d5
   have d6 : l6 = true := ready_on hi 6 (by kernel_rfl)
   subst d6
   have d7 : l7 = true := ready_on hi 7 (by kernel_rfl)
   subst d7
   have d8 : l8 = true := ready_on hi 8 (by kernel_rfl)
   subst d8
   have d9 : l9 = true := ready_on hi 9 (by kernel_rfl)
   subst d9
   have d10 : l10 = true := ready_on hi 10 (by kernel_rfl)
   subst d10
   have d13 : l13 = true := ready_on hi 13 (by kernel_rfl)
   subst d13
   have d14 : l14 = true := ready_on hi 14 (by kernel_rfl)
   subst d14
   refine wpOp_skip (w' := (((x.setCell ⟨ptB u14, 0, none⟩ (V (slA u117) (pkE n.peers[k].E amt).out.length (slC u117))).setCell ⟨ptB u14, 1, none⟩ (J Z (pkE n.peers[k].E amt).sent)).setCell ⟨ptB u14, 2, none⟩ (J Z (pkE n.peers[k].E amt).got))) (by rfl) (by rfl) ?_ (hK _ _ ⟨true, true, true, true, true, true, true, true, true, true, true, l11, l12, true, true, true, l16, l17, u14, u15, u16, u108, u109, u110, u111, u112, u113, u114, u115, u116, u117, u118, u119, u120, rfl, rfl, { h with pool := ((((h.pool.setBlk (i := 9) rfl 0 (V (slA u117) (pkE n.peers[k].E amt).out.length (slC u117)) (by simp)).setBlk (i := 9) rfl 1 (J Z (pkE n.peers[k].E amt).sent) (by simp)).setBlk (i := 9) rfl 2 (J Z (pkE n.peers[k].E amt).got) (by simp))), d15_8 := fun _ => rfl, d15_13 := fun _ => rfl, d15_10 := fun _ => rfl }⟩)
   have A := h.pool.blkAt (i := 9) rfl
   have t0 := A.c 0 _ rfl
   have f0 := A.f 0
   have t1 := A.c 1 _ rfl
   have f1 := A.f 1
   have t2 := A.c 2 _ rfl
   have f2 := A.f 2
   obtain ⟨P8, hP8⟩ : ∃ P8, P8 = ptB u14 := ⟨_, rfl⟩
   have e8 := h.a14 rfl
   rw [h.q118 rfl]
   rw [← hP8] at t0 f0 t1 f1 t2 f2 e8 ⊢
   rw [e8]
   clear e8 hP8 A h
   go_simp
  ·have e : l16 = false := hl
   subst e
   have d0 : l0 = true := ready_on hi 0 (by kernel_rfl)
   subst d0
   have d1 : l1 = true := ready_on hi 1 (by kernel_rfl)
   subst d1
   have d2 : l2 = true := ready_on hi 2 (by kernel_rfl)
   subst d2
   have d3 : l3 = true := ready_on hi 3 (by kernel_rfl)
   subst d3
   have d4 : l4 = true := ready_on hi 4 (by kernel_rfl)
   subst d4
   have d5 : l5 = true := ready_on hi 5 (by kernel_rfl)
   subst d5
   have d6 : l6 = true := ready_on hi 6 (by kernel_rfl)
   subst d6
   have d7 : l7 = true := ready_on hi 7 (by kernel_rfl)
   subst d7
   have d8 : l8 = true := ready_on hi 8 (by kernel_rfl)
   subst d8
   have d9 : l9 = true := ready_on hi 9 (by kernel_rfl)
   subst d9
   have d10 : l10 = true := ready_on hi 10 (by kernel_rfl)
   subst d10
   have d11 : l11 = true := ready_on hi 11 (by kernel_rfl)
   subst d11
   have d13 : l13 = true := ready_on hi 13 (by kernel_rfl)
   subst d13
   have d14 : l14 = true := ready_on hi 14 (by kernel_rfl)
   subst d14
   have d15 : l15 = true := ready_on hi 15 (by kernel_rfl)
   subst d15
   refine wpOp_skip (w' := ((x.setCell ⟨ptB u15, 0, none⟩ (J Z (pkP n.peers[k].E amt).seq)).setCell ⟨ptB u15, 1, none⟩ (J Z (pkP n.peers[k].E amt).amt))) (by rfl) (by rfl) ?_ (hK _ _ ⟨true, true, true, true, true, true, true, true, true, true, true, true, l12, true, true, true, true, l17, u14, u15, u16, u108, u109, u110, u111, u112, u113, u114, u115, u116, u117, u118, u119, u120, rfl, rfl, { h with pool := (((h.pool.setBlk (i := 10) rfl 0 (J Z (pkP n.peers[k].E amt).seq) (by simp)).setBlk (i := 10) rfl 1 (J Z (pkP n.peers[k].E amt).amt) (by simp))), d16_14 := fun _ => rfl }⟩)
   have A := h.pool.blkAt (i := 10) rfl
   have t0 := A.c 0 _ rfl
   have f0 := A.f 0
   have t1 := A.c 1 _ rfl
   have f1 := A.f 1
   obtain ⟨P8, hP8⟩ : ∃ P8, P8 = ptB u15 := ⟨_, rfl⟩
   have e8 := h.a15 rfl
   rw [h.q119 rfl]
   rw [← hP8] at t0 f0 t1 f1 e8 ⊢
   rw [e8]
   clear e8 hP8 A h
   go_simp
  ·have e : l17 = false := hl
   subst e
   have d0 : l0 = true := ready_on hi 0 (by kernel_rfl)
   subst d0
   have d1 : l1 = true := ready_on hi 1 (by kernel_rfl)
   subst d1
   have d2 : l2 = true := ready_on hi 2 (by kernel_rfl)
   subst d2
   have d3 : l3 = true := ready_on hi 3 (by kernel_rfl)
   subst d3
   have d4 : l4 = true := ready_on hi 4 (by kernel_rfl)
   subst d4
   have d5 : l5 = true := ready_on hi 5 (by kernel_rfl)
   subst d5
   have d6 : l6 = true := ready_on hi 6 (by kernel_rfl)
   subst d6
   have d7 : l7 = true := ready_on hi 7 (by kernel_rfl)
   subst d7
   have d8 : l8 = true := ready_on hi 8 (by kernel_rfl)
   subst d8
   have d9 : l9 = true := ready_on hi 9 (by kernel_rfl)
   subst d9
   have d10 : l10 = true := ready_on hi 10 (by kernel_rfl)
   subst d10
   have d11 : l11 = true := ready_on hi 11 (by kernel_rfl)
   subst d11
   have d12 : l12 = true := ready_on hi 12 (by kernel_rfl)
   subst d12
   have d13 : l13 = true := ready_on hi 13 (by kernel_rfl)
   subst d13
   have d14 : l14 = true := ready_on hi 14 (by kernel_rfl)
   subst d14
   have d15 : l15 = true := ready_on hi 15 (by kernel_rfl)
   subst d15
   have d16 : l16 = true := ready_on hi 16 (by kernel_rfl)
   subst d16
   refine wpOp_run (v := .bool true) (w' := x) (by rfl) (by rfl) ?_ (hK _ _ ⟨true, true, true, true, true, true, true, true, true, true, true, true, true, true, true, true, true, true, u14, u15, (.bool true), u108, u109, u110, u111, u112, u113, u114, u115, u116, u117, u118, u119, u120, rfl, rfl, { h with q16 := (fun _ => rfl) }⟩)
   rw [h.q120 rfl]
   go_simp
 ·rintro L act x ⟨l0, l1, l2, l3, l4, l5, l6, l7, l8, l9, l10, l11, l12, l13, l14, l15, l16, l17, u14, u15, u16, u108, u109, u110, u111, u112, u113, u114, u115, u116, u117, u118, u119, u120, rfl, rfl, h⟩ hr
  have hall := ready_all hr rfl (by decide)
  have t0 : l0 = true := hall 0 (by decide)
  have t1 : l1 = true := hall 1 (by decide)
  have t2 : l2 = true := hall 2 (by decide)
  have t3 : l3 = true := hall 3 (by decide)
  have t4 : l4 = true := hall 4 (by decide)
  have t5 : l5 = true := hall 5 (by decide)
  have t6 : l6 = true := hall 6 (by decide)
  have t7 : l7 = true := hall 7 (by decide)
  have t8 : l8 = true := hall 8 (by decide)
  have t9 : l9 = true := hall 9 (by decide)
  have t10 : l10 = true := hall 10 (by decide)
  have t11 : l11 = true := hall 11 (by decide)
  have t12 : l12 = true := hall 12 (by decide)
  have t13 : l13 = true := hall 13 (by decide)
  have t14 : l14 = true := hall 14 (by decide)
  have t15 : l15 = true := hall 15 (by decide)
  have t16 : l16 = true := hall 16 (by decide)
  have t17 : l17 = true := hall 17 (by decide)
  subst t0 t1 t2 t3 t4 t5 t6 t7 t8 t9 t10 t11 t12 t13 t14 t15 t16 t17
  clear hall hr
  have e8 := h.a14 rfl
  have e9 := h.a15 rfl
  have e10 := h.q16 rfl
  obtain ⟨a5, c5, ha5⟩ : ∃ a c, a = slA u117 ∧ c = slC u117 := ⟨_, _, rfl, rfl⟩
  obtain ⟨P8, hP8⟩ : ∃ P8, P8 = ptB u14 := ⟨_, rfl⟩
  obtain ⟨P9, hP9⟩ : ∃ P9, P9 = ptB u15 := ⟨_, rfl⟩
  have HP7 : Hid (Pool [] w [[orow 2 snCells n2.sa n2.sc n2.seen], [orow 4 prCells n2.pa n2.pc n2.peers], endsL n2.peers, [blk w.heap.size [J Z n.id, J Z n.has, J Z n.spent, J Z n.earned, V n.sa n.seen.length n.sc, V n.pa n.peers.length n.pc]], [blk (w.heap.size + 1) [J Z 3, J Z aid, J Z ato, J Z amt, J Z m_fr, J Z m_to, J Z m_kd, J Z m_seq, J Z m_amt]], [blk (w.heap.size + 1 + 1) [J Z 0, J Z 0, J Z 0, J Z 0, V none 0 0, V none 0 0]], [orow 2 prcCells a5 c5 (pkE n.peers[k].E amt).out], [blk B [J Z n2.id, J Z n2.has, J Z n2.spent, J Z n2.earned, V n2.sa n2.seen.length n2.sc, V n2.pa n2.peers.length n2.pc]], [], [blk P8 [V a5 (pkE n.peers[k].E amt).out.length c5, J Z (pkE n.peers[k].E amt).sent, J Z (pkE n.peers[k].E amt).got]], [blk P9 [J Z (pkP n.peers[k].E amt).seq, J Z (pkP n.peers[k].E amt).amt]]] x) := hide (by rw [ha5.1, ha5.2, hP8, hP9]; exact h.pool)
  rw [← hP8] at e8
  rw [← hP9] at e9
  clear h ha5 hP8 hP9
  subst e8 e9 e10
  refine hK5 _ _ ?_
  clear hK5
  have hk2 : k < n2.peers.length := by rw [peers_len HD.out]; exact hk
  have h2h : n2.has = n.has := congrArg NdD.has HD.out
  have wx : IntKind.i64.wrap (n2.has - amt) = n2.has - amt := wrap_in (by omega) (by omega)
  have H2H : Hid _ := hide h2h
  clear h2h
  obtain ⟨G, hG⟩ : ∃ G, G = gOf n2.pa := ⟨_, rfl⟩
  have HG : Hid (G = gOf n2.pa) := hide hG
  have HPB : Hid (n2.pa = some ⟨G, 0, none⟩) := hide (by rw [hG]; exact own_off (HP7.out.orowAt (i := 1) rfl) hk2)
  clear hG
  have v5 : x.cell? ⟨B, 5, none⟩ = some (V (some ⟨G, 0, none⟩) n2.peers.length n2.pc) := by rw [← HPB.out]; exact (HP7.out.blkAt (i := 7) rfl).c 5 _ rfl
  have v1 : x.cell? ⟨B, 1, none⟩ = some (J Z n2.has) := (HP7.out.blkAt (i := 7) rfl).c 1 _ rfl
  have b0 : x.cell? ⟨P8, 0, none⟩ = some (V a5 (pkE n.peers[k].E amt).out.length c5) := (HP7.out.blkAt (i := 9) rfl).c 0 _ rfl
  have b1 : x.cell? ⟨P8, 1, none⟩ = some (J Z (pkE n.peers[k].E amt).sent) := (HP7.out.blkAt (i := 9) rfl).c 1 _ rfl
  have b2 : x.cell? ⟨P8, 2, none⟩ = some (J Z (pkE n.peers[k].E amt).got) := (HP7.out.blkAt (i := 9) rfl).c 2 _ rfl
  obtain ⟨p0, p1, p2, p3⟩ := peer_at (HG.out ▸ HP7.out.orowAt (i := 1) rfl) hk2
  have fz : ∀ j, x.frozen? ⟨G, j, none⟩ = false := by rw [HG.out]; exact ((HP7.out.orowAt (i := 1) rfl).own (by omega)).2
  have y1 := fz (k * 4 + 1)
  have y2 := fz (k * 4 + 2)
  have y3 := fz (k * 4 + 3)
  have HP8_ := HP7.out.setPeer (i := 1) rfl hk2 (⟨n2.peers[k].id, a5, c5, pkE n.peers[k].E amt⟩ : Pr) rfl HG.out.symm
  have HP9_ := HP8_.setEnds (i := 2) (j := 6) (p := (⟨n2.peers[k].id, a5, c5, pkE n.peers[k].E amt⟩ : Pr)) hk2 (by decide) rfl rfl
  have u1 : (((x.setCell ⟨G, k * 4 + 1, none⟩ (V a5 (pkE n.peers[k].E amt).out.length c5)).setCell ⟨G, k * 4 + 2, none⟩ (J Z (pkE n.peers[k].E amt).sent)).setCell ⟨G, k * 4 + 3, none⟩ (J Z (pkE n.peers[k].E amt).got)).cell? ⟨B, 1, none⟩ = some (J Z n2.has) := (HP9_.blkAt (i := 7) rfl).c 1 _ rfl
  have u2 : (((x.setCell ⟨G, k * 4 + 1, none⟩ (V a5 (pkE n.peers[k].E amt).out.length c5)).setCell ⟨G, k * 4 + 2, none⟩ (J Z (pkE n.peers[k].E amt).sent)).setCell ⟨G, k * 4 + 3, none⟩ (J Z (pkE n.peers[k].E amt).got)).frozen? ⟨B, 1, none⟩ = false := (HP9_.blkAt (i := 7) rfl).f 1
  have u3 : (((x.setCell ⟨G, k * 4 + 1, none⟩ (V a5 (pkE n.peers[k].E amt).out.length c5)).setCell ⟨G, k * 4 + 2, none⟩ (J Z (pkE n.peers[k].E amt).sent)).setCell ⟨G, k * 4 + 3, none⟩ (J Z (pkE n.peers[k].E amt).got)).cell? ⟨w.heap.size + 1, 3, none⟩ = some (J Z amt) := (HP9_.blkAt (i := 4) rfl).c 3 _ rfl
  have HPA_ := HP9_.setBlk (i := 7) rfl 1 (J Z (n2.has - amt)) (by simp)
  clear fz
  go_wp2_with fail
  refine name_world (fun W hW => ?_)
  have HPC : Hid (Pool [] w [[orow 2 snCells n2.sa n2.sc n2.seen], [orow 4 prCells n2.pa n2.pc (n2.peers.set k (⟨n2.peers[k].id, a5, c5, pkE n.peers[k].E amt⟩ : Pr))], endsL (n2.peers.set k (⟨n2.peers[k].id, a5, c5, pkE n.peers[k].E amt⟩ : Pr)), [blk w.heap.size [J Z n.id, J Z n.has, J Z n.spent, J Z n.earned, V n.sa n.seen.length n.sc, V n.pa n.peers.length n.pc]], [blk (w.heap.size + 1) [J Z 3, J Z aid, J Z ato, J Z amt, J Z m_fr, J Z m_to, J Z m_kd, J Z m_seq, J Z m_amt]], [blk (w.heap.size + 1 + 1) [J Z 0, J Z 0, J Z 0, J Z 0, V none 0 0, V none 0 0]], [], [blk B [J Z n2.id, J Z (n2.has - amt), J Z n2.spent, J Z n2.earned, V n2.sa n2.seen.length n2.sc, V n2.pa n2.peers.length n2.pc]], [], [blk P8 [V a5 (pkE n.peers[k].E amt).out.length c5, J Z (pkE n.peers[k].E amt).sent, J Z (pkE n.peers[k].E amt).got]], [blk P9 [J Z (pkP n.peers[k].E amt).seq, J Z (pkP n.peers[k].E amt).amt]]] W) := hide (by rw [hW]; exact HPA_)
  clear HP8_ HP9_ HPA_ hW u1 u2 u3 b0 b1 b2 p0 p1 p2 p3 y1 y2 y3 v5 v1
  rename_i K33 hK33
  refine wp_region_inv (by kernel_rfl) (fun L act x => ∃ l0 l1 l2 l3 l4 l5 l6 l7 l8 l9 : Bool, ∃ u5 u6 u136 u137 u138 u139 u140 u141 u142 : Value, L = #[l0, l1, l2, l3, l4, l5, l6, l7, l8, l9] ∧ act = { tmps := #[Value.agg #[J Z n.id, J Z n.has, J Z n.spent, J Z n.earned, V n.sa n.seen.length n.sc, V n.pa n.peers.length n.pc], Value.agg #[J Z 3, J Z aid, J Z ato, J Z amt, J Z m_fr, J Z m_to, J Z m_kd, J Z m_seq, J Z m_amt], Value.pointer (some { block := w.heap.size, off := 0 }), Value.pointer (some { block := w.heap.size + 1, off := 0 }), Value.pointer (some { block := w.heap.size + 1 + 1, off := 0 }), u5, u6, Value.pointer (some { block := B, off := 0 }), U, U, U, U, U, J Z ↑k, Value.pointer (some { block := P8, off := 0 }), Value.pointer (some { block := P9, off := 0 }), Value.bool true, Value.agg #[J Z n.id, J Z n.has, J Z n.spent, J Z n.earned, V n.sa n.seen.length n.sc, V n.pa n.peers.length n.pc], Value.bool true, Value.bool false, U, Value.agg #[J Z n.id, J Z n.has, J Z n.spent, J Z n.earned, V n.sa n.seen.length n.sc, V n.pa n.peers.length n.pc], Value.agg #[J Z n2.id, J Z n2.has, J Z n2.spent, J Z n2.earned, V n2.sa n2.seen.length n2.sc, V n2.pa n2.peers.length n2.pc], Value.agg #[J Z n.id, J Z n.has, J Z n.spent, J Z n.earned, V n.sa n.seen.length n.sc, V n.pa n.peers.length n.pc], Value.agg #[J Z 3, J Z aid, J Z ato, J Z amt, J Z m_fr, J Z m_to, J Z m_kd, J Z m_seq, J Z m_amt], Value.bool true, Value.bool false, U, Value.pointer (some { block := w.heap.size + 1, off := 0 }), J Z 3, Value.bool false, Value.bool false, Value.bool false, U, U, U, U, U, U, U, U, Value.bool false, Value.bool false, U, U, U, U, U, U, U, Value.bool false, Value.bool false, U, U, U, U, U, U, U, U, U, U, U, U, U, U, U, U, U, U, U, U, U, U, U, U, U, U, U, U, U, U, U, U, U, U, U, U, U, U, U, U, U, U, U, Value.agg #[J Z n.id, J Z n.has, J Z n.spent, J Z n.earned, V n.sa n.seen.length n.sc, V n.pa n.peers.length n.pc], Value.pointer (some { block := w.heap.size + 1, off := 2 }), J Z ato, J Z ↑k, J Z ↑k, Value.bool false, U, Value.pointer (some { block := w.heap.size + 1, off := 3 }), J Z amt, Value.pointer (some { block := w.heap.size, off := 1 }), J Z n.has, Value.bool (decide (n.has < amt)), U, u108, u109, u110, u111, u112, u113, u114, u115, u116, u117, u118, u119, u120, Value.bool true, Value.bool false, U, Value.pointer (some { block := B, off := 5 }), V (some { block := G, off := 0 }) n2.peers.length n2.pc, J Z ↑k, Value.agg #[V a5 (pkE n.peers[k].E amt).out.length c5, J Z (pkE n.peers[k].E amt).sent, J Z (pkE n.peers[k].E amt).got], Value.pointer (some { block := G, off := k * 4 }), Value.pointer (some { block := G, off := k * 4 + 1 }), Value.pointer (some { block := B, off := 1 }), J Z n2.has, Value.pointer (some { block := w.heap.size + 1, off := 3 }), J Z amt, J Z (n2.has - amt), Value.pointer (some { block := B, off := 1 }), u136, u137, u138, u139, u140, u141, u142], defers := [] } ∧ Gw n n2 w B b off k hk hk2 aid ato amt m_fr m_to m_kd m_seq m_amt a5 c5 P8 P9 l0 l1 l2 l3 l4 l5 l6 l7 l8 l9 u5 u6 u136 u137 u138 u139 u140 u141 u142 x) ?_ ?_ ?_
  rotate_left 2
  ·exact ⟨false, false, false, false, false, false, false, false, false, false, (V none 0 0), (J Z 0), U, U, U, U, U, U, U, rfl, rfl, ⟨HPC.out.drew, nofun, nofun, nofun, nofun, nofun, nofun, nofun, nofun, nofun, nofun⟩⟩
  ·rintro L act x i ⟨l0, l1, l2, l3, l4, l5, l6, l7, l8, l9, u5, u6, u136, u137, u138, u139, u140, u141, u142, rfl, rfl, h⟩ hi K hK
   have hi15 : i < 10 := by
    obtain ⟨_, o, ho, _⟩ := mem_ready.1 hi
    exact (Array.getElem?_eq_some_iff.1 ho).1
   have hl := (mem_ready.1 hi).1
   obtain rfl | rfl | rfl | rfl | rfl | rfl | rfl | rfl | rfl | rfl := (by omega : i = 0 ∨ i = 1 ∨ i = 2 ∨ i = 3 ∨ i = 4 ∨ i = 5 ∨ i = 6 ∨ i = 7 ∨ i = 8 ∨ i = 9)
   ·have e : l0 = false := hl
    subst e
    have c0_ : x.cell? ⟨B, 0, none⟩ = some (J Z n2.id) := (h.pool.blkAt (i := 7) rfl).c 0 _ rfl
    have c1_ : x.cell? ⟨B, 1, none⟩ = some (J Z (n2.has - amt)) := (h.pool.blkAt (i := 7) rfl).c 1 _ rfl
    have c2_ : x.cell? ⟨B, 2, none⟩ = some (J Z n2.spent) := (h.pool.blkAt (i := 7) rfl).c 2 _ rfl
    have c3_ : x.cell? ⟨B, 3, none⟩ = some (J Z n2.earned) := (h.pool.blkAt (i := 7) rfl).c 3 _ rfl
    have c4_ : x.cell? ⟨B, 4, none⟩ = some (V n2.sa n2.seen.length n2.sc) := (h.pool.blkAt (i := 7) rfl).c 4 _ rfl
    have c5_ : x.cell? ⟨B, 5, none⟩ = some (V n2.pa n2.peers.length n2.pc) := (h.pool.blkAt (i := 7) rfl).c 5 _ rfl
    refine wpOp_run (v := .agg #[J Z n2.id, J Z (n2.has - amt), J Z n2.spent, J Z n2.earned, V n2.sa n2.seen.length n2.sc, V n2.pa n2.peers.length n2.pc]) (w' := x) (by rfl) (by rfl) ?_ (hK _ _ ⟨true, l1, l2, l3, l4, l5, l6, l7, l8, l9, u5, u6, (.agg #[J Z n2.id, J Z (n2.has - amt), J Z n2.spent, J Z n2.earned, V n2.sa n2.seen.length n2.sc, V n2.pa n2.peers.length n2.pc]), u137, u138, u139, u140, u141, u142, rfl, rfl, { h with p136 := fun _ => rfl }⟩)
    go_simp
   ·have e : l1 = false := hl
    subst e
    have c0_ : x.cell? ⟨w.heap.size, 0, none⟩ = some (J Z n.id) := (h.pool.blkAt (i := 3) rfl).c 0 _ rfl
    have c1_ : x.cell? ⟨w.heap.size, 1, none⟩ = some (J Z n.has) := (h.pool.blkAt (i := 3) rfl).c 1 _ rfl
    have c2_ : x.cell? ⟨w.heap.size, 2, none⟩ = some (J Z n.spent) := (h.pool.blkAt (i := 3) rfl).c 2 _ rfl
    have c3_ : x.cell? ⟨w.heap.size, 3, none⟩ = some (J Z n.earned) := (h.pool.blkAt (i := 3) rfl).c 3 _ rfl
    have c4_ : x.cell? ⟨w.heap.size, 4, none⟩ = some (V n.sa n.seen.length n.sc) := (h.pool.blkAt (i := 3) rfl).c 4 _ rfl
    have c5_ : x.cell? ⟨w.heap.size, 5, none⟩ = some (V n.pa n.peers.length n.pc) := (h.pool.blkAt (i := 3) rfl).c 5 _ rfl
    refine wpOp_run (v := .agg #[J Z n.id, J Z n.has, J Z n.spent, J Z n.earned, V n.sa n.seen.length n.sc, V n.pa n.peers.length n.pc]) (w' := x) (by rfl) (by rfl) ?_ (hK _ _ ⟨l0, true, l2, l3, l4, l5, l6, l7, l8, l9, u5, u6, u136, (.agg #[J Z n.id, J Z n.has, J Z n.spent, J Z n.earned, V n.sa n.seen.length n.sc, V n.pa n.peers.length n.pc]), u138, u139, u140, u141, u142, rfl, rfl, { h with p137 := fun _ => rfl }⟩)
    go_simp
   ·have e : l2 = false := hl
    subst e
    refine wpOp_run (v := .pointer (some ⟨w.heap.size + 1, 2, none⟩)) (w' := x) (by rfl) (by rfl) ?_ (hK _ _ ⟨l0, l1, true, l3, l4, l5, l6, l7, l8, l9, u5, u6, u136, u137, (.pointer (some ⟨w.heap.size + 1, 2, none⟩)), u139, u140, u141, u142, rfl, rfl, { h with p138 := fun _ => rfl }⟩)
    go_simp
   ·have e : l3 = false := hl
    subst e
    have d2 : l2 = true := ready_on hi 2 (by kernel_rfl)
    subst d2
    have c2_ : x.cell? ⟨w.heap.size + 1, 2, none⟩ = some (J Z ato) := (h.pool.blkAt (i := 4) rfl).c 2 _ rfl
    refine wpOp_run (v := J Z ato) (w' := x) (by rfl) (by rfl) ?_ (hK _ _ ⟨l0, l1, true, true, l4, l5, l6, l7, l8, l9, u5, u6, u136, u137, u138, (J Z ato), u140, u141, u142, rfl, rfl, { h with p139 := fun _ => rfl }⟩)
    rw [h.p138 rfl]
    go_simp
   ·have e : l4 = false := hl
    subst e
    have c0_ : x.cell? ⟨P9, 0, none⟩ = some (J Z (pkP n.peers[k].E amt).seq) := (h.pool.blkAt (i := 10) rfl).c 0 _ rfl
    have c1_ : x.cell? ⟨P9, 1, none⟩ = some (J Z (pkP n.peers[k].E amt).amt) := (h.pool.blkAt (i := 10) rfl).c 1 _ rfl
    refine wpOp_run (v := .agg #[J Z (pkP n.peers[k].E amt).seq, J Z (pkP n.peers[k].E amt).amt]) (w' := x) (by rfl) (by rfl) ?_ (hK _ _ ⟨l0, l1, l2, l3, true, l5, l6, l7, l8, l9, u5, u6, u136, u137, u138, u139, (.agg #[J Z (pkP n.peers[k].E amt).seq, J Z (pkP n.peers[k].E amt).amt]), u141, u142, rfl, rfl, { h with p140 := fun _ => rfl }⟩)
    go_simp
   ·have e : l5 = false := hl
    subst e
    have d1 : l1 = true := ready_on hi 1 (by kernel_rfl)
    subst d1
    have d3 : l3 = true := ready_on hi 3 (by kernel_rfl)
    subst d3
    have d4 : l4 = true := ready_on hi 4 (by kernel_rfl)
    subst d4
    refine wpOp_call (by rfl) (by rfl) ?_ (l6Parcel_any n.id n.has n.spent n.earned n.sa n.seen.length n.sc n.pa n.peers.length n.pc ato (pkP n.peers[k].E amt).seq (pkP n.peers[k].E amt).amt x) ?_
    ·rw [h.p137 rfl, h.p139 rfl, h.p140 rfl]; go_simp
    ·rintro e w' ⟨rfl, hb⟩
     exact ⟨_, rfl, hK _ _ ⟨l0, true, l2, true, true, true, l6, l7, l8, l9, u5, u6, u136, u137, u138, u139, u140, (.agg #[J Z n.id, J Z ato, J Z 1, J Z (pkP n.peers[k].E amt).seq, J Z (pkP n.peers[k].E amt).amt]), u142, rfl, rfl, { h with q141 := (fun _ => rfl), pool := (h.pool.keep hb) }⟩⟩
   ·have e : l6 = false := hl
    subst e
    have d5 : l5 = true := ready_on hi 5 (by kernel_rfl)
    subst d5
    have z8 : l8 = false := by
     cases hz : l8
     ·rfl
     ·exact absurd (h.d8_6 hz) (by simp)
    subst z8
    refine wpOp_run (v := V (some ⟨x.heap.size, 0, none⟩) 1 1) (w' := x.alloc (.cells #[J Z n.id, J Z ato, J Z 1, J Z (pkP n.peers[k].E amt).seq, J Z (pkP n.peers[k].E amt).amt] 29)) (by rfl) (by rfl) ?_ (hK _ _ ⟨l0, l1, l2, l3, l4, true, true, l7, false, l9, u5, u6, u136, u137, u138, u139, u140, u141, (V (some ⟨x.heap.size, 0, none⟩) 1 1), rfl, rfl, { h with q142 := (fun _ => rfl), q5 := (fun q => by cases q), pool := (h.pool.newBlk (i := 8) rfl [J Z n.id, J Z ato, J Z 1, J Z (pkP n.peers[k].E amt).seq, J Z (pkP n.peers[k].E amt).amt] 29), d8_6 := fun _ => rfl }⟩)
    rw [h.q141 rfl]
    go_simp
   ·have e : l7 = false := hl
    subst e
    have d0 : l0 = true := ready_on hi 0 (by kernel_rfl)
    subst d0
    have d5 : l5 = true := ready_on hi 5 (by kernel_rfl)
    subst d5
    refine wpOp_skip (w' := ((((((x.setCell ⟨w.heap.size + 1 + 1, 0, none⟩ (J Z n2.id)).setCell ⟨w.heap.size + 1 + 1, 1, none⟩ (J Z (n2.has - amt))).setCell ⟨w.heap.size + 1 + 1, 2, none⟩ (J Z n2.spent)).setCell ⟨w.heap.size + 1 + 1, 3, none⟩ (J Z n2.earned)).setCell ⟨w.heap.size + 1 + 1, 4, none⟩ (V n2.sa n2.seen.length n2.sc)).setCell ⟨w.heap.size + 1 + 1, 5, none⟩ (V n2.pa n2.peers.length n2.pc))) (by rfl) (by rfl) ?_ (hK _ _ ⟨true, l1, l2, l3, l4, true, l6, true, l8, l9, u5, u6, u136, u137, u138, u139, u140, u141, u142, rfl, rfl, { h with pool := (h.pool.set6 (i := 5) rfl (J Z n2.id) (J Z (n2.has - amt)) (J Z n2.spent) (J Z n2.earned) (V n2.sa n2.seen.length n2.sc) (V n2.pa n2.peers.length n2.pc)) }⟩)
    have A := h.pool.blkAt (i := 5) rfl
    have t0 := A.c 0 _ rfl
    have f0 := A.f 0
    have t1 := A.c 1 _ rfl
    have f1 := A.f 1
    have t2 := A.c 2 _ rfl
    have f2 := A.f 2
    have t3 := A.c 3 _ rfl
    have f3 := A.f 3
    have t4 := A.c 4 _ rfl
    have f4 := A.f 4
    have t5 := A.c 5 _ rfl
    have f5 := A.f 5
    rw [h.p136 rfl]
    clear A h
    go_simp
   ·have e : l8 = false := hl
    subst e
    have d0 : l0 = true := ready_on hi 0 (by kernel_rfl)
    subst d0
    have d1 : l1 = true := ready_on hi 1 (by kernel_rfl)
    subst d1
    have d2 : l2 = true := ready_on hi 2 (by kernel_rfl)
    subst d2
    have d3 : l3 = true := ready_on hi 3 (by kernel_rfl)
    subst d3
    have d4 : l4 = true := ready_on hi 4 (by kernel_rfl)
    subst d4
    have d5 : l5 = true := ready_on hi 5 (by kernel_rfl)
    subst d5
    have d6 : l6 = true := ready_on hi 6 (by kernel_rfl)
    subst d6
    have d7 : l7 = true := ready_on hi 7 (by kernel_rfl)
    subst d7
    refine wpOp_run (v := u142) (w' := x) (by rfl) (by rfl) ?_ (hK _ _ ⟨true, true, true, true, true, true, true, true, true, l9, (u142), u6, u136, u137, u138, u139, u140, u141, u142, rfl, rfl, { h with q5 := (fun _ => rfl), d8_6 := fun _ => rfl }⟩)
    go_simp
   ·have e : l9 = false := hl
    subst e
    have d0 : l0 = true := ready_on hi 0 (by kernel_rfl)
    subst d0
    have d1 : l1 = true := ready_on hi 1 (by kernel_rfl)
    subst d1
    have d2 : l2 = true := ready_on hi 2 (by kernel_rfl)
    subst d2
    have d3 : l3 = true := ready_on hi 3 (by kernel_rfl)
    subst d3
    have d4 : l4 = true := ready_on hi 4 (by kernel_rfl)
    subst d4
    have d5 : l5 = true := ready_on hi 5 (by kernel_rfl)
    subst d5
    have d6 : l6 = true := ready_on hi 6 (by kernel_rfl)
    subst d6
    have d7 : l7 = true := ready_on hi 7 (by kernel_rfl)
    subst d7
    have d8 : l8 = true := ready_on hi 8 (by kernel_rfl)
    subst d8
    refine wpOp_run (v := J Z 0) (w' := x) (by rfl) (by rfl) ?_ (hK _ _ ⟨true, true, true, true, true, true, true, true, true, true, u5, (J Z 0), u136, u137, u138, u139, u140, u141, u142, rfl, rfl, { h with q6 := (fun _ => rfl) }⟩)
    go_simp
  ·rintro L act x ⟨l0, l1, l2, l3, l4, l5, l6, l7, l8, l9, u5, u6, u136, u137, u138, u139, u140, u141, u142, rfl, rfl, h⟩ hr
   have hall := ready_all hr rfl (by decide)
   have t0 : l0 = true := hall 0 (by decide)
   have t1 : l1 = true := hall 1 (by decide)
   have t2 : l2 = true := hall 2 (by decide)
   have t3 : l3 = true := hall 3 (by decide)
   have t4 : l4 = true := hall 4 (by decide)
   have t5 : l5 = true := hall 5 (by decide)
   have t6 : l6 = true := hall 6 (by decide)
   have t7 : l7 = true := hall 7 (by decide)
   have t8 : l8 = true := hall 8 (by decide)
   have t9 : l9 = true := hall 9 (by decide)
   subst t0 t1 t2 t3 t4 t5 t6 t7 t8 t9
   clear hall hr
   have e85 := h.q142 rfl
   have e5 := h.q5 rfl
   have e6 := h.q6 rfl
   obtain ⟨Q8, hQ8⟩ : ∃ Q8, Q8 = gOf (slA u142) := ⟨_, rfl⟩
   have hp : Pool [] w [[orow 2 snCells n2.sa n2.sc n2.seen], [orow 4 prCells n2.pa n2.pc (n2.peers.set k (⟨n2.peers[k].id, a5, c5, pkE n.peers[k].E amt⟩ : Pr))], endsL (n2.peers.set k (⟨n2.peers[k].id, a5, c5, pkE n.peers[k].E amt⟩ : Pr)), [blk w.heap.size [J Z n.id, J Z n.has, J Z n.spent, J Z n.earned, V n.sa n.seen.length n.sc, V n.pa n.peers.length n.pc]], [blk (w.heap.size + 1) [J Z 3, J Z aid, J Z ato, J Z amt, J Z m_fr, J Z m_to, J Z m_kd, J Z m_seq, J Z m_amt]], [blk (w.heap.size + 1 + 1) [J Z n2.id, J Z (n2.has - amt), J Z n2.spent, J Z n2.earned, V n2.sa n2.seen.length n2.sc, V n2.pa n2.peers.length n2.pc]], [], [blk B [J Z n2.id, J Z (n2.has - amt), J Z n2.spent, J Z n2.earned, V n2.sa n2.seen.length n2.sc, V n2.pa n2.peers.length n2.pc]], [blk Q8 [J Z n.id, J Z ato, J Z 1, J Z (pkP n.peers[k].E amt).seq, J Z (pkP n.peers[k].E amt).amt]], [blk P8 [V a5 (pkE n.peers[k].E amt).out.length c5, J Z (pkE n.peers[k].E amt).sent, J Z (pkE n.peers[k].E amt).got]], [blk P9 [J Z (pkP n.peers[k].E amt).seq, J Z (pkP n.peers[k].E amt).amt]]] x := by rw [hQ8]; exact h.pool
   rw [← hQ8] at e85
   clear h hQ8
   subst e85 e5 e6
   refine hK33 _ _ ?_
   clear hK33
   have z_ := hp.blkAt (i := 5) rfl
   have g0_ := z_.c 0 _ rfl
   have g1_ := z_.c 1 _ rfl
   have g2_ := z_.c 2 _ rfl
   have g3_ := z_.c 3 _ rfl
   have g4_ := z_.c 4 _ rfl
   have g5_ := z_.c 5 _ rfl
   have hq2 := hp.asMsg (i := 8) (m := (⟨n.id, ato, 1, (pkP n.peers[k].E amt).seq, (pkP n.peers[k].E amt).amt⟩ : Mg)) rfl
   have HDD : Hid (Nd.d (⟨n2.id, n2.has - amt, n2.spent, n2.earned, n2.sa, n2.sc, n2.seen, n2.pa, n2.pc, n2.peers.set k (⟨n2.peers[k].id, a5, c5, pkE n.peers[k].E amt⟩ : Pr)⟩ : Nd) = (⟨n.id, n.has - amt, n.spent, n.earned, n.seen, (n.peers.map Pr.d).set k ⟨n.peers[k].id, pkE n.peers[k].E amt⟩⟩ : NdD)) := hide (by
    have e0 := HD.out
    have e1 : n2.id = n.id := congrArg NdD.id e0
    have e2 : n2.spent = n.spent := congrArg NdD.spent e0
    have e3 : n2.earned = n.earned := congrArg NdD.earned e0
    have e4 : n2.seen = n.seen := congrArg NdD.seen e0
    have e5 : n2.peers[k].id = n.peers[k].id := congrArg PD.id (peers_at e0 hk hk2)
    simp only [Nd.d, List.map_set, Pr.d, e1, e2, e3, e4, e5, H2H.out]
    rw [peers_d e0])
   clear HP7 HPC
   go_wp2
   exact bodyPost_ret (v := .tuple #[ndV (⟨n2.id, n2.has - amt, n2.spent, n2.earned, n2.sa, n2.sc, n2.seen, n2.pa, n2.pc, n2.peers.set k (⟨n2.peers[k].id, a5, c5, pkE n.peers[k].E amt⟩ : Pr)⟩ : Nd), V (some ⟨Q8, 0, none⟩) 1 1, J Z 0]) (by simp [results, Try.results8, go_sem, g0_, g1_, g2_, g3_, g4_, g5_, ndV]) rfl ⟨(⟨n2.id, n2.has - amt, n2.spent, n2.earned, n2.sa, n2.sc, n2.seen, n2.pa, n2.pc, n2.peers.set k (⟨n2.peers[k].id, a5, c5, pkE n.peers[k].E amt⟩ : Pr)⟩ : Nd), some ⟨Q8, 0, none⟩, 1, (by rw [HM.out] <;> rfl), (by rw [HM.out] <;> exact HDD.out), (by
    rw [HM.out]
    exact (((((((hq2.drop (i := 10) rfl).drop (i := 9) rfl).drop (i := 7) rfl).drop (i := 6) rfl).drop (i := 5) rfl).drop (i := 4) rfl).drop (i := 3) rfl).cast (by simp [ndL, endsL]))⟩
end Go.Proofs.Ytkcpoibhlnjldaa
