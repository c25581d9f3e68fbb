/- The contract of the model's Acted: tick. -/
import Derived.Test.YtkcpoibhlnjldaaAcS5
import Derived.Test.YtkcpoibhlnjldaaAcS6
import Derived.Test.YtkcpoibhlnjldaaAcI8
namespace Go.Proofs.Ytkcpoibhlnjldaa
open Go.Value renaming int → J, slice → V
open Go.IntKind renaming i64 → Z
open Go renaming undef → U
open Go.ChangeShapes Go.WideShapes Go.ChangeAt Go.RowKit
set_option linter.unusedVariables false
set_option maxRecDepth 100000
/-- the messages of one peer, of the first peers -/
def mkMs (id : Int) (p : PD) : List Mg := p.E.out.map (fun q => (⟨id, p.id, 1, q.seq, q.amt⟩ : Mg))
def tkL (n : Nd) (j : Nat) : List Mg := (n.d.peers.take j).flatMap (mkMs n.id)
def tkQ (n : Nd) (j : Nat) (p : Pr) (q : Nat) : List Mg := tkL n j ++ (mkMs n.id p.d).take q
theorem tkL_zero (n : Nd) : tkL n 0 = [] := by simp [tkL]
theorem tkQ_zero (n : Nd) (j : Nat) (p : Pr) : tkQ n j p 0 = tkL n j := by simp [tkQ]
theorem tkQ_all (n : Nd) (j : Nat) (hj : j < n.peers.length) : tkQ n j n.peers[j] n.peers[j].E.out.length = tkL n (j + 1) := by
 have e : (mkMs n.id n.peers[j].d).length = n.peers[j].E.out.length := by simp [mkMs, Pr.d]
 have hj' : j < n.d.peers.length := by simpa [Nd.d] using hj
 unfold tkQ tkL
 rw [← e, List.take_length, List.take_succ_eq_append_getElem hj', List.flatMap_append]
 simp [Nd.d]
theorem tkQ_step (n : Nd) (j : Nat) (p : Pr) (q : Nat) (hq : q < p.E.out.length) : tkQ n j p (q + 1) = tkQ n j p q ++ [(⟨n.id, p.id, 1, p.E.out[q].seq, p.E.out[q].amt⟩ : Mg)] := by
 have hq' : q < (mkMs n.id p.d).length := by simpa [mkMs, Pr.d] using hq
 unfold tkQ
 rw [List.take_succ_eq_append_getElem hq', List.append_assoc]
 simp [mkMs, Pr.d]
theorem tkL_all (n : Nd) : tkL n n.peers.length = tickM n.d := by
 unfold tkL tickM
 rw [show n.peers.length = n.d.peers.length from by simp [Nd.d], List.take_length]
 rfl
theorem tkL_len (n : Nd) (hp : n.peers.length ≤ 8) (he : ∀ p ∈ n.peers, p.E.out.length ≤ 8) (j : Nat) : (tkL n j).length ≤ 64 := by
 unfold tkL
 have h1 : ∀ l : List PD, (∀ p ∈ l, p.E.out.length ≤ 8) → (l.flatMap (mkMs n.id)).length ≤ 8 * l.length := by
  intro l
  induction l with
  | nil => intro _; simp
  | cons a t ih =>
   intro h
   have := ih (fun p hp => h p (by simp [hp]))
   have := h a (by simp)
   simp only [List.flatMap_cons, List.length_append, List.length_cons, mkMs, List.length_map] at *
   omega
 have h2 := h1 (n.d.peers.take j) (fun p hp => by
  have := List.mem_of_mem_take hp
  simp only [Nd.d, List.mem_map] at this
  obtain ⟨q, hq, rfl⟩ := this
  exact he q hq)
 have h3 : (n.d.peers.take j).length ≤ 8 := by
  have : n.d.peers.length = n.peers.length := by simp [Nd.d]
  simp only [List.length_take]
  omega
 omega
theorem ends_8 {n : Nd} (h : nodeB n.d = true) : ∀ p ∈ n.peers, p.E.out.length ≤ 8 := by
 intro p hp
 simp only [nodeB, Bool.and_eq_true] at h
 obtain ⟨i, hi, rfl⟩ := List.mem_iff_getElem.1 hp
 have h1 := allTo_get h.2 (k := i) (by simpa [Nd.d] using hi)
 have h2 : pdB n.id (n.peers.map Pr.d) i = true := h1
 rw [pdB_at hi] at h2
 simp only [endB, Bool.and_eq_true, decide_eq_true_eq] at h2
 exact h2.2.1.1.1
theorem mg_one (m : Mg) : ∀ u ∈ mgCells m, u.oneCell' = true := fun u hu => by
 simp only [mgCells, List.mem_cons, List.not_mem_nil, or_false] at hu
 rcases hu with rfl | rfl | rfl | rfl | rfl <;> rfl
theorem prc_at {w x : World} {a : Option Addr} {l : List Prc} (h : RowAt 2 prcCells w a l) (hx : Below w.heap.size w x) {b off : Nat} (ha : a = some ⟨b, off, none⟩) (k : Nat) (hk : k < l.length) : x.cell? ⟨b, off + k * 2, none⟩ = some (J Z l[k].seq) ∧ x.cell? ⟨b, off + k * 2 + 1, none⟩ = some (J Z l[k].amt) := by
 obtain ⟨b', off', e, _, c⟩ := prc_row (h.below hx) k hk
 rw [ha] at e
 simp only [Option.some.injEq, Addr.mk.injEq, and_true] at e
 obtain ⟨rfl, rfl⟩ := e
 exact c
structure TkF (n n2 : Nd) (w : World) (B b off b2 off2 j q : Nat) (hlt : j < n.peers.length) (hlq : q < n.peers[j].E.out.length) (v : Value) (aid ato amt m_fr m_to m_kd m_seq m_amt : Int) (l0 l1 l2 l3 l4 l5 l6 l7 l8 l9 l10 l11 l12 l13 l14 l15 l16 l17 l18 l19 l20 l21 : Bool) (u10 u72 u73 u74 u75 u76 u77 u78 u79 u80 u81 u82 u83 u84 u85 u86 u87 u88 u89 u90 u91 u92 : Value) (x : World) : Prop where
 pool : Pool [] w [ndL n2, [], [], [blk w.heap.size [J Z n.id, J Z n.has, J Z n.spent, J Z n.earned, V n.sa n.seen.length n.sc, V n.pa n.peers.length n.pc]], [blk (w.heap.size + 1) [J Z 5, J Z aid, J Z ato, J Z amt, J Z m_fr, J Z m_to, J Z m_kd, J Z m_seq, J Z m_amt]], [blk (w.heap.size + 1 + 1) [J Z 0, J Z 0, J Z 0, J Z 0, V none 0 0, V none 0 0]], [], [blk B [J Z n2.id, J Z n2.has, J Z n2.spent, J Z n2.earned, V n2.sa n2.seen.length n2.sc, V n2.pa n2.peers.length n2.pc]], cond l20 [row 29 5 u92 ((tkQ n j n.peers[j] q).length + 1) ((tkQ n j n.peers[j] q).flatMap mgCells ++ mgCells (⟨n.id, n.peers[j].id, 1, n.peers[j].E.out[q].seq, n.peers[j].E.out[q].amt⟩ : Mg))] [row 29 5 v (tkQ n j n.peers[j] q).length ((tkQ n j n.peers[j] q).flatMap mgCells)], cond l19 [blk (gOf (slA u91)) (mgCells (⟨n.id, n.peers[j].id, 1, n.peers[j].E.out[q].seq, n.peers[j].E.out[q].amt⟩ : Mg))] [], []] x
 b10 : l21 = false → u10 = v
 e10 : l21 = true → u10 = u92
 p72 : l0 = true → u72 = v
 q90 : l18 = true → u90 = .agg #[J Z n.id, J Z n.peers[j].id, J Z 1, J Z n.peers[j].E.out[q].seq, J Z n.peers[j].E.out[q].amt]
 q91 : l19 = true → u91 = V (some ⟨gOf (slA u91), 0, none⟩) 1 1
 d21_0 : l21 = true → l0 = true
 d20_19 : l20 = true → l19 = true
 d19_18 : l19 = true → l18 = true
 d21_20 : l21 = true → l20 = true
 p74 : l2 = true → u74 = .pointer (some ⟨w.heap.size, 5, none⟩)
 p75 : l3 = true → u75 = V (some ⟨b, off, none⟩) n.peers.length n.pc
 p80 : l8 = true → u80 = .pointer (some ⟨w.heap.size, 5, none⟩)
 p81 : l9 = true → u81 = V (some ⟨b, off, none⟩) n.peers.length n.pc
 p73 : l1 = true → u73 = .agg #[J Z n.id, J Z n.has, J Z n.spent, J Z n.earned, V n.sa n.seen.length n.sc, V n.pa n.peers.length n.pc]
 p76 : l4 = true → u76 = J Z ↑j
 p77 : l5 = true → u77 = .pointer (some ⟨b, off + j * 4, none⟩)
 p78 : l6 = true → u78 = .pointer (some ⟨b, off + j * 4, none⟩)
 p79 : l7 = true → u79 = J Z n.peers[j].id
 p82 : l10 = true → u82 = J Z ↑j
 p83 : l11 = true → u83 = .pointer (some ⟨b, off + j * 4, none⟩)
 p84 : l12 = true → u84 = .pointer (some ⟨b, off + j * 4 + 1, none⟩)
 p85 : l13 = true → u85 = .pointer (some ⟨b, off + j * 4 + 1, none⟩)
 p86 : l14 = true → u86 = V (some ⟨b2, off2, none⟩) n.peers[j].E.out.length n.peers[j].cap
 p87 : l15 = true → u87 = J Z ↑q
 p88 : l16 = true → u88 = .pointer (some ⟨b2, off2 + q * 2, none⟩)
 p89 : l17 = true → u89 = .agg #[J Z n.peers[j].E.out[q].seq, J Z n.peers[j].E.out[q].amt]
set_option maxHeartbeats 4000000 in
theorem acted_tick (n : Nd) (aid ato amt m_fr m_to m_kd m_seq m_amt : Int) (w : World) (hs : SmN n) (hn0 : n.sa = none → n.sc = 0) (hp0 : ∀ p ∈ n.peers, p.a = none → p.cap = 0) (h : NodeAt w n) (hno : nodeB n.d = true) (hfo : actB n.id ⟨5, aid, ato, amt, ⟨m_fr, m_to, m_kd, m_seq, m_amt⟩⟩ = true) :
  Calls Try.prog 8 #[.agg #[J Z n.id, J Z n.has, J Z n.spent, J Z n.earned, V n.sa n.seen.length n.sc, V n.pa n.peers.length n.pc], .agg #[J Z 5, J Z aid, J Z ato, J Z amt, J Z m_fr, J Z m_to, J Z m_kd, J Z m_seq, J Z m_amt]] w fun e w' => ActedEnd [] (actM n.d (⟨5, aid, ato, amt, ⟨m_fr, m_to, m_kd, m_seq, m_amt⟩⟩ : Ac)) w e w' := by
 have HM : Hid (actM n.d (⟨5, aid, ato, amt, ⟨m_fr, m_to, m_kd, m_seq, m_amt⟩⟩ : Ac) = (n.d, tickM n.d, 0)) := hide (by
  unfold actM; rw [if_neg (by rw [hno]; simp), if_neg (show ¬ actB n.d.id _ = false by rw [show actB n.d.id _ = true from hfo]; simp)]; rfl)
 have HS : Hid _ := hide hs
 have HL : Hid _ := hide h
 have HO : Hid _ := hide hno
 have HP0 : Hid _ := hide hp0
 obtain ⟨W, hW⟩ : ∃ W, W = ((w.alloc (.cells #[J Z n.id, J Z n.has, J Z n.spent, J Z n.earned, V n.sa n.seen.length n.sc, V n.pa n.peers.length n.pc] 27)).alloc (.cells #[J Z 5, J Z aid, J Z ato, J Z amt, J Z m_fr, J Z m_to, J Z m_kd, J Z m_seq, J Z m_amt] 31)).alloc (.cells #[J Z 0, J Z 0, J Z 0, J Z 0, V none 0 0, V none 0 0] 27) := ⟨_, rfl⟩
 have s1 : (w.alloc (.cells #[J Z n.id, J Z n.has, J Z n.spent, J Z n.earned, V n.sa n.seen.length n.sc, V n.pa n.peers.length n.pc] 27)).heap.size = w.heap.size + 1 := by simp
 have s2 : ((w.alloc (.cells #[J Z n.id, J Z n.has, J Z n.spent, J Z n.earned, V n.sa n.seen.length n.sc, V n.pa n.peers.length n.pc] 27)).alloc (.cells #[J Z 5, J Z aid, J Z ato, J Z amt, J Z m_fr, J Z m_to, J Z m_kd, J Z m_seq, J Z m_amt] 31)).heap.size = w.heap.size + 1 + 1 := by simp
 have HP : Hid (Pool [] w [[], [], [], [blk w.heap.size [J Z n.id, J Z n.has, J Z n.spent, J Z n.earned, V n.sa n.seen.length n.sc, V n.pa n.peers.length n.pc]], [blk (w.heap.size + 1) [J Z 5, J Z aid, J Z ato, J Z amt, J Z m_fr, J Z m_to, J Z m_kd, J Z m_seq, J Z m_amt]], [blk (w.heap.size + 1 + 1) [J Z 0, J Z 0, J Z 0, J Z 0, V none 0 0, V none 0 0]], [], [], [], [], []] W) := hide (by
  rw [hW, ← s2, ← s1]
  exact (((Pool.start w [[], [], [], [], [], [], [], [], [], [], []] rfl).newBlk (i := 3) rfl [J Z n.id, J Z n.has, J Z n.spent, J Z n.earned, V n.sa n.seen.length n.sc, V n.pa n.peers.length n.pc] 27).newBlk (i := 4) rfl [J Z 5, J Z aid, J Z ato, J Z amt, J Z m_fr, J Z m_to, J Z m_kd, J Z m_seq, J Z m_amt] 31).newBlk (i := 5) rfl [J Z 0, J Z 0, J Z 0, J Z 0, V none 0 0, V none 0 0] 27)
 have HW : Hid (((w.alloc (.cells #[J Z n.id, J Z n.has, J Z n.spent, J Z n.earned, V n.sa n.seen.length n.sc, V n.pa n.peers.length n.pc] 27)).alloc (.cells #[J Z 5, J Z aid, J Z ato, J Z amt, J Z m_fr, J Z m_to, J Z m_kd, J Z m_seq, J Z m_amt] 31)).alloc (.cells #[J Z 0, J Z 0, J Z 0, J Z 0, V none 0 0, V none 0 0] 27) = W) := hide hW.symm
 have HF : Hid _ := hide hfo
 have HT : Hid (∀ j, (tkL n j).length ≤ 64) := hide (tkL_len n (nodeB_in hno).2.2.2 (ends_8 hno))
 have H8 : Hid _ := hide (ends_8 hno)
 obtain ⟨i0, hi0, hz0, hz1, hz2⟩ := info_parts infoMg
 have hu : Try.prog.underlying 34 = some (.slice 29) := by kernel_rfl
 clear hW s1 s2 hs h hno hp0 hfo
 go_enter Try.func8, Try.ntmps8
 go_wp2_with fail
 rw [HW.out]
 refine (specNodeOk_any _ _ _ _ _ n.seen _ _ n.peers _ W HS.out.1 HS.out.2.1 HS.out.2.2 (HL.out.seen.below HP.out.below) (HL.out.peers.below HP.out.below)).mono ?_
 rw [show nodeB ⟨n.id, n.has, n.spent, n.earned, n.seen, n.peers.map Pr.d⟩ = true from HO.out]
 rintro e w1 ⟨rfl, hb1⟩
 have HP1 : Hid (Pool [] w [[], [], [], [blk w.heap.size [J Z n.id, J Z n.has, J Z n.spent, J Z n.earned, V n.sa n.seen.length n.sc, V n.pa n.peers.length n.pc]], [blk (w.heap.size + 1) [J Z 5, J Z aid, J Z ato, J Z amt, J Z m_fr, J Z m_to, J Z m_kd, J Z m_seq, J Z m_amt]], [blk (w.heap.size + 1 + 1) [J Z 0, J Z 0, J Z 0, J Z 0, V none 0 0, V none 0 0]], [], [], [], [], []] w1) := hide (HP.out.keep hb1)
 clear hb1 HP HW
 have nc0 : w1.cell? ⟨w.heap.size, 0, none⟩ = some (J Z n.id) := (HP1.out.blkAt (i := 3) rfl).c 0 _ rfl
 have nc1 : w1.cell? ⟨w.heap.size, 1, none⟩ = some (J Z n.has) := (HP1.out.blkAt (i := 3) rfl).c 1 _ rfl
 have nc2 : w1.cell? ⟨w.heap.size, 2, none⟩ = some (J Z n.spent) := (HP1.out.blkAt (i := 3) rfl).c 2 _ rfl
 have nc3 : w1.cell? ⟨w.heap.size, 3, none⟩ = some (J Z n.earned) := (HP1.out.blkAt (i := 3) rfl).c 3 _ rfl
 have nc4 : w1.cell? ⟨w.heap.size, 4, none⟩ = some (V n.sa n.seen.length n.sc) := (HP1.out.blkAt (i := 3) rfl).c 4 _ rfl
 have nc5 : w1.cell? ⟨w.heap.size, 5, none⟩ = some (V n.pa n.peers.length n.pc) := (HP1.out.blkAt (i := 3) rfl).c 5 _ rfl
 go_wp2_with fail
 refine (l6Copy_any n w1 HS.out hn0 HP0.out (HL.out.below HP1.out.below)).mono ?_
 rintro e w2 ⟨n2, rfl, hd, hnear, hP2⟩
 have HD : Hid _ := hide hd
 have HN2 : Hid _ := hide hnear
 have hB : w2.heap.size = w2.heap.size := rfl
 have HP3 := (HP1.out.call (i := 0) (rs := []) (rs' := ndL n2) rfl hP2).newBlk (i := 7) rfl [J Z n2.id, J Z n2.has, J Z n2.spent, J Z n2.earned, V n2.sa n2.seen.length n2.sc, V n2.pa n2.peers.length n2.pc] 27
 obtain ⟨B, hB⟩ : ∃ B, B = w2.heap.size := ⟨_, rfl⟩
 obtain ⟨w3, hw3⟩ : ∃ w3, w3 = w2.alloc (.cells #[J Z n2.id, J Z n2.has, J Z n2.spent, J Z n2.earned, V n2.sa n2.seen.length n2.sc, V n2.pa n2.peers.length n2.pc] 27) := ⟨_, rfl⟩
 have HP4 : Hid (Pool [] w [ndL n2, [], [], [blk w.heap.size [J Z n.id, J Z n.has, J Z n.spent, J Z n.earned, V n.sa n.seen.length n.sc, V n.pa n.peers.length n.pc]], [blk (w.heap.size + 1) [J Z 5, J Z aid, J Z ato, J Z amt, J Z m_fr, J Z m_to, J Z m_kd, J Z m_seq, J Z m_amt]], [blk (w.heap.size + 1 + 1) [J Z 0, J Z 0, J Z 0, J Z 0, V none 0 0, V none 0 0]], [], [blk B [J Z n2.id, J Z n2.has, J Z n2.spent, J Z n2.earned, V n2.sa n2.seen.length n2.sc, V n2.pa n2.peers.length n2.pc]], [], [], []] w3) := hide (by rw [hB, hw3]; exact HP3)
 have HW3 : Hid _ := hide hw3
 have HBB : Hid _ := hide hB
 have nc0 : (w2.alloc (.cells #[J Z n2.id, J Z n2.has, J Z n2.spent, J Z n2.earned, V n2.sa n2.seen.length n2.sc, V n2.pa n2.peers.length n2.pc] 27)).cell? ⟨w.heap.size, 0, none⟩ = some (J Z n.id) := (HP3.blkAt (i := 3) rfl).c 0 _ rfl
 have nc1 : (w2.alloc (.cells #[J Z n2.id, J Z n2.has, J Z n2.spent, J Z n2.earned, V n2.sa n2.seen.length n2.sc, V n2.pa n2.peers.length n2.pc] 27)).cell? ⟨w.heap.size, 1, none⟩ = some (J Z n.has) := (HP3.blkAt (i := 3) rfl).c 1 _ rfl
 have nc2 : (w2.alloc (.cells #[J Z n2.id, J Z n2.has, J Z n2.spent, J Z n2.earned, V n2.sa n2.seen.length n2.sc, V n2.pa n2.peers.length n2.pc] 27)).cell? ⟨w.heap.size, 2, none⟩ = some (J Z n.spent) := (HP3.blkAt (i := 3) rfl).c 2 _ rfl
 have nc3 : (w2.alloc (.cells #[J Z n2.id, J Z n2.has, J Z n2.spent, J Z n2.earned, V n2.sa n2.seen.length n2.sc, V n2.pa n2.peers.length n2.pc] 27)).cell? ⟨w.heap.size, 3, none⟩ = some (J Z n.earned) := (HP3.blkAt (i := 3) rfl).c 3 _ rfl
 have nc4 : (w2.alloc (.cells #[J Z n2.id, J Z n2.has, J Z n2.spent, J Z n2.earned, V n2.sa n2.seen.length n2.sc, V n2.pa n2.peers.length n2.pc] 27)).cell? ⟨w.heap.size, 4, none⟩ = some (V n.sa n.seen.length n.sc) := (HP3.blkAt (i := 3) rfl).c 4 _ rfl
 have nc5 : (w2.alloc (.cells #[J Z n2.id, J Z n2.has, J Z n2.spent, J Z n2.earned, V n2.sa n2.seen.length n2.sc, V n2.pa n2.peers.length n2.pc] 27)).cell? ⟨w.heap.size, 5, none⟩ = some (V n.pa n.peers.length n.pc) := (HP3.blkAt (i := 3) rfl).c 5 _ rfl
 have na0 : (w2.alloc (.cells #[J Z n2.id, J Z n2.has, J Z n2.spent, J Z n2.earned, V n2.sa n2.seen.length n2.sc, V n2.pa n2.peers.length n2.pc] 27)).cell? ⟨w.heap.size + 1, 0, none⟩ = some (J Z 5) := (HP3.blkAt (i := 4) rfl).c 0 _ rfl
 have na1 : (w2.alloc (.cells #[J Z n2.id, J Z n2.has, J Z n2.spent, J Z n2.earned, V n2.sa n2.seen.length n2.sc, V n2.pa n2.peers.length n2.pc] 27)).cell? ⟨w.heap.size + 1, 1, none⟩ = some (J Z aid) := (HP3.blkAt (i := 4) rfl).c 1 _ rfl
 have na2 : (w2.alloc (.cells #[J Z n2.id, J Z n2.has, J Z n2.spent, J Z n2.earned, V n2.sa n2.seen.length n2.sc, V n2.pa n2.peers.length n2.pc] 27)).cell? ⟨w.heap.size + 1, 2, none⟩ = some (J Z ato) := (HP3.blkAt (i := 4) rfl).c 2 _ rfl
 have na3 : (w2.alloc (.cells #[J Z n2.id, J Z n2.has, J Z n2.spent, J Z n2.earned, V n2.sa n2.seen.length n2.sc, V n2.pa n2.peers.length n2.pc] 27)).cell? ⟨w.heap.size + 1, 3, none⟩ = some (J Z amt) := (HP3.blkAt (i := 4) rfl).c 3 _ rfl
 have na4 : (w2.alloc (.cells #[J Z n2.id, J Z n2.has, J Z n2.spent, J Z n2.earned, V n2.sa n2.seen.length n2.sc, V n2.pa n2.peers.length n2.pc] 27)).cell? ⟨w.heap.size + 1, 4, none⟩ = some (J Z m_fr) := (HP3.blkAt (i := 4) rfl).c 4 _ rfl
 have na5 : (w2.alloc (.cells #[J Z n2.id, J Z n2.has, J Z n2.spent, J Z n2.earned, V n2.sa n2.seen.length n2.sc, V n2.pa n2.peers.length n2.pc] 27)).cell? ⟨w.heap.size + 1, 5, none⟩ = some (J Z m_to) := (HP3.blkAt (i := 4) rfl).c 5 _ rfl
 have na6 : (w2.alloc (.cells #[J Z n2.id, J Z n2.has, J Z n2.spent, J Z n2.earned, V n2.sa n2.seen.length n2.sc, V n2.pa n2.peers.length n2.pc] 27)).cell? ⟨w.heap.size + 1, 6, none⟩ = some (J Z m_kd) := (HP3.blkAt (i := 4) rfl).c 6 _ rfl
 have na7 : (w2.alloc (.cells #[J Z n2.id, J Z n2.has, J Z n2.spent, J Z n2.earned, V n2.sa n2.seen.length n2.sc, V n2.pa n2.peers.length n2.pc] 27)).cell? ⟨w.heap.size + 1, 7, none⟩ = some (J Z m_seq) := (HP3.blkAt (i := 4) rfl).c 7 _ rfl
 have na8 : (w2.alloc (.cells #[J Z n2.id, J Z n2.has, J Z n2.spent, J Z n2.earned, V n2.sa n2.seen.length n2.sc, V n2.pa n2.peers.length n2.pc] 27)).cell? ⟨w.heap.size + 1, 8, none⟩ = some (J Z m_amt) := (HP3.blkAt (i := 4) rfl).c 8 _ rfl
 clear hw3 hB HP3 hP2 hd hnear
 unfold ndV
 go_wp2_with fail
 rw [← HBB.out, ← HW3.out]
 refine (l6Form_any _ _ _ _ _ _ _ _ _ _ 5 aid ato amt m_fr m_to m_kd m_seq m_amt w3).mono ?_
 rw [show actB n.id (⟨5, aid, ato, amt, ⟨m_fr, m_to, m_kd, m_seq, m_amt⟩⟩ : Ac) = true from HF.out]
 rintro e w4 ⟨rfl, hb4⟩
 have HP5 : Hid (Pool [] w [ndL n2, [], [], [blk w.heap.size [J Z n.id, J Z n.has, J Z n.spent, J Z n.earned, V n.sa n.seen.length n.sc, V n.pa n.peers.length n.pc]], [blk (w.heap.size + 1) [J Z 5, J Z aid, J Z ato, J Z amt, J Z m_fr, J Z m_to, J Z m_kd, J Z m_seq, J Z m_amt]], [blk (w.heap.size + 1 + 1) [J Z 0, J Z 0, J Z 0, J Z 0, V none 0 0, V none 0 0]], [], [blk B [J Z n2.id, J Z n2.has, J Z n2.spent, J Z n2.earned, V n2.sa n2.seen.length n2.sc, V n2.pa n2.peers.length n2.pc]], [], [], []] w4) := hide (HP4.out.keep hb4)
 clear hb4 HP4 HW3 HBB HP1
 have np : n.peers.length ≤ 1048576 := HS.out.2.1
 have HP6 : Hid (Pool [] w [ndL n2, [], [], [blk w.heap.size [J Z n.id, J Z n.has, J Z n.spent, J Z n.earned, V n.sa n.seen.length n.sc, V n.pa n.peers.length n.pc]], [blk (w.heap.size + 1) [J Z 5, J Z aid, J Z ato, J Z amt, J Z m_fr, J Z m_to, J Z m_kd, J Z m_seq, J Z m_amt]], [blk (w.heap.size + 1 + 1) [J Z 0, J Z 0, J Z 0, J Z 0, V none 0 0, V none 0 0]], [], [blk B [J Z n2.id, J Z n2.has, J Z n2.spent, J Z n2.earned, V n2.sa n2.seen.length n2.sc, V n2.pa n2.peers.length n2.pc]], [row 29 5 (V (some ⟨w4.heap.size, 0, none⟩) 0 0) (tkL n 0).length ((tkL n 0).flatMap mgCells)], [], []] (w4.alloc (.cells #[] 29))) := hide (by
  rw [tkL_zero]
  exact HP5.out.newRow (i := 8) rfl 29 5)
 have na0 : w4.cell? ⟨w.heap.size + 1, 0, none⟩ = some (J Z 5) := (HP5.out.blkAt (i := 4) rfl).c 0 _ rfl
 clear HP5
 go_wp2
 go_loopw [10, 11] (fun v i wr => ∃ (j : Nat), j ≤ n.peers.length ∧ i = J Z (j : Int) ∧ Hid (Pool [] w [ndL n2, [], [], [blk w.heap.size [J Z n.id, J Z n.has, J Z n.spent, J Z n.earned, V n.sa n.seen.length n.sc, V n.pa n.peers.length n.pc]], [blk (w.heap.size + 1) [J Z 5, J Z aid, J Z ato, J Z amt, J Z m_fr, J Z m_to, J Z m_kd, J Z m_seq, J Z m_amt]], [blk (w.heap.size + 1 + 1) [J Z 0, J Z 0, J Z 0, J Z 0, V none 0 0, V none 0 0]], [], [blk B [J Z n2.id, J Z n2.has, J Z n2.spent, J Z n2.earned, V n2.sa n2.seen.length n2.sc, V n2.pa n2.peers.length n2.pc]], [row 29 5 v (tkL n j).length ((tkL n j).flatMap mgCells)], [], []] wr)) (fun v i wr => n.peers.length - (intOf i).toNat)
 case atStart => exact ⟨0, Nat.zero_le _, rfl, HP6⟩
 case round =>
  clear HP6
  rename World => wo
  obtain ⟨j, hj, rfl, HM1⟩ := hrel
  have v5 : wo.cell? ⟨w.heap.size, 5, none⟩ = some (V n.pa n.peers.length n.pc) := (HM1.out.blkAt (i := 3) rfl).c 5 _ rfl
  by_cases hlt : j < n.peers.length
  ·have hlt' : (j : Int) < (n.peers.length : Int) := by omega
   obtain ⟨b, off, hpa, _⟩ := pr_row HL.out.peers.row j hlt
   have HPA : Hid (n.pa = some ⟨b, off, none⟩) := hide hpa
   have ne : n.peers[j].E.out.length ≤ 8 := H8.out _ (List.getElem_mem hlt)
   have HM2 : Hid (Pool [] w [ndL n2, [], [], [blk w.heap.size [J Z n.id, J Z n.has, J Z n.spent, J Z n.earned, V n.sa n.seen.length n.sc, V n.pa n.peers.length n.pc]], [blk (w.heap.size + 1) [J Z 5, J Z aid, J Z ato, J Z amt, J Z m_fr, J Z m_to, J Z m_kd, J Z m_seq, J Z m_amt]], [blk (w.heap.size + 1 + 1) [J Z 0, J Z 0, J Z 0, J Z 0, V none 0 0, V none 0 0]], [], [blk B [J Z n2.id, J Z n2.has, J Z n2.spent, J Z n2.earned, V n2.sa n2.seen.length n2.sc, V n2.pa n2.peers.length n2.pc]], [row 29 5 u10 (tkQ n j n.peers[j] 0).length ((tkQ n j n.peers[j] 0).flatMap mgCells)], [], []] wo) := hide (by rw [tkQ_zero]; exact HM1.out)
   clear hpa HM1
   go_wp2
   go_loopw [10, 12] (fun v i wr2 => ∃ (q : Nat), q ≤ n.peers[j].E.out.length ∧ i = J Z (q : Int) ∧ Hid (Pool [] w [ndL n2, [], [], [blk w.heap.size [J Z n.id, J Z n.has, J Z n.spent, J Z n.earned, V n.sa n.seen.length n.sc, V n.pa n.peers.length n.pc]], [blk (w.heap.size + 1) [J Z 5, J Z aid, J Z ato, J Z amt, J Z m_fr, J Z m_to, J Z m_kd, J Z m_seq, J Z m_amt]], [blk (w.heap.size + 1 + 1) [J Z 0, J Z 0, J Z 0, J Z 0, V none 0 0, V none 0 0]], [], [blk B [J Z n2.id, J Z n2.has, J Z n2.spent, J Z n2.earned, V n2.sa n2.seen.length n2.sc, V n2.pa n2.peers.length n2.pc]], [row 29 5 v (tkQ n j n.peers[j] q).length ((tkQ n j n.peers[j] q).flatMap mgCells)], [], []] wr2)) (fun v i wr2 => n.peers[j].E.out.length - (intOf i).toNat)
   case atStart => exact ⟨0, Nat.zero_le _, rfl, HM2⟩
   case round =>
    clear HM2 v5
    obtain ⟨q, hq, rfl, HM3⟩ := hrel
    have v5 : wr.cell? ⟨w.heap.size, 5, none⟩ = some (V (some ⟨b, off, none⟩) n.peers.length n.pc) := by rw [← HPA.out]; exact (HM3.out.blkAt (i := 3) rfl).c 5 _ rfl
    obtain ⟨d0, d1, d2, d3⟩ := pr_at HL.out.peers.row HM3.out.below HPA.out j hlt
    by_cases hlq : q < n.peers[j].E.out.length
    ·have hlq' : (q : Int) < (n.peers[j].E.out.length : Int) := by omega
     go_wp2_with fail
     rename_i K5 hK5
     have hlen : (tkQ n j n.peers[j] q).length ≤ 72 := by
      have h1 := HT.out j
      unfold tkQ
      simp only [List.length_append, List.length_take, mkMs, List.length_map]
      omega
     obtain ⟨b2, off2, hpb, _⟩ := prc_row (HL.out.peers.ends _ (List.getElem_mem hlt)) q hlq
     have HPB : Hid (n.peers[j].a = some ⟨b2, off2, none⟩) := hide hpb
     clear hpb v5 d0 d1 d2 d3
     obtain ⟨u10_, hu10⟩ : ∃ v, v = u10 := ⟨_, rfl⟩
     rw [← hu10] at HM3
     refine wp_region_inv (by kernel_rfl) (fun L act x => ∃ l0 l1 l2 l3 l4 l5 l6 l7 l8 l9 l10 l11 l12 l13 l14 l15 l16 l17 l18 l19 l20 l21 : Bool, ∃ u10 u72 u73 u74 u75 u76 u77 u78 u79 u80 u81 u82 u83 u84 u85 u86 u87 u88 u89 u90 u91 u92 : Value, L = #[l0, l1, l2, l3, l4, l5, l6, l7, l8, l9, l10, l11, l12, l13, l14, l15, l16, l17, l18, l19, l20, l21] ∧ act = { tmps := #[Value.agg #[J Z n.id, J Z n.has, J Z n.spent, J Z n.earned, V n.sa n.seen.length n.sc, V n.pa n.peers.length n.pc], Value.agg #[J Z 5, J Z aid, J Z ato, J Z amt, J Z m_fr, J Z m_to, J Z m_kd, J Z m_seq, J Z m_amt], Value.pointer (some { block := w.heap.size, off := 0 }), Value.pointer (some { block := w.heap.size + 1, off := 0 }), Value.pointer (some { block := w.heap.size + 1 + 1, off := 0 }), V none 0 0, J Z 0, Value.pointer (some { block := B, off := 0 }), U, U, u10, J Z ↑j, J Z ↑q, U, U, U, U, Value.agg #[J Z n.id, J Z n.has, J Z n.spent, J Z n.earned, V n.sa n.seen.length n.sc, V n.pa n.peers.length n.pc], Value.bool true, Value.bool false, U, Value.agg #[J Z n.id, J Z n.has, J Z n.spent, J Z n.earned, V n.sa n.seen.length n.sc, V n.pa n.peers.length n.pc], Value.agg #[J Z n2.id, J Z n2.has, J Z n2.spent, J Z n2.earned, V n2.sa n2.seen.length n2.sc, V n2.pa n2.peers.length n2.pc], Value.agg #[J Z n.id, J Z n.has, J Z n.spent, J Z n.earned, V n.sa n.seen.length n.sc, V n.pa n.peers.length n.pc], Value.agg #[J Z 5, J Z aid, J Z ato, J Z amt, J Z m_fr, J Z m_to, J Z m_kd, J Z m_seq, J Z m_amt], Value.bool true, Value.bool false, U, Value.pointer (some { block := w.heap.size + 1, off := 0 }), J Z 5, Value.bool false, Value.bool false, Value.bool false, U, U, U, U, U, U, U, U, Value.bool false, Value.bool false, U, U, U, U, U, U, U, Value.bool true, Value.bool true, V (some { block := w4.heap.size, off := 0 }) 0 0, J Z ↑j, Value.pointer (some { block := w.heap.size, off := 5 }), V n.pa n.peers.length n.pc, J Z ↑n.peers.length, Value.bool true, u58, u59, J Z ↑q, Value.pointer (some { block := w.heap.size, off := 5 }), V (some { block := b, off := off }) n.peers.length n.pc, J Z ↑j, Value.pointer (some { block := b, off := off + j * 4 }), Value.pointer (some { block := b, off := off + j * 4 + 1 }), Value.pointer (some { block := b, off := off + j * 4 + 1 }), V n.peers[j].a n.peers[j].E.out.length n.peers[j].cap, J Z ↑n.peers[j].E.out.length, Value.bool true, u70, u71, u72, u73, u74, u75, u76, u77, u78, u79, u80, u81, u82, u83, u84, u85, u86, u87, u88, u89, u90, u91, u92, U, U, U, U, U, U, U, U, U, U, U, U, U, U, U, U, U, U, U, U, U, U, U, U, U, U, U, U, U, U, U, U, U, U, U, U, U, U, U, U, U, U, U, U, U, U, U, U, U, U], defers := [] } ∧ TkF n n2 w B b off b2 off2 j q hlt hlq u10_ aid ato amt m_fr m_to m_kd m_seq m_amt l0 l1 l2 l3 l4 l5 l6 l7 l8 l9 l10 l11 l12 l13 l14 l15 l16 l17 l18 l19 l20 l21 u10 u72 u73 u74 u75 u76 u77 u78 u79 u80 u81 u82 u83 u84 u85 u86 u87 u88 u89 u90 u91 u92 x) ?_ ?_ ?_
     rotate_left 2
     ·exact ⟨false, false, false, false, false, false, false, false, false, false, false, false, false, false, false, false, false, false, false, false, false, false, (u10), (u72), (u73), (u74), (u75), (u76), (u77), (u78), (u79), (u80), (u81), (u82), (u83), (u84), (u85), (u86), (u87), (u88), (u89), (u90), (u91), (u92), rfl, rfl, ⟨HM3.out.drew, fun _ => hu10.symm, nofun, nofun, nofun, nofun, nofun, nofun, nofun, nofun, nofun, nofun, nofun, nofun, nofun, nofun, nofun, nofun, nofun, nofun, nofun, nofun, nofun, nofun, nofun, nofun, nofun⟩⟩
     ·rintro L act x i ⟨l0, l1, l2, l3, l4, l5, l6, l7, l8, l9, l10, l11, l12, l13, l14, l15, l16, l17, l18, l19, l20, l21, u10, u72, u73, u74, u75, u76, u77, u78, u79, u80, u81, u82, u83, u84, u85, u86, u87, u88, u89, u90, u91, u92, rfl, rfl, h⟩ hi K hK
      have hi15 : i < 22 := by
       obtain ⟨_, o, ho, _⟩ := mem_ready.1 hi
       exact (Array.getElem?_eq_some_iff.1 ho).1
      have hl := (mem_ready.1 hi).1
      obtain rfl | rfl | rfl | rfl | rfl | rfl | rfl | rfl | rfl | rfl | rfl | rfl | rfl | rfl | rfl | rfl | rfl | rfl | rfl | rfl | rfl | rfl := (by omega : i = 0 ∨ i = 1 ∨ i = 2 ∨ i = 3 ∨ i = 4 ∨ i = 5 ∨ i = 6 ∨ i = 7 ∨ i = 8 ∨ i = 9 ∨ i = 10 ∨ i = 11 ∨ i = 12 ∨ i = 13 ∨ i = 14 ∨ i = 15 ∨ i = 16 ∨ i = 17 ∨ i = 18 ∨ i = 19 ∨ i = 20 ∨ i = 21)
      ·have e : l0 = false := hl
       subst e
       have z21 : l21 = false := by
        cases hz : l21
        ·rfl
        ·exact absurd (h.d21_0 hz) (by simp)
       subst z21
       refine wpOp_run (v := u10_) (w' := x) (by rfl) (by rfl) ?_ (hK _ _ ⟨true, l1, l2, l3, l4, l5, l6, l7, l8, l9, l10, l11, l12, l13, l14, l15, l16, l17, l18, l19, l20, false, u10, (u10_), u73, u74, u75, u76, u77, u78, u79, u80, u81, u82, u83, u84, u85, u86, u87, u88, u89, u90, u91, u92, rfl, rfl, { h with p72 := (fun _ => rfl), b10 := (h.b10), d21_0 := fun _ => rfl }⟩)
       rw [h.b10 rfl]
       go_simp
      ·have e : l1 = false := hl
       subst e
       have c0_ : x.cell? ⟨w.heap.size, 0, none⟩ = some (J Z n.id) := (h.pool.blkAt (i := 3) rfl).c 0 _ rfl
       have c1_ : x.cell? ⟨w.heap.size, 1, none⟩ = some (J Z n.has) := (h.pool.blkAt (i := 3) rfl).c 1 _ rfl
       have c2_ : x.cell? ⟨w.heap.size, 2, none⟩ = some (J Z n.spent) := (h.pool.blkAt (i := 3) rfl).c 2 _ rfl
       have c3_ : x.cell? ⟨w.heap.size, 3, none⟩ = some (J Z n.earned) := (h.pool.blkAt (i := 3) rfl).c 3 _ rfl
       have c4_ : x.cell? ⟨w.heap.size, 4, none⟩ = some (V n.sa n.seen.length n.sc) := (h.pool.blkAt (i := 3) rfl).c 4 _ rfl
       have c5_ : x.cell? ⟨w.heap.size, 5, none⟩ = some (V n.pa n.peers.length n.pc) := (h.pool.blkAt (i := 3) rfl).c 5 _ rfl
       refine wpOp_run (v := .agg #[J Z n.id, J Z n.has, J Z n.spent, J Z n.earned, V n.sa n.seen.length n.sc, V n.pa n.peers.length n.pc]) (w' := x) (by rfl) (by rfl) ?_ (hK _ _ ⟨l0, true, l2, l3, l4, l5, l6, l7, l8, l9, l10, l11, l12, l13, l14, l15, l16, l17, l18, l19, l20, l21, u10, u72, (.agg #[J Z n.id, J Z n.has, J Z n.spent, J Z n.earned, V n.sa n.seen.length n.sc, V n.pa n.peers.length n.pc]), u74, u75, u76, u77, u78, u79, u80, u81, u82, u83, u84, u85, u86, u87, u88, u89, u90, u91, u92, rfl, rfl, { h with p73 := fun _ => rfl }⟩)
       go_simp
      ·have e : l2 = false := hl
       subst e
       refine wpOp_run (v := .pointer (some ⟨w.heap.size, 5, none⟩)) (w' := x) (by rfl) (by rfl) ?_ (hK _ _ ⟨l0, l1, true, l3, l4, l5, l6, l7, l8, l9, l10, l11, l12, l13, l14, l15, l16, l17, l18, l19, l20, l21, u10, u72, u73, (.pointer (some ⟨w.heap.size, 5, none⟩)), u75, u76, u77, u78, u79, u80, u81, u82, u83, u84, u85, u86, u87, u88, u89, u90, u91, u92, rfl, rfl, { h with p74 := fun _ => rfl }⟩)
       go_simp
      ·have e : l3 = false := hl
       subst e
       have d2 : l2 = true := ready_on hi 2 (by kernel_rfl)
       subst d2
       have c5_ : x.cell? ⟨w.heap.size, 5, none⟩ = some (V (some ⟨b, off, none⟩) n.peers.length n.pc) := by rw [← HPA.out]; exact (h.pool.blkAt (i := 3) rfl).c 5 _ rfl
       refine wpOp_run (v := V (some ⟨b, off, none⟩) n.peers.length n.pc) (w' := x) (by rfl) (by rfl) ?_ (hK _ _ ⟨l0, l1, true, true, l4, l5, l6, l7, l8, l9, l10, l11, l12, l13, l14, l15, l16, l17, l18, l19, l20, l21, u10, u72, u73, u74, (V (some ⟨b, off, none⟩) n.peers.length n.pc), u76, u77, u78, u79, u80, u81, u82, u83, u84, u85, u86, u87, u88, u89, u90, u91, u92, rfl, rfl, { h with p75 := fun _ => rfl }⟩)
       rw [h.p74 rfl]
       go_simp
      ·have e : l4 = false := hl
       subst e
       refine wpOp_run (v := J Z ↑j) (w' := x) (by rfl) (by rfl) ?_ (hK _ _ ⟨l0, l1, l2, l3, true, l5, l6, l7, l8, l9, l10, l11, l12, l13, l14, l15, l16, l17, l18, l19, l20, l21, u10, u72, u73, u74, u75, (J Z ↑j), u77, u78, u79, u80, u81, u82, u83, u84, u85, u86, u87, u88, u89, u90, u91, u92, rfl, rfl, { h with p76 := fun _ => rfl }⟩)
       go_simp
      ·have e : l5 = false := hl
       subst e
       have d3 : l3 = true := ready_on hi 3 (by kernel_rfl)
       subst d3
       have d4 : l4 = true := ready_on hi 4 (by kernel_rfl)
       subst d4
       refine wpOp_run (v := .pointer (some ⟨b, off + j * 4, none⟩)) (w' := x) (by rfl) (by rfl) ?_ (hK _ _ ⟨l0, l1, l2, true, true, true, l6, l7, l8, l9, l10, l11, l12, l13, l14, l15, l16, l17, l18, l19, l20, l21, u10, u72, u73, u74, u75, u76, (.pointer (some ⟨b, off + j * 4, none⟩)), u78, u79, u80, u81, u82, u83, u84, u85, u86, u87, u88, u89, u90, u91, u92, rfl, rfl, { h with p77 := fun _ => rfl }⟩)
       rw [h.p75 rfl, h.p76 rfl]
       go_simp
      ·have e : l6 = false := hl
       subst e
       have d5 : l5 = true := ready_on hi 5 (by kernel_rfl)
       subst d5
       refine wpOp_run (v := .pointer (some ⟨b, off + j * 4, none⟩)) (w' := x) (by rfl) (by rfl) ?_ (hK _ _ ⟨l0, l1, l2, l3, l4, true, true, l7, l8, l9, l10, l11, l12, l13, l14, l15, l16, l17, l18, l19, l20, l21, u10, u72, u73, u74, u75, u76, u77, (.pointer (some ⟨b, off + j * 4, none⟩)), u79, u80, u81, u82, u83, u84, u85, u86, u87, u88, u89, u90, u91, u92, rfl, rfl, { h with p78 := fun _ => rfl }⟩)
       rw [h.p77 rfl]
       go_simp
      ·have e : l7 = false := hl
       subst e
       have d6 : l6 = true := ready_on hi 6 (by kernel_rfl)
       subst d6
       obtain ⟨c0_, c1_, c2_, c3_⟩ := pr_at HL.out.peers.row h.pool.below HPA.out j hlt
       rw [HPB.out] at c1_
       refine wpOp_run (v := J Z n.peers[j].id) (w' := x) (by rfl) (by rfl) ?_ (hK _ _ ⟨l0, l1, l2, l3, l4, l5, true, true, l8, l9, l10, l11, l12, l13, l14, l15, l16, l17, l18, l19, l20, l21, u10, u72, u73, u74, u75, u76, u77, u78, (J Z n.peers[j].id), u80, u81, u82, u83, u84, u85, u86, u87, u88, u89, u90, u91, u92, rfl, rfl, { h with p79 := fun _ => rfl }⟩)
       rw [h.p78 rfl]
       go_simp
      ·have e : l8 = false := hl
       subst e
       refine wpOp_run (v := .pointer (some ⟨w.heap.size, 5, none⟩)) (w' := x) (by rfl) (by rfl) ?_ (hK _ _ ⟨l0, l1, l2, l3, l4, l5, l6, l7, true, l9, l10, l11, l12, l13, l14, l15, l16, l17, l18, l19, l20, l21, u10, u72, u73, u74, u75, u76, u77, u78, u79, (.pointer (some ⟨w.heap.size, 5, none⟩)), u81, u82, u83, u84, u85, u86, u87, u88, u89, u90, u91, u92, rfl, rfl, { h with p80 := fun _ => rfl }⟩)
       go_simp
      ·have e : l9 = false := hl
       subst e
       have d8 : l8 = true := ready_on hi 8 (by kernel_rfl)
       subst d8
       have c5_ : x.cell? ⟨w.heap.size, 5, none⟩ = some (V (some ⟨b, off, none⟩) n.peers.length n.pc) := by rw [← HPA.out]; exact (h.pool.blkAt (i := 3) rfl).c 5 _ rfl
       refine wpOp_run (v := V (some ⟨b, off, none⟩) n.peers.length n.pc) (w' := x) (by rfl) (by rfl) ?_ (hK _ _ ⟨l0, l1, l2, l3, l4, l5, l6, l7, true, true, l10, l11, l12, l13, l14, l15, l16, l17, l18, l19, l20, l21, u10, u72, u73, u74, u75, u76, u77, u78, u79, u80, (V (some ⟨b, off, none⟩) n.peers.length n.pc), u82, u83, u84, u85, u86, u87, u88, u89, u90, u91, u92, rfl, rfl, { h with p81 := fun _ => rfl }⟩)
       rw [h.p80 rfl]
       go_simp
      ·have e : l10 = false := hl
       subst e
       refine wpOp_run (v := J Z ↑j) (w' := x) (by rfl) (by rfl) ?_ (hK _ _ ⟨l0, l1, l2, l3, l4, l5, l6, l7, l8, l9, true, l11, l12, l13, l14, l15, l16, l17, l18, l19, l20, l21, u10, u72, u73, u74, u75, u76, u77, u78, u79, u80, u81, (J Z ↑j), u83, u84, u85, u86, u87, u88, u89, u90, u91, u92, rfl, rfl, { h with p82 := fun _ => rfl }⟩)
       go_simp
      ·have e : l11 = false := hl
       subst e
       have d9 : l9 = true := ready_on hi 9 (by kernel_rfl)
       subst d9
       have d10 : l10 = true := ready_on hi 10 (by kernel_rfl)
       subst d10
       refine wpOp_run (v := .pointer (some ⟨b, off + j * 4, none⟩)) (w' := x) (by rfl) (by rfl) ?_ (hK _ _ ⟨l0, l1, l2, l3, l4, l5, l6, l7, l8, true, true, true, l12, l13, l14, l15, l16, l17, l18, l19, l20, l21, u10, u72, u73, u74, u75, u76, u77, u78, u79, u80, u81, u82, (.pointer (some ⟨b, off + j * 4, none⟩)), u84, u85, u86, u87, u88, u89, u90, u91, u92, rfl, rfl, { h with p83 := fun _ => rfl }⟩)
       rw [h.p81 rfl, h.p82 rfl]
       go_simp
      ·have e : l12 = false := hl
       subst e
       have d11 : l11 = true := ready_on hi 11 (by kernel_rfl)
       subst d11
       refine wpOp_run (v := .pointer (some ⟨b, off + j * 4 + 1, none⟩)) (w' := x) (by rfl) (by rfl) ?_ (hK _ _ ⟨l0, l1, l2, l3, l4, l5, l6, l7, l8, l9, l10, true, true, l13, l14, l15, l16, l17, l18, l19, l20, l21, u10, u72, u73, u74, u75, u76, u77, u78, u79, u80, u81, u82, u83, (.pointer (some ⟨b, off + j * 4 + 1, none⟩)), u85, u86, u87, u88, u89, u90, u91, u92, rfl, rfl, { h with p84 := fun _ => rfl }⟩)
       rw [h.p83 rfl]
       go_simp
      ·have e : l13 = false := hl
       subst e
       have d12 : l12 = true := ready_on hi 12 (by kernel_rfl)
       subst d12
       refine wpOp_run (v := .pointer (some ⟨b, off + j * 4 + 1, none⟩)) (w' := x) (by rfl) (by rfl) ?_ (hK _ _ ⟨l0, l1, l2, l3, l4, l5, l6, l7, l8, l9, l10, l11, true, true, l14, l15, l16, l17, l18, l19, l20, l21, u10, u72, u73, u74, u75, u76, u77, u78, u79, u80, u81, u82, u83, u84, (.pointer (some ⟨b, off + j * 4 + 1, none⟩)), u86, u87, u88, u89, u90, u91, u92, rfl, rfl, { h with p85 := fun _ => rfl }⟩)
       rw [h.p84 rfl]
       go_simp
      ·have e : l14 = false := hl
       subst e
       have d13 : l13 = true := ready_on hi 13 (by kernel_rfl)
       subst d13
       obtain ⟨c0_, c1_, c2_, c3_⟩ := pr_at HL.out.peers.row h.pool.below HPA.out j hlt
       rw [HPB.out] at c1_
       refine wpOp_run (v := V (some ⟨b2, off2, none⟩) n.peers[j].E.out.length n.peers[j].cap) (w' := x) (by rfl) (by rfl) ?_ (hK _ _ ⟨l0, l1, l2, l3, l4, l5, l6, l7, l8, l9, l10, l11, l12, true, true, l15, l16, l17, l18, l19, l20, l21, u10, u72, u73, u74, u75, u76, u77, u78, u79, u80, u81, u82, u83, u84, u85, (V (some ⟨b2, off2, none⟩) n.peers[j].E.out.length n.peers[j].cap), u87, u88, u89, u90, u91, u92, rfl, rfl, { h with p86 := fun _ => rfl }⟩)
       rw [h.p85 rfl]
       go_simp
      ·have e : l15 = false := hl
       subst e
       refine wpOp_run (v := J Z ↑q) (w' := x) (by rfl) (by rfl) ?_ (hK _ _ ⟨l0, l1, l2, l3, l4, l5, l6, l7, l8, l9, l10, l11, l12, l13, l14, true, l16, l17, l18, l19, l20, l21, u10, u72, u73, u74, u75, u76, u77, u78, u79, u80, u81, u82, u83, u84, u85, u86, (J Z ↑q), u88, u89, u90, u91, u92, rfl, rfl, { h with p87 := fun _ => rfl }⟩)
       go_simp
      ·have e : l16 = false := hl
       subst e
       have d14 : l14 = true := ready_on hi 14 (by kernel_rfl)
       subst d14
       have d15 : l15 = true := ready_on hi 15 (by kernel_rfl)
       subst d15
       refine wpOp_run (v := .pointer (some ⟨b2, off2 + q * 2, none⟩)) (w' := x) (by rfl) (by rfl) ?_ (hK _ _ ⟨l0, l1, l2, l3, l4, l5, l6, l7, l8, l9, l10, l11, l12, l13, true, true, true, l17, l18, l19, l20, l21, u10, u72, u73, u74, u75, u76, u77, u78, u79, u80, u81, u82, u83, u84, u85, u86, u87, (.pointer (some ⟨b2, off2 + q * 2, none⟩)), u89, u90, u91, u92, rfl, rfl, { h with p88 := fun _ => rfl }⟩)
       rw [h.p86 rfl, h.p87 rfl]
       go_simp
      ·have e : l17 = false := hl
       subst e
       have d16 : l16 = true := ready_on hi 16 (by kernel_rfl)
       subst d16
       obtain ⟨c0_, c1_⟩ := prc_at (HL.out.peers.ends _ (List.getElem_mem hlt)) h.pool.below HPB.out q hlq
       refine wpOp_run (v := .agg #[J Z n.peers[j].E.out[q].seq, J Z n.peers[j].E.out[q].amt]) (w' := x) (by rfl) (by rfl) ?_ (hK _ _ ⟨l0, l1, l2, l3, l4, l5, l6, l7, l8, l9, l10, l11, l12, l13, l14, l15, true, true, l18, l19, l20, l21, u10, u72, u73, u74, u75, u76, u77, u78, u79, u80, u81, u82, u83, u84, u85, u86, u87, u88, (.agg #[J Z n.peers[j].E.out[q].seq, J Z n.peers[j].E.out[q].amt]), u90, u91, u92, rfl, rfl, { h with p89 := fun _ => rfl }⟩)
       rw [h.p88 rfl]
       go_simp
      ·have e : l18 = false := hl
       subst e
       have d1 : l1 = true := ready_on hi 1 (by kernel_rfl)
       subst d1
       have d7 : l7 = true := ready_on hi 7 (by kernel_rfl)
       subst d7
       have d17 : l17 = true := ready_on hi 17 (by kernel_rfl)
       subst d17
       have z19 : l19 = false := by
        cases hz : l19
        ·rfl
        ·exact absurd (h.d19_18 hz) (by simp)
       subst z19
       refine wpOp_call (by rfl) (by rfl) ?_ (l6Parcel_any n.id n.has n.spent n.earned n.sa n.seen.length n.sc n.pa n.peers.length n.pc n.peers[j].id n.peers[j].E.out[q].seq n.peers[j].E.out[q].amt x) ?_
       ·rw [h.p73 rfl, h.p79 rfl, h.p89 rfl]; go_simp
       ·rintro e w' ⟨rfl, hb⟩
        exact ⟨_, rfl, hK _ _ ⟨l0, true, l2, l3, l4, l5, l6, true, l8, l9, l10, l11, l12, l13, l14, l15, l16, true, true, false, l20, l21, u10, u72, u73, u74, u75, u76, u77, u78, u79, u80, u81, u82, u83, u84, u85, u86, u87, u88, u89, (.agg #[J Z n.id, J Z n.peers[j].id, J Z 1, J Z n.peers[j].E.out[q].seq, J Z n.peers[j].E.out[q].amt]), u91, u92, rfl, rfl, { h with q90 := (fun _ => rfl), pool := (h.pool.keep hb), d19_18 := fun _ => rfl }⟩⟩
      ·have e : l19 = false := hl
       subst e
       have d18 : l18 = true := ready_on hi 18 (by kernel_rfl)
       subst d18
       have z20 : l20 = false := by
        cases hz : l20
        ·rfl
        ·exact absurd (h.d20_19 hz) (by simp)
       subst z20
       refine wpOp_run (v := V (some ⟨x.heap.size, 0, none⟩) 1 1) (w' := x.alloc (.cells (mgCells (⟨n.id, n.peers[j].id, 1, n.peers[j].E.out[q].seq, n.peers[j].E.out[q].amt⟩ : Mg)).toArray 29)) (by rfl) (by rfl) ?_ (hK _ _ ⟨l0, l1, l2, l3, l4, l5, l6, l7, l8, l9, l10, l11, l12, l13, l14, l15, l16, l17, true, true, false, l21, u10, u72, u73, u74, u75, u76, u77, u78, u79, u80, u81, u82, u83, u84, u85, u86, u87, u88, u89, u90, (V (some ⟨x.heap.size, 0, none⟩) 1 1), u92, rfl, rfl, { h with q91 := (fun _ => rfl), pool := (h.pool.newBlk (i := 9) rfl (mgCells (⟨n.id, n.peers[j].id, 1, n.peers[j].E.out[q].seq, n.peers[j].E.out[q].amt⟩ : Mg)) 29), d20_19 := fun _ => rfl, d19_18 := fun _ => rfl }⟩)
       rw [h.q90 rfl]
       go_simp
       rfl
      ·have e : l20 = false := hl
       subst e
       have d0 : l0 = true := ready_on hi 0 (by kernel_rfl)
       subst d0
       have d18 : l18 = true := ready_on hi 18 (by kernel_rfl)
       subst d18
       have d19 : l19 = true := ready_on hi 19 (by kernel_rfl)
       subst d19
       have z21 : l21 = false := by
        cases hz : l21
        ·rfl
        ·exact absurd (h.d21_20 hz) (by simp)
       subst z21
       obtain ⟨v', y, hr, hp⟩ := h.pool.append (P := Try.prog) (i0 := 8) rfl 34 34 i0 _ 40 hu hi0 hz0 hz1 hz2 rfl (by decide) (some ⟨gOf (slA u91), 0, none⟩) 1 1 (mgCells (⟨n.id, n.peers[j].id, 1, n.peers[j].E.out[q].seq, n.peers[j].E.out[q].amt⟩ : Mg)) rfl (fun e => by cases e) (blk_news (h.pool.blkAt (i := 9) rfl)) (mg_one _) (by unfold maxLen; omega) (by omega)
       refine wpOp_run (v := v') (w' := y) (by rfl) (by rfl) ?_ (hK _ _ ⟨true, l1, l2, l3, l4, l5, l6, l7, l8, l9, l10, l11, l12, l13, l14, l15, l16, l17, true, true, true, false, u10, u72, u73, u74, u75, u76, u77, u78, u79, u80, u81, u82, u83, u84, u85, u86, u87, u88, u89, u90, u91, (v'), rfl, rfl, { h with e10 := (fun q => by cases q), pool := (hp), d20_19 := fun _ => rfl, d21_20 := fun _ => rfl }⟩)
       exact exec_append rfl (h.p72 rfl) (h.q91 rfl) hr
      ·have e : l21 = false := hl
       subst e
       have d0 : l0 = true := ready_on hi 0 (by kernel_rfl)
       subst d0
       have d1 : l1 = true := ready_on hi 1 (by kernel_rfl)
       subst d1
       have d2 : l2 = true := ready_on hi 2 (by kernel_rfl)
       subst d2
       have d3 : l3 = true := ready_on hi 3 (by kernel_rfl)
       subst d3
       have d4 : l4 = true := ready_on hi 4 (by kernel_rfl)
       subst d4
       have d5 : l5 = true := ready_on hi 5 (by kernel_rfl)
       subst d5
       have d6 : l6 = true := ready_on hi 6 (by kernel_rfl)
       subst d6
       have d7 : l7 = true := ready_on hi 7 (by kernel_rfl)
       subst d7
       have d8 : l8 = true := ready_on hi 8 (by kernel_rfl)
       subst d8
       have d9 : l9 = true := ready_on hi 9 (by kernel_rfl)
       subst d9
       have d10 : l10 = true := ready_on hi 10 (by kernel_rfl)
       subst d10
       have d11 : l11 = true := ready_on hi 11 (by kernel_rfl)
       subst d11
       have d12 : l12 = true := ready_on hi 12 (by kernel_rfl)
       subst d12
       have d13 : l13 = true := ready_on hi 13 (by kernel_rfl)
       subst d13
       have d14 : l14 = true := ready_on hi 14 (by kernel_rfl)
       subst d14
       have d15 : l15 = true := ready_on hi 15 (by kernel_rfl)
       subst d15
       have d16 : l16 = true := ready_on hi 16 (by kernel_rfl)
       subst d16
       have d17 : l17 = true := ready_on hi 17 (by kernel_rfl)
       subst d17
       have d18 : l18 = true := ready_on hi 18 (by kernel_rfl)
       subst d18
       have d19 : l19 = true := ready_on hi 19 (by kernel_rfl)
       subst d19
       have d20 : l20 = true := ready_on hi 20 (by kernel_rfl)
       subst d20
       refine wpOp_run (v := u92) (w' := x) (by rfl) (by rfl) ?_ (hK _ _ ⟨true, true, true, true, true, true, true, true, true, true, true, true, true, true, true, true, true, true, true, true, true, true, (u92), u72, u73, u74, u75, u76, u77, u78, u79, u80, u81, u82, u83, u84, u85, u86, u87, u88, u89, u90, u91, u92, rfl, rfl, { h with b10 := (fun q => by cases q), e10 := (fun _ => rfl), d21_0 := fun _ => rfl, d21_20 := fun _ => rfl }⟩)
       go_simp
     ·rintro L act x ⟨l0, l1, l2, l3, l4, l5, l6, l7, l8, l9, l10, l11, l12, l13, l14, l15, l16, l17, l18, l19, l20, l21, u10, u72, u73, u74, u75, u76, u77, u78, u79, u80, u81, u82, u83, u84, u85, u86, u87, u88, u89, u90, u91, u92, rfl, rfl, h⟩ hr
      have hall := ready_all hr rfl (by decide)
      have t0 : l0 = true := hall 0 (by decide)
      have t1 : l1 = true := hall 1 (by decide)
      have t2 : l2 = true := hall 2 (by decide)
      have t3 : l3 = true := hall 3 (by decide)
      have t4 : l4 = true := hall 4 (by decide)
      have t5 : l5 = true := hall 5 (by decide)
      have t6 : l6 = true := hall 6 (by decide)
      have t7 : l7 = true := hall 7 (by decide)
      have t8 : l8 = true := hall 8 (by decide)
      have t9 : l9 = true := hall 9 (by decide)
      have t10 : l10 = true := hall 10 (by decide)
      have t11 : l11 = true := hall 11 (by decide)
      have t12 : l12 = true := hall 12 (by decide)
      have t13 : l13 = true := hall 13 (by decide)
      have t14 : l14 = true := hall 14 (by decide)
      have t15 : l15 = true := hall 15 (by decide)
      have t16 : l16 = true := hall 16 (by decide)
      have t17 : l17 = true := hall 17 (by decide)
      have t18 : l18 = true := hall 18 (by decide)
      have t19 : l19 = true := hall 19 (by decide)
      have t20 : l20 = true := hall 20 (by decide)
      have t21 : l21 = true := hall 21 (by decide)
      subst t0 t1 t2 t3 t4 t5 t6 t7 t8 t9 t10 t11 t12 t13 t14 t15 t16 t17 t18 t19 t20 t21
      clear hall hr
      have e10 := h.e10 rfl
      have HM4 : Hid (Pool [] w [ndL n2, [], [], [blk w.heap.size [J Z n.id, J Z n.has, J Z n.spent, J Z n.earned, V n.sa n.seen.length n.sc, V n.pa n.peers.length n.pc]], [blk (w.heap.size + 1) [J Z 5, J Z aid, J Z ato, J Z amt, J Z m_fr, J Z m_to, J Z m_kd, J Z m_seq, J Z m_amt]], [blk (w.heap.size + 1 + 1) [J Z 0, J Z 0, J Z 0, J Z 0, V none 0 0, V none 0 0]], [], [blk B [J Z n2.id, J Z n2.has, J Z n2.spent, J Z n2.earned, V n2.sa n2.seen.length n2.sc, V n2.pa n2.peers.length n2.pc]], [row 29 5 u92 (tkQ n j n.peers[j] (q + 1)).length ((tkQ n j n.peers[j] (q + 1)).flatMap mgCells)], [], []] x) := hide (by
       rw [tkQ_step n j n.peers[j] q hlq, List.length_append, List.flatMap_append]
       simpa using h.pool.drop (i := 9) rfl)
      clear h
      subst e10
      refine hK5 _ _ ?_
      clear hK5 HM3
      go_wp2
      exact ⟨⟨q + 1, by omega, by go_num, HM4⟩, by simp [intOf]; omega⟩
    ·have hlq' : ¬ (q : Int) < (n.peers[j].E.out.length : Int) := by omega
     have HM5 : Hid (Pool [] w [ndL n2, [], [], [blk w.heap.size [J Z n.id, J Z n.has, J Z n.spent, J Z n.earned, V n.sa n.seen.length n.sc, V n.pa n.peers.length n.pc]], [blk (w.heap.size + 1) [J Z 5, J Z aid, J Z ato, J Z amt, J Z m_fr, J Z m_to, J Z m_kd, J Z m_seq, J Z m_amt]], [blk (w.heap.size + 1 + 1) [J Z 0, J Z 0, J Z 0, J Z 0, V none 0 0, V none 0 0]], [], [blk B [J Z n2.id, J Z n2.has, J Z n2.spent, J Z n2.earned, V n2.sa n2.seen.length n2.sc, V n2.pa n2.peers.length n2.pc]], [row 29 5 u10 (tkL n (j + 1)).length ((tkL n (j + 1)).flatMap mgCells)], [], []] wr) := hide (by
      have e : q = n.peers[j].E.out.length := by omega
      rw [← tkQ_all n j hlt, ← e]
      exact HM3.out)
     clear HM3
     go_wp2
     exact ⟨⟨j + 1, by omega, by go_num, HM5⟩, by simp [intOf]; omega⟩
  ·have hlt' : ¬ (j : Int) < (n.peers.length : Int) := by omega
   have HM6 : Hid (Pool [] w [ndL n2, [], [], [blk w.heap.size [J Z n.id, J Z n.has, J Z n.spent, J Z n.earned, V n.sa n.seen.length n.sc, V n.pa n.peers.length n.pc]], [blk (w.heap.size + 1) [J Z 5, J Z aid, J Z ato, J Z amt, J Z m_fr, J Z m_to, J Z m_kd, J Z m_seq, J Z m_amt]], [blk (w.heap.size + 1 + 1) [J Z 0, J Z 0, J Z 0, J Z 0, V none 0 0, V none 0 0]], [], [blk B [J Z n2.id, J Z n2.has, J Z n2.spent, J Z n2.earned, V n2.sa n2.seen.length n2.sc, V n2.pa n2.peers.length n2.pc]], [row 29 5 u10 (tickM n.d).length ((tickM n.d).flatMap mgCells)], [], []] wo) := hide (by
    have e : tickM n.d = tkL n j := by rw [← tkL_all n, show j = n.peers.length by omega]
    rw [e]
    exact HM1.out)
   obtain ⟨ma, mc, em, HM7⟩ := HM6.out.asOrow mgLen (i := 8) (l := tickM n.d) rfl
   subst em
   have HM8 : Hid _ := hide HM7
   clear HM1 HM6 HM7
   have nb0 : wo.cell? ⟨B, 0, none⟩ = some (J Z n2.id) := (HM8.out.blkAt (i := 7) rfl).c 0 _ rfl
   have nb1 : wo.cell? ⟨B, 1, none⟩ = some (J Z n2.has) := (HM8.out.blkAt (i := 7) rfl).c 1 _ rfl
   have nb2 : wo.cell? ⟨B, 2, none⟩ = some (J Z n2.spent) := (HM8.out.blkAt (i := 7) rfl).c 2 _ rfl
   have nb3 : wo.cell? ⟨B, 3, none⟩ = some (J Z n2.earned) := (HM8.out.blkAt (i := 7) rfl).c 3 _ rfl
   have nb4 : wo.cell? ⟨B, 4, none⟩ = some (V n2.sa n2.seen.length n2.sc) := (HM8.out.blkAt (i := 7) rfl).c 4 _ rfl
   have nb5 : wo.cell? ⟨B, 5, none⟩ = some (V n2.pa n2.peers.length n2.pc) := (HM8.out.blkAt (i := 7) rfl).c 5 _ rfl
   have ny0 : wo.cell? ⟨w.heap.size + 1 + 1, 0, none⟩ = some (J Z 0) := (HM8.out.blkAt (i := 5) rfl).c 0 _ rfl
   have ny1 : wo.cell? ⟨w.heap.size + 1 + 1, 1, none⟩ = some (J Z 0) := (HM8.out.blkAt (i := 5) rfl).c 1 _ rfl
   have ny2 : wo.cell? ⟨w.heap.size + 1 + 1, 2, none⟩ = some (J Z 0) := (HM8.out.blkAt (i := 5) rfl).c 2 _ rfl
   have ny3 : wo.cell? ⟨w.heap.size + 1 + 1, 3, none⟩ = some (J Z 0) := (HM8.out.blkAt (i := 5) rfl).c 3 _ rfl
   have ny4 : wo.cell? ⟨w.heap.size + 1 + 1, 4, none⟩ = some (V none 0 0) := (HM8.out.blkAt (i := 5) rfl).c 4 _ rfl
   have ny5 : wo.cell? ⟨w.heap.size + 1 + 1, 5, none⟩ = some (V none 0 0) := (HM8.out.blkAt (i := 5) rfl).c 5 _ rfl
   have zny0 : wo.frozen? ⟨w.heap.size + 1 + 1, 0, none⟩ = false := (HM8.out.blkAt (i := 5) rfl).f 0
   have zny1 : wo.frozen? ⟨w.heap.size + 1 + 1, 1, none⟩ = false := (HM8.out.blkAt (i := 5) rfl).f 1
   have zny2 : wo.frozen? ⟨w.heap.size + 1 + 1, 2, none⟩ = false := (HM8.out.blkAt (i := 5) rfl).f 2
   have zny3 : wo.frozen? ⟨w.heap.size + 1 + 1, 3, none⟩ = false := (HM8.out.blkAt (i := 5) rfl).f 3
   have zny4 : wo.frozen? ⟨w.heap.size + 1 + 1, 4, none⟩ = false := (HM8.out.blkAt (i := 5) rfl).f 4
   have zny5 : wo.frozen? ⟨w.heap.size + 1 + 1, 5, none⟩ = false := (HM8.out.blkAt (i := 5) rfl).f 5
   have HQ : Hid _ := hide (HM8.out.set6 (i := 5) rfl (J Z n2.id) (J Z n2.has) (J Z n2.spent) (J Z n2.earned) (V n2.sa n2.seen.length n2.sc) (V n2.pa n2.peers.length n2.pc))
   go_wp2
   refine name_post (fun W9 hW9 => ?_)
   have hq := HQ.out
   rw [← hW9] at hq
   have z_ := hq.blkAt (i := 5) rfl
   have g0_ := z_.c 0 _ rfl
   have g1_ := z_.c 1 _ rfl
   have g2_ := z_.c 2 _ rfl
   have g3_ := z_.c 3 _ rfl
   have g4_ := z_.c 4 _ rfl
   have g5_ := z_.c 5 _ rfl
   have hq2 := hq
   exact bodyPost_ret (v := .tuple #[ndV n2, V ma (tickM n.d).length mc, J Z 0]) (by simp [results, Try.results8, go_sem, g0_, g1_, g2_, g3_, g4_, g5_, ndV]) rfl ⟨n2, ma, mc, (by rw [HM.out] <;> rfl), (by rw [HM.out] <;> exact HD.out), (by
    rw [HM.out]
    exact (((((((hq2.drop (i := 10) rfl).drop (i := 9) rfl).drop (i := 7) rfl).drop (i := 6) rfl).drop (i := 5) rfl).drop (i := 4) rfl).drop (i := 3) rfl).cast (by simp [ndL, endsL]))⟩
end Go.Proofs.Ytkcpoibhlnjldaa
