/- The contract of the model's l6Take. -/
import Derived.Test.YtkcpoibhlnjldaaBb
import Derived.Test.YtkcpoibhlnjldaaAcS4
import Derived.Test.YtkcpoibhlnjldaaPoolN
import Derived.Test.YtkcpoibhlnjldaaSAck
import Derived.Test.YtkcpoibhlnjldaaSRcv2
import Derived.Test.YtkcpoibhlnjldaaAcI7
namespace Go.Proofs.Ytkcpoibhlnjldaa
open Go.Value renaming int → J, slice → V
open Go.IntKind renaming i64 → Z
open Go renaming undef → U
open Go.ChangeShapes Go.WideShapes Go.ChangeAt Go.RowKit
set_option linter.unusedVariables false
set_option maxRecDepth 100000
/-- a node and messages of the call's own, and a code -/
def ActedEnd (F : List Nat) (R : NdD × List Mg × Int) (w : World) (e : Ending) (w' : World) : Prop := ∃ (n' : Nd) (a : Option Addr) (c : Nat), e = .returned (.tuple #[ndV n', V a R.2.1.length c, J Z R.2.2]) ∧ n'.d = R.1 ∧ Pool F w [ndL n', [orow 5 mgCells a c R.2.1]] w'
theorem orow_nil_fp {A' : Type} (sz : Nat) (f : A' → List Value) (a : Option Addr) (c : Nat) : (orow sz f a c ([] : List A')).fp = [] := rfl
/-- no message -/
theorem Pool.noMsg {F : List Nat} {w x : World} {S : List (List Rs)} (h : Pool F w S x) {i : Nat} (hi : S[i]? = some []) : Pool F w (S.set i [orow 5 mgCells none 0 ([] : List Mg)]) x :=
 h.new hi (Below.refl _ _) (Star.ofOrow (g := 0) (OwnRow.nil (fun _ => rfl))).1 (fun c hc => by simp [fps_one, orow_nil_fp] at hc)
theorem specAcked_pool (a : Option Addr) (l : List Prc) (cap : Nat) (sent got s : Int) (w : World) (hl : l.length ≤ 1048576) (h : RowAt 2 prcCells w a l) :
  Calls Try.prog 53 #[.agg #[V a l.length cap, J Z sent, J Z got], J Z s] w fun e w' => ∃ a5 c5, e = .returned (.tuple #[.agg #[V a5 (ackE ⟨l, sent, got⟩ s).out.length c5, J Z (ackE ⟨l, sent, got⟩ s).sent, J Z (ackE ⟨l, sent, got⟩ s).got], .bool (ackOk ⟨l, sent, got⟩ s)]) ∧ Below w.heap.size w w' ∧ Star [orow 2 prcCells a5 c5 (ackE ⟨l, sent, got⟩ s).out] w' ∧ ∀ b ∈ fps [orow 2 prcCells a5 c5 (ackE ⟨l, sent, got⟩ s).out], w.heap.size ≤ b := by
 refine (specAcked_any a l cap sent got s w hl h).mono ?_
 rintro e w1 ⟨hb, v, rfl, hn⟩
 obtain ⟨a5, c5, rfl, st, hi⟩ := hn.star
 exact ⟨a5, c5, rfl, hb, st, hi⟩
theorem specReceived_pool (a : Option Addr) (l : List Prc) (cap : Nat) (sent got s m : Int) (w : World) (hl : l.length ≤ 1048576) (hn0 : a = none → cap = 0) (h : RowAt 2 prcCells w a l) :
  Calls Try.prog 54 #[.agg #[V a l.length cap, J Z sent, J Z got], .agg #[J Z s, J Z m]] w fun e w' => ∃ a5 c5, e = .returned (.tuple #[.agg #[V a5 (rcvE ⟨l, sent, got⟩ ⟨s, m⟩).out.length c5, J Z (rcvE ⟨l, sent, got⟩ ⟨s, m⟩).sent, J Z (rcvE ⟨l, sent, got⟩ ⟨s, m⟩).got], J Z (rcvX ⟨l, sent, got⟩ ⟨s, m⟩), J Z (rcvY ⟨l, sent, got⟩ ⟨s, m⟩)]) ∧ Below w.heap.size w w' ∧ Star [orow 2 prcCells a5 c5 (rcvE ⟨l, sent, got⟩ ⟨s, m⟩).out] w' ∧ ∀ b ∈ fps [orow 2 prcCells a5 c5 (rcvE ⟨l, sent, got⟩ ⟨s, m⟩).out], w.heap.size ≤ b := by
 refine (specReceived_any a l cap sent got s m w hl hn0 h).mono ?_
 rintro e w1 ⟨hb, v, rfl, hn⟩
 obtain ⟨a5, c5, rfl, st, hi⟩ := hn.star
 exact ⟨a5, c5, rfl, hb, st, hi⟩
theorem rcvX_bd (E : En) (p : Prc) : 0 ≤ rcvX E p ∧ rcvX E p ≤ 1000000000000 := by
 unfold rcvX
 split
 ·rename_i h
  split
  ·simp only [rcvOk, pOkB, inB, Bool.and_eq_true, decide_eq_true_eq] at h
   omega
  ·omega
 ·omega
theorem own_of_blk {x : World} {g : Nat} {m : Mg} (h : Blk g (mgCells m) x) : OwnRow 5 mgCells x g (some ⟨g, 0, none⟩) 1 [m] :=
 ⟨fun i hi => ⟨g, 0, rfl, h.lt, fun r v hv => by
  have hi0 : i = 0 := by simpa using hi
  subst hi0
  have := h.c r v (by simpa using hv)
  simpa using this⟩, fun _ => ⟨rfl, h.f⟩, by simp, fun q => by cases q⟩
theorem Pool.asMsg {F : List Nat} {w x : World} {S : List (List Rs)} (h : Pool F w S x) {i g : Nat} {m : Mg} (hi : S[i]? = some [blk g (mgCells m)]) : Pool F w (S.set i [orow 5 mgCells (some ⟨g, 0, none⟩) 1 [m]]) x := by
 obtain ⟨st, hb⟩ := Star.ofOrow (own_of_blk (h.blkAt hi))
 exact h.step hi (Fr.refl _ _) st (fun b q => .inl (by rw [fps_one, blk_fp, hb b q]; simp))
theorem Star.ends {n : Nd} {w : World} (h : Star (ndL n) w) {k : Nat} (hk : k < n.peers.length) : OwnRow 2 prcCells w (gOf n.peers[k].a) n.peers[k].a n.peers[k].cap n.peers[k].E.out := h.all (orow 2 prcCells n.peers[k].a n.peers[k].cap n.peers[k].E.out) (by simp only [ndL, endsL, List.mem_cons, List.mem_map]; exact .inr (.inr ⟨_, List.getElem_mem hk, rfl⟩))
theorem Pool.endAt {F : List Nat} {w x : World} {S : List (List Rs)} (h : Pool F w S x) {i : Nat} {l : List Pr} (hi : S[i]? = some (endsL l)) {k : Nat} (hk : k < l.length) : OwnRow 2 prcCells x (gOf l[k].a) l[k].a l[k].cap l[k].E.out := (h.get hi).all (orow 2 prcCells l[k].a l[k].cap l[k].E.out) (by simp only [endsL, List.mem_map]; exact ⟨_, List.getElem_mem hk, rfl⟩)
theorem own_off {A' : Type} {sz : Nat} {f : A' → List Value} {w : World} {g : Nat} {a : Option Addr} {cap : Nat} {l : List A'} (h : OwnRow sz f w g a cap l) {k : Nat} (hk : k < l.length) : a = some ⟨g, 0, none⟩ := (h.own (by omega)).1
theorem peer_at {x : World} {g : Nat} {a : Option Addr} {cap : Nat} {l : List Pr} (h : OwnRow 4 prCells x g a cap l) {k : Nat} (hk : k < l.length) : x.cell? ⟨g, k * 4, none⟩ = some (J Z l[k].id) ∧ x.cell? ⟨g, k * 4 + 1, none⟩ = some (V l[k].a l[k].E.out.length l[k].cap) ∧ x.cell? ⟨g, k * 4 + 2, none⟩ = some (J Z l[k].E.sent) ∧ x.cell? ⟨g, k * 4 + 3, none⟩ = some (J Z l[k].E.got) := by
 obtain ⟨b, off, e, _, c0, c1, c2, c3⟩ := pr_row h.rows k hk
 rw [own_off h hk] at e
 simp only [Option.some.injEq, Addr.mk.injEq, and_true] at e
 obtain ⟨rfl, rfl⟩ := e
 simp only [Nat.zero_add] at c0 c1 c2 c3
 exact ⟨c0, c1, c2, c3⟩
set_option maxHeartbeats 4000000 in
theorem take_none (n : Nd) (kd m_fr m_to m_seq m_amt : Int) (w : World) (hs : SmL n.peers) (h : Star (ndL n) w) (hr : 0 ≤ n.has ∧ n.has ≤ 10000000000000) (hf : fi (n.peers.map Pr.id) m_fr = none) :
  Calls Try.prog 21 #[.agg #[J Z n.id, J Z n.has, J Z n.spent, J Z n.earned, V n.sa n.seen.length n.sc, V n.pa n.peers.length n.pc], .agg #[J Z m_fr, J Z m_to, J Z kd, J Z m_seq, J Z m_amt]] w fun e w' => ActedEnd (fps (ndL n)) (takeM n.d ⟨m_fr, m_to, kd, m_seq, m_amt⟩) w e w' := by
 obtain ⟨hs1, hs2⟩ := hs
 obtain ⟨r1, r2⟩ := hr
 obtain ⟨W, hW⟩ : ∃ W, W = ((w.alloc (.cells #[J Z n.id, J Z n.has, J Z n.spent, J Z n.earned, V n.sa n.seen.length n.sc, V n.pa n.peers.length n.pc] 27)).alloc (.cells #[J Z m_fr, J Z m_to, J Z kd, J Z m_seq, J Z m_amt] 29)).alloc (.cells #[J Z 0, J Z 0, J Z 0, J Z 0, V none 0 0, V none 0 0] 27) := ⟨_, rfl⟩
 have s1 : (w.alloc (.cells #[J Z n.id, J Z n.has, J Z n.spent, J Z n.earned, V n.sa n.seen.length n.sc, V n.pa n.peers.length n.pc] 27)).heap.size = w.heap.size + 1 := by simp
 have s2 : ((w.alloc (.cells #[J Z n.id, J Z n.has, J Z n.spent, J Z n.earned, V n.sa n.seen.length n.sc, V n.pa n.peers.length n.pc] 27)).alloc (.cells #[J Z m_fr, J Z m_to, J Z kd, J Z m_seq, J Z m_amt] 29)).heap.size = w.heap.size + 1 + 1 := by simp
 have HP : Hid (Pool (fps (ndL n)) w [[orow 2 snCells n.sa n.sc n.seen], [orow 4 prCells n.pa n.pc n.peers], endsL n.peers, [blk w.heap.size [J Z n.id, J Z n.has, J Z n.spent, J Z n.earned, V n.sa n.seen.length n.sc, V n.pa n.peers.length n.pc]], [blk (w.heap.size + 1) [J Z m_fr, J Z m_to, J Z kd, J Z m_seq, J Z m_amt]], [blk (w.heap.size + 1 + 1) [J Z 0, J Z 0, J Z 0, J Z 0, V none 0 0, V none 0 0]], [], [], []] W) := hide (by
  rw [hW, ← s2, ← s1]
  exact ((((Pool.of h).cast (S' := [[orow 2 snCells n.sa n.sc n.seen], [orow 4 prCells n.pa n.pc n.peers], endsL n.peers, [], [], [], [], [], []]) (by simp [ndL])).newBlk (i := 3) rfl [J Z n.id, J Z n.has, J Z n.spent, J Z n.earned, V n.sa n.seen.length n.sc, V n.pa n.peers.length n.pc] 27).newBlk (i := 4) rfl [J Z m_fr, J Z m_to, J Z kd, J Z m_seq, J Z m_amt] 29).newBlk (i := 5) rfl [J Z 0, J Z 0, J Z 0, J Z 0, V none 0 0, V none 0 0] 27)
 have HW : Hid (((w.alloc (.cells #[J Z n.id, J Z n.has, J Z n.spent, J Z n.earned, V n.sa n.seen.length n.sc, V n.pa n.peers.length n.pc] 27)).alloc (.cells #[J Z m_fr, J Z m_to, J Z kd, J Z m_seq, J Z m_amt] 29)).alloc (.cells #[J Z 0, J Z 0, J Z 0, J Z 0, V none 0 0, V none 0 0] 27) = W) := hide hW.symm
 clear hW s1 s2
 go_enter Try.func21, Try.ntmps21
 go_wp2_with fail
 rw [HW.out]
 refine (l6Peer_any n m_fr W hs1 (HP.out.orowAt (i := 1) rfl).rows).mono ?_
 rw [hf]
 rintro e w1 ⟨rfl, hb1⟩
 have HP1 : Hid (Pool (fps (ndL n)) w [[orow 2 snCells n.sa n.sc n.seen], [orow 4 prCells n.pa n.pc n.peers], endsL n.peers, [blk w.heap.size [J Z n.id, J Z n.has, J Z n.spent, J Z n.earned, V n.sa n.seen.length n.sc, V n.pa n.peers.length n.pc]], [blk (w.heap.size + 1) [J Z m_fr, J Z m_to, J Z kd, J Z m_seq, J Z m_amt]], [blk (w.heap.size + 1 + 1) [J Z 0, J Z 0, J Z 0, J Z 0, V none 0 0, V none 0 0]], [], [], []] w1) := hide (HP.out.keep hb1)
 clear hb1 HP HW
 have HM : Hid (takeM n.d ⟨m_fr, m_to, kd, m_seq, m_amt⟩ = (n.d, [], 3)) := hide (by unfold takeM; rw [show n.d.peers.map PD.id = n.peers.map Pr.id from ids_p _, hf])
 clear hf
 unfold ixV
 have nc0 : w1.cell? ⟨w.heap.size, 0, none⟩ = some (J Z n.id) := (HP1.out.blkAt (i := 3) rfl).c 0 _ rfl
 have nc1 : w1.cell? ⟨w.heap.size, 1, none⟩ = some (J Z n.has) := (HP1.out.blkAt (i := 3) rfl).c 1 _ rfl
 have nc2 : w1.cell? ⟨w.heap.size, 2, none⟩ = some (J Z n.spent) := (HP1.out.blkAt (i := 3) rfl).c 2 _ rfl
 have nc3 : w1.cell? ⟨w.heap.size, 3, none⟩ = some (J Z n.earned) := (HP1.out.blkAt (i := 3) rfl).c 3 _ rfl
 have nc4 : w1.cell? ⟨w.heap.size, 4, none⟩ = some (V n.sa n.seen.length n.sc) := (HP1.out.blkAt (i := 3) rfl).c 4 _ rfl
 have nc5 : w1.cell? ⟨w.heap.size, 5, none⟩ = some (V n.pa n.peers.length n.pc) := (HP1.out.blkAt (i := 3) rfl).c 5 _ rfl
 have ny0 : w1.cell? ⟨w.heap.size + 1 + 1, 0, none⟩ = some (J Z 0) := (HP1.out.blkAt (i := 5) rfl).c 0 _ rfl
 have ny1 : w1.cell? ⟨w.heap.size + 1 + 1, 1, none⟩ = some (J Z 0) := (HP1.out.blkAt (i := 5) rfl).c 1 _ rfl
 have ny2 : w1.cell? ⟨w.heap.size + 1 + 1, 2, none⟩ = some (J Z 0) := (HP1.out.blkAt (i := 5) rfl).c 2 _ rfl
 have ny3 : w1.cell? ⟨w.heap.size + 1 + 1, 3, none⟩ = some (J Z 0) := (HP1.out.blkAt (i := 5) rfl).c 3 _ rfl
 have ny4 : w1.cell? ⟨w.heap.size + 1 + 1, 4, none⟩ = some (V none 0 0) := (HP1.out.blkAt (i := 5) rfl).c 4 _ rfl
 have ny5 : w1.cell? ⟨w.heap.size + 1 + 1, 5, none⟩ = some (V none 0 0) := (HP1.out.blkAt (i := 5) rfl).c 5 _ rfl
 have zny0 : w1.frozen? ⟨w.heap.size + 1 + 1, 0, none⟩ = false := (HP1.out.blkAt (i := 5) rfl).f 0
 have zny1 : w1.frozen? ⟨w.heap.size + 1 + 1, 1, none⟩ = false := (HP1.out.blkAt (i := 5) rfl).f 1
 have zny2 : w1.frozen? ⟨w.heap.size + 1 + 1, 2, none⟩ = false := (HP1.out.blkAt (i := 5) rfl).f 2
 have zny3 : w1.frozen? ⟨w.heap.size + 1 + 1, 3, none⟩ = false := (HP1.out.blkAt (i := 5) rfl).f 3
 have zny4 : w1.frozen? ⟨w.heap.size + 1 + 1, 4, none⟩ = false := (HP1.out.blkAt (i := 5) rfl).f 4
 have zny5 : w1.frozen? ⟨w.heap.size + 1 + 1, 5, none⟩ = false := (HP1.out.blkAt (i := 5) rfl).f 5
 have HQ : Hid _ := hide (HP1.out.set6 (i := 5) rfl (J Z n.id) (J Z n.has) (J Z n.spent) (J Z n.earned) (V n.sa n.seen.length n.sc) (V n.pa n.peers.length n.pc))
 go_wp2
 refine name_post (fun W9 hW9 => ?_)
 have hq := HQ.out
 rw [← hW9] at hq
 have z_ := hq.blkAt (i := 5) rfl
 have g0_ := z_.c 0 _ rfl
 have g1_ := z_.c 1 _ rfl
 have g2_ := z_.c 2 _ rfl
 have g3_ := z_.c 3 _ rfl
 have g4_ := z_.c 4 _ rfl
 have g5_ := z_.c 5 _ rfl
 have hq2 := hq.noMsg (i := 8) rfl
 exact bodyPost_ret (v := .tuple #[ndV n, V none 0 0, J Z (3)]) (by simp [results, Try.results21, go_sem, g0_, g1_, g2_, g3_, g4_, g5_, ndV]) rfl ⟨n, none, 0, (by rw [HM.out] <;> rfl), (by rw [HM.out] <;> rfl), (by
  rw [HM.out]
  exact ((((((hq2.drop (i := 7) rfl).drop (i := 6) rfl).drop (i := 5) rfl).drop (i := 4) rfl).drop (i := 3) rfl)).cast (by simp [ndL]))⟩
structure TkY (n : Nd) (w : World) (G k : Nat) (hk : k < n.peers.length) (m_fr m_to m_seq m_amt : Int) (l0 l1 l2 l3 l4 l5 l6 l7 l8 l9 l10 l11 l12 l13 l14 : Bool) (u8 u9 u23 u24 u25 u26 u27 u28 u29 u30 u31 u32 u33 u34 : Value) (x : World) : Prop where
 pool : Pool (fps (ndL n)) w [[orow 2 snCells n.sa n.sc n.seen], [orow 4 prCells n.pa n.pc n.peers], endsL n.peers, [blk w.heap.size [J Z n.id, J Z n.has, J Z n.spent, J Z n.earned, V n.sa n.seen.length n.sc, V n.pa n.peers.length n.pc]], [blk (w.heap.size + 1) [J Z m_fr, J Z m_to, J Z 2, J Z m_seq, J Z m_amt]], [blk (w.heap.size + 1 + 1) [J Z 0, J Z 0, J Z 0, J Z 0, V none 0 0, V none 0 0]], cond l8 [orow 2 prcCells (slA u32) (slC u32) (ackE n.peers[k].E m_seq).out] [], cond l13 [blk (ptB u8) [V (slA u32) (ackE n.peers[k].E m_seq).out.length (slC u32), J Z (ackE n.peers[k].E m_seq).sent, J Z (ackE n.peers[k].E m_seq).got]] (cond l12 [blk (ptB u8) [V none 0 0, J Z 0, J Z 0]] []), []] x
 q32 : l8 = true → u32 = .tuple #[.agg #[V (slA u32) (ackE n.peers[k].E m_seq).out.length (slC u32), J Z (ackE n.peers[k].E m_seq).sent, J Z (ackE n.peers[k].E m_seq).got], .bool true]
 q23 : l9 = true → u23 = .tuple #[.agg #[V (slA u32) (ackE n.peers[k].E m_seq).out.length (slC u32), J Z (ackE n.peers[k].E m_seq).sent, J Z (ackE n.peers[k].E m_seq).got], .bool true]
 q33 : l10 = true → u33 = .agg #[V (slA u32) (ackE n.peers[k].E m_seq).out.length (slC u32), J Z (ackE n.peers[k].E m_seq).sent, J Z (ackE n.peers[k].E m_seq).got]
 q34 : l11 = true → u34 = .bool true
 q9 : l14 = true → u9 = .bool true
 a8 : l12 = true → u8 = .pointer (some ⟨ptB u8, 0, none⟩)
 d9_8 : l9 = true → l8 = true
 d10_8 : l10 = true → l8 = true
 d13_8 : l13 = true → l8 = true
 d13_12 : l13 = true → l12 = true
 d10_9 : l10 = true → l9 = true
 d13_10 : l13 = true → l10 = true
 p24 : l0 = true → u24 = .pointer (some ⟨w.heap.size, 5, none⟩)
 p25 : l1 = true → u25 = V (some ⟨G, 0, none⟩) n.peers.length n.pc
 p26 : l2 = true → u26 = J Z ↑k
 p27 : l3 = true → u27 = .pointer (some ⟨G, k * 4, none⟩)
 p28 : l4 = true → u28 = .pointer (some ⟨G, k * 4 + 1, none⟩)
 p29 : l5 = true → u29 = .agg #[V n.peers[k].a n.peers[k].E.out.length n.peers[k].cap, J Z n.peers[k].E.sent, J Z n.peers[k].E.got]
 p30 : l6 = true → u30 = .pointer (some ⟨w.heap.size + 1, 3, none⟩)
 p31 : l7 = true → u31 = J Z m_seq
set_option maxHeartbeats 4000000 in
theorem take_ack (n : Nd) (m_fr m_to m_seq m_amt : Int) (w : World) (hs : SmL n.peers) (h : Star (ndL n) w) (hr : 0 ≤ n.has ∧ n.has ≤ 10000000000000) (k : Nat) (hk : k < n.peers.length) (hf : fi (n.peers.map Pr.id) m_fr = some k) (hq : ackOk n.peers[k].E m_seq = true) :
  Calls Try.prog 21 #[.agg #[J Z n.id, J Z n.has, J Z n.spent, J Z n.earned, V n.sa n.seen.length n.sc, V n.pa n.peers.length n.pc], .agg #[J Z m_fr, J Z m_to, J Z 2, J Z m_seq, J Z m_amt]] w fun e w' => ActedEnd (fps (ndL n)) (takeM n.d ⟨m_fr, m_to, 2, m_seq, m_amt⟩) w e w' := by
 obtain ⟨hs1, hs2⟩ := hs
 obtain ⟨r1, r2⟩ := hr
 obtain ⟨W, hW⟩ : ∃ W, W = ((w.alloc (.cells #[J Z n.id, J Z n.has, J Z n.spent, J Z n.earned, V n.sa n.seen.length n.sc, V n.pa n.peers.length n.pc] 27)).alloc (.cells #[J Z m_fr, J Z m_to, J Z 2, J Z m_seq, J Z m_amt] 29)).alloc (.cells #[J Z 0, J Z 0, J Z 0, J Z 0, V none 0 0, V none 0 0] 27) := ⟨_, rfl⟩
 have s1 : (w.alloc (.cells #[J Z n.id, J Z n.has, J Z n.spent, J Z n.earned, V n.sa n.seen.length n.sc, V n.pa n.peers.length n.pc] 27)).heap.size = w.heap.size + 1 := by simp
 have s2 : ((w.alloc (.cells #[J Z n.id, J Z n.has, J Z n.spent, J Z n.earned, V n.sa n.seen.length n.sc, V n.pa n.peers.length n.pc] 27)).alloc (.cells #[J Z m_fr, J Z m_to, J Z 2, J Z m_seq, J Z m_amt] 29)).heap.size = w.heap.size + 1 + 1 := by simp
 have HP : Hid (Pool (fps (ndL n)) w [[orow 2 snCells n.sa n.sc n.seen], [orow 4 prCells n.pa n.pc n.peers], endsL n.peers, [blk w.heap.size [J Z n.id, J Z n.has, J Z n.spent, J Z n.earned, V n.sa n.seen.length n.sc, V n.pa n.peers.length n.pc]], [blk (w.heap.size + 1) [J Z m_fr, J Z m_to, J Z 2, J Z m_seq, J Z m_amt]], [blk (w.heap.size + 1 + 1) [J Z 0, J Z 0, J Z 0, J Z 0, V none 0 0, V none 0 0]], [], [], []] W) := hide (by
  rw [hW, ← s2, ← s1]
  exact ((((Pool.of h).cast (S' := [[orow 2 snCells n.sa n.sc n.seen], [orow 4 prCells n.pa n.pc n.peers], endsL n.peers, [], [], [], [], [], []]) (by simp [ndL])).newBlk (i := 3) rfl [J Z n.id, J Z n.has, J Z n.spent, J Z n.earned, V n.sa n.seen.length n.sc, V n.pa n.peers.length n.pc] 27).newBlk (i := 4) rfl [J Z m_fr, J Z m_to, J Z 2, J Z m_seq, J Z m_amt] 29).newBlk (i := 5) rfl [J Z 0, J Z 0, J Z 0, J Z 0, V none 0 0, V none 0 0] 27)
 have HW : Hid (((w.alloc (.cells #[J Z n.id, J Z n.has, J Z n.spent, J Z n.earned, V n.sa n.seen.length n.sc, V n.pa n.peers.length n.pc] 27)).alloc (.cells #[J Z m_fr, J Z m_to, J Z 2, J Z m_seq, J Z m_amt] 29)).alloc (.cells #[J Z 0, J Z 0, J Z 0, J Z 0, V none 0 0, V none 0 0] 27) = W) := hide hW.symm
 clear hW s1 s2
 go_enter Try.func21, Try.ntmps21
 go_wp2_with fail
 rw [HW.out]
 refine (l6Peer_any n m_fr W hs1 (HP.out.orowAt (i := 1) rfl).rows).mono ?_
 rw [hf]
 rintro e w1 ⟨rfl, hb1⟩
 have HP1 : Hid (Pool (fps (ndL n)) w [[orow 2 snCells n.sa n.sc n.seen], [orow 4 prCells n.pa n.pc n.peers], endsL n.peers, [blk w.heap.size [J Z n.id, J Z n.has, J Z n.spent, J Z n.earned, V n.sa n.seen.length n.sc, V n.pa n.peers.length n.pc]], [blk (w.heap.size + 1) [J Z m_fr, J Z m_to, J Z 2, J Z m_seq, J Z m_amt]], [blk (w.heap.size + 1 + 1) [J Z 0, J Z 0, J Z 0, J Z 0, V none 0 0, V none 0 0]], [], [], []] w1) := hide (HP.out.keep hb1)
 clear hb1 HP HW
 have HM : Hid (takeM n.d ⟨m_fr, m_to, 2, m_seq, m_amt⟩ = ((⟨n.id, n.has, n.spent, n.earned, n.seen, (n.peers.map Pr.d).set k ⟨n.peers[k].id, ackE n.peers[k].E m_seq⟩⟩ : NdD), [], 0)) := hide (by
  unfold takeM
  rw [show n.d.peers.map PD.id = n.peers.map Pr.id from ids_p _, hf]
  simp only [Nd.d, List.getElem?_map, List.getElem?_eq_getElem hk, Option.map_some, Pr.d]
  simp [hq])
 clear hf
 unfold ixV
 have hpa : n.pa = some ⟨gOf n.pa, 0, none⟩ := own_off (HP1.out.orowAt (i := 1) rfl) hk
 obtain ⟨G, hG⟩ : ∃ G, G = gOf n.pa := ⟨_, rfl⟩
 rw [← hG] at hpa
 have HG : Hid (G = gOf n.pa) := hide hG
 have HPA : Hid (n.pa = some ⟨G, 0, none⟩) := hide hpa
 clear hG hpa
 have nc0 : w1.cell? ⟨w.heap.size, 0, none⟩ = some (J Z n.id) := (HP1.out.blkAt (i := 3) rfl).c 0 _ rfl
 have nc1 : w1.cell? ⟨w.heap.size, 1, none⟩ = some (J Z n.has) := (HP1.out.blkAt (i := 3) rfl).c 1 _ rfl
 have nc2 : w1.cell? ⟨w.heap.size, 2, none⟩ = some (J Z n.spent) := (HP1.out.blkAt (i := 3) rfl).c 2 _ rfl
 have nc3 : w1.cell? ⟨w.heap.size, 3, none⟩ = some (J Z n.earned) := (HP1.out.blkAt (i := 3) rfl).c 3 _ rfl
 have nc4 : w1.cell? ⟨w.heap.size, 4, none⟩ = some (V n.sa n.seen.length n.sc) := (HP1.out.blkAt (i := 3) rfl).c 4 _ rfl
 have nc5 : w1.cell? ⟨w.heap.size, 5, none⟩ = some (V n.pa n.peers.length n.pc) := (HP1.out.blkAt (i := 3) rfl).c 5 _ rfl
 have nd0 : w1.cell? ⟨w.heap.size + 1, 0, none⟩ = some (J Z m_fr) := (HP1.out.blkAt (i := 4) rfl).c 0 _ rfl
 have nd1 : w1.cell? ⟨w.heap.size + 1, 1, none⟩ = some (J Z m_to) := (HP1.out.blkAt (i := 4) rfl).c 1 _ rfl
 have nd2 : w1.cell? ⟨w.heap.size + 1, 2, none⟩ = some (J Z 2) := (HP1.out.blkAt (i := 4) rfl).c 2 _ rfl
 have nd3 : w1.cell? ⟨w.heap.size + 1, 3, none⟩ = some (J Z m_seq) := (HP1.out.blkAt (i := 4) rfl).c 3 _ rfl
 have nd4 : w1.cell? ⟨w.heap.size + 1, 4, none⟩ = some (J Z m_amt) := (HP1.out.blkAt (i := 4) rfl).c 4 _ rfl
 go_wp2_with fail
 rename_i K5 hK5
 refine wp_region_inv (by kernel_rfl) (fun L act x => ∃ l0 l1 l2 l3 l4 l5 l6 l7 l8 l9 l10 l11 l12 l13 l14 : Bool, ∃ u8 u9 u23 u24 u25 u26 u27 u28 u29 u30 u31 u32 u33 u34 : Value, L = #[l0, l1, l2, l3, l4, l5, l6, l7, l8, l9, l10, l11, l12, l13, l14] ∧ act = { tmps := #[Value.agg #[J Z n.id, J Z n.has, J Z n.spent, J Z n.earned, V n.sa n.seen.length n.sc, V n.pa n.peers.length n.pc], Value.agg #[J Z m_fr, J Z m_to, J Z 2, J Z m_seq, J Z m_amt], Value.pointer (some { block := w.heap.size, off := 0 }), Value.pointer (some { block := w.heap.size + 1, off := 0 }), Value.pointer (some { block := w.heap.size + 1 + 1, off := 0 }), V none 0 0, J Z 0, J Z ↑k, u8, u9, U, U, U, Value.agg #[J Z n.id, J Z n.has, J Z n.spent, J Z n.earned, V n.sa n.seen.length n.sc, V n.pa n.peers.length n.pc], Value.pointer (some { block := w.heap.size + 1, off := 0 }), J Z m_fr, J Z ↑k, J Z ↑k, Value.bool (decide (↑k < 0)), U, Value.pointer (some { block := w.heap.size + 1, off := 2 }), J Z 2, Value.bool true, u23, u24, u25, u26, u27, u28, u29, u30, u31, u32, u33, u34, U, U, U, U, U, U, U, U, U, U, U, U, U, U, U, U, U, U, U, U, U, U, U, U, U, U, U, U, U, U, U, U, U, U, U, U, U, U, U, U, U, U, U, U, U, U, U, U, U, U, U], defers := [] } ∧ TkY n w G k hk m_fr m_to m_seq m_amt l0 l1 l2 l3 l4 l5 l6 l7 l8 l9 l10 l11 l12 l13 l14 u8 u9 u23 u24 u25 u26 u27 u28 u29 u30 u31 u32 u33 u34 x) ?_ ?_ ?_
 rotate_left 2
 ·exact ⟨false, false, false, false, false, false, false, false, false, false, false, false, false, false, false, U, U, U, U, U, U, U, U, U, U, U, U, U, U, rfl, rfl, ⟨HP1.out.drew, nofun, nofun, nofun, nofun, nofun, nofun, nofun, nofun, nofun, nofun, nofun, nofun, nofun, nofun, nofun, nofun, nofun, nofun, nofun, nofun⟩⟩
 ·rintro L act x i ⟨l0, l1, l2, l3, l4, l5, l6, l7, l8, l9, l10, l11, l12, l13, l14, u8, u9, u23, u24, u25, u26, u27, u28, u29, u30, u31, u32, u33, u34, rfl, rfl, h⟩ hi K hK
  have hi15 : i < 15 := by
   obtain ⟨_, o, ho, _⟩ := mem_ready.1 hi
   exact (Array.getElem?_eq_some_iff.1 ho).1
  have hl := (mem_ready.1 hi).1
  obtain rfl | rfl | rfl | rfl | rfl | rfl | rfl | rfl | rfl | rfl | rfl | rfl | rfl | rfl | rfl := (by omega : i = 0 ∨ i = 1 ∨ i = 2 ∨ i = 3 ∨ i = 4 ∨ i = 5 ∨ i = 6 ∨ i = 7 ∨ i = 8 ∨ i = 9 ∨ i = 10 ∨ i = 11 ∨ i = 12 ∨ i = 13 ∨ i = 14)
  ·have e : l0 = false := hl
   subst e
   refine wpOp_run (v := .pointer (some ⟨w.heap.size, 5, none⟩)) (w' := x) (by rfl) (by rfl) ?_ (hK _ _ ⟨true, l1, l2, l3, l4, l5, l6, l7, l8, l9, l10, l11, l12, l13, l14, u8, u9, u23, (.pointer (some ⟨w.heap.size, 5, none⟩)), u25, u26, u27, u28, u29, u30, u31, u32, u33, u34, rfl, rfl, { h with p24 := fun _ => rfl }⟩)
   go_simp
  ·have e : l1 = false := hl
   subst e
   have d0 : l0 = true := ready_on hi 0 (by kernel_rfl)
   subst d0
   have c5_ : x.cell? ⟨w.heap.size, 5, none⟩ = some (V (some ⟨G, 0, none⟩) n.peers.length n.pc) := by rw [← HPA.out]; exact (h.pool.blkAt (i := 3) rfl).c 5 _ rfl
   refine wpOp_run (v := V (some ⟨G, 0, none⟩) n.peers.length n.pc) (w' := x) (by rfl) (by rfl) ?_ (hK _ _ ⟨true, true, l2, l3, l4, l5, l6, l7, l8, l9, l10, l11, l12, l13, l14, u8, u9, u23, u24, (V (some ⟨G, 0, none⟩) n.peers.length n.pc), u26, u27, u28, u29, u30, u31, u32, u33, u34, rfl, rfl, { h with p25 := fun _ => rfl }⟩)
   rw [h.p24 rfl]
   go_simp
  ·have e : l2 = false := hl
   subst e
   refine wpOp_run (v := J Z ↑k) (w' := x) (by rfl) (by rfl) ?_ (hK _ _ ⟨l0, l1, true, l3, l4, l5, l6, l7, l8, l9, l10, l11, l12, l13, l14, u8, u9, u23, u24, u25, (J Z ↑k), u27, u28, u29, u30, u31, u32, u33, u34, rfl, rfl, { h with p26 := fun _ => rfl }⟩)
   go_simp
  ·have e : l3 = false := hl
   subst e
   have d1 : l1 = true := ready_on hi 1 (by kernel_rfl)
   subst d1
   have d2 : l2 = true := ready_on hi 2 (by kernel_rfl)
   subst d2
   refine wpOp_run (v := .pointer (some ⟨G, k * 4, none⟩)) (w' := x) (by rfl) (by rfl) ?_ (hK _ _ ⟨l0, true, true, true, l4, l5, l6, l7, l8, l9, l10, l11, l12, l13, l14, u8, u9, u23, u24, u25, u26, (.pointer (some ⟨G, k * 4, none⟩)), u28, u29, u30, u31, u32, u33, u34, rfl, rfl, { h with p27 := fun _ => rfl }⟩)
   rw [h.p25 rfl, h.p26 rfl]
   go_simp
  ·have e : l4 = false := hl
   subst e
   have d3 : l3 = true := ready_on hi 3 (by kernel_rfl)
   subst d3
   refine wpOp_run (v := .pointer (some ⟨G, k * 4 + 1, none⟩)) (w' := x) (by rfl) (by rfl) ?_ (hK _ _ ⟨l0, l1, l2, true, true, l5, l6, l7, l8, l9, l10, l11, l12, l13, l14, u8, u9, u23, u24, u25, u26, u27, (.pointer (some ⟨G, k * 4 + 1, none⟩)), u29, u30, u31, u32, u33, u34, rfl, rfl, { h with p28 := fun _ => rfl }⟩)
   rw [h.p27 rfl]
   go_simp
  ·have e : l5 = false := hl
   subst e
   have d4 : l4 = true := ready_on hi 4 (by kernel_rfl)
   subst d4
   obtain ⟨c0_, c1_, c2_, c3_⟩ := peer_at (HG.out ▸ h.pool.orowAt (i := 1) rfl) hk
   refine wpOp_run (v := .agg #[V n.peers[k].a n.peers[k].E.out.length n.peers[k].cap, J Z n.peers[k].E.sent, J Z n.peers[k].E.got]) (w' := x) (by rfl) (by rfl) ?_ (hK _ _ ⟨l0, l1, l2, l3, true, true, l6, l7, l8, l9, l10, l11, l12, l13, l14, u8, u9, u23, u24, u25, u26, u27, u28, (.agg #[V n.peers[k].a n.peers[k].E.out.length n.peers[k].cap, J Z n.peers[k].E.sent, J Z n.peers[k].E.got]), u30, u31, u32, u33, u34, rfl, rfl, { h with p29 := fun _ => rfl }⟩)
   rw [h.p28 rfl]
   go_simp
  ·have e : l6 = false := hl
   subst e
   refine wpOp_run (v := .pointer (some ⟨w.heap.size + 1, 3, none⟩)) (w' := x) (by rfl) (by rfl) ?_ (hK _ _ ⟨l0, l1, l2, l3, l4, l5, true, l7, l8, l9, l10, l11, l12, l13, l14, u8, u9, u23, u24, u25, u26, u27, u28, u29, (.pointer (some ⟨w.heap.size + 1, 3, none⟩)), u31, u32, u33, u34, rfl, rfl, { h with p30 := fun _ => rfl }⟩)
   go_simp
  ·have e : l7 = false := hl
   subst e
   have d6 : l6 = true := ready_on hi 6 (by kernel_rfl)
   subst d6
   have c3_ : x.cell? ⟨w.heap.size + 1, 3, none⟩ = some (J Z m_seq) := (h.pool.blkAt (i := 4) rfl).c 3 _ rfl
   refine wpOp_run (v := J Z m_seq) (w' := x) (by rfl) (by rfl) ?_ (hK _ _ ⟨l0, l1, l2, l3, l4, l5, true, true, l8, l9, l10, l11, l12, l13, l14, u8, u9, u23, u24, u25, u26, u27, u28, u29, u30, (J Z m_seq), u32, u33, u34, rfl, rfl, { h with p31 := fun _ => rfl }⟩)
   rw [h.p30 rfl]
   go_simp
  ·have e : l8 = false := hl
   subst e
   have d5 : l5 = true := ready_on hi 5 (by kernel_rfl)
   subst d5
   have d7 : l7 = true := ready_on hi 7 (by kernel_rfl)
   subst d7
   have z9 : l9 = false := by
    cases hz : l9
    ·rfl
    ·exact absurd (h.d9_8 hz) (by simp)
   subst z9
   have z10 : l10 = false := by
    cases hz : l10
    ·rfl
    ·exact absurd (h.d10_8 hz) (by simp)
   subst z10
   have z13 : l13 = false := by
    cases hz : l13
    ·rfl
    ·exact absurd (h.d13_8 hz) (by simp)
   subst z13
   refine wpOp_call (by rfl) (by rfl) ?_ (specAcked_pool n.peers[k].a n.peers[k].E.out n.peers[k].cap n.peers[k].E.sent n.peers[k].E.got m_seq x (hs2 _ (List.getElem_mem hk)) (h.pool.endAt (i := 2) rfl hk).rows) ?_
   ·rw [h.p29 rfl, h.p31 rfl]; go_simp
   ·rintro e w' ⟨a5, c5, rfl, hb5, st5, hi5⟩
    exact ⟨_, rfl, hK _ _ ⟨l0, l1, l2, l3, l4, true, l6, true, true, false, false, l11, l12, false, l14, u8, u9, u23, u24, u25, u26, u27, u28, u29, u30, u31, (.tuple #[.agg #[V a5 (ackE n.peers[k].E m_seq).out.length c5, J Z (ackE n.peers[k].E m_seq).sent, J Z (ackE n.peers[k].E m_seq).got], .bool (ackOk n.peers[k].E m_seq)]), u33, u34, rfl, rfl, { h with q32 := (fun _ => by rw [show ackOk n.peers[k].E m_seq = true from hq]; rfl), q23 := (fun q => by cases q), q33 := (fun q => by cases q), pool := (h.pool.new (i := 6) rfl hb5 st5 hi5), d9_8 := fun _ => rfl, d10_8 := fun _ => rfl, d13_8 := fun _ => rfl }⟩⟩
  ·have e : l9 = false := hl
   subst e
   have d8 : l8 = true := ready_on hi 8 (by kernel_rfl)
   subst d8
   have z10 : l10 = false := by
    cases hz : l10
    ·rfl
    ·exact absurd (h.d10_9 hz) (by simp)
   subst z10
   refine wpOp_run (v := .tuple #[.agg #[V (slA u32) (ackE n.peers[k].E m_seq).out.length (slC u32), J Z (ackE n.peers[k].E m_seq).sent, J Z (ackE n.peers[k].E m_seq).got], .bool true]) (w' := x) (by rfl) (by rfl) ?_ (hK _ _ ⟨l0, l1, l2, l3, l4, l5, l6, l7, true, true, false, l11, l12, l13, l14, u8, u9, (.tuple #[.agg #[V (slA u32) (ackE n.peers[k].E m_seq).out.length (slC u32), J Z (ackE n.peers[k].E m_seq).sent, J Z (ackE n.peers[k].E m_seq).got], .bool true]), u24, u25, u26, u27, u28, u29, u30, u31, u32, u33, u34, rfl, rfl, { h with q23 := (fun _ => rfl), d9_8 := fun _ => rfl, d10_9 := fun _ => rfl }⟩)
   rw [← h.q32 rfl]
   go_simp
  ·have e : l10 = false := hl
   subst e
   have d9 : l9 = true := ready_on hi 9 (by kernel_rfl)
   subst d9
   have z13 : l13 = false := by
    cases hz : l13
    ·rfl
    ·exact absurd (h.d13_10 hz) (by simp)
   subst z13
   refine wpOp_run (v := .agg #[V (slA u32) (ackE n.peers[k].E m_seq).out.length (slC u32), J Z (ackE n.peers[k].E m_seq).sent, J Z (ackE n.peers[k].E m_seq).got]) (w' := x) (by rfl) (by rfl) ?_ (hK _ _ ⟨l0, l1, l2, l3, l4, l5, l6, l7, l8, true, true, l11, l12, false, l14, u8, u9, u23, u24, u25, u26, u27, u28, u29, u30, u31, u32, (.agg #[V (slA u32) (ackE n.peers[k].E m_seq).out.length (slC u32), J Z (ackE n.peers[k].E m_seq).sent, J Z (ackE n.peers[k].E m_seq).got]), u34, rfl, rfl, { h with q33 := (fun _ => rfl), d10_8 := fun _ => h.d9_8 rfl, d10_9 := fun _ => rfl, d13_10 := fun _ => rfl }⟩)
   rw [h.q23 rfl]
   go_simp
  ·have e : l11 = false := hl
   subst e
   have d9 : l9 = true := ready_on hi 9 (by kernel_rfl)
   subst d9
   refine wpOp_run (v := .bool true) (w' := x) (by rfl) (by rfl) ?_ (hK _ _ ⟨l0, l1, l2, l3, l4, l5, l6, l7, l8, true, l10, true, l12, l13, l14, u8, u9, u23, u24, u25, u26, u27, u28, u29, u30, u31, u32, u33, (.bool true), rfl, rfl, { h with q34 := (fun _ => rfl) }⟩)
   rw [h.q23 rfl]
   go_simp
  ·have e : l12 = false := hl
   subst e
   have z13 : l13 = false := by
    cases hz : l13
    ·rfl
    ·exact absurd (h.d13_12 hz) (by simp)
   subst z13
   refine wpOp_run (v := .pointer (some ⟨x.heap.size, 0, none⟩)) (w' := x.alloc (.cells #[V none 0 0, J Z 0, J Z 0] 39)) (by rfl) (by rfl) ?_ (hK _ _ ⟨l0, l1, l2, l3, l4, l5, l6, l7, l8, l9, l10, l11, true, false, l14, (.pointer (some ⟨x.heap.size, 0, none⟩)), u9, u23, u24, u25, u26, u27, u28, u29, u30, u31, u32, u33, u34, rfl, rfl, { h with a8 := (fun _ => rfl), pool := (h.pool.newBlk (i := 7) rfl [V none 0 0, J Z 0, J Z 0] 39), d13_12 := fun _ => rfl }⟩)
   go_simp
  ·have e : l13 = false := hl
   subst e
   have d0 : l0 = true := ready_on hi 0 (by kernel_rfl)
   subst d0
   have d1 : l1 = true := ready_on hi 1 (by kernel_rfl)
   subst d1
   have d2 : l2 = true := ready_on hi 2 (by kernel_rfl)
   subst d2
   have d3 : l3 = true := ready_on hi 3 (by kernel_rfl)
   subst d3
   have d4 : l4 = true := ready_on hi 4 (by kernel_rfl)
   subst d4
   have d5 : l5 = true := ready_on hi 5 (by kernel_rfl)
   subst d5
   have d6 : l6 = true := ready_on hi 6 (by kernel_rfl)
   subst d6
   have d7 : l7 = true := ready_on hi 7 (by kernel_rfl)
   subst d7
   have d8 : l8 = true := ready_on hi 8 (by kernel_rfl)
   subst d8
   have d9 : l9 = true := ready_on hi 9 (by kernel_rfl)
   subst d9
   have d10 : l10 = true := ready_on hi 10 (by kernel_rfl)
   subst d10
   have d12 : l12 = true := ready_on hi 12 (by kernel_rfl)
   subst d12
   refine wpOp_skip (w' := (((x.setCell ⟨ptB u8, 0, none⟩ (V (slA u32) (ackE n.peers[k].E m_seq).out.length (slC u32))).setCell ⟨ptB u8, 1, none⟩ (J Z (ackE n.peers[k].E m_seq).sent)).setCell ⟨ptB u8, 2, none⟩ (J Z (ackE n.peers[k].E m_seq).got))) (by rfl) (by rfl) ?_ (hK _ _ ⟨true, true, true, true, true, true, true, true, true, true, true, l11, true, true, l14, u8, u9, u23, u24, u25, u26, u27, u28, u29, u30, u31, u32, u33, u34, rfl, rfl, { h with pool := ((((h.pool.setBlk (i := 7) rfl 0 (V (slA u32) (ackE n.peers[k].E m_seq).out.length (slC u32)) (by simp)).setBlk (i := 7) rfl 1 (J Z (ackE n.peers[k].E m_seq).sent) (by simp)).setBlk (i := 7) rfl 2 (J Z (ackE n.peers[k].E m_seq).got) (by simp))), d13_8 := fun _ => rfl, d13_12 := fun _ => rfl, d13_10 := fun _ => rfl }⟩)
   have A := h.pool.blkAt (i := 7) rfl
   have t0 := A.c 0 _ rfl
   have f0 := A.f 0
   have t1 := A.c 1 _ rfl
   have f1 := A.f 1
   have t2 := A.c 2 _ rfl
   have f2 := A.f 2
   obtain ⟨P8, hP8⟩ : ∃ P8, P8 = ptB u8 := ⟨_, rfl⟩
   have e8 := h.a8 rfl
   rw [h.q33 rfl]
   rw [← hP8] at t0 t1 t2 f0 f1 f2 e8 ⊢
   rw [e8]
   clear e8 hP8 A h
   go_simp
  ·have e : l14 = false := hl
   subst e
   have d0 : l0 = true := ready_on hi 0 (by kernel_rfl)
   subst d0
   have d1 : l1 = true := ready_on hi 1 (by kernel_rfl)
   subst d1
   have d2 : l2 = true := ready_on hi 2 (by kernel_rfl)
   subst d2
   have d3 : l3 = true := ready_on hi 3 (by kernel_rfl)
   subst d3
   have d4 : l4 = true := ready_on hi 4 (by kernel_rfl)
   subst d4
   have d5 : l5 = true := ready_on hi 5 (by kernel_rfl)
   subst d5
   have d6 : l6 = true := ready_on hi 6 (by kernel_rfl)
   subst d6
   have d7 : l7 = true := ready_on hi 7 (by kernel_rfl)
   subst d7
   have d8 : l8 = true := ready_on hi 8 (by kernel_rfl)
   subst d8
   have d9 : l9 = true := ready_on hi 9 (by kernel_rfl)
   subst d9
   have d10 : l10 = true := ready_on hi 10 (by kernel_rfl)
   subst d10
   have d11 : l11 = true := ready_on hi 11 (by kernel_rfl)
   subst d11
   have d12 : l12 = true := ready_on hi 12 (by kernel_rfl)
   subst d12
   have d13 : l13 = true := ready_on hi 13 (by kernel_rfl)
   subst d13
   refine wpOp_run (v := .bool true) (w' := x) (by rfl) (by rfl) ?_ (hK _ _ ⟨true, true, true, true, true, true, true, true, true, true, true, true, true, true, true, u8, (.bool true), u23, u24, u25, u26, u27, u28, u29, u30, u31, u32, u33, u34, rfl, rfl, { h with q9 := (fun _ => rfl) }⟩)
   rw [h.q34 rfl]
   go_simp
 ·rintro L act x ⟨l0, l1, l2, l3, l4, l5, l6, l7, l8, l9, l10, l11, l12, l13, l14, u8, u9, u23, u24, u25, u26, u27, u28, u29, u30, u31, u32, u33, u34, rfl, rfl, h⟩ hr
  have hall := ready_all hr rfl (by decide)
  have t0 : l0 = true := hall 0 (by decide)
  have t1 : l1 = true := hall 1 (by decide)
  have t2 : l2 = true := hall 2 (by decide)
  have t3 : l3 = true := hall 3 (by decide)
  have t4 : l4 = true := hall 4 (by decide)
  have t5 : l5 = true := hall 5 (by decide)
  have t6 : l6 = true := hall 6 (by decide)
  have t7 : l7 = true := hall 7 (by decide)
  have t8 : l8 = true := hall 8 (by decide)
  have t9 : l9 = true := hall 9 (by decide)
  have t10 : l10 = true := hall 10 (by decide)
  have t11 : l11 = true := hall 11 (by decide)
  have t12 : l12 = true := hall 12 (by decide)
  have t13 : l13 = true := hall 13 (by decide)
  have t14 : l14 = true := hall 14 (by decide)
  subst t0 t1 t2 t3 t4 t5 t6 t7 t8 t9 t10 t11 t12 t13 t14
  clear hall hr
  have e8 := h.a8 rfl
  have e9 := h.q9 rfl
  obtain ⟨a5, c5, ha5⟩ : ∃ a c, a = slA u32 ∧ c = slC u32 := ⟨_, _, rfl, rfl⟩
  obtain ⟨P8, hP8⟩ : ∃ P8, P8 = ptB u8 := ⟨_, rfl⟩
  have HP5 : Hid (Pool (fps (ndL n)) w [[orow 2 snCells n.sa n.sc n.seen], [orow 4 prCells n.pa n.pc n.peers], endsL n.peers, [blk w.heap.size [J Z n.id, J Z n.has, J Z n.spent, J Z n.earned, V n.sa n.seen.length n.sc, V n.pa n.peers.length n.pc]], [blk (w.heap.size + 1) [J Z m_fr, J Z m_to, J Z 2, J Z m_seq, J Z m_amt]], [blk (w.heap.size + 1 + 1) [J Z 0, J Z 0, J Z 0, J Z 0, V none 0 0, V none 0 0]], [orow 2 prcCells a5 c5 (ackE n.peers[k].E m_seq).out], [blk P8 [V a5 (ackE n.peers[k].E m_seq).out.length c5, J Z (ackE n.peers[k].E m_seq).sent, J Z (ackE n.peers[k].E m_seq).got]], []] x) := hide (by rw [ha5.1, ha5.2, hP8]; exact h.pool)
  rw [← hP8] at e8
  clear h ha5 hP8
  subst e8 e9
  refine hK5 _ _ ?_
  clear hK5
  have v5 : x.cell? ⟨w.heap.size, 5, none⟩ = some (V (some ⟨G, 0, none⟩) n.peers.length n.pc) := by rw [← HPA.out]; exact (HP5.out.blkAt (i := 3) rfl).c 5 _ rfl
  have b0 : x.cell? ⟨P8, 0, none⟩ = some (V a5 (ackE n.peers[k].E m_seq).out.length c5) := (HP5.out.blkAt (i := 7) rfl).c 0 _ rfl
  have b1 : x.cell? ⟨P8, 1, none⟩ = some (J Z (ackE n.peers[k].E m_seq).sent) := (HP5.out.blkAt (i := 7) rfl).c 1 _ rfl
  have b2 : x.cell? ⟨P8, 2, none⟩ = some (J Z (ackE n.peers[k].E m_seq).got) := (HP5.out.blkAt (i := 7) rfl).c 2 _ rfl
  obtain ⟨p0, p1, p2, p3⟩ := peer_at (HG.out ▸ HP5.out.orowAt (i := 1) rfl) hk
  have fz : ∀ j, x.frozen? ⟨G, j, none⟩ = false := by rw [HG.out]; exact ((HP5.out.orowAt (i := 1) rfl).own (by omega)).2
  have y1 := fz (k * 4 + 1)
  have y2 := fz (k * 4 + 2)
  have y3 := fz (k * 4 + 3)
  have HP6 := HP5.out.setPeer (i := 1) rfl hk (⟨n.peers[k].id, a5, c5, ackE n.peers[k].E m_seq⟩ : Pr) rfl HG.out.symm
  have HP7 := HP6.setEnds (i := 2) (j := 6) (p := (⟨n.peers[k].id, a5, c5, ackE n.peers[k].E m_seq⟩ : Pr)) hk (by decide) rfl rfl
  clear fz
  have nc0 : (((x.setCell ⟨G, k * 4 + 1, none⟩ (V a5 (ackE n.peers[k].E m_seq).out.length c5)).setCell ⟨G, k * 4 + 2, none⟩ (J Z (ackE n.peers[k].E m_seq).sent)).setCell ⟨G, k * 4 + 3, none⟩ (J Z (ackE n.peers[k].E m_seq).got)).cell? ⟨w.heap.size, 0, none⟩ = some (J Z n.id) := (HP7.blkAt (i := 3) rfl).c 0 _ rfl
  have nc1 : (((x.setCell ⟨G, k * 4 + 1, none⟩ (V a5 (ackE n.peers[k].E m_seq).out.length c5)).setCell ⟨G, k * 4 + 2, none⟩ (J Z (ackE n.peers[k].E m_seq).sent)).setCell ⟨G, k * 4 + 3, none⟩ (J Z (ackE n.peers[k].E m_seq).got)).cell? ⟨w.heap.size, 1, none⟩ = some (J Z n.has) := (HP7.blkAt (i := 3) rfl).c 1 _ rfl
  have nc2 : (((x.setCell ⟨G, k * 4 + 1, none⟩ (V a5 (ackE n.peers[k].E m_seq).out.length c5)).setCell ⟨G, k * 4 + 2, none⟩ (J Z (ackE n.peers[k].E m_seq).sent)).setCell ⟨G, k * 4 + 3, none⟩ (J Z (ackE n.peers[k].E m_seq).got)).cell? ⟨w.heap.size, 2, none⟩ = some (J Z n.spent) := (HP7.blkAt (i := 3) rfl).c 2 _ rfl
  have nc3 : (((x.setCell ⟨G, k * 4 + 1, none⟩ (V a5 (ackE n.peers[k].E m_seq).out.length c5)).setCell ⟨G, k * 4 + 2, none⟩ (J Z (ackE n.peers[k].E m_seq).sent)).setCell ⟨G, k * 4 + 3, none⟩ (J Z (ackE n.peers[k].E m_seq).got)).cell? ⟨w.heap.size, 3, none⟩ = some (J Z n.earned) := (HP7.blkAt (i := 3) rfl).c 3 _ rfl
  have nc4 : (((x.setCell ⟨G, k * 4 + 1, none⟩ (V a5 (ackE n.peers[k].E m_seq).out.length c5)).setCell ⟨G, k * 4 + 2, none⟩ (J Z (ackE n.peers[k].E m_seq).sent)).setCell ⟨G, k * 4 + 3, none⟩ (J Z (ackE n.peers[k].E m_seq).got)).cell? ⟨w.heap.size, 4, none⟩ = some (V n.sa n.seen.length n.sc) := (HP7.blkAt (i := 3) rfl).c 4 _ rfl
  have nc5 : (((x.setCell ⟨G, k * 4 + 1, none⟩ (V a5 (ackE n.peers[k].E m_seq).out.length c5)).setCell ⟨G, k * 4 + 2, none⟩ (J Z (ackE n.peers[k].E m_seq).sent)).setCell ⟨G, k * 4 + 3, none⟩ (J Z (ackE n.peers[k].E m_seq).got)).cell? ⟨w.heap.size, 5, none⟩ = some (V n.pa n.peers.length n.pc) := (HP7.blkAt (i := 3) rfl).c 5 _ rfl
  have ny0 : (((x.setCell ⟨G, k * 4 + 1, none⟩ (V a5 (ackE n.peers[k].E m_seq).out.length c5)).setCell ⟨G, k * 4 + 2, none⟩ (J Z (ackE n.peers[k].E m_seq).sent)).setCell ⟨G, k * 4 + 3, none⟩ (J Z (ackE n.peers[k].E m_seq).got)).cell? ⟨w.heap.size + 1 + 1, 0, none⟩ = some (J Z 0) := (HP7.blkAt (i := 5) rfl).c 0 _ rfl
  have ny1 : (((x.setCell ⟨G, k * 4 + 1, none⟩ (V a5 (ackE n.peers[k].E m_seq).out.length c5)).setCell ⟨G, k * 4 + 2, none⟩ (J Z (ackE n.peers[k].E m_seq).sent)).setCell ⟨G, k * 4 + 3, none⟩ (J Z (ackE n.peers[k].E m_seq).got)).cell? ⟨w.heap.size + 1 + 1, 1, none⟩ = some (J Z 0) := (HP7.blkAt (i := 5) rfl).c 1 _ rfl
  have ny2 : (((x.setCell ⟨G, k * 4 + 1, none⟩ (V a5 (ackE n.peers[k].E m_seq).out.length c5)).setCell ⟨G, k * 4 + 2, none⟩ (J Z (ackE n.peers[k].E m_seq).sent)).setCell ⟨G, k * 4 + 3, none⟩ (J Z (ackE n.peers[k].E m_seq).got)).cell? ⟨w.heap.size + 1 + 1, 2, none⟩ = some (J Z 0) := (HP7.blkAt (i := 5) rfl).c 2 _ rfl
  have ny3 : (((x.setCell ⟨G, k * 4 + 1, none⟩ (V a5 (ackE n.peers[k].E m_seq).out.length c5)).setCell ⟨G, k * 4 + 2, none⟩ (J Z (ackE n.peers[k].E m_seq).sent)).setCell ⟨G, k * 4 + 3, none⟩ (J Z (ackE n.peers[k].E m_seq).got)).cell? ⟨w.heap.size + 1 + 1, 3, none⟩ = some (J Z 0) := (HP7.blkAt (i := 5) rfl).c 3 _ rfl
  have ny4 : (((x.setCell ⟨G, k * 4 + 1, none⟩ (V a5 (ackE n.peers[k].E m_seq).out.length c5)).setCell ⟨G, k * 4 + 2, none⟩ (J Z (ackE n.peers[k].E m_seq).sent)).setCell ⟨G, k * 4 + 3, none⟩ (J Z (ackE n.peers[k].E m_seq).got)).cell? ⟨w.heap.size + 1 + 1, 4, none⟩ = some (V none 0 0) := (HP7.blkAt (i := 5) rfl).c 4 _ rfl
  have ny5 : (((x.setCell ⟨G, k * 4 + 1, none⟩ (V a5 (ackE n.peers[k].E m_seq).out.length c5)).setCell ⟨G, k * 4 + 2, none⟩ (J Z (ackE n.peers[k].E m_seq).sent)).setCell ⟨G, k * 4 + 3, none⟩ (J Z (ackE n.peers[k].E m_seq).got)).cell? ⟨w.heap.size + 1 + 1, 5, none⟩ = some (V none 0 0) := (HP7.blkAt (i := 5) rfl).c 5 _ rfl
  have zny0 : (((x.setCell ⟨G, k * 4 + 1, none⟩ (V a5 (ackE n.peers[k].E m_seq).out.length c5)).setCell ⟨G, k * 4 + 2, none⟩ (J Z (ackE n.peers[k].E m_seq).sent)).setCell ⟨G, k * 4 + 3, none⟩ (J Z (ackE n.peers[k].E m_seq).got)).frozen? ⟨w.heap.size + 1 + 1, 0, none⟩ = false := (HP7.blkAt (i := 5) rfl).f 0
  have zny1 : (((x.setCell ⟨G, k * 4 + 1, none⟩ (V a5 (ackE n.peers[k].E m_seq).out.length c5)).setCell ⟨G, k * 4 + 2, none⟩ (J Z (ackE n.peers[k].E m_seq).sent)).setCell ⟨G, k * 4 + 3, none⟩ (J Z (ackE n.peers[k].E m_seq).got)).frozen? ⟨w.heap.size + 1 + 1, 1, none⟩ = false := (HP7.blkAt (i := 5) rfl).f 1
  have zny2 : (((x.setCell ⟨G, k * 4 + 1, none⟩ (V a5 (ackE n.peers[k].E m_seq).out.length c5)).setCell ⟨G, k * 4 + 2, none⟩ (J Z (ackE n.peers[k].E m_seq).sent)).setCell ⟨G, k * 4 + 3, none⟩ (J Z (ackE n.peers[k].E m_seq).got)).frozen? ⟨w.heap.size + 1 + 1, 2, none⟩ = false := (HP7.blkAt (i := 5) rfl).f 2
  have zny3 : (((x.setCell ⟨G, k * 4 + 1, none⟩ (V a5 (ackE n.peers[k].E m_seq).out.length c5)).setCell ⟨G, k * 4 + 2, none⟩ (J Z (ackE n.peers[k].E m_seq).sent)).setCell ⟨G, k * 4 + 3, none⟩ (J Z (ackE n.peers[k].E m_seq).got)).frozen? ⟨w.heap.size + 1 + 1, 3, none⟩ = false := (HP7.blkAt (i := 5) rfl).f 3
  have zny4 : (((x.setCell ⟨G, k * 4 + 1, none⟩ (V a5 (ackE n.peers[k].E m_seq).out.length c5)).setCell ⟨G, k * 4 + 2, none⟩ (J Z (ackE n.peers[k].E m_seq).sent)).setCell ⟨G, k * 4 + 3, none⟩ (J Z (ackE n.peers[k].E m_seq).got)).frozen? ⟨w.heap.size + 1 + 1, 4, none⟩ = false := (HP7.blkAt (i := 5) rfl).f 4
  have zny5 : (((x.setCell ⟨G, k * 4 + 1, none⟩ (V a5 (ackE n.peers[k].E m_seq).out.length c5)).setCell ⟨G, k * 4 + 2, none⟩ (J Z (ackE n.peers[k].E m_seq).sent)).setCell ⟨G, k * 4 + 3, none⟩ (J Z (ackE n.peers[k].E m_seq).got)).frozen? ⟨w.heap.size + 1 + 1, 5, none⟩ = false := (HP7.blkAt (i := 5) rfl).f 5
  have HQ : Hid _ := hide (HP7.set6 (i := 5) rfl (J Z n.id) (J Z n.has) (J Z n.spent) (J Z n.earned) (V n.sa n.seen.length n.sc) (V n.pa n.peers.length n.pc))
  go_wp2
  refine name_post (fun W9 hW9 => ?_)
  have hq := HQ.out
  rw [← hW9] at hq
  have z_ := hq.blkAt (i := 5) rfl
  have g0_ := z_.c 0 _ rfl
  have g1_ := z_.c 1 _ rfl
  have g2_ := z_.c 2 _ rfl
  have g3_ := z_.c 3 _ rfl
  have g4_ := z_.c 4 _ rfl
  have g5_ := z_.c 5 _ rfl
  have hq2 := hq.noMsg (i := 8) rfl
  exact bodyPost_ret (v := .tuple #[ndV ⟨n.id, n.has, n.spent, n.earned, n.sa, n.sc, n.seen, n.pa, n.pc, n.peers.set k (⟨n.peers[k].id, a5, c5, ackE n.peers[k].E m_seq⟩ : Pr)⟩, V none 0 0, J Z (0)]) (by simp [results, Try.results21, go_sem, g0_, g1_, g2_, g3_, g4_, g5_, ndV]) rfl ⟨⟨n.id, n.has, n.spent, n.earned, n.sa, n.sc, n.seen, n.pa, n.pc, n.peers.set k (⟨n.peers[k].id, a5, c5, ackE n.peers[k].E m_seq⟩ : Pr)⟩, none, 0, (by rw [HM.out] <;> rfl), (by rw [HM.out] <;> simp only [Nd.d, List.map_set, Pr.d]), (by
   rw [HM.out]
   exact ((((((hq2.drop (i := 7) rfl).drop (i := 6) rfl).drop (i := 5) rfl).drop (i := 4) rfl).drop (i := 3) rfl)).cast (by simp [ndL]))⟩
structure TkN (n : Nd) (w : World) (G k : Nat) (hk : k < n.peers.length) (m_fr m_to m_seq m_amt : Int) (l0 l1 l2 l3 l4 l5 l6 l7 l8 l9 l10 l11 l12 l13 l14 : Bool) (u8 u9 u23 u24 u25 u26 u27 u28 u29 u30 u31 u32 u33 u34 : Value) (x : World) : Prop where
 pool : Pool (fps (ndL n)) w [[orow 2 snCells n.sa n.sc n.seen], [orow 4 prCells n.pa n.pc n.peers], endsL n.peers, [blk w.heap.size [J Z n.id, J Z n.has, J Z n.spent, J Z n.earned, V n.sa n.seen.length n.sc, V n.pa n.peers.length n.pc]], [blk (w.heap.size + 1) [J Z m_fr, J Z m_to, J Z 2, J Z m_seq, J Z m_amt]], [blk (w.heap.size + 1 + 1) [J Z 0, J Z 0, J Z 0, J Z 0, V none 0 0, V none 0 0]], cond l8 [orow 2 prcCells (slA u32) (slC u32) (ackE n.peers[k].E m_seq).out] [], cond l13 [blk (ptB u8) [V (slA u32) (ackE n.peers[k].E m_seq).out.length (slC u32), J Z (ackE n.peers[k].E m_seq).sent, J Z (ackE n.peers[k].E m_seq).got]] (cond l12 [blk (ptB u8) [V none 0 0, J Z 0, J Z 0]] []), []] x
 q32 : l8 = true → u32 = .tuple #[.agg #[V (slA u32) (ackE n.peers[k].E m_seq).out.length (slC u32), J Z (ackE n.peers[k].E m_seq).sent, J Z (ackE n.peers[k].E m_seq).got], .bool false]
 q23 : l9 = true → u23 = .tuple #[.agg #[V (slA u32) (ackE n.peers[k].E m_seq).out.length (slC u32), J Z (ackE n.peers[k].E m_seq).sent, J Z (ackE n.peers[k].E m_seq).got], .bool false]
 q33 : l10 = true → u33 = .agg #[V (slA u32) (ackE n.peers[k].E m_seq).out.length (slC u32), J Z (ackE n.peers[k].E m_seq).sent, J Z (ackE n.peers[k].E m_seq).got]
 q34 : l11 = true → u34 = .bool false
 q9 : l14 = true → u9 = .bool false
 a8 : l12 = true → u8 = .pointer (some ⟨ptB u8, 0, none⟩)
 d9_8 : l9 = true → l8 = true
 d10_8 : l10 = true → l8 = true
 d13_8 : l13 = true → l8 = true
 d13_12 : l13 = true → l12 = true
 d10_9 : l10 = true → l9 = true
 d13_10 : l13 = true → l10 = true
 p24 : l0 = true → u24 = .pointer (some ⟨w.heap.size, 5, none⟩)
 p25 : l1 = true → u25 = V (some ⟨G, 0, none⟩) n.peers.length n.pc
 p26 : l2 = true → u26 = J Z ↑k
 p27 : l3 = true → u27 = .pointer (some ⟨G, k * 4, none⟩)
 p28 : l4 = true → u28 = .pointer (some ⟨G, k * 4 + 1, none⟩)
 p29 : l5 = true → u29 = .agg #[V n.peers[k].a n.peers[k].E.out.length n.peers[k].cap, J Z n.peers[k].E.sent, J Z n.peers[k].E.got]
 p30 : l6 = true → u30 = .pointer (some ⟨w.heap.size + 1, 3, none⟩)
 p31 : l7 = true → u31 = J Z m_seq
set_option maxHeartbeats 4000000 in
theorem take_bad (n : Nd) (m_fr m_to m_seq m_amt : Int) (w : World) (hs : SmL n.peers) (h : Star (ndL n) w) (hr : 0 ≤ n.has ∧ n.has ≤ 10000000000000) (k : Nat) (hk : k < n.peers.length) (hf : fi (n.peers.map Pr.id) m_fr = some k) (hq : ackOk n.peers[k].E m_seq = false) :
  Calls Try.prog 21 #[.agg #[J Z n.id, J Z n.has, J Z n.spent, J Z n.earned, V n.sa n.seen.length n.sc, V n.pa n.peers.length n.pc], .agg #[J Z m_fr, J Z m_to, J Z 2, J Z m_seq, J Z m_amt]] w fun e w' => ActedEnd (fps (ndL n)) (takeM n.d ⟨m_fr, m_to, 2, m_seq, m_amt⟩) w e w' := by
 obtain ⟨hs1, hs2⟩ := hs
 obtain ⟨r1, r2⟩ := hr
 obtain ⟨W, hW⟩ : ∃ W, W = ((w.alloc (.cells #[J Z n.id, J Z n.has, J Z n.spent, J Z n.earned, V n.sa n.seen.length n.sc, V n.pa n.peers.length n.pc] 27)).alloc (.cells #[J Z m_fr, J Z m_to, J Z 2, J Z m_seq, J Z m_amt] 29)).alloc (.cells #[J Z 0, J Z 0, J Z 0, J Z 0, V none 0 0, V none 0 0] 27) := ⟨_, rfl⟩
 have s1 : (w.alloc (.cells #[J Z n.id, J Z n.has, J Z n.spent, J Z n.earned, V n.sa n.seen.length n.sc, V n.pa n.peers.length n.pc] 27)).heap.size = w.heap.size + 1 := by simp
 have s2 : ((w.alloc (.cells #[J Z n.id, J Z n.has, J Z n.spent, J Z n.earned, V n.sa n.seen.length n.sc, V n.pa n.peers.length n.pc] 27)).alloc (.cells #[J Z m_fr, J Z m_to, J Z 2, J Z m_seq, J Z m_amt] 29)).heap.size = w.heap.size + 1 + 1 := by simp
 have HP : Hid (Pool (fps (ndL n)) w [[orow 2 snCells n.sa n.sc n.seen], [orow 4 prCells n.pa n.pc n.peers], endsL n.peers, [blk w.heap.size [J Z n.id, J Z n.has, J Z n.spent, J Z n.earned, V n.sa n.seen.length n.sc, V n.pa n.peers.length n.pc]], [blk (w.heap.size + 1) [J Z m_fr, J Z m_to, J Z 2, J Z m_seq, J Z m_amt]], [blk (w.heap.size + 1 + 1) [J Z 0, J Z 0, J Z 0, J Z 0, V none 0 0, V none 0 0]], [], [], []] W) := hide (by
  rw [hW, ← s2, ← s1]
  exact ((((Pool.of h).cast (S' := [[orow 2 snCells n.sa n.sc n.seen], [orow 4 prCells n.pa n.pc n.peers], endsL n.peers, [], [], [], [], [], []]) (by simp [ndL])).newBlk (i := 3) rfl [J Z n.id, J Z n.has, J Z n.spent, J Z n.earned, V n.sa n.seen.length n.sc, V n.pa n.peers.length n.pc] 27).newBlk (i := 4) rfl [J Z m_fr, J Z m_to, J Z 2, J Z m_seq, J Z m_amt] 29).newBlk (i := 5) rfl [J Z 0, J Z 0, J Z 0, J Z 0, V none 0 0, V none 0 0] 27)
 have HW : Hid (((w.alloc (.cells #[J Z n.id, J Z n.has, J Z n.spent, J Z n.earned, V n.sa n.seen.length n.sc, V n.pa n.peers.length n.pc] 27)).alloc (.cells #[J Z m_fr, J Z m_to, J Z 2, J Z m_seq, J Z m_amt] 29)).alloc (.cells #[J Z 0, J Z 0, J Z 0, J Z 0, V none 0 0, V none 0 0] 27) = W) := hide hW.symm
 clear hW s1 s2
 go_enter Try.func21, Try.ntmps21
 go_wp2_with fail
 rw [HW.out]
 refine (l6Peer_any n m_fr W hs1 (HP.out.orowAt (i := 1) rfl).rows).mono ?_
 rw [hf]
 rintro e w1 ⟨rfl, hb1⟩
 have HP1 : Hid (Pool (fps (ndL n)) w [[orow 2 snCells n.sa n.sc n.seen], [orow 4 prCells n.pa n.pc n.peers], endsL n.peers, [blk w.heap.size [J Z n.id, J Z n.has, J Z n.spent, J Z n.earned, V n.sa n.seen.length n.sc, V n.pa n.peers.length n.pc]], [blk (w.heap.size + 1) [J Z m_fr, J Z m_to, J Z 2, J Z m_seq, J Z m_amt]], [blk (w.heap.size + 1 + 1) [J Z 0, J Z 0, J Z 0, J Z 0, V none 0 0, V none 0 0]], [], [], []] w1) := hide (HP.out.keep hb1)
 clear hb1 HP HW
 have HM : Hid (takeM n.d ⟨m_fr, m_to, 2, m_seq, m_amt⟩ = (n.d, [], 2)) := hide (by
  unfold takeM
  rw [show n.d.peers.map PD.id = n.peers.map Pr.id from ids_p _, hf]
  simp only [Nd.d, List.getElem?_map, List.getElem?_eq_getElem hk, Option.map_some, Pr.d]
  simp [hq])
 clear hf
 unfold ixV
 have hpa : n.pa = some ⟨gOf n.pa, 0, none⟩ := own_off (HP1.out.orowAt (i := 1) rfl) hk
 obtain ⟨G, hG⟩ : ∃ G, G = gOf n.pa := ⟨_, rfl⟩
 rw [← hG] at hpa
 have HG : Hid (G = gOf n.pa) := hide hG
 have HPA : Hid (n.pa = some ⟨G, 0, none⟩) := hide hpa
 clear hG hpa
 have nc0 : w1.cell? ⟨w.heap.size, 0, none⟩ = some (J Z n.id) := (HP1.out.blkAt (i := 3) rfl).c 0 _ rfl
 have nc1 : w1.cell? ⟨w.heap.size, 1, none⟩ = some (J Z n.has) := (HP1.out.blkAt (i := 3) rfl).c 1 _ rfl
 have nc2 : w1.cell? ⟨w.heap.size, 2, none⟩ = some (J Z n.spent) := (HP1.out.blkAt (i := 3) rfl).c 2 _ rfl
 have nc3 : w1.cell? ⟨w.heap.size, 3, none⟩ = some (J Z n.earned) := (HP1.out.blkAt (i := 3) rfl).c 3 _ rfl
 have nc4 : w1.cell? ⟨w.heap.size, 4, none⟩ = some (V n.sa n.seen.length n.sc) := (HP1.out.blkAt (i := 3) rfl).c 4 _ rfl
 have nc5 : w1.cell? ⟨w.heap.size, 5, none⟩ = some (V n.pa n.peers.length n.pc) := (HP1.out.blkAt (i := 3) rfl).c 5 _ rfl
 have nd0 : w1.cell? ⟨w.heap.size + 1, 0, none⟩ = some (J Z m_fr) := (HP1.out.blkAt (i := 4) rfl).c 0 _ rfl
 have nd1 : w1.cell? ⟨w.heap.size + 1, 1, none⟩ = some (J Z m_to) := (HP1.out.blkAt (i := 4) rfl).c 1 _ rfl
 have nd2 : w1.cell? ⟨w.heap.size + 1, 2, none⟩ = some (J Z 2) := (HP1.out.blkAt (i := 4) rfl).c 2 _ rfl
 have nd3 : w1.cell? ⟨w.heap.size + 1, 3, none⟩ = some (J Z m_seq) := (HP1.out.blkAt (i := 4) rfl).c 3 _ rfl
 have nd4 : w1.cell? ⟨w.heap.size + 1, 4, none⟩ = some (J Z m_amt) := (HP1.out.blkAt (i := 4) rfl).c 4 _ rfl
 go_wp2_with fail
 rename_i K5 hK5
 refine wp_region_inv (by kernel_rfl) (fun L act x => ∃ l0 l1 l2 l3 l4 l5 l6 l7 l8 l9 l10 l11 l12 l13 l14 : Bool, ∃ u8 u9 u23 u24 u25 u26 u27 u28 u29 u30 u31 u32 u33 u34 : Value, L = #[l0, l1, l2, l3, l4, l5, l6, l7, l8, l9, l10, l11, l12, l13, l14] ∧ act = { tmps := #[Value.agg #[J Z n.id, J Z n.has, J Z n.spent, J Z n.earned, V n.sa n.seen.length n.sc, V n.pa n.peers.length n.pc], Value.agg #[J Z m_fr, J Z m_to, J Z 2, J Z m_seq, J Z m_amt], Value.pointer (some { block := w.heap.size, off := 0 }), Value.pointer (some { block := w.heap.size + 1, off := 0 }), Value.pointer (some { block := w.heap.size + 1 + 1, off := 0 }), V none 0 0, J Z 0, J Z ↑k, u8, u9, U, U, U, Value.agg #[J Z n.id, J Z n.has, J Z n.spent, J Z n.earned, V n.sa n.seen.length n.sc, V n.pa n.peers.length n.pc], Value.pointer (some { block := w.heap.size + 1, off := 0 }), J Z m_fr, J Z ↑k, J Z ↑k, Value.bool (decide (↑k < 0)), U, Value.pointer (some { block := w.heap.size + 1, off := 2 }), J Z 2, Value.bool true, u23, u24, u25, u26, u27, u28, u29, u30, u31, u32, u33, u34, U, U, U, U, U, U, U, U, U, U, U, U, U, U, U, U, U, U, U, U, U, U, U, U, U, U, U, U, U, U, U, U, U, U, U, U, U, U, U, U, U, U, U, U, U, U, U, U, U, U, U], defers := [] } ∧ TkN n w G k hk m_fr m_to m_seq m_amt l0 l1 l2 l3 l4 l5 l6 l7 l8 l9 l10 l11 l12 l13 l14 u8 u9 u23 u24 u25 u26 u27 u28 u29 u30 u31 u32 u33 u34 x) ?_ ?_ ?_
 rotate_left 2
 ·exact ⟨false, false, false, false, false, false, false, false, false, false, false, false, false, false, false, U, U, U, U, U, U, U, U, U, U, U, U, U, U, rfl, rfl, ⟨HP1.out.drew, nofun, nofun, nofun, nofun, nofun, nofun, nofun, nofun, nofun, nofun, nofun, nofun, nofun, nofun, nofun, nofun, nofun, nofun, nofun, nofun⟩⟩
 ·rintro L act x i ⟨l0, l1, l2, l3, l4, l5, l6, l7, l8, l9, l10, l11, l12, l13, l14, u8, u9, u23, u24, u25, u26, u27, u28, u29, u30, u31, u32, u33, u34, rfl, rfl, h⟩ hi K hK
  have hi15 : i < 15 := by
   obtain ⟨_, o, ho, _⟩ := mem_ready.1 hi
   exact (Array.getElem?_eq_some_iff.1 ho).1
  have hl := (mem_ready.1 hi).1
  obtain rfl | rfl | rfl | rfl | rfl | rfl | rfl | rfl | rfl | rfl | rfl | rfl | rfl | rfl | rfl := (by omega : i = 0 ∨ i = 1 ∨ i = 2 ∨ i = 3 ∨ i = 4 ∨ i = 5 ∨ i = 6 ∨ i = 7 ∨ i = 8 ∨ i = 9 ∨ i = 10 ∨ i = 11 ∨ i = 12 ∨ i = 13 ∨ i = 14)
  ·have e : l0 = false := hl
   subst e
   refine wpOp_run (v := .pointer (some ⟨w.heap.size, 5, none⟩)) (w' := x) (by rfl) (by rfl) ?_ (hK _ _ ⟨true, l1, l2, l3, l4, l5, l6, l7, l8, l9, l10, l11, l12, l13, l14, u8, u9, u23, (.pointer (some ⟨w.heap.size, 5, none⟩)), u25, u26, u27, u28, u29, u30, u31, u32, u33, u34, rfl, rfl, { h with p24 := fun _ => rfl }⟩)
   go_simp
  ·have e : l1 = false := hl
   subst e
   have d0 : l0 = true := ready_on hi 0 (by kernel_rfl)
   subst d0
   have c5_ : x.cell? ⟨w.heap.size, 5, none⟩ = some (V (some ⟨G, 0, none⟩) n.peers.length n.pc) := by rw [← HPA.out]; exact (h.pool.blkAt (i := 3) rfl).c 5 _ rfl
   refine wpOp_run (v := V (some ⟨G, 0, none⟩) n.peers.length n.pc) (w' := x) (by rfl) (by rfl) ?_ (hK _ _ ⟨true, true, l2, l3, l4, l5, l6, l7, l8, l9, l10, l11, l12, l13, l14, u8, u9, u23, u24, (V (some ⟨G, 0, none⟩) n.peers.length n.pc), u26, u27, u28, u29, u30, u31, u32, u33, u34, rfl, rfl, { h with p25 := fun _ => rfl }⟩)
   rw [h.p24 rfl]
   go_simp
  ·have e : l2 = false := hl
   subst e
   refine wpOp_run (v := J Z ↑k) (w' := x) (by rfl) (by rfl) ?_ (hK _ _ ⟨l0, l1, true, l3, l4, l5, l6, l7, l8, l9, l10, l11, l12, l13, l14, u8, u9, u23, u24, u25, (J Z ↑k), u27, u28, u29, u30, u31, u32, u33, u34, rfl, rfl, { h with p26 := fun _ => rfl }⟩)
   go_simp
  ·have e : l3 = false := hl
   subst e
   have d1 : l1 = true := ready_on hi 1 (by kernel_rfl)
   subst d1
   have d2 : l2 = true := ready_on hi 2 (by kernel_rfl)
   subst d2
   refine wpOp_run (v := .pointer (some ⟨G, k * 4, none⟩)) (w' := x) (by rfl) (by rfl) ?_ (hK _ _ ⟨l0, true, true, true, l4, l5, l6, l7, l8, l9, l10, l11, l12, l13, l14, u8, u9, u23, u24, u25, u26, (.pointer (some ⟨G, k * 4, none⟩)), u28, u29, u30, u31, u32, u33, u34, rfl, rfl, { h with p27 := fun _ => rfl }⟩)
   rw [h.p25 rfl, h.p26 rfl]
   go_simp
  ·have e : l4 = false := hl
   subst e
   have d3 : l3 = true := ready_on hi 3 (by kernel_rfl)
   subst d3
   refine wpOp_run (v := .pointer (some ⟨G, k * 4 + 1, none⟩)) (w' := x) (by rfl) (by rfl) ?_ (hK _ _ ⟨l0, l1, l2, true, true, l5, l6, l7, l8, l9, l10, l11, l12, l13, l14, u8, u9, u23, u24, u25, u26, u27, (.pointer (some ⟨G, k * 4 + 1, none⟩)), u29, u30, u31, u32, u33, u34, rfl, rfl, { h with p28 := fun _ => rfl }⟩)
   rw [h.p27 rfl]
   go_simp
  ·have e : l5 = false := hl
   subst e
   have d4 : l4 = true := ready_on hi 4 (by kernel_rfl)
   subst d4
   obtain ⟨c0_, c1_, c2_, c3_⟩ := peer_at (HG.out ▸ h.pool.orowAt (i := 1) rfl) hk
   refine wpOp_run (v := .agg #[V n.peers[k].a n.peers[k].E.out.length n.peers[k].cap, J Z n.peers[k].E.sent, J Z n.peers[k].E.got]) (w' := x) (by rfl) (by rfl) ?_ (hK _ _ ⟨l0, l1, l2, l3, true, true, l6, l7, l8, l9, l10, l11, l12, l13, l14, u8, u9, u23, u24, u25, u26, u27, u28, (.agg #[V n.peers[k].a n.peers[k].E.out.length n.peers[k].cap, J Z n.peers[k].E.sent, J Z n.peers[k].E.got]), u30, u31, u32, u33, u34, rfl, rfl, { h with p29 := fun _ => rfl }⟩)
   rw [h.p28 rfl]
   go_simp
  ·have e : l6 = false := hl
   subst e
   refine wpOp_run (v := .pointer (some ⟨w.heap.size + 1, 3, none⟩)) (w' := x) (by rfl) (by rfl) ?_ (hK _ _ ⟨l0, l1, l2, l3, l4, l5, true, l7, l8, l9, l10, l11, l12, l13, l14, u8, u9, u23, u24, u25, u26, u27, u28, u29, (.pointer (some ⟨w.heap.size + 1, 3, none⟩)), u31, u32, u33, u34, rfl, rfl, { h with p30 := fun _ => rfl }⟩)
   go_simp
  ·have e : l7 = false := hl
   subst e
   have d6 : l6 = true := ready_on hi 6 (by kernel_rfl)
   subst d6
   have c3_ : x.cell? ⟨w.heap.size + 1, 3, none⟩ = some (J Z m_seq) := (h.pool.blkAt (i := 4) rfl).c 3 _ rfl
   refine wpOp_run (v := J Z m_seq) (w' := x) (by rfl) (by rfl) ?_ (hK _ _ ⟨l0, l1, l2, l3, l4, l5, true, true, l8, l9, l10, l11, l12, l13, l14, u8, u9, u23, u24, u25, u26, u27, u28, u29, u30, (J Z m_seq), u32, u33, u34, rfl, rfl, { h with p31 := fun _ => rfl }⟩)
   rw [h.p30 rfl]
   go_simp
  ·have e : l8 = false := hl
   subst e
   have d5 : l5 = true := ready_on hi 5 (by kernel_rfl)
   subst d5
   have d7 : l7 = true := ready_on hi 7 (by kernel_rfl)
   subst d7
   have z9 : l9 = false := by
    cases hz : l9
    ·rfl
    ·exact absurd (h.d9_8 hz) (by simp)
   subst z9
   have z10 : l10 = false := by
    cases hz : l10
    ·rfl
    ·exact absurd (h.d10_8 hz) (by simp)
   subst z10
   have z13 : l13 = false := by
    cases hz : l13
    ·rfl
    ·exact absurd (h.d13_8 hz) (by simp)
   subst z13
   refine wpOp_call (by rfl) (by rfl) ?_ (specAcked_pool n.peers[k].a n.peers[k].E.out n.peers[k].cap n.peers[k].E.sent n.peers[k].E.got m_seq x (hs2 _ (List.getElem_mem hk)) (h.pool.endAt (i := 2) rfl hk).rows) ?_
   ·rw [h.p29 rfl, h.p31 rfl]; go_simp
   ·rintro e w' ⟨a5, c5, rfl, hb5, st5, hi5⟩
    exact ⟨_, rfl, hK _ _ ⟨l0, l1, l2, l3, l4, true, l6, true, true, false, false, l11, l12, false, l14, u8, u9, u23, u24, u25, u26, u27, u28, u29, u30, u31, (.tuple #[.agg #[V a5 (ackE n.peers[k].E m_seq).out.length c5, J Z (ackE n.peers[k].E m_seq).sent, J Z (ackE n.peers[k].E m_seq).got], .bool (ackOk n.peers[k].E m_seq)]), u33, u34, rfl, rfl, { h with q32 := (fun _ => by rw [show ackOk n.peers[k].E m_seq = false from hq]; rfl), q23 := (fun q => by cases q), q33 := (fun q => by cases q), pool := (h.pool.new (i := 6) rfl hb5 st5 hi5), d9_8 := fun _ => rfl, d10_8 := fun _ => rfl, d13_8 := fun _ => rfl }⟩⟩
  ·have e : l9 = false := hl
   subst e
   have d8 : l8 = true := ready_on hi 8 (by kernel_rfl)
   subst d8
   have z10 : l10 = false := by
    cases hz : l10
    ·rfl
    ·exact absurd (h.d10_9 hz) (by simp)
   subst z10
   refine wpOp_run (v := .tuple #[.agg #[V (slA u32) (ackE n.peers[k].E m_seq).out.length (slC u32), J Z (ackE n.peers[k].E m_seq).sent, J Z (ackE n.peers[k].E m_seq).got], .bool false]) (w' := x) (by rfl) (by rfl) ?_ (hK _ _ ⟨l0, l1, l2, l3, l4, l5, l6, l7, true, true, false, l11, l12, l13, l14, u8, u9, (.tuple #[.agg #[V (slA u32) (ackE n.peers[k].E m_seq).out.length (slC u32), J Z (ackE n.peers[k].E m_seq).sent, J Z (ackE n.peers[k].E m_seq).got], .bool false]), u24, u25, u26, u27, u28, u29, u30, u31, u32, u33, u34, rfl, rfl, { h with q23 := (fun _ => rfl), d9_8 := fun _ => rfl, d10_9 := fun _ => rfl }⟩)
   rw [← h.q32 rfl]
   go_simp
  ·have e : l10 = false := hl
   subst e
   have d9 : l9 = true := ready_on hi 9 (by kernel_rfl)
   subst d9
   have z13 : l13 = false := by
    cases hz : l13
    ·rfl
    ·exact absurd (h.d13_10 hz) (by simp)
   subst z13
   refine wpOp_run (v := .agg #[V (slA u32) (ackE n.peers[k].E m_seq).out.length (slC u32), J Z (ackE n.peers[k].E m_seq).sent, J Z (ackE n.peers[k].E m_seq).got]) (w' := x) (by rfl) (by rfl) ?_ (hK _ _ ⟨l0, l1, l2, l3, l4, l5, l6, l7, l8, true, true, l11, l12, false, l14, u8, u9, u23, u24, u25, u26, u27, u28, u29, u30, u31, u32, (.agg #[V (slA u32) (ackE n.peers[k].E m_seq).out.length (slC u32), J Z (ackE n.peers[k].E m_seq).sent, J Z (ackE n.peers[k].E m_seq).got]), u34, rfl, rfl, { h with q33 := (fun _ => rfl), d10_8 := fun _ => h.d9_8 rfl, d10_9 := fun _ => rfl, d13_10 := fun _ => rfl }⟩)
   rw [h.q23 rfl]
   go_simp
  ·have e : l11 = false := hl
   subst e
   have d9 : l9 = true := ready_on hi 9 (by kernel_rfl)
   subst d9
   refine wpOp_run (v := .bool false) (w' := x) (by rfl) (by rfl) ?_ (hK _ _ ⟨l0, l1, l2, l3, l4, l5, l6, l7, l8, true, l10, true, l12, l13, l14, u8, u9, u23, u24, u25, u26, u27, u28, u29, u30, u31, u32, u33, (.bool false), rfl, rfl, { h with q34 := (fun _ => rfl) }⟩)
   rw [h.q23 rfl]
   go_simp
  ·have e : l12 = false := hl
   subst e
   have z13 : l13 = false := by
    cases hz : l13
    ·rfl
    ·exact absurd (h.d13_12 hz) (by simp)
   subst z13
   refine wpOp_run (v := .pointer (some ⟨x.heap.size, 0, none⟩)) (w' := x.alloc (.cells #[V none 0 0, J Z 0, J Z 0] 39)) (by rfl) (by rfl) ?_ (hK _ _ ⟨l0, l1, l2, l3, l4, l5, l6, l7, l8, l9, l10, l11, true, false, l14, (.pointer (some ⟨x.heap.size, 0, none⟩)), u9, u23, u24, u25, u26, u27, u28, u29, u30, u31, u32, u33, u34, rfl, rfl, { h with a8 := (fun _ => rfl), pool := (h.pool.newBlk (i := 7) rfl [V none 0 0, J Z 0, J Z 0] 39), d13_12 := fun _ => rfl }⟩)
   go_simp
  ·have e : l13 = false := hl
   subst e
   have d0 : l0 = true := ready_on hi 0 (by kernel_rfl)
   subst d0
   have d1 : l1 = true := ready_on hi 1 (by kernel_rfl)
   subst d1
   have d2 : l2 = true := ready_on hi 2 (by kernel_rfl)
   subst d2
   have d3 : l3 = true := ready_on hi 3 (by kernel_rfl)
   subst d3
   have d4 : l4 = true := ready_on hi 4 (by kernel_rfl)
   subst d4
   have d5 : l5 = true := ready_on hi 5 (by kernel_rfl)
   subst d5
   have d6 : l6 = true := ready_on hi 6 (by kernel_rfl)
   subst d6
   have d7 : l7 = true := ready_on hi 7 (by kernel_rfl)
   subst d7
   have d8 : l8 = true := ready_on hi 8 (by kernel_rfl)
   subst d8
   have d9 : l9 = true := ready_on hi 9 (by kernel_rfl)
   subst d9
   have d10 : l10 = true := ready_on hi 10 (by kernel_rfl)
   subst d10
   have d12 : l12 = true := ready_on hi 12 (by kernel_rfl)
   subst d12
   refine wpOp_skip (w' := (((x.setCell ⟨ptB u8, 0, none⟩ (V (slA u32) (ackE n.peers[k].E m_seq).out.length (slC u32))).setCell ⟨ptB u8, 1, none⟩ (J Z (ackE n.peers[k].E m_seq).sent)).setCell ⟨ptB u8, 2, none⟩ (J Z (ackE n.peers[k].E m_seq).got))) (by rfl) (by rfl) ?_ (hK _ _ ⟨true, true, true, true, true, true, true, true, true, true, true, l11, true, true, l14, u8, u9, u23, u24, u25, u26, u27, u28, u29, u30, u31, u32, u33, u34, rfl, rfl, { h with pool := ((((h.pool.setBlk (i := 7) rfl 0 (V (slA u32) (ackE n.peers[k].E m_seq).out.length (slC u32)) (by simp)).setBlk (i := 7) rfl 1 (J Z (ackE n.peers[k].E m_seq).sent) (by simp)).setBlk (i := 7) rfl 2 (J Z (ackE n.peers[k].E m_seq).got) (by simp))), d13_8 := fun _ => rfl, d13_12 := fun _ => rfl, d13_10 := fun _ => rfl }⟩)
   have A := h.pool.blkAt (i := 7) rfl
   have t0 := A.c 0 _ rfl
   have f0 := A.f 0
   have t1 := A.c 1 _ rfl
   have f1 := A.f 1
   have t2 := A.c 2 _ rfl
   have f2 := A.f 2
   obtain ⟨P8, hP8⟩ : ∃ P8, P8 = ptB u8 := ⟨_, rfl⟩
   have e8 := h.a8 rfl
   rw [h.q33 rfl]
   rw [← hP8] at t0 t1 t2 f0 f1 f2 e8 ⊢
   rw [e8]
   clear e8 hP8 A h
   go_simp
  ·have e : l14 = false := hl
   subst e
   have d0 : l0 = true := ready_on hi 0 (by kernel_rfl)
   subst d0
   have d1 : l1 = true := ready_on hi 1 (by kernel_rfl)
   subst d1
   have d2 : l2 = true := ready_on hi 2 (by kernel_rfl)
   subst d2
   have d3 : l3 = true := ready_on hi 3 (by kernel_rfl)
   subst d3
   have d4 : l4 = true := ready_on hi 4 (by kernel_rfl)
   subst d4
   have d5 : l5 = true := ready_on hi 5 (by kernel_rfl)
   subst d5
   have d6 : l6 = true := ready_on hi 6 (by kernel_rfl)
   subst d6
   have d7 : l7 = true := ready_on hi 7 (by kernel_rfl)
   subst d7
   have d8 : l8 = true := ready_on hi 8 (by kernel_rfl)
   subst d8
   have d9 : l9 = true := ready_on hi 9 (by kernel_rfl)
   subst d9
   have d10 : l10 = true := ready_on hi 10 (by kernel_rfl)
   subst d10
   have d11 : l11 = true := ready_on hi 11 (by kernel_rfl)
   subst d11
   have d12 : l12 = true := ready_on hi 12 (by kernel_rfl)
   subst d12
   have d13 : l13 = true := ready_on hi 13 (by kernel_rfl)
   subst d13
   refine wpOp_run (v := .bool false) (w' := x) (by rfl) (by rfl) ?_ (hK _ _ ⟨true, true, true, true, true, true, true, true, true, true, true, true, true, true, true, u8, (.bool false), u23, u24, u25, u26, u27, u28, u29, u30, u31, u32, u33, u34, rfl, rfl, { h with q9 := (fun _ => rfl) }⟩)
   rw [h.q34 rfl]
   go_simp
 ·rintro L act x ⟨l0, l1, l2, l3, l4, l5, l6, l7, l8, l9, l10, l11, l12, l13, l14, u8, u9, u23, u24, u25, u26, u27, u28, u29, u30, u31, u32, u33, u34, rfl, rfl, h⟩ hr
  have hall := ready_all hr rfl (by decide)
  have t0 : l0 = true := hall 0 (by decide)
  have t1 : l1 = true := hall 1 (by decide)
  have t2 : l2 = true := hall 2 (by decide)
  have t3 : l3 = true := hall 3 (by decide)
  have t4 : l4 = true := hall 4 (by decide)
  have t5 : l5 = true := hall 5 (by decide)
  have t6 : l6 = true := hall 6 (by decide)
  have t7 : l7 = true := hall 7 (by decide)
  have t8 : l8 = true := hall 8 (by decide)
  have t9 : l9 = true := hall 9 (by decide)
  have t10 : l10 = true := hall 10 (by decide)
  have t11 : l11 = true := hall 11 (by decide)
  have t12 : l12 = true := hall 12 (by decide)
  have t13 : l13 = true := hall 13 (by decide)
  have t14 : l14 = true := hall 14 (by decide)
  subst t0 t1 t2 t3 t4 t5 t6 t7 t8 t9 t10 t11 t12 t13 t14
  clear hall hr
  have e8 := h.a8 rfl
  have e9 := h.q9 rfl
  obtain ⟨a5, c5, ha5⟩ : ∃ a c, a = slA u32 ∧ c = slC u32 := ⟨_, _, rfl, rfl⟩
  obtain ⟨P8, hP8⟩ : ∃ P8, P8 = ptB u8 := ⟨_, rfl⟩
  have HP5 : Hid (Pool (fps (ndL n)) w [[orow 2 snCells n.sa n.sc n.seen], [orow 4 prCells n.pa n.pc n.peers], endsL n.peers, [blk w.heap.size [J Z n.id, J Z n.has, J Z n.spent, J Z n.earned, V n.sa n.seen.length n.sc, V n.pa n.peers.length n.pc]], [blk (w.heap.size + 1) [J Z m_fr, J Z m_to, J Z 2, J Z m_seq, J Z m_amt]], [blk (w.heap.size + 1 + 1) [J Z 0, J Z 0, J Z 0, J Z 0, V none 0 0, V none 0 0]], [orow 2 prcCells a5 c5 (ackE n.peers[k].E m_seq).out], [blk P8 [V a5 (ackE n.peers[k].E m_seq).out.length c5, J Z (ackE n.peers[k].E m_seq).sent, J Z (ackE n.peers[k].E m_seq).got]], []] x) := hide (by rw [ha5.1, ha5.2, hP8]; exact h.pool)
  rw [← hP8] at e8
  clear h ha5 hP8
  subst e8 e9
  refine hK5 _ _ ?_
  clear hK5
  have HP7 := HP5.out
  have nc0 : x.cell? ⟨w.heap.size, 0, none⟩ = some (J Z n.id) := (HP5.out.blkAt (i := 3) rfl).c 0 _ rfl
  have nc1 : x.cell? ⟨w.heap.size, 1, none⟩ = some (J Z n.has) := (HP5.out.blkAt (i := 3) rfl).c 1 _ rfl
  have nc2 : x.cell? ⟨w.heap.size, 2, none⟩ = some (J Z n.spent) := (HP5.out.blkAt (i := 3) rfl).c 2 _ rfl
  have nc3 : x.cell? ⟨w.heap.size, 3, none⟩ = some (J Z n.earned) := (HP5.out.blkAt (i := 3) rfl).c 3 _ rfl
  have nc4 : x.cell? ⟨w.heap.size, 4, none⟩ = some (V n.sa n.seen.length n.sc) := (HP5.out.blkAt (i := 3) rfl).c 4 _ rfl
  have nc5 : x.cell? ⟨w.heap.size, 5, none⟩ = some (V n.pa n.peers.length n.pc) := (HP5.out.blkAt (i := 3) rfl).c 5 _ rfl
  have ny0 : x.cell? ⟨w.heap.size + 1 + 1, 0, none⟩ = some (J Z 0) := (HP5.out.blkAt (i := 5) rfl).c 0 _ rfl
  have ny1 : x.cell? ⟨w.heap.size + 1 + 1, 1, none⟩ = some (J Z 0) := (HP5.out.blkAt (i := 5) rfl).c 1 _ rfl
  have ny2 : x.cell? ⟨w.heap.size + 1 + 1, 2, none⟩ = some (J Z 0) := (HP5.out.blkAt (i := 5) rfl).c 2 _ rfl
  have ny3 : x.cell? ⟨w.heap.size + 1 + 1, 3, none⟩ = some (J Z 0) := (HP5.out.blkAt (i := 5) rfl).c 3 _ rfl
  have ny4 : x.cell? ⟨w.heap.size + 1 + 1, 4, none⟩ = some (V none 0 0) := (HP5.out.blkAt (i := 5) rfl).c 4 _ rfl
  have ny5 : x.cell? ⟨w.heap.size + 1 + 1, 5, none⟩ = some (V none 0 0) := (HP5.out.blkAt (i := 5) rfl).c 5 _ rfl
  have zny0 : x.frozen? ⟨w.heap.size + 1 + 1, 0, none⟩ = false := (HP5.out.blkAt (i := 5) rfl).f 0
  have zny1 : x.frozen? ⟨w.heap.size + 1 + 1, 1, none⟩ = false := (HP5.out.blkAt (i := 5) rfl).f 1
  have zny2 : x.frozen? ⟨w.heap.size + 1 + 1, 2, none⟩ = false := (HP5.out.blkAt (i := 5) rfl).f 2
  have zny3 : x.frozen? ⟨w.heap.size + 1 + 1, 3, none⟩ = false := (HP5.out.blkAt (i := 5) rfl).f 3
  have zny4 : x.frozen? ⟨w.heap.size + 1 + 1, 4, none⟩ = false := (HP5.out.blkAt (i := 5) rfl).f 4
  have zny5 : x.frozen? ⟨w.heap.size + 1 + 1, 5, none⟩ = false := (HP5.out.blkAt (i := 5) rfl).f 5
  have HQ : Hid _ := hide (HP7.set6 (i := 5) rfl (J Z n.id) (J Z n.has) (J Z n.spent) (J Z n.earned) (V n.sa n.seen.length n.sc) (V n.pa n.peers.length n.pc))
  go_wp2
  refine name_post (fun W9 hW9 => ?_)
  have hq := HQ.out
  rw [← hW9] at hq
  have z_ := hq.blkAt (i := 5) rfl
  have g0_ := z_.c 0 _ rfl
  have g1_ := z_.c 1 _ rfl
  have g2_ := z_.c 2 _ rfl
  have g3_ := z_.c 3 _ rfl
  have g4_ := z_.c 4 _ rfl
  have g5_ := z_.c 5 _ rfl
  have hq2 := hq.noMsg (i := 8) rfl
  exact bodyPost_ret (v := .tuple #[ndV n, V none 0 0, J Z (2)]) (by simp [results, Try.results21, go_sem, g0_, g1_, g2_, g3_, g4_, g5_, ndV]) rfl ⟨n, none, 0, (by rw [HM.out] <;> rfl), (by rw [HM.out] <;> rfl), (by
   rw [HM.out]
   exact ((((((hq2.drop (i := 7) rfl).drop (i := 6) rfl).drop (i := 5) rfl).drop (i := 4) rfl).drop (i := 3) rfl)).cast (by simp [ndL]))⟩
structure TpF (n : Nd) (w : World) (G k : Nat) (hk : k < n.peers.length) (m_fr m_to m_seq m_amt : Int) (l0 l1 l2 l3 l4 l5 l6 l7 l8 l9 l10 l11 l12 l13 l14 l15 l16 l17 l18 l19 : Bool) (u10 u11 u12 u45 u46 u47 u48 u49 u50 u51 u52 u53 u54 u55 u56 u57 u58 u59 u60 : Value) (x : World) : Prop where
 pool : Pool (fps (ndL n)) w [[orow 2 snCells n.sa n.sc n.seen], [orow 4 prCells n.pa n.pc n.peers], endsL n.peers, [blk w.heap.size [J Z n.id, J Z n.has, J Z n.spent, J Z n.earned, V n.sa n.seen.length n.sc, V n.pa n.peers.length n.pc]], [blk (w.heap.size + 1) [J Z m_fr, J Z m_to, J Z 1, J Z m_seq, J Z m_amt]], [blk (w.heap.size + 1 + 1) [J Z 0, J Z 0, J Z 0, J Z 0, V none 0 0, V none 0 0]], cond l11 [orow 2 prcCells (slA u57) (slC u57) (rcvE n.peers[k].E ⟨m_seq, m_amt⟩).out] [], cond l17 [blk (ptB u10) [V (slA u57) (rcvE n.peers[k].E ⟨m_seq, m_amt⟩).out.length (slC u57), J Z (rcvE n.peers[k].E ⟨m_seq, m_amt⟩).sent, J Z (rcvE n.peers[k].E ⟨m_seq, m_amt⟩).got]] (cond l16 [blk (ptB u10) [V none 0 0, J Z 0, J Z 0]] []), []] x
 q57 : l11 = true → u57 = .tuple #[.agg #[V (slA u57) (rcvE n.peers[k].E ⟨m_seq, m_amt⟩).out.length (slC u57), J Z (rcvE n.peers[k].E ⟨m_seq, m_amt⟩).sent, J Z (rcvE n.peers[k].E ⟨m_seq, m_amt⟩).got], J Z (rcvX n.peers[k].E ⟨m_seq, m_amt⟩), J Z (rcvY n.peers[k].E ⟨m_seq, m_amt⟩)]
 q45 : l12 = true → u45 = .tuple #[.agg #[V (slA u57) (rcvE n.peers[k].E ⟨m_seq, m_amt⟩).out.length (slC u57), J Z (rcvE n.peers[k].E ⟨m_seq, m_amt⟩).sent, J Z (rcvE n.peers[k].E ⟨m_seq, m_amt⟩).got], J Z (rcvX n.peers[k].E ⟨m_seq, m_amt⟩), J Z (rcvY n.peers[k].E ⟨m_seq, m_amt⟩)]
 q58 : l13 = true → u58 = .agg #[V (slA u57) (rcvE n.peers[k].E ⟨m_seq, m_amt⟩).out.length (slC u57), J Z (rcvE n.peers[k].E ⟨m_seq, m_amt⟩).sent, J Z (rcvE n.peers[k].E ⟨m_seq, m_amt⟩).got]
 q59 : l14 = true → u59 = J Z (rcvX n.peers[k].E ⟨m_seq, m_amt⟩)
 q60 : l15 = true → u60 = J Z (rcvY n.peers[k].E ⟨m_seq, m_amt⟩)
 q11 : l18 = true → u11 = J Z (rcvX n.peers[k].E ⟨m_seq, m_amt⟩)
 q12 : l19 = true → u12 = J Z (rcvY n.peers[k].E ⟨m_seq, m_amt⟩)
 a10 : l16 = true → u10 = .pointer (some ⟨ptB u10, 0, none⟩)
 d12_11 : l12 = true → l11 = true
 d13_11 : l13 = true → l11 = true
 d17_11 : l17 = true → l11 = true
 d17_16 : l17 = true → l16 = true
 d13_12 : l13 = true → l12 = true
 d17_13 : l17 = true → l13 = true
 p46 : l0 = true → u46 = .pointer (some ⟨w.heap.size, 5, none⟩)
 p47 : l1 = true → u47 = V (some ⟨G, 0, none⟩) n.peers.length n.pc
 p48 : l2 = true → u48 = J Z ↑k
 p49 : l3 = true → u49 = .pointer (some ⟨G, k * 4, none⟩)
 p50 : l4 = true → u50 = .pointer (some ⟨G, k * 4 + 1, none⟩)
 p51 : l5 = true → u51 = .agg #[V n.peers[k].a n.peers[k].E.out.length n.peers[k].cap, J Z n.peers[k].E.sent, J Z n.peers[k].E.got]
 p52 : l6 = true → u52 = .pointer (some ⟨w.heap.size + 1, 3, none⟩)
 p53 : l7 = true → u53 = J Z m_seq
 p54 : l8 = true → u54 = .pointer (some ⟨w.heap.size + 1, 4, none⟩)
 p55 : l9 = true → u55 = J Z m_amt
 p56 : l10 = true → u56 = .agg #[J Z m_seq, J Z m_amt]
set_option maxHeartbeats 4000000 in
theorem take_range (n : Nd) (m_fr m_to m_seq m_amt : Int) (w : World) (hs : SmL n.peers) (h : Star (ndL n) w) (hr : 0 ≤ n.has ∧ n.has ≤ 10000000000000) (k : Nat) (hk : k < n.peers.length) (hf : fi (n.peers.map Pr.id) m_fr = some k) (hq : 10000000000000 < n.has + rcvX n.peers[k].E ⟨m_seq, m_amt⟩) :
  Calls Try.prog 21 #[.agg #[J Z n.id, J Z n.has, J Z n.spent, J Z n.earned, V n.sa n.seen.length n.sc, V n.pa n.peers.length n.pc], .agg #[J Z m_fr, J Z m_to, J Z 1, J Z m_seq, J Z m_amt]] w fun e w' => ActedEnd (fps (ndL n)) (takeM n.d ⟨m_fr, m_to, 1, m_seq, m_amt⟩) w e w' := by
 obtain ⟨hs1, hs2⟩ := hs
 obtain ⟨r1, r2⟩ := hr
 obtain ⟨W, hW⟩ : ∃ W, W = ((w.alloc (.cells #[J Z n.id, J Z n.has, J Z n.spent, J Z n.earned, V n.sa n.seen.length n.sc, V n.pa n.peers.length n.pc] 27)).alloc (.cells #[J Z m_fr, J Z m_to, J Z 1, J Z m_seq, J Z m_amt] 29)).alloc (.cells #[J Z 0, J Z 0, J Z 0, J Z 0, V none 0 0, V none 0 0] 27) := ⟨_, rfl⟩
 have s1 : (w.alloc (.cells #[J Z n.id, J Z n.has, J Z n.spent, J Z n.earned, V n.sa n.seen.length n.sc, V n.pa n.peers.length n.pc] 27)).heap.size = w.heap.size + 1 := by simp
 have s2 : ((w.alloc (.cells #[J Z n.id, J Z n.has, J Z n.spent, J Z n.earned, V n.sa n.seen.length n.sc, V n.pa n.peers.length n.pc] 27)).alloc (.cells #[J Z m_fr, J Z m_to, J Z 1, J Z m_seq, J Z m_amt] 29)).heap.size = w.heap.size + 1 + 1 := by simp
 have HP : Hid (Pool (fps (ndL n)) w [[orow 2 snCells n.sa n.sc n.seen], [orow 4 prCells n.pa n.pc n.peers], endsL n.peers, [blk w.heap.size [J Z n.id, J Z n.has, J Z n.spent, J Z n.earned, V n.sa n.seen.length n.sc, V n.pa n.peers.length n.pc]], [blk (w.heap.size + 1) [J Z m_fr, J Z m_to, J Z 1, J Z m_seq, J Z m_amt]], [blk (w.heap.size + 1 + 1) [J Z 0, J Z 0, J Z 0, J Z 0, V none 0 0, V none 0 0]], [], [], []] W) := hide (by
  rw [hW, ← s2, ← s1]
  exact ((((Pool.of h).cast (S' := [[orow 2 snCells n.sa n.sc n.seen], [orow 4 prCells n.pa n.pc n.peers], endsL n.peers, [], [], [], [], [], []]) (by simp [ndL])).newBlk (i := 3) rfl [J Z n.id, J Z n.has, J Z n.spent, J Z n.earned, V n.sa n.seen.length n.sc, V n.pa n.peers.length n.pc] 27).newBlk (i := 4) rfl [J Z m_fr, J Z m_to, J Z 1, J Z m_seq, J Z m_amt] 29).newBlk (i := 5) rfl [J Z 0, J Z 0, J Z 0, J Z 0, V none 0 0, V none 0 0] 27)
 have HW : Hid (((w.alloc (.cells #[J Z n.id, J Z n.has, J Z n.spent, J Z n.earned, V n.sa n.seen.length n.sc, V n.pa n.peers.length n.pc] 27)).alloc (.cells #[J Z m_fr, J Z m_to, J Z 1, J Z m_seq, J Z m_amt] 29)).alloc (.cells #[J Z 0, J Z 0, J Z 0, J Z 0, V none 0 0, V none 0 0] 27) = W) := hide hW.symm
 clear hW s1 s2
 go_enter Try.func21, Try.ntmps21
 go_wp2_with fail
 rw [HW.out]
 refine (l6Peer_any n m_fr W hs1 (HP.out.orowAt (i := 1) rfl).rows).mono ?_
 rw [hf]
 rintro e w1 ⟨rfl, hb1⟩
 have HP1 : Hid (Pool (fps (ndL n)) w [[orow 2 snCells n.sa n.sc n.seen], [orow 4 prCells n.pa n.pc n.peers], endsL n.peers, [blk w.heap.size [J Z n.id, J Z n.has, J Z n.spent, J Z n.earned, V n.sa n.seen.length n.sc, V n.pa n.peers.length n.pc]], [blk (w.heap.size + 1) [J Z m_fr, J Z m_to, J Z 1, J Z m_seq, J Z m_amt]], [blk (w.heap.size + 1 + 1) [J Z 0, J Z 0, J Z 0, J Z 0, V none 0 0, V none 0 0]], [], [], []] w1) := hide (HP.out.keep hb1)
 clear hb1 HP HW
 have HM : Hid (takeM n.d ⟨m_fr, m_to, 1, m_seq, m_amt⟩ = (n.d, [], 6)) := hide (by
  unfold takeM
  rw [show n.d.peers.map PD.id = n.peers.map Pr.id from ids_p _, hf]
  simp only [Nd.d, List.getElem?_map, List.getElem?_eq_getElem hk, Option.map_some, Pr.d]
  simp [hq])
 clear hf
 unfold ixV
 have hpa : n.pa = some ⟨gOf n.pa, 0, none⟩ := own_off (HP1.out.orowAt (i := 1) rfl) hk
 obtain ⟨G, hG⟩ : ∃ G, G = gOf n.pa := ⟨_, rfl⟩
 rw [← hG] at hpa
 have HG : Hid (G = gOf n.pa) := hide hG
 have HPA : Hid (n.pa = some ⟨G, 0, none⟩) := hide hpa
 clear hG hpa
 have nc0 : w1.cell? ⟨w.heap.size, 0, none⟩ = some (J Z n.id) := (HP1.out.blkAt (i := 3) rfl).c 0 _ rfl
 have nc1 : w1.cell? ⟨w.heap.size, 1, none⟩ = some (J Z n.has) := (HP1.out.blkAt (i := 3) rfl).c 1 _ rfl
 have nc2 : w1.cell? ⟨w.heap.size, 2, none⟩ = some (J Z n.spent) := (HP1.out.blkAt (i := 3) rfl).c 2 _ rfl
 have nc3 : w1.cell? ⟨w.heap.size, 3, none⟩ = some (J Z n.earned) := (HP1.out.blkAt (i := 3) rfl).c 3 _ rfl
 have nc4 : w1.cell? ⟨w.heap.size, 4, none⟩ = some (V n.sa n.seen.length n.sc) := (HP1.out.blkAt (i := 3) rfl).c 4 _ rfl
 have nc5 : w1.cell? ⟨w.heap.size, 5, none⟩ = some (V n.pa n.peers.length n.pc) := (HP1.out.blkAt (i := 3) rfl).c 5 _ rfl
 have nd0 : w1.cell? ⟨w.heap.size + 1, 0, none⟩ = some (J Z m_fr) := (HP1.out.blkAt (i := 4) rfl).c 0 _ rfl
 have nd1 : w1.cell? ⟨w.heap.size + 1, 1, none⟩ = some (J Z m_to) := (HP1.out.blkAt (i := 4) rfl).c 1 _ rfl
 have nd2 : w1.cell? ⟨w.heap.size + 1, 2, none⟩ = some (J Z 1) := (HP1.out.blkAt (i := 4) rfl).c 2 _ rfl
 have nd3 : w1.cell? ⟨w.heap.size + 1, 3, none⟩ = some (J Z m_seq) := (HP1.out.blkAt (i := 4) rfl).c 3 _ rfl
 have nd4 : w1.cell? ⟨w.heap.size + 1, 4, none⟩ = some (J Z m_amt) := (HP1.out.blkAt (i := 4) rfl).c 4 _ rfl
 obtain ⟨xb1, xb2⟩ := rcvX_bd n.peers[k].E ⟨m_seq, m_amt⟩
 have wx : IntKind.i64.wrap (n.has + (rcvX n.peers[k].E ⟨m_seq, m_amt⟩)) = n.has + (rcvX n.peers[k].E ⟨m_seq, m_amt⟩) := wrap_in (by omega) (by omega)
 go_wp2_with fail
 rename_i K5 hK5
 refine wp_region_inv (by kernel_rfl) (fun L act x => ∃ l0 l1 l2 l3 l4 l5 l6 l7 l8 l9 l10 l11 l12 l13 l14 l15 l16 l17 l18 l19 : Bool, ∃ u10 u11 u12 u45 u46 u47 u48 u49 u50 u51 u52 u53 u54 u55 u56 u57 u58 u59 u60 : Value, L = #[l0, l1, l2, l3, l4, l5, l6, l7, l8, l9, l10, l11, l12, l13, l14, l15, l16, l17, l18, l19] ∧ act = { tmps := #[Value.agg #[J Z n.id, J Z n.has, J Z n.spent, J Z n.earned, V n.sa n.seen.length n.sc, V n.pa n.peers.length n.pc], Value.agg #[J Z m_fr, J Z m_to, J Z 1, J Z m_seq, J Z m_amt], Value.pointer (some { block := w.heap.size, off := 0 }), Value.pointer (some { block := w.heap.size + 1, off := 0 }), Value.pointer (some { block := w.heap.size + 1 + 1, off := 0 }), V none 0 0, J Z 0, J Z ↑k, U, U, u10, u11, u12, Value.agg #[J Z n.id, J Z n.has, J Z n.spent, J Z n.earned, V n.sa n.seen.length n.sc, V n.pa n.peers.length n.pc], Value.pointer (some { block := w.heap.size + 1, off := 0 }), J Z m_fr, J Z ↑k, J Z ↑k, Value.bool (decide (↑k < 0)), U, Value.pointer (some { block := w.heap.size + 1, off := 2 }), J Z 1, Value.bool false, U, U, U, U, U, U, U, U, U, U, U, U, U, U, U, U, U, U, U, U, U, U, u45, u46, u47, u48, u49, u50, u51, u52, u53, u54, u55, u56, u57, u58, u59, u60, U, U, U, U, U, U, U, U, U, U, U, U, U, U, U, U, U, U, U, U, U, U, U, U, U], defers := [] } ∧ TpF n w G k hk m_fr m_to m_seq m_amt l0 l1 l2 l3 l4 l5 l6 l7 l8 l9 l10 l11 l12 l13 l14 l15 l16 l17 l18 l19 u10 u11 u12 u45 u46 u47 u48 u49 u50 u51 u52 u53 u54 u55 u56 u57 u58 u59 u60 x) ?_ ?_ ?_
 rotate_left 2
 ·exact ⟨false, false, false, false, false, false, false, false, false, false, false, false, false, false, false, false, false, false, false, false, U, U, U, U, U, U, U, U, U, U, U, U, U, U, U, U, U, U, U, rfl, rfl, ⟨HP1.out.drew, nofun, nofun, nofun, nofun, nofun, nofun, nofun, nofun, nofun, nofun, nofun, nofun, nofun, nofun, nofun, nofun, nofun, nofun, nofun, nofun, nofun, nofun, nofun, nofun, nofun⟩⟩
 ·rintro L act x i ⟨l0, l1, l2, l3, l4, l5, l6, l7, l8, l9, l10, l11, l12, l13, l14, l15, l16, l17, l18, l19, u10, u11, u12, u45, u46, u47, u48, u49, u50, u51, u52, u53, u54, u55, u56, u57, u58, u59, u60, rfl, rfl, h⟩ hi K hK
  have hi15 : i < 20 := by
   obtain ⟨_, o, ho, _⟩ := mem_ready.1 hi
   exact (Array.getElem?_eq_some_iff.1 ho).1
  have hl := (mem_ready.1 hi).1
  obtain rfl | rfl | rfl | rfl | rfl | rfl | rfl | rfl | rfl | rfl | rfl | rfl | rfl | rfl | rfl | rfl | rfl | rfl | rfl | rfl := (by omega : i = 0 ∨ i = 1 ∨ i = 2 ∨ i = 3 ∨ i = 4 ∨ i = 5 ∨ i = 6 ∨ i = 7 ∨ i = 8 ∨ i = 9 ∨ i = 10 ∨ i = 11 ∨ i = 12 ∨ i = 13 ∨ i = 14 ∨ i = 15 ∨ i = 16 ∨ i = 17 ∨ i = 18 ∨ i = 19)
  ·have e : l0 = false := hl
   subst e
   refine wpOp_run (v := .pointer (some ⟨w.heap.size, 5, none⟩)) (w' := x) (by rfl) (by rfl) ?_ (hK _ _ ⟨true, l1, l2, l3, l4, l5, l6, l7, l8, l9, l10, l11, l12, l13, l14, l15, l16, l17, l18, l19, u10, u11, u12, u45, (.pointer (some ⟨w.heap.size, 5, none⟩)), u47, u48, u49, u50, u51, u52, u53, u54, u55, u56, u57, u58, u59, u60, rfl, rfl, { h with p46 := fun _ => rfl }⟩)
   go_simp
  ·have e : l1 = false := hl
   subst e
   have d0 : l0 = true := ready_on hi 0 (by kernel_rfl)
   subst d0
   have c5_ : x.cell? ⟨w.heap.size, 5, none⟩ = some (V (some ⟨G, 0, none⟩) n.peers.length n.pc) := by rw [← HPA.out]; exact (h.pool.blkAt (i := 3) rfl).c 5 _ rfl
   refine wpOp_run (v := V (some ⟨G, 0, none⟩) n.peers.length n.pc) (w' := x) (by rfl) (by rfl) ?_ (hK _ _ ⟨true, true, l2, l3, l4, l5, l6, l7, l8, l9, l10, l11, l12, l13, l14, l15, l16, l17, l18, l19, u10, u11, u12, u45, u46, (V (some ⟨G, 0, none⟩) n.peers.length n.pc), u48, u49, u50, u51, u52, u53, u54, u55, u56, u57, u58, u59, u60, rfl, rfl, { h with p47 := fun _ => rfl }⟩)
   rw [h.p46 rfl]
   go_simp
  ·have e : l2 = false := hl
   subst e
   refine wpOp_run (v := J Z ↑k) (w' := x) (by rfl) (by rfl) ?_ (hK _ _ ⟨l0, l1, true, l3, l4, l5, l6, l7, l8, l9, l10, l11, l12, l13, l14, l15, l16, l17, l18, l19, u10, u11, u12, u45, u46, u47, (J Z ↑k), u49, u50, u51, u52, u53, u54, u55, u56, u57, u58, u59, u60, rfl, rfl, { h with p48 := fun _ => rfl }⟩)
   go_simp
  ·have e : l3 = false := hl
   subst e
   have d1 : l1 = true := ready_on hi 1 (by kernel_rfl)
   subst d1
   have d2 : l2 = true := ready_on hi 2 (by kernel_rfl)
   subst d2
   refine wpOp_run (v := .pointer (some ⟨G, k * 4, none⟩)) (w' := x) (by rfl) (by rfl) ?_ (hK _ _ ⟨l0, true, true, true, l4, l5, l6, l7, l8, l9, l10, l11, l12, l13, l14, l15, l16, l17, l18, l19, u10, u11, u12, u45, u46, u47, u48, (.pointer (some ⟨G, k * 4, none⟩)), u50, u51, u52, u53, u54, u55, u56, u57, u58, u59, u60, rfl, rfl, { h with p49 := fun _ => rfl }⟩)
   rw [h.p47 rfl, h.p48 rfl]
   go_simp
  ·have e : l4 = false := hl
   subst e
   have d3 : l3 = true := ready_on hi 3 (by kernel_rfl)
   subst d3
   refine wpOp_run (v := .pointer (some ⟨G, k * 4 + 1, none⟩)) (w' := x) (by rfl) (by rfl) ?_ (hK _ _ ⟨l0, l1, l2, true, true, l5, l6, l7, l8, l9, l10, l11, l12, l13, l14, l15, l16, l17, l18, l19, u10, u11, u12, u45, u46, u47, u48, u49, (.pointer (some ⟨G, k * 4 + 1, none⟩)), u51, u52, u53, u54, u55, u56, u57, u58, u59, u60, rfl, rfl, { h with p50 := fun _ => rfl }⟩)
   rw [h.p49 rfl]
   go_simp
  ·have e : l5 = false := hl
   subst e
   have d4 : l4 = true := ready_on hi 4 (by kernel_rfl)
   subst d4
   obtain ⟨c0_, c1_, c2_, c3_⟩ := peer_at (HG.out ▸ h.pool.orowAt (i := 1) rfl) hk
   refine wpOp_run (v := .agg #[V n.peers[k].a n.peers[k].E.out.length n.peers[k].cap, J Z n.peers[k].E.sent, J Z n.peers[k].E.got]) (w' := x) (by rfl) (by rfl) ?_ (hK _ _ ⟨l0, l1, l2, l3, true, true, l6, l7, l8, l9, l10, l11, l12, l13, l14, l15, l16, l17, l18, l19, u10, u11, u12, u45, u46, u47, u48, u49, u50, (.agg #[V n.peers[k].a n.peers[k].E.out.length n.peers[k].cap, J Z n.peers[k].E.sent, J Z n.peers[k].E.got]), u52, u53, u54, u55, u56, u57, u58, u59, u60, rfl, rfl, { h with p51 := fun _ => rfl }⟩)
   rw [h.p50 rfl]
   go_simp
  ·have e : l6 = false := hl
   subst e
   refine wpOp_run (v := .pointer (some ⟨w.heap.size + 1, 3, none⟩)) (w' := x) (by rfl) (by rfl) ?_ (hK _ _ ⟨l0, l1, l2, l3, l4, l5, true, l7, l8, l9, l10, l11, l12, l13, l14, l15, l16, l17, l18, l19, u10, u11, u12, u45, u46, u47, u48, u49, u50, u51, (.pointer (some ⟨w.heap.size + 1, 3, none⟩)), u53, u54, u55, u56, u57, u58, u59, u60, rfl, rfl, { h with p52 := fun _ => rfl }⟩)
   go_simp
  ·have e : l7 = false := hl
   subst e
   have d6 : l6 = true := ready_on hi 6 (by kernel_rfl)
   subst d6
   have c3_ : x.cell? ⟨w.heap.size + 1, 3, none⟩ = some (J Z m_seq) := (h.pool.blkAt (i := 4) rfl).c 3 _ rfl
   refine wpOp_run (v := J Z m_seq) (w' := x) (by rfl) (by rfl) ?_ (hK _ _ ⟨l0, l1, l2, l3, l4, l5, true, true, l8, l9, l10, l11, l12, l13, l14, l15, l16, l17, l18, l19, u10, u11, u12, u45, u46, u47, u48, u49, u50, u51, u52, (J Z m_seq), u54, u55, u56, u57, u58, u59, u60, rfl, rfl, { h with p53 := fun _ => rfl }⟩)
   rw [h.p52 rfl]
   go_simp
  ·have e : l8 = false := hl
   subst e
   refine wpOp_run (v := .pointer (some ⟨w.heap.size + 1, 4, none⟩)) (w' := x) (by rfl) (by rfl) ?_ (hK _ _ ⟨l0, l1, l2, l3, l4, l5, l6, l7, true, l9, l10, l11, l12, l13, l14, l15, l16, l17, l18, l19, u10, u11, u12, u45, u46, u47, u48, u49, u50, u51, u52, u53, (.pointer (some ⟨w.heap.size + 1, 4, none⟩)), u55, u56, u57, u58, u59, u60, rfl, rfl, { h with p54 := fun _ => rfl }⟩)
   go_simp
  ·have e : l9 = false := hl
   subst e
   have d8 : l8 = true := ready_on hi 8 (by kernel_rfl)
   subst d8
   have c4_ : x.cell? ⟨w.heap.size + 1, 4, none⟩ = some (J Z m_amt) := (h.pool.blkAt (i := 4) rfl).c 4 _ rfl
   refine wpOp_run (v := J Z m_amt) (w' := x) (by rfl) (by rfl) ?_ (hK _ _ ⟨l0, l1, l2, l3, l4, l5, l6, l7, true, true, l10, l11, l12, l13, l14, l15, l16, l17, l18, l19, u10, u11, u12, u45, u46, u47, u48, u49, u50, u51, u52, u53, u54, (J Z m_amt), u56, u57, u58, u59, u60, rfl, rfl, { h with p55 := fun _ => rfl }⟩)
   rw [h.p54 rfl]
   go_simp
  ·have e : l10 = false := hl
   subst e
   have d7 : l7 = true := ready_on hi 7 (by kernel_rfl)
   subst d7
   have d9 : l9 = true := ready_on hi 9 (by kernel_rfl)
   subst d9
   refine wpOp_run (v := .agg #[J Z m_seq, J Z m_amt]) (w' := x) (by rfl) (by rfl) ?_ (hK _ _ ⟨l0, l1, l2, l3, l4, l5, l6, true, l8, true, true, l11, l12, l13, l14, l15, l16, l17, l18, l19, u10, u11, u12, u45, u46, u47, u48, u49, u50, u51, u52, u53, u54, u55, (.agg #[J Z m_seq, J Z m_amt]), u57, u58, u59, u60, rfl, rfl, { h with p56 := fun _ => rfl }⟩)
   rw [h.p53 rfl, h.p55 rfl]
   go_simp
  ·have e : l11 = false := hl
   subst e
   have d5 : l5 = true := ready_on hi 5 (by kernel_rfl)
   subst d5
   have d10 : l10 = true := ready_on hi 10 (by kernel_rfl)
   subst d10
   have z12 : l12 = false := by
    cases hz : l12
    ·rfl
    ·exact absurd (h.d12_11 hz) (by simp)
   subst z12
   have z13 : l13 = false := by
    cases hz : l13
    ·rfl
    ·exact absurd (h.d13_11 hz) (by simp)
   subst z13
   have z17 : l17 = false := by
    cases hz : l17
    ·rfl
    ·exact absurd (h.d17_11 hz) (by simp)
   subst z17
   refine wpOp_call (by rfl) (by rfl) ?_ (specReceived_pool n.peers[k].a n.peers[k].E.out n.peers[k].cap n.peers[k].E.sent n.peers[k].E.got m_seq m_amt x (hs2 _ (List.getElem_mem hk)) (h.pool.endAt (i := 2) rfl hk).nocap (h.pool.endAt (i := 2) rfl hk).rows) ?_
   ·rw [h.p51 rfl, h.p56 rfl]; go_simp
   ·rintro e w' ⟨a5, c5, rfl, hb5, st5, hi5⟩
    exact ⟨_, rfl, hK _ _ ⟨l0, l1, l2, l3, l4, true, l6, l7, l8, l9, true, true, false, false, l14, l15, l16, false, l18, l19, u10, u11, u12, u45, u46, u47, u48, u49, u50, u51, u52, u53, u54, u55, u56, (.tuple #[.agg #[V a5 (rcvE n.peers[k].E ⟨m_seq, m_amt⟩).out.length c5, J Z (rcvE n.peers[k].E ⟨m_seq, m_amt⟩).sent, J Z (rcvE n.peers[k].E ⟨m_seq, m_amt⟩).got], J Z (rcvX n.peers[k].E ⟨m_seq, m_amt⟩), J Z (rcvY n.peers[k].E ⟨m_seq, m_amt⟩)]), u58, u59, u60, rfl, rfl, { h with q57 := (fun _ => rfl), q45 := (fun q => by cases q), q58 := (fun q => by cases q), pool := (h.pool.new (i := 6) rfl hb5 st5 hi5), d12_11 := fun _ => rfl, d13_11 := fun _ => rfl, d17_11 := fun _ => rfl }⟩⟩
  ·have e : l12 = false := hl
   subst e
   have d11 : l11 = true := ready_on hi 11 (by kernel_rfl)
   subst d11
   have z13 : l13 = false := by
    cases hz : l13
    ·rfl
    ·exact absurd (h.d13_12 hz) (by simp)
   subst z13
   refine wpOp_run (v := .tuple #[.agg #[V (slA u57) (rcvE n.peers[k].E ⟨m_seq, m_amt⟩).out.length (slC u57), J Z (rcvE n.peers[k].E ⟨m_seq, m_amt⟩).sent, J Z (rcvE n.peers[k].E ⟨m_seq, m_amt⟩).got], J Z (rcvX n.peers[k].E ⟨m_seq, m_amt⟩), J Z (rcvY n.peers[k].E ⟨m_seq, m_amt⟩)]) (w' := x) (by rfl) (by rfl) ?_ (hK _ _ ⟨l0, l1, l2, l3, l4, l5, l6, l7, l8, l9, l10, true, true, false, l14, l15, l16, l17, l18, l19, u10, u11, u12, (.tuple #[.agg #[V (slA u57) (rcvE n.peers[k].E ⟨m_seq, m_amt⟩).out.length (slC u57), J Z (rcvE n.peers[k].E ⟨m_seq, m_amt⟩).sent, J Z (rcvE n.peers[k].E ⟨m_seq, m_amt⟩).got], J Z (rcvX n.peers[k].E ⟨m_seq, m_amt⟩), J Z (rcvY n.peers[k].E ⟨m_seq, m_amt⟩)]), u46, u47, u48, u49, u50, u51, u52, u53, u54, u55, u56, u57, u58, u59, u60, rfl, rfl, { h with q45 := (fun _ => rfl), d12_11 := fun _ => rfl, d13_12 := fun _ => rfl }⟩)
   rw [← h.q57 rfl]
   go_simp
  ·have e : l13 = false := hl
   subst e
   have d12 : l12 = true := ready_on hi 12 (by kernel_rfl)
   subst d12
   have z17 : l17 = false := by
    cases hz : l17
    ·rfl
    ·exact absurd (h.d17_13 hz) (by simp)
   subst z17
   refine wpOp_run (v := .agg #[V (slA u57) (rcvE n.peers[k].E ⟨m_seq, m_amt⟩).out.length (slC u57), J Z (rcvE n.peers[k].E ⟨m_seq, m_amt⟩).sent, J Z (rcvE n.peers[k].E ⟨m_seq, m_amt⟩).got]) (w' := x) (by rfl) (by rfl) ?_ (hK _ _ ⟨l0, l1, l2, l3, l4, l5, l6, l7, l8, l9, l10, l11, true, true, l14, l15, l16, false, l18, l19, u10, u11, u12, u45, u46, u47, u48, u49, u50, u51, u52, u53, u54, u55, u56, u57, (.agg #[V (slA u57) (rcvE n.peers[k].E ⟨m_seq, m_amt⟩).out.length (slC u57), J Z (rcvE n.peers[k].E ⟨m_seq, m_amt⟩).sent, J Z (rcvE n.peers[k].E ⟨m_seq, m_amt⟩).got]), u59, u60, rfl, rfl, { h with q58 := (fun _ => rfl), d13_11 := fun _ => h.d12_11 rfl, d13_12 := fun _ => rfl, d17_13 := fun _ => rfl }⟩)
   rw [h.q45 rfl]
   go_simp
  ·have e : l14 = false := hl
   subst e
   have d12 : l12 = true := ready_on hi 12 (by kernel_rfl)
   subst d12
   refine wpOp_run (v := J Z (rcvX n.peers[k].E ⟨m_seq, m_amt⟩)) (w' := x) (by rfl) (by rfl) ?_ (hK _ _ ⟨l0, l1, l2, l3, l4, l5, l6, l7, l8, l9, l10, l11, true, l13, true, l15, l16, l17, l18, l19, u10, u11, u12, u45, u46, u47, u48, u49, u50, u51, u52, u53, u54, u55, u56, u57, u58, (J Z (rcvX n.peers[k].E ⟨m_seq, m_amt⟩)), u60, rfl, rfl, { h with q59 := (fun _ => rfl) }⟩)
   rw [h.q45 rfl]
   go_simp
  ·have e : l15 = false := hl
   subst e
   have d12 : l12 = true := ready_on hi 12 (by kernel_rfl)
   subst d12
   refine wpOp_run (v := J Z (rcvY n.peers[k].E ⟨m_seq, m_amt⟩)) (w' := x) (by rfl) (by rfl) ?_ (hK _ _ ⟨l0, l1, l2, l3, l4, l5, l6, l7, l8, l9, l10, l11, true, l13, l14, true, l16, l17, l18, l19, u10, u11, u12, u45, u46, u47, u48, u49, u50, u51, u52, u53, u54, u55, u56, u57, u58, u59, (J Z (rcvY n.peers[k].E ⟨m_seq, m_amt⟩)), rfl, rfl, { h with q60 := (fun _ => rfl) }⟩)
   rw [h.q45 rfl]
   go_simp
  ·have e : l16 = false := hl
   subst e
   have z17 : l17 = false := by
    cases hz : l17
    ·rfl
    ·exact absurd (h.d17_16 hz) (by simp)
   subst z17
   refine wpOp_run (v := .pointer (some ⟨x.heap.size, 0, none⟩)) (w' := x.alloc (.cells #[V none 0 0, J Z 0, J Z 0] 39)) (by rfl) (by rfl) ?_ (hK _ _ ⟨l0, l1, l2, l3, l4, l5, l6, l7, l8, l9, l10, l11, l12, l13, l14, l15, true, false, l18, l19, (.pointer (some ⟨x.heap.size, 0, none⟩)), u11, u12, u45, u46, u47, u48, u49, u50, u51, u52, u53, u54, u55, u56, u57, u58, u59, u60, rfl, rfl, { h with a10 := (fun _ => rfl), pool := (h.pool.newBlk (i := 7) rfl [V none 0 0, J Z 0, J Z 0] 39), d17_16 := fun _ => rfl }⟩)
   go_simp
  ·have e : l17 = false := hl
   subst e
   have d0 : l0 = true := ready_on hi 0 (by kernel_rfl)
   subst d0
   have d1 : l1 = true := ready_on hi 1 (by kernel_rfl)
   subst d1
   have d2 : l2 = true := ready_on hi 2 (by kernel_rfl)
   subst d2
   have d3 : l3 = true := ready_on hi 3 (by kernel_rfl)
   subst d3
   have d4 : l4 = true := ready_on hi 4 (by kernel_rfl)
   subst d4
   have d5 : l5 = true := ready_on hi 5 (by kernel_rfl)
   subst d5
   have d6 : l6 = true := ready_on hi 6 (by kernel_rfl)
   subst d6
   have d7 : l7 = true := ready_on hi 7 (by kernel_rfl)
   subst d7
   have d8 : l8 = true := ready_on hi 8 (by kernel_rfl)
   subst d8
   have d9 : l9 = true := ready_on hi 9 (by kernel_rfl)
   subst d9
   have d10 : l10 = true := ready_on hi 10 (by kernel_rfl)
   subst d10
   have d11 : l11 = true := ready_on hi 11 (by kernel_rfl)
   subst d11
   have d12 : l12 = true := ready_on hi 12 (by kernel_rfl)
   subst d12
   have d13 : l13 = true := ready_on hi 13 (by kernel_rfl)
   subst d13
   have d16 : l16 = true := ready_on hi 16 (by kernel_rfl)
   subst d16
   refine wpOp_skip (w' := (((x.setCell ⟨ptB u10, 0, none⟩ (V (slA u57) (rcvE n.peers[k].E ⟨m_seq, m_amt⟩).out.length (slC u57))).setCell ⟨ptB u10, 1, none⟩ (J Z (rcvE n.peers[k].E ⟨m_seq, m_amt⟩).sent)).setCell ⟨ptB u10, 2, none⟩ (J Z (rcvE n.peers[k].E ⟨m_seq, m_amt⟩).got))) (by rfl) (by rfl) ?_ (hK _ _ ⟨true, true, true, true, true, true, true, true, true, true, true, true, true, true, l14, l15, true, true, l18, l19, u10, u11, u12, u45, u46, u47, u48, u49, u50, u51, u52, u53, u54, u55, u56, u57, u58, u59, u60, rfl, rfl, { h with pool := ((((h.pool.setBlk (i := 7) rfl 0 (V (slA u57) (rcvE n.peers[k].E ⟨m_seq, m_amt⟩).out.length (slC u57)) (by simp)).setBlk (i := 7) rfl 1 (J Z (rcvE n.peers[k].E ⟨m_seq, m_amt⟩).sent) (by simp)).setBlk (i := 7) rfl 2 (J Z (rcvE n.peers[k].E ⟨m_seq, m_amt⟩).got) (by simp))), d17_11 := fun _ => rfl, d17_16 := fun _ => rfl, d17_13 := fun _ => rfl }⟩)
   have A := h.pool.blkAt (i := 7) rfl
   have t0 := A.c 0 _ rfl
   have f0 := A.f 0
   have t1 := A.c 1 _ rfl
   have f1 := A.f 1
   have t2 := A.c 2 _ rfl
   have f2 := A.f 2
   obtain ⟨P8, hP8⟩ : ∃ P8, P8 = ptB u10 := ⟨_, rfl⟩
   have e8 := h.a10 rfl
   rw [h.q58 rfl]
   rw [← hP8] at t0 t1 t2 f0 f1 f2 e8 ⊢
   rw [e8]
   clear e8 hP8 A h
   go_simp
  ·have e : l18 = false := hl
   subst e
   have d0 : l0 = true := ready_on hi 0 (by kernel_rfl)
   subst d0
   have d1 : l1 = true := ready_on hi 1 (by kernel_rfl)
   subst d1
   have d2 : l2 = true := ready_on hi 2 (by kernel_rfl)
   subst d2
   have d3 : l3 = true := ready_on hi 3 (by kernel_rfl)
   subst d3
   have d4 : l4 = true := ready_on hi 4 (by kernel_rfl)
   subst d4
   have d5 : l5 = true := ready_on hi 5 (by kernel_rfl)
   subst d5
   have d6 : l6 = true := ready_on hi 6 (by kernel_rfl)
   subst d6
   have d7 : l7 = true := ready_on hi 7 (by kernel_rfl)
   subst d7
   have d8 : l8 = true := ready_on hi 8 (by kernel_rfl)
   subst d8
   have d9 : l9 = true := ready_on hi 9 (by kernel_rfl)
   subst d9
   have d10 : l10 = true := ready_on hi 10 (by kernel_rfl)
   subst d10
   have d11 : l11 = true := ready_on hi 11 (by kernel_rfl)
   subst d11
   have d12 : l12 = true := ready_on hi 12 (by kernel_rfl)
   subst d12
   have d13 : l13 = true := ready_on hi 13 (by kernel_rfl)
   subst d13
   have d14 : l14 = true := ready_on hi 14 (by kernel_rfl)
   subst d14
   have d16 : l16 = true := ready_on hi 16 (by kernel_rfl)
   subst d16
   have d17 : l17 = true := ready_on hi 17 (by kernel_rfl)
   subst d17
   refine wpOp_run (v := J Z (rcvX n.peers[k].E ⟨m_seq, m_amt⟩)) (w' := x) (by rfl) (by rfl) ?_ (hK _ _ ⟨true, true, true, true, true, true, true, true, true, true, true, true, true, true, true, l15, true, true, true, l19, u10, (J Z (rcvX n.peers[k].E ⟨m_seq, m_amt⟩)), u12, u45, u46, u47, u48, u49, u50, u51, u52, u53, u54, u55, u56, u57, u58, u59, u60, rfl, rfl, { h with q11 := (fun _ => rfl) }⟩)
   rw [h.q59 rfl]
   go_simp
  ·have e : l19 = false := hl
   subst e
   have d0 : l0 = true := ready_on hi 0 (by kernel_rfl)
   subst d0
   have d1 : l1 = true := ready_on hi 1 (by kernel_rfl)
   subst d1
   have d2 : l2 = true := ready_on hi 2 (by kernel_rfl)
   subst d2
   have d3 : l3 = true := ready_on hi 3 (by kernel_rfl)
   subst d3
   have d4 : l4 = true := ready_on hi 4 (by kernel_rfl)
   subst d4
   have d5 : l5 = true := ready_on hi 5 (by kernel_rfl)
   subst d5
   have d6 : l6 = true := ready_on hi 6 (by kernel_rfl)
   subst d6
   have d7 : l7 = true := ready_on hi 7 (by kernel_rfl)
   subst d7
   have d8 : l8 = true := ready_on hi 8 (by kernel_rfl)
   subst d8
   have d9 : l9 = true := ready_on hi 9 (by kernel_rfl)
   subst d9
   have d10 : l10 = true := ready_on hi 10 (by kernel_rfl)
   subst d10
   have d11 : l11 = true := ready_on hi 11 (by kernel_rfl)
   subst d11
   have d12 : l12 = true := ready_on hi 12 (by kernel_rfl)
   subst d12
   have d13 : l13 = true := ready_on hi 13 (by kernel_rfl)
   subst d13
   have d14 : l14 = true := ready_on hi 14 (by kernel_rfl)
   subst d14
   have d15 : l15 = true := ready_on hi 15 (by kernel_rfl)
   subst d15
   have d16 : l16 = true := ready_on hi 16 (by kernel_rfl)
   subst d16
   have d17 : l17 = true := ready_on hi 17 (by kernel_rfl)
   subst d17
   have d18 : l18 = true := ready_on hi 18 (by kernel_rfl)
   subst d18
   refine wpOp_run (v := J Z (rcvY n.peers[k].E ⟨m_seq, m_amt⟩)) (w' := x) (by rfl) (by rfl) ?_ (hK _ _ ⟨true, true, true, true, true, true, true, true, true, true, true, true, true, true, true, true, true, true, true, true, u10, u11, (J Z (rcvY n.peers[k].E ⟨m_seq, m_amt⟩)), u45, u46, u47, u48, u49, u50, u51, u52, u53, u54, u55, u56, u57, u58, u59, u60, rfl, rfl, { h with q12 := (fun _ => rfl) }⟩)
   rw [h.q60 rfl]
   go_simp
 ·rintro L act x ⟨l0, l1, l2, l3, l4, l5, l6, l7, l8, l9, l10, l11, l12, l13, l14, l15, l16, l17, l18, l19, u10, u11, u12, u45, u46, u47, u48, u49, u50, u51, u52, u53, u54, u55, u56, u57, u58, u59, u60, rfl, rfl, h⟩ hr
  have hall := ready_all hr rfl (by decide)
  have t0 : l0 = true := hall 0 (by decide)
  have t1 : l1 = true := hall 1 (by decide)
  have t2 : l2 = true := hall 2 (by decide)
  have t3 : l3 = true := hall 3 (by decide)
  have t4 : l4 = true := hall 4 (by decide)
  have t5 : l5 = true := hall 5 (by decide)
  have t6 : l6 = true := hall 6 (by decide)
  have t7 : l7 = true := hall 7 (by decide)
  have t8 : l8 = true := hall 8 (by decide)
  have t9 : l9 = true := hall 9 (by decide)
  have t10 : l10 = true := hall 10 (by decide)
  have t11 : l11 = true := hall 11 (by decide)
  have t12 : l12 = true := hall 12 (by decide)
  have t13 : l13 = true := hall 13 (by decide)
  have t14 : l14 = true := hall 14 (by decide)
  have t15 : l15 = true := hall 15 (by decide)
  have t16 : l16 = true := hall 16 (by decide)
  have t17 : l17 = true := hall 17 (by decide)
  have t18 : l18 = true := hall 18 (by decide)
  have t19 : l19 = true := hall 19 (by decide)
  subst t0 t1 t2 t3 t4 t5 t6 t7 t8 t9 t10 t11 t12 t13 t14 t15 t16 t17 t18 t19
  clear hall hr
  have e8 := h.a10 rfl
  have e9 := h.q11 rfl
  have e10 := h.q12 rfl
  obtain ⟨a5, c5, ha5⟩ : ∃ a c, a = slA u57 ∧ c = slC u57 := ⟨_, _, rfl, rfl⟩
  obtain ⟨P8, hP8⟩ : ∃ P8, P8 = ptB u10 := ⟨_, rfl⟩
  have HP5 : Hid (Pool (fps (ndL n)) w [[orow 2 snCells n.sa n.sc n.seen], [orow 4 prCells n.pa n.pc n.peers], endsL n.peers, [blk w.heap.size [J Z n.id, J Z n.has, J Z n.spent, J Z n.earned, V n.sa n.seen.length n.sc, V n.pa n.peers.length n.pc]], [blk (w.heap.size + 1) [J Z m_fr, J Z m_to, J Z 1, J Z m_seq, J Z m_amt]], [blk (w.heap.size + 1 + 1) [J Z 0, J Z 0, J Z 0, J Z 0, V none 0 0, V none 0 0]], [orow 2 prcCells a5 c5 (rcvE n.peers[k].E ⟨m_seq, m_amt⟩).out], [blk P8 [V a5 (rcvE n.peers[k].E ⟨m_seq, m_amt⟩).out.length c5, J Z (rcvE n.peers[k].E ⟨m_seq, m_amt⟩).sent, J Z (rcvE n.peers[k].E ⟨m_seq, m_amt⟩).got]], []] x) := hide (by rw [ha5.1, ha5.2, hP8]; exact h.pool)
  rw [← hP8] at e8
  clear h ha5 hP8
  subst e8 e9 e10
  refine hK5 _ _ ?_
  clear hK5
  have HP7 := HP5.out
  have nc0 : x.cell? ⟨w.heap.size, 0, none⟩ = some (J Z n.id) := (HP5.out.blkAt (i := 3) rfl).c 0 _ rfl
  have nc1 : x.cell? ⟨w.heap.size, 1, none⟩ = some (J Z n.has) := (HP5.out.blkAt (i := 3) rfl).c 1 _ rfl
  have nc2 : x.cell? ⟨w.heap.size, 2, none⟩ = some (J Z n.spent) := (HP5.out.blkAt (i := 3) rfl).c 2 _ rfl
  have nc3 : x.cell? ⟨w.heap.size, 3, none⟩ = some (J Z n.earned) := (HP5.out.blkAt (i := 3) rfl).c 3 _ rfl
  have nc4 : x.cell? ⟨w.heap.size, 4, none⟩ = some (V n.sa n.seen.length n.sc) := (HP5.out.blkAt (i := 3) rfl).c 4 _ rfl
  have nc5 : x.cell? ⟨w.heap.size, 5, none⟩ = some (V n.pa n.peers.length n.pc) := (HP5.out.blkAt (i := 3) rfl).c 5 _ rfl
  have ny0 : x.cell? ⟨w.heap.size + 1 + 1, 0, none⟩ = some (J Z 0) := (HP5.out.blkAt (i := 5) rfl).c 0 _ rfl
  have ny1 : x.cell? ⟨w.heap.size + 1 + 1, 1, none⟩ = some (J Z 0) := (HP5.out.blkAt (i := 5) rfl).c 1 _ rfl
  have ny2 : x.cell? ⟨w.heap.size + 1 + 1, 2, none⟩ = some (J Z 0) := (HP5.out.blkAt (i := 5) rfl).c 2 _ rfl
  have ny3 : x.cell? ⟨w.heap.size + 1 + 1, 3, none⟩ = some (J Z 0) := (HP5.out.blkAt (i := 5) rfl).c 3 _ rfl
  have ny4 : x.cell? ⟨w.heap.size + 1 + 1, 4, none⟩ = some (V none 0 0) := (HP5.out.blkAt (i := 5) rfl).c 4 _ rfl
  have ny5 : x.cell? ⟨w.heap.size + 1 + 1, 5, none⟩ = some (V none 0 0) := (HP5.out.blkAt (i := 5) rfl).c 5 _ rfl
  have zny0 : x.frozen? ⟨w.heap.size + 1 + 1, 0, none⟩ = false := (HP5.out.blkAt (i := 5) rfl).f 0
  have zny1 : x.frozen? ⟨w.heap.size + 1 + 1, 1, none⟩ = false := (HP5.out.blkAt (i := 5) rfl).f 1
  have zny2 : x.frozen? ⟨w.heap.size + 1 + 1, 2, none⟩ = false := (HP5.out.blkAt (i := 5) rfl).f 2
  have zny3 : x.frozen? ⟨w.heap.size + 1 + 1, 3, none⟩ = false := (HP5.out.blkAt (i := 5) rfl).f 3
  have zny4 : x.frozen? ⟨w.heap.size + 1 + 1, 4, none⟩ = false := (HP5.out.blkAt (i := 5) rfl).f 4
  have zny5 : x.frozen? ⟨w.heap.size + 1 + 1, 5, none⟩ = false := (HP5.out.blkAt (i := 5) rfl).f 5
  have HQ : Hid _ := hide (HP7.set6 (i := 5) rfl (J Z n.id) (J Z n.has) (J Z n.spent) (J Z n.earned) (V n.sa n.seen.length n.sc) (V n.pa n.peers.length n.pc))
  go_wp2
  refine name_post (fun W9 hW9 => ?_)
  have hq := HQ.out
  rw [← hW9] at hq
  have z_ := hq.blkAt (i := 5) rfl
  have g0_ := z_.c 0 _ rfl
  have g1_ := z_.c 1 _ rfl
  have g2_ := z_.c 2 _ rfl
  have g3_ := z_.c 3 _ rfl
  have g4_ := z_.c 4 _ rfl
  have g5_ := z_.c 5 _ rfl
  have hq2 := hq.noMsg (i := 8) rfl
  exact bodyPost_ret (v := .tuple #[ndV n, V none 0 0, J Z (6)]) (by simp [results, Try.results21, go_sem, g0_, g1_, g2_, g3_, g4_, g5_, ndV]) rfl ⟨n, none, 0, (by rw [HM.out] <;> rfl), (by rw [HM.out] <;> rfl), (by
   rw [HM.out]
   exact ((((((hq2.drop (i := 7) rfl).drop (i := 6) rfl).drop (i := 5) rfl).drop (i := 4) rfl).drop (i := 3) rfl)).cast (by simp [ndL]))⟩
structure TpY (n : Nd) (w : World) (G k : Nat) (hk : k < n.peers.length) (m_fr m_to m_seq m_amt : Int) (l0 l1 l2 l3 l4 l5 l6 l7 l8 l9 l10 l11 l12 l13 l14 l15 l16 l17 l18 l19 : Bool) (u10 u11 u12 u45 u46 u47 u48 u49 u50 u51 u52 u53 u54 u55 u56 u57 u58 u59 u60 : Value) (x : World) : Prop where
 pool : Pool (fps (ndL n)) w [[orow 2 snCells n.sa n.sc n.seen], [orow 4 prCells n.pa n.pc n.peers], endsL n.peers, [blk w.heap.size [J Z n.id, J Z n.has, J Z n.spent, J Z n.earned, V n.sa n.seen.length n.sc, V n.pa n.peers.length n.pc]], [blk (w.heap.size + 1) [J Z m_fr, J Z m_to, J Z 1, J Z m_seq, J Z m_amt]], [blk (w.heap.size + 1 + 1) [J Z 0, J Z 0, J Z 0, J Z 0, V none 0 0, V none 0 0]], cond l11 [orow 2 prcCells (slA u57) (slC u57) (rcvE n.peers[k].E ⟨m_seq, m_amt⟩).out] [], cond l17 [blk (ptB u10) [V (slA u57) (rcvE n.peers[k].E ⟨m_seq, m_amt⟩).out.length (slC u57), J Z (rcvE n.peers[k].E ⟨m_seq, m_amt⟩).sent, J Z (rcvE n.peers[k].E ⟨m_seq, m_amt⟩).got]] (cond l16 [blk (ptB u10) [V none 0 0, J Z 0, J Z 0]] []), []] x
 q57 : l11 = true → u57 = .tuple #[.agg #[V (slA u57) (rcvE n.peers[k].E ⟨m_seq, m_amt⟩).out.length (slC u57), J Z (rcvE n.peers[k].E ⟨m_seq, m_amt⟩).sent, J Z (rcvE n.peers[k].E ⟨m_seq, m_amt⟩).got], J Z (rcvX n.peers[k].E ⟨m_seq, m_amt⟩), J Z (rcvY n.peers[k].E ⟨m_seq, m_amt⟩)]
 q45 : l12 = true → u45 = .tuple #[.agg #[V (slA u57) (rcvE n.peers[k].E ⟨m_seq, m_amt⟩).out.length (slC u57), J Z (rcvE n.peers[k].E ⟨m_seq, m_amt⟩).sent, J Z (rcvE n.peers[k].E ⟨m_seq, m_amt⟩).got], J Z (rcvX n.peers[k].E ⟨m_seq, m_amt⟩), J Z (rcvY n.peers[k].E ⟨m_seq, m_amt⟩)]
 q58 : l13 = true → u58 = .agg #[V (slA u57) (rcvE n.peers[k].E ⟨m_seq, m_amt⟩).out.length (slC u57), J Z (rcvE n.peers[k].E ⟨m_seq, m_amt⟩).sent, J Z (rcvE n.peers[k].E ⟨m_seq, m_amt⟩).got]
 q59 : l14 = true → u59 = J Z (rcvX n.peers[k].E ⟨m_seq, m_amt⟩)
 q60 : l15 = true → u60 = J Z (rcvY n.peers[k].E ⟨m_seq, m_amt⟩)
 q11 : l18 = true → u11 = J Z (rcvX n.peers[k].E ⟨m_seq, m_amt⟩)
 q12 : l19 = true → u12 = J Z (rcvY n.peers[k].E ⟨m_seq, m_amt⟩)
 a10 : l16 = true → u10 = .pointer (some ⟨ptB u10, 0, none⟩)
 d12_11 : l12 = true → l11 = true
 d13_11 : l13 = true → l11 = true
 d17_11 : l17 = true → l11 = true
 d17_16 : l17 = true → l16 = true
 d13_12 : l13 = true → l12 = true
 d17_13 : l17 = true → l13 = true
 p46 : l0 = true → u46 = .pointer (some ⟨w.heap.size, 5, none⟩)
 p47 : l1 = true → u47 = V (some ⟨G, 0, none⟩) n.peers.length n.pc
 p48 : l2 = true → u48 = J Z ↑k
 p49 : l3 = true → u49 = .pointer (some ⟨G, k * 4, none⟩)
 p50 : l4 = true → u50 = .pointer (some ⟨G, k * 4 + 1, none⟩)
 p51 : l5 = true → u51 = .agg #[V n.peers[k].a n.peers[k].E.out.length n.peers[k].cap, J Z n.peers[k].E.sent, J Z n.peers[k].E.got]
 p52 : l6 = true → u52 = .pointer (some ⟨w.heap.size + 1, 3, none⟩)
 p53 : l7 = true → u53 = J Z m_seq
 p54 : l8 = true → u54 = .pointer (some ⟨w.heap.size + 1, 4, none⟩)
 p55 : l9 = true → u55 = J Z m_amt
 p56 : l10 = true → u56 = .agg #[J Z m_seq, J Z m_amt]
structure Tq (n : Nd) (w : World) (G k : Nat) (hk : k < n.peers.length) (m_fr m_to m_seq m_amt : Int) (a5 : Option Addr) (c5 P8 : Nat) (l0 l1 l2 l3 l4 l5 l6 l7 l8 l9 l10 : Bool) (u5 u6 u78 u79 u80 u81 u82 u83 u84 u85 : Value) (x : World) : Prop where
 pool : Pool (fps (ndL n)) w [[orow 2 snCells n.sa n.sc n.seen], [orow 4 prCells n.pa n.pc (n.peers.set k (⟨n.peers[k].id, a5, c5, rcvE n.peers[k].E ⟨m_seq, m_amt⟩⟩ : Pr))], endsL (n.peers.set k (⟨n.peers[k].id, a5, c5, rcvE n.peers[k].E ⟨m_seq, m_amt⟩⟩ : Pr)), [blk w.heap.size [J Z n.id, J Z (n.has + (rcvX n.peers[k].E ⟨m_seq, m_amt⟩)), J Z n.spent, J Z n.earned, V n.sa n.seen.length n.sc, V n.pa n.peers.length n.pc]], [blk (w.heap.size + 1) [J Z m_fr, J Z m_to, J Z 1, J Z m_seq, J Z m_amt]], cond l8 [blk (w.heap.size + 1 + 1) [J Z n.id, J Z (n.has + (rcvX n.peers[k].E ⟨m_seq, m_amt⟩)), J Z n.spent, J Z n.earned, V n.sa n.seen.length n.sc, V n.pa n.peers.length n.pc]] [blk (w.heap.size + 1 + 1) [J Z 0, J Z 0, J Z 0, J Z 0, V none 0 0, V none 0 0]], [], [blk P8 [V a5 (rcvE n.peers[k].E ⟨m_seq, m_amt⟩).out.length c5, J Z (rcvE n.peers[k].E ⟨m_seq, m_amt⟩).sent, J Z (rcvE n.peers[k].E ⟨m_seq, m_amt⟩).got]], cond l7 [blk (gOf (slA u85)) [J Z n.id, J Z m_fr, J Z 2, J Z (rcvY n.peers[k].E ⟨m_seq, m_amt⟩), J Z 0]] []] x
 q85 : l7 = true → u85 = V (some ⟨gOf (slA u85), 0, none⟩) 1 1
 q5 : l9 = true → u5 = u85
 q6 : l10 = true → u6 = J Z 0
 d9_7 : l9 = true → l7 = true
 p78 : l0 = true → u78 = .agg #[J Z n.id, J Z (n.has + (rcvX n.peers[k].E ⟨m_seq, m_amt⟩)), J Z n.spent, J Z n.earned, V n.sa n.seen.length n.sc, V n.pa n.peers.length n.pc]
 p79 : l1 = true → u79 = .pointer (some ⟨w.heap.size, 0, none⟩)
 p80 : l2 = true → u80 = J Z n.id
 p81 : l3 = true → u81 = .pointer (some ⟨w.heap.size + 1, 0, none⟩)
 p82 : l4 = true → u82 = J Z m_fr
 p83 : l5 = true → u83 = J Z (rcvY n.peers[k].E { seq := m_seq, amt := m_amt })
 p84 : l6 = true → u84 = .agg #[J Z n.id, J Z m_fr, J Z 2, J Z (rcvY n.peers[k].E { seq := m_seq, amt := m_amt }), J Z 0]
set_option maxHeartbeats 4000000 in
theorem take_got (n : Nd) (m_fr m_to m_seq m_amt : Int) (w : World) (hs : SmL n.peers) (h : Star (ndL n) w) (hr : 0 ≤ n.has ∧ n.has ≤ 10000000000000) (k : Nat) (hk : k < n.peers.length) (hf : fi (n.peers.map Pr.id) m_fr = some k) (hq : ¬ 10000000000000 < n.has + rcvX n.peers[k].E ⟨m_seq, m_amt⟩) :
  Calls Try.prog 21 #[.agg #[J Z n.id, J Z n.has, J Z n.spent, J Z n.earned, V n.sa n.seen.length n.sc, V n.pa n.peers.length n.pc], .agg #[J Z m_fr, J Z m_to, J Z 1, J Z m_seq, J Z m_amt]] w fun e w' => ActedEnd (fps (ndL n)) (takeM n.d ⟨m_fr, m_to, 1, m_seq, m_amt⟩) w e w' := by
 obtain ⟨hs1, hs2⟩ := hs
 obtain ⟨r1, r2⟩ := hr
 obtain ⟨W, hW⟩ : ∃ W, W = ((w.alloc (.cells #[J Z n.id, J Z n.has, J Z n.spent, J Z n.earned, V n.sa n.seen.length n.sc, V n.pa n.peers.length n.pc] 27)).alloc (.cells #[J Z m_fr, J Z m_to, J Z 1, J Z m_seq, J Z m_amt] 29)).alloc (.cells #[J Z 0, J Z 0, J Z 0, J Z 0, V none 0 0, V none 0 0] 27) := ⟨_, rfl⟩
 have s1 : (w.alloc (.cells #[J Z n.id, J Z n.has, J Z n.spent, J Z n.earned, V n.sa n.seen.length n.sc, V n.pa n.peers.length n.pc] 27)).heap.size = w.heap.size + 1 := by simp
 have s2 : ((w.alloc (.cells #[J Z n.id, J Z n.has, J Z n.spent, J Z n.earned, V n.sa n.seen.length n.sc, V n.pa n.peers.length n.pc] 27)).alloc (.cells #[J Z m_fr, J Z m_to, J Z 1, J Z m_seq, J Z m_amt] 29)).heap.size = w.heap.size + 1 + 1 := by simp
 have HP : Hid (Pool (fps (ndL n)) w [[orow 2 snCells n.sa n.sc n.seen], [orow 4 prCells n.pa n.pc n.peers], endsL n.peers, [blk w.heap.size [J Z n.id, J Z n.has, J Z n.spent, J Z n.earned, V n.sa n.seen.length n.sc, V n.pa n.peers.length n.pc]], [blk (w.heap.size + 1) [J Z m_fr, J Z m_to, J Z 1, J Z m_seq, J Z m_amt]], [blk (w.heap.size + 1 + 1) [J Z 0, J Z 0, J Z 0, J Z 0, V none 0 0, V none 0 0]], [], [], []] W) := hide (by
  rw [hW, ← s2, ← s1]
  exact ((((Pool.of h).cast (S' := [[orow 2 snCells n.sa n.sc n.seen], [orow 4 prCells n.pa n.pc n.peers], endsL n.peers, [], [], [], [], [], []]) (by simp [ndL])).newBlk (i := 3) rfl [J Z n.id, J Z n.has, J Z n.spent, J Z n.earned, V n.sa n.seen.length n.sc, V n.pa n.peers.length n.pc] 27).newBlk (i := 4) rfl [J Z m_fr, J Z m_to, J Z 1, J Z m_seq, J Z m_amt] 29).newBlk (i := 5) rfl [J Z 0, J Z 0, J Z 0, J Z 0, V none 0 0, V none 0 0] 27)
 have HW : Hid (((w.alloc (.cells #[J Z n.id, J Z n.has, J Z n.spent, J Z n.earned, V n.sa n.seen.length n.sc, V n.pa n.peers.length n.pc] 27)).alloc (.cells #[J Z m_fr, J Z m_to, J Z 1, J Z m_seq, J Z m_amt] 29)).alloc (.cells #[J Z 0, J Z 0, J Z 0, J Z 0, V none 0 0, V none 0 0] 27) = W) := hide hW.symm
 clear hW s1 s2
 go_enter Try.func21, Try.ntmps21
 go_wp2_with fail
 rw [HW.out]
 refine (l6Peer_any n m_fr W hs1 (HP.out.orowAt (i := 1) rfl).rows).mono ?_
 rw [hf]
 rintro e w1 ⟨rfl, hb1⟩
 have HP1 : Hid (Pool (fps (ndL n)) w [[orow 2 snCells n.sa n.sc n.seen], [orow 4 prCells n.pa n.pc n.peers], endsL n.peers, [blk w.heap.size [J Z n.id, J Z n.has, J Z n.spent, J Z n.earned, V n.sa n.seen.length n.sc, V n.pa n.peers.length n.pc]], [blk (w.heap.size + 1) [J Z m_fr, J Z m_to, J Z 1, J Z m_seq, J Z m_amt]], [blk (w.heap.size + 1 + 1) [J Z 0, J Z 0, J Z 0, J Z 0, V none 0 0, V none 0 0]], [], [], []] w1) := hide (HP.out.keep hb1)
 clear hb1 HP HW
 have HM : Hid (takeM n.d ⟨m_fr, m_to, 1, m_seq, m_amt⟩ = ((⟨n.id, n.has + (rcvX n.peers[k].E ⟨m_seq, m_amt⟩), n.spent, n.earned, n.seen, (n.peers.map Pr.d).set k ⟨n.peers[k].id, rcvE n.peers[k].E ⟨m_seq, m_amt⟩⟩⟩ : NdD), [(⟨n.id, m_fr, 2, rcvY n.peers[k].E ⟨m_seq, m_amt⟩, 0⟩ : Mg)], 0)) := hide (by
  unfold takeM
  rw [show n.d.peers.map PD.id = n.peers.map Pr.id from ids_p _, hf]
  simp only [Nd.d, List.getElem?_map, List.getElem?_eq_getElem hk, Option.map_some, Pr.d]
  have hq2 : (10000000000000 < n.has + rcvX n.peers[k].E ⟨m_seq, m_amt⟩) = False := eq_false (by omega)
  simp [hq2])
 clear hf
 unfold ixV
 have hpa : n.pa = some ⟨gOf n.pa, 0, none⟩ := own_off (HP1.out.orowAt (i := 1) rfl) hk
 obtain ⟨G, hG⟩ : ∃ G, G = gOf n.pa := ⟨_, rfl⟩
 rw [← hG] at hpa
 have HG : Hid (G = gOf n.pa) := hide hG
 have HPA : Hid (n.pa = some ⟨G, 0, none⟩) := hide hpa
 clear hG hpa
 have nc0 : w1.cell? ⟨w.heap.size, 0, none⟩ = some (J Z n.id) := (HP1.out.blkAt (i := 3) rfl).c 0 _ rfl
 have nc1 : w1.cell? ⟨w.heap.size, 1, none⟩ = some (J Z n.has) := (HP1.out.blkAt (i := 3) rfl).c 1 _ rfl
 have nc2 : w1.cell? ⟨w.heap.size, 2, none⟩ = some (J Z n.spent) := (HP1.out.blkAt (i := 3) rfl).c 2 _ rfl
 have nc3 : w1.cell? ⟨w.heap.size, 3, none⟩ = some (J Z n.earned) := (HP1.out.blkAt (i := 3) rfl).c 3 _ rfl
 have nc4 : w1.cell? ⟨w.heap.size, 4, none⟩ = some (V n.sa n.seen.length n.sc) := (HP1.out.blkAt (i := 3) rfl).c 4 _ rfl
 have nc5 : w1.cell? ⟨w.heap.size, 5, none⟩ = some (V n.pa n.peers.length n.pc) := (HP1.out.blkAt (i := 3) rfl).c 5 _ rfl
 have nd0 : w1.cell? ⟨w.heap.size + 1, 0, none⟩ = some (J Z m_fr) := (HP1.out.blkAt (i := 4) rfl).c 0 _ rfl
 have nd1 : w1.cell? ⟨w.heap.size + 1, 1, none⟩ = some (J Z m_to) := (HP1.out.blkAt (i := 4) rfl).c 1 _ rfl
 have nd2 : w1.cell? ⟨w.heap.size + 1, 2, none⟩ = some (J Z 1) := (HP1.out.blkAt (i := 4) rfl).c 2 _ rfl
 have nd3 : w1.cell? ⟨w.heap.size + 1, 3, none⟩ = some (J Z m_seq) := (HP1.out.blkAt (i := 4) rfl).c 3 _ rfl
 have nd4 : w1.cell? ⟨w.heap.size + 1, 4, none⟩ = some (J Z m_amt) := (HP1.out.blkAt (i := 4) rfl).c 4 _ rfl
 obtain ⟨xb1, xb2⟩ := rcvX_bd n.peers[k].E ⟨m_seq, m_amt⟩
 have wx : IntKind.i64.wrap (n.has + (rcvX n.peers[k].E ⟨m_seq, m_amt⟩)) = n.has + (rcvX n.peers[k].E ⟨m_seq, m_amt⟩) := wrap_in (by omega) (by omega)
 go_wp2_with fail
 rename_i K5 hK5
 refine wp_region_inv (by kernel_rfl) (fun L act x => ∃ l0 l1 l2 l3 l4 l5 l6 l7 l8 l9 l10 l11 l12 l13 l14 l15 l16 l17 l18 l19 : Bool, ∃ u10 u11 u12 u45 u46 u47 u48 u49 u50 u51 u52 u53 u54 u55 u56 u57 u58 u59 u60 : Value, L = #[l0, l1, l2, l3, l4, l5, l6, l7, l8, l9, l10, l11, l12, l13, l14, l15, l16, l17, l18, l19] ∧ act = { tmps := #[Value.agg #[J Z n.id, J Z n.has, J Z n.spent, J Z n.earned, V n.sa n.seen.length n.sc, V n.pa n.peers.length n.pc], Value.agg #[J Z m_fr, J Z m_to, J Z 1, J Z m_seq, J Z m_amt], Value.pointer (some { block := w.heap.size, off := 0 }), Value.pointer (some { block := w.heap.size + 1, off := 0 }), Value.pointer (some { block := w.heap.size + 1 + 1, off := 0 }), V none 0 0, J Z 0, J Z ↑k, U, U, u10, u11, u12, Value.agg #[J Z n.id, J Z n.has, J Z n.spent, J Z n.earned, V n.sa n.seen.length n.sc, V n.pa n.peers.length n.pc], Value.pointer (some { block := w.heap.size + 1, off := 0 }), J Z m_fr, J Z ↑k, J Z ↑k, Value.bool (decide (↑k < 0)), U, Value.pointer (some { block := w.heap.size + 1, off := 2 }), J Z 1, Value.bool false, U, U, U, U, U, U, U, U, U, U, U, U, U, U, U, U, U, U, U, U, U, U, u45, u46, u47, u48, u49, u50, u51, u52, u53, u54, u55, u56, u57, u58, u59, u60, U, U, U, U, U, U, U, U, U, U, U, U, U, U, U, U, U, U, U, U, U, U, U, U, U], defers := [] } ∧ TpY n w G k hk m_fr m_to m_seq m_amt l0 l1 l2 l3 l4 l5 l6 l7 l8 l9 l10 l11 l12 l13 l14 l15 l16 l17 l18 l19 u10 u11 u12 u45 u46 u47 u48 u49 u50 u51 u52 u53 u54 u55 u56 u57 u58 u59 u60 x) ?_ ?_ ?_
 rotate_left 2
 ·exact ⟨false, false, false, false, false, false, false, false, false, false, false, false, false, false, false, false, false, false, false, false, U, U, U, U, U, U, U, U, U, U, U, U, U, U, U, U, U, U, U, rfl, rfl, ⟨HP1.out.drew, nofun, nofun, nofun, nofun, nofun, nofun, nofun, nofun, nofun, nofun, nofun, nofun, nofun, nofun, nofun, nofun, nofun, nofun, nofun, nofun, nofun, nofun, nofun, nofun, nofun⟩⟩
 ·rintro L act x i ⟨l0, l1, l2, l3, l4, l5, l6, l7, l8, l9, l10, l11, l12, l13, l14, l15, l16, l17, l18, l19, u10, u11, u12, u45, u46, u47, u48, u49, u50, u51, u52, u53, u54, u55, u56, u57, u58, u59, u60, rfl, rfl, h⟩ hi K hK
  have hi15 : i < 20 := by
   obtain ⟨_, o, ho, _⟩ := mem_ready.1 hi
   exact (Array.getElem?_eq_some_iff.1 ho).1
  have hl := (mem_ready.1 hi).1
  obtain rfl | rfl | rfl | rfl | rfl | rfl | rfl | rfl | rfl | rfl | rfl | rfl | rfl | rfl | rfl | rfl | rfl | rfl | rfl | rfl := (by omega : i = 0 ∨ i = 1 ∨ i = 2 ∨ i = 3 ∨ i = 4 ∨ i = 5 ∨ i = 6 ∨ i = 7 ∨ i = 8 ∨ i = 9 ∨ i = 10 ∨ i = 11 ∨ i = 12 ∨ i = 13 ∨ i = 14 ∨ i = 15 ∨ i = 16 ∨ i = 17 ∨ i = 18 ∨ i = 19)
  ·have e : l0 = false := hl
   subst e
   refine wpOp_run (v := .pointer (some ⟨w.heap.size, 5, none⟩)) (w' := x) (by rfl) (by rfl) ?_ (hK _ _ ⟨true, l1, l2, l3, l4, l5, l6, l7, l8, l9, l10, l11, l12, l13, l14, l15, l16, l17, l18, l19, u10, u11, u12, u45, (.pointer (some ⟨w.heap.size, 5, none⟩)), u47, u48, u49, u50, u51, u52, u53, u54, u55, u56, u57, u58, u59, u60, rfl, rfl, { h with p46 := fun _ => rfl }⟩)
   go_simp
  ·have e : l1 = false := hl
   subst e
   have d0 : l0 = true := ready_on hi 0 (by kernel_rfl)
   subst d0
   have c5_ : x.cell? ⟨w.heap.size, 5, none⟩ = some (V (some ⟨G, 0, none⟩) n.peers.length n.pc) := by rw [← HPA.out]; exact (h.pool.blkAt (i := 3) rfl).c 5 _ rfl
   refine wpOp_run (v := V (some ⟨G, 0, none⟩) n.peers.length n.pc) (w' := x) (by rfl) (by rfl) ?_ (hK _ _ ⟨true, true, l2, l3, l4, l5, l6, l7, l8, l9, l10, l11, l12, l13, l14, l15, l16, l17, l18, l19, u10, u11, u12, u45, u46, (V (some ⟨G, 0, none⟩) n.peers.length n.pc), u48, u49, u50, u51, u52, u53, u54, u55, u56, u57, u58, u59, u60, rfl, rfl, { h with p47 := fun _ => rfl }⟩)
   rw [h.p46 rfl]
   go_simp
  ·have e : l2 = false := hl
   subst e
   refine wpOp_run (v := J Z ↑k) (w' := x) (by rfl) (by rfl) ?_ (hK _ _ ⟨l0, l1, true, l3, l4, l5, l6, l7, l8, l9, l10, l11, l12, l13, l14, l15, l16, l17, l18, l19, u10, u11, u12, u45, u46, u47, (J Z ↑k), u49, u50, u51, u52, u53, u54, u55, u56, u57, u58, u59, u60, rfl, rfl, { h with p48 := fun _ => rfl }⟩)
   go_simp
  ·have e : l3 = false := hl
   subst e
   have d1 : l1 = true := ready_on hi 1 (by kernel_rfl)
   subst d1
   have d2 : l2 = true := ready_on hi 2 (by kernel_rfl)
   subst d2
   refine wpOp_run (v := .pointer (some ⟨G, k * 4, none⟩)) (w' := x) (by rfl) (by rfl) ?_ (hK _ _ ⟨l0, true, true, true, l4, l5, l6, l7, l8, l9, l10, l11, l12, l13, l14, l15, l16, l17, l18, l19, u10, u11, u12, u45, u46, u47, u48, (.pointer (some ⟨G, k * 4, none⟩)), u50, u51, u52, u53, u54, u55, u56, u57, u58, u59, u60, rfl, rfl, { h with p49 := fun _ => rfl }⟩)
   rw [h.p47 rfl, h.p48 rfl]
   go_simp
  ·have e : l4 = false := hl
   subst e
   have d3 : l3 = true := ready_on hi 3 (by kernel_rfl)
   subst d3
   refine wpOp_run (v := .pointer (some ⟨G, k * 4 + 1, none⟩)) (w' := x) (by rfl) (by rfl) ?_ (hK _ _ ⟨l0, l1, l2, true, true, l5, l6, l7, l8, l9, l10, l11, l12, l13, l14, l15, l16, l17, l18, l19, u10, u11, u12, u45, u46, u47, u48, u49, (.pointer (some ⟨G, k * 4 + 1, none⟩)), u51, u52, u53, u54, u55, u56, u57, u58, u59, u60, rfl, rfl, { h with p50 := fun _ => rfl }⟩)
   rw [h.p49 rfl]
   go_simp
  ·have e : l5 = false := hl
   subst e
   have d4 : l4 = true := ready_on hi 4 (by kernel_rfl)
   subst d4
   obtain ⟨c0_, c1_, c2_, c3_⟩ := peer_at (HG.out ▸ h.pool.orowAt (i := 1) rfl) hk
   refine wpOp_run (v := .agg #[V n.peers[k].a n.peers[k].E.out.length n.peers[k].cap, J Z n.peers[k].E.sent, J Z n.peers[k].E.got]) (w' := x) (by rfl) (by rfl) ?_ (hK _ _ ⟨l0, l1, l2, l3, true, true, l6, l7, l8, l9, l10, l11, l12, l13, l14, l15, l16, l17, l18, l19, u10, u11, u12, u45, u46, u47, u48, u49, u50, (.agg #[V n.peers[k].a n.peers[k].E.out.length n.peers[k].cap, J Z n.peers[k].E.sent, J Z n.peers[k].E.got]), u52, u53, u54, u55, u56, u57, u58, u59, u60, rfl, rfl, { h with p51 := fun _ => rfl }⟩)
   rw [h.p50 rfl]
   go_simp
  ·have e : l6 = false := hl
   subst e
   refine wpOp_run (v := .pointer (some ⟨w.heap.size + 1, 3, none⟩)) (w' := x) (by rfl) (by rfl) ?_ (hK _ _ ⟨l0, l1, l2, l3, l4, l5, true, l7, l8, l9, l10, l11, l12, l13, l14, l15, l16, l17, l18, l19, u10, u11, u12, u45, u46, u47, u48, u49, u50, u51, (.pointer (some ⟨w.heap.size + 1, 3, none⟩)), u53, u54, u55, u56, u57, u58, u59, u60, rfl, rfl, { h with p52 := fun _ => rfl }⟩)
   go_simp
  ·have e : l7 = false := hl
   subst e
   have d6 : l6 = true := ready_on hi 6 (by kernel_rfl)
   subst d6
   have c3_ : x.cell? ⟨w.heap.size + 1, 3, none⟩ = some (J Z m_seq) := (h.pool.blkAt (i := 4) rfl).c 3 _ rfl
   refine wpOp_run (v := J Z m_seq) (w' := x) (by rfl) (by rfl) ?_ (hK _ _ ⟨l0, l1, l2, l3, l4, l5, true, true, l8, l9, l10, l11, l12, l13, l14, l15, l16, l17, l18, l19, u10, u11, u12, u45, u46, u47, u48, u49, u50, u51, u52, (J Z m_seq), u54, u55, u56, u57, u58, u59, u60, rfl, rfl, { h with p53 := fun _ => rfl }⟩)
   rw [h.p52 rfl]
   go_simp
  ·have e : l8 = false := hl
   subst e
   refine wpOp_run (v := .pointer (some ⟨w.heap.size + 1, 4, none⟩)) (w' := x) (by rfl) (by rfl) ?_ (hK _ _ ⟨l0, l1, l2, l3, l4, l5, l6, l7, true, l9, l10, l11, l12, l13, l14, l15, l16, l17, l18, l19, u10, u11, u12, u45, u46, u47, u48, u49, u50, u51, u52, u53, (.pointer (some ⟨w.heap.size + 1, 4, none⟩)), u55, u56, u57, u58, u59, u60, rfl, rfl, { h with p54 := fun _ => rfl }⟩)
   go_simp
  ·have e : l9 = false := hl
   subst e
   have d8 : l8 = true := ready_on hi 8 (by kernel_rfl)
   subst d8
   have c4_ : x.cell? ⟨w.heap.size + 1, 4, none⟩ = some (J Z m_amt) := (h.pool.blkAt (i := 4) rfl).c 4 _ rfl
   refine wpOp_run (v := J Z m_amt) (w' := x) (by rfl) (by rfl) ?_ (hK _ _ ⟨l0, l1, l2, l3, l4, l5, l6, l7, true, true, l10, l11, l12, l13, l14, l15, l16, l17, l18, l19, u10, u11, u12, u45, u46, u47, u48, u49, u50, u51, u52, u53, u54, (J Z m_amt), u56, u57, u58, u59, u60, rfl, rfl, { h with p55 := fun _ => rfl }⟩)
   rw [h.p54 rfl]
   go_simp
  ·have e : l10 = false := hl
   subst e
   have d7 : l7 = true := ready_on hi 7 (by kernel_rfl)
   subst d7
   have d9 : l9 = true := ready_on hi 9 (by kernel_rfl)
   subst d9
   refine wpOp_run (v := .agg #[J Z m_seq, J Z m_amt]) (w' := x) (by rfl) (by rfl) ?_ (hK _ _ ⟨l0, l1, l2, l3, l4, l5, l6, true, l8, true, true, l11, l12, l13, l14, l15, l16, l17, l18, l19, u10, u11, u12, u45, u46, u47, u48, u49, u50, u51, u52, u53, u54, u55, (.agg #[J Z m_seq, J Z m_amt]), u57, u58, u59, u60, rfl, rfl, { h with p56 := fun _ => rfl }⟩)
   rw [h.p53 rfl, h.p55 rfl]
   go_simp
  ·have e : l11 = false := hl
   subst e
   have d5 : l5 = true := ready_on hi 5 (by kernel_rfl)
   subst d5
   have d10 : l10 = true := ready_on hi 10 (by kernel_rfl)
   subst d10
   have z12 : l12 = false := by
    cases hz : l12
    ·rfl
    ·exact absurd (h.d12_11 hz) (by simp)
   subst z12
   have z13 : l13 = false := by
    cases hz : l13
    ·rfl
    ·exact absurd (h.d13_11 hz) (by simp)
   subst z13
   have z17 : l17 = false := by
    cases hz : l17
    ·rfl
    ·exact absurd (h.d17_11 hz) (by simp)
   subst z17
   refine wpOp_call (by rfl) (by rfl) ?_ (specReceived_pool n.peers[k].a n.peers[k].E.out n.peers[k].cap n.peers[k].E.sent n.peers[k].E.got m_seq m_amt x (hs2 _ (List.getElem_mem hk)) (h.pool.endAt (i := 2) rfl hk).nocap (h.pool.endAt (i := 2) rfl hk).rows) ?_
   ·rw [h.p51 rfl, h.p56 rfl]; go_simp
   ·rintro e w' ⟨a5, c5, rfl, hb5, st5, hi5⟩
    exact ⟨_, rfl, hK _ _ ⟨l0, l1, l2, l3, l4, true, l6, l7, l8, l9, true, true, false, false, l14, l15, l16, false, l18, l19, u10, u11, u12, u45, u46, u47, u48, u49, u50, u51, u52, u53, u54, u55, u56, (.tuple #[.agg #[V a5 (rcvE n.peers[k].E ⟨m_seq, m_amt⟩).out.length c5, J Z (rcvE n.peers[k].E ⟨m_seq, m_amt⟩).sent, J Z (rcvE n.peers[k].E ⟨m_seq, m_amt⟩).got], J Z (rcvX n.peers[k].E ⟨m_seq, m_amt⟩), J Z (rcvY n.peers[k].E ⟨m_seq, m_amt⟩)]), u58, u59, u60, rfl, rfl, { h with q57 := (fun _ => rfl), q45 := (fun q => by cases q), q58 := (fun q => by cases q), pool := (h.pool.new (i := 6) rfl hb5 st5 hi5), d12_11 := fun _ => rfl, d13_11 := fun _ => rfl, d17_11 := fun _ => rfl }⟩⟩
  ·have e : l12 = false := hl
   subst e
   have d11 : l11 = true := ready_on hi 11 (by kernel_rfl)
   subst d11
   have z13 : l13 = false := by
    cases hz : l13
    ·rfl
    ·exact absurd (h.d13_12 hz) (by simp)
   subst z13
   refine wpOp_run (v := .tuple #[.agg #[V (slA u57) (rcvE n.peers[k].E ⟨m_seq, m_amt⟩).out.length (slC u57), J Z (rcvE n.peers[k].E ⟨m_seq, m_amt⟩).sent, J Z (rcvE n.peers[k].E ⟨m_seq, m_amt⟩).got], J Z (rcvX n.peers[k].E ⟨m_seq, m_amt⟩), J Z (rcvY n.peers[k].E ⟨m_seq, m_amt⟩)]) (w' := x) (by rfl) (by rfl) ?_ (hK _ _ ⟨l0, l1, l2, l3, l4, l5, l6, l7, l8, l9, l10, true, true, false, l14, l15, l16, l17, l18, l19, u10, u11, u12, (.tuple #[.agg #[V (slA u57) (rcvE n.peers[k].E ⟨m_seq, m_amt⟩).out.length (slC u57), J Z (rcvE n.peers[k].E ⟨m_seq, m_amt⟩).sent, J Z (rcvE n.peers[k].E ⟨m_seq, m_amt⟩).got], J Z (rcvX n.peers[k].E ⟨m_seq, m_amt⟩), J Z (rcvY n.peers[k].E ⟨m_seq, m_amt⟩)]), u46, u47, u48, u49, u50, u51, u52, u53, u54, u55, u56, u57, u58, u59, u60, rfl, rfl, { h with q45 := (fun _ => rfl), d12_11 := fun _ => rfl, d13_12 := fun _ => rfl }⟩)
   rw [← h.q57 rfl]
   go_simp
  ·have e : l13 = false := hl
   subst e
   have d12 : l12 = true := ready_on hi 12 (by kernel_rfl)
   subst d12
   have z17 : l17 = false := by
    cases hz : l17
    ·rfl
    ·exact absurd (h.d17_13 hz) (by simp)
   subst z17
   refine wpOp_run (v := .agg #[V (slA u57) (rcvE n.peers[k].E ⟨m_seq, m_amt⟩).out.length (slC u57), J Z (rcvE n.peers[k].E ⟨m_seq, m_amt⟩).sent, J Z (rcvE n.peers[k].E ⟨m_seq, m_amt⟩).got]) (w' := x) (by rfl) (by rfl) ?_ (hK _ _ ⟨l0, l1, l2, l3, l4, l5, l6, l7, l8, l9, l10, l11, true, true, l14, l15, l16, false, l18, l19, u10, u11, u12, u45, u46, u47, u48, u49, u50, u51, u52, u53, u54, u55, u56, u57, (.agg #[V (slA u57) (rcvE n.peers[k].E ⟨m_seq, m_amt⟩).out.length (slC u57), J Z (rcvE n.peers[k].E ⟨m_seq, m_amt⟩).sent, J Z (rcvE n.peers[k].E ⟨m_seq, m_amt⟩).got]), u59, u60, rfl, rfl, { h with q58 := (fun _ => rfl), d13_11 := fun _ => h.d12_11 rfl, d13_12 := fun _ => rfl, d17_13 := fun _ => rfl }⟩)
   rw [h.q45 rfl]
   go_simp
  ·have e : l14 = false := hl
   subst e
   have d12 : l12 = true := ready_on hi 12 (by kernel_rfl)
   subst d12
   refine wpOp_run (v := J Z (rcvX n.peers[k].E ⟨m_seq, m_amt⟩)) (w' := x) (by rfl) (by rfl) ?_ (hK _ _ ⟨l0, l1, l2, l3, l4, l5, l6, l7, l8, l9, l10, l11, true, l13, true, l15, l16, l17, l18, l19, u10, u11, u12, u45, u46, u47, u48, u49, u50, u51, u52, u53, u54, u55, u56, u57, u58, (J Z (rcvX n.peers[k].E ⟨m_seq, m_amt⟩)), u60, rfl, rfl, { h with q59 := (fun _ => rfl) }⟩)
   rw [h.q45 rfl]
   go_simp
  ·have e : l15 = false := hl
   subst e
   have d12 : l12 = true := ready_on hi 12 (by kernel_rfl)
   subst d12
   refine wpOp_run (v := J Z (rcvY n.peers[k].E ⟨m_seq, m_amt⟩)) (w' := x) (by rfl) (by rfl) ?_ (hK _ _ ⟨l0, l1, l2, l3, l4, l5, l6, l7, l8, l9, l10, l11, true, l13, l14, true, l16, l17, l18, l19, u10, u11, u12, u45, u46, u47, u48, u49, u50, u51, u52, u53, u54, u55, u56, u57, u58, u59, (J Z (rcvY n.peers[k].E ⟨m_seq, m_amt⟩)), rfl, rfl, { h with q60 := (fun _ => rfl) }⟩)
   rw [h.q45 rfl]
   go_simp
  ·have e : l16 = false := hl
   subst e
   have z17 : l17 = false := by
    cases hz : l17
    ·rfl
    ·exact absurd (h.d17_16 hz) (by simp)
   subst z17
   refine wpOp_run (v := .pointer (some ⟨x.heap.size, 0, none⟩)) (w' := x.alloc (.cells #[V none 0 0, J Z 0, J Z 0] 39)) (by rfl) (by rfl) ?_ (hK _ _ ⟨l0, l1, l2, l3, l4, l5, l6, l7, l8, l9, l10, l11, l12, l13, l14, l15, true, false, l18, l19, (.pointer (some ⟨x.heap.size, 0, none⟩)), u11, u12, u45, u46, u47, u48, u49, u50, u51, u52, u53, u54, u55, u56, u57, u58, u59, u60, rfl, rfl, { h with a10 := (fun _ => rfl), pool := (h.pool.newBlk (i := 7) rfl [V none 0 0, J Z 0, J Z 0] 39), d17_16 := fun _ => rfl }⟩)
   go_simp
  ·have e : l17 = false := hl
   subst e
   have d0 : l0 = true := ready_on hi 0 (by kernel_rfl)
   subst d0
   have d1 : l1 = true := ready_on hi 1 (by kernel_rfl)
   subst d1
   have d2 : l2 = true := ready_on hi 2 (by kernel_rfl)
   subst d2
   have d3 : l3 = true := ready_on hi 3 (by kernel_rfl)
   subst d3
   have d4 : l4 = true := ready_on hi 4 (by kernel_rfl)
   subst d4
   have d5 : l5 = true := ready_on hi 5 (by kernel_rfl)
   subst d5
   have d6 : l6 = true := ready_on hi 6 (by kernel_rfl)
   subst d6
   have d7 : l7 = true := ready_on hi 7 (by kernel_rfl)
   subst d7
   have d8 : l8 = true := ready_on hi 8 (by kernel_rfl)
   subst d8
   have d9 : l9 = true := ready_on hi 9 (by kernel_rfl)
   subst d9
   have d10 : l10 = true := ready_on hi 10 (by kernel_rfl)
   subst d10
   have d11 : l11 = true := ready_on hi 11 (by kernel_rfl)
   subst d11
   have d12 : l12 = true := ready_on hi 12 (by kernel_rfl)
   subst d12
   have d13 : l13 = true := ready_on hi 13 (by kernel_rfl)
   subst d13
   have d16 : l16 = true := ready_on hi 16 (by kernel_rfl)
   subst d16
   refine wpOp_skip (w' := (((x.setCell ⟨ptB u10, 0, none⟩ (V (slA u57) (rcvE n.peers[k].E ⟨m_seq, m_amt⟩).out.length (slC u57))).setCell ⟨ptB u10, 1, none⟩ (J Z (rcvE n.peers[k].E ⟨m_seq, m_amt⟩).sent)).setCell ⟨ptB u10, 2, none⟩ (J Z (rcvE n.peers[k].E ⟨m_seq, m_amt⟩).got))) (by rfl) (by rfl) ?_ (hK _ _ ⟨true, true, true, true, true, true, true, true, true, true, true, true, true, true, l14, l15, true, true, l18, l19, u10, u11, u12, u45, u46, u47, u48, u49, u50, u51, u52, u53, u54, u55, u56, u57, u58, u59, u60, rfl, rfl, { h with pool := ((((h.pool.setBlk (i := 7) rfl 0 (V (slA u57) (rcvE n.peers[k].E ⟨m_seq, m_amt⟩).out.length (slC u57)) (by simp)).setBlk (i := 7) rfl 1 (J Z (rcvE n.peers[k].E ⟨m_seq, m_amt⟩).sent) (by simp)).setBlk (i := 7) rfl 2 (J Z (rcvE n.peers[k].E ⟨m_seq, m_amt⟩).got) (by simp))), d17_11 := fun _ => rfl, d17_16 := fun _ => rfl, d17_13 := fun _ => rfl }⟩)
   have A := h.pool.blkAt (i := 7) rfl
   have t0 := A.c 0 _ rfl
   have f0 := A.f 0
   have t1 := A.c 1 _ rfl
   have f1 := A.f 1
   have t2 := A.c 2 _ rfl
   have f2 := A.f 2
   obtain ⟨P8, hP8⟩ : ∃ P8, P8 = ptB u10 := ⟨_, rfl⟩
   have e8 := h.a10 rfl
   rw [h.q58 rfl]
   rw [← hP8] at t0 t1 t2 f0 f1 f2 e8 ⊢
   rw [e8]
   clear e8 hP8 A h
   go_simp
  ·have e : l18 = false := hl
   subst e
   have d0 : l0 = true := ready_on hi 0 (by kernel_rfl)
   subst d0
   have d1 : l1 = true := ready_on hi 1 (by kernel_rfl)
   subst d1
   have d2 : l2 = true := ready_on hi 2 (by kernel_rfl)
   subst d2
   have d3 : l3 = true := ready_on hi 3 (by kernel_rfl)
   subst d3
   have d4 : l4 = true := ready_on hi 4 (by kernel_rfl)
   subst d4
   have d5 : l5 = true := ready_on hi 5 (by kernel_rfl)
   subst d5
   have d6 : l6 = true := ready_on hi 6 (by kernel_rfl)
   subst d6
   have d7 : l7 = true := ready_on hi 7 (by kernel_rfl)
   subst d7
   have d8 : l8 = true := ready_on hi 8 (by kernel_rfl)
   subst d8
   have d9 : l9 = true := ready_on hi 9 (by kernel_rfl)
   subst d9
   have d10 : l10 = true := ready_on hi 10 (by kernel_rfl)
   subst d10
   have d11 : l11 = true := ready_on hi 11 (by kernel_rfl)
   subst d11
   have d12 : l12 = true := ready_on hi 12 (by kernel_rfl)
   subst d12
   have d13 : l13 = true := ready_on hi 13 (by kernel_rfl)
   subst d13
   have d14 : l14 = true := ready_on hi 14 (by kernel_rfl)
   subst d14
   have d16 : l16 = true := ready_on hi 16 (by kernel_rfl)
   subst d16
   have d17 : l17 = true := ready_on hi 17 (by kernel_rfl)
   subst d17
   refine wpOp_run (v := J Z (rcvX n.peers[k].E ⟨m_seq, m_amt⟩)) (w' := x) (by rfl) (by rfl) ?_ (hK _ _ ⟨true, true, true, true, true, true, true, true, true, true, true, true, true, true, true, l15, true, true, true, l19, u10, (J Z (rcvX n.peers[k].E ⟨m_seq, m_amt⟩)), u12, u45, u46, u47, u48, u49, u50, u51, u52, u53, u54, u55, u56, u57, u58, u59, u60, rfl, rfl, { h with q11 := (fun _ => rfl) }⟩)
   rw [h.q59 rfl]
   go_simp
  ·have e : l19 = false := hl
   subst e
   have d0 : l0 = true := ready_on hi 0 (by kernel_rfl)
   subst d0
   have d1 : l1 = true := ready_on hi 1 (by kernel_rfl)
   subst d1
   have d2 : l2 = true := ready_on hi 2 (by kernel_rfl)
   subst d2
   have d3 : l3 = true := ready_on hi 3 (by kernel_rfl)
   subst d3
   have d4 : l4 = true := ready_on hi 4 (by kernel_rfl)
   subst d4
   have d5 : l5 = true := ready_on hi 5 (by kernel_rfl)
   subst d5
   have d6 : l6 = true := ready_on hi 6 (by kernel_rfl)
   subst d6
   have d7 : l7 = true := ready_on hi 7 (by kernel_rfl)
   subst d7
   have d8 : l8 = true := ready_on hi 8 (by kernel_rfl)
   subst d8
   have d9 : l9 = true := ready_on hi 9 (by kernel_rfl)
   subst d9
   have d10 : l10 = true := ready_on hi 10 (by kernel_rfl)
   subst d10
   have d11 : l11 = true := ready_on hi 11 (by kernel_rfl)
   subst d11
   have d12 : l12 = true := ready_on hi 12 (by kernel_rfl)
   subst d12
   have d13 : l13 = true := ready_on hi 13 (by kernel_rfl)
   subst d13
   have d14 : l14 = true := ready_on hi 14 (by kernel_rfl)
   subst d14
   have d15 : l15 = true := ready_on hi 15 (by kernel_rfl)
   subst d15
   have d16 : l16 = true := ready_on hi 16 (by kernel_rfl)
   subst d16
   have d17 : l17 = true := ready_on hi 17 (by kernel_rfl)
   subst d17
   have d18 : l18 = true := ready_on hi 18 (by kernel_rfl)
   subst d18
   refine wpOp_run (v := J Z (rcvY n.peers[k].E ⟨m_seq, m_amt⟩)) (w' := x) (by rfl) (by rfl) ?_ (hK _ _ ⟨true, true, true, true, true, true, true, true, true, true, true, true, true, true, true, true, true, true, true, true, u10, u11, (J Z (rcvY n.peers[k].E ⟨m_seq, m_amt⟩)), u45, u46, u47, u48, u49, u50, u51, u52, u53, u54, u55, u56, u57, u58, u59, u60, rfl, rfl, { h with q12 := (fun _ => rfl) }⟩)
   rw [h.q60 rfl]
   go_simp
 ·rintro L act x ⟨l0, l1, l2, l3, l4, l5, l6, l7, l8, l9, l10, l11, l12, l13, l14, l15, l16, l17, l18, l19, u10, u11, u12, u45, u46, u47, u48, u49, u50, u51, u52, u53, u54, u55, u56, u57, u58, u59, u60, rfl, rfl, h⟩ hr
  have hall := ready_all hr rfl (by decide)
  have t0 : l0 = true := hall 0 (by decide)
  have t1 : l1 = true := hall 1 (by decide)
  have t2 : l2 = true := hall 2 (by decide)
  have t3 : l3 = true := hall 3 (by decide)
  have t4 : l4 = true := hall 4 (by decide)
  have t5 : l5 = true := hall 5 (by decide)
  have t6 : l6 = true := hall 6 (by decide)
  have t7 : l7 = true := hall 7 (by decide)
  have t8 : l8 = true := hall 8 (by decide)
  have t9 : l9 = true := hall 9 (by decide)
  have t10 : l10 = true := hall 10 (by decide)
  have t11 : l11 = true := hall 11 (by decide)
  have t12 : l12 = true := hall 12 (by decide)
  have t13 : l13 = true := hall 13 (by decide)
  have t14 : l14 = true := hall 14 (by decide)
  have t15 : l15 = true := hall 15 (by decide)
  have t16 : l16 = true := hall 16 (by decide)
  have t17 : l17 = true := hall 17 (by decide)
  have t18 : l18 = true := hall 18 (by decide)
  have t19 : l19 = true := hall 19 (by decide)
  subst t0 t1 t2 t3 t4 t5 t6 t7 t8 t9 t10 t11 t12 t13 t14 t15 t16 t17 t18 t19
  clear hall hr
  have e8 := h.a10 rfl
  have e9 := h.q11 rfl
  have e10 := h.q12 rfl
  obtain ⟨a5, c5, ha5⟩ : ∃ a c, a = slA u57 ∧ c = slC u57 := ⟨_, _, rfl, rfl⟩
  obtain ⟨P8, hP8⟩ : ∃ P8, P8 = ptB u10 := ⟨_, rfl⟩
  have HP5 : Hid (Pool (fps (ndL n)) w [[orow 2 snCells n.sa n.sc n.seen], [orow 4 prCells n.pa n.pc n.peers], endsL n.peers, [blk w.heap.size [J Z n.id, J Z n.has, J Z n.spent, J Z n.earned, V n.sa n.seen.length n.sc, V n.pa n.peers.length n.pc]], [blk (w.heap.size + 1) [J Z m_fr, J Z m_to, J Z 1, J Z m_seq, J Z m_amt]], [blk (w.heap.size + 1 + 1) [J Z 0, J Z 0, J Z 0, J Z 0, V none 0 0, V none 0 0]], [orow 2 prcCells a5 c5 (rcvE n.peers[k].E ⟨m_seq, m_amt⟩).out], [blk P8 [V a5 (rcvE n.peers[k].E ⟨m_seq, m_amt⟩).out.length c5, J Z (rcvE n.peers[k].E ⟨m_seq, m_amt⟩).sent, J Z (rcvE n.peers[k].E ⟨m_seq, m_amt⟩).got]], []] x) := hide (by rw [ha5.1, ha5.2, hP8]; exact h.pool)
  rw [← hP8] at e8
  clear h ha5 hP8
  subst e8 e9 e10
  refine hK5 _ _ ?_
  clear hK5
  have v5 : x.cell? ⟨w.heap.size, 5, none⟩ = some (V (some ⟨G, 0, none⟩) n.peers.length n.pc) := by rw [← HPA.out]; exact (HP5.out.blkAt (i := 3) rfl).c 5 _ rfl
  have v1 : x.cell? ⟨w.heap.size, 1, none⟩ = some (J Z n.has) := (HP5.out.blkAt (i := 3) rfl).c 1 _ rfl
  have b0 : x.cell? ⟨P8, 0, none⟩ = some (V a5 (rcvE n.peers[k].E ⟨m_seq, m_amt⟩).out.length c5) := (HP5.out.blkAt (i := 7) rfl).c 0 _ rfl
  have b1 : x.cell? ⟨P8, 1, none⟩ = some (J Z (rcvE n.peers[k].E ⟨m_seq, m_amt⟩).sent) := (HP5.out.blkAt (i := 7) rfl).c 1 _ rfl
  have b2 : x.cell? ⟨P8, 2, none⟩ = some (J Z (rcvE n.peers[k].E ⟨m_seq, m_amt⟩).got) := (HP5.out.blkAt (i := 7) rfl).c 2 _ rfl
  obtain ⟨p0, p1, p2, p3⟩ := peer_at (HG.out ▸ HP5.out.orowAt (i := 1) rfl) hk
  have fz : ∀ j, x.frozen? ⟨G, j, none⟩ = false := by rw [HG.out]; exact ((HP5.out.orowAt (i := 1) rfl).own (by omega)).2
  have y1 := fz (k * 4 + 1)
  have y2 := fz (k * 4 + 2)
  have y3 := fz (k * 4 + 3)
  have HP6 := HP5.out.setPeer (i := 1) rfl hk (⟨n.peers[k].id, a5, c5, rcvE n.peers[k].E ⟨m_seq, m_amt⟩⟩ : Pr) rfl HG.out.symm
  have HP7 := HP6.setEnds (i := 2) (j := 6) (p := (⟨n.peers[k].id, a5, c5, rcvE n.peers[k].E ⟨m_seq, m_amt⟩⟩ : Pr)) hk (by decide) rfl rfl
  have u1 : (((x.setCell ⟨G, k * 4 + 1, none⟩ (V a5 (rcvE n.peers[k].E ⟨m_seq, m_amt⟩).out.length c5)).setCell ⟨G, k * 4 + 2, none⟩ (J Z (rcvE n.peers[k].E ⟨m_seq, m_amt⟩).sent)).setCell ⟨G, k * 4 + 3, none⟩ (J Z (rcvE n.peers[k].E ⟨m_seq, m_amt⟩).got)).cell? ⟨w.heap.size, 1, none⟩ = some (J Z n.has) := (HP7.blkAt (i := 3) rfl).c 1 _ rfl
  have u2 : (((x.setCell ⟨G, k * 4 + 1, none⟩ (V a5 (rcvE n.peers[k].E ⟨m_seq, m_amt⟩).out.length c5)).setCell ⟨G, k * 4 + 2, none⟩ (J Z (rcvE n.peers[k].E ⟨m_seq, m_amt⟩).sent)).setCell ⟨G, k * 4 + 3, none⟩ (J Z (rcvE n.peers[k].E ⟨m_seq, m_amt⟩).got)).frozen? ⟨w.heap.size, 1, none⟩ = false := (HP7.blkAt (i := 3) rfl).f 1
  have HP8 := HP7.setBlk (i := 3) rfl 1 (J Z (n.has + (rcvX n.peers[k].E ⟨m_seq, m_amt⟩))) (by simp)
  clear fz
  go_wp2_with fail
  refine name_world (fun W hW => ?_)
  have HP9 : Hid (Pool (fps (ndL n)) w [[orow 2 snCells n.sa n.sc n.seen], [orow 4 prCells n.pa n.pc (n.peers.set k (⟨n.peers[k].id, a5, c5, rcvE n.peers[k].E ⟨m_seq, m_amt⟩⟩ : Pr))], endsL (n.peers.set k (⟨n.peers[k].id, a5, c5, rcvE n.peers[k].E ⟨m_seq, m_amt⟩⟩ : Pr)), [blk w.heap.size [J Z n.id, J Z (n.has + (rcvX n.peers[k].E ⟨m_seq, m_amt⟩)), J Z n.spent, J Z n.earned, V n.sa n.seen.length n.sc, V n.pa n.peers.length n.pc]], [blk (w.heap.size + 1) [J Z m_fr, J Z m_to, J Z 1, J Z m_seq, J Z m_amt]], [blk (w.heap.size + 1 + 1) [J Z 0, J Z 0, J Z 0, J Z 0, V none 0 0, V none 0 0]], [], [blk P8 [V a5 (rcvE n.peers[k].E ⟨m_seq, m_amt⟩).out.length c5, J Z (rcvE n.peers[k].E ⟨m_seq, m_amt⟩).sent, J Z (rcvE n.peers[k].E ⟨m_seq, m_amt⟩).got]], []] W) := hide (by rw [hW]; exact HP8)
  clear HP6 HP7 HP8 hW u1 u2 b0 b1 b2 p0 p1 p2 p3 y1 y2 y3 v5 v1
  rename_i K15 hK15
  refine wp_region_inv (by kernel_rfl) (fun L act x => ∃ l0 l1 l2 l3 l4 l5 l6 l7 l8 l9 l10 : Bool, ∃ u5 u6 u78 u79 u80 u81 u82 u83 u84 u85 : Value, L = #[l0, l1, l2, l3, l4, l5, l6, l7, l8, l9, l10] ∧ act = { tmps := #[Value.agg #[J Z n.id, J Z n.has, J Z n.spent, J Z n.earned, V n.sa n.seen.length n.sc, V n.pa n.peers.length n.pc], Value.agg #[J Z m_fr, J Z m_to, J Z 1, J Z m_seq, J Z m_amt], Value.pointer (some { block := w.heap.size, off := 0 }), Value.pointer (some { block := w.heap.size + 1, off := 0 }), Value.pointer (some { block := w.heap.size + 1 + 1, off := 0 }), u5, u6, J Z ↑k, U, U, Value.pointer (some { block := P8, off := 0 }), J Z (rcvX n.peers[k].E { seq := m_seq, amt := m_amt }), J Z (rcvY n.peers[k].E { seq := m_seq, amt := m_amt }), Value.agg #[J Z n.id, J Z n.has, J Z n.spent, J Z n.earned, V n.sa n.seen.length n.sc, V n.pa n.peers.length n.pc], Value.pointer (some { block := w.heap.size + 1, off := 0 }), J Z m_fr, J Z ↑k, J Z ↑k, Value.bool false, U, Value.pointer (some { block := w.heap.size + 1, off := 2 }), J Z 1, Value.bool false, U, U, U, U, U, U, U, U, U, U, U, U, U, U, U, U, U, U, U, U, U, U, u45, u46, u47, u48, u49, u50, u51, u52, u53, u54, u55, u56, u57, u58, u59, u60, Value.pointer (some { block := w.heap.size, off := 1 }), J Z n.has, J Z (rcvX n.peers[k].E { seq := m_seq, amt := m_amt }), J Z (n.has + rcvX n.peers[k].E { seq := m_seq, amt := m_amt }), Value.bool (decide (10000000000000 < n.has + rcvX n.peers[k].E { seq := m_seq, amt := m_amt })), U, Value.pointer (some { block := w.heap.size, off := 5 }), V (some { block := G, off := 0 }) n.peers.length n.pc, J Z ↑k, Value.agg #[V a5 (rcvE n.peers[k].E { seq := m_seq, amt := m_amt }).out.length c5, J Z (rcvE n.peers[k].E { seq := m_seq, amt := m_amt }).sent, J Z (rcvE n.peers[k].E { seq := m_seq, amt := m_amt }).got], Value.pointer (some { block := G, off := k * 4 }), Value.pointer (some { block := G, off := k * 4 + 1 }), Value.pointer (some { block := w.heap.size, off := 1 }), J Z n.has, J Z (rcvX n.peers[k].E { seq := m_seq, amt := m_amt }), J Z (n.has + rcvX n.peers[k].E { seq := m_seq, amt := m_amt }), Value.pointer (some { block := w.heap.size, off := 1 }), u78, u79, u80, u81, u82, u83, u84, u85], defers := [] } ∧ Tq n w G k hk m_fr m_to m_seq m_amt a5 c5 P8 l0 l1 l2 l3 l4 l5 l6 l7 l8 l9 l10 u5 u6 u78 u79 u80 u81 u82 u83 u84 u85 x) ?_ ?_ ?_
  rotate_left 2
  ·exact ⟨false, false, false, false, false, false, false, false, false, false, false, (V none 0 0), (J Z 0), U, U, U, U, U, U, U, U, rfl, rfl, ⟨HP9.out.drew, nofun, nofun, nofun, nofun, nofun, nofun, nofun, nofun, nofun, nofun, nofun⟩⟩
  ·rintro L act x i ⟨l0, l1, l2, l3, l4, l5, l6, l7, l8, l9, l10, u5, u6, u78, u79, u80, u81, u82, u83, u84, u85, rfl, rfl, h⟩ hi K hK
   have hi15 : i < 11 := by
    obtain ⟨_, o, ho, _⟩ := mem_ready.1 hi
    exact (Array.getElem?_eq_some_iff.1 ho).1
   have hl := (mem_ready.1 hi).1
   obtain rfl | rfl | rfl | rfl | rfl | rfl | rfl | rfl | rfl | rfl | rfl := (by omega : i = 0 ∨ i = 1 ∨ i = 2 ∨ i = 3 ∨ i = 4 ∨ i = 5 ∨ i = 6 ∨ i = 7 ∨ i = 8 ∨ i = 9 ∨ i = 10)
   ·have e : l0 = false := hl
    subst e
    have c0_ : x.cell? ⟨w.heap.size, 0, none⟩ = some (J Z n.id) := (h.pool.blkAt (i := 3) rfl).c 0 _ rfl
    have c1_ : x.cell? ⟨w.heap.size, 1, none⟩ = some (J Z (n.has + (rcvX n.peers[k].E ⟨m_seq, m_amt⟩))) := (h.pool.blkAt (i := 3) rfl).c 1 _ rfl
    have c2_ : x.cell? ⟨w.heap.size, 2, none⟩ = some (J Z n.spent) := (h.pool.blkAt (i := 3) rfl).c 2 _ rfl
    have c3_ : x.cell? ⟨w.heap.size, 3, none⟩ = some (J Z n.earned) := (h.pool.blkAt (i := 3) rfl).c 3 _ rfl
    have c4_ : x.cell? ⟨w.heap.size, 4, none⟩ = some (V n.sa n.seen.length n.sc) := (h.pool.blkAt (i := 3) rfl).c 4 _ rfl
    have c5_ : x.cell? ⟨w.heap.size, 5, none⟩ = some (V n.pa n.peers.length n.pc) := (h.pool.blkAt (i := 3) rfl).c 5 _ rfl
    refine wpOp_run (v := .agg #[J Z n.id, J Z (n.has + (rcvX n.peers[k].E ⟨m_seq, m_amt⟩)), J Z n.spent, J Z n.earned, V n.sa n.seen.length n.sc, V n.pa n.peers.length n.pc]) (w' := x) (by rfl) (by rfl) ?_ (hK _ _ ⟨true, l1, l2, l3, l4, l5, l6, l7, l8, l9, l10, u5, u6, (.agg #[J Z n.id, J Z (n.has + (rcvX n.peers[k].E ⟨m_seq, m_amt⟩)), J Z n.spent, J Z n.earned, V n.sa n.seen.length n.sc, V n.pa n.peers.length n.pc]), u79, u80, u81, u82, u83, u84, u85, rfl, rfl, { h with p78 := fun _ => rfl }⟩)
    go_simp
   ·have e : l1 = false := hl
    subst e
    refine wpOp_run (v := .pointer (some ⟨w.heap.size, 0, none⟩)) (w' := x) (by rfl) (by rfl) ?_ (hK _ _ ⟨l0, true, l2, l3, l4, l5, l6, l7, l8, l9, l10, u5, u6, u78, (.pointer (some ⟨w.heap.size, 0, none⟩)), u80, u81, u82, u83, u84, u85, rfl, rfl, { h with p79 := fun _ => rfl }⟩)
    go_simp
   ·have e : l2 = false := hl
    subst e
    have d1 : l1 = true := ready_on hi 1 (by kernel_rfl)
    subst d1
    have c0_ : x.cell? ⟨w.heap.size, 0, none⟩ = some (J Z n.id) := (h.pool.blkAt (i := 3) rfl).c 0 _ rfl
    refine wpOp_run (v := J Z n.id) (w' := x) (by rfl) (by rfl) ?_ (hK _ _ ⟨l0, true, true, l3, l4, l5, l6, l7, l8, l9, l10, u5, u6, u78, u79, (J Z n.id), u81, u82, u83, u84, u85, rfl, rfl, { h with p80 := fun _ => rfl }⟩)
    rw [h.p79 rfl]
    go_simp
   ·have e : l3 = false := hl
    subst e
    refine wpOp_run (v := .pointer (some ⟨w.heap.size + 1, 0, none⟩)) (w' := x) (by rfl) (by rfl) ?_ (hK _ _ ⟨l0, l1, l2, true, l4, l5, l6, l7, l8, l9, l10, u5, u6, u78, u79, u80, (.pointer (some ⟨w.heap.size + 1, 0, none⟩)), u82, u83, u84, u85, rfl, rfl, { h with p81 := fun _ => rfl }⟩)
    go_simp
   ·have e : l4 = false := hl
    subst e
    have d3 : l3 = true := ready_on hi 3 (by kernel_rfl)
    subst d3
    have c0_ : x.cell? ⟨w.heap.size + 1, 0, none⟩ = some (J Z m_fr) := (h.pool.blkAt (i := 4) rfl).c 0 _ rfl
    refine wpOp_run (v := J Z m_fr) (w' := x) (by rfl) (by rfl) ?_ (hK _ _ ⟨l0, l1, l2, true, true, l5, l6, l7, l8, l9, l10, u5, u6, u78, u79, u80, u81, (J Z m_fr), u83, u84, u85, rfl, rfl, { h with p82 := fun _ => rfl }⟩)
    rw [h.p81 rfl]
    go_simp
   ·have e : l5 = false := hl
    subst e
    refine wpOp_run (v := J Z (rcvY n.peers[k].E { seq := m_seq, amt := m_amt })) (w' := x) (by rfl) (by rfl) ?_ (hK _ _ ⟨l0, l1, l2, l3, l4, true, l6, l7, l8, l9, l10, u5, u6, u78, u79, u80, u81, u82, (J Z (rcvY n.peers[k].E { seq := m_seq, amt := m_amt })), u84, u85, rfl, rfl, { h with p83 := fun _ => rfl }⟩)
    go_simp
   ·have e : l6 = false := hl
    subst e
    have d2 : l2 = true := ready_on hi 2 (by kernel_rfl)
    subst d2
    have d4 : l4 = true := ready_on hi 4 (by kernel_rfl)
    subst d4
    have d5 : l5 = true := ready_on hi 5 (by kernel_rfl)
    subst d5
    refine wpOp_run (v := .agg #[J Z n.id, J Z m_fr, J Z 2, J Z (rcvY n.peers[k].E { seq := m_seq, amt := m_amt }), J Z 0]) (w' := x) (by rfl) (by rfl) ?_ (hK _ _ ⟨l0, l1, true, l3, true, true, true, l7, l8, l9, l10, u5, u6, u78, u79, u80, u81, u82, u83, (.agg #[J Z n.id, J Z m_fr, J Z 2, J Z (rcvY n.peers[k].E { seq := m_seq, amt := m_amt }), J Z 0]), u85, rfl, rfl, { h with p84 := fun _ => rfl }⟩)
    rw [h.p80 rfl, h.p82 rfl, h.p83 rfl]
    go_simp
   ·have e : l7 = false := hl
    subst e
    have d6 : l6 = true := ready_on hi 6 (by kernel_rfl)
    subst d6
    have z9 : l9 = false := by
     cases hz : l9
     ·rfl
     ·exact absurd (h.d9_7 hz) (by simp)
    subst z9
    refine wpOp_run (v := V (some ⟨x.heap.size, 0, none⟩) 1 1) (w' := x.alloc (.cells #[J Z n.id, J Z m_fr, J Z 2, J Z (rcvY n.peers[k].E ⟨m_seq, m_amt⟩), J Z 0] 29)) (by rfl) (by rfl) ?_ (hK _ _ ⟨l0, l1, l2, l3, l4, l5, true, true, l8, false, l10, u5, u6, u78, u79, u80, u81, u82, u83, u84, (V (some ⟨x.heap.size, 0, none⟩) 1 1), rfl, rfl, { h with q85 := (fun _ => rfl), q5 := (fun q => by cases q), pool := (h.pool.newBlk (i := 8) rfl [J Z n.id, J Z m_fr, J Z 2, J Z (rcvY n.peers[k].E ⟨m_seq, m_amt⟩), J Z 0] 29), d9_7 := fun _ => rfl }⟩)
    rw [h.p84 rfl]
    go_simp
   ·have e : l8 = false := hl
    subst e
    have d0 : l0 = true := ready_on hi 0 (by kernel_rfl)
    subst d0
    refine wpOp_skip (w' := ((((((x.setCell ⟨w.heap.size + 1 + 1, 0, none⟩ (J Z n.id)).setCell ⟨w.heap.size + 1 + 1, 1, none⟩ (J Z (n.has + (rcvX n.peers[k].E ⟨m_seq, m_amt⟩)))).setCell ⟨w.heap.size + 1 + 1, 2, none⟩ (J Z n.spent)).setCell ⟨w.heap.size + 1 + 1, 3, none⟩ (J Z n.earned)).setCell ⟨w.heap.size + 1 + 1, 4, none⟩ (V n.sa n.seen.length n.sc)).setCell ⟨w.heap.size + 1 + 1, 5, none⟩ (V n.pa n.peers.length n.pc))) (by rfl) (by rfl) ?_ (hK _ _ ⟨true, l1, l2, l3, l4, l5, l6, l7, true, l9, l10, u5, u6, u78, u79, u80, u81, u82, u83, u84, u85, rfl, rfl, { h with pool := (h.pool.set6 (i := 5) rfl (J Z n.id) (J Z (n.has + (rcvX n.peers[k].E ⟨m_seq, m_amt⟩))) (J Z n.spent) (J Z n.earned) (V n.sa n.seen.length n.sc) (V n.pa n.peers.length n.pc)) }⟩)
    have A := h.pool.blkAt (i := 5) rfl
    have t0 := A.c 0 _ rfl
    have f0 := A.f 0
    have t1 := A.c 1 _ rfl
    have f1 := A.f 1
    have t2 := A.c 2 _ rfl
    have f2 := A.f 2
    have t3 := A.c 3 _ rfl
    have f3 := A.f 3
    have t4 := A.c 4 _ rfl
    have f4 := A.f 4
    have t5 := A.c 5 _ rfl
    have f5 := A.f 5
    rw [h.p78 rfl]
    clear A h
    go_simp
   ·have e : l9 = false := hl
    subst e
    have d0 : l0 = true := ready_on hi 0 (by kernel_rfl)
    subst d0
    have d1 : l1 = true := ready_on hi 1 (by kernel_rfl)
    subst d1
    have d2 : l2 = true := ready_on hi 2 (by kernel_rfl)
    subst d2
    have d3 : l3 = true := ready_on hi 3 (by kernel_rfl)
    subst d3
    have d4 : l4 = true := ready_on hi 4 (by kernel_rfl)
    subst d4
    have d5 : l5 = true := ready_on hi 5 (by kernel_rfl)
    subst d5
    have d6 : l6 = true := ready_on hi 6 (by kernel_rfl)
    subst d6
    have d7 : l7 = true := ready_on hi 7 (by kernel_rfl)
    subst d7
    have d8 : l8 = true := ready_on hi 8 (by kernel_rfl)
    subst d8
    refine wpOp_run (v := u85) (w' := x) (by rfl) (by rfl) ?_ (hK _ _ ⟨true, true, true, true, true, true, true, true, true, true, l10, (u85), u6, u78, u79, u80, u81, u82, u83, u84, u85, rfl, rfl, { h with q5 := (fun _ => rfl), d9_7 := fun _ => rfl }⟩)
    go_simp
   ·have e : l10 = false := hl
    subst e
    have d0 : l0 = true := ready_on hi 0 (by kernel_rfl)
    subst d0
    have d1 : l1 = true := ready_on hi 1 (by kernel_rfl)
    subst d1
    have d2 : l2 = true := ready_on hi 2 (by kernel_rfl)
    subst d2
    have d3 : l3 = true := ready_on hi 3 (by kernel_rfl)
    subst d3
    have d4 : l4 = true := ready_on hi 4 (by kernel_rfl)
    subst d4
    have d5 : l5 = true := ready_on hi 5 (by kernel_rfl)
    subst d5
    have d6 : l6 = true := ready_on hi 6 (by kernel_rfl)
    subst d6
    have d7 : l7 = true := ready_on hi 7 (by kernel_rfl)
    subst d7
    have d8 : l8 = true := ready_on hi 8 (by kernel_rfl)
    subst d8
    have d9 : l9 = true := ready_on hi 9 (by kernel_rfl)
    subst d9
    refine wpOp_run (v := J Z 0) (w' := x) (by rfl) (by rfl) ?_ (hK _ _ ⟨true, true, true, true, true, true, true, true, true, true, true, u5, (J Z 0), u78, u79, u80, u81, u82, u83, u84, u85, rfl, rfl, { h with q6 := (fun _ => rfl) }⟩)
    go_simp
  ·rintro L act x ⟨l0, l1, l2, l3, l4, l5, l6, l7, l8, l9, l10, u5, u6, u78, u79, u80, u81, u82, u83, u84, u85, rfl, rfl, h⟩ hr
   have hall := ready_all hr rfl (by decide)
   have t0 : l0 = true := hall 0 (by decide)
   have t1 : l1 = true := hall 1 (by decide)
   have t2 : l2 = true := hall 2 (by decide)
   have t3 : l3 = true := hall 3 (by decide)
   have t4 : l4 = true := hall 4 (by decide)
   have t5 : l5 = true := hall 5 (by decide)
   have t6 : l6 = true := hall 6 (by decide)
   have t7 : l7 = true := hall 7 (by decide)
   have t8 : l8 = true := hall 8 (by decide)
   have t9 : l9 = true := hall 9 (by decide)
   have t10 : l10 = true := hall 10 (by decide)
   subst t0 t1 t2 t3 t4 t5 t6 t7 t8 t9 t10
   clear hall hr
   have e85 := h.q85 rfl
   have e5 := h.q5 rfl
   have e6 := h.q6 rfl
   obtain ⟨Q8, hQ8⟩ : ∃ Q8, Q8 = gOf (slA u85) := ⟨_, rfl⟩
   have hp : Pool (fps (ndL n)) w [[orow 2 snCells n.sa n.sc n.seen], [orow 4 prCells n.pa n.pc (n.peers.set k (⟨n.peers[k].id, a5, c5, rcvE n.peers[k].E ⟨m_seq, m_amt⟩⟩ : Pr))], endsL (n.peers.set k (⟨n.peers[k].id, a5, c5, rcvE n.peers[k].E ⟨m_seq, m_amt⟩⟩ : Pr)), [blk w.heap.size [J Z n.id, J Z (n.has + (rcvX n.peers[k].E ⟨m_seq, m_amt⟩)), J Z n.spent, J Z n.earned, V n.sa n.seen.length n.sc, V n.pa n.peers.length n.pc]], [blk (w.heap.size + 1) [J Z m_fr, J Z m_to, J Z 1, J Z m_seq, J Z m_amt]], [blk (w.heap.size + 1 + 1) [J Z n.id, J Z (n.has + (rcvX n.peers[k].E ⟨m_seq, m_amt⟩)), J Z n.spent, J Z n.earned, V n.sa n.seen.length n.sc, V n.pa n.peers.length n.pc]], [], [blk P8 [V a5 (rcvE n.peers[k].E ⟨m_seq, m_amt⟩).out.length c5, J Z (rcvE n.peers[k].E ⟨m_seq, m_amt⟩).sent, J Z (rcvE n.peers[k].E ⟨m_seq, m_amt⟩).got]], [blk Q8 [J Z n.id, J Z m_fr, J Z 2, J Z (rcvY n.peers[k].E ⟨m_seq, m_amt⟩), J Z 0]]] x := by rw [hQ8]; exact h.pool
   rw [← hQ8] at e85
   clear h hQ8
   subst e85 e5 e6
   refine hK15 _ _ ?_
   clear hK15
   have z_ := hp.blkAt (i := 5) rfl
   have g0_ := z_.c 0 _ rfl
   have g1_ := z_.c 1 _ rfl
   have g2_ := z_.c 2 _ rfl
   have g3_ := z_.c 3 _ rfl
   have g4_ := z_.c 4 _ rfl
   have g5_ := z_.c 5 _ rfl
   have hq2 := hp.asMsg (i := 8) (m := (⟨n.id, m_fr, 2, rcvY n.peers[k].E ⟨m_seq, m_amt⟩, 0⟩ : Mg)) rfl
   clear HP5 HP9
   go_wp2
   exact bodyPost_ret (v := .tuple #[ndV (⟨n.id, n.has + (rcvX n.peers[k].E ⟨m_seq, m_amt⟩), n.spent, n.earned, n.sa, n.sc, n.seen, n.pa, n.pc, n.peers.set k (⟨n.peers[k].id, a5, c5, rcvE n.peers[k].E ⟨m_seq, m_amt⟩⟩ : Pr)⟩ : Nd), V (some ⟨Q8, 0, none⟩) 1 1, J Z 0]) (by simp [results, Try.results21, go_sem, g0_, g1_, g2_, g3_, g4_, g5_, ndV]) rfl ⟨(⟨n.id, n.has + (rcvX n.peers[k].E ⟨m_seq, m_amt⟩), n.spent, n.earned, n.sa, n.sc, n.seen, n.pa, n.pc, n.peers.set k (⟨n.peers[k].id, a5, c5, rcvE n.peers[k].E ⟨m_seq, m_amt⟩⟩ : Pr)⟩ : Nd), some ⟨Q8, 0, none⟩, 1, (by rw [HM.out] <;> rfl), (by rw [HM.out] <;> simp only [Nd.d, List.map_set, Pr.d]), (by
    rw [HM.out]
    exact ((((((hq2.drop (i := 7) rfl).drop (i := 6) rfl).drop (i := 5) rfl).drop (i := 4) rfl).drop (i := 3) rfl)).cast (by simp [ndL]))⟩
end Go.Proofs.Ytkcpoibhlnjldaa
