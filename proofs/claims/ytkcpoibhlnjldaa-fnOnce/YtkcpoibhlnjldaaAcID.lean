/- The contracts of the program's receive, give and acknowledge, by what they own. -/
import Derived.Test.YtkcpoibhlnjldaaAcS6
import Derived.Test.YtkcpoibhlnjldaaAcI8
import Derived.Test.YtkcpoibhlnjldaaAcI7
import Derived.Test.YtkcpoibhlnjldaaRcv
namespace Go.Proofs.Ytkcpoibhlnjldaa
open Go.Value renaming int → J, slice → V
open Go.IntKind renaming i64 → Z
open Go renaming undef → U
open Go.ChangeShapes Go.WideShapes Go.ChangeAt Go.RowKit
set_option linter.unusedVariables false
set_option maxRecDepth 100000
/-- a node in a block, its peers, and messages -/
def NdPost (B : Nat) (n : Nd) (R : NdD × List Mg × Int) (w : World) (w' : World) (a : Option Addr) (c : Nat) : Prop := ∃ L : List Pr, R.1 = ⟨n.id, R.1.has, n.spent, n.earned, n.seen, L.map Pr.d⟩ ∧ L.length = n.peers.length ∧ Pool (fps (blk B [J Z n.id, J Z n.has, J Z n.spent, J Z n.earned, V n.sa n.seen.length n.sc, V n.pa n.peers.length n.pc] :: orow 4 prCells n.pa n.pc n.peers :: endsL n.peers)) w [[blk B [J Z n.id, J Z R.1.has, J Z n.spent, J Z n.earned, V n.sa n.seen.length n.sc, V n.pa L.length n.pc]], [orow 4 prCells n.pa n.pc L], endsL L, [orow 5 mgCells a c R.2.1]] w'
def MsgEnd (B : Nat) (n : Nd) (R : NdD × List Mg × Int) (w : World) (e : Ending) (w' : World) : Prop := ∃ (a : Option Addr) (c : Nat), e = .returned (.tuple #[V a R.2.1.length c, J Z R.2.2]) ∧ NdPost B n R w w' a c
def CodeP (B : Nat) (n : Nd) (R : NdD × List Mg × Int) (w : World) (e : Ending) (w' : World) : Prop := e = .returned (J Z R.2.2) ∧ R.2.1 = [] ∧ NdPost B n R w w' none 0
theorem nd_same {B : Nat} {n : Nd} {w w' : World} {c : Int} (st : Star (blk B [J Z n.id, J Z n.has, J Z n.spent, J Z n.earned, V n.sa n.seen.length n.sc, V n.pa n.peers.length n.pc] :: orow 4 prCells n.pa n.pc n.peers :: endsL n.peers) w) (hb : Below w.heap.size w w') : NdPost B n (n.d, [], c) w w' none 0 :=
 ⟨n.peers, rfl, rfl, (((Pool.of st).cast (S' := [[blk B [J Z n.id, J Z n.has, J Z n.spent, J Z n.earned, V n.sa n.seen.length n.sc, V n.pa n.peers.length n.pc]], [orow 4 prCells n.pa n.pc n.peers], endsL n.peers, []]) (by simp)).keep hb).noMsg (i := 3) rfl⟩
theorem implReceived_pool (a : Option Addr) (l : List Prc) (cap : Nat) (sent got s m : Int) (w : World) (hl : l.length ≤ 1048576) (h : RowAt 2 prcCells w a l) :
  Calls Try.prog 65 #[.agg #[V a l.length cap, J Z sent, J Z got], .agg #[J Z s, J Z m]] w fun e w' => ∃ a5 c5, e = .returned (.tuple #[.agg #[V a5 (rcvE ⟨l, sent, got⟩ ⟨s, m⟩).out.length c5, J Z (rcvE ⟨l, sent, got⟩ ⟨s, m⟩).sent, J Z (rcvE ⟨l, sent, got⟩ ⟨s, m⟩).got], J Z (rcvX ⟨l, sent, got⟩ ⟨s, m⟩), J Z (rcvY ⟨l, sent, got⟩ ⟨s, m⟩)]) ∧ Below w.heap.size w w' ∧ Star [orow 2 prcCells a5 c5 (rcvE ⟨l, sent, got⟩ ⟨s, m⟩).out] w' ∧ ∀ b ∈ fps [orow 2 prcCells a5 c5 (rcvE ⟨l, sent, got⟩ ⟨s, m⟩).out], w.heap.size ≤ b := by
 refine (implReceived_any a l cap sent got s m w hl h).mono ?_
 rintro e w1 ⟨hb, v, rfl, hn⟩
 obtain ⟨a5, c5, rfl, st, hi⟩ := hn.star
 exact ⟨a5, c5, rfl, hb, st, hi⟩
structure RvF (B k G : Nat) (n : Nd) (w : World) (hk : k < n.peers.length) (m_fr m_seq m_amt : Int) (l0 l1 l2 l3 l4 l5 l6 l7 l8 l9 l10 l11 l12 : Bool) (u9 u10 u11 u17 u18 u19 u20 u21 u22 u23 u24 u25 : Value) (x : World) : Prop where
 pool : Pool (fps (blk B [J Z n.id, J Z n.has, J Z n.spent, J Z n.earned, V n.sa n.seen.length n.sc, V n.pa n.peers.length n.pc] :: orow 4 prCells n.pa n.pc n.peers :: endsL n.peers)) w [[blk B [J Z n.id, J Z n.has, J Z n.spent, J Z n.earned, V n.sa n.seen.length n.sc, V n.pa n.peers.length n.pc]], [orow 4 prCells n.pa n.pc n.peers], endsL n.peers, [blk w.heap.size [J Z m_seq, J Z m_amt]], cond l4 [orow 2 prcCells (slA u22) (slC u22) (rcvE n.peers[k].E ⟨m_seq, m_amt⟩).out] [], cond l10 [blk (ptB u9) [V (slA u22) (rcvE n.peers[k].E ⟨m_seq, m_amt⟩).out.length (slC u22), J Z (rcvE n.peers[k].E ⟨m_seq, m_amt⟩).sent, J Z (rcvE n.peers[k].E ⟨m_seq, m_amt⟩).got]] (cond l9 [blk (ptB u9) [V none 0 0, J Z 0, J Z 0]] []), []] x
 q22 : l4 = true → u22 = .tuple #[.agg #[V (slA u22) (rcvE n.peers[k].E ⟨m_seq, m_amt⟩).out.length (slC u22), J Z (rcvE n.peers[k].E ⟨m_seq, m_amt⟩).sent, J Z (rcvE n.peers[k].E ⟨m_seq, m_amt⟩).got], J Z (rcvX n.peers[k].E ⟨m_seq, m_amt⟩), J Z (rcvY n.peers[k].E ⟨m_seq, m_amt⟩)]
 q17 : l5 = true → u17 = .tuple #[.agg #[V (slA u22) (rcvE n.peers[k].E ⟨m_seq, m_amt⟩).out.length (slC u22), J Z (rcvE n.peers[k].E ⟨m_seq, m_amt⟩).sent, J Z (rcvE n.peers[k].E ⟨m_seq, m_amt⟩).got], J Z (rcvX n.peers[k].E ⟨m_seq, m_amt⟩), J Z (rcvY n.peers[k].E ⟨m_seq, m_amt⟩)]
 q23 : l6 = true → u23 = .agg #[V (slA u22) (rcvE n.peers[k].E ⟨m_seq, m_amt⟩).out.length (slC u22), J Z (rcvE n.peers[k].E ⟨m_seq, m_amt⟩).sent, J Z (rcvE n.peers[k].E ⟨m_seq, m_amt⟩).got]
 q24 : l7 = true → u24 = J Z (rcvX n.peers[k].E ⟨m_seq, m_amt⟩)
 q25 : l8 = true → u25 = J Z (rcvY n.peers[k].E ⟨m_seq, m_amt⟩)
 q10 : l11 = true → u10 = J Z (rcvX n.peers[k].E ⟨m_seq, m_amt⟩)
 q11 : l12 = true → u11 = J Z (rcvY n.peers[k].E ⟨m_seq, m_amt⟩)
 a9 : l9 = true → u9 = .pointer (some ⟨ptB u9, 0, none⟩)
 d5_4 : l5 = true → l4 = true
 d6_4 : l6 = true → l4 = true
 d10_4 : l10 = true → l4 = true
 d10_9 : l10 = true → l9 = true
 d6_5 : l6 = true → l5 = true
 d10_6 : l10 = true → l6 = true
 p18 : l0 = true → u18 = .pointer (some ⟨G, k * 4 + 1, none⟩)
 p19 : l1 = true → u19 = .pointer (some ⟨G, k * 4 + 1, none⟩)
 p20 : l2 = true → u20 = .agg #[V n.peers[k].a n.peers[k].E.out.length n.peers[k].cap, J Z n.peers[k].E.sent, J Z n.peers[k].E.got]
 p21 : l3 = true → u21 = .agg #[J Z m_seq, J Z m_amt]
set_option maxHeartbeats 4000000 in
theorem receive_range (B k : Nat) (n : Nd) (m_fr m_seq m_amt : Int) (w : World) (hs : SmL n.peers) (hr : 0 ≤ n.has ∧ n.has ≤ 10000000000000) (st : Star (blk B [J Z n.id, J Z n.has, J Z n.spent, J Z n.earned, V n.sa n.seen.length n.sc, V n.pa n.peers.length n.pc] :: orow 4 prCells n.pa n.pc n.peers :: endsL n.peers) w) (hk : k < n.peers.length) (hf : fi (n.peers.map Pr.id) m_fr = some k) (hq : 10000000000000 < n.has + rcvX n.peers[k].E ⟨m_seq, m_amt⟩) :
  Calls Try.prog 44 #[.pointer (some ⟨B, 0, none⟩), J Z m_fr, .agg #[J Z m_seq, J Z m_amt]] w fun e w' => MsgEnd B n (takeM n.d ⟨m_fr, n.id, 1, m_seq, m_amt⟩) w e w' := by
 have HM : Hid (takeM n.d ⟨m_fr, n.id, 1, m_seq, m_amt⟩ = (n.d, [], 6)) := hide (by
  unfold takeM
  rw [show n.d.peers.map PD.id = n.peers.map Pr.id from ids_p _, hf]
  simp only [Nd.d, List.getElem?_map, List.getElem?_eq_getElem hk, Option.map_some, Pr.d]
  simp [hq])
 obtain ⟨hs1, hs2⟩ := hs
 obtain ⟨r1, r2⟩ := hr
 have HF : Hid _ := hide hf
 have hP0 := ((Pool.of st).cast (S' := [[blk B [J Z n.id, J Z n.has, J Z n.spent, J Z n.earned, V n.sa n.seen.length n.sc, V n.pa n.peers.length n.pc]], [orow 4 prCells n.pa n.pc n.peers], endsL n.peers, [], [], [], []]) (by simp)).newBlk (i := 3) rfl [J Z m_seq, J Z m_amt] 61
 have HP : Hid _ := hide hP0
 have hpa : n.pa = some ⟨gOf n.pa, 0, none⟩ := own_off (hP0.orowAt (i := 1) rfl) hk
 obtain ⟨G, hG⟩ : ∃ G, G = gOf n.pa := ⟨_, rfl⟩
 rw [← hG] at hpa
 have HG : Hid (G = gOf n.pa) := hide hG
 have HPA : Hid (n.pa = some ⟨G, 0, none⟩) := hide hpa
 clear hG hpa hP0 hf st
 go_enter Try.func44, Try.ntmps44
 go_wp2_with fail
 refine (endTo_any B _ _ _ _ _ n.pa n.peers n.pc m_fr _ (HP.out.blkAt (i := 0) rfl) hs1 (HP.out.orowAt (i := 1) rfl).rows).mono ?_
 rw [HPA.out, endPtr_hit HF.out]
 rintro e w1 ⟨rfl, hb1⟩
 have HP1 : Hid (Pool (fps (blk B [J Z n.id, J Z n.has, J Z n.spent, J Z n.earned, V n.sa n.seen.length n.sc, V n.pa n.peers.length n.pc] :: orow 4 prCells n.pa n.pc n.peers :: endsL n.peers)) w [[blk B [J Z n.id, J Z n.has, J Z n.spent, J Z n.earned, V n.sa n.seen.length n.sc, V n.pa n.peers.length n.pc]], [orow 4 prCells n.pa n.pc n.peers], endsL n.peers, [blk w.heap.size [J Z m_seq, J Z m_amt]], [], [], []] w1) := hide (HP.out.keep hb1)
 clear hb1 HP
 have ez : 0 + k * 4 + 1 = k * 4 + 1 := by omega
 rw [ez]
 clear ez
 obtain ⟨xb1, xb2⟩ := rcvX_bd n.peers[k].E ⟨m_seq, m_amt⟩
 have wx : IntKind.i64.wrap (n.has + (rcvX n.peers[k].E ⟨m_seq, m_amt⟩)) = n.has + (rcvX n.peers[k].E ⟨m_seq, m_amt⟩) := wrap_in (by omega) (by omega)
 go_wp2_with fail
 rename_i K5 hK5
 refine wp_region_inv (by kernel_rfl) (fun L act x => ∃ l0 l1 l2 l3 l4 l5 l6 l7 l8 l9 l10 l11 l12 : Bool, ∃ u9 u10 u11 u17 u18 u19 u20 u21 u22 u23 u24 u25 : Value, L = #[l0, l1, l2, l3, l4, l5, l6, l7, l8, l9, l10, l11, l12] ∧ act = { tmps := #[Value.pointer (some { block := B, off := 0 }), J Z m_fr, Value.agg #[J Z m_seq, J Z m_amt], U, U, Value.pointer (some { block := w.heap.size, off := 0 }), V none 0 0, J Z 0, Value.pointer (some { block := G, off := k * 4 + 1 }), u9, u10, u11, Value.pointer (some { block := B, off := 0 }), J Z m_fr, Value.pointer (some { block := G, off := k * 4 + 1 }), Value.pointer (some { block := G, off := k * 4 + 1 }), Value.bool false, u17, u18, u19, u20, u21, u22, u23, u24, u25, U, U, U, U, U, U, U, U, U, U, U, U, U, U, U, U, U, U, U, U, U, U, U, U, U, U], defers := [] } ∧ RvF B k G n w hk m_fr m_seq m_amt l0 l1 l2 l3 l4 l5 l6 l7 l8 l9 l10 l11 l12 u9 u10 u11 u17 u18 u19 u20 u21 u22 u23 u24 u25 x) ?_ ?_ ?_
 rotate_left 2
 ·exact ⟨false, false, false, false, false, false, false, false, false, false, false, false, false, U, U, U, U, U, U, U, U, U, U, U, U, rfl, rfl, ⟨HP1.out.drew, nofun, nofun, nofun, nofun, nofun, nofun, nofun, nofun, nofun, nofun, nofun, nofun, nofun, nofun, nofun, nofun, nofun, nofun⟩⟩
 ·rintro L act x i ⟨l0, l1, l2, l3, l4, l5, l6, l7, l8, l9, l10, l11, l12, u9, u10, u11, u17, u18, u19, u20, u21, u22, u23, u24, u25, rfl, rfl, h⟩ hi K hK
  have hi15 : i < 13 := by
   obtain ⟨_, o, ho, _⟩ := mem_ready.1 hi
   exact (Array.getElem?_eq_some_iff.1 ho).1
  have hl := (mem_ready.1 hi).1
  obtain rfl | rfl | rfl | rfl | rfl | rfl | rfl | rfl | rfl | rfl | rfl | rfl | rfl := (by omega : i = 0 ∨ i = 1 ∨ i = 2 ∨ i = 3 ∨ i = 4 ∨ i = 5 ∨ i = 6 ∨ i = 7 ∨ i = 8 ∨ i = 9 ∨ i = 10 ∨ i = 11 ∨ i = 12)
  ·have e : l0 = false := hl
   subst e
   refine wpOp_run (v := .pointer (some ⟨G, k * 4 + 1, none⟩)) (w' := x) (by rfl) (by rfl) ?_ (hK _ _ ⟨true, l1, l2, l3, l4, l5, l6, l7, l8, l9, l10, l11, l12, u9, u10, u11, u17, (.pointer (some ⟨G, k * 4 + 1, none⟩)), u19, u20, u21, u22, u23, u24, u25, rfl, rfl, { h with p18 := fun _ => rfl }⟩)
   go_simp
  ·have e : l1 = false := hl
   subst e
   have d0 : l0 = true := ready_on hi 0 (by kernel_rfl)
   subst d0
   refine wpOp_run (v := .pointer (some ⟨G, k * 4 + 1, none⟩)) (w' := x) (by rfl) (by rfl) ?_ (hK _ _ ⟨true, true, l2, l3, l4, l5, l6, l7, l8, l9, l10, l11, l12, u9, u10, u11, u17, u18, (.pointer (some ⟨G, k * 4 + 1, none⟩)), u20, u21, u22, u23, u24, u25, rfl, rfl, { h with p19 := fun _ => rfl }⟩)
   rw [h.p18 rfl]
   go_simp
  ·have e : l2 = false := hl
   subst e
   have d1 : l1 = true := ready_on hi 1 (by kernel_rfl)
   subst d1
   obtain ⟨c0_, c1_, c2_, c3_⟩ := peer_at (HG.out ▸ h.pool.orowAt (i := 1) rfl) hk
   refine wpOp_run (v := .agg #[V n.peers[k].a n.peers[k].E.out.length n.peers[k].cap, J Z n.peers[k].E.sent, J Z n.peers[k].E.got]) (w' := x) (by rfl) (by rfl) ?_ (hK _ _ ⟨l0, true, true, l3, l4, l5, l6, l7, l8, l9, l10, l11, l12, u9, u10, u11, u17, u18, u19, (.agg #[V n.peers[k].a n.peers[k].E.out.length n.peers[k].cap, J Z n.peers[k].E.sent, J Z n.peers[k].E.got]), u21, u22, u23, u24, u25, rfl, rfl, { h with p20 := fun _ => rfl }⟩)
   rw [h.p19 rfl]
   go_simp
  ·have e : l3 = false := hl
   subst e
   have c0_ : x.cell? ⟨w.heap.size, 0, none⟩ = some (J Z m_seq) := (h.pool.blkAt (i := 3) rfl).c 0 _ rfl
   have c1_ : x.cell? ⟨w.heap.size, 1, none⟩ = some (J Z m_amt) := (h.pool.blkAt (i := 3) rfl).c 1 _ rfl
   refine wpOp_run (v := .agg #[J Z m_seq, J Z m_amt]) (w' := x) (by rfl) (by rfl) ?_ (hK _ _ ⟨l0, l1, l2, true, l4, l5, l6, l7, l8, l9, l10, l11, l12, u9, u10, u11, u17, u18, u19, u20, (.agg #[J Z m_seq, J Z m_amt]), u22, u23, u24, u25, rfl, rfl, { h with p21 := fun _ => rfl }⟩)
   go_simp
  ·have e : l4 = false := hl
   subst e
   have d2 : l2 = true := ready_on hi 2 (by kernel_rfl)
   subst d2
   have d3 : l3 = true := ready_on hi 3 (by kernel_rfl)
   subst d3
   have z5 : l5 = false := by
    cases hz : l5
    ·rfl
    ·exact absurd (h.d5_4 hz) (by simp)
   subst z5
   have z6 : l6 = false := by
    cases hz : l6
    ·rfl
    ·exact absurd (h.d6_4 hz) (by simp)
   subst z6
   have z10 : l10 = false := by
    cases hz : l10
    ·rfl
    ·exact absurd (h.d10_4 hz) (by simp)
   subst z10
   refine wpOp_call (by rfl) (by rfl) ?_ (implReceived_pool n.peers[k].a n.peers[k].E.out n.peers[k].cap n.peers[k].E.sent n.peers[k].E.got m_seq m_amt x (hs2 _ (List.getElem_mem hk)) (h.pool.endAt (i := 2) rfl hk).rows) ?_
   ·rw [h.p20 rfl, h.p21 rfl]; go_simp
   ·rintro e w' ⟨a5, c5, rfl, hb5, st5, hi5⟩
    exact ⟨_, rfl, hK _ _ ⟨l0, l1, true, true, true, false, false, l7, l8, l9, false, l11, l12, u9, u10, u11, u17, u18, u19, u20, u21, (.tuple #[.agg #[V a5 (rcvE n.peers[k].E ⟨m_seq, m_amt⟩).out.length c5, J Z (rcvE n.peers[k].E ⟨m_seq, m_amt⟩).sent, J Z (rcvE n.peers[k].E ⟨m_seq, m_amt⟩).got], J Z (rcvX n.peers[k].E ⟨m_seq, m_amt⟩), J Z (rcvY n.peers[k].E ⟨m_seq, m_amt⟩)]), u23, u24, u25, rfl, rfl, { h with q22 := (fun _ => rfl), q17 := (fun q => by cases q), q23 := (fun q => by cases q), pool := (h.pool.new (i := 4) rfl hb5 st5 hi5), d5_4 := fun _ => rfl, d6_4 := fun _ => rfl, d10_4 := fun _ => rfl }⟩⟩
  ·have e : l5 = false := hl
   subst e
   have d4 : l4 = true := ready_on hi 4 (by kernel_rfl)
   subst d4
   have z6 : l6 = false := by
    cases hz : l6
    ·rfl
    ·exact absurd (h.d6_5 hz) (by simp)
   subst z6
   refine wpOp_run (v := .tuple #[.agg #[V (slA u22) (rcvE n.peers[k].E ⟨m_seq, m_amt⟩).out.length (slC u22), J Z (rcvE n.peers[k].E ⟨m_seq, m_amt⟩).sent, J Z (rcvE n.peers[k].E ⟨m_seq, m_amt⟩).got], J Z (rcvX n.peers[k].E ⟨m_seq, m_amt⟩), J Z (rcvY n.peers[k].E ⟨m_seq, m_amt⟩)]) (w' := x) (by rfl) (by rfl) ?_ (hK _ _ ⟨l0, l1, l2, l3, true, true, false, l7, l8, l9, l10, l11, l12, u9, u10, u11, (.tuple #[.agg #[V (slA u22) (rcvE n.peers[k].E ⟨m_seq, m_amt⟩).out.length (slC u22), J Z (rcvE n.peers[k].E ⟨m_seq, m_amt⟩).sent, J Z (rcvE n.peers[k].E ⟨m_seq, m_amt⟩).got], J Z (rcvX n.peers[k].E ⟨m_seq, m_amt⟩), J Z (rcvY n.peers[k].E ⟨m_seq, m_amt⟩)]), u18, u19, u20, u21, u22, u23, u24, u25, rfl, rfl, { h with q17 := (fun _ => rfl), d5_4 := fun _ => rfl, d6_5 := fun _ => rfl }⟩)
   rw [← h.q22 rfl]
   go_simp
  ·have e : l6 = false := hl
   subst e
   have d5 : l5 = true := ready_on hi 5 (by kernel_rfl)
   subst d5
   have z10 : l10 = false := by
    cases hz : l10
    ·rfl
    ·exact absurd (h.d10_6 hz) (by simp)
   subst z10
   refine wpOp_run (v := .agg #[V (slA u22) (rcvE n.peers[k].E ⟨m_seq, m_amt⟩).out.length (slC u22), J Z (rcvE n.peers[k].E ⟨m_seq, m_amt⟩).sent, J Z (rcvE n.peers[k].E ⟨m_seq, m_amt⟩).got]) (w' := x) (by rfl) (by rfl) ?_ (hK _ _ ⟨l0, l1, l2, l3, l4, true, true, l7, l8, l9, false, l11, l12, u9, u10, u11, u17, u18, u19, u20, u21, u22, (.agg #[V (slA u22) (rcvE n.peers[k].E ⟨m_seq, m_amt⟩).out.length (slC u22), J Z (rcvE n.peers[k].E ⟨m_seq, m_amt⟩).sent, J Z (rcvE n.peers[k].E ⟨m_seq, m_amt⟩).got]), u24, u25, rfl, rfl, { h with q23 := (fun _ => rfl), d6_4 := fun _ => h.d5_4 rfl, d6_5 := fun _ => rfl, d10_6 := fun _ => rfl }⟩)
   rw [h.q17 rfl]
   go_simp
  ·have e : l7 = false := hl
   subst e
   have d5 : l5 = true := ready_on hi 5 (by kernel_rfl)
   subst d5
   refine wpOp_run (v := J Z (rcvX n.peers[k].E ⟨m_seq, m_amt⟩)) (w' := x) (by rfl) (by rfl) ?_ (hK _ _ ⟨l0, l1, l2, l3, l4, true, l6, true, l8, l9, l10, l11, l12, u9, u10, u11, u17, u18, u19, u20, u21, u22, u23, (J Z (rcvX n.peers[k].E ⟨m_seq, m_amt⟩)), u25, rfl, rfl, { h with q24 := (fun _ => rfl) }⟩)
   rw [h.q17 rfl]
   go_simp
  ·have e : l8 = false := hl
   subst e
   have d5 : l5 = true := ready_on hi 5 (by kernel_rfl)
   subst d5
   refine wpOp_run (v := J Z (rcvY n.peers[k].E ⟨m_seq, m_amt⟩)) (w' := x) (by rfl) (by rfl) ?_ (hK _ _ ⟨l0, l1, l2, l3, l4, true, l6, l7, true, l9, l10, l11, l12, u9, u10, u11, u17, u18, u19, u20, u21, u22, u23, u24, (J Z (rcvY n.peers[k].E ⟨m_seq, m_amt⟩)), rfl, rfl, { h with q25 := (fun _ => rfl) }⟩)
   rw [h.q17 rfl]
   go_simp
  ·have e : l9 = false := hl
   subst e
   have z10 : l10 = false := by
    cases hz : l10
    ·rfl
    ·exact absurd (h.d10_9 hz) (by simp)
   subst z10
   refine wpOp_run (v := .pointer (some ⟨x.heap.size, 0, none⟩)) (w' := x.alloc (.cells #[V none 0 0, J Z 0, J Z 0] 39)) (by rfl) (by rfl) ?_ (hK _ _ ⟨l0, l1, l2, l3, l4, l5, l6, l7, l8, true, false, l11, l12, (.pointer (some ⟨x.heap.size, 0, none⟩)), u10, u11, u17, u18, u19, u20, u21, u22, u23, u24, u25, rfl, rfl, { h with a9 := (fun _ => rfl), pool := (h.pool.newBlk (i := 5) rfl [V none 0 0, J Z 0, J Z 0] 39), d10_9 := fun _ => rfl }⟩)
   go_simp
  ·have e : l10 = false := hl
   subst e
   have d0 : l0 = true := ready_on hi 0 (by kernel_rfl)
   subst d0
   have d1 : l1 = true := ready_on hi 1 (by kernel_rfl)
   subst d1
   have d2 : l2 = true := ready_on hi 2 (by kernel_rfl)
   subst d2
   have d3 : l3 = true := ready_on hi 3 (by kernel_rfl)
   subst d3
   have d4 : l4 = true := ready_on hi 4 (by kernel_rfl)
   subst d4
   have d5 : l5 = true := ready_on hi 5 (by kernel_rfl)
   subst d5
   have d6 : l6 = true := ready_on hi 6 (by kernel_rfl)
   subst d6
   have d9 : l9 = true := ready_on hi 9 (by kernel_rfl)
   subst d9
   refine wpOp_skip (w' := (((x.setCell ⟨ptB u9, 0, none⟩ (V (slA u22) (rcvE n.peers[k].E ⟨m_seq, m_amt⟩).out.length (slC u22))).setCell ⟨ptB u9, 1, none⟩ (J Z (rcvE n.peers[k].E ⟨m_seq, m_amt⟩).sent)).setCell ⟨ptB u9, 2, none⟩ (J Z (rcvE n.peers[k].E ⟨m_seq, m_amt⟩).got))) (by rfl) (by rfl) ?_ (hK _ _ ⟨true, true, true, true, true, true, true, l7, l8, true, true, l11, l12, u9, u10, u11, u17, u18, u19, u20, u21, u22, u23, u24, u25, rfl, rfl, { h with pool := ((((h.pool.setBlk (i := 5) rfl 0 (V (slA u22) (rcvE n.peers[k].E ⟨m_seq, m_amt⟩).out.length (slC u22)) (by simp)).setBlk (i := 5) rfl 1 (J Z (rcvE n.peers[k].E ⟨m_seq, m_amt⟩).sent) (by simp)).setBlk (i := 5) rfl 2 (J Z (rcvE n.peers[k].E ⟨m_seq, m_amt⟩).got) (by simp))), d10_4 := fun _ => rfl, d10_9 := fun _ => rfl, d10_6 := fun _ => rfl }⟩)
   have A := h.pool.blkAt (i := 5) rfl
   have t0 := A.c 0 _ rfl
   have f0 := A.f 0
   have t1 := A.c 1 _ rfl
   have f1 := A.f 1
   have t2 := A.c 2 _ rfl
   have f2 := A.f 2
   obtain ⟨P8, hP8⟩ : ∃ P8, P8 = ptB u9 := ⟨_, rfl⟩
   have e8 := h.a9 rfl
   rw [h.q23 rfl]
   rw [← hP8] at t0 t1 t2 f0 f1 f2 e8 ⊢
   rw [e8]
   clear e8 hP8 A h
   go_simp
  ·have e : l11 = false := hl
   subst e
   have d0 : l0 = true := ready_on hi 0 (by kernel_rfl)
   subst d0
   have d1 : l1 = true := ready_on hi 1 (by kernel_rfl)
   subst d1
   have d2 : l2 = true := ready_on hi 2 (by kernel_rfl)
   subst d2
   have d3 : l3 = true := ready_on hi 3 (by kernel_rfl)
   subst d3
   have d4 : l4 = true := ready_on hi 4 (by kernel_rfl)
   subst d4
   have d5 : l5 = true := ready_on hi 5 (by kernel_rfl)
   subst d5
   have d6 : l6 = true := ready_on hi 6 (by kernel_rfl)
   subst d6
   have d7 : l7 = true := ready_on hi 7 (by kernel_rfl)
   subst d7
   have d9 : l9 = true := ready_on hi 9 (by kernel_rfl)
   subst d9
   have d10 : l10 = true := ready_on hi 10 (by kernel_rfl)
   subst d10
   refine wpOp_run (v := J Z (rcvX n.peers[k].E ⟨m_seq, m_amt⟩)) (w' := x) (by rfl) (by rfl) ?_ (hK _ _ ⟨true, true, true, true, true, true, true, true, l8, true, true, true, l12, u9, (J Z (rcvX n.peers[k].E ⟨m_seq, m_amt⟩)), u11, u17, u18, u19, u20, u21, u22, u23, u24, u25, rfl, rfl, { h with q10 := (fun _ => rfl) }⟩)
   rw [h.q24 rfl]
   go_simp
  ·have e : l12 = false := hl
   subst e
   have d0 : l0 = true := ready_on hi 0 (by kernel_rfl)
   subst d0
   have d1 : l1 = true := ready_on hi 1 (by kernel_rfl)
   subst d1
   have d2 : l2 = true := ready_on hi 2 (by kernel_rfl)
   subst d2
   have d3 : l3 = true := ready_on hi 3 (by kernel_rfl)
   subst d3
   have d4 : l4 = true := ready_on hi 4 (by kernel_rfl)
   subst d4
   have d5 : l5 = true := ready_on hi 5 (by kernel_rfl)
   subst d5
   have d6 : l6 = true := ready_on hi 6 (by kernel_rfl)
   subst d6
   have d7 : l7 = true := ready_on hi 7 (by kernel_rfl)
   subst d7
   have d8 : l8 = true := ready_on hi 8 (by kernel_rfl)
   subst d8
   have d9 : l9 = true := ready_on hi 9 (by kernel_rfl)
   subst d9
   have d10 : l10 = true := ready_on hi 10 (by kernel_rfl)
   subst d10
   have d11 : l11 = true := ready_on hi 11 (by kernel_rfl)
   subst d11
   refine wpOp_run (v := J Z (rcvY n.peers[k].E ⟨m_seq, m_amt⟩)) (w' := x) (by rfl) (by rfl) ?_ (hK _ _ ⟨true, true, true, true, true, true, true, true, true, true, true, true, true, u9, u10, (J Z (rcvY n.peers[k].E ⟨m_seq, m_amt⟩)), u17, u18, u19, u20, u21, u22, u23, u24, u25, rfl, rfl, { h with q11 := (fun _ => rfl) }⟩)
   rw [h.q25 rfl]
   go_simp
 ·rintro L act x ⟨l0, l1, l2, l3, l4, l5, l6, l7, l8, l9, l10, l11, l12, u9, u10, u11, u17, u18, u19, u20, u21, u22, u23, u24, u25, rfl, rfl, h⟩ hr
  have hall := ready_all hr rfl (by decide)
  have t0 : l0 = true := hall 0 (by decide)
  have t1 : l1 = true := hall 1 (by decide)
  have t2 : l2 = true := hall 2 (by decide)
  have t3 : l3 = true := hall 3 (by decide)
  have t4 : l4 = true := hall 4 (by decide)
  have t5 : l5 = true := hall 5 (by decide)
  have t6 : l6 = true := hall 6 (by decide)
  have t7 : l7 = true := hall 7 (by decide)
  have t8 : l8 = true := hall 8 (by decide)
  have t9 : l9 = true := hall 9 (by decide)
  have t10 : l10 = true := hall 10 (by decide)
  have t11 : l11 = true := hall 11 (by decide)
  have t12 : l12 = true := hall 12 (by decide)
  subst t0 t1 t2 t3 t4 t5 t6 t7 t8 t9 t10 t11 t12
  clear hall hr
  have e8 := h.a9 rfl
  have e9 := h.q10 rfl
  have e10 := h.q11 rfl
  obtain ⟨a5, c5, ha5⟩ : ∃ a c, a = slA u22 ∧ c = slC u22 := ⟨_, _, rfl, rfl⟩
  obtain ⟨P8, hP8⟩ : ∃ P8, P8 = ptB u9 := ⟨_, rfl⟩
  have HP5 : Hid (Pool (fps (blk B [J Z n.id, J Z n.has, J Z n.spent, J Z n.earned, V n.sa n.seen.length n.sc, V n.pa n.peers.length n.pc] :: orow 4 prCells n.pa n.pc n.peers :: endsL n.peers)) w [[blk B [J Z n.id, J Z n.has, J Z n.spent, J Z n.earned, V n.sa n.seen.length n.sc, V n.pa n.peers.length n.pc]], [orow 4 prCells n.pa n.pc n.peers], endsL n.peers, [blk w.heap.size [J Z m_seq, J Z m_amt]], [orow 2 prcCells a5 c5 (rcvE n.peers[k].E ⟨m_seq, m_amt⟩).out], [blk P8 [V a5 (rcvE n.peers[k].E ⟨m_seq, m_amt⟩).out.length c5, J Z (rcvE n.peers[k].E ⟨m_seq, m_amt⟩).sent, J Z (rcvE n.peers[k].E ⟨m_seq, m_amt⟩).got]], []] x) := hide (by rw [ha5.1, ha5.2, hP8]; exact h.pool)
  rw [← hP8] at e8
  clear h ha5 hP8
  subst e8 e9 e10
  refine hK5 _ _ ?_
  clear hK5
  have v1 : x.cell? ⟨B, 1, none⟩ = some (J Z n.has) := (HP5.out.blkAt (i := 0) rfl).c 1 _ rfl
  go_wp2
  exact bodyPost_ret (v := .tuple #[V none 0 0, J Z 6]) (by simp [results, Try.results44, go_sem]) rfl ⟨none, 0, (by rw [HM.out] <;> rfl), (by
   rw [HM.out]
   exact ⟨n.peers, rfl, rfl, ((((HP5.out.drop (i := 5) rfl).drop (i := 4) rfl).drop (i := 3) rfl).noMsg (i := 6) rfl).cast (by simp [Nd.d])⟩)⟩
structure RvG (B k G : Nat) (n : Nd) (w : World) (hk : k < n.peers.length) (m_fr m_seq m_amt : Int) (l0 l1 l2 l3 l4 l5 l6 l7 l8 l9 l10 l11 l12 : Bool) (u9 u10 u11 u17 u18 u19 u20 u21 u22 u23 u24 u25 : Value) (x : World) : Prop where
 pool : Pool (fps (blk B [J Z n.id, J Z n.has, J Z n.spent, J Z n.earned, V n.sa n.seen.length n.sc, V n.pa n.peers.length n.pc] :: orow 4 prCells n.pa n.pc n.peers :: endsL n.peers)) w [[blk B [J Z n.id, J Z n.has, J Z n.spent, J Z n.earned, V n.sa n.seen.length n.sc, V n.pa n.peers.length n.pc]], [orow 4 prCells n.pa n.pc n.peers], endsL n.peers, [blk w.heap.size [J Z m_seq, J Z m_amt]], cond l4 [orow 2 prcCells (slA u22) (slC u22) (rcvE n.peers[k].E ⟨m_seq, m_amt⟩).out] [], cond l10 [blk (ptB u9) [V (slA u22) (rcvE n.peers[k].E ⟨m_seq, m_amt⟩).out.length (slC u22), J Z (rcvE n.peers[k].E ⟨m_seq, m_amt⟩).sent, J Z (rcvE n.peers[k].E ⟨m_seq, m_amt⟩).got]] (cond l9 [blk (ptB u9) [V none 0 0, J Z 0, J Z 0]] []), []] x
 q22 : l4 = true → u22 = .tuple #[.agg #[V (slA u22) (rcvE n.peers[k].E ⟨m_seq, m_amt⟩).out.length (slC u22), J Z (rcvE n.peers[k].E ⟨m_seq, m_amt⟩).sent, J Z (rcvE n.peers[k].E ⟨m_seq, m_amt⟩).got], J Z (rcvX n.peers[k].E ⟨m_seq, m_amt⟩), J Z (rcvY n.peers[k].E ⟨m_seq, m_amt⟩)]
 q17 : l5 = true → u17 = .tuple #[.agg #[V (slA u22) (rcvE n.peers[k].E ⟨m_seq, m_amt⟩).out.length (slC u22), J Z (rcvE n.peers[k].E ⟨m_seq, m_amt⟩).sent, J Z (rcvE n.peers[k].E ⟨m_seq, m_amt⟩).got], J Z (rcvX n.peers[k].E ⟨m_seq, m_amt⟩), J Z (rcvY n.peers[k].E ⟨m_seq, m_amt⟩)]
 q23 : l6 = true → u23 = .agg #[V (slA u22) (rcvE n.peers[k].E ⟨m_seq, m_amt⟩).out.length (slC u22), J Z (rcvE n.peers[k].E ⟨m_seq, m_amt⟩).sent, J Z (rcvE n.peers[k].E ⟨m_seq, m_amt⟩).got]
 q24 : l7 = true → u24 = J Z (rcvX n.peers[k].E ⟨m_seq, m_amt⟩)
 q25 : l8 = true → u25 = J Z (rcvY n.peers[k].E ⟨m_seq, m_amt⟩)
 q10 : l11 = true → u10 = J Z (rcvX n.peers[k].E ⟨m_seq, m_amt⟩)
 q11 : l12 = true → u11 = J Z (rcvY n.peers[k].E ⟨m_seq, m_amt⟩)
 a9 : l9 = true → u9 = .pointer (some ⟨ptB u9, 0, none⟩)
 d5_4 : l5 = true → l4 = true
 d6_4 : l6 = true → l4 = true
 d10_4 : l10 = true → l4 = true
 d10_9 : l10 = true → l9 = true
 d6_5 : l6 = true → l5 = true
 d10_6 : l10 = true → l6 = true
 p18 : l0 = true → u18 = .pointer (some ⟨G, k * 4 + 1, none⟩)
 p19 : l1 = true → u19 = .pointer (some ⟨G, k * 4 + 1, none⟩)
 p20 : l2 = true → u20 = .agg #[V n.peers[k].a n.peers[k].E.out.length n.peers[k].cap, J Z n.peers[k].E.sent, J Z n.peers[k].E.got]
 p21 : l3 = true → u21 = .agg #[J Z m_seq, J Z m_amt]
set_option maxHeartbeats 4000000 in
theorem receive_got (B k : Nat) (n : Nd) (m_fr m_seq m_amt : Int) (w : World) (hs : SmL n.peers) (hr : 0 ≤ n.has ∧ n.has ≤ 10000000000000) (st : Star (blk B [J Z n.id, J Z n.has, J Z n.spent, J Z n.earned, V n.sa n.seen.length n.sc, V n.pa n.peers.length n.pc] :: orow 4 prCells n.pa n.pc n.peers :: endsL n.peers) w) (hk : k < n.peers.length) (hf : fi (n.peers.map Pr.id) m_fr = some k) (hq : ¬ 10000000000000 < n.has + rcvX n.peers[k].E ⟨m_seq, m_amt⟩) :
  Calls Try.prog 44 #[.pointer (some ⟨B, 0, none⟩), J Z m_fr, .agg #[J Z m_seq, J Z m_amt]] w fun e w' => MsgEnd B n (takeM n.d ⟨m_fr, n.id, 1, m_seq, m_amt⟩) w e w' := by
 have HM : Hid (takeM n.d ⟨m_fr, n.id, 1, m_seq, m_amt⟩ = ((⟨n.id, n.has + (rcvX n.peers[k].E ⟨m_seq, m_amt⟩), n.spent, n.earned, n.seen, (n.peers.map Pr.d).set k ⟨n.peers[k].id, rcvE n.peers[k].E ⟨m_seq, m_amt⟩⟩⟩ : NdD), [(⟨n.id, m_fr, 2, rcvY n.peers[k].E ⟨m_seq, m_amt⟩, 0⟩ : Mg)], 0)) := hide (by
  unfold takeM
  rw [show n.d.peers.map PD.id = n.peers.map Pr.id from ids_p _, hf]
  simp only [Nd.d, List.getElem?_map, List.getElem?_eq_getElem hk, Option.map_some, Pr.d]
  have hq2 : (10000000000000 < n.has + rcvX n.peers[k].E ⟨m_seq, m_amt⟩) = False := eq_false (by omega)
  simp [hq2])
 obtain ⟨hs1, hs2⟩ := hs
 obtain ⟨r1, r2⟩ := hr
 have HF : Hid _ := hide hf
 have hP0 := ((Pool.of st).cast (S' := [[blk B [J Z n.id, J Z n.has, J Z n.spent, J Z n.earned, V n.sa n.seen.length n.sc, V n.pa n.peers.length n.pc]], [orow 4 prCells n.pa n.pc n.peers], endsL n.peers, [], [], [], []]) (by simp)).newBlk (i := 3) rfl [J Z m_seq, J Z m_amt] 61
 have HP : Hid _ := hide hP0
 have hpa : n.pa = some ⟨gOf n.pa, 0, none⟩ := own_off (hP0.orowAt (i := 1) rfl) hk
 obtain ⟨G, hG⟩ : ∃ G, G = gOf n.pa := ⟨_, rfl⟩
 rw [← hG] at hpa
 have HG : Hid (G = gOf n.pa) := hide hG
 have HPA : Hid (n.pa = some ⟨G, 0, none⟩) := hide hpa
 clear hG hpa hP0 hf st
 go_enter Try.func44, Try.ntmps44
 go_wp2_with fail
 refine (endTo_any B _ _ _ _ _ n.pa n.peers n.pc m_fr _ (HP.out.blkAt (i := 0) rfl) hs1 (HP.out.orowAt (i := 1) rfl).rows).mono ?_
 rw [HPA.out, endPtr_hit HF.out]
 rintro e w1 ⟨rfl, hb1⟩
 have HP1 : Hid (Pool (fps (blk B [J Z n.id, J Z n.has, J Z n.spent, J Z n.earned, V n.sa n.seen.length n.sc, V n.pa n.peers.length n.pc] :: orow 4 prCells n.pa n.pc n.peers :: endsL n.peers)) w [[blk B [J Z n.id, J Z n.has, J Z n.spent, J Z n.earned, V n.sa n.seen.length n.sc, V n.pa n.peers.length n.pc]], [orow 4 prCells n.pa n.pc n.peers], endsL n.peers, [blk w.heap.size [J Z m_seq, J Z m_amt]], [], [], []] w1) := hide (HP.out.keep hb1)
 clear hb1 HP
 have ez : 0 + k * 4 + 1 = k * 4 + 1 := by omega
 rw [ez]
 clear ez
 obtain ⟨xb1, xb2⟩ := rcvX_bd n.peers[k].E ⟨m_seq, m_amt⟩
 have wx : IntKind.i64.wrap (n.has + (rcvX n.peers[k].E ⟨m_seq, m_amt⟩)) = n.has + (rcvX n.peers[k].E ⟨m_seq, m_amt⟩) := wrap_in (by omega) (by omega)
 go_wp2_with fail
 rename_i K5 hK5
 refine wp_region_inv (by kernel_rfl) (fun L act x => ∃ l0 l1 l2 l3 l4 l5 l6 l7 l8 l9 l10 l11 l12 : Bool, ∃ u9 u10 u11 u17 u18 u19 u20 u21 u22 u23 u24 u25 : Value, L = #[l0, l1, l2, l3, l4, l5, l6, l7, l8, l9, l10, l11, l12] ∧ act = { tmps := #[Value.pointer (some { block := B, off := 0 }), J Z m_fr, Value.agg #[J Z m_seq, J Z m_amt], U, U, Value.pointer (some { block := w.heap.size, off := 0 }), V none 0 0, J Z 0, Value.pointer (some { block := G, off := k * 4 + 1 }), u9, u10, u11, Value.pointer (some { block := B, off := 0 }), J Z m_fr, Value.pointer (some { block := G, off := k * 4 + 1 }), Value.pointer (some { block := G, off := k * 4 + 1 }), Value.bool false, u17, u18, u19, u20, u21, u22, u23, u24, u25, U, U, U, U, U, U, U, U, U, U, U, U, U, U, U, U, U, U, U, U, U, U, U, U, U, U], defers := [] } ∧ RvG B k G n w hk m_fr m_seq m_amt l0 l1 l2 l3 l4 l5 l6 l7 l8 l9 l10 l11 l12 u9 u10 u11 u17 u18 u19 u20 u21 u22 u23 u24 u25 x) ?_ ?_ ?_
 rotate_left 2
 ·exact ⟨false, false, false, false, false, false, false, false, false, false, false, false, false, U, U, U, U, U, U, U, U, U, U, U, U, rfl, rfl, ⟨HP1.out.drew, nofun, nofun, nofun, nofun, nofun, nofun, nofun, nofun, nofun, nofun, nofun, nofun, nofun, nofun, nofun, nofun, nofun, nofun⟩⟩
 ·rintro L act x i ⟨l0, l1, l2, l3, l4, l5, l6, l7, l8, l9, l10, l11, l12, u9, u10, u11, u17, u18, u19, u20, u21, u22, u23, u24, u25, rfl, rfl, h⟩ hi K hK
  have hi15 : i < 13 := by
   obtain ⟨_, o, ho, _⟩ := mem_ready.1 hi
   exact (Array.getElem?_eq_some_iff.1 ho).1
  have hl := (mem_ready.1 hi).1
  obtain rfl | rfl | rfl | rfl | rfl | rfl | rfl | rfl | rfl | rfl | rfl | rfl | rfl := (by omega : i = 0 ∨ i = 1 ∨ i = 2 ∨ i = 3 ∨ i = 4 ∨ i = 5 ∨ i = 6 ∨ i = 7 ∨ i = 8 ∨ i = 9 ∨ i = 10 ∨ i = 11 ∨ i = 12)
  ·have e : l0 = false := hl
   subst e
   refine wpOp_run (v := .pointer (some ⟨G, k * 4 + 1, none⟩)) (w' := x) (by rfl) (by rfl) ?_ (hK _ _ ⟨true, l1, l2, l3, l4, l5, l6, l7, l8, l9, l10, l11, l12, u9, u10, u11, u17, (.pointer (some ⟨G, k * 4 + 1, none⟩)), u19, u20, u21, u22, u23, u24, u25, rfl, rfl, { h with p18 := fun _ => rfl }⟩)
   go_simp
  ·have e : l1 = false := hl
   subst e
   have d0 : l0 = true := ready_on hi 0 (by kernel_rfl)
   subst d0
   refine wpOp_run (v := .pointer (some ⟨G, k * 4 + 1, none⟩)) (w' := x) (by rfl) (by rfl) ?_ (hK _ _ ⟨true, true, l2, l3, l4, l5, l6, l7, l8, l9, l10, l11, l12, u9, u10, u11, u17, u18, (.pointer (some ⟨G, k * 4 + 1, none⟩)), u20, u21, u22, u23, u24, u25, rfl, rfl, { h with p19 := fun _ => rfl }⟩)
   rw [h.p18 rfl]
   go_simp
  ·have e : l2 = false := hl
   subst e
   have d1 : l1 = true := ready_on hi 1 (by kernel_rfl)
   subst d1
   obtain ⟨c0_, c1_, c2_, c3_⟩ := peer_at (HG.out ▸ h.pool.orowAt (i := 1) rfl) hk
   refine wpOp_run (v := .agg #[V n.peers[k].a n.peers[k].E.out.length n.peers[k].cap, J Z n.peers[k].E.sent, J Z n.peers[k].E.got]) (w' := x) (by rfl) (by rfl) ?_ (hK _ _ ⟨l0, true, true, l3, l4, l5, l6, l7, l8, l9, l10, l11, l12, u9, u10, u11, u17, u18, u19, (.agg #[V n.peers[k].a n.peers[k].E.out.length n.peers[k].cap, J Z n.peers[k].E.sent, J Z n.peers[k].E.got]), u21, u22, u23, u24, u25, rfl, rfl, { h with p20 := fun _ => rfl }⟩)
   rw [h.p19 rfl]
   go_simp
  ·have e : l3 = false := hl
   subst e
   have c0_ : x.cell? ⟨w.heap.size, 0, none⟩ = some (J Z m_seq) := (h.pool.blkAt (i := 3) rfl).c 0 _ rfl
   have c1_ : x.cell? ⟨w.heap.size, 1, none⟩ = some (J Z m_amt) := (h.pool.blkAt (i := 3) rfl).c 1 _ rfl
   refine wpOp_run (v := .agg #[J Z m_seq, J Z m_amt]) (w' := x) (by rfl) (by rfl) ?_ (hK _ _ ⟨l0, l1, l2, true, l4, l5, l6, l7, l8, l9, l10, l11, l12, u9, u10, u11, u17, u18, u19, u20, (.agg #[J Z m_seq, J Z m_amt]), u22, u23, u24, u25, rfl, rfl, { h with p21 := fun _ => rfl }⟩)
   go_simp
  ·have e : l4 = false := hl
   subst e
   have d2 : l2 = true := ready_on hi 2 (by kernel_rfl)
   subst d2
   have d3 : l3 = true := ready_on hi 3 (by kernel_rfl)
   subst d3
   have z5 : l5 = false := by
    cases hz : l5
    ·rfl
    ·exact absurd (h.d5_4 hz) (by simp)
   subst z5
   have z6 : l6 = false := by
    cases hz : l6
    ·rfl
    ·exact absurd (h.d6_4 hz) (by simp)
   subst z6
   have z10 : l10 = false := by
    cases hz : l10
    ·rfl
    ·exact absurd (h.d10_4 hz) (by simp)
   subst z10
   refine wpOp_call (by rfl) (by rfl) ?_ (implReceived_pool n.peers[k].a n.peers[k].E.out n.peers[k].cap n.peers[k].E.sent n.peers[k].E.got m_seq m_amt x (hs2 _ (List.getElem_mem hk)) (h.pool.endAt (i := 2) rfl hk).rows) ?_
   ·rw [h.p20 rfl, h.p21 rfl]; go_simp
   ·rintro e w' ⟨a5, c5, rfl, hb5, st5, hi5⟩
    exact ⟨_, rfl, hK _ _ ⟨l0, l1, true, true, true, false, false, l7, l8, l9, false, l11, l12, u9, u10, u11, u17, u18, u19, u20, u21, (.tuple #[.agg #[V a5 (rcvE n.peers[k].E ⟨m_seq, m_amt⟩).out.length c5, J Z (rcvE n.peers[k].E ⟨m_seq, m_amt⟩).sent, J Z (rcvE n.peers[k].E ⟨m_seq, m_amt⟩).got], J Z (rcvX n.peers[k].E ⟨m_seq, m_amt⟩), J Z (rcvY n.peers[k].E ⟨m_seq, m_amt⟩)]), u23, u24, u25, rfl, rfl, { h with q22 := (fun _ => rfl), q17 := (fun q => by cases q), q23 := (fun q => by cases q), pool := (h.pool.new (i := 4) rfl hb5 st5 hi5), d5_4 := fun _ => rfl, d6_4 := fun _ => rfl, d10_4 := fun _ => rfl }⟩⟩
  ·have e : l5 = false := hl
   subst e
   have d4 : l4 = true := ready_on hi 4 (by kernel_rfl)
   subst d4
   have z6 : l6 = false := by
    cases hz : l6
    ·rfl
    ·exact absurd (h.d6_5 hz) (by simp)
   subst z6
   refine wpOp_run (v := .tuple #[.agg #[V (slA u22) (rcvE n.peers[k].E ⟨m_seq, m_amt⟩).out.length (slC u22), J Z (rcvE n.peers[k].E ⟨m_seq, m_amt⟩).sent, J Z (rcvE n.peers[k].E ⟨m_seq, m_amt⟩).got], J Z (rcvX n.peers[k].E ⟨m_seq, m_amt⟩), J Z (rcvY n.peers[k].E ⟨m_seq, m_amt⟩)]) (w' := x) (by rfl) (by rfl) ?_ (hK _ _ ⟨l0, l1, l2, l3, true, true, false, l7, l8, l9, l10, l11, l12, u9, u10, u11, (.tuple #[.agg #[V (slA u22) (rcvE n.peers[k].E ⟨m_seq, m_amt⟩).out.length (slC u22), J Z (rcvE n.peers[k].E ⟨m_seq, m_amt⟩).sent, J Z (rcvE n.peers[k].E ⟨m_seq, m_amt⟩).got], J Z (rcvX n.peers[k].E ⟨m_seq, m_amt⟩), J Z (rcvY n.peers[k].E ⟨m_seq, m_amt⟩)]), u18, u19, u20, u21, u22, u23, u24, u25, rfl, rfl, { h with q17 := (fun _ => rfl), d5_4 := fun _ => rfl, d6_5 := fun _ => rfl }⟩)
   rw [← h.q22 rfl]
   go_simp
  ·have e : l6 = false := hl
   subst e
   have d5 : l5 = true := ready_on hi 5 (by kernel_rfl)
   subst d5
   have z10 : l10 = false := by
    cases hz : l10
    ·rfl
    ·exact absurd (h.d10_6 hz) (by simp)
   subst z10
   refine wpOp_run (v := .agg #[V (slA u22) (rcvE n.peers[k].E ⟨m_seq, m_amt⟩).out.length (slC u22), J Z (rcvE n.peers[k].E ⟨m_seq, m_amt⟩).sent, J Z (rcvE n.peers[k].E ⟨m_seq, m_amt⟩).got]) (w' := x) (by rfl) (by rfl) ?_ (hK _ _ ⟨l0, l1, l2, l3, l4, true, true, l7, l8, l9, false, l11, l12, u9, u10, u11, u17, u18, u19, u20, u21, u22, (.agg #[V (slA u22) (rcvE n.peers[k].E ⟨m_seq, m_amt⟩).out.length (slC u22), J Z (rcvE n.peers[k].E ⟨m_seq, m_amt⟩).sent, J Z (rcvE n.peers[k].E ⟨m_seq, m_amt⟩).got]), u24, u25, rfl, rfl, { h with q23 := (fun _ => rfl), d6_4 := fun _ => h.d5_4 rfl, d6_5 := fun _ => rfl, d10_6 := fun _ => rfl }⟩)
   rw [h.q17 rfl]
   go_simp
  ·have e : l7 = false := hl
   subst e
   have d5 : l5 = true := ready_on hi 5 (by kernel_rfl)
   subst d5
   refine wpOp_run (v := J Z (rcvX n.peers[k].E ⟨m_seq, m_amt⟩)) (w' := x) (by rfl) (by rfl) ?_ (hK _ _ ⟨l0, l1, l2, l3, l4, true, l6, true, l8, l9, l10, l11, l12, u9, u10, u11, u17, u18, u19, u20, u21, u22, u23, (J Z (rcvX n.peers[k].E ⟨m_seq, m_amt⟩)), u25, rfl, rfl, { h with q24 := (fun _ => rfl) }⟩)
   rw [h.q17 rfl]
   go_simp
  ·have e : l8 = false := hl
   subst e
   have d5 : l5 = true := ready_on hi 5 (by kernel_rfl)
   subst d5
   refine wpOp_run (v := J Z (rcvY n.peers[k].E ⟨m_seq, m_amt⟩)) (w' := x) (by rfl) (by rfl) ?_ (hK _ _ ⟨l0, l1, l2, l3, l4, true, l6, l7, true, l9, l10, l11, l12, u9, u10, u11, u17, u18, u19, u20, u21, u22, u23, u24, (J Z (rcvY n.peers[k].E ⟨m_seq, m_amt⟩)), rfl, rfl, { h with q25 := (fun _ => rfl) }⟩)
   rw [h.q17 rfl]
   go_simp
  ·have e : l9 = false := hl
   subst e
   have z10 : l10 = false := by
    cases hz : l10
    ·rfl
    ·exact absurd (h.d10_9 hz) (by simp)
   subst z10
   refine wpOp_run (v := .pointer (some ⟨x.heap.size, 0, none⟩)) (w' := x.alloc (.cells #[V none 0 0, J Z 0, J Z 0] 39)) (by rfl) (by rfl) ?_ (hK _ _ ⟨l0, l1, l2, l3, l4, l5, l6, l7, l8, true, false, l11, l12, (.pointer (some ⟨x.heap.size, 0, none⟩)), u10, u11, u17, u18, u19, u20, u21, u22, u23, u24, u25, rfl, rfl, { h with a9 := (fun _ => rfl), pool := (h.pool.newBlk (i := 5) rfl [V none 0 0, J Z 0, J Z 0] 39), d10_9 := fun _ => rfl }⟩)
   go_simp
  ·have e : l10 = false := hl
   subst e
   have d0 : l0 = true := ready_on hi 0 (by kernel_rfl)
   subst d0
   have d1 : l1 = true := ready_on hi 1 (by kernel_rfl)
   subst d1
   have d2 : l2 = true := ready_on hi 2 (by kernel_rfl)
   subst d2
   have d3 : l3 = true := ready_on hi 3 (by kernel_rfl)
   subst d3
   have d4 : l4 = true := ready_on hi 4 (by kernel_rfl)
   subst d4
   have d5 : l5 = true := ready_on hi 5 (by kernel_rfl)
   subst d5
   have d6 : l6 = true := ready_on hi 6 (by kernel_rfl)
   subst d6
   have d9 : l9 = true := ready_on hi 9 (by kernel_rfl)
   subst d9
   refine wpOp_skip (w' := (((x.setCell ⟨ptB u9, 0, none⟩ (V (slA u22) (rcvE n.peers[k].E ⟨m_seq, m_amt⟩).out.length (slC u22))).setCell ⟨ptB u9, 1, none⟩ (J Z (rcvE n.peers[k].E ⟨m_seq, m_amt⟩).sent)).setCell ⟨ptB u9, 2, none⟩ (J Z (rcvE n.peers[k].E ⟨m_seq, m_amt⟩).got))) (by rfl) (by rfl) ?_ (hK _ _ ⟨true, true, true, true, true, true, true, l7, l8, true, true, l11, l12, u9, u10, u11, u17, u18, u19, u20, u21, u22, u23, u24, u25, rfl, rfl, { h with pool := ((((h.pool.setBlk (i := 5) rfl 0 (V (slA u22) (rcvE n.peers[k].E ⟨m_seq, m_amt⟩).out.length (slC u22)) (by simp)).setBlk (i := 5) rfl 1 (J Z (rcvE n.peers[k].E ⟨m_seq, m_amt⟩).sent) (by simp)).setBlk (i := 5) rfl 2 (J Z (rcvE n.peers[k].E ⟨m_seq, m_amt⟩).got) (by simp))), d10_4 := fun _ => rfl, d10_9 := fun _ => rfl, d10_6 := fun _ => rfl }⟩)
   have A := h.pool.blkAt (i := 5) rfl
   have t0 := A.c 0 _ rfl
   have f0 := A.f 0
   have t1 := A.c 1 _ rfl
   have f1 := A.f 1
   have t2 := A.c 2 _ rfl
   have f2 := A.f 2
   obtain ⟨P8, hP8⟩ : ∃ P8, P8 = ptB u9 := ⟨_, rfl⟩
   have e8 := h.a9 rfl
   rw [h.q23 rfl]
   rw [← hP8] at t0 t1 t2 f0 f1 f2 e8 ⊢
   rw [e8]
   clear e8 hP8 A h
   go_simp
  ·have e : l11 = false := hl
   subst e
   have d0 : l0 = true := ready_on hi 0 (by kernel_rfl)
   subst d0
   have d1 : l1 = true := ready_on hi 1 (by kernel_rfl)
   subst d1
   have d2 : l2 = true := ready_on hi 2 (by kernel_rfl)
   subst d2
   have d3 : l3 = true := ready_on hi 3 (by kernel_rfl)
   subst d3
   have d4 : l4 = true := ready_on hi 4 (by kernel_rfl)
   subst d4
   have d5 : l5 = true := ready_on hi 5 (by kernel_rfl)
   subst d5
   have d6 : l6 = true := ready_on hi 6 (by kernel_rfl)
   subst d6
   have d7 : l7 = true := ready_on hi 7 (by kernel_rfl)
   subst d7
   have d9 : l9 = true := ready_on hi 9 (by kernel_rfl)
   subst d9
   have d10 : l10 = true := ready_on hi 10 (by kernel_rfl)
   subst d10
   refine wpOp_run (v := J Z (rcvX n.peers[k].E ⟨m_seq, m_amt⟩)) (w' := x) (by rfl) (by rfl) ?_ (hK _ _ ⟨true, true, true, true, true, true, true, true, l8, true, true, true, l12, u9, (J Z (rcvX n.peers[k].E ⟨m_seq, m_amt⟩)), u11, u17, u18, u19, u20, u21, u22, u23, u24, u25, rfl, rfl, { h with q10 := (fun _ => rfl) }⟩)
   rw [h.q24 rfl]
   go_simp
  ·have e : l12 = false := hl
   subst e
   have d0 : l0 = true := ready_on hi 0 (by kernel_rfl)
   subst d0
   have d1 : l1 = true := ready_on hi 1 (by kernel_rfl)
   subst d1
   have d2 : l2 = true := ready_on hi 2 (by kernel_rfl)
   subst d2
   have d3 : l3 = true := ready_on hi 3 (by kernel_rfl)
   subst d3
   have d4 : l4 = true := ready_on hi 4 (by kernel_rfl)
   subst d4
   have d5 : l5 = true := ready_on hi 5 (by kernel_rfl)
   subst d5
   have d6 : l6 = true := ready_on hi 6 (by kernel_rfl)
   subst d6
   have d7 : l7 = true := ready_on hi 7 (by kernel_rfl)
   subst d7
   have d8 : l8 = true := ready_on hi 8 (by kernel_rfl)
   subst d8
   have d9 : l9 = true := ready_on hi 9 (by kernel_rfl)
   subst d9
   have d10 : l10 = true := ready_on hi 10 (by kernel_rfl)
   subst d10
   have d11 : l11 = true := ready_on hi 11 (by kernel_rfl)
   subst d11
   refine wpOp_run (v := J Z (rcvY n.peers[k].E ⟨m_seq, m_amt⟩)) (w' := x) (by rfl) (by rfl) ?_ (hK _ _ ⟨true, true, true, true, true, true, true, true, true, true, true, true, true, u9, u10, (J Z (rcvY n.peers[k].E ⟨m_seq, m_amt⟩)), u17, u18, u19, u20, u21, u22, u23, u24, u25, rfl, rfl, { h with q11 := (fun _ => rfl) }⟩)
   rw [h.q25 rfl]
   go_simp
 ·rintro L act x ⟨l0, l1, l2, l3, l4, l5, l6, l7, l8, l9, l10, l11, l12, u9, u10, u11, u17, u18, u19, u20, u21, u22, u23, u24, u25, rfl, rfl, h⟩ hr
  have hall := ready_all hr rfl (by decide)
  have t0 : l0 = true := hall 0 (by decide)
  have t1 : l1 = true := hall 1 (by decide)
  have t2 : l2 = true := hall 2 (by decide)
  have t3 : l3 = true := hall 3 (by decide)
  have t4 : l4 = true := hall 4 (by decide)
  have t5 : l5 = true := hall 5 (by decide)
  have t6 : l6 = true := hall 6 (by decide)
  have t7 : l7 = true := hall 7 (by decide)
  have t8 : l8 = true := hall 8 (by decide)
  have t9 : l9 = true := hall 9 (by decide)
  have t10 : l10 = true := hall 10 (by decide)
  have t11 : l11 = true := hall 11 (by decide)
  have t12 : l12 = true := hall 12 (by decide)
  subst t0 t1 t2 t3 t4 t5 t6 t7 t8 t9 t10 t11 t12
  clear hall hr
  have e8 := h.a9 rfl
  have e9 := h.q10 rfl
  have e10 := h.q11 rfl
  obtain ⟨a5, c5, ha5⟩ : ∃ a c, a = slA u22 ∧ c = slC u22 := ⟨_, _, rfl, rfl⟩
  obtain ⟨P8, hP8⟩ : ∃ P8, P8 = ptB u9 := ⟨_, rfl⟩
  have HP5 : Hid (Pool (fps (blk B [J Z n.id, J Z n.has, J Z n.spent, J Z n.earned, V n.sa n.seen.length n.sc, V n.pa n.peers.length n.pc] :: orow 4 prCells n.pa n.pc n.peers :: endsL n.peers)) w [[blk B [J Z n.id, J Z n.has, J Z n.spent, J Z n.earned, V n.sa n.seen.length n.sc, V n.pa n.peers.length n.pc]], [orow 4 prCells n.pa n.pc n.peers], endsL n.peers, [blk w.heap.size [J Z m_seq, J Z m_amt]], [orow 2 prcCells a5 c5 (rcvE n.peers[k].E ⟨m_seq, m_amt⟩).out], [blk P8 [V a5 (rcvE n.peers[k].E ⟨m_seq, m_amt⟩).out.length c5, J Z (rcvE n.peers[k].E ⟨m_seq, m_amt⟩).sent, J Z (rcvE n.peers[k].E ⟨m_seq, m_amt⟩).got]], []] x) := hide (by rw [ha5.1, ha5.2, hP8]; exact h.pool)
  rw [← hP8] at e8
  clear h ha5 hP8
  subst e8 e9 e10
  refine hK5 _ _ ?_
  clear hK5
  have v1 : x.cell? ⟨B, 1, none⟩ = some (J Z n.has) := (HP5.out.blkAt (i := 0) rfl).c 1 _ rfl
  have b0 : x.cell? ⟨P8, 0, none⟩ = some (V a5 (rcvE n.peers[k].E ⟨m_seq, m_amt⟩).out.length c5) := (HP5.out.blkAt (i := 5) rfl).c 0 _ rfl
  have b1 : x.cell? ⟨P8, 1, none⟩ = some (J Z (rcvE n.peers[k].E ⟨m_seq, m_amt⟩).sent) := (HP5.out.blkAt (i := 5) rfl).c 1 _ rfl
  have b2 : x.cell? ⟨P8, 2, none⟩ = some (J Z (rcvE n.peers[k].E ⟨m_seq, m_amt⟩).got) := (HP5.out.blkAt (i := 5) rfl).c 2 _ rfl
  obtain ⟨p0, p1, p2, p3⟩ := peer_at (HG.out ▸ HP5.out.orowAt (i := 1) rfl) hk
  have fz : ∀ j, x.frozen? ⟨G, j, none⟩ = false := by rw [HG.out]; exact ((HP5.out.orowAt (i := 1) rfl).own (by omega)).2
  have y1 := fz (k * 4 + 1)
  have y2 : x.frozen? ⟨G, k * 4 + 1 + 1, none⟩ = false := fz _
  have y3 : x.frozen? ⟨G, k * 4 + 1 + 2, none⟩ = false := fz _
  have p2 : x.cell? ⟨G, k * 4 + 1 + 1, none⟩ = _ := p2
  have p3 : x.cell? ⟨G, k * 4 + 1 + 2, none⟩ = _ := p3
  have HP6 := HP5.out.setPeer (i := 1) rfl hk (⟨n.peers[k].id, a5, c5, rcvE n.peers[k].E ⟨m_seq, m_amt⟩⟩ : Pr) rfl HG.out.symm
  have HP7 := HP6.setEnds (i := 2) (j := 4) (p := (⟨n.peers[k].id, a5, c5, rcvE n.peers[k].E ⟨m_seq, m_amt⟩⟩ : Pr)) hk (by decide) rfl rfl
  have u1 : (((x.setCell ⟨G, k * 4 + 1, none⟩ (V a5 (rcvE n.peers[k].E ⟨m_seq, m_amt⟩).out.length c5)).setCell ⟨G, k * 4 + 2, none⟩ (J Z (rcvE n.peers[k].E ⟨m_seq, m_amt⟩).sent)).setCell ⟨G, k * 4 + 3, none⟩ (J Z (rcvE n.peers[k].E ⟨m_seq, m_amt⟩).got)).cell? ⟨B, 1, none⟩ = some (J Z n.has) := (HP7.blkAt (i := 0) rfl).c 1 _ rfl
  have u2 : (((x.setCell ⟨G, k * 4 + 1, none⟩ (V a5 (rcvE n.peers[k].E ⟨m_seq, m_amt⟩).out.length c5)).setCell ⟨G, k * 4 + 2, none⟩ (J Z (rcvE n.peers[k].E ⟨m_seq, m_amt⟩).sent)).setCell ⟨G, k * 4 + 3, none⟩ (J Z (rcvE n.peers[k].E ⟨m_seq, m_amt⟩).got)).frozen? ⟨B, 1, none⟩ = false := (HP7.blkAt (i := 0) rfl).f 1
  have HP8 := HP7.setBlk (i := 0) rfl 1 (J Z (n.has + (rcvX n.peers[k].E ⟨m_seq, m_amt⟩))) (by simp)
  have u3 : ((((x.setCell ⟨G, k * 4 + 1, none⟩ (V a5 (rcvE n.peers[k].E ⟨m_seq, m_amt⟩).out.length c5)).setCell ⟨G, k * 4 + 2, none⟩ (J Z (rcvE n.peers[k].E ⟨m_seq, m_amt⟩).sent)).setCell ⟨G, k * 4 + 3, none⟩ (J Z (rcvE n.peers[k].E ⟨m_seq, m_amt⟩).got)).setCell ⟨B, 1, none⟩ (J Z (n.has + (rcvX n.peers[k].E ⟨m_seq, m_amt⟩)))).cell? ⟨B, 0, none⟩ = some (J Z n.id) := (HP8.blkAt (i := 0) rfl).c 0 _ rfl
  have HP9 : Hid _ := hide HP8
  clear fz HP6 HP7 HP8
  go_wp2_with fail
  refine (ackMsg_any n.id m_fr (rcvY n.peers[k].E ⟨m_seq, m_amt⟩) _).mono ?_
  rintro e w9 ⟨rfl, hb9⟩
  have HPA_ := (HP9.out.keep hb9).newBlk (i := 6) rfl [J Z n.id, J Z m_fr, J Z 2, J Z (rcvY n.peers[k].E ⟨m_seq, m_amt⟩), J Z 0] 29
  have HPB := HPA_.asMsg (i := 6) (m := (⟨n.id, m_fr, 2, rcvY n.peers[k].E ⟨m_seq, m_amt⟩, 0⟩ : Mg)) rfl
  have HPC : Hid _ := hide HPB
  clear HPA_ HPB HP9 hb9 u1 u2 u3
  go_wp2
  exact bodyPost_ret (v := .tuple #[V (some ⟨w9.heap.size, 0, none⟩) 1 1, J Z 0]) (by simp [results, Try.results44, go_sem]) rfl ⟨some ⟨w9.heap.size, 0, none⟩, 1, (by rw [HM.out] <;> rfl), (by
   rw [HM.out]
   refine ⟨n.peers.set k (⟨n.peers[k].id, a5, c5, rcvE n.peers[k].E ⟨m_seq, m_amt⟩⟩ : Pr), by simp only [List.map_set, Pr.d], by simp, ?_⟩
   rw [List.length_set]
   exact ((((HPC.out.drop (i := 5) rfl).drop (i := 4) rfl).drop (i := 3) rfl)).cast (by simp))⟩
theorem receive_pool (B : Nat) (n : Nd) (m_fr m_seq m_amt : Int) (w : World) (hs : SmL n.peers) (hr : 0 ≤ n.has ∧ n.has ≤ 10000000000000) (st : Star (blk B [J Z n.id, J Z n.has, J Z n.spent, J Z n.earned, V n.sa n.seen.length n.sc, V n.pa n.peers.length n.pc] :: orow 4 prCells n.pa n.pc n.peers :: endsL n.peers) w) :
  Calls Try.prog 44 #[.pointer (some ⟨B, 0, none⟩), J Z m_fr, .agg #[J Z m_seq, J Z m_amt]] w fun e w' => MsgEnd B n (takeM n.d ⟨m_fr, n.id, 1, m_seq, m_amt⟩) w e w' := by
 have hB : Blk B [J Z n.id, J Z n.has, J Z n.spent, J Z n.earned, V n.sa n.seen.length n.sc, V n.pa n.peers.length n.pc] w := st.all (blk B [J Z n.id, J Z n.has, J Z n.spent, J Z n.earned, V n.sa n.seen.length n.sc, V n.pa n.peers.length n.pc]) (by simp)
 have hP : OwnRow 4 prCells w (gOf n.pa) n.pa n.pc n.peers := st.all (orow 4 prCells n.pa n.pc n.peers) (by simp)
 cases hf : fi (n.peers.map Pr.id) m_fr with
 | none =>
  refine (rcv_none B _ _ _ _ _ n.pa n.peers n.pc m_fr m_seq m_amt w hB hs.1 hP.rows hf).mono ?_
  rintro e w1 ⟨rfl, hb⟩
  have HM : takeM n.d ⟨m_fr, n.id, 1, m_seq, m_amt⟩ = (n.d, [], 3) := by
   unfold takeM
   rw [show n.d.peers.map PD.id = n.peers.map Pr.id from ids_p _, hf]
  rw [HM]
  exact ⟨none, 0, rfl, nd_same st hb⟩
 | some k =>
  obtain ⟨hk', _⟩ := fi_some hf
  have hk : k < n.peers.length := by simpa using hk'
  by_cases hq : 10000000000000 < n.has + rcvX n.peers[k].E ⟨m_seq, m_amt⟩
  ·exact receive_range B k n m_fr m_seq m_amt w hs hr st hk hf hq
  ·exact receive_got B k n m_fr m_seq m_amt w hs hr st hk hf hq
theorem ack_pool (B : Nat) (n : Nd) (m_fr m_seq : Int) (w : World) (hs : SmL n.peers) (st : Star (blk B [J Z n.id, J Z n.has, J Z n.spent, J Z n.earned, V n.sa n.seen.length n.sc, V n.pa n.peers.length n.pc] :: orow 4 prCells n.pa n.pc n.peers :: endsL n.peers) w) :
  Calls Try.prog 45 #[.pointer (some ⟨B, 0, none⟩), J Z m_fr, J Z m_seq] w fun e w' => CodeP B n (takeM n.d ⟨m_fr, n.id, 2, m_seq, 0⟩) w e w' := by
 have hB : Blk B [J Z n.id, J Z n.has, J Z n.spent, J Z n.earned, V n.sa n.seen.length n.sc, V n.pa n.peers.length n.pc] w := st.all (blk B [J Z n.id, J Z n.has, J Z n.spent, J Z n.earned, V n.sa n.seen.length n.sc, V n.pa n.peers.length n.pc]) (by simp)
 have hP : OwnRow 4 prCells w (gOf n.pa) n.pa n.pc n.peers := st.all (orow 4 prCells n.pa n.pc n.peers) (by simp)
 cases hf : fi (n.peers.map Pr.id) m_fr with
 | none =>
  refine (ack_none B _ _ _ _ _ n.pa n.peers n.pc m_fr m_seq w hB hs.1 hP.rows hf).mono ?_
  rintro e w1 ⟨rfl, hb⟩
  have HM : takeM n.d ⟨m_fr, n.id, 2, m_seq, 0⟩ = (n.d, [], 3) := by
   unfold takeM
   rw [show n.d.peers.map PD.id = n.peers.map Pr.id from ids_p _, hf]
  rw [HM]
  exact ⟨rfl, rfl, nd_same st hb⟩
 | some k =>
  obtain ⟨hk', _⟩ := fi_some hf
  have hk : k < n.peers.length := by simpa using hk'
  have hE : OwnRow 2 prcCells w (gOf n.peers[k].a) n.peers[k].a n.peers[k].cap n.peers[k].E.out := st.all (orow 2 prcCells n.peers[k].a n.peers[k].cap n.peers[k].E.out) (by simp only [endsL, List.mem_cons, List.mem_map]; exact .inr (.inr ⟨_, List.getElem_mem hk, rfl⟩))
  have hpa := own_off hP hk
  have HM : takeM n.d ⟨m_fr, n.id, 2, m_seq, 0⟩ = if ackOk n.peers[k].E m_seq then ((⟨n.id, n.has, n.spent, n.earned, n.seen, (n.peers.map Pr.d).set k ⟨n.peers[k].id, ackE n.peers[k].E m_seq⟩⟩ : NdD), [], 0) else (n.d, [], 2) := by
   unfold takeM
   rw [show n.d.peers.map PD.id = n.peers.map Pr.id from ids_p _, hf]
   simp only [Nd.d, List.getElem?_map, List.getElem?_eq_getElem hk, Option.map_some, Pr.d]
   simp
  rw [HM]
  have hB2 : Blk B [J Z n.id, J Z n.has, J Z n.spent, J Z n.earned, V n.sa n.seen.length n.sc, V (some ⟨gOf n.pa, 0, none⟩) n.peers.length n.pc] w := by rw [← hpa]; exact hB
  refine (ack_some B (gOf n.pa) 0 k _ _ _ _ _ n.peers n.pc m_fr m_seq w hB2 hs.1 (hpa ▸ hP.rows) (hP.own (by omega)).2 hk hf (hs.2 _ (List.getElem_mem hk)) hE.rows).mono ?_
  rintro e w1 ⟨h0, h1⟩
  cases hq : ackOk n.peers[k].E m_seq
  ·obtain ⟨rfl, hb⟩ := h0 hq
   rw [if_neg (by simp)]
   exact ⟨rfl, rfl, nd_same st hb⟩
  ·obtain ⟨rfl, w2, v, ob, hb, hn, rfl⟩ := h1 hq
   rw [if_pos rfl]
   obtain ⟨a5, c5, rfl, st5, hi5⟩ := hn.star
   have p0 := ((Pool.of st).cast (S' := [[blk B [J Z n.id, J Z n.has, J Z n.spent, J Z n.earned, V n.sa n.seen.length n.sc, V n.pa n.peers.length n.pc]], [orow 4 prCells n.pa n.pc n.peers], endsL n.peers, [], []]) (by simp)).new (i := 3) rfl hb st5 hi5
   have p1 := p0.setPeer (i := 1) rfl hk (⟨n.peers[k].id, a5, c5, ackE n.peers[k].E m_seq⟩ : Pr) rfl rfl
   have p2 := (p1.setEnds (i := 2) (j := 3) (p := (⟨n.peers[k].id, a5, c5, ackE n.peers[k].E m_seq⟩ : Pr)) hk (by decide) rfl rfl).alloc ob
   have ez : 0 + k * 4 = k * 4 := by omega
   refine ⟨rfl, rfl, n.peers.set k ⟨n.peers[k].id, a5, c5, ackE n.peers[k].E m_seq⟩, by simp only [List.map_set, Pr.d], by simp, ?_⟩
   rw [List.length_set, ez]
   exact (p2.noMsg (i := 4) rfl).cast (by simp)
theorem give_pool (B : Nat) (n : Nd) (to amt : Int) (w : World) (hs : SmL n.peers) (hr : 0 ≤ n.has ∧ n.has ≤ 10000000000000) (ha : 1 ≤ amt ∧ amt ≤ 1000000000000) (st : Star (blk B [J Z n.id, J Z n.has, J Z n.spent, J Z n.earned, V n.sa n.seen.length n.sc, V n.pa n.peers.length n.pc] :: orow 4 prCells n.pa n.pc n.peers :: endsL n.peers) w) :
  Calls Try.prog 43 #[.pointer (some ⟨B, 0, none⟩), J Z to, J Z amt] w fun e w' => MsgEnd B n (giveM n.d to amt) w e w' := by
 have hB : Blk B [J Z n.id, J Z n.has, J Z n.spent, J Z n.earned, V n.sa n.seen.length n.sc, V n.pa n.peers.length n.pc] w := st.all (blk B [J Z n.id, J Z n.has, J Z n.spent, J Z n.earned, V n.sa n.seen.length n.sc, V n.pa n.peers.length n.pc]) (by simp)
 have hP : OwnRow 4 prCells w (gOf n.pa) n.pa n.pc n.peers := st.all (orow 4 prCells n.pa n.pc n.peers) (by simp)
 cases hf : fi (n.peers.map Pr.id) to with
 | none =>
  refine (give_none B _ _ _ _ _ n.pa n.peers n.pc to amt w hB hs.1 hP.rows hf).mono ?_
  rintro e w1 ⟨rfl, hb⟩
  have HM : giveM n.d to amt = (n.d, [], 3) := by
   unfold giveM
   rw [show n.d.peers.map PD.id = n.peers.map Pr.id from ids_p _, hf]
  rw [HM]
  exact ⟨none, 0, rfl, nd_same st hb⟩
 | some k =>
  obtain ⟨hk', _⟩ := fi_some hf
  have hk : k < n.peers.length := by simpa using hk'
  have hE : OwnRow 2 prcCells w (gOf n.peers[k].a) n.peers[k].a n.peers[k].cap n.peers[k].E.out := st.all (orow 2 prcCells n.peers[k].a n.peers[k].cap n.peers[k].E.out) (by simp only [endsL, List.mem_cons, List.mem_map]; exact .inr (.inr ⟨_, List.getElem_mem hk, rfl⟩))
  have hpa := own_off hP hk
  have HM : giveM n.d to amt = if n.has < amt then (n.d, [], 4) else if pkOk n.peers[k].E amt then ((⟨n.id, n.has - amt, n.spent, n.earned, n.seen, (n.peers.map Pr.d).set k ⟨n.peers[k].id, pkE n.peers[k].E amt⟩⟩ : NdD), [(⟨n.id, to, 1, (pkP n.peers[k].E amt).seq, (pkP n.peers[k].E amt).amt⟩ : Mg)], 0) else (n.d, [], 5) := by
   unfold giveM
   rw [show n.d.peers.map PD.id = n.peers.map Pr.id from ids_p _, hf]
   simp only [Nd.d, List.getElem?_map, List.getElem?_eq_getElem hk, Option.map_some, Pr.d]
   rfl
  rw [HM]
  have hB2 : Blk B [J Z n.id, J Z n.has, J Z n.spent, J Z n.earned, V n.sa n.seen.length n.sc, V (some ⟨gOf n.pa, 0, none⟩) n.peers.length n.pc] w := by rw [← hpa]; exact hB
  by_cases hq : n.has < amt
  ·rw [if_pos hq]
   refine (give_short B (gOf n.pa) 0 k _ _ _ _ n.has n.peers n.pc to amt w hB2 hs.1 (hpa ▸ hP.rows) hf hq).mono ?_
   rintro e w1 ⟨rfl, hb⟩
   exact ⟨none, 0, rfl, nd_same st hb⟩
  ·rw [if_neg hq]
   cases hpk : pkOk n.peers[k].E amt
   ·rw [if_neg (by simp)]
    refine (give_full B (gOf n.pa) 0 k _ _ _ _ n.has n.peers n.pc to amt w hB2 hs.1 (hpa ▸ hP.rows) hk hf hq (hs.2 _ (List.getElem_mem hk)) hE.rows hpk).mono ?_
    rintro e w1 ⟨rfl, hb⟩
    exact ⟨none, 0, rfl, nd_same st hb⟩
   ·rw [if_pos rfl]
    have hne : B ≠ gOf n.pa := fun e => by
     have := st.apart (a := [blk B [J Z n.id, J Z n.has, J Z n.spent, J Z n.earned, V n.sa n.seen.length n.sc, V n.pa n.peers.length n.pc]]) (b := orow 4 prCells n.pa n.pc n.peers :: endsL n.peers) B (by simp [fps, blk])
     exact this (by rw [fps_cons, orow_fp, if_neg (by omega), e]; simp)
    refine (give_yes B (gOf n.pa) 0 k _ _ _ n.id n.has n.peers n.pc to amt w hB2 hs.1 (hpa ▸ hP.rows) hk hf hq (hs.2 _ (List.getElem_mem hk)) hE.rows hpk hne (hP.own (by omega)).2 hr (by omega)).mono ?_
    rintro e w1 ⟨g, rfl, w2, v, o1, o2, W, hb, hn, hW, hbW, hg, hblk⟩
    obtain ⟨a5, c5, rfl, st5, hi5⟩ := hn.star
    have p0 := ((Pool.of st).cast (S' := [[blk B [J Z n.id, J Z n.has, J Z n.spent, J Z n.earned, V n.sa n.seen.length n.sc, V n.pa n.peers.length n.pc]], [orow 4 prCells n.pa n.pc n.peers], endsL n.peers, [], []]) (by simp)).new (i := 3) rfl hb st5 hi5
    have p1 := p0.setPeer (i := 1) rfl hk (⟨n.peers[k].id, a5, c5, pkE n.peers[k].E amt⟩ : Pr) rfl rfl
    have p2 := p1.setEnds (i := 2) (j := 3) (p := (⟨n.peers[k].id, a5, c5, pkE n.peers[k].E amt⟩ : Pr)) hk (by decide) rfl rfl
    have p3 := ((p2.setBlk (i := 0) rfl 1 (J Z (n.has - amt)) (by simp)).alloc o1).alloc o2
    have ez : 0 + k * 4 = k * 4 := by omega
    rw [ez] at hW
    have p4 : Pool (fps (blk B [J Z n.id, J Z n.has, J Z n.spent, J Z n.earned, V n.sa n.seen.length n.sc, V n.pa n.peers.length n.pc] :: orow 4 prCells n.pa n.pc n.peers :: endsL n.peers)) w [[blk B [J Z n.id, J Z (n.has - amt), J Z n.spent, J Z n.earned, V n.sa n.seen.length n.sc, V n.pa n.peers.length n.pc]], [orow 4 prCells n.pa n.pc (n.peers.set k ⟨n.peers[k].id, a5, c5, pkE n.peers[k].E amt⟩)], endsL (n.peers.set k ⟨n.peers[k].id, a5, c5, pkE n.peers[k].E amt⟩), [], []] W := by
     rw [hW]
     exact p3
    have p5 := p4.new (i := 4) (rs' := [blk g (mgCells ⟨n.id, to, 1, (pkP n.peers[k].E amt).seq, (pkP n.peers[k].E amt).amt⟩)]) rfl hbW (Star.ofBlk hblk) (fun c hc => by
     simp only [fps_one, blk_fp, List.mem_singleton] at hc
     omega)
    have p6 := p5.asMsg (i := 4) rfl
    refine ⟨some ⟨g, 0, none⟩, 1, rfl, n.peers.set k ⟨n.peers[k].id, a5, c5, pkE n.peers[k].E amt⟩, by simp only [List.map_set, Pr.d], by simp, ?_⟩
    rw [List.length_set]
    exact p6.cast (by simp)
end Go.Proofs.Ytkcpoibhlnjldaa
