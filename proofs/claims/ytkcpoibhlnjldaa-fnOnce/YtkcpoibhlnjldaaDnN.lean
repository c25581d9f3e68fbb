/- A drawn node. -/
import Derived.Test.YtkcpoibhlnjldaaDnA
import Derived.Test.YtkcpoibhlnjldaaAcS9
import Derived.Test.YtkcpoibhlnjldaaAcX
import Derived.Test.YtkcpoibhlnjldaaAcY
import Derived.Test.YtkcpoibhlnjldaaRd5
namespace Go.Proofs.Ytkcpoibhlnjldaa
open Go.Value renaming int → J, slice → V
open Go.IntKind renaming i64 → Z
open Go renaming undef → U
open Go.ChangeShapes Go.WideShapes Go.ChangeAt Go.RowKit
set_option linter.unusedVariables false
set_option maxRecDepth 100000
theorem own_two {x : World} {g : Nat} {p q : Pr} (h : Blk g (prCells p ++ prCells q) x) : OwnRow 4 prCells x g (some ⟨g, 0, none⟩) 2 [p, q] :=
 ⟨fun i hi => ⟨g, 0, rfl, h.lt, fun r v hv => by
  match i, hi with
  | 0, _ =>
   have hr : r < 4 := by have := (List.getElem?_eq_some_iff.1 hv).1; simpa [prCells] using this
   have := h.c r v (by rw [List.getElem?_append_left (by simpa [prCells] using hr)]; exact hv)
   simpa using this
  | 1, _ =>
   have hr : r < 4 := by have := (List.getElem?_eq_some_iff.1 hv).1; simpa [prCells] using this
   have := h.c (4 + r) v (by rw [List.getElem?_append_right (by simp [prCells])]; simpa [prCells] using hv)
   simpa using this⟩, fun _ => ⟨rfl, fun j => h.f j⟩, by simp, fun e => by cases e⟩
theorem Star.nodeAt {n : Nd} {w : World} (h : Star (ndL n) w) : NodeAt w n := ⟨h.sl.rows, ⟨h.pl.rows, fun p hp => by
 obtain ⟨k, hk, rfl⟩ := List.mem_iff_getElem.1 hp
 exact (h.ends hk).rows⟩⟩
theorem Star.caps {n : Nd} {w : World} (h : Star (ndL n) w) : (n.sa = none → n.sc = 0) ∧ (n.pa = none → n.pc = 0) ∧ ∀ p ∈ n.peers, p.a = none → p.cap = 0 := ⟨h.sl.nocap, h.pl.nocap, fun p hp => by
 obtain ⟨k, hk, rfl⟩ := List.mem_iff_getElem.1 hp
 exact (h.ends hk).nocap⟩
/-- a drawn node: small, of its own; beside it only the reader has turned -/
def NodeEnd (B : Nat) (w : World) (e : Ending) (w' : World) : Prop := ∃ n : Nd, e = .returned (ndV n) ∧ SmN n ∧ RP B w [ndL n] w'
/-- the node that is drawn first -/
def nd0 (r : Int) (g : Nat) : Nd := ⟨1, r, 0, 0, none, 0, [], some ⟨g, 0, none⟩, 2, [⟨2, none, 0, ⟨[], 0, 0⟩⟩, ⟨3, none, 0, ⟨[], 0, 0⟩⟩]⟩
theorem nd0_sm (r : Int) (g : Nat) : SmN (nd0 r g) := ⟨by simp [nd0], by simp [nd0], fun p hp => by
 simp only [nd0, List.mem_cons, List.not_mem_nil, or_false] at hp
 rcases hp with rfl | rfl <;> simp⟩
theorem nd0_star {x : World} {r : Int} {g : Nat} (h : Blk g (prCells ⟨2, none, 0, ⟨[], 0, 0⟩⟩ ++ prCells ⟨3, none, 0, ⟨[], 0, 0⟩⟩) x) : Star (ndL (nd0 r g)) x ∧ ∀ b ∈ fps (ndL (nd0 r g)), b = g := by
 obtain ⟨s1, f1⟩ := Star.ofOrow (own_two h)
 have e0 : ∀ {A : Type} (sz : Nat) (f : A → List Value), Star [orow sz f none 0 ([] : List A)] x := fun sz f => (Star.ofOrow (g := 0) (OwnRow.nil (fun _ => rfl))).1
 have z : ∀ {A : Type} (sz : Nat) (f : A → List Value), fps [orow sz f none 0 ([] : List A)] = [] := fun sz f => by simp [fps_one, orow_nil_fp]
 have s2 : Star ([orow 2 snCells none 0 ([] : List Sn)] ++ ([orow 4 prCells (some ⟨g, 0, none⟩) 2 [⟨2, none, 0, ⟨[], 0, 0⟩⟩, ⟨3, none, 0, ⟨[], 0, 0⟩⟩]] ++ ([orow 2 prcCells none 0 ([] : List Prc)] ++ [orow 2 prcCells none 0 ([] : List Prc)]))) x := by
  refine (e0 _ _).app (s1.app ((e0 _ _).app (e0 _ _) (fun c hc => by rw [z] at hc; cases hc)) (fun c _ q => by rw [fps_app, z] at q; cases q)) (fun c hc => by rw [z] at hc; cases hc)
 refine ⟨s2, fun b hb => ?_⟩
 have : b ∈ fps ([orow 2 snCells none 0 ([] : List Sn)] ++ ([orow 4 prCells (some ⟨g, 0, none⟩) 2 [⟨2, none, 0, ⟨[], 0, 0⟩⟩, ⟨3, none, 0, ⟨[], 0, 0⟩⟩]] ++ ([orow 2 prcCells none 0 ([] : List Prc)] ++ [orow 2 prcCells none 0 ([] : List Prc)]))) := hb
 rw [fps_app, fps_app, fps_app, z, z] at this
 simp only [List.nil_append, List.append_nil] at this
 exact f1 b this
structure NlF (B : Nat) (w : World) (n : Nd) (N : Nat) (l0 l1 l2 l3 l4 l5 l6 l7 l8 l9 : Bool) (u17 u18 u19 u20 u21 u22 u23 u24 u25 : Value) (m : Nd) (n2 : Nd) (T : List Rs) (x : World) : Prop where
 rp : RP B w [[blk w.heap.size [J Z 0, J Z 0, J Z 0, J Z 0, V none 0 0, V none 0 0]], [blk N (ndCells m)], ndL n, T] x
 m0 : l9 = false → m = n
 t4 : l4 = false → T = []
 q22 : l4 = true → T = ndL n2 ∧ SmN n2 ∧ ∃ (a : Option Addr) (j c : Nat) (cd : Int), u22 = .tuple #[ndV n2, V a j c, J Z cd]
 q17 : l5 = true → u17 = u22
 q23 : l6 = true → u23 = ndV n2
 m9 : l9 = true → m = n2
 q21 : l3 = true → ∃ a : Ac, u21 = a.v
 d9 : l9 = true → l0 = true ∧ l2 = true ∧ l4 = true ∧ l5 = true ∧ l6 = true
 d4 : l4 = true → l3 = true
 d5 : l5 = true → l4 = true
 d6 : l6 = true → l5 = true
 p18 : l0 = true → u18 = .agg #[J Z n.id, J Z n.has, J Z n.spent, J Z n.earned, V n.sa n.seen.length n.sc, V n.pa n.peers.length n.pc]
 p20 : l2 = true → u20 = .agg #[J Z n.id, J Z n.has, J Z n.spent, J Z n.earned, V n.sa n.seen.length n.sc, V n.pa n.peers.length n.pc]
 p19 : l1 = true → u19 = .pointer (some ⟨B, 0, none⟩)
theorem smN_d0 {n n2 : Nd} {a : Ac} (hs : SmN n) (hd : n2.d = (actM n.d a).1) : SmN n2 := smN_d.2 (by rw [hd]; exact (actM_small (smN_d.1 hs)).1)
theorem NlF.node {B : Nat} {w : World} {n : Nd} {N : Nat} {l0 l1 l2 l3 l4 l5 l6 l7 l8 l9 : Bool} {u17 u18 u19 u20 u21 u22 u23 u24 u25 : Value} {x : World} {m n2 : Nd} {T : List Rs} (h : NlF B w n N l0 l1 l2 l3 l4 l5 l6 l7 l8 l9 u17 u18 u19 u20 u21 u22 u23 u24 u25 m n2 T x) {y : World} (ha : Apart B x y) : NodeAt y n := by
 have s := h.rp.get (i := 2) rfl
 have f := h.rp.far (i := 2) rfl
 exact (s.keep (F := [B]) (⟨ha.os, ha.tape, ha.output, ha.size, fun k hk hn => ha.block k hk (by simpa using hn)⟩) (fun b hb q => by have := f b hb; simp only [List.mem_singleton] at q; omega)).nodeAt
theorem NlF.nodeAt {B : Nat} {w : World} {n : Nd} {N : Nat} {l0 l1 l2 l3 l4 l5 l6 l7 l8 l9 : Bool} {u17 u18 u19 u20 u21 u22 u23 u24 u25 : Value} {x : World} {m n2 : Nd} {T : List Rs} (h : NlF B w n N l0 l1 l2 l3 l4 l5 l6 l7 l8 l9 u17 u18 u19 u20 u21 u22 u23 u24 u25 m n2 T x) : NodeAt x n := (h.rp.get (i := 2) rfl).nodeAt
theorem NlF.capsn {B : Nat} {w : World} {n : Nd} {N : Nat} {l0 l1 l2 l3 l4 l5 l6 l7 l8 l9 : Bool} {u17 u18 u19 u20 u21 u22 u23 u24 u25 : Value} {x : World} {m n2 : Nd} {T : List Rs} (h : NlF B w n N l0 l1 l2 l3 l4 l5 l6 l7 l8 l9 u17 u18 u19 u20 u21 u22 u23 u24 u25 m n2 T x) : (n.sa = none → n.sc = 0) ∧ (n.pa = none → n.pc = 0) ∧ ∀ p ∈ n.peers, p.a = none → p.cap = 0 := (h.rp.get (i := 2) rfl).caps
theorem NlF.c3 {B : Nat} {w : World} {n : Nd} {N : Nat} {l0 l4 l5 l6 l7 l8 l9 : Bool} {u17 u18 u19 u20 u21 u22 u23 u24 u25 : Value} {x : World} {m n2 : Nd} {T : List Rs} {a : Ac} {y : World} (h : NlF B w n N l0 true true false l4 l5 l6 l7 l8 l9 u17 u18 u19 u20 u21 u22 u23 u24 u25 m n2 T x) (hr : Rd B y) (ha : Apart B x y) : NlF B w n N l0 true true true l4 l5 l6 l7 l8 l9 u17 u18 u19 u20 a.v u22 u23 u24 u25 m n2 T y :=
 { h with rp := h.rp.read hr ha, q21 := fun _ => ⟨a, rfl⟩, d4 := fun q => (by cases h.d4 q) }
theorem NlF.c4 {B : Nat} {w : World} {n : Nd} {N : Nat} {l1 l2 l5 l6 l7 l8 l9 : Bool} {u17 u18 u19 u20 u21 u22 u23 u24 u25 : Value} {x : World} {m n2 : Nd} {T : List Rs} {n3 : Nd} {ma : Option Addr} {mc : Nat} {ml : List Mg} {cd : Int} {y : World} (h : NlF B w n N true l1 l2 true false l5 l6 l7 l8 l9 u17 u18 u19 u20 u21 u22 u23 u24 u25 m n2 T x) (hs : SmN n3) (hp : Pool [] x [ndL n3, [orow 5 mgCells ma mc ml]] y) : NlF B w n N true l1 l2 true true l5 l6 l7 l8 l9 u17 u18 u19 u20 u21 (.tuple #[ndV n3, V ma ml.length mc, J Z cd]) u23 u24 u25 m n3 (ndL n3) y := by
 have eT := h.t4 rfl
 subst eT
 have hp1 : Pool [] x [ndL n3] y := (hp.drop (i := 1) rfl).cast (by simp)
 have st : Star (ndL n3) y := hp1.get (i := 0) rfl
 exact { h with
  rp := h.rp.new (i := 3) rfl hp.below st (fun c hc => by
   rcases hp1.hi c (by simpa using hc) with q | q
   ·cases q
   ·exact q)
  t4 := nofun
  q22 := fun _ => ⟨rfl, hs, ma, _, mc, cd, rfl⟩
  q17 := fun q => (by cases h.d5 q), q23 := fun q => (by cases h.d5 (h.d6 q)), m9 := fun q => (by cases (h.d9 q).2.2.1), d4 := fun _ => rfl, d5 := fun q => (by cases h.d5 q), d9 := fun q => (by cases (h.d9 q).2.2.1) }
theorem NlF.s9 {B : Nat} {w : World} {n : Nd} {N : Nat} {l7 l8 : Bool} {u17 u18 u19 u20 u21 u22 u23 u24 u25 : Value} {x : World} {m n2 : Nd} {T : List Rs} (h : NlF B w n N true true true true true true true l7 l8 false u17 u18 u19 u20 u21 u22 u23 u24 u25 m n2 T x) : NlF B w n N true true true true true true true l7 l8 true u17 u18 u19 u20 u21 u22 u23 u24 u25 n2 n2 T ((((((x.setCell ⟨N, 0, none⟩ (J Z n2.id)).setCell ⟨N, 1, none⟩ (J Z n2.has)).setCell ⟨N, 2, none⟩ (J Z n2.spent)).setCell ⟨N, 3, none⟩ (J Z n2.earned)).setCell ⟨N, 4, none⟩ (V n2.sa n2.seen.length n2.sc)).setCell ⟨N, 5, none⟩ (V n2.pa n2.peers.length n2.pc)) :=
 { h with rp := h.rp.set6 (i := 1) rfl _ _ _ _ _ _, m0 := nofun, m9 := fun _ => rfl, d9 := fun _ => ⟨rfl, rfl, rfl, rfl, rfl⟩ }
set_option maxHeartbeats 4000000 in
theorem node_any (B : Nat) (w : World) (h : Rd B w) : Calls Try.prog 12 #[.pointer (some ⟨B, 0, none⟩)] w fun e w' => NodeEnd B w e w' := by
 have hB := h.lt
 have HP0 : Hid (RP B w [[blk w.heap.size [J Z 0, J Z 0, J Z 0, J Z 0, V none 0 0, V none 0 0]], [], [], []] (w.alloc (.cells #[J Z 0, J Z 0, J Z 0, J Z 0, V none 0 0, V none 0 0] 27))) := hide ((RP.start h [[], [], [], []] rfl).newBlk (i := 0) rfl [J Z 0, J Z 0, J Z 0, J Z 0, V none 0 0, V none 0 0] 27)
 clear h
 go_enter Try.func12, Try.ntmps12
 go_wp2_with fail
 refine (below_any B 90 _ HP0.out.rd (by omega)).mono ?_
 rintro e w1 ⟨⟨r, r0, _, r1, rfl⟩, hr1, ha1⟩
 have HP1 : Hid _ := hide (HP0.out.read hr1 ha1)
 clear hr1 ha1 HP0
 go_wp2_with fail
 refine name_calls (fun W2 hW2 => ?_)
 have HA2 : Hid (RP B w [[blk w.heap.size [J Z 0, J Z 0, J Z 0, J Z 0, V none 0 0, V none 0 0]], [blk (w1.heap.size + 1) (ndCells (nd0 r w1.heap.size))], ndL (nd0 r w1.heap.size), []] W2) := hide (by
  rw [hW2]
  have p1 := HP1.out.newBlk (i := 2) rfl (prCells ⟨2, none, 0, ⟨[], 0, 0⟩⟩ ++ prCells ⟨3, none, 0, ⟨[], 0, 0⟩⟩) 41
  have s1 : (w1.alloc (.cells (prCells ⟨2, none, 0, ⟨[], 0, 0⟩⟩ ++ prCells ⟨3, none, 0, ⟨[], 0, 0⟩⟩).toArray 41)).heap.size = w1.heap.size + 1 := by simp
  have p2 := p1.newBlk (i := 1) rfl (ndCells (nd0 r w1.heap.size)) 27
  rw [s1] at p2
  have hb := p2.blkAt (i := 2) rfl
  obtain ⟨s, f⟩ := nd0_star (r := r) hb
  exact p2.step (i := 2) rfl (Fr.refl _ _) s (fun b hb => .inl (by rw [f b hb]; simp [fps, blk])))
 have HS2 : Hid (SmN (nd0 r w1.heap.size)) := hide (nd0_sm _ _)
 clear hW2 HP1
 refine (below_any B 7 _ HA2.out.rd (by omega)).mono ?_
 rintro e w3 ⟨⟨q, q0, _, q1, rfl⟩, hr3, ha3⟩
 have HA3 : Hid _ := hide (HA2.out.read hr3 ha3)
 clear hr3 ha3 HA2
 obtain ⟨N, hN⟩ : ∃ N, N = w1.heap.size + 1 := ⟨_, rfl⟩
 rw [← hN] at HA3
 have hNN : Hid _ := hide hN
 go_wp2_with fail
 rw [← hN]
 clear hN
 go_loopw [4] (fun i w' => ∃ (k : Nat) (n : Nd), i = J Z (k : Int) ∧ k ≤ 65535 ∧ SmN n ∧ RP B w [[blk w.heap.size [J Z 0, J Z 0, J Z 0, J Z 0, V none 0 0, V none 0 0]], [blk N (ndCells n)], ndL n, []] w') (fun i w' => (intOf i).toNat)
 case atStart => exact ⟨q.toNat, nd0 r w1.heap.size, by rw [Int.toNat_of_nonneg q0], by omega, HS2.out, HA3.out⟩
 case round =>
  obtain ⟨k, n, rfl, hk, hsn, hrp⟩ := hrel
  have HS : Hid (SmN n) := hide hsn
  have HP : Hid (RP B w [[blk w.heap.size [J Z 0, J Z 0, J Z 0, J Z 0, V none 0 0, V none 0 0]], [blk N (ndCells n)], ndL n, []] wr) := hide hrp
  clear hsn hrp HA3 HS2
  by_cases hk0 : 0 < k
  ·have hk1 : (0 : Int) < (k : Int) := by omega
   go_upto_region 5 with fail
   rename_i K0 hK0
   refine wp_region_inv (by kernel_rfl) (fun L act x => ∃ l0 l1 l2 l3 l4 l5 l6 l7 l8 l9 : Bool, ∃ u17 u18 u19 u20 u21 u22 u23 u24 u25 : Value, ∃ m : Nd, ∃ n2 : Nd, ∃ T : List Rs, L = #[l0, l1, l2, l3, l4, l5, l6, l7, l8, l9] ∧ act = { tmps := #[Value.pointer (some { block := B, off := 0 }), U, Value.pointer (some { block := w.heap.size, off := 0 }), Value.pointer (some { block := N, off := 0 }), J Z ↑k, Value.pointer (some { block := B, off := 0 }), J Z r, Value.agg #[J Z 2, V none 0 0, J Z 0, J Z 0], Value.agg #[J Z 3, V none 0 0, J Z 0, J Z 0], V (some { block := w1.heap.size, off := 0 }) 2 2, Value.agg #[J Z 1, J Z r, J Z 0, J Z 0, V none 0 0, V (some { block := w1.heap.size, off := 0 }) 2 2], Value.pointer (some { block := B, off := 0 }), J Z q, J Z ↑k, Value.bool true, u15, u16, u17, u18, u19, u20, u21, u22, u23, u24, u25, U, U, U, U, U, U], defers := [] } ∧ NlF B w n N l0 l1 l2 l3 l4 l5 l6 l7 l8 l9 u17 u18 u19 u20 u21 u22 u23 u24 u25 m n2 T x) ?_ ?_ ?_
   rotate_left 2
   ·exact ⟨false, false, false, false, false, false, false, false, false, false, (u17), (u18), (u19), (u20), (u21), (u22), (u23), (u24), (u25), (n), (n), ([]), rfl, rfl, ⟨HP.out.drew, fun _ => rfl, fun _ => rfl, nofun, nofun, nofun, nofun, nofun, nofun, nofun, nofun, nofun, nofun, nofun, nofun⟩⟩
   ·rintro L act x i ⟨l0, l1, l2, l3, l4, l5, l6, l7, l8, l9, u17, u18, u19, u20, u21, u22, u23, u24, u25, m, n2, T, rfl, rfl, h⟩ hi K hK
    have hi15 : i < 10 := by
     obtain ⟨_, o, ho, _⟩ := mem_ready.1 hi
     exact (Array.getElem?_eq_some_iff.1 ho).1
    have hl := (mem_ready.1 hi).1
    obtain rfl | rfl | rfl | rfl | rfl | rfl | rfl | rfl | rfl | rfl := (by omega : i = 0 ∨ i = 1 ∨ i = 2 ∨ i = 3 ∨ i = 4 ∨ i = 5 ∨ i = 6 ∨ i = 7 ∨ i = 8 ∨ i = 9)
    ·have e : l0 = false := hl
     subst e
     have em : m = n := h.m0 (by cases l9 with | false => rfl | true => exact absurd (h.d9 rfl).1 (by simp))
     have hb1 := h.rp.blkAt (i := 1) rfl
     rw [em] at hb1
     have c0 := hb1.c 0 _ rfl
     have c1 := hb1.c 1 _ rfl
     have c2 := hb1.c 2 _ rfl
     have c3 := hb1.c 3 _ rfl
     have c4 := hb1.c 4 _ rfl
     have c5 := hb1.c 5 _ rfl
     refine wpOp_run (v := .agg #[J Z n.id, J Z n.has, J Z n.spent, J Z n.earned, V n.sa n.seen.length n.sc, V n.pa n.peers.length n.pc]) (w' := x) (by rfl) (by rfl) ?_ (hK _ _ ⟨true, l1, l2, l3, l4, l5, l6, l7, l8, l9, u17, (.agg #[J Z n.id, J Z n.has, J Z n.spent, J Z n.earned, V n.sa n.seen.length n.sc, V n.pa n.peers.length n.pc]), u19, u20, u21, u22, u23, u24, u25, (m), (n2), (T), rfl, rfl, { h with p18 := fun _ => rfl, d9 := fun q => (by cases (h.d9 q).1) }⟩)
     go_simp
    ·have e : l1 = false := hl
     subst e
     refine wpOp_run (v := .pointer (some ⟨B, 0, none⟩)) (w' := x) (by rfl) (by rfl) ?_ (hK _ _ ⟨l0, true, l2, l3, l4, l5, l6, l7, l8, l9, u17, u18, (.pointer (some ⟨B, 0, none⟩)), u20, u21, u22, u23, u24, u25, (m), (n2), (T), rfl, rfl, { h with p19 := fun _ => rfl }⟩)
     go_simp
    ·have e : l2 = false := hl
     subst e
     have em : m = n := h.m0 (by cases l9 with | false => rfl | true => exact absurd (h.d9 rfl).2.1 (by simp))
     have hb1 := h.rp.blkAt (i := 1) rfl
     rw [em] at hb1
     have c0 := hb1.c 0 _ rfl
     have c1 := hb1.c 1 _ rfl
     have c2 := hb1.c 2 _ rfl
     have c3 := hb1.c 3 _ rfl
     have c4 := hb1.c 4 _ rfl
     have c5 := hb1.c 5 _ rfl
     refine wpOp_run (v := .agg #[J Z n.id, J Z n.has, J Z n.spent, J Z n.earned, V n.sa n.seen.length n.sc, V n.pa n.peers.length n.pc]) (w' := x) (by rfl) (by rfl) ?_ (hK _ _ ⟨l0, l1, true, l3, l4, l5, l6, l7, l8, l9, u17, u18, u19, (.agg #[J Z n.id, J Z n.has, J Z n.spent, J Z n.earned, V n.sa n.seen.length n.sc, V n.pa n.peers.length n.pc]), u21, u22, u23, u24, u25, (m), (n2), (T), rfl, rfl, { h with p20 := fun _ => rfl, d9 := fun q => (by cases (h.d9 q).2.1) }⟩)
     go_simp
    ·have e : l3 = false := hl
     subst e
     have d1 : l1 = true := ready_on hi 1 (by kernel_rfl)
     subst d1
     have d2 : l2 = true := ready_on hi 2 (by kernel_rfl)
     subst d2
     refine wpOp_call (by rfl) (by rfl) ?_ (nact_any B n x h.rp.rd HS.out (fun y ha => h.node ha)) ?_
     ·rw [h.p19 rfl, h.p20 rfl]; unfold ndV; go_simp
     ·rintro e w' ⟨⟨a, rfl⟩, hr, ha⟩
      exact ⟨_, rfl, hK _ _ ⟨l0, true, true, true, l4, l5, l6, l7, l8, l9, u17, u18, u19, u20, (a.v), u22, u23, u24, u25, (m), (n2), (T), rfl, rfl, h.c3 hr ha⟩⟩
    ·have e : l4 = false := hl
     subst e
     have d0 : l0 = true := ready_on hi 0 (by kernel_rfl)
     subst d0
     have d3 : l3 = true := ready_on hi 3 (by kernel_rfl)
     subst d3
     obtain ⟨a, ea⟩ := h.q21 rfl
     refine wpOp_call (by rfl) (by rfl) ?_ (specActed_any n a x HS.out h.capsn.1 h.capsn.2.2 h.nodeAt) ?_
     ·rw [h.p18 rfl]; rw [ea]; unfold ndV Ac.v; go_simp
     ·rintro e w' ⟨n2, ma, mc, rfl, hd, hp⟩
      exact ⟨_, rfl, hK _ _ ⟨true, l1, l2, true, true, l5, l6, l7, l8, l9, u17, u18, u19, u20, u21, (.tuple #[ndV n2, V ma (actM n.d a).2.1.length mc, J Z (actM n.d a).2.2]), u23, u24, u25, (m), (n2), (ndL n2), rfl, rfl, h.c4 (smN_d0 HS.out hd) hp⟩⟩
    ·have e : l5 = false := hl
     subst e
     have d4 : l4 = true := ready_on hi 4 (by kernel_rfl)
     subst d4
     refine wpOp_run (v := u22) (w' := x) (by rfl) (by rfl) ?_ (hK _ _ ⟨l0, l1, l2, l3, true, true, l6, l7, l8, l9, (u22), u18, u19, u20, u21, u22, u23, u24, u25, (m), (n2), (T), rfl, rfl, { h with q17 := fun _ => rfl, d5 := fun _ => rfl, d6 := fun q => (by cases h.d6 q), d9 := fun q => (by cases (h.d9 q).2.2.2.1) }⟩)
     go_simp
    ·have e : l6 = false := hl
     subst e
     have d5 : l5 = true := ready_on hi 5 (by kernel_rfl)
     subst d5
     obtain ⟨_, _, ta, tj, tc, td, e22⟩ := h.q22 (h.d5 rfl)
     refine wpOp_run (v := ndV n2) (w' := x) (by rfl) (by rfl) ?_ (hK _ _ ⟨l0, l1, l2, l3, l4, true, true, l7, l8, l9, u17, u18, u19, u20, u21, u22, (ndV n2), u24, u25, (m), (n2), (T), rfl, rfl, { h with q23 := fun _ => rfl, d6 := fun _ => rfl, d9 := fun q => (by cases (h.d9 q).2.2.2.2) }⟩)
     rw [h.q17 rfl, e22]
     unfold ndV
     go_simp
    ·have e : l7 = false := hl
     subst e
     have d5 : l5 = true := ready_on hi 5 (by kernel_rfl)
     subst d5
     obtain ⟨_, _, ta, tj, tc, td, e22⟩ := h.q22 (h.d5 rfl)
     refine wpOp_run (v := V ta tj tc) (w' := x) (by rfl) (by rfl) ?_ (hK _ _ ⟨l0, l1, l2, l3, l4, true, l6, true, l8, l9, u17, u18, u19, u20, u21, u22, u23, (V ta tj tc), u25, (m), (n2), (T), rfl, rfl, { h with }⟩)
     rw [h.q17 rfl, e22]
     go_simp
    ·have e : l8 = false := hl
     subst e
     have d5 : l5 = true := ready_on hi 5 (by kernel_rfl)
     subst d5
     obtain ⟨_, _, ta, tj, tc, td, e22⟩ := h.q22 (h.d5 rfl)
     refine wpOp_run (v := J Z td) (w' := x) (by rfl) (by rfl) ?_ (hK _ _ ⟨l0, l1, l2, l3, l4, true, l6, l7, true, l9, u17, u18, u19, u20, u21, u22, u23, u24, (J Z td), (m), (n2), (T), rfl, rfl, { h with }⟩)
     rw [h.q17 rfl, e22]
     go_simp
    ·have e : l9 = false := hl
     subst e
     have d0 : l0 = true := ready_on hi 0 (by kernel_rfl)
     subst d0
     have d1 : l1 = true := ready_on hi 1 (by kernel_rfl)
     subst d1
     have d2 : l2 = true := ready_on hi 2 (by kernel_rfl)
     subst d2
     have d3 : l3 = true := ready_on hi 3 (by kernel_rfl)
     subst d3
     have d4 : l4 = true := ready_on hi 4 (by kernel_rfl)
     subst d4
     have d5 : l5 = true := ready_on hi 5 (by kernel_rfl)
     subst d5
     have d6 : l6 = true := ready_on hi 6 (by kernel_rfl)
     subst d6
     refine wpOp_skip (w' := ((((((x.setCell ⟨N, 0, none⟩ (J Z n2.id)).setCell ⟨N, 1, none⟩ (J Z n2.has)).setCell ⟨N, 2, none⟩ (J Z n2.spent)).setCell ⟨N, 3, none⟩ (J Z n2.earned)).setCell ⟨N, 4, none⟩ (V n2.sa n2.seen.length n2.sc)).setCell ⟨N, 5, none⟩ (V n2.pa n2.peers.length n2.pc))) (by rfl) (by rfl) ?_ (hK _ _ ⟨true, true, true, true, true, true, true, l7, l8, true, u17, u18, u19, u20, u21, u22, u23, u24, u25, (n2), (n2), (T), rfl, rfl, h.s9⟩)
     rw [h.q23 rfl]
     unfold ndV
     have c0 := (h.rp.blkAt (i := 1) rfl).c 0 _ rfl
     have z0 := (h.rp.blkAt (i := 1) rfl).f 0
     have c1 := (h.rp.blkAt (i := 1) rfl).c 1 _ rfl
     have z1 := (h.rp.blkAt (i := 1) rfl).f 1
     have c2 := (h.rp.blkAt (i := 1) rfl).c 2 _ rfl
     have z2 := (h.rp.blkAt (i := 1) rfl).f 2
     have c3 := (h.rp.blkAt (i := 1) rfl).c 3 _ rfl
     have z3 := (h.rp.blkAt (i := 1) rfl).f 3
     have c4 := (h.rp.blkAt (i := 1) rfl).c 4 _ rfl
     have z4 := (h.rp.blkAt (i := 1) rfl).f 4
     have c5 := (h.rp.blkAt (i := 1) rfl).c 5 _ rfl
     have z5 := (h.rp.blkAt (i := 1) rfl).f 5
     go_simp
   ·rintro L act x ⟨l0, l1, l2, l3, l4, l5, l6, l7, l8, l9, u17, u18, u19, u20, u21, u22, u23, u24, u25, m, n2, T, rfl, rfl, h⟩ hr
    have hall := ready_all hr rfl (by decide)
    have t0 : l0 = true := hall 0 (by decide)
    have t1 : l1 = true := hall 1 (by decide)
    have t2 : l2 = true := hall 2 (by decide)
    have t3 : l3 = true := hall 3 (by decide)
    have t4 : l4 = true := hall 4 (by decide)
    have t5 : l5 = true := hall 5 (by decide)
    have t6 : l6 = true := hall 6 (by decide)
    have t7 : l7 = true := hall 7 (by decide)
    have t8 : l8 = true := hall 8 (by decide)
    have t9 : l9 = true := hall 9 (by decide)
    subst t0 t1 t2 t3 t4 t5 t6 t7 t8 t9
    clear hall hr
    have e22 := h.q22 rfl
    have em := h.m9 rfl
    subst em
    obtain ⟨eT, hs2, _⟩ := e22
    subst eT
    have HP9 : Hid (RP B w [[blk w.heap.size [J Z 0, J Z 0, J Z 0, J Z 0, V none 0 0, V none 0 0]], [blk N (ndCells m)], ndL m, []] x) := hide ((h.rp.step (i := 2) rfl (Fr.refl _ _) (rs' := []) (Star.nil _) (fun b hb => by simp [fps] at hb)).cast (by simp))
    have HS9 : Hid (SmN m) := hide hs2
    clear h hs2
    refine hK0 _ _ ?_
    go_wp2_with fail
    exact ⟨⟨k - 1, m, by rw [Int.natCast_sub (by omega)]; rfl, by omega, HS9.out, HP9.out⟩, by simp [intOf]; omega⟩
  ·have hk1 : ¬ (0 : Int) < (k : Int) := by omega
   go_wp2_with fail
   refine (once_any B 30 _ HP.out.rd (by omega) (by omega)).mono ?_
   rintro e w5 ⟨⟨bb, rfl⟩, hr5, ha5⟩
   have H5 : Hid (RP B w [[blk w.heap.size [J Z 0, J Z 0, J Z 0, J Z 0, V none 0 0, V none 0 0]], [blk N (ndCells n)], ndL n, []] w5) := hide (HP.out.read hr5 ha5)
   clear hr5 ha5 HP
   cases bb
   ·have HQ : Hid _ := hide (H5.out.set6 (i := 0) rfl (J Z n.id) (J Z n.has) (J Z n.spent) (J Z n.earned) (V n.sa n.seen.length n.sc) (V n.pa n.peers.length n.pc))
    have m0_ := (H5.out.blkAt (i := 1) rfl).c 0 _ rfl
    have r0_ := (H5.out.blkAt (i := 0) rfl).c 0 _ rfl
    have rf0_ := (H5.out.blkAt (i := 0) rfl).f 0
    have m1_ := (H5.out.blkAt (i := 1) rfl).c 1 _ rfl
    have r1_ := (H5.out.blkAt (i := 0) rfl).c 1 _ rfl
    have rf1_ := (H5.out.blkAt (i := 0) rfl).f 1
    have m2_ := (H5.out.blkAt (i := 1) rfl).c 2 _ rfl
    have r2_ := (H5.out.blkAt (i := 0) rfl).c 2 _ rfl
    have rf2_ := (H5.out.blkAt (i := 0) rfl).f 2
    have m3_ := (H5.out.blkAt (i := 1) rfl).c 3 _ rfl
    have r3_ := (H5.out.blkAt (i := 0) rfl).c 3 _ rfl
    have rf3_ := (H5.out.blkAt (i := 0) rfl).f 3
    have m4_ := (H5.out.blkAt (i := 1) rfl).c 4 _ rfl
    have r4_ := (H5.out.blkAt (i := 0) rfl).c 4 _ rfl
    have rf4_ := (H5.out.blkAt (i := 0) rfl).f 4
    have m5_ := (H5.out.blkAt (i := 1) rfl).c 5 _ rfl
    have r5_ := (H5.out.blkAt (i := 0) rfl).c 5 _ rfl
    have rf5_ := (H5.out.blkAt (i := 0) rfl).f 5
    go_wp2
    refine name_post9 (fun W9 hW9 => ?_)
    have hq := HQ.out
    rw [← hW9] at hq
    have z_ := hq.blkAt (i := 0) rfl
    have g0_ := z_.c 0 _ rfl
    have g1_ := z_.c 1 _ rfl
    have g2_ := z_.c 2 _ rfl
    have g3_ := z_.c 3 _ rfl
    have g4_ := z_.c 4 _ rfl
    have g5_ := z_.c 5 _ rfl
    exact bodyPost_ret (v := ndV n) (by simp [results, Try.results12, go_sem, g0_, g1_, g2_, g3_, g4_, g5_, ndV]) rfl ⟨n, rfl, HS.out, ((hq.drop (i := 1) rfl).drop (i := 0) rfl).cast (by simp [ndL])⟩
   ·go_wp2_with fail
    refine (off_any B 0 90 _ H5.out.rd (by omega) (by omega) (by omega)).mono ?_
    rintro e w7 ⟨⟨hh, m0, m1, rfl⟩, hr7, ha7⟩
    have H7 : Hid (RP B w [[blk w.heap.size [J Z 0, J Z 0, J Z 0, J Z 0, V none 0 0, V none 0 0]], [blk N (ndCells n)], ndL n, []] w7) := hide (H5.out.read hr7 ha7)
    have c1 := (H7.out.blkAt (i := 1) rfl).c 1 _ rfl
    have fz1 := (H7.out.blkAt (i := 1) rfl).f 1
    clear hr7 ha7 H5
    go_upto_region 8 with fail
    refine name_world9 (fun W8 hW8 => ?_)
    have H8 : Hid (RP B w [[blk w.heap.size [J Z 0, J Z 0, J Z 0, J Z 0, V none 0 0, V none 0 0]], [blk N [J Z n.id, J Z hh, J Z n.spent, J Z n.earned, V n.sa n.seen.length n.sc, V n.pa n.peers.length n.pc]], ndL n, []] W8) := hide (by rw [hW8]; exact RP.setBlk (i := 1) H7.out rfl 1 (J Z hh) (by simp [ndCells]))
    clear hW8 H7 c1 fz1
    have HQ : Hid _ := hide (H8.out.set6 (i := 0) rfl (J Z n.id) (J Z hh) (J Z n.spent) (J Z n.earned) (V n.sa n.seen.length n.sc) (V n.pa n.peers.length n.pc))
    have m0_ := (H8.out.blkAt (i := 1) rfl).c 0 _ rfl
    have r0_ := (H8.out.blkAt (i := 0) rfl).c 0 _ rfl
    have rf0_ := (H8.out.blkAt (i := 0) rfl).f 0
    have m1_ := (H8.out.blkAt (i := 1) rfl).c 1 _ rfl
    have r1_ := (H8.out.blkAt (i := 0) rfl).c 1 _ rfl
    have rf1_ := (H8.out.blkAt (i := 0) rfl).f 1
    have m2_ := (H8.out.blkAt (i := 1) rfl).c 2 _ rfl
    have r2_ := (H8.out.blkAt (i := 0) rfl).c 2 _ rfl
    have rf2_ := (H8.out.blkAt (i := 0) rfl).f 2
    have m3_ := (H8.out.blkAt (i := 1) rfl).c 3 _ rfl
    have r3_ := (H8.out.blkAt (i := 0) rfl).c 3 _ rfl
    have rf3_ := (H8.out.blkAt (i := 0) rfl).f 3
    have m4_ := (H8.out.blkAt (i := 1) rfl).c 4 _ rfl
    have r4_ := (H8.out.blkAt (i := 0) rfl).c 4 _ rfl
    have rf4_ := (H8.out.blkAt (i := 0) rfl).f 4
    have m5_ := (H8.out.blkAt (i := 1) rfl).c 5 _ rfl
    have r5_ := (H8.out.blkAt (i := 0) rfl).c 5 _ rfl
    have rf5_ := (H8.out.blkAt (i := 0) rfl).f 5
    go_wp2
    refine name_post9 (fun W9 hW9 => ?_)
    have hq := HQ.out
    rw [← hW9] at hq
    have z_ := hq.blkAt (i := 0) rfl
    have g0_ := z_.c 0 _ rfl
    have g1_ := z_.c 1 _ rfl
    have g2_ := z_.c 2 _ rfl
    have g3_ := z_.c 3 _ rfl
    have g4_ := z_.c 4 _ rfl
    have g5_ := z_.c 5 _ rfl
    exact bodyPost_ret (v := ndV ⟨n.id, hh, n.spent, n.earned, n.sa, n.sc, n.seen, n.pa, n.pc, n.peers⟩) (by simp [results, Try.results12, go_sem, g0_, g1_, g2_, g3_, g4_, g5_, ndV]) rfl ⟨⟨n.id, hh, n.spent, n.earned, n.sa, n.sc, n.seen, n.pa, n.pc, n.peers⟩, rfl, HS.out, ((hq.drop (i := 1) rfl).drop (i := 0) rfl).cast (by simp [ndL])⟩
end Go.Proofs.Ytkcpoibhlnjldaa
