/- The model's l6Copy: a node's copy owns its memory. -/
import Derived.Test.YtkcpoibhlnjldaaPool
import Derived.Test.YtkcpoibhlnjldaaAcS3
import Derived.Test.YtkcpoibhlnjldaaSCp
namespace Go.Proofs.Ytkcpoibhlnjldaa
open Go.Value renaming int → J, slice → V
open Go.IntKind renaming i64 → Z
open Go renaming undef → U
open Go.ChangeShapes Go.WideShapes Go.ChangeAt Go.RowKit
set_option linter.unusedVariables false
set_option maxRecDepth 100000
/-- the rows of a node -/
def endsL (l : List Pr) : List Rs := l.map (fun p => orow 2 prcCells p.a p.cap p.E.out)
def ndL (n : Nd) : List Rs := orow 2 snCells n.sa n.sc n.seen :: orow 4 prCells n.pa n.pc n.peers :: endsL n.peers
def ndV (n : Nd) : Value := .agg #[J Z n.id, J Z n.has, J Z n.spent, J Z n.earned, V n.sa n.seen.length n.sc, V n.pa n.peers.length n.pc]
/-- a node of the call's own -/
def CopyEnd (D : NdD) (w : World) (e : Ending) (w' : World) : Prop := ∃ n : Nd, e = .returned (ndV n) ∧ n.d = D ∧ Near n.sa ∧ Pool [] w [ndL n] w'
theorem l5Copy_pool (a0 : Option Addr) (l : List Prc) (cap : Nat) (sent got : Int) (w : World) (hl : l.length ≤ 1048576) (hn0 : a0 = none → cap = 0) (h : RowAt 2 prcCells w a0 l) :
  Calls Try.prog 49 #[.agg #[V a0 l.length cap, J Z sent, J Z got]] w fun e w' => ∃ a c, e = .returned (.agg #[V a l.length c, J Z sent, J Z got]) ∧ Below w.heap.size w w' ∧ Star [orow 2 prcCells a c l] w' ∧ ∀ b ∈ fps [orow 2 prcCells a c l], w.heap.size ≤ b := by
 refine (l5Copy_any a0 l cap sent got w hl hn0 h).mono ?_
 rintro e w1 ⟨hb, v, rfl, hn⟩
 obtain ⟨a, c, rfl, st, hi⟩ := hn.star
 exact ⟨a, c, rfl, hb, st, hi⟩
theorem pr_one (p : Pr) : ∀ u ∈ prCells p, u.oneCell' = true := fun u hu => by
 simp only [prCells, List.mem_cons, List.not_mem_nil, or_false] at hu
 rcases hu with rfl | rfl | rfl | rfl <;> rfl
theorem pr_at {w x : World} {a : Option Addr} {l : List Pr} (h : RowAt 4 prCells w a l) (hx : Below w.heap.size w x) {b off : Nat} (ha : a = some ⟨b, off, none⟩) (k : Nat) (hk : k < l.length) : x.cell? ⟨b, off + k * 4, none⟩ = some (J Z l[k].id) ∧ x.cell? ⟨b, off + k * 4 + 1, none⟩ = some (V l[k].a l[k].E.out.length l[k].cap) ∧ x.cell? ⟨b, off + k * 4 + 2, none⟩ = some (J Z l[k].E.sent) ∧ x.cell? ⟨b, off + k * 4 + 3, none⟩ = some (J Z l[k].E.got) := by
 obtain ⟨b', off', e, _, c⟩ := pr_row (h.below hx) k hk
 rw [ha] at e
 simp only [Option.some.injEq, Addr.mk.injEq, and_true] at e
 obtain ⟨rfl, rfl⟩ := e
 exact c
theorem endsL_app (l : List Pr) (p : Pr) : endsL (l ++ [p]) = endsL l ++ [orow 2 prcCells p.a p.cap p.E.out] := by simp [endsL]
structure NcF (n : Nd) (s : Nat) (w : World) (l0 l1 l2 l3 l4 l5 l6 l7 l8 l9 l10 l11 l12 l13 l14 : Bool) (u3 u5 u6 u7 u8 u9 u10 u11 u12 u13 u14 u15 u16 u17 : Value) (x : World) : Prop where
 pool : Pool [] w [cond l11 [row 70 2 u16 n.seen.length (n.seen.flatMap snCells)] (cond l8 [row 70 2 u13 0 []] []), cond l14 [blk (ptB u3) [J Z n.id, J Z n.has, J Z n.spent, J Z n.earned, u16, V none 0 0]] (cond l13 [blk (ptB u3) [J Z 0, J Z 0, J Z 0, J Z 0, V none 0 0, V none 0 0]] []), [blk s (ndCells n)], [blk (s + 1) [J Z 0, J Z 0, J Z 0, J Z 0, V none 0 0, V none 0 0]], [], [], [], []] x
 a3 : l13 = true → u3 = .pointer (some ⟨ptB u3, 0, none⟩)
 q17 : l12 = true → u17 = .agg #[J Z n.id, J Z n.has, J Z n.spent, J Z n.earned, u16, V none 0 0]
 d11_8 : l11 = true → l8 = true
 d12_11 : l12 = true → l11 = true
 d14_13 : l14 = true → l13 = true
 d14_12 : l14 = true → l12 = true
 d14_11 : l14 = true → l11 = true
 p5 : l0 = true → u5 = .pointer (some ⟨s, 0, none⟩)
 p6 : l1 = true → u6 = J Z n.id
 p7 : l2 = true → u7 = .pointer (some ⟨s, 1, none⟩)
 p8 : l3 = true → u8 = J Z n.has
 p9 : l4 = true → u9 = .pointer (some ⟨s, 2, none⟩)
 p10 : l5 = true → u10 = J Z n.spent
 p11 : l6 = true → u11 = .pointer (some ⟨s, 3, none⟩)
 p12 : l7 = true → u12 = J Z n.earned
 p14 : l9 = true → u14 = .pointer (some ⟨s, 4, none⟩)
 p15 : l10 = true → u15 = V n.sa n.seen.length n.sc
structure NcG (n : Nd) (w : World) (a4 : Option Addr) (c4 B k : Nat) (hk : k < n.peers.length) (pv : Value) (PL : List Pr) (b off : Nat) (l0 l1 l2 l3 l4 l5 l6 l7 l8 l9 l10 l11 l12 l13 l14 l15 l16 l17 l18 l19 : Bool) (u25 u26 u27 u28 u29 u30 u31 u32 u33 u34 u35 u36 u37 u38 u39 u40 u41 u42 u43 : Value) (x : World) : Prop where
 pool : Pool [] w [[row 70 2 (V a4 n.seen.length c4) n.seen.length (n.seen.flatMap snCells)], cond l19 [blk B [J Z n.id, J Z n.has, J Z n.spent, J Z n.earned, V a4 n.seen.length c4, u42]] [blk B [J Z n.id, J Z n.has, J Z n.spent, J Z n.earned, V a4 n.seen.length c4, pv]], [blk w.heap.size (ndCells n)], [blk (w.heap.size + 1) [J Z 0, J Z 0, J Z 0, J Z 0, V none 0 0, V none 0 0]], cond l17 [row 41 4 u42 (k + 1) (PL.flatMap prCells ++ prCells (⟨n.peers[k].id, slA u39, slC u39, n.peers[k].E⟩ : Pr))] [row 41 4 pv k (PL.flatMap prCells)], endsL PL, cond l14 [orow 2 prcCells (slA u39) (slC u39) n.peers[k].E.out] [], cond l16 [blk (gOf (slA u41)) (prCells (⟨n.peers[k].id, slA u39, slC u39, n.peers[k].E⟩ : Pr))] []] x
 q39 : l14 = true → u39 = .agg #[V (slA u39) n.peers[k].E.out.length (slC u39), J Z n.peers[k].E.sent, J Z n.peers[k].E.got]
 q40 : l15 = true → u40 = .agg #[J Z n.peers[k].id, V (slA u39) n.peers[k].E.out.length (slC u39), J Z n.peers[k].E.sent, J Z n.peers[k].E.got]
 q41 : l16 = true → u41 = V (some ⟨gOf (slA u41), 0, none⟩) 1 1
 d15_14 : l15 = true → l14 = true
 d16_14 : l16 = true → l14 = true
 d17_14 : l17 = true → l14 = true
 d19_17 : l19 = true → l17 = true
 d16_15 : l16 = true → l15 = true
 d17_16 : l17 = true → l16 = true
 p25 : l0 = true → u25 = .pointer (some ⟨B, 5, none⟩)
 p26 : l1 = true → u26 = pv
 d19_1 : l19 = true → l1 = true
 p27 : l2 = true → u27 = .pointer (some ⟨w.heap.size, 5, none⟩)
 p28 : l3 = true → u28 = V (some ⟨b, off, none⟩) n.peers.length n.pc
 p29 : l4 = true → u29 = J Z (k : Int)
 p30 : l5 = true → u30 = .pointer (some ⟨b, off + k * 4, none⟩)
 p33 : l8 = true → u33 = .pointer (some ⟨w.heap.size, 5, none⟩)
 p34 : l9 = true → u34 = V (some ⟨b, off, none⟩) n.peers.length n.pc
 p35 : l10 = true → u35 = J Z (k : Int)
 p36 : l11 = true → u36 = .pointer (some ⟨b, off + k * 4, none⟩)
 p31 : l6 = true → u31 = .pointer (some ⟨b, off + k * 4, none⟩)
 p32 : l7 = true → u32 = J Z n.peers[k].id
 p37 : l12 = true → u37 = .pointer (some ⟨b, off + k * 4 + 1, none⟩)
 p38 : l13 = true → u38 = .agg #[V n.peers[k].a n.peers[k].E.out.length n.peers[k].cap, J Z n.peers[k].E.sent, J Z n.peers[k].E.got]
 p43 : l18 = true → u43 = .pointer (some ⟨B, 5, none⟩)
set_option maxHeartbeats 4000000 in
theorem l6Copy_any (n : Nd) (w : World) (hs : SmN n) (hn0 : n.sa = none → n.sc = 0) (hp0 : ∀ p ∈ n.peers, p.a = none → p.cap = 0) (h : NodeAt w n) :
  Calls Try.prog 18 #[ndV n] w fun e w' => CopyEnd n.d w e w' := by
 obtain ⟨i0, hi0, hz0, hz1, hz2⟩ := info_parts infoSn
 have hu : Try.prog.underlying 24 = some (.slice 70) := by kernel_rfl
 obtain ⟨i1, hi1, hy0, hy1, hy2⟩ := info_parts infoPr
 have hv : Try.prog.underlying 25 = some (.slice 41) := by kernel_rfl
 have HL : Hid _ := hide h
 obtain ⟨hs1, hs2, hs3⟩ := hs
 clear h
 obtain ⟨W, hW⟩ : ∃ W, W = (w.alloc (.cells (ndCells n).toArray 27)).alloc (.cells #[J Z 0, J Z 0, J Z 0, J Z 0, V none 0 0, V none 0 0] 27) := ⟨_, rfl⟩
 have sW : (w.alloc (.cells (ndCells n).toArray 27)).heap.size = w.heap.size + 1 := by simp
 have HP : Hid (Pool [] w [[], [], [blk w.heap.size (ndCells n)], [blk (w.heap.size + 1) [J Z 0, J Z 0, J Z 0, J Z 0, V none 0 0, V none 0 0]], [], [], [], []] W) := hide (by
  rw [hW, ← sW]
  exact ((Pool.start w [[], [], [], [], [], [], [], []] rfl).newBlk (i := 2) rfl (ndCells n) 27).newBlk (i := 3) rfl [J Z 0, J Z 0, J Z 0, J Z 0, V none 0 0, V none 0 0] 27)
 have HW : Hid ((w.alloc (.cells #[J Z n.id, J Z n.has, J Z n.spent, J Z n.earned, V n.sa n.seen.length n.sc, V n.pa n.peers.length n.pc] 27)).alloc (.cells #[J Z 0, J Z 0, J Z 0, J Z 0, V none 0 0, V none 0 0] 27) = W) := hide hW.symm
 clear hW sW
 unfold ndV
 go_enter Try.func18, Try.ntmps18
 go_wp2_with fail
 rw [HW.out]
 rename_i K0 hK0
 refine wp_region_inv (by kernel_rfl) (fun L act x => ∃ l0 l1 l2 l3 l4 l5 l6 l7 l8 l9 l10 l11 l12 l13 l14 : Bool, ∃ u3 u5 u6 u7 u8 u9 u10 u11 u12 u13 u14 u15 u16 u17 : Value, L = #[l0, l1, l2, l3, l4, l5, l6, l7, l8, l9, l10, l11, l12, l13, l14] ∧ act = { tmps := #[Value.agg #[J Z n.id, J Z n.has, J Z n.spent, J Z n.earned, V n.sa n.seen.length n.sc, V n.pa n.peers.length n.pc], Value.pointer (some { block := w.heap.size, off := 0 }), Value.pointer (some { block := w.heap.size + 1, off := 0 }), u3, U, u5, u6, u7, u8, u9, u10, u11, u12, u13, u14, u15, u16, u17, U, U, U, U, U, U, U, U, U, U, U, U, U, U, U, U, U, U, U, U, U, U, U, U, U, U, U], defers := [] } ∧ NcF n w.heap.size w l0 l1 l2 l3 l4 l5 l6 l7 l8 l9 l10 l11 l12 l13 l14 u3 u5 u6 u7 u8 u9 u10 u11 u12 u13 u14 u15 u16 u17 x) ?_ ?_ ?_
 rotate_left 2
 ·exact ⟨false, false, false, false, false, false, false, false, false, false, false, false, false, false, false, U, U, U, U, U, U, U, U, U, U, U, U, U, U, rfl, rfl, ⟨HP.out.drew, nofun, nofun, nofun, nofun, nofun, nofun, nofun, nofun, nofun, nofun, nofun, nofun, nofun, nofun, nofun, nofun, nofun⟩⟩
 ·rintro L act x i ⟨l0, l1, l2, l3, l4, l5, l6, l7, l8, l9, l10, l11, l12, l13, l14, u3, u5, u6, u7, u8, u9, u10, u11, u12, u13, u14, u15, u16, u17, rfl, rfl, h⟩ hi K hK
  have hi15 : i < 15 := by
   obtain ⟨_, o, ho, _⟩ := mem_ready.1 hi
   exact (Array.getElem?_eq_some_iff.1 ho).1
  have hl := (mem_ready.1 hi).1
  obtain rfl | rfl | rfl | rfl | rfl | rfl | rfl | rfl | rfl | rfl | rfl | rfl | rfl | rfl | rfl := (by omega : i = 0 ∨ i = 1 ∨ i = 2 ∨ i = 3 ∨ i = 4 ∨ i = 5 ∨ i = 6 ∨ i = 7 ∨ i = 8 ∨ i = 9 ∨ i = 10 ∨ i = 11 ∨ i = 12 ∨ i = 13 ∨ i = 14)
  ·have e : l0 = false := hl
   subst e
   refine wpOp_run (v := .pointer (some ⟨w.heap.size, 0, none⟩)) (w' := x) (by rfl) (by rfl) ?_ (hK _ _ ⟨true, l1, l2, l3, l4, l5, l6, l7, l8, l9, l10, l11, l12, l13, l14, u3, (.pointer (some ⟨w.heap.size, 0, none⟩)), u6, u7, u8, u9, u10, u11, u12, u13, u14, u15, u16, u17, rfl, rfl, { h with p5 := fun _ => rfl }⟩)
   go_simp
  ·have e : l1 = false := hl
   subst e
   have d0 : l0 = true := ready_on hi 0 (by kernel_rfl)
   subst d0
   have c0 : x.cell? ⟨w.heap.size, 0, none⟩ = some (J Z n.id) := (h.pool.blkAt (i := 2) rfl).c 0 _ rfl
   refine wpOp_run (v := J Z n.id) (w' := x) (by rfl) (by rfl) ?_ (hK _ _ ⟨true, true, l2, l3, l4, l5, l6, l7, l8, l9, l10, l11, l12, l13, l14, u3, u5, (J Z n.id), u7, u8, u9, u10, u11, u12, u13, u14, u15, u16, u17, rfl, rfl, { h with p6 := fun _ => rfl }⟩)
   rw [h.p5 rfl]
   go_simp
  ·have e : l2 = false := hl
   subst e
   refine wpOp_run (v := .pointer (some ⟨w.heap.size, 1, none⟩)) (w' := x) (by rfl) (by rfl) ?_ (hK _ _ ⟨l0, l1, true, l3, l4, l5, l6, l7, l8, l9, l10, l11, l12, l13, l14, u3, u5, u6, (.pointer (some ⟨w.heap.size, 1, none⟩)), u8, u9, u10, u11, u12, u13, u14, u15, u16, u17, rfl, rfl, { h with p7 := fun _ => rfl }⟩)
   go_simp
  ·have e : l3 = false := hl
   subst e
   have d2 : l2 = true := ready_on hi 2 (by kernel_rfl)
   subst d2
   have c0 : x.cell? ⟨w.heap.size, 1, none⟩ = some (J Z n.has) := (h.pool.blkAt (i := 2) rfl).c 1 _ rfl
   refine wpOp_run (v := J Z n.has) (w' := x) (by rfl) (by rfl) ?_ (hK _ _ ⟨l0, l1, true, true, l4, l5, l6, l7, l8, l9, l10, l11, l12, l13, l14, u3, u5, u6, u7, (J Z n.has), u9, u10, u11, u12, u13, u14, u15, u16, u17, rfl, rfl, { h with p8 := fun _ => rfl }⟩)
   rw [h.p7 rfl]
   go_simp
  ·have e : l4 = false := hl
   subst e
   refine wpOp_run (v := .pointer (some ⟨w.heap.size, 2, none⟩)) (w' := x) (by rfl) (by rfl) ?_ (hK _ _ ⟨l0, l1, l2, l3, true, l5, l6, l7, l8, l9, l10, l11, l12, l13, l14, u3, u5, u6, u7, u8, (.pointer (some ⟨w.heap.size, 2, none⟩)), u10, u11, u12, u13, u14, u15, u16, u17, rfl, rfl, { h with p9 := fun _ => rfl }⟩)
   go_simp
  ·have e : l5 = false := hl
   subst e
   have d4 : l4 = true := ready_on hi 4 (by kernel_rfl)
   subst d4
   have c0 : x.cell? ⟨w.heap.size, 2, none⟩ = some (J Z n.spent) := (h.pool.blkAt (i := 2) rfl).c 2 _ rfl
   refine wpOp_run (v := J Z n.spent) (w' := x) (by rfl) (by rfl) ?_ (hK _ _ ⟨l0, l1, l2, l3, true, true, l6, l7, l8, l9, l10, l11, l12, l13, l14, u3, u5, u6, u7, u8, u9, (J Z n.spent), u11, u12, u13, u14, u15, u16, u17, rfl, rfl, { h with p10 := fun _ => rfl }⟩)
   rw [h.p9 rfl]
   go_simp
  ·have e : l6 = false := hl
   subst e
   refine wpOp_run (v := .pointer (some ⟨w.heap.size, 3, none⟩)) (w' := x) (by rfl) (by rfl) ?_ (hK _ _ ⟨l0, l1, l2, l3, l4, l5, true, l7, l8, l9, l10, l11, l12, l13, l14, u3, u5, u6, u7, u8, u9, u10, (.pointer (some ⟨w.heap.size, 3, none⟩)), u12, u13, u14, u15, u16, u17, rfl, rfl, { h with p11 := fun _ => rfl }⟩)
   go_simp
  ·have e : l7 = false := hl
   subst e
   have d6 : l6 = true := ready_on hi 6 (by kernel_rfl)
   subst d6
   have c0 : x.cell? ⟨w.heap.size, 3, none⟩ = some (J Z n.earned) := (h.pool.blkAt (i := 2) rfl).c 3 _ rfl
   refine wpOp_run (v := J Z n.earned) (w' := x) (by rfl) (by rfl) ?_ (hK _ _ ⟨l0, l1, l2, l3, l4, l5, true, true, l8, l9, l10, l11, l12, l13, l14, u3, u5, u6, u7, u8, u9, u10, u11, (J Z n.earned), u13, u14, u15, u16, u17, rfl, rfl, { h with p12 := fun _ => rfl }⟩)
   rw [h.p11 rfl]
   go_simp
  ·have e : l8 = false := hl
   subst e
   have z11 : l11 = false := by
    cases hz : l11
    ·rfl
    ·exact absurd (h.d11_8 hz) (by simp)
   subst z11
   refine wpOp_run (v := V (some ⟨x.heap.size, 0, none⟩) 0 0) (w' := x.alloc (.cells #[] 70)) (by rfl) (by rfl) ?_ (hK _ _ ⟨l0, l1, l2, l3, l4, l5, l6, l7, true, l9, l10, false, l12, l13, l14, u3, u5, u6, u7, u8, u9, u10, u11, u12, (V (some ⟨x.heap.size, 0, none⟩) 0 0), u14, u15, u16, u17, rfl, rfl, { h with pool := (h.pool.newRow (i := 0) rfl 70 2), d11_8 := fun _ => rfl }⟩)
   go_simp
  ·have e : l9 = false := hl
   subst e
   refine wpOp_run (v := .pointer (some ⟨w.heap.size, 4, none⟩)) (w' := x) (by rfl) (by rfl) ?_ (hK _ _ ⟨l0, l1, l2, l3, l4, l5, l6, l7, l8, true, l10, l11, l12, l13, l14, u3, u5, u6, u7, u8, u9, u10, u11, u12, u13, (.pointer (some ⟨w.heap.size, 4, none⟩)), u15, u16, u17, rfl, rfl, { h with p14 := fun _ => rfl }⟩)
   go_simp
  ·have e : l10 = false := hl
   subst e
   have d9 : l9 = true := ready_on hi 9 (by kernel_rfl)
   subst d9
   have c0 : x.cell? ⟨w.heap.size, 4, none⟩ = some (V n.sa n.seen.length n.sc) := (h.pool.blkAt (i := 2) rfl).c 4 _ rfl
   refine wpOp_run (v := V n.sa n.seen.length n.sc) (w' := x) (by rfl) (by rfl) ?_ (hK _ _ ⟨l0, l1, l2, l3, l4, l5, l6, l7, l8, true, true, l11, l12, l13, l14, u3, u5, u6, u7, u8, u9, u10, u11, u12, u13, u14, (V n.sa n.seen.length n.sc), u16, u17, rfl, rfl, { h with p15 := fun _ => rfl }⟩)
   rw [h.p14 rfl]
   go_simp
  ·have e : l11 = false := hl
   subst e
   have d8 : l8 = true := ready_on hi 8 (by kernel_rfl)
   subst d8
   have d10 : l10 = true := ready_on hi 10 (by kernel_rfl)
   subst d10
   have z12 : l12 = false := by
    cases hz : l12
    ·rfl
    ·exact absurd (h.d12_11 hz) (by simp)
   subst z12
   have z14 : l14 = false := by
    cases hz : l14
    ·rfl
    ·exact absurd (h.d14_11 hz) (by simp)
   subst z14
   obtain ⟨v', y, hr, hp⟩ := h.pool.append (P := Try.prog) (i0 := 0) rfl 24 24 i0 _ 16 hu hi0 hz0 hz1 hz2 rfl (by decide) n.sa n.seen.length n.sc (n.seen.flatMap snCells) (flat_len snCells 2 snLen n.seen) (fun e => ⟨row_none HL.out.seen e, hn0 e⟩) (Below.news snLen (by decide) h.pool.below HL.out.seen) (sn_one n.seen) (by unfold maxLen; omega) (by omega)
   rw [Nat.zero_add, List.nil_append] at hp
   refine wpOp_run (v := v') (w' := y) (by rfl) (by rfl) ?_ (hK _ _ ⟨l0, l1, l2, l3, l4, l5, l6, l7, true, l9, true, true, false, l13, false, u3, u5, u6, u7, u8, u9, u10, u11, u12, u13, u14, u15, (v'), u17, rfl, rfl, { h with q17 := (fun q => by cases q), pool := (hp), d11_8 := fun _ => rfl, d12_11 := fun _ => rfl, d14_11 := fun _ => rfl }⟩)
   exact exec_append rfl (by rfl) (h.p15 rfl) hr
  ·have e : l12 = false := hl
   subst e
   have d1 : l1 = true := ready_on hi 1 (by kernel_rfl)
   subst d1
   have d3 : l3 = true := ready_on hi 3 (by kernel_rfl)
   subst d3
   have d5 : l5 = true := ready_on hi 5 (by kernel_rfl)
   subst d5
   have d7 : l7 = true := ready_on hi 7 (by kernel_rfl)
   subst d7
   have d11 : l11 = true := ready_on hi 11 (by kernel_rfl)
   subst d11
   have z14 : l14 = false := by
    cases hz : l14
    ·rfl
    ·exact absurd (h.d14_12 hz) (by simp)
   subst z14
   obtain ⟨a4, c4, e4⟩ := row_shape (h.pool.rowAt (i := 0) rfl)
   refine wpOp_run (v := .agg #[J Z n.id, J Z n.has, J Z n.spent, J Z n.earned, u16, V none 0 0]) (w' := x) (by rfl) (by rfl) ?_ (hK _ _ ⟨l0, true, l2, true, l4, true, l6, true, l8, l9, l10, true, true, l13, false, u3, u5, u6, u7, u8, u9, u10, u11, u12, u13, u14, u15, u16, (.agg #[J Z n.id, J Z n.has, J Z n.spent, J Z n.earned, u16, V none 0 0]), rfl, rfl, { h with q17 := (fun _ => rfl), d12_11 := fun _ => rfl, d14_12 := fun _ => rfl }⟩)
   rw [h.p6 rfl, h.p8 rfl, h.p10 rfl, h.p12 rfl, e4]
   go_simp
  ·have e : l13 = false := hl
   subst e
   have z14 : l14 = false := by
    cases hz : l14
    ·rfl
    ·exact absurd (h.d14_13 hz) (by simp)
   subst z14
   refine wpOp_run (v := .pointer (some ⟨x.heap.size, 0, none⟩)) (w' := x.alloc (.cells #[J Z 0, J Z 0, J Z 0, J Z 0, V none 0 0, V none 0 0] 27)) (by rfl) (by rfl) ?_ (hK _ _ ⟨l0, l1, l2, l3, l4, l5, l6, l7, l8, l9, l10, l11, l12, true, false, (.pointer (some ⟨x.heap.size, 0, none⟩)), u5, u6, u7, u8, u9, u10, u11, u12, u13, u14, u15, u16, u17, rfl, rfl, { h with a3 := (fun _ => rfl), pool := (h.pool.newBlk (i := 1) rfl [J Z 0, J Z 0, J Z 0, J Z 0, V none 0 0, V none 0 0] 27), d14_13 := fun _ => rfl }⟩)
   go_simp
  ·have e : l14 = false := hl
   subst e
   have d0 : l0 = true := ready_on hi 0 (by kernel_rfl)
   subst d0
   have d1 : l1 = true := ready_on hi 1 (by kernel_rfl)
   subst d1
   have d2 : l2 = true := ready_on hi 2 (by kernel_rfl)
   subst d2
   have d3 : l3 = true := ready_on hi 3 (by kernel_rfl)
   subst d3
   have d4 : l4 = true := ready_on hi 4 (by kernel_rfl)
   subst d4
   have d5 : l5 = true := ready_on hi 5 (by kernel_rfl)
   subst d5
   have d6 : l6 = true := ready_on hi 6 (by kernel_rfl)
   subst d6
   have d7 : l7 = true := ready_on hi 7 (by kernel_rfl)
   subst d7
   have d8 : l8 = true := ready_on hi 8 (by kernel_rfl)
   subst d8
   have d9 : l9 = true := ready_on hi 9 (by kernel_rfl)
   subst d9
   have d10 : l10 = true := ready_on hi 10 (by kernel_rfl)
   subst d10
   have d11 : l11 = true := ready_on hi 11 (by kernel_rfl)
   subst d11
   have d12 : l12 = true := ready_on hi 12 (by kernel_rfl)
   subst d12
   have d13 : l13 = true := ready_on hi 13 (by kernel_rfl)
   subst d13
   obtain ⟨a4, c4, e4⟩ := row_shape (h.pool.rowAt (i := 0) rfl)
   have A := h.pool.blkAt (i := 1) rfl
   have t0 := A.c 0 _ rfl
   have f0 := A.f 0
   have t1 := A.c 1 _ rfl
   have f1 := A.f 1
   have t2 := A.c 2 _ rfl
   have f2 := A.f 2
   have t3 := A.c 3 _ rfl
   have f3 := A.f 3
   have t4 := A.c 4 _ rfl
   have f4 := A.f 4
   have t5 := A.c 5 _ rfl
   have f5 := A.f 5
   refine wpOp_skip (w' := ((((((x.setCell ⟨ptB u3, 0, none⟩ (J Z n.id)).setCell ⟨ptB u3, 1, none⟩ (J Z n.has)).setCell ⟨ptB u3, 2, none⟩ (J Z n.spent)).setCell ⟨ptB u3, 3, none⟩ (J Z n.earned)).setCell ⟨ptB u3, 4, none⟩ u16).setCell ⟨ptB u3, 5, none⟩ (V none 0 0))) (by rfl) (by rfl) ?_ (hK _ _ ⟨true, true, true, true, true, true, true, true, true, true, true, true, true, true, true, u3, u5, u6, u7, u8, u9, u10, u11, u12, u13, u14, u15, u16, u17, rfl, rfl, { h with pool := (((((((h.pool.setBlk (i := 1) rfl 0 (J Z n.id) (by simp)).setBlk (i := 1) rfl 1 (J Z n.has) (by simp)).setBlk (i := 1) rfl 2 (J Z n.spent) (by simp)).setBlk (i := 1) rfl 3 (J Z n.earned) (by simp)).setBlk (i := 1) rfl 4 u16 (by simp)).setBlk (i := 1) rfl 5 (V none 0 0) (by simp))), d14_13 := fun _ => rfl, d14_12 := fun _ => rfl, d14_11 := fun _ => rfl }⟩)
   rw [h.a3 rfl, h.q17 rfl, e4]
   go_simp
   rfl
 ·rintro L act x ⟨l0, l1, l2, l3, l4, l5, l6, l7, l8, l9, l10, l11, l12, l13, l14, u3, u5, u6, u7, u8, u9, u10, u11, u12, u13, u14, u15, u16, u17, rfl, rfl, h⟩ hr
  have hall := ready_all hr rfl (by decide)
  have t0 : l0 = true := hall 0 (by decide)
  have t1 : l1 = true := hall 1 (by decide)
  have t2 : l2 = true := hall 2 (by decide)
  have t3 : l3 = true := hall 3 (by decide)
  have t4 : l4 = true := hall 4 (by decide)
  have t5 : l5 = true := hall 5 (by decide)
  have t6 : l6 = true := hall 6 (by decide)
  have t7 : l7 = true := hall 7 (by decide)
  have t8 : l8 = true := hall 8 (by decide)
  have t9 : l9 = true := hall 9 (by decide)
  have t10 : l10 = true := hall 10 (by decide)
  have t11 : l11 = true := hall 11 (by decide)
  have t12 : l12 = true := hall 12 (by decide)
  have t13 : l13 = true := hall 13 (by decide)
  have t14 : l14 = true := hall 14 (by decide)
  subst t0 t1 t2 t3 t4 t5 t6 t7 t8 t9 t10 t11 t12 t13 t14
  clear hall hr
  have e3 := h.a3 rfl
  obtain ⟨a4, c4, e4⟩ := row_shape (h.pool.rowAt (i := 0) rfl)
  have HP1 : Hid (Pool [] w [[row 70 2 u16 n.seen.length (n.seen.flatMap snCells)], [blk (ptB u3) [J Z n.id, J Z n.has, J Z n.spent, J Z n.earned, u16, V none 0 0]], [blk w.heap.size (ndCells n)], [blk (w.heap.size + 1) [J Z 0, J Z 0, J Z 0, J Z 0, V none 0 0, V none 0 0]], [], [], [], []] x) := hide h.pool
  clear h
  obtain ⟨B, hB⟩ : ∃ B, B = ptB u3 := ⟨_, rfl⟩
  rw [← hB] at e3 HP1
  clear hB
  subst e3 e4
  refine hK0 _ _ ?_
  clear hK0 HW HP
  go_wp2
  have HP2 : Hid (Pool [] w [[row 70 2 (V a4 n.seen.length c4) n.seen.length (n.seen.flatMap snCells)], [blk B [J Z n.id, J Z n.has, J Z n.spent, J Z n.earned, V a4 n.seen.length c4, (V none 0 0)]], [blk w.heap.size (ndCells n)], [blk (w.heap.size + 1) [J Z 0, J Z 0, J Z 0, J Z 0, V none 0 0, V none 0 0]], [row 41 4 (V none 0 0) 0 (([] : List Pr).flatMap prCells)], endsL ([] : List Pr), [], []] x) := hide (HP1.out.newNil (i := 4) rfl 41 4)
  clear HP1
  go_loopw [4] (fun i wr => ∃ (k : Nat) (pv : Value) (PL : List Pr), k ≤ n.peers.length ∧ i = J Z (k : Int) ∧ PL.length = k ∧ PL.map Pr.d = (n.peers.take k).map Pr.d ∧ Hid (Pool [] w [[row 70 2 (V a4 n.seen.length c4) n.seen.length (n.seen.flatMap snCells)], [blk B [J Z n.id, J Z n.has, J Z n.spent, J Z n.earned, V a4 n.seen.length c4, pv]], [blk w.heap.size (ndCells n)], [blk (w.heap.size + 1) [J Z 0, J Z 0, J Z 0, J Z 0, V none 0 0, V none 0 0]], [row 41 4 pv k (PL.flatMap prCells)], endsL PL, [], []] wr)) (fun i wr => n.peers.length - (intOf i).toNat)
  case atStart => exact ⟨0, V none 0 0, [], Nat.zero_le _, rfl, rfl, by simp, HP2⟩
  case round =>
   obtain ⟨k, pv, PL, hk, rfl, hL, hD, HM⟩ := hrel
   have HLL : Hid (PL.length = k) := hide hL
   have HD : Hid _ := hide hD
   clear hL hD
   have v5 : wr.cell? ⟨w.heap.size, 5, none⟩ = some (V n.pa n.peers.length n.pc) := (HM.out.blkAt (i := 2) rfl).c 5 _ rfl
   by_cases hlt : k < n.peers.length
   ·have hlt' : (k : Int) < (n.peers.length : Int) := by omega
    go_wp2_with fail
    rename_i K5 hK5
    obtain ⟨b, off, hpa, _⟩ := pr_row HL.out.peers.row k hlt
    have HPA : Hid (n.pa = some ⟨b, off, none⟩) := hide hpa
    clear hpa
    refine wp_region_inv (by kernel_rfl) (fun L act x => ∃ l0 l1 l2 l3 l4 l5 l6 l7 l8 l9 l10 l11 l12 l13 l14 l15 l16 l17 l18 l19 : Bool, ∃ u25 u26 u27 u28 u29 u30 u31 u32 u33 u34 u35 u36 u37 u38 u39 u40 u41 u42 u43 : Value, L = #[l0, l1, l2, l3, l4, l5, l6, l7, l8, l9, l10, l11, l12, l13, l14, l15, l16, l17, l18, l19] ∧ act = { tmps := #[Value.agg #[J Z n.id, J Z n.has, J Z n.spent, J Z n.earned, V n.sa n.seen.length n.sc, V n.pa n.peers.length n.pc], Value.pointer (some { block := w.heap.size, off := 0 }), Value.pointer (some { block := w.heap.size + 1, off := 0 }), Value.pointer (some { block := B, off := 0 }), J Z ↑k, u5, u6, u7, u8, u9, u10, u11, u12, u13, u14, u15, V a4 n.seen.length c4, u17, J Z ↑k, Value.pointer (some { block := w.heap.size, off := 5 }), V n.pa n.peers.length n.pc, J Z ↑n.peers.length, Value.bool true, u23, u24, u25, u26, u27, u28, u29, u30, u31, u32, u33, u34, u35, u36, u37, u38, u39, u40, u41, u42, u43, U], defers := [] } ∧ NcG n w a4 c4 B k hlt pv PL b off l0 l1 l2 l3 l4 l5 l6 l7 l8 l9 l10 l11 l12 l13 l14 l15 l16 l17 l18 l19 u25 u26 u27 u28 u29 u30 u31 u32 u33 u34 u35 u36 u37 u38 u39 u40 u41 u42 u43 x) ?_ ?_ ?_
    rotate_left 2
    ·exact ⟨false, false, false, false, false, false, false, false, false, false, false, false, false, false, false, false, false, false, false, false, (u25), (u26), (u27), (u28), (u29), (u30), (u31), (u32), (u33), (u34), (u35), (u36), (u37), (u38), (u39), (u40), (u41), (u42), (u43), rfl, rfl, ⟨HM.out.drew, nofun, nofun, nofun, nofun, nofun, nofun, nofun, nofun, nofun, nofun, nofun, nofun, nofun, nofun, nofun, nofun, nofun, nofun, nofun, nofun, nofun, nofun, nofun, nofun, nofun⟩⟩
    ·rintro L act x i ⟨l0, l1, l2, l3, l4, l5, l6, l7, l8, l9, l10, l11, l12, l13, l14, l15, l16, l17, l18, l19, u25, u26, u27, u28, u29, u30, u31, u32, u33, u34, u35, u36, u37, u38, u39, u40, u41, u42, u43, rfl, rfl, h⟩ hi K hK
     have hi15 : i < 20 := by
      obtain ⟨_, o, ho, _⟩ := mem_ready.1 hi
      exact (Array.getElem?_eq_some_iff.1 ho).1
     have hl := (mem_ready.1 hi).1
     obtain rfl | rfl | rfl | rfl | rfl | rfl | rfl | rfl | rfl | rfl | rfl | rfl | rfl | rfl | rfl | rfl | rfl | rfl | rfl | rfl := (by omega : i = 0 ∨ i = 1 ∨ i = 2 ∨ i = 3 ∨ i = 4 ∨ i = 5 ∨ i = 6 ∨ i = 7 ∨ i = 8 ∨ i = 9 ∨ i = 10 ∨ i = 11 ∨ i = 12 ∨ i = 13 ∨ i = 14 ∨ i = 15 ∨ i = 16 ∨ i = 17 ∨ i = 18 ∨ i = 19)
     ·have e : l0 = false := hl
      subst e
      refine wpOp_run (v := .pointer (some ⟨B, 5, none⟩)) (w' := x) (by rfl) (by rfl) ?_ (hK _ _ ⟨true, l1, l2, l3, l4, l5, l6, l7, l8, l9, l10, l11, l12, l13, l14, l15, l16, l17, l18, l19, (.pointer (some ⟨B, 5, none⟩)), u26, u27, u28, u29, u30, u31, u32, u33, u34, u35, u36, u37, u38, u39, u40, u41, u42, u43, rfl, rfl, { h with p25 := fun _ => rfl }⟩)
      go_simp
     ·have e : l1 = false := hl
      subst e
      have d0 : l0 = true := ready_on hi 0 (by kernel_rfl)
      subst d0
      have l19f : l19 = false := by
       cases hz : l19
       ·rfl
       ·exact absurd (h.d19_1 hz) (by simp)
      subst l19f
      have c0 : x.cell? ⟨B, 5, none⟩ = some pv := (h.pool.blkAt (i := 1) rfl).c 5 _ rfl
      refine wpOp_run (v := pv) (w' := x) (by rfl) (by rfl) ?_ (hK _ _ ⟨true, true, l2, l3, l4, l5, l6, l7, l8, l9, l10, l11, l12, l13, l14, l15, l16, l17, l18, false, u25, (pv), u27, u28, u29, u30, u31, u32, u33, u34, u35, u36, u37, u38, u39, u40, u41, u42, u43, rfl, rfl, { h with p26 := fun _ => rfl, d19_1 := fun _ => rfl }⟩)
      rw [h.p25 rfl]
      go_simp
     ·have e : l2 = false := hl
      subst e
      refine wpOp_run (v := .pointer (some ⟨w.heap.size, 5, none⟩)) (w' := x) (by rfl) (by rfl) ?_ (hK _ _ ⟨l0, l1, true, l3, l4, l5, l6, l7, l8, l9, l10, l11, l12, l13, l14, l15, l16, l17, l18, l19, u25, u26, (.pointer (some ⟨w.heap.size, 5, none⟩)), u28, u29, u30, u31, u32, u33, u34, u35, u36, u37, u38, u39, u40, u41, u42, u43, rfl, rfl, { h with p27 := fun _ => rfl }⟩)
      go_simp
     ·have e : l3 = false := hl
      subst e
      have d2 : l2 = true := ready_on hi 2 (by kernel_rfl)
      subst d2
      have c0 : x.cell? ⟨w.heap.size, 5, none⟩ = some (V (some ⟨b, off, none⟩) n.peers.length n.pc) := by rw [← HPA.out]; exact (h.pool.blkAt (i := 2) rfl).c 5 _ rfl
      refine wpOp_run (v := V (some ⟨b, off, none⟩) n.peers.length n.pc) (w' := x) (by rfl) (by rfl) ?_ (hK _ _ ⟨l0, l1, true, true, l4, l5, l6, l7, l8, l9, l10, l11, l12, l13, l14, l15, l16, l17, l18, l19, u25, u26, u27, (V (some ⟨b, off, none⟩) n.peers.length n.pc), u29, u30, u31, u32, u33, u34, u35, u36, u37, u38, u39, u40, u41, u42, u43, rfl, rfl, { h with p28 := fun _ => rfl }⟩)
      rw [h.p27 rfl]
      go_simp
     ·have e : l4 = false := hl
      subst e
      refine wpOp_run (v := J Z (k : Int)) (w' := x) (by rfl) (by rfl) ?_ (hK _ _ ⟨l0, l1, l2, l3, true, l5, l6, l7, l8, l9, l10, l11, l12, l13, l14, l15, l16, l17, l18, l19, u25, u26, u27, u28, (J Z (k : Int)), u30, u31, u32, u33, u34, u35, u36, u37, u38, u39, u40, u41, u42, u43, rfl, rfl, { h with p29 := fun _ => rfl }⟩)
      go_simp
     ·have e : l5 = false := hl
      subst e
      have d3 : l3 = true := ready_on hi 3 (by kernel_rfl)
      subst d3
      have d4 : l4 = true := ready_on hi 4 (by kernel_rfl)
      subst d4
      refine wpOp_run (v := .pointer (some ⟨b, off + k * 4, none⟩)) (w' := x) (by rfl) (by rfl) ?_ (hK _ _ ⟨l0, l1, l2, true, true, true, l6, l7, l8, l9, l10, l11, l12, l13, l14, l15, l16, l17, l18, l19, u25, u26, u27, u28, u29, (.pointer (some ⟨b, off + k * 4, none⟩)), u31, u32, u33, u34, u35, u36, u37, u38, u39, u40, u41, u42, u43, rfl, rfl, { h with p30 := fun _ => rfl }⟩)
      rw [h.p28 rfl, h.p29 rfl]
      go_simp
     ·have e : l6 = false := hl
      subst e
      have d5 : l5 = true := ready_on hi 5 (by kernel_rfl)
      subst d5
      refine wpOp_run (v := .pointer (some ⟨b, off + k * 4, none⟩)) (w' := x) (by rfl) (by rfl) ?_ (hK _ _ ⟨l0, l1, l2, l3, l4, true, true, l7, l8, l9, l10, l11, l12, l13, l14, l15, l16, l17, l18, l19, u25, u26, u27, u28, u29, u30, (.pointer (some ⟨b, off + k * 4, none⟩)), u32, u33, u34, u35, u36, u37, u38, u39, u40, u41, u42, u43, rfl, rfl, { h with p31 := fun _ => rfl }⟩)
      rw [h.p30 rfl]
      go_simp
     ·have e : l7 = false := hl
      subst e
      have d6 : l6 = true := ready_on hi 6 (by kernel_rfl)
      subst d6
      obtain ⟨c0, c1, c2, c3⟩ := pr_at HL.out.peers.row h.pool.below HPA.out k hlt
      refine wpOp_run (v := J Z n.peers[k].id) (w' := x) (by rfl) (by rfl) ?_ (hK _ _ ⟨l0, l1, l2, l3, l4, l5, true, true, l8, l9, l10, l11, l12, l13, l14, l15, l16, l17, l18, l19, u25, u26, u27, u28, u29, u30, u31, (J Z n.peers[k].id), u33, u34, u35, u36, u37, u38, u39, u40, u41, u42, u43, rfl, rfl, { h with p32 := fun _ => rfl }⟩)
      rw [h.p31 rfl]
      go_simp
     ·have e : l8 = false := hl
      subst e
      refine wpOp_run (v := .pointer (some ⟨w.heap.size, 5, none⟩)) (w' := x) (by rfl) (by rfl) ?_ (hK _ _ ⟨l0, l1, l2, l3, l4, l5, l6, l7, true, l9, l10, l11, l12, l13, l14, l15, l16, l17, l18, l19, u25, u26, u27, u28, u29, u30, u31, u32, (.pointer (some ⟨w.heap.size, 5, none⟩)), u34, u35, u36, u37, u38, u39, u40, u41, u42, u43, rfl, rfl, { h with p33 := fun _ => rfl }⟩)
      go_simp
     ·have e : l9 = false := hl
      subst e
      have d8 : l8 = true := ready_on hi 8 (by kernel_rfl)
      subst d8
      have c0 : x.cell? ⟨w.heap.size, 5, none⟩ = some (V (some ⟨b, off, none⟩) n.peers.length n.pc) := by rw [← HPA.out]; exact (h.pool.blkAt (i := 2) rfl).c 5 _ rfl
      refine wpOp_run (v := V (some ⟨b, off, none⟩) n.peers.length n.pc) (w' := x) (by rfl) (by rfl) ?_ (hK _ _ ⟨l0, l1, l2, l3, l4, l5, l6, l7, true, true, l10, l11, l12, l13, l14, l15, l16, l17, l18, l19, u25, u26, u27, u28, u29, u30, u31, u32, u33, (V (some ⟨b, off, none⟩) n.peers.length n.pc), u35, u36, u37, u38, u39, u40, u41, u42, u43, rfl, rfl, { h with p34 := fun _ => rfl }⟩)
      rw [h.p33 rfl]
      go_simp
     ·have e : l10 = false := hl
      subst e
      refine wpOp_run (v := J Z (k : Int)) (w' := x) (by rfl) (by rfl) ?_ (hK _ _ ⟨l0, l1, l2, l3, l4, l5, l6, l7, l8, l9, true, l11, l12, l13, l14, l15, l16, l17, l18, l19, u25, u26, u27, u28, u29, u30, u31, u32, u33, u34, (J Z (k : Int)), u36, u37, u38, u39, u40, u41, u42, u43, rfl, rfl, { h with p35 := fun _ => rfl }⟩)
      go_simp
     ·have e : l11 = false := hl
      subst e
      have d9 : l9 = true := ready_on hi 9 (by kernel_rfl)
      subst d9
      have d10 : l10 = true := ready_on hi 10 (by kernel_rfl)
      subst d10
      refine wpOp_run (v := .pointer (some ⟨b, off + k * 4, none⟩)) (w' := x) (by rfl) (by rfl) ?_ (hK _ _ ⟨l0, l1, l2, l3, l4, l5, l6, l7, l8, true, true, true, l12, l13, l14, l15, l16, l17, l18, l19, u25, u26, u27, u28, u29, u30, u31, u32, u33, u34, u35, (.pointer (some ⟨b, off + k * 4, none⟩)), u37, u38, u39, u40, u41, u42, u43, rfl, rfl, { h with p36 := fun _ => rfl }⟩)
      rw [h.p34 rfl, h.p35 rfl]
      go_simp
     ·have e : l12 = false := hl
      subst e
      have d11 : l11 = true := ready_on hi 11 (by kernel_rfl)
      subst d11
      refine wpOp_run (v := .pointer (some ⟨b, off + k * 4 + 1, none⟩)) (w' := x) (by rfl) (by rfl) ?_ (hK _ _ ⟨l0, l1, l2, l3, l4, l5, l6, l7, l8, l9, l10, true, true, l13, l14, l15, l16, l17, l18, l19, u25, u26, u27, u28, u29, u30, u31, u32, u33, u34, u35, u36, (.pointer (some ⟨b, off + k * 4 + 1, none⟩)), u38, u39, u40, u41, u42, u43, rfl, rfl, { h with p37 := fun _ => rfl }⟩)
      rw [h.p36 rfl]
      go_simp
     ·have e : l13 = false := hl
      subst e
      have d12 : l12 = true := ready_on hi 12 (by kernel_rfl)
      subst d12
      obtain ⟨c0, c1, c2, c3⟩ := pr_at HL.out.peers.row h.pool.below HPA.out k hlt
      refine wpOp_run (v := .agg #[V n.peers[k].a n.peers[k].E.out.length n.peers[k].cap, J Z n.peers[k].E.sent, J Z n.peers[k].E.got]) (w' := x) (by rfl) (by rfl) ?_ (hK _ _ ⟨l0, l1, l2, l3, l4, l5, l6, l7, l8, l9, l10, l11, true, true, l14, l15, l16, l17, l18, l19, u25, u26, u27, u28, u29, u30, u31, u32, u33, u34, u35, u36, u37, (.agg #[V n.peers[k].a n.peers[k].E.out.length n.peers[k].cap, J Z n.peers[k].E.sent, J Z n.peers[k].E.got]), u39, u40, u41, u42, u43, rfl, rfl, { h with p38 := fun _ => rfl }⟩)
      rw [h.p37 rfl]
      go_simp
     ·have e : l14 = false := hl
      subst e
      have d13 : l13 = true := ready_on hi 13 (by kernel_rfl)
      subst d13
      have z15 : l15 = false := by
       cases hz : l15
       ·rfl
       ·exact absurd (h.d15_14 hz) (by simp)
      subst z15
      have z16 : l16 = false := by
       cases hz : l16
       ·rfl
       ·exact absurd (h.d16_14 hz) (by simp)
      subst z16
      have z17 : l17 = false := by
       cases hz : l17
       ·rfl
       ·exact absurd (h.d17_14 hz) (by simp)
      subst z17
      refine wpOp_call (by rfl) (by rfl) ?_ (l5Copy_pool n.peers[k].a n.peers[k].E.out n.peers[k].cap n.peers[k].E.sent n.peers[k].E.got x (hs3 _ (List.getElem_mem hlt)) (hp0 _ (List.getElem_mem hlt)) ((HL.out.peers.ends _ (List.getElem_mem hlt)).below h.pool.below)) ?_
      ·rw [h.p38 rfl]; go_simp
      ·rintro e w' ⟨a5, c5, rfl, hb5, st5, hi5⟩
       exact ⟨_, rfl, hK _ _ ⟨l0, l1, l2, l3, l4, l5, l6, l7, l8, l9, l10, l11, l12, true, true, false, false, false, l18, l19, u25, u26, u27, u28, u29, u30, u31, u32, u33, u34, u35, u36, u37, u38, (.agg #[V a5 n.peers[k].E.out.length c5, J Z n.peers[k].E.sent, J Z n.peers[k].E.got]), u40, u41, u42, u43, rfl, rfl, { h with q39 := (fun _ => rfl), q40 := (fun q => by cases q), q41 := (fun q => by cases q), pool := (h.pool.new (i := 6) rfl hb5 st5 hi5), d15_14 := fun _ => rfl, d16_14 := fun _ => rfl, d17_14 := fun _ => rfl }⟩⟩
     ·have e : l15 = false := hl
      subst e
      have d7 : l7 = true := ready_on hi 7 (by kernel_rfl)
      subst d7
      have d14 : l14 = true := ready_on hi 14 (by kernel_rfl)
      subst d14
      have z16 : l16 = false := by
       cases hz : l16
       ·rfl
       ·exact absurd (h.d16_15 hz) (by simp)
      subst z16
      refine wpOp_run (v := .agg #[J Z n.peers[k].id, V (slA u39) n.peers[k].E.out.length (slC u39), J Z n.peers[k].E.sent, J Z n.peers[k].E.got]) (w' := x) (by rfl) (by rfl) ?_ (hK _ _ ⟨l0, l1, l2, l3, l4, l5, l6, true, l8, l9, l10, l11, l12, l13, true, true, false, l17, l18, l19, u25, u26, u27, u28, u29, u30, u31, u32, u33, u34, u35, u36, u37, u38, u39, (.agg #[J Z n.peers[k].id, V (slA u39) n.peers[k].E.out.length (slC u39), J Z n.peers[k].E.sent, J Z n.peers[k].E.got]), u41, u42, u43, rfl, rfl, { h with q40 := (fun _ => rfl), d15_14 := fun _ => rfl, d16_15 := fun _ => rfl }⟩)
      obtain ⟨a5, c5, e39⟩ : ∃ a c, u39 = .agg #[V a n.peers[k].E.out.length c, J Z n.peers[k].E.sent, J Z n.peers[k].E.got] := ⟨_, _, h.q39 rfl⟩
      subst e39
      have e32 := h.p32 rfl
      subst e32
      go_simp
      exact ⟨rfl, rfl⟩
     ·have e : l16 = false := hl
      subst e
      have d15 : l15 = true := ready_on hi 15 (by kernel_rfl)
      subst d15
      have z17 : l17 = false := by
       cases hz : l17
       ·rfl
       ·exact absurd (h.d17_16 hz) (by simp)
      subst z17
      refine wpOp_run (v := V (some ⟨x.heap.size, 0, none⟩) 1 1) (w' := x.alloc (.cells (prCells (⟨n.peers[k].id, slA u39, slC u39, n.peers[k].E⟩ : Pr)).toArray 41)) (by rfl) (by rfl) ?_ (hK _ _ ⟨l0, l1, l2, l3, l4, l5, l6, l7, l8, l9, l10, l11, l12, l13, l14, true, true, false, l18, l19, u25, u26, u27, u28, u29, u30, u31, u32, u33, u34, u35, u36, u37, u38, u39, u40, (V (some ⟨x.heap.size, 0, none⟩) 1 1), u42, u43, rfl, rfl, { h with q41 := (fun _ => rfl), pool := (h.pool.newBlk (i := 7) rfl (prCells (⟨n.peers[k].id, slA u39, slC u39, n.peers[k].E⟩ : Pr)) 41), d16_14 := fun _ => h.d15_14 rfl, d16_15 := fun _ => rfl, d17_16 := fun _ => rfl }⟩)
      rw [h.q40 rfl]
      go_simp
      rfl
     ·have e : l17 = false := hl
      subst e
      have d1 : l1 = true := ready_on hi 1 (by kernel_rfl)
      subst d1
      have d14 : l14 = true := ready_on hi 14 (by kernel_rfl)
      subst d14
      have d16 : l16 = true := ready_on hi 16 (by kernel_rfl)
      subst d16
      have z19 : l19 = false := by
       cases hz : l19
       ·rfl
       ·exact absurd (h.d19_17 hz) (by simp)
      subst z19
      obtain ⟨v', y, hr, hp⟩ := h.pool.append (P := Try.prog) (i0 := 4) rfl 25 25 i1 _ 48 hv hi1 hy0 hy1 hy2 rfl (by decide) (some ⟨gOf (slA u41), 0, none⟩) 1 1 (prCells (⟨n.peers[k].id, slA u39, slC u39, n.peers[k].E⟩ : Pr)) rfl (fun e => by cases e) (blk_news (h.pool.blkAt (i := 7) rfl)) (pr_one _) (by unfold maxLen; omega) (by omega)
      refine wpOp_run (v := v') (w' := y) (by rfl) (by rfl) ?_ (hK _ _ ⟨l0, true, l2, l3, l4, l5, l6, l7, l8, l9, l10, l11, l12, l13, true, l15, true, true, l18, false, u25, u26, u27, u28, u29, u30, u31, u32, u33, u34, u35, u36, u37, u38, u39, u40, u41, (v'), u43, rfl, rfl, { h with pool := (hp), d17_14 := fun _ => rfl, d19_17 := fun _ => rfl, d17_16 := fun _ => rfl }⟩)
      exact exec_append rfl (h.p26 rfl) (h.q41 rfl) hr
     ·have e : l18 = false := hl
      subst e
      have d0 : l0 = true := ready_on hi 0 (by kernel_rfl)
      subst d0
      have d1 : l1 = true := ready_on hi 1 (by kernel_rfl)
      subst d1
      have d2 : l2 = true := ready_on hi 2 (by kernel_rfl)
      subst d2
      have d3 : l3 = true := ready_on hi 3 (by kernel_rfl)
      subst d3
      have d4 : l4 = true := ready_on hi 4 (by kernel_rfl)
      subst d4
      have d5 : l5 = true := ready_on hi 5 (by kernel_rfl)
      subst d5
      have d6 : l6 = true := ready_on hi 6 (by kernel_rfl)
      subst d6
      have d7 : l7 = true := ready_on hi 7 (by kernel_rfl)
      subst d7
      have d8 : l8 = true := ready_on hi 8 (by kernel_rfl)
      subst d8
      have d9 : l9 = true := ready_on hi 9 (by kernel_rfl)
      subst d9
      have d10 : l10 = true := ready_on hi 10 (by kernel_rfl)
      subst d10
      have d11 : l11 = true := ready_on hi 11 (by kernel_rfl)
      subst d11
      have d12 : l12 = true := ready_on hi 12 (by kernel_rfl)
      subst d12
      have d13 : l13 = true := ready_on hi 13 (by kernel_rfl)
      subst d13
      have d14 : l14 = true := ready_on hi 14 (by kernel_rfl)
      subst d14
      have d15 : l15 = true := ready_on hi 15 (by kernel_rfl)
      subst d15
      have d16 : l16 = true := ready_on hi 16 (by kernel_rfl)
      subst d16
      have d17 : l17 = true := ready_on hi 17 (by kernel_rfl)
      subst d17
      refine wpOp_run (v := .pointer (some ⟨B, 5, none⟩)) (w' := x) (by rfl) (by rfl) ?_ (hK _ _ ⟨true, true, true, true, true, true, true, true, true, true, true, true, true, true, true, true, true, true, true, l19, u25, u26, u27, u28, u29, u30, u31, u32, u33, u34, u35, u36, u37, u38, u39, u40, u41, u42, (.pointer (some ⟨B, 5, none⟩)), rfl, rfl, { h with p43 := fun _ => rfl }⟩)
      go_simp
     ·have e : l19 = false := hl
      subst e
      have d0 : l0 = true := ready_on hi 0 (by kernel_rfl)
      subst d0
      have d1 : l1 = true := ready_on hi 1 (by kernel_rfl)
      subst d1
      have d2 : l2 = true := ready_on hi 2 (by kernel_rfl)
      subst d2
      have d3 : l3 = true := ready_on hi 3 (by kernel_rfl)
      subst d3
      have d4 : l4 = true := ready_on hi 4 (by kernel_rfl)
      subst d4
      have d5 : l5 = true := ready_on hi 5 (by kernel_rfl)
      subst d5
      have d6 : l6 = true := ready_on hi 6 (by kernel_rfl)
      subst d6
      have d7 : l7 = true := ready_on hi 7 (by kernel_rfl)
      subst d7
      have d8 : l8 = true := ready_on hi 8 (by kernel_rfl)
      subst d8
      have d9 : l9 = true := ready_on hi 9 (by kernel_rfl)
      subst d9
      have d10 : l10 = true := ready_on hi 10 (by kernel_rfl)
      subst d10
      have d11 : l11 = true := ready_on hi 11 (by kernel_rfl)
      subst d11
      have d12 : l12 = true := ready_on hi 12 (by kernel_rfl)
      subst d12
      have d13 : l13 = true := ready_on hi 13 (by kernel_rfl)
      subst d13
      have d14 : l14 = true := ready_on hi 14 (by kernel_rfl)
      subst d14
      have d15 : l15 = true := ready_on hi 15 (by kernel_rfl)
      subst d15
      have d16 : l16 = true := ready_on hi 16 (by kernel_rfl)
      subst d16
      have d17 : l17 = true := ready_on hi 17 (by kernel_rfl)
      subst d17
      have d18 : l18 = true := ready_on hi 18 (by kernel_rfl)
      subst d18
      refine wpOp_skip (w' := x.setCell ⟨B, 5, none⟩ u42) (by rfl) (by rfl) ?_ (hK _ _ ⟨true, true, true, true, true, true, true, true, true, true, true, true, true, true, true, true, true, true, true, true, u25, u26, u27, u28, u29, u30, u31, u32, u33, u34, u35, u36, u37, u38, u39, u40, u41, u42, u43, rfl, rfl, { h with pool := (h.pool.setBlk (i := 1) rfl 5 u42 (by simp)), d19_17 := fun _ => rfl, d19_1 := fun _ => rfl }⟩)
      obtain ⟨a6, c6, e6⟩ := row_shape (h.pool.rowAt (i := 4) rfl)
      have A := h.pool.blkAt (i := 1) rfl
      have t5 := A.c 5 _ rfl
      have f5 := A.f 5
      have e43 := h.p43 rfl
      clear h A
      subst e6 e43
      go_simp
    ·rintro L act x ⟨l0, l1, l2, l3, l4, l5, l6, l7, l8, l9, l10, l11, l12, l13, l14, l15, l16, l17, l18, l19, u25, u26, u27, u28, u29, u30, u31, u32, u33, u34, u35, u36, u37, u38, u39, u40, u41, u42, u43, rfl, rfl, h⟩ hr
     have hall := ready_all hr rfl (by decide)
     have t0 : l0 = true := hall 0 (by decide)
     have t1 : l1 = true := hall 1 (by decide)
     have t2 : l2 = true := hall 2 (by decide)
     have t3 : l3 = true := hall 3 (by decide)
     have t4 : l4 = true := hall 4 (by decide)
     have t5 : l5 = true := hall 5 (by decide)
     have t6 : l6 = true := hall 6 (by decide)
     have t7 : l7 = true := hall 7 (by decide)
     have t8 : l8 = true := hall 8 (by decide)
     have t9 : l9 = true := hall 9 (by decide)
     have t10 : l10 = true := hall 10 (by decide)
     have t11 : l11 = true := hall 11 (by decide)
     have t12 : l12 = true := hall 12 (by decide)
     have t13 : l13 = true := hall 13 (by decide)
     have t14 : l14 = true := hall 14 (by decide)
     have t15 : l15 = true := hall 15 (by decide)
     have t16 : l16 = true := hall 16 (by decide)
     have t17 : l17 = true := hall 17 (by decide)
     have t18 : l18 = true := hall 18 (by decide)
     have t19 : l19 = true := hall 19 (by decide)
     subst t0 t1 t2 t3 t4 t5 t6 t7 t8 t9 t10 t11 t12 t13 t14 t15 t16 t17 t18 t19
     clear hall hr
     have HM2 : Hid (Pool [] w [[row 70 2 (V a4 n.seen.length c4) n.seen.length (n.seen.flatMap snCells)], [blk B [J Z n.id, J Z n.has, J Z n.spent, J Z n.earned, V a4 n.seen.length c4, u42]], [blk w.heap.size (ndCells n)], [blk (w.heap.size + 1) [J Z 0, J Z 0, J Z 0, J Z 0, V none 0 0, V none 0 0]], [row 41 4 u42 (k + 1) ((PL ++ [(⟨n.peers[k].id, slA u39, slC u39, n.peers[k].E⟩ : Pr)]).flatMap prCells)], endsL (PL ++ [(⟨n.peers[k].id, slA u39, slC u39, n.peers[k].E⟩ : Pr)]), [], []] x) := hide ((h.pool.drop (i := 7) rfl).cast (by simp [endsL_app]))
     clear h
     refine hK5 _ _ ?_
     clear hK5 HM
     go_wp2
     exact ⟨⟨k + 1, u42, PL ++ [(⟨n.peers[k].id, slA u39, slC u39, n.peers[k].E⟩ : Pr)], by omega, by go_num, (by simp [HLL.out]), (by rw [List.take_succ_eq_append_getElem hlt, List.map_append, List.map_append, HD.out]; rfl), HM2⟩, by simp [intOf]; omega⟩
   ·obtain ⟨a7, c7, e7⟩ := row_shape (HM.out.rowAt (i := 4) rfl)
    subst e7
    have hke : k = PL.length := HLL.out.symm
    subst hke
    have hk' : ¬ (PL.length : Int) < (n.peers.length : Int) := by omega
    obtain ⟨a8, c8, e8, HM8⟩ := HM.out.asOrow snLen (i := 0) (l := n.seen) rfl
    obtain ⟨a9, c9, e9, HM9⟩ := HM8.asOrow prLen (i := 4) (l := PL) rfl
    simp only [Value.slice.injEq, true_and] at e8 e9
    obtain ⟨rfl, rfl⟩ := e8
    obtain ⟨rfl, rfl⟩ := e9
    have hlen : PL.length = n.peers.length := by omega
    have HE : Hid (CopyEnd n.d w (.returned (ndV ⟨n.id, n.has, n.spent, n.earned, a4, c4, n.seen, a7, c7, PL⟩)) ((((((wr.setCell ⟨w.heap.size + 1, 0, none⟩ (J Z n.id)).setCell ⟨w.heap.size + 1, 1, none⟩ (J Z n.has)).setCell ⟨w.heap.size + 1, 2, none⟩ (J Z n.spent)).setCell ⟨w.heap.size + 1, 3, none⟩ (J Z n.earned)).setCell ⟨w.heap.size + 1, 4, none⟩ (V a4 n.seen.length c4)).setCell ⟨w.heap.size + 1, 5, none⟩ (V a7 PL.length c7))) := hide ⟨_, rfl, (by
     have := HD.out
     rw [hlen, List.take_length] at this
     simp only [Nd.d, this]), row_near (HM.out.rowAt (i := 0) rfl), ((((((((((HM9.setBlk (i := 3) rfl 0 (J Z n.id) (by simp)).setBlk (i := 3) rfl 1 (J Z n.has) (by simp)).setBlk (i := 3) rfl 2 (J Z n.spent) (by simp)).setBlk (i := 3) rfl 3 (J Z n.earned) (by simp)).setBlk (i := 3) rfl 4 (V a4 n.seen.length c4) (by simp)).setBlk (i := 3) rfl 5 (V a7 PL.length c7) (by simp))).drop (i := 3) rfl).drop (i := 2) rfl).drop (i := 1) rfl).cast (by simp [ndL])⟩
    have AB := HM9.blkAt (i := 1) rfl
    have AR := HM9.blkAt (i := 3) rfl
    have b0 := AB.c 0 _ rfl
    have r0 := AR.c 0 _ rfl
    have z0 := AR.f 0
    have b1 := AB.c 1 _ rfl
    have r1 := AR.c 1 _ rfl
    have z1 := AR.f 1
    have b2 := AB.c 2 _ rfl
    have r2 := AR.c 2 _ rfl
    have z2 := AR.f 2
    have b3 := AB.c 3 _ rfl
    have r3 := AR.c 3 _ rfl
    have z3 := AR.f 3
    have b4 := AB.c 4 _ rfl
    have r4 := AR.c 4 _ rfl
    have z4 := AR.f 4
    have b5 := AB.c 5 _ rfl
    have r5 := AR.c 5 _ rfl
    have z5 := AR.f 5
    obtain ⟨W9, hW9⟩ : ∃ W9, W9 = ((((((wr.setCell ⟨w.heap.size + 1, 0, none⟩ (J Z n.id)).setCell ⟨w.heap.size + 1, 1, none⟩ (J Z n.has)).setCell ⟨w.heap.size + 1, 2, none⟩ (J Z n.spent)).setCell ⟨w.heap.size + 1, 3, none⟩ (J Z n.earned)).setCell ⟨w.heap.size + 1, 4, none⟩ (V a4 n.seen.length c4)).setCell ⟨w.heap.size + 1, 5, none⟩ (V a7 PL.length c7)) := ⟨_, rfl⟩
    have AZ := (((((((HM9.setBlk (i := 3) rfl 0 (J Z n.id) (by simp)).setBlk (i := 3) rfl 1 (J Z n.has) (by simp)).setBlk (i := 3) rfl 2 (J Z n.spent) (by simp)).setBlk (i := 3) rfl 3 (J Z n.earned) (by simp)).setBlk (i := 3) rfl 4 (V a4 n.seen.length c4) (by simp)).setBlk (i := 3) rfl 5 (V a7 PL.length c7) (by simp))).blkAt (i := 3) rfl
    rw [← hW9] at AZ HE
    have HW9 : Hid _ := hide hW9
    have HAZ : Hid _ := hide AZ
    clear AB AR HM8 HM9 HM hlen hW9 AZ
    go_wp2
    rw [← HW9.out]
    have g0 := HAZ.out.c 0 _ rfl
    have g1 := HAZ.out.c 1 _ rfl
    have g2 := HAZ.out.c 2 _ rfl
    have g3 := HAZ.out.c 3 _ rfl
    have g4 := HAZ.out.c 4 _ rfl
    have g5 := HAZ.out.c 5 _ rfl
    exact bodyPost_ret (v := ndV ⟨n.id, n.has, n.spent, n.earned, a4, c4, n.seen, a7, c7, PL⟩) (by simp [results, Try.results18, go_sem, g0, g1, g2, g3, g4, g5, ndV]) rfl HE.out
end Go.Proofs.Ytkcpoibhlnjldaa
