/- The model's l5Copy, at any row. -/
import Derived.Test.YtkcpoibhlnjldaaBa
import Derived.Test.YtkcpoibhlnjldaaRcv
namespace Go.Proofs.Ytkcpoibhlnjldaa
open Go.Value renaming int → J, slice → V
open Go.IntKind renaming i64 → Z
open Go renaming undef → U
open Go.ChangeShapes Go.WideShapes Go.ChangeAt Go.RowKit
set_option linter.unusedVariables false
theorem ResMid.set3 {b : Nat} {x : World} (h : ResMid b x) (u v z : Value) : ResMid b (((x.setCell ⟨b, 0, none⟩ u).setCell ⟨b, 1, none⟩ v).setCell ⟨b, 2, none⟩ z) := by
 obtain ⟨⟨t0, r0⟩, ⟨t1, r1⟩, ⟨t2, r2⟩⟩ := And.intro (h.c 0 (by omega)) (And.intro (h.c 1 (by omega)) (h.c 2 (by omega)))
 refine ⟨by simpa [World.setCell] using h.lt, fun j hj => ?_, fun j => by simpa using h.f j⟩
 match j, hj with
 | 0, _ => exact ⟨u, by rw [cell_set_other (.inr (by simp)), cell_set_other (.inr (by simp))]; exact cell_set_same r0⟩
 | 1, _ => exact ⟨v, by rw [cell_set_other (.inr (by simp))]; exact cell_set_same (by rw [cell_set_other (.inr (by simp))]; exact r1)⟩
 | 2, _ => exact ⟨z, cell_set_same (by rw [cell_set_other (.inr (by simp)), cell_set_other (.inr (by simp))]; exact r2)⟩
/-- what holds in the midst of its region -/
structure CpF (s n : Nat) (wp : World) (a0 : Option Addr) (cap : Nat) (xs : List Value) (sent got : Int) (l0 l1 l2 l3 l4 l5 l6 l7 l8 l9 : Bool) (u3 u4 u5 u6 u7 u8 u9 u10 u11 : Value) (x : World) : Prop where
 bel : Below (s + 1) wp x
 sz : s + 2 ≤ x.heap.size
 res : ResMid (s + 1) x
 r0 : l0 = true → l3 = false → x.ownsRow (s + 2) 61 2 u3 0 []
 r1 : l3 = true → x.ownsRow (s + 2) 61 2 u6 n xs
 q11 : l8 = true → l3 = true ∧ u11 = .agg #[u6, J Z sent, J Z got]
 d9 : l9 = true → l3 = true
 fin : l9 = true → x.cell? ⟨s + 1, 0, none⟩ = some u6 ∧ x.cell? ⟨s + 1, 1, none⟩ = some (J Z sent) ∧ x.cell? ⟨s + 1, 2, none⟩ = some (J Z got)
 p4 : l1 = true → u4 = .pointer (some ⟨s, 0, none⟩)
 p5 : l2 = true → u5 = V a0 n cap
 p7 : l4 = true → u7 = .pointer (some ⟨s, 1, none⟩)
 p8 : l5 = true → u8 = J Z sent
 p9 : l6 = true → u9 = .pointer (some ⟨s, 2, none⟩)
 p10 : l7 = true → u10 = J Z got
theorem CpF.s0 {s n : Nat} {wp : World} {a0 : Option Addr} {cap : Nat} {xs : List Value} {sent got : Int} {l1 l2 l3 l4 l5 l6 l7 l8 l9 : Bool} {u3 u4 u5 u6 u7 u8 u9 u10 u11 : Value} {x : World} (h : CpF s n wp a0 cap xs sent got false l1 l2 l3 l4 l5 l6 l7 l8 l9 u3 u4 u5 u6 u7 u8 u9 u10 u11 x) : CpF s n wp a0 cap xs sent got true l1 l2 l3 l4 l5 l6 l7 l8 l9 (V (some ⟨x.heap.size, 0, none⟩) 0 0) u4 u5 u6 u7 u8 u9 u10 u11 (x.alloc (.cells #[] 61)) := by
 have hsz := h.sz
 have gr := World.grownBy_alloc x (.cells #[] 61) none
 exact { h with
  bel := h.bel.alloc (by omega) _
  sz := Nat.le_trans hsz gr.size
  res := h.res.keep (gr.block _ h.res.lt (by simp)) gr.size
  r0 := fun _ _ => World.ownsRow_made x #[] 0 hsz (by unfold maxLen; omega) rfl
  r1 := fun a => (h.r1 a).alloc _
  fin := fun q => by
   obtain ⟨a, b, c⟩ := h.fin q
   exact ⟨(gr.cell_far _ h.res.lt (by simp)).trans a, (gr.cell_far _ h.res.lt (by simp)).trans b, (gr.cell_far _ h.res.lt (by simp)).trans c⟩ }
theorem CpF.s3 {s n : Nat} {wp : World} {a0 : Option Addr} {cap : Nat} {xs : List Value} {sent got : Int} {l1 l4 l5 l6 l7 l8 l9 : Bool} {u3 u4 u5 u6 u7 u8 u9 u10 u11 : Value} {x : World} {y : World} {v : Value} (h : CpF s n wp a0 cap xs sent got true l1 true false l4 l5 l6 l7 l8 l9 u3 u4 u5 u6 u7 u8 u9 u10 u11 x) (ho : y.ownsRow (s + 2) 61 2 v n xs) (hg : x.grownBy y u3.ownBlock) (hl : v.ownBlock = u3.ownBlock ∨ v.ownBlock = some x.heap.size) : CpF s n wp a0 cap xs sent got true l1 true true l4 l5 l6 l7 l8 l9 u3 u4 u5 v u7 u8 u9 u10 u11 y := by
 have hsz := h.sz
 have own := h.r0 rfl rfl
 have lo : ∀ k, u3.ownBlock = some k → s + 2 ≤ k := fun k hk => (own.lt k hk).1
 exact { h with
  bel := h.bel.grown hg (by omega) (fun k hk => by have := lo k hk; omega)
  sz := Nat.le_trans hsz hg.size
  res := h.res.keep (hg.block _ h.res.lt (fun q => by have := lo _ q.symm; omega)) hg.size
  r0 := fun _ q => by cases q
  r1 := fun _ => ho
  q11 := fun q => absurd (h.q11 q).1 (by simp)
  d9 := fun _ => rfl
  fin := fun q => absurd (h.d9 q) (by simp) }
theorem CpF.s9 {s n : Nat} {wp : World} {a0 : Option Addr} {cap : Nat} {xs : List Value} {sent got : Int} {u3 u4 u5 u6 u7 u8 u9 u10 u11 : Value} {x : World} (h : CpF s n wp a0 cap xs sent got true true true true true true true true true false u3 u4 u5 u6 u7 u8 u9 u10 u11 x) : CpF s n wp a0 cap xs sent got true true true true true true true true true true u3 u4 u5 u6 u7 u8 u9 u10 u11 (((x.setCell ⟨s + 1, 0, none⟩ u6).setCell ⟨s + 1, 1, none⟩ (J Z sent)).setCell ⟨s + 1, 2, none⟩ (J Z got)) := by
 have hsz := h.sz
 have own := h.r1 rfl
 have hn : u6.ownBlock = none ∨ u6.ownBlock ≠ some (s + 1) := .inr (fun q => by have := (own.lt _ q).1; omega)
 obtain ⟨⟨t0, r0⟩, ⟨t1, r1⟩, ⟨t2, r2⟩⟩ := And.intro (h.res.c 0 (by omega)) (And.intro (h.res.c 1 (by omega)) (h.res.c 2 (by omega)))
 have b0 : x.cell? ⟨s + 1, 0, none⟩ = some t0 := r0
 exact { h with
  bel := ((h.bel.setCell (p := ⟨s + 1, 0, none⟩) (Nat.le_refl _) _).setCell (p := ⟨s + 1, 1, none⟩) (Nat.le_refl _) _).setCell (p := ⟨s + 1, 2, none⟩) (Nat.le_refl _) _
  sz := by simpa [World.setCell] using hsz
  res := ((h.res.set3 u6 (J Z sent) (J Z got)))
  r0 := fun _ q => by cases q
  r1 := fun _ => ((own.kept (grown_set _ _ _ _) hn).kept (grown_set _ _ _ _) hn).kept (grown_set _ _ _ _) hn
  d9 := fun _ => rfl
  fin := fun _ => ⟨by rw [cell_set_other (.inr (by simp)), cell_set_other (.inr (by simp))]; exact cell_set_same r0, by rw [cell_set_other (.inr (by simp))]; exact cell_set_same (by rw [cell_set_other (.inr (by simp))]; exact r1), cell_set_same (by rw [cell_set_other (.inr (by simp)), cell_set_other (.inr (by simp))]; exact r2)⟩ }
set_option maxRecDepth 100000 in
set_option maxHeartbeats 2000000 in
theorem l5Copy_any (a0 : Option Addr) (l : List Prc) (cap : Nat) (sent got : Int) (w : World) (hl : l.length ≤ 1048576) (hn0 : a0 = none → cap = 0) (h : RowAt 2 prcCells w a0 l) :
  Calls Try.prog 49 #[.agg #[V a0 l.length cap, J Z sent, J Z got]] w fun e w' => EndEnd l sent got w e w' := by
 obtain ⟨i0, hi0, hz0, hz1, hz2⟩ := info_parts info34
 have hu27 : Try.prog.underlying 37 = some (.slice 61) := by kernel_rfl
 obtain ⟨W, hW⟩ : ∃ W, W = (w.alloc (.cells #[V a0 l.length cap, J Z sent, J Z got] 39)).alloc (.cells #[V none 0 0, J Z 0, J Z 0] 39) := ⟨_, rfl⟩
 have HW : Hid ((w.alloc (.cells #[V a0 l.length cap, J Z sent, J Z got] 39)).alloc (.cells #[V none 0 0, J Z 0, J Z 0] 39) = W) := hide hW.symm
 have b1 : Below (w.heap.size + 1) (w.alloc (.cells #[V a0 l.length cap, J Z sent, J Z got] 39)) W := by rw [hW]; exact (Below.refl _ _).alloc (by simp) _
 have b2 : Below ((w.alloc (.cells #[V a0 l.length cap, J Z sent, J Z got] 39)).heap.size + 1) ((w.alloc (.cells #[V a0 l.length cap, J Z sent, J Z got] 39)).alloc (.cells #[V none 0 0, J Z 0, J Z 0] 39)) W := by rw [hW]; exact Below.refl _ _
 obtain ⟨x0, x1, x2⟩ := box3 b1
 have HC0 : Hid _ := hide x0
 have HC1 : Hid _ := hide x1
 have HC2 : Hid _ := hide x2
 have HB : Hid (Below w.heap.size w W) := hide (box_old b1)
 have HB1 : Hid (Below (w.heap.size + 1) W W.drew) := hide (Below.refl _ _).drew
 have sW : W.heap.size = w.heap.size + 2 := by rw [hW]; simp
 have HSZ : Hid (w.heap.size + 2 ≤ W.drew.heap.size) := hide (by show _ ≤ W.heap.size; omega)
 have HR : Hid (ResMid (w.heap.size + 1) W.drew) := hide (by
  obtain ⟨⟨y0, y1, y2⟩, fy⟩ := new_block b2
  rw [show (w.alloc (.cells #[V a0 l.length cap, J Z sent, J Z got] 39)).heap.size = w.heap.size + 1 by simp] at y0 y1 y2 fy
  refine ⟨by show _ < W.heap.size; omega, fun j hj => ?_, fy⟩
  match j, hj with
  | 0, _ => exact ⟨_, y0⟩
  | 1, _ => exact ⟨_, y1⟩
  | 2, _ => exact ⟨_, y2⟩)
 have HL : Hid _ := hide h
 have HN : Hid _ := hide (h.news_any prcLen (by decide))
 clear h hW b1 b2 x0 x1 x2 sW
 go_enter Try.func49, Try.ntmps49
 go_wp2_with fail
 rw [HW.out]
 rename_i K0 hK0
 refine wp_region_inv (by kernel_rfl) (fun L a x => ∃ l0 l1 l2 l3 l4 l5 l6 l7 l8 l9 : Bool, ∃ u3 u4 u5 u6 u7 u8 u9 u10 u11 : Value, L = #[l0, l1, l2, l3, l4, l5, l6, l7, l8, l9] ∧ a = { tmps := #[Value.agg #[V a0 l.length cap, J Z sent, J Z got], Value.pointer (some { block := w.heap.size, off := 0 }), Value.pointer (some { block := w.heap.size + 1, off := 0 }), u3, u4, u5, u6, u7, u8, u9, u10, u11], defers := [] } ∧ CpF w.heap.size l.length W a0 cap (l.flatMap prcCells) sent got l0 l1 l2 l3 l4 l5 l6 l7 l8 l9 u3 u4 u5 u6 u7 u8 u9 u10 u11 x) ?_ ?_ ?_
 rotate_left 2
 ·exact ⟨false, false, false, false, false, false, false, false, false, false, U, U, U, U, U, U, U, U, U, rfl, rfl, ⟨HB1.out, HSZ.out, HR.out, nofun, nofun, nofun, nofun, nofun, nofun, nofun, nofun, nofun, nofun, nofun⟩⟩
 ·rintro L a x i ⟨l0, l1, l2, l3, l4, l5, l6, l7, l8, l9, u3, u4, u5, u6, u7, u8, u9, u10, u11, rfl, rfl, h⟩ hi K hK
  have hi15 : i < 10 := by
   obtain ⟨_, o, ho, _⟩ := mem_ready.1 hi
   exact (Array.getElem?_eq_some_iff.1 ho).1
  have hl := (mem_ready.1 hi).1
  obtain rfl | rfl | rfl | rfl | rfl | rfl | rfl | rfl | rfl | rfl := (by omega : i = 0 ∨ i = 1 ∨ i = 2 ∨ i = 3 ∨ i = 4 ∨ i = 5 ∨ i = 6 ∨ i = 7 ∨ i = 8 ∨ i = 9)
  ·have e : l0 = false := hl
   subst e
   refine wpOp_run (v := V (some ⟨x.heap.size, 0, none⟩) 0 0) (w' := x.alloc (.cells #[] 61)) (by rfl) (by rfl) ?_ (hK _ _ ⟨true, l1, l2, l3, l4, l5, l6, l7, l8, l9, (V (some ⟨x.heap.size, 0, none⟩) 0 0), u4, u5, u6, u7, u8, u9, u10, u11, rfl, rfl, h.s0⟩)
   go_simp
  ·have e : l1 = false := hl
   subst e
   refine wpOp_run (v := .pointer (some ⟨w.heap.size, 0, none⟩)) (w' := x) (by rfl) (by rfl) ?_ (hK _ _ ⟨l0, true, l2, l3, l4, l5, l6, l7, l8, l9, u3, (.pointer (some ⟨w.heap.size, 0, none⟩)), u5, u6, u7, u8, u9, u10, u11, rfl, rfl, { h with p4 := fun _ => rfl }⟩)
   go_simp
  ·have e : l2 = false := hl
   subst e
   have d1 : l1 = true := ready_on hi 1 (by kernel_rfl)
   subst d1
   have c0 : x.cell? ⟨w.heap.size, 0, none⟩ = some (V a0 l.length cap) := (h.bel.cell (by show w.heap.size < _; omega)).trans HC0.out
   refine wpOp_run (v := V a0 l.length cap) (w' := x) (by rfl) (by rfl) ?_ (hK _ _ ⟨l0, true, true, l3, l4, l5, l6, l7, l8, l9, u3, u4, (V a0 l.length cap), u6, u7, u8, u9, u10, u11, rfl, rfl, { h with p5 := fun _ => rfl }⟩)
   rw [h.p4 rfl]
   go_simp
  ·have e : l3 = false := hl
   subst e
   have d0 : l0 = true := ready_on hi 0 (by kernel_rfl)
   subst d0
   have d2 : l2 = true := ready_on hi 2 (by kernel_rfl)
   subst d2
   have hsz := h.sz
   obtain ⟨v', y, hr, ho, hg, hlie⟩ := run_append_any (P := Try.prog) (w := x) (w.heap.size + 2) 37 37 61 i0 _ 2 16 hu27 hi0 hz0 hz1 hz2 rfl (by decide) _ 0 [] (h.r0 rfl rfl) a0 l.length cap (l.flatMap prcCells) (flat_len prcCells 2 prcLen l) (fun e => ⟨row_none HL.out e, hn0 e⟩) (fun ad had j u hj => below_keeps (HB.out.trans (h.bel.mono (by omega))) _ _ (HN.out ad had j u hj)) (prc_one l) (by unfold maxLen; omega) (by omega) hsz
   rw [Nat.zero_add, List.nil_append] at ho
   refine wpOp_run (v := v') (w' := y) (by rfl) (by rfl) ?_ (hK _ _ ⟨true, l1, true, true, l4, l5, l6, l7, l8, l9, u3, u4, u5, (v'), u7, u8, u9, u10, u11, rfl, rfl, h.s3 ho hg hlie⟩)
   exact exec_append rfl (by rfl) (h.p5 rfl) hr
  ·have e : l4 = false := hl
   subst e
   refine wpOp_run (v := .pointer (some ⟨w.heap.size, 1, none⟩)) (w' := x) (by rfl) (by rfl) ?_ (hK _ _ ⟨l0, l1, l2, l3, true, l5, l6, l7, l8, l9, u3, u4, u5, u6, (.pointer (some ⟨w.heap.size, 1, none⟩)), u8, u9, u10, u11, rfl, rfl, { h with p7 := fun _ => rfl }⟩)
   go_simp
  ·have e : l5 = false := hl
   subst e
   have d4 : l4 = true := ready_on hi 4 (by kernel_rfl)
   subst d4
   have c0 : x.cell? ⟨w.heap.size, 1, none⟩ = some (J Z sent) := (h.bel.cell (by show w.heap.size < _; omega)).trans HC1.out
   refine wpOp_run (v := J Z sent) (w' := x) (by rfl) (by rfl) ?_ (hK _ _ ⟨l0, l1, l2, l3, true, true, l6, l7, l8, l9, u3, u4, u5, u6, u7, (J Z sent), u9, u10, u11, rfl, rfl, { h with p8 := fun _ => rfl }⟩)
   rw [h.p7 rfl]
   go_simp
  ·have e : l6 = false := hl
   subst e
   refine wpOp_run (v := .pointer (some ⟨w.heap.size, 2, none⟩)) (w' := x) (by rfl) (by rfl) ?_ (hK _ _ ⟨l0, l1, l2, l3, l4, l5, true, l7, l8, l9, u3, u4, u5, u6, u7, u8, (.pointer (some ⟨w.heap.size, 2, none⟩)), u10, u11, rfl, rfl, { h with p9 := fun _ => rfl }⟩)
   go_simp
  ·have e : l7 = false := hl
   subst e
   have d6 : l6 = true := ready_on hi 6 (by kernel_rfl)
   subst d6
   have c0 : x.cell? ⟨w.heap.size, 2, none⟩ = some (J Z got) := (h.bel.cell (by show w.heap.size < _; omega)).trans HC2.out
   refine wpOp_run (v := J Z got) (w' := x) (by rfl) (by rfl) ?_ (hK _ _ ⟨l0, l1, l2, l3, l4, l5, true, true, l8, l9, u3, u4, u5, u6, u7, u8, u9, (J Z got), u11, rfl, rfl, { h with p10 := fun _ => rfl }⟩)
   rw [h.p9 rfl]
   go_simp
  ·have e : l8 = false := hl
   subst e
   have d3 : l3 = true := ready_on hi 3 (by kernel_rfl)
   subst d3
   have d5 : l5 = true := ready_on hi 5 (by kernel_rfl)
   subst d5
   have d7 : l7 = true := ready_on hi 7 (by kernel_rfl)
   subst d7
   obtain ⟨a4, c4, e4⟩ := row_shape (h.r1 rfl)
   refine wpOp_run (v := .agg #[u6, J Z sent, J Z got]) (w' := x) (by rfl) (by rfl) ?_ (hK _ _ ⟨l0, l1, l2, true, l4, true, l6, true, true, l9, u3, u4, u5, u6, u7, u8, u9, u10, (.agg #[u6, J Z sent, J Z got]), rfl, rfl, { h with q11 := fun _ => ⟨rfl, rfl⟩ }⟩)
   rw [h.p8 rfl, h.p10 rfl, e4]
   go_simp
  ·have e : l9 = false := hl
   subst e
   have d0 : l0 = true := ready_on hi 0 (by kernel_rfl)
   subst d0
   have d1 : l1 = true := ready_on hi 1 (by kernel_rfl)
   subst d1
   have d2 : l2 = true := ready_on hi 2 (by kernel_rfl)
   subst d2
   have d3 : l3 = true := ready_on hi 3 (by kernel_rfl)
   subst d3
   have d4 : l4 = true := ready_on hi 4 (by kernel_rfl)
   subst d4
   have d5 : l5 = true := ready_on hi 5 (by kernel_rfl)
   subst d5
   have d6 : l6 = true := ready_on hi 6 (by kernel_rfl)
   subst d6
   have d7 : l7 = true := ready_on hi 7 (by kernel_rfl)
   subst d7
   have d8 : l8 = true := ready_on hi 8 (by kernel_rfl)
   subst d8
   obtain ⟨a4, c4, e4⟩ := row_shape (h.r1 rfl)
   obtain ⟨⟨t0, r0⟩, ⟨t1, r1⟩, ⟨t2, r2⟩⟩ := And.intro (h.res.c 0 (by omega)) (And.intro (h.res.c 1 (by omega)) (h.res.c 2 (by omega)))
   have f0 := h.res.f 0
   have f1 := h.res.f 1
   have f2 := h.res.f 2
   refine wpOp_skip (w' := (((x.setCell ⟨w.heap.size + 1, 0, none⟩ u6).setCell ⟨w.heap.size + 1, 1, none⟩ (J Z sent)).setCell ⟨w.heap.size + 1, 2, none⟩ (J Z got))) (by rfl) (by rfl) ?_ (hK _ _ ⟨true, true, true, true, true, true, true, true, true, true, u3, u4, u5, u6, u7, u8, u9, u10, u11, rfl, rfl, h.s9⟩)
   rw [(h.q11 rfl).2, e4]
   go_simp
 ·rintro L a x ⟨l0, l1, l2, l3, l4, l5, l6, l7, l8, l9, u3, u4, u5, u6, u7, u8, u9, u10, u11, rfl, rfl, h⟩ hr
  have hall := ready_all hr rfl (by decide)
  have t0 : l0 = true := hall 0 (by decide)
  have t1 : l1 = true := hall 1 (by decide)
  have t2 : l2 = true := hall 2 (by decide)
  have t3 : l3 = true := hall 3 (by decide)
  have t4 : l4 = true := hall 4 (by decide)
  have t5 : l5 = true := hall 5 (by decide)
  have t6 : l6 = true := hall 6 (by decide)
  have t7 : l7 = true := hall 7 (by decide)
  have t8 : l8 = true := hall 8 (by decide)
  have t9 : l9 = true := hall 9 (by decide)
  subst t0 t1 t2 t3 t4 t5 t6 t7 t8 t9
  clear hall hr
  obtain ⟨c0, c1, c2⟩ := h.fin rfl
  obtain ⟨g4, a4, cap4, hb4, e4, ho4⟩ := own_of_row prcLen (h.r1 rfl)
  rw [e4] at c0
  have HE : Hid (EndEnd l sent got w (.returned (.agg #[V a4 l.length cap4, J Z sent, J Z got])) x) := hide ⟨HB.out.trans (h.bel.mono (by omega)), _, rfl, g4, a4, cap4, by omega, rfl, ho4⟩
  clear h ho4 hb4 e4
  refine hK0 _ _ ?_
  go_wp2
  exact bodyPost_ret (v := .agg #[V a4 l.length cap4, J Z sent, J Z got]) (by simp [results, Try.results49, go_sem, c0, c1, c2]) rfl HE.out
end Go.Proofs.Ytkcpoibhlnjldaa
