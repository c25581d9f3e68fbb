/- The model's Packed. -/
import Derived.Test.YtkcpoibhlnjldaaPf
import Derived.Deep.RegionHeld3
namespace Go.Proofs.Ytkcpoibhlnjldaa
open Go.Value renaming int → J, slice → V
open Go.IntKind renaming i64 → Z
open Go renaming undef → U
open Go.ChangeShapes Go.WideShapes Go.ChangeAt Go.RowKit
set_option linter.unusedVariables false
set_option maxRecDepth 100000 in
set_option maxHeartbeats 1500000 in
theorem specPacked_yes (a0 : Option Addr) (l : List Prc) (cap : Nat) (sent got amt : Int) (w : World) (hl : l.length ≤ 1048576) (hn0 : a0 = none → cap = 0) (hyes : pkOk ⟨l, sent, got⟩ amt = true) (h : RowAt 2 prcCells w a0 l) :
  Calls Try.prog 24 #[.agg #[V a0 l.length cap, J Z sent, J Z got], J Z amt] w fun e w' => EndPrc (pkE ⟨l, sent, got⟩ amt) (pkP ⟨l, sent, got⟩ amt) (pkOk ⟨l, sent, got⟩ amt) w e w' := by
 have HC : Hid _ := hide h
 clear h
 have HW : Hid _ := hide (pk_start w (V a0 l.length cap) sent got)
 have q : endB ⟨l, sent, got⟩ = true := by cases q : endB ⟨l, sent, got⟩ <;> simp [pkOk, q] at hyes ⊢
 have q2 : inB 1 1000000000000 amt = true := by cases q2 : inB 1 1000000000000 amt <;> simp [pkOk, q2] at hyes ⊢
 have q3 : ((l.length : Int) == 8) = false := by
  have h3 : l.length ≠ 8 := by intro e; simp [pkOk, e] at hyes
  simp; omega
 have q4 : (sent == 1000000000) = false := by
  have h4 : sent ≠ 1000000000 := by intro e; simp [pkOk, e] at hyes
  simpa using h4
 have HY : Hid _ := hide hyes
 clear hyes
 go_enter Try.func24, Try.ntmps24
 go_wp2_with fail
 refine (specEndOk_any a0 l cap sent got _ hl (HC.out.below HW.out.old)).mono ?_
 rintro e w1 ⟨rfl, hb1⟩
 have HA1 : Hid _ := hide (HW.out.next hb1)
 clear hb1 HW
 have y0 := HA1.out.e0
 have y1 := HA1.out.e1
 have y2 := HA1.out.e2
 have hs0 : 0 ≤ sent := (endB_parts q).2.1.1
 have hs1 : sent ≤ 1000000000 := (endB_parts q).2.1.2
 have h8 : l.length ≤ 8 := (endB_parts q).1
 have h7 : l.length < 8 := by simp at q3; omega
 have hs2 : sent < 1000000000 := by simp at q4; omega
 rw [q]
 go_wp2_with (first | (go_at_call 47; refine (l1In_any _ _ _ _).mono ?_; rintro e w' ⟨rfl, hw'⟩; have hw'' := hw'.symm; subst hw''; rw [q2]))
 rename_i K0 hK0
 obtain ⟨i0, hi0, hz0, hz1, hz2⟩ := info_parts info34
 have hu27 : Try.prog.underlying 37 = some (.slice 61) := by kernel_rfl
 have HB0 : Hid ((w1.alloc (.cells #[J Z (sent + 1), J Z amt] 61)).cell? ⟨w.heap.size, 0, none⟩ = some (V a0 l.length cap)) := hide (((Below.refl w1.heap.size w1).alloc (Nat.le_refl _) _ |>.cell (by show w.heap.size < _; have := HA1.out.lt; omega)).trans y0)
 have HB1 : Hid ((w1.alloc (.cells #[J Z (sent + 1), J Z amt] 61)).cell? ⟨w.heap.size, 1, none⟩ = some (J Z sent)) := hide (((Below.refl w1.heap.size w1).alloc (Nat.le_refl _) _ |>.cell (by show w.heap.size < _; have := HA1.out.lt; omega)).trans y1)
 have HB2 : Hid ((w1.alloc (.cells #[J Z (sent + 1), J Z amt] 61)).cell? ⟨w.heap.size, 2, none⟩ = some (J Z got)) := hide (((Below.refl w1.heap.size w1).alloc (Nat.le_refl _) _ |>.cell (by show w.heap.size < _; have := HA1.out.lt; omega)).trans y2)
 have HP : Hid ((w1.alloc (.cells #[J Z (sent + 1), J Z amt] 61)).cell? ⟨w1.heap.size, 0, none⟩ = some (J Z (sent + 1)) ∧ (w1.alloc (.cells #[J Z (sent + 1), J Z amt] 61)).cell? ⟨w1.heap.size, 1, none⟩ = some (J Z amt)) := hide ⟨World.cell?_alloc_at _ _ _ _ rfl, World.cell?_alloc_at _ _ _ _ rfl⟩
 have HN : Hid _ := hide (((HC.out.below HA1.out.old).below ((Below.refl w1.heap.size w1).alloc (Nat.le_refl _) (.cells #[J Z (sent + 1), J Z amt] 61))).news_any prcLen (by decide))
 have HWP : Hid (Below (w1.heap.size + 1) (w1.alloc (.cells #[J Z (sent + 1), J Z amt] 61)) (w1.alloc (.cells #[J Z (sent + 1), J Z amt] 61)).drew) := hide (Below.refl _ _).drew
 refine wp_region_inv (by kernel_rfl) (fun L a x => ∃ l0 l1 l2 l3 l4 l5 l6 l7 l8 l9 l10 l11 l12 l13 l14 : Bool, ∃ u8 u35 u36 u37 u38 u39 u40 u41 u42 u43 u44 u45 u46 u47 : Value, L = #[l0, l1, l2, l3, l4, l5, l6, l7, l8, l9, l10, l11, l12, l13, l14] ∧ a = { tmps := #[Value.agg #[V a0 l.length cap, J Z sent, J Z got], J Z amt, Value.pointer (some ⟨w.heap.size, 0, none⟩), U, Value.pointer (some ⟨w.heap.size + 1, 0, none⟩), Value.pointer (some ⟨w.heap.size + 1 + 1, 0, none⟩), Value.bool false, Value.pointer (some ⟨w1.heap.size, 0, none⟩), u8, Value.agg #[V a0 l.length cap, J Z sent, J Z got], Value.bool true, Value.bool false, Value.bool false, J Z amt, Value.bool true, Value.bool false, Value.bool false, Value.bool false, Value.pointer (some ⟨w.heap.size, 0, none⟩), V a0 l.length cap, J Z (l.length : Int), Value.bool false, Value.bool false, Value.bool false, Value.pointer (some ⟨w.heap.size, 1, none⟩), J Z sent, Value.bool false, Value.bool false, U, U, Value.pointer (some ⟨w.heap.size, 1, none⟩), J Z sent, J Z (sent + 1), J Z amt, Value.agg #[J Z (sent + 1), J Z amt], u35, u36, u37, u38, u39, u40, u41, u42, u43, u44, u45, u46, u47, U, U], defers := [] } ∧ PF (w1.heap.size + 1) w.heap.size w1.heap.size l.length (w1.alloc (.cells #[J Z (sent + 1), J Z amt] 61)) a0 cap (l.flatMap prcCells) sent got amt l0 l1 l2 l3 l4 l5 l6 l7 l8 l9 l10 l11 l12 l13 l14 u8 u35 u36 u37 u38 u39 u40 u41 u42 u43 u44 u45 u46 u47 x) ?_ ?_ ?_
 rotate_left 2
 ·exact ⟨false, false, false, false, false, false, false, false, false, false, false, false, false, false, false, U, U, U, U, U, U, U, U, U, U, U, U, U, U, rfl, rfl, ⟨HWP.out, nofun, nofun, nofun, nofun, nofun, nofun, nofun, nofun, nofun, nofun, nofun, nofun, nofun, nofun, nofun, nofun⟩⟩
 ·rintro L a x i ⟨l0, l1, l2, l3, l4, l5, l6, l7, l8, l9, l10, l11, l12, l13, l14, u8, u35, u36, u37, u38, u39, u40, u41, u42, u43, u44, u45, u46, u47, rfl, rfl, h⟩ hi K hK
  have hi15 : i < 15 := by
   obtain ⟨_, o, ho, _⟩ := mem_ready.1 hi
   exact (Array.getElem?_eq_some_iff.1 ho).1
  have hl := (mem_ready.1 hi).1
  have HH : w1.heap.size + 1 ≤ (w1.alloc (.cells #[J Z (sent + 1), J Z amt] 61)).heap.size := by simp
  obtain rfl | rfl | rfl | rfl | rfl | rfl | rfl | rfl | rfl | rfl | rfl | rfl | rfl | rfl | rfl := (by omega : i = 0 ∨ i = 1 ∨ i = 2 ∨ i = 3 ∨ i = 4 ∨ i = 5 ∨ i = 6 ∨ i = 7 ∨ i = 8 ∨ i = 9 ∨ i = 10 ∨ i = 11 ∨ i = 12 ∨ i = 13 ∨ i = 14)
  ·have e : l0 = false := hl
   subst e
   refine wpOp_run (v := (V (some ⟨x.heap.size, 0, none⟩) 0 0)) (w' := (x.alloc (.cells #[] 61))) (by rfl) (by rfl) ?_ (hK _ _ ⟨true, l1, l2, l3, l4, l5, l6, l7, l8, l9, l10, l11, l12, l13, l14, u8, (V (some ⟨x.heap.size, 0, none⟩) 0 0), u36, u37, u38, u39, u40, u41, u42, u43, u44, u45, u46, u47, rfl, rfl, h.sA HH⟩)
   go_simp
  ·have e : l1 = false := hl
   subst e
   refine wpOp_run (v := (.pointer (some ⟨w.heap.size, 0, none⟩))) (w' := x) (by rfl) (by rfl) ?_ (hK _ _ ⟨l0, true, l2, l3, l4, l5, l6, l7, l8, l9, l10, l11, l12, l13, l14, u8, u35, (.pointer (some ⟨w.heap.size, 0, none⟩)), u37, u38, u39, u40, u41, u42, u43, u44, u45, u46, u47, rfl, rfl, { h with p36 := fun _ => rfl }⟩)
   go_simp
  ·have e : l2 = false := hl
   subst e
   have d1 : l1 = true := ready_on hi 1 (by kernel_rfl)
   subst d1
   have c0 : x.cell? ⟨w.heap.size, 0, none⟩ = some (V a0 l.length cap) := (h.bel.cell (by show w.heap.size < _; have := HA1.out.lt; omega)).trans HB0.out
   refine wpOp_run (v := (V a0 l.length cap)) (w' := x) (by rfl) (by rfl) ?_ (hK _ _ ⟨l0, true, true, l3, l4, l5, l6, l7, l8, l9, l10, l11, l12, l13, l14, u8, u35, u36, (V a0 l.length cap), u38, u39, u40, u41, u42, u43, u44, u45, u46, u47, rfl, rfl, { h with p37 := fun _ => rfl }⟩)
   rw [h.p36 rfl]
   go_simp
  ·have e : l3 = false := hl
   subst e
   have d0 : l0 = true := ready_on hi 0 (by kernel_rfl)
   subst d0
   have d2 : l2 = true := ready_on hi 2 (by kernel_rfl)
   subst d2
   obtain ⟨v', y, hr, ho, hg, hlie⟩ := run_append_any (P := Try.prog) (w := x) (w1.heap.size + 1) 37 37 61 i0 _ 2 16 hu27 hi0 hz0 hz1 hz2 rfl (by decide) _ 0 [] (h.r0 rfl rfl) a0 l.length cap (l.flatMap prcCells) (flat_len prcCells 2 prcLen l) (fun e => ⟨row_none HC.out e, hn0 e⟩) (fun ad had j u hj => below_keeps (h.bel.mono (by simp)) _ _ (HN.out ad had j u hj)) (prc_one l) (by unfold maxLen; omega) (by omega) (Nat.le_trans HH h.bel.size)
   refine wpOp_run (v := v') (w' := y) (by rfl) (by rfl) ?_ (hK _ _ ⟨true, l1, true, true, l4, l5, l6, l7, l8, l9, l10, l11, l12, l13, l14, u8, u35, u36, u37, v', u39, u40, u41, u42, u43, u44, u45, u46, u47, rfl, rfl, h.sB HH (by simpa using ho) hg hlie⟩)
   exact exec_append rfl (by rfl) (h.p37 rfl) hr
  ·have e : l4 = false := hl
   subst e
   have c0 : x.cell? ⟨w1.heap.size, 0, none⟩ = some (J Z (sent + 1)) := (h.bel.cell (by show w1.heap.size < _; omega)).trans HP.out.1
   have c1 : x.cell? ⟨w1.heap.size, 1, none⟩ = some (J Z amt) := (h.bel.cell (by show w1.heap.size < _; omega)).trans HP.out.2
   refine wpOp_run (v := (.agg #[J Z (sent + 1), J Z amt])) (w' := x) (by rfl) (by rfl) ?_ (hK _ _ ⟨l0, l1, l2, l3, true, l5, l6, l7, l8, l9, l10, l11, l12, l13, l14, u8, u35, u36, u37, u38, (.agg #[J Z (sent + 1), J Z amt]), u40, u41, u42, u43, u44, u45, u46, u47, rfl, rfl, { h with p39 := fun _ => rfl }⟩)
   go_simp
  ·have e : l5 = false := hl
   subst e
   have d4 : l4 = true := ready_on hi 4 (by kernel_rfl)
   subst d4
   refine wpOp_run (v := (V (some ⟨x.heap.size, 0, none⟩) 1 1)) (w' := (x.alloc (.cells #[J Z (sent + 1), J Z amt] 61))) (by rfl) (by rfl) ?_ (hK _ _ ⟨l0, l1, l2, l3, true, true, l6, l7, l8, l9, l10, l11, l12, l13, l14, u8, u35, u36, u37, u38, u39, (V (some ⟨x.heap.size, 0, none⟩) 1 1), u41, u42, u43, u44, u45, u46, u47, rfl, rfl, h.sC HH⟩)
   rw [h.p39 rfl]
   go_simp
  ·have e : l6 = false := hl
   subst e
   have d3 : l3 = true := ready_on hi 3 (by kernel_rfl)
   subst d3
   have d5 : l5 = true := ready_on hi 5 (by kernel_rfl)
   subst d5
   obtain ⟨g, e0, lt, c0, c1, n0, n1⟩ := h.c rfl rfl
   obtain ⟨v', y, hr, ho, hg, _, hlie⟩ := run_append_own_at (P := Try.prog) (w := x) (w1.heap.size + 1) 37 37 61 i0 _ 2 16 hu27 hi0 hz0 hz1 hz2 rfl (by decide) _ l.length (l.flatMap prcCells) (h.r1 rfl rfl) ⟨g, 0, none⟩ 1 1 [J Z (sent + 1), J Z amt] rfl (fun j u hj => news2 c0 c1 j u hj) (by simp [Value.oneCell']) (by unfold maxLen; omega) (by omega) (Nat.le_trans HH h.bel.size)
   refine wpOp_run (v := v') (w' := y) (by rfl) (by rfl) ?_ (hK _ _ ⟨l0, l1, l2, true, l4, true, true, l7, l8, l9, l10, l11, l12, l13, l14, u8, u35, u36, u37, u38, u39, u40, v', u42, u43, u44, u45, u46, u47, rfl, rfl, h.sD HH (by simpa using ho) hg hlie⟩)
   exact exec_append rfl (by rfl) e0 hr
  ·have e : l7 = false := hl
   subst e
   refine wpOp_run (v := (.pointer (some ⟨w.heap.size, 1, none⟩))) (w' := x) (by rfl) (by rfl) ?_ (hK _ _ ⟨l0, l1, l2, l3, l4, l5, l6, true, l8, l9, l10, l11, l12, l13, l14, u8, u35, u36, u37, u38, u39, u40, u41, (.pointer (some ⟨w.heap.size, 1, none⟩)), u43, u44, u45, u46, u47, rfl, rfl, { h with p42 := fun _ => rfl }⟩)
   go_simp
  ·have e : l8 = false := hl
   subst e
   have d7 : l7 = true := ready_on hi 7 (by kernel_rfl)
   subst d7
   have c0 : x.cell? ⟨w.heap.size, 1, none⟩ = some (J Z sent) := (h.bel.cell (by show w.heap.size < _; have := HA1.out.lt; omega)).trans HB1.out
   refine wpOp_run (v := (J Z sent)) (w' := x) (by rfl) (by rfl) ?_ (hK _ _ ⟨l0, l1, l2, l3, l4, l5, l6, true, true, l9, l10, l11, l12, l13, l14, u8, u35, u36, u37, u38, u39, u40, u41, u42, (J Z sent), u44, u45, u46, u47, rfl, rfl, { h with p43 := fun _ => rfl }⟩)
   rw [h.p42 rfl]
   go_simp
  ·have e : l9 = false := hl
   subst e
   have d8 : l8 = true := ready_on hi 8 (by kernel_rfl)
   subst d8
   refine wpOp_run (v := (J Z (sent + 1))) (w' := x) (by rfl) (by rfl) ?_ (hK _ _ ⟨l0, l1, l2, l3, l4, l5, l6, l7, true, true, l10, l11, l12, l13, l14, u8, u35, u36, u37, u38, u39, u40, u41, u42, u43, (J Z (sent + 1)), u45, u46, u47, rfl, rfl, { h with p44 := fun _ => rfl }⟩)
   rw [h.p43 rfl]
   go_simp
   simp [IntKind.wrap, IntKind.bits, IntKind.signed]
   omega
  ·have e : l10 = false := hl
   subst e
   refine wpOp_run (v := (.pointer (some ⟨w.heap.size, 2, none⟩))) (w' := x) (by rfl) (by rfl) ?_ (hK _ _ ⟨l0, l1, l2, l3, l4, l5, l6, l7, l8, l9, true, l11, l12, l13, l14, u8, u35, u36, u37, u38, u39, u40, u41, u42, u43, u44, (.pointer (some ⟨w.heap.size, 2, none⟩)), u46, u47, rfl, rfl, { h with p45 := fun _ => rfl }⟩)
   go_simp
  ·have e : l11 = false := hl
   subst e
   have d10 : l10 = true := ready_on hi 10 (by kernel_rfl)
   subst d10
   have c0 : x.cell? ⟨w.heap.size, 2, none⟩ = some (J Z got) := (h.bel.cell (by show w.heap.size < _; have := HA1.out.lt; omega)).trans HB2.out
   refine wpOp_run (v := (J Z got)) (w' := x) (by rfl) (by rfl) ?_ (hK _ _ ⟨l0, l1, l2, l3, l4, l5, l6, l7, l8, l9, true, true, l12, l13, l14, u8, u35, u36, u37, u38, u39, u40, u41, u42, u43, u44, u45, (J Z got), u47, rfl, rfl, { h with p46 := fun _ => rfl }⟩)
   rw [h.p45 rfl]
   go_simp
  ·have e : l12 = false := hl
   subst e
   have d6 : l6 = true := ready_on hi 6 (by kernel_rfl)
   subst d6
   have d9 : l9 = true := ready_on hi 9 (by kernel_rfl)
   subst d9
   have d11 : l11 = true := ready_on hi 11 (by kernel_rfl)
   subst d11
   obtain ⟨g4, cap4, e4, _, _⟩ := (h.r2 rfl).form (by omega)
   refine wpOp_run (v := (.agg #[u41, J Z (sent + 1), J Z got])) (w' := x) (by rfl) (by rfl) ?_ (hK _ _ ⟨l0, l1, l2, l3, l4, l5, true, l7, l8, true, l10, true, true, l13, l14, u8, u35, u36, u37, u38, u39, u40, u41, u42, u43, u44, u45, u46, (.agg #[u41, J Z (sent + 1), J Z got]), rfl, rfl, { h with p47 := fun _ => ⟨rfl, rfl⟩ }⟩)
   rw [h.p44 rfl, h.p46 rfl, e4]
   go_simp
  ·have e : l13 = false := hl
   subst e
   refine wpOp_run (v := (.pointer (some ⟨x.heap.size, 0, none⟩))) (w' := (x.alloc (.cells #[V none 0 0, J Z 0, J Z 0] 39))) (by rfl) (by rfl) ?_ (hK _ _ ⟨l0, l1, l2, l3, l4, l5, l6, l7, l8, l9, l10, l11, l12, true, l14, (.pointer (some ⟨x.heap.size, 0, none⟩)), u35, u36, u37, u38, u39, u40, u41, u42, u43, u44, u45, u46, u47, rfl, rfl, h.sE HH⟩)
   go_simp
  ·have e : l14 = false := hl
   subst e
   have d3 : l3 = true := ready_on hi 3 (by kernel_rfl)
   subst d3
   have d6 : l6 = true := ready_on hi 6 (by kernel_rfl)
   subst d6
   have d12 : l12 = true := ready_on hi 12 (by kernel_rfl)
   subst d12
   have d13 : l13 = true := ready_on hi 13 (by kernel_rfl)
   subst d13
   obtain ⟨g, e0, hg0, lt, fz, ⟨v0, v1, v2, c0, c1, c2, hc⟩, n0, n1, n2⟩ := h.e rfl
   refine wpOp_skip (w' := (((x.setCell ⟨g, 0, none⟩ u41).setCell ⟨g, 1, none⟩ (J Z (sent + 1))).setCell ⟨g, 2, none⟩ (J Z got))) (by rfl) (by rfl) ?_ (hK _ _ ⟨l0, l1, l2, true, l4, l5, true, l7, l8, l9, l10, l11, true, true, true, u8, u35, u36, u37, u38, u39, u40, u41, u42, u43, u44, u45, u46, u47, rfl, rfl, h.sF HH e0⟩)
   obtain ⟨g4, cap4, e4, _, _⟩ := (h.r2 rfl).form (by omega)
   rw [(h.p47 rfl).2, e0, e4]
   have fz0 := fz 0
   have fz1 := fz 1
   have fz2 := fz 2
   go_simp
 ·rintro L a x ⟨l0, l1, l2, l3, l4, l5, l6, l7, l8, l9, l10, l11, l12, l13, l14, u8, u35, u36, u37, u38, u39, u40, u41, u42, u43, u44, u45, u46, u47, rfl, rfl, h⟩ hr
  have hall := ready_all hr rfl (by decide)
  have t0 : l0 = true := hall 0 (by decide)
  have t3 : l3 = true := hall 3 (by decide)
  have t6 : l6 = true := hall 6 (by decide)
  have t13 : l13 = true := hall 13 (by decide)
  have t14 : l14 = true := hall 14 (by decide)
  subst t0 t3 t6 t13 t14
  obtain ⟨g, e0, hg0, lt, fz, ⟨v0, v1, v2, c0, c1, c2, hc⟩, n0, n1, n2⟩ := h.e rfl
  obtain ⟨_, q0, q1, q2⟩ := hc rfl
  rw [q0] at c0
  rw [q1] at c1
  rw [q2] at c2
  have hrow : x.ownsRow (w1.heap.size + 1) 61 2 u41 (l ++ [(⟨sent + 1, amt⟩ : Prc)]).length ((l ++ [(⟨sent + 1, amt⟩ : Prc)]).flatMap prcCells) := by
   have := h.r2 rfl
   simpa [prcCells] using this
  obtain ⟨g4, a4, cap4, hb4, e4, ho4⟩ := own_of_row prcLen hrow
  rw [e4] at c0
  rw [e4, e0]
  have p0 : x.cell? ⟨w1.heap.size, 0, none⟩ = some (J Z (sent + 1)) := (h.bel.cell (by show w1.heap.size < _; omega)).trans HP.out.1
  have p1 : x.cell? ⟨w1.heap.size, 1, none⟩ = some (J Z amt) := (h.bel.cell (by show w1.heap.size < _; omega)).trans HP.out.2
  have HA2 : Hid _ := hide ((HA1.out.next ((Below.refl w1.heap.size w1).alloc (Nat.le_refl _) _)).on (by have := HA1.out.lt; omega) h.bel)
  obtain ⟨⟨t0, r0⟩, ⟨t1, r1⟩, ⟨t2, r2⟩⟩ := And.intro (HA2.out.res.c 0 (by omega)) (And.intro (HA2.out.res.c 1 (by omega)) (HA2.out.res.c 2 (by omega)))
  obtain ⟨⟨t3, r3⟩, ⟨t4, r4⟩⟩ := And.intro HA2.out.p0 HA2.out.p1
  have f0 := HA2.out.res.f 0
  have f1 := HA2.out.res.f 1
  have f2 := HA2.out.res.f 2
  have f3 := HA2.out.pf 0
  have f4 := HA2.out.pf 1
  have HE : Hid _ := hide (pk_set (v := V a4 (l.length + 1) cap4) (E := ⟨l ++ [⟨sent + 1, amt⟩], sent + 1, got⟩) (p := ⟨sent + 1, amt⟩) (fl := true) HA2.out.old g4 a4 cap4 (by have := HA1.out.lt; omega) (by simp) ho4)
  rw [show (l ++ [(⟨sent + 1, amt⟩ : Prc)]).length = l.length + 1 by simp] at c0 ⊢
  have hlt1 : w.heap.size + 3 ≤ w1.heap.size := HA1.out.lt
  have HX : Hid (w1.heap.size + 1 ≤ g) := hide hg0
  clear hall hr h e4 e0 hrow hg0 hc q0 q1 q2 n0 n1 n2 ho4 hb4 lt
  clear y0 y1 y2 hi0 hz0 hz1 hz2 hu27 
  refine hK0 _ _ ?_
  go_wp2
  have ne1 : w1.heap.size ≠ w.heap.size + 1 := by omega
  have ne2 : w1.heap.size ≠ w.heap.size + 1 + 1 := by omega
  have ne3 : g ≠ w.heap.size + 1 := by have := HX.out; omega
  have ne4 : g ≠ w.heap.size + 1 + 1 := by have := HX.out; omega
  have ne5 : w.heap.size + 1 ≠ w1.heap.size := by omega
  go_region
  all_goals
   go_wp2
   refine bodyPost_ret (v := .tuple #[.agg #[V a4 (l.length + 1) cap4, J Z (sent + 1), J Z got], .agg #[J Z (sent + 1), J Z amt], .bool true]) (by simp [results, Try.results24, go_sem, r0, r1, r2, r3, r4]) rfl ?_
   have e1 : pkE ⟨l, sent, got⟩ amt = ⟨l ++ [⟨sent + 1, amt⟩], sent + 1, got⟩ := if_pos HY.out
   have e2 : pkP ⟨l, sent, got⟩ amt = ⟨sent + 1, amt⟩ := if_pos HY.out
   rw [e1, e2, HY.out]
   obtain ⟨hb, v, hv, g, a, cp, hgg, hv2, ho⟩ := HE.out
   exact ⟨hb.drew, v, hv, g, a, cp, hgg, hv2, ho.below ((Below.refl _ _).drew)⟩
theorem specPacked_any (a0 : Option Addr) (l : List Prc) (cap : Nat) (sent got amt : Int) (w : World) (hl : l.length ≤ 1048576) (hn0 : a0 = none → cap = 0) (h : RowAt 2 prcCells w a0 l) :
  Calls Try.prog 24 #[.agg #[V a0 l.length cap, J Z sent, J Z got], J Z amt] w fun e w' => EndPrc (pkE ⟨l, sent, got⟩ amt) (pkP ⟨l, sent, got⟩ amt) (pkOk ⟨l, sent, got⟩ amt) w e w' := by
 cases q : pkOk ⟨l, sent, got⟩ amt
 ·have := specPacked_no a0 l cap sent got amt w hl q h
  rwa [q] at this
 ·have := specPacked_yes a0 l cap sent got amt w hl hn0 q h
  rwa [q] at this
end Go.Proofs.Ytkcpoibhlnjldaa
