/- The drawn end and amount. -/
import Derived.Test.YtjmkppajfebidaaDrR
import Derived.Test.YtjmkppajfebidaaInv2
namespace Go.Proofs.Ytjmkppajfebidaa
open Go.ChangeShapes Go.WideShapes Go.ChangeAt Go.RowKit
set_option linter.unusedVariables false
def DrPk (w : World) (e : Ending) (w' : World) : Prop := ∃ (E : En) (a : Option Addr) (cap : Nat) (n : Int), e = .returned (.tuple #[.agg #[.slice a E.out.length cap, .int .i64 E.sent, .int .i64 E.got], .int .i64 n]) ∧ E.out.length ≤ 8 ∧ I64 E.sent ∧ I64 E.got ∧ I64 n ∧ (a = none → cap = 0) ∧ RowAt 2 prcCells w' a E.out ∧ Below w.heap.size w w'
/-- what holds in the midst of the region that makes the answer -/
structure DqF (w W0 : World) (E : En) (a : Option Addr) (cap g M : Nat) (l0 l1 l2 l3 l4 : Bool) (u3 u10 u11 u12 : Value) (x : World) : Prop where
  rd : l3 = false → Rd W0.heap.size x
  bel : Below w.heap.size w x
  res : ResMid w.heap.size x
  hw : w.heap.size < W0.heap.size
  kB : W0.heap.size < M
  kx : M < x.heap.size
  hg : W0.heap.size < g
  c0 : x.cell? ⟨M, 0, none⟩ = some (.slice a E.out.length cap)
  c1 : x.cell? ⟨M, 1, none⟩ = some (.int .i64 E.sent)
  c2 : x.cell? ⟨M, 2, none⟩ = some (.int .i64 E.got)
  row : OwnRow 2 prcCells x g a cap E.out
  q12 : l2 = true → ∃ r : Int, I64 r ∧ u12 = .int .i64 r ∧ (l4 = true → u3 = .int .i64 r)
  d4 : l4 = true → l2 = true
  d3 : l3 = true → l2 = true
  p10 : l0 = true → u10 = .agg #[.slice a E.out.length cap, .int .i64 E.sent, .int .i64 E.got]
  p11 : l1 = true → u11 = .pointer (some ⟨W0.heap.size, 0, none⟩)
  st : l3 = true → x.cell? ⟨w.heap.size, 0, none⟩ = some (.slice a E.out.length cap) ∧ x.cell? ⟨w.heap.size, 1, none⟩ = some (.int .i64 E.sent) ∧ x.cell? ⟨w.heap.size, 2, none⟩ = some (.int .i64 E.got)
theorem DqF.s5 {w W0 : World} {E : En} {a : Option Addr} {cap g M : Nat} {l0 l3 l4 : Bool} {u3 u10 u11 u12 : Value} {x : World} {y : World} {r : Int} (h : DqF w W0 E a cap g M l0 true false l3 l4 u3 u10 u11 u12 x) (hr : Rd W0.heap.size y) (ha : Apart W0.heap.size x y) (hi : I64 r) : DqF w W0 E a cap g M l0 true true l3 l4 u3 u10 u11 (.int .i64 r) y := by
  have hw := h.hw
  have kB := h.kB
  have hg := h.hg
  have bR := ha.block w.heap.size h.res.lt (by omega)
  have bM := ha.block M h.kx (by omega)
  exact { h with
    rd := fun _ => hr
    bel := below_apart h.bel (Nat.le_of_lt hw) ha
    res := h.res.keep bR ha.size
    kx := Nat.lt_of_lt_of_le h.kx ha.size
    c0 := (World.cell?_of_block bM).trans h.c0
    c1 := (World.cell?_of_block bM).trans h.c1
    c2 := (World.cell?_of_block bM).trans h.c2
    row := h.row.keepB (fun q => ha.block _ (h.row.lt q) (by omega))
    d4 := fun _ => rfl
    d3 := fun _ => rfl
    q12 := fun _ => ⟨r, hi, rfl, fun q => absurd (h.d4 q) (by simp)⟩
    st := fun q => absurd (h.d3 q) (by simp) }
theorem DqF.s6 {w W0 : World} {E : En} {a : Option Addr} {cap g M : Nat} {l1 l4 : Bool} {u3 u10 u11 u12 : Value} {x : World} (h : DqF w W0 E a cap g M true l1 true false l4 u3 u10 u11 u12 x) : DqF w W0 E a cap g M true l1 true true l4 u3 u10 u11 u12 (((x.setCell ⟨w.heap.size, 0, none⟩ (.slice a E.out.length cap)).setCell ⟨w.heap.size, 1, none⟩ (.int .i64 E.sent)).setCell ⟨w.heap.size, 2, none⟩ (.int .i64 E.got)) := by
  have hw := h.hw
  have kB := h.kB
  have hg := h.hg
  have hot : ∀ j, j ≠ w.heap.size → ((((x.setCell ⟨w.heap.size, 0, none⟩ (.slice a E.out.length cap)).setCell ⟨w.heap.size, 1, none⟩ (.int .i64 E.sent)).setCell ⟨w.heap.size, 2, none⟩ (.int .i64 E.got))).heap[j]? = x.heap[j]? := fun j hj => ((Below.heap_setCell _ _ _ _ hj).trans (Below.heap_setCell _ _ _ _ hj)).trans (Below.heap_setCell _ _ _ _ hj)
  have hsz : ((((x.setCell ⟨w.heap.size, 0, none⟩ (.slice a E.out.length cap)).setCell ⟨w.heap.size, 1, none⟩ (.int .i64 E.sent)).setCell ⟨w.heap.size, 2, none⟩ (.int .i64 E.got))).heap.size = x.heap.size := by simp [World.setCell]
  have bM := hot M (by omega)
  obtain ⟨⟨t0, r0⟩, ⟨t1, r1⟩, ⟨t2, r2⟩⟩ := And.intro (h.res.c 0 (by omega)) (And.intro (h.res.c 1 (by omega)) (h.res.c 2 (by omega)))
  exact { h with
    rd := fun q => by cases q
    bel := ((h.bel.setCell (p := ⟨w.heap.size, 0, none⟩) (Nat.le_refl _) _).setCell (p := ⟨w.heap.size, 1, none⟩) (Nat.le_refl _) _).setCell (p := ⟨w.heap.size, 2, none⟩) (Nat.le_refl _) _
    res := h.res.set3 _ _ _
    kx := by rw [hsz]; exact h.kx
    c0 := (World.cell?_of_block bM).trans h.c0
    c1 := (World.cell?_of_block bM).trans h.c1
    c2 := (World.cell?_of_block bM).trans h.c2
    row := h.row.keepB (fun q => hot _ (by omega))
    d3 := fun _ => rfl
    st := fun _ => ⟨by rw [cell_set_other (.inr (by simp)), cell_set_other (.inr (by simp))]; exact cell_set_same r0, by rw [cell_set_other (.inr (by simp))]; exact cell_set_same (by rw [cell_set_other (.inr (by simp))]; exact r1), cell_set_same (by rw [cell_set_other (.inr (by simp)), cell_set_other (.inr (by simp))]; exact r2)⟩ }
set_option maxRecDepth 100000 in
set_option maxHeartbeats 4000000 in
theorem drawPacked_any (a0 : Option Addr) (len cp : Nat) (w : World) (h : IsCode w a0 len) : Calls Try.prog 5 #[.slice a0 len cp] w fun e w' => DrPk w e w' := by
  obtain ⟨W0, hW0⟩ : ∃ W0, W0 = w.alloc (.cells #[.slice none 0 0, .int .i64 0, .int .i64 0] 26) := ⟨_, rfl⟩
  have HW0 : Hid (w.alloc (.cells #[.slice none 0 0, .int .i64 0, .int .i64 0] 26) = W0) := hide hW0.symm
  have HC0 : Hid (IsCode W0 a0 len) := hide (by rw [hW0]; exact h.below (below_alloc (Below.refl _ _) _))
  have HSW : Hid (W0.heap.size = w.heap.size + 1) := hide (by rw [hW0]; simp)
  clear hW0 h
  go_enter Try.func5, Try.ntmps5
  go_wp2_with fail
  rw [HW0.out]
  refine (l1Open_any a0 len cp W0).mono ?_
  rintro e w1 ⟨rfl, hw1⟩
  have HR1 : Hid (Rd W0.heap.size w1) := hide (by rw [hw1]; exact rd_open HC0.out)
  have HB1 : Hid (Below W0.heap.size W0 w1) := hide (by rw [hw1]; exact below_alloc (Below.refl _ _) _)
  have HS1 : Hid (W0.heap.size < w1.heap.size) := hide (by rw [hw1]; simp)
  clear hw1
  go_wp2_with fail
  refine (end_drawn W0.heap.size w1 HR1.out).mono ?_
  rintro e w2 ⟨E, a, cap, g, rfl, h8, hs, hg, hgl, hrow, hrd, hap⟩
  obtain ⟨w3, hw3⟩ : ∃ w3, w3 = w2.alloc (.cells #[.slice a E.out.length cap, .int .i64 E.sent, .int .i64 E.got] 26) := ⟨_, rfl⟩
  have HW3 : Hid (w2.alloc (.cells #[.slice a E.out.length cap, .int .i64 E.sent, .int .i64 E.got] 26) = w3) := hide hw3.symm
  have HD3 : Hid (∃ gg, Dk W0 E a cap gg w2.heap.size w3) := hide ⟨_, by rw [hw3]; exact dk_new (Below.refl _ _) HB1.out HS1.out hap hrd (by omega) hrow⟩
  obtain ⟨gg, hd3⟩ := HD3.out
  obtain ⟨M, hM⟩ : ∃ M, M = w2.heap.size := ⟨_, rfl⟩
  have HD : Hid (Dk W0 E a cap gg M w3) := hide (by rw [hM]; exact hd3)
  clear hgl hrow hrd hap hw3 HD3 hd3 HR1 HB1 HS1
  go_wp2_with fail
  rw [HW3.out]
  rw [← hM]
  clear HW3 hM
  rename_i K0 hK0
  have HDd : Hid (Dk W0 E a cap gg M w3.drew) := hide (HD.out.below ((Below.refl _ _).drew))
  have HB : Hid (Below w.heap.size w w3.drew) := hide (by
    have b0 : Below w.heap.size w W0 := by rw [← HW0.out]; exact below_alloc (Below.refl _ _) _
    exact b0.trans (HDd.out.bel.mono b0.size))
  have HRS : Hid (ResMid w.heap.size w3.drew) := hide (by
    have hra : ResMid w.heap.size W0 := by
      rw [← HW0.out]
      refine ⟨by simp, fun j hj => ?_, frozen_of_block (heap_alloc_new w _)⟩
      match j, hj with
      | 0, _ => exact ⟨_, World.cell?_alloc_at _ _ _ _ rfl⟩
      | 1, _ => exact ⟨_, World.cell?_alloc_at _ _ _ _ rfl⟩
      | 2, _ => exact ⟨_, World.cell?_alloc_at _ _ _ _ rfl⟩
    exact hra.keep (HDd.out.bel.block _ hra.lt) HDd.out.bel.size)
  have HHW : Hid (w.heap.size < W0.heap.size) := hide (by have := HSW.out; omega)
  refine wp_region_inv (by kernel_rfl) (fun L act x => ∃ l0 l1 l2 l3 l4 : Bool, ∃ u3 u10 u11 u12 : Value, L = #[l0, l1, l2, l3, l4] ∧ act = { tmps := #[Value.slice a0 len cp, undef, Value.pointer (some { block := w.heap.size, off := 0 }), u3, Value.pointer (some { block := W0.heap.size, off := 0 }), Value.pointer (some { block := M, off := 0 }), Value.slice a0 len cp, Value.pointer (some { block := W0.heap.size, off := 0 }), Value.pointer (some { block := W0.heap.size, off := 0 }), Value.agg #[Value.slice a E.out.length cap, Value.int IntKind.i64 E.sent, Value.int IntKind.i64 E.got], u10, u11, u12], defers := [] } ∧ DqF w W0 E a cap gg M l0 l1 l2 l3 l4 u3 u10 u11 u12 x) ?_ ?_ ?_
  rotate_left 2
  · exact ⟨false, false, false, false, false, (Value.int IntKind.i64 0), (undef), (undef), (undef), rfl, rfl, ⟨fun _ => HDd.out.rd, HB.out, HRS.out, HHW.out, HDd.out.kB, HDd.out.kx, HDd.out.hg, HDd.out.c0, HDd.out.c1, HDd.out.c2, HDd.out.row, fun q => (by cases q), fun q => (by cases q), fun q => (by cases q), fun q => (by cases q), fun q => (by cases q), fun q => (by cases q)⟩⟩
  · rintro L act x i ⟨l0, l1, l2, l3, l4, u3, u10, u11, u12, rfl, rfl, h⟩ hi K hK
    have hi15 : i < 5 := by
      obtain ⟨_, o, ho, _⟩ := mem_ready.1 hi
      exact (Array.getElem?_eq_some_iff.1 ho).1
    have hl := (mem_ready.1 hi).1
    obtain rfl | rfl | rfl | rfl | rfl := (by omega : i = 0 ∨ i = 1 ∨ i = 2 ∨ i = 3 ∨ i = 4)
    · have e : l0 = false := hl
      subst e
      have c0 := h.c0
      have c1 := h.c1
      have c2 := h.c2
      refine wpOp_run (v := .agg #[.slice a E.out.length cap, .int .i64 E.sent, .int .i64 E.got]) (w' := x) (by rfl) (by rfl) ?_ (hK _ _ ⟨true, l1, l2, l3, l4, u3, (.agg #[.slice a E.out.length cap, .int .i64 E.sent, .int .i64 E.got]), u11, u12, rfl, rfl, { h with p10 := fun _ => rfl }⟩)
      go_simp
    · have e : l1 = false := hl
      subst e
      refine wpOp_run (v := .pointer (some ⟨W0.heap.size, 0, none⟩)) (w' := x) (by rfl) (by rfl) ?_ (hK _ _ ⟨l0, true, l2, l3, l4, u3, u10, (.pointer (some ⟨W0.heap.size, 0, none⟩)), u12, rfl, rfl, { h with p11 := fun _ => rfl }⟩)
      go_simp
    · have e : l2 = false := hl
      subst e
      have d1 : l1 = true := ready_on hi 1 (by kernel_rfl)
      subst d1
      have n6 : l3 = false := by
        cases l3
        · rfl
        · exact absurd (h.d3 rfl) (by simp)
      refine wpOp_call (by rfl) (by rfl) ?_ (amount_any W0.heap.size x (h.rd n6)) ?_
      · rw [h.p11 rfl]; go_simp
      · rintro e w' ⟨⟨r, r0, r1, rfl⟩, hr, ha⟩
        exact ⟨_, rfl, hK _ _ ⟨l0, true, true, l3, l4, u3, u10, u11, (.int .i64 r), rfl, rfl, h.s5 hr ha ⟨r0, r1⟩⟩⟩
    · have e : l3 = false := hl
      subst e
      have d0 : l0 = true := ready_on hi 0 (by kernel_rfl)
      subst d0
      have d2 : l2 = true := ready_on hi 2 (by kernel_rfl)
      subst d2
      refine wpOp_skip (w' := (((x.setCell ⟨w.heap.size, 0, none⟩ (.slice a E.out.length cap)).setCell ⟨w.heap.size, 1, none⟩ (.int .i64 E.sent)).setCell ⟨w.heap.size, 2, none⟩ (.int .i64 E.got))) (by rfl) (by rfl) ?_ (hK _ _ ⟨true, l1, true, true, l4, u3, u10, u11, u12, rfl, rfl, h.s6⟩)
      rw [h.p10 rfl]
      obtain ⟨⟨t0, r0⟩, ⟨t1, r1⟩, ⟨t2, r2⟩⟩ := And.intro (h.res.c 0 (by omega)) (And.intro (h.res.c 1 (by omega)) (h.res.c 2 (by omega)))
      have f0 := h.res.f 0
      have f1 := h.res.f 1
      have f2 := h.res.f 2
      go_simp
    · have e : l4 = false := hl
      subst e
      have d0 : l0 = true := ready_on hi 0 (by kernel_rfl)
      subst d0
      have d1 : l1 = true := ready_on hi 1 (by kernel_rfl)
      subst d1
      have d2 : l2 = true := ready_on hi 2 (by kernel_rfl)
      subst d2
      have d3 : l3 = true := ready_on hi 3 (by kernel_rfl)
      subst d3
      obtain ⟨r, hr, e15, _⟩ := h.q12 rfl
      refine wpOp_run (v := .int .i64 r) (w' := x) (by rfl) (by rfl) ?_ (hK _ _ ⟨true, true, true, true, true, (.int .i64 r), u10, u11, u12, rfl, rfl, { h with d4 := fun _ => rfl, q12 := fun _ => ⟨r, hr, e15, fun _ => rfl⟩ }⟩)
      rw [e15]
      go_simp
  · rintro L act x ⟨l0, l1, l2, l3, l4, u3, u10, u11, u12, rfl, rfl, h⟩ hr
    have hall := ready_all hr rfl (by decide)
    have t0 : l0 = true := hall 0 (by decide)
    have t1 : l1 = true := hall 1 (by decide)
    have t2 : l2 = true := hall 2 (by decide)
    have t3 : l3 = true := hall 3 (by decide)
    have t4 : l4 = true := hall 4 (by decide)
    subst t0 t1 t2 t3 t4
    clear hall hr
    obtain ⟨n, hn, e15, e3⟩ := h.q12 rfl
    obtain ⟨z0, z1, z2⟩ := h.st rfl
    have HE : Hid (DrPk w (.returned (.tuple #[.agg #[.slice a E.out.length cap, .int .i64 E.sent, .int .i64 E.got], .int .i64 n])) x) := hide ⟨E, a, cap, n, rfl, h8, hs, by unfold I64; omega, hn, h.row.nocap, h.row.rows, h.bel⟩
    rw [e3 rfl]
    clear h e15 e3
    refine hK0 _ _ ?_
    go_wp2
    exact bodyPost_ret (v := .tuple #[.agg #[.slice a E.out.length cap, .int .i64 E.sent, .int .i64 E.got], .int .i64 n]) (by simp [results, Try.results5, go_sem, z0, z1, z2]) rfl HE.out
end Go.Proofs.Ytjmkppajfebidaa
