/- What holds in the midst of the region of the model's Packed that makes its answer. -/
import Derived.Test.YtkcpoibhlnjldaaSPk
import Derived.Test.YtkcpoibhlnjldaaBa
import Derived.Deep.AppendLies
namespace Go.Proofs.Ytkcpoibhlnjldaa
open Go.Value renaming int → J, slice → V
open Go.IntKind renaming i64 → Z
open Go.ChangeShapes Go.WideShapes Go.ChangeAt Go.RowKit
set_option linter.unusedVariables false
/-- what holds in the midst of the region that makes the answer: which operations have come up, what lies in the slots, and the world -/
structure PF (H s P n : Nat) (wp : World) (ad : Option Addr) (cap : Nat) (xs : List Value) (sent got amt : Int) (l0 l1 l2 l3 l4 l5 l6 l7 l8 l9 l10 l11 l12 l13 l14 : Bool) (u8 u35 u36 u37 u38 u39 u40 u41 u42 u43 u44 u45 u46 u47 : Value) (x : World) : Prop where
 bel : Below H wp x
 p36 : l1 = true → u36 = .pointer (some ⟨s, 0, none⟩)
 p37 : l2 = true → u37 = V ad n cap
 p39 : l4 = true → u39 = .agg #[J Z (sent + 1), J Z amt]
 p42 : l7 = true → u42 = .pointer (some ⟨s, 1, none⟩)
 p43 : l8 = true → u43 = J Z sent
 p44 : l9 = true → u44 = J Z (sent + 1)
 p45 : l10 = true → u45 = .pointer (some ⟨s, 2, none⟩)
 p46 : l11 = true → u46 = J Z got
 p47 : l12 = true → l6 = true ∧ u47 = .agg #[u41, J Z (sent + 1), J Z got]
 d6 : l6 = true → l3 = true
 d14 : l14 = true → l13 = true
 r0 : l0 = true → l3 = false → x.ownsRow H 61 2 u35 0 []
 r1 : l3 = true → l6 = false → x.ownsRow H 61 2 u38 n xs
 r2 : l6 = true → x.ownsRow H 61 2 u41 (n + 1) (xs ++ [J Z (sent + 1), J Z amt])
 c : l5 = true → l6 = false → ∃ g, u40 = V (some ⟨g, 0, none⟩) 1 1 ∧ g < x.heap.size ∧ x.cell? ⟨g, 0, none⟩ = some (J Z (sent + 1)) ∧ x.cell? ⟨g, 1, none⟩ = some (J Z amt) ∧ (l0 = true → l3 = false → u35.ownBlock ≠ some g) ∧ (l3 = true → u38.ownBlock ≠ some g)
 e : l13 = true → ∃ g, u8 = .pointer (some ⟨g, 0, none⟩) ∧ H ≤ g ∧ g < x.heap.size ∧ (∀ j, x.frozen? ⟨g, j, none⟩ = false) ∧ (∃ v0 v1 v2, x.cell? ⟨g, 0, none⟩ = some v0 ∧ x.cell? ⟨g, 1, none⟩ = some v1 ∧ x.cell? ⟨g, 2, none⟩ = some v2 ∧ (l14 = true → l6 = true ∧ v0 = u41 ∧ v1 = J Z (sent + 1) ∧ v2 = J Z got)) ∧ (l0 = true → l3 = false → u35.ownBlock ≠ some g) ∧ (l3 = true → l6 = false → u38.ownBlock ≠ some g) ∧ (l6 = true → u41.ownBlock ≠ some g)
theorem PF.alloc {H s P n : Nat} {wp : World} {ad : Option Addr} {cap : Nat} {xs : List Value} {sent got amt : Int} {l0 l1 l2 l3 l4 l5 l6 l7 l8 l9 l10 l11 l12 l13 l14 : Bool} {u8 u35 u36 u37 u38 u39 u40 u41 u42 u43 u44 u45 u46 u47 : Value} {x : World} (h : PF H s P n wp ad cap xs sent got amt l0 l1 l2 l3 l4 l5 l6 l7 l8 l9 l10 l11 l12 l13 l14 u8 u35 u36 u37 u38 u39 u40 u41 u42 u43 u44 u45 u46 u47 x) (hH : H ≤ wp.heap.size) (o : Obj) : PF H s P n wp ad cap xs sent got amt l0 l1 l2 l3 l4 l5 l6 l7 l8 l9 l10 l11 l12 l13 l14 u8 u35 u36 u37 u38 u39 u40 u41 u42 u43 u44 u45 u46 u47 (x.alloc o) := by
 have hHx : H ≤ x.heap.size := Nat.le_trans hH h.bel.size
 have gr := World.grownBy_alloc x o none
 exact { h with
  bel := h.bel.alloc hHx o
  r0 := fun a b => (h.r0 a b).alloc o
  r1 := fun a b => (h.r1 a b).alloc o
  r2 := fun a => (h.r2 a).alloc o
  c := fun a b => by
   obtain ⟨g, e0, lt, c0, c1, n0, n1⟩ := h.c a b
   exact ⟨g, e0, Nat.lt_of_lt_of_le lt gr.size, (gr.cell_far _ lt (by simp)).trans c0, (gr.cell_far _ lt (by simp)).trans c1, n0, n1⟩
  e := fun a => by
   obtain ⟨g, e0, hg, lt, fz, ⟨v0, v1, v2, c0, c1, c2, hc⟩, n0, n1, n2⟩ := h.e a
   exact ⟨g, e0, hg, Nat.lt_of_lt_of_le lt gr.size, fun j => (gr.frozen_far _ lt (by simp)).trans (fz j), ⟨v0, v1, v2, (gr.cell_far _ lt (by simp)).trans c0, (gr.cell_far _ lt (by simp)).trans c1, (gr.cell_far _ lt (by simp)).trans c2, hc⟩, n0, n1, n2⟩ }
theorem PF.sA {H s P n : Nat} {wp : World} {ad : Option Addr} {cap : Nat} {xs : List Value} {sent got amt : Int} {l1 l2 l3 l4 l5 l6 l7 l8 l9 l10 l11 l12 l13 l14 : Bool} {u8 u35 u36 u37 u38 u39 u40 u41 u42 u43 u44 u45 u46 u47 : Value} {x : World} (h : PF H s P n wp ad cap xs sent got amt false l1 l2 l3 l4 l5 l6 l7 l8 l9 l10 l11 l12 l13 l14 u8 u35 u36 u37 u38 u39 u40 u41 u42 u43 u44 u45 u46 u47 x) (hH : H ≤ wp.heap.size) : PF H s P n wp ad cap xs sent got amt true l1 l2 l3 l4 l5 l6 l7 l8 l9 l10 l11 l12 l13 l14 u8 (V (some ⟨x.heap.size, 0, none⟩) 0 0) u36 u37 u38 u39 u40 u41 u42 u43 u44 u45 u46 u47 (x.alloc (.cells #[] 61)) := by
 have k := h.alloc hH (.cells #[] 61)
 have hHx : H ≤ x.heap.size := Nat.le_trans hH h.bel.size
 exact { k with
  r0 := fun _ _ => World.ownsRow_made x #[] 0 hHx (by unfold maxLen; omega) rfl
  c := fun a b => by
   obtain ⟨g, e0, lt, c0, c1, n0, n1⟩ := k.c a b
   obtain ⟨g', e0', lt', _⟩ := h.c a b
   rw [e0] at e0'
   simp only [Value.slice.injEq, Option.some.injEq, Addr.mk.injEq, and_true] at e0'
   exact ⟨g, e0, lt, c0, c1, fun _ _ => by simp [Value.ownBlock]; omega, n1⟩
  e := fun a => by
   obtain ⟨g, e0, hg, lt, fz, hv, n0, n1, n2⟩ := k.e a
   obtain ⟨g', e0', hg', lt', _⟩ := h.e a
   rw [e0] at e0'
   simp only [Value.pointer.injEq, Option.some.injEq, Addr.mk.injEq, and_true] at e0'
   exact ⟨g, e0, hg, lt, fz, hv, fun _ _ => by simp [Value.ownBlock]; omega, n1, n2⟩ }
theorem PF.sC {H s P n : Nat} {wp : World} {ad : Option Addr} {cap : Nat} {xs : List Value} {sent got amt : Int} {l0 l1 l2 l3 l4 l6 l7 l8 l9 l10 l11 l12 l13 l14 : Bool} {u8 u35 u36 u37 u38 u39 u40 u41 u42 u43 u44 u45 u46 u47 : Value} {x : World} (h : PF H s P n wp ad cap xs sent got amt l0 l1 l2 l3 l4 false l6 l7 l8 l9 l10 l11 l12 l13 l14 u8 u35 u36 u37 u38 u39 u40 u41 u42 u43 u44 u45 u46 u47 x) (hH : H ≤ wp.heap.size) : PF H s P n wp ad cap xs sent got amt l0 l1 l2 l3 l4 true l6 l7 l8 l9 l10 l11 l12 l13 l14 u8 u35 u36 u37 u38 u39 (V (some ⟨x.heap.size, 0, none⟩) 1 1) u41 u42 u43 u44 u45 u46 u47 (x.alloc (.cells #[J Z (sent + 1), J Z amt] 61)) := by
 have k := h.alloc hH (.cells #[J Z (sent + 1), J Z amt] 61)
 exact { k with
  c := fun a b => ⟨x.heap.size, rfl, by simp, World.cell?_alloc_at _ _ _ _ rfl, World.cell?_alloc_at _ _ _ _ rfl, fun p q => own_ne (h.r0 p q), fun p => own_ne (h.r1 p b)⟩ }
theorem PF.sE {H s P n : Nat} {wp : World} {ad : Option Addr} {cap : Nat} {xs : List Value} {sent got amt : Int} {l0 l1 l2 l3 l4 l5 l6 l7 l8 l9 l10 l11 l12 l14 : Bool} {u8 u35 u36 u37 u38 u39 u40 u41 u42 u43 u44 u45 u46 u47 : Value} {x : World} (h : PF H s P n wp ad cap xs sent got amt l0 l1 l2 l3 l4 l5 l6 l7 l8 l9 l10 l11 l12 false l14 u8 u35 u36 u37 u38 u39 u40 u41 u42 u43 u44 u45 u46 u47 x) (hH : H ≤ wp.heap.size) : PF H s P n wp ad cap xs sent got amt l0 l1 l2 l3 l4 l5 l6 l7 l8 l9 l10 l11 l12 true l14 (.pointer (some ⟨x.heap.size, 0, none⟩)) u35 u36 u37 u38 u39 u40 u41 u42 u43 u44 u45 u46 u47 (x.alloc (.cells #[V none 0 0, J Z 0, J Z 0] 39)) := by
 have k := h.alloc hH (.cells #[V none 0 0, J Z 0, J Z 0] 39)
 exact { k with
  d14 := fun _ => rfl
  e := fun a => ⟨x.heap.size, rfl, Nat.le_trans hH h.bel.size, by simp, frozen_of_block (heap_alloc_new x _), ⟨_, _, _, World.cell?_alloc_at _ _ _ _ rfl, World.cell?_alloc_at _ _ _ _ rfl, World.cell?_alloc_at _ _ _ _ rfl, fun q => absurd (h.d14 q) (by simp)⟩, fun p q => own_ne (h.r0 p q), fun p q => own_ne (h.r1 p q), fun p => own_ne (h.r2 p)⟩ }
theorem PF.sB {H s P n : Nat} {wp : World} {ad : Option Addr} {cap : Nat} {xs : List Value} {sent got amt : Int} {l1 l2 l4 l5 l6 l7 l8 l9 l10 l11 l12 l13 l14 : Bool} {u8 u35 u36 u37 u38 u39 u40 u41 u42 u43 u44 u45 u46 u47 : Value} {x : World} {y : World} {v : Value} (h : PF H s P n wp ad cap xs sent got amt true l1 l2 false l4 l5 l6 l7 l8 l9 l10 l11 l12 l13 l14 u8 u35 u36 u37 u38 u39 u40 u41 u42 u43 u44 u45 u46 u47 x) (hH : H ≤ wp.heap.size) (ho : y.ownsRow H 61 2 v n xs) (hg : x.grownBy y u35.ownBlock) (hl : v.ownBlock = u35.ownBlock ∨ v.ownBlock = some x.heap.size) : PF H s P n wp ad cap xs sent got amt true l1 l2 true l4 l5 l6 l7 l8 l9 l10 l11 l12 l13 l14 u8 u35 u36 u37 v u39 u40 u41 u42 u43 u44 u45 u46 u47 y := by
 have own := h.r0 rfl rfl
 exact { h with
  bel := h.bel.grown hg (Nat.le_trans hH h.bel.size) (fun k hk => (own.lt k hk).1)
  d6 := fun _ => rfl
  r0 := fun _ q => (by cases q)
  r1 := fun _ _ => ho
  r2 := fun a => absurd (h.d6 a) (by simp)
  c := fun a b => by
   obtain ⟨g, e0, lt, c0, c1, n0, n1⟩ := h.c a b
   have ne : some g ≠ u35.ownBlock := fun q => n0 rfl rfl q.symm
   exact ⟨g, e0, Nat.lt_of_lt_of_le lt hg.size, (hg.cell_far _ lt ne).trans c0, (hg.cell_far _ lt ne).trans c1, fun _ q => (by cases q), fun _ => own_lie hl (n0 rfl rfl) lt⟩
  e := fun a => by
   obtain ⟨g, e0, hg0, lt, fz, ⟨v0, v1, v2, c0, c1, c2, hc⟩, n0, n1, n2⟩ := h.e a
   have ne : some g ≠ u35.ownBlock := fun q => n0 rfl rfl q.symm
   exact ⟨g, e0, hg0, Nat.lt_of_lt_of_le lt hg.size, fun j => (hg.frozen_far _ lt ne).trans (fz j), ⟨v0, v1, v2, (hg.cell_far _ lt ne).trans c0, (hg.cell_far _ lt ne).trans c1, (hg.cell_far _ lt ne).trans c2, hc⟩, fun _ q => (by cases q), fun _ _ => own_lie hl (n0 rfl rfl) lt, n2⟩ }
theorem PF.sD {H s P n : Nat} {wp : World} {ad : Option Addr} {cap : Nat} {xs : List Value} {sent got amt : Int} {l0 l1 l2 l4 l5 l7 l8 l9 l10 l11 l12 l13 l14 : Bool} {u8 u35 u36 u37 u38 u39 u40 u41 u42 u43 u44 u45 u46 u47 : Value} {x : World} {y : World} {v : Value} (h : PF H s P n wp ad cap xs sent got amt l0 l1 l2 true l4 l5 false l7 l8 l9 l10 l11 l12 l13 l14 u8 u35 u36 u37 u38 u39 u40 u41 u42 u43 u44 u45 u46 u47 x) (hH : H ≤ wp.heap.size) (ho : y.ownsRow H 61 2 v (n + 1) (xs ++ [J Z (sent + 1), J Z amt])) (hg : x.grownBy y u38.ownBlock) (hl : v.ownBlock = u38.ownBlock ∨ v.ownBlock = some x.heap.size) : PF H s P n wp ad cap xs sent got amt l0 l1 l2 true l4 l5 true l7 l8 l9 l10 l11 l12 l13 l14 u8 u35 u36 u37 u38 u39 u40 v u42 u43 u44 u45 u46 u47 y := by
 have own := h.r1 rfl rfl
 exact { h with
  bel := h.bel.grown hg (Nat.le_trans hH h.bel.size) (fun k hk => (own.lt k hk).1)
  d6 := fun _ => rfl
  p47 := fun a => absurd (h.p47 a).1 (by simp)
  r0 := fun _ q => (by cases q)
  r1 := fun _ q => (by cases q)
  r2 := fun a => ho
  c := fun _ q => (by cases q)
  e := fun a => by
   obtain ⟨g, e0, hg0, lt, fz, ⟨v0, v1, v2, c0, c1, c2, hc⟩, n0, n1, n2⟩ := h.e a
   have ne : some g ≠ u38.ownBlock := fun q => n1 rfl rfl q.symm
   exact ⟨g, e0, hg0, Nat.lt_of_lt_of_le lt hg.size, fun j => (hg.frozen_far _ lt ne).trans (fz j), ⟨v0, v1, v2, (hg.cell_far _ lt ne).trans c0, (hg.cell_far _ lt ne).trans c1, (hg.cell_far _ lt ne).trans c2, fun q => absurd (hc q).1 (by simp)⟩, fun _ q => (by cases q), fun _ q => (by cases q), fun _ => own_lie hl (n1 rfl rfl) lt⟩ }
theorem PF.sF {H s P n : Nat} {wp : World} {ad : Option Addr} {cap : Nat} {xs : List Value} {sent got amt : Int} {l0 l1 l2 l4 l5 l7 l8 l9 l10 l11 : Bool} {u8 u35 u36 u37 u38 u39 u40 u41 u42 u43 u44 u45 u46 u47 : Value} {x : World} {g : Nat} (h : PF H s P n wp ad cap xs sent got amt l0 l1 l2 true l4 l5 true l7 l8 l9 l10 l11 true true false u8 u35 u36 u37 u38 u39 u40 u41 u42 u43 u44 u45 u46 u47 x) (hH : H ≤ wp.heap.size) (hg : u8 = .pointer (some ⟨g, 0, none⟩)) : PF H s P n wp ad cap xs sent got amt l0 l1 l2 true l4 l5 true l7 l8 l9 l10 l11 true true true u8 u35 u36 u37 u38 u39 u40 u41 u42 u43 u44 u45 u46 u47 (((x.setCell ⟨g, 0, none⟩ u41).setCell ⟨g, 1, none⟩ (J Z (sent + 1))).setCell ⟨g, 2, none⟩ (J Z got)) := by
 obtain ⟨g', e0, hg0, lt, fz, ⟨v0, v1, v2, c0, c1, c2, hc⟩, n0, n1, n2⟩ := h.e rfl
 rw [hg] at e0
 simp only [Value.pointer.injEq, Option.some.injEq, Addr.mk.injEq, and_true] at e0
 subst e0
 have g1 := grown_set x g 0 u41
 have g2 := grown_set (x.setCell ⟨g, 0, none⟩ u41) g 1 (J Z (sent + 1))
 have g3 := grown_set ((x.setCell ⟨g, 0, none⟩ u41).setCell ⟨g, 1, none⟩ (J Z (sent + 1))) g 2 (J Z got)
 have hn : u41.ownBlock = none ∨ u41.ownBlock ≠ some g := .inr (n2 rfl)
 exact { h with
  bel := ((h.bel.setCell (p := ⟨g, 0, none⟩) hg0 _).setCell (p := ⟨g, 1, none⟩) hg0 _).setCell (p := ⟨g, 2, none⟩) hg0 _
  d14 := fun _ => rfl
  r0 := fun _ q => (by cases q)
  r1 := fun _ q => (by cases q)
  r2 := fun a => (((h.r2 a).kept g1 hn).kept g2 hn).kept g3 hn
  c := fun _ q => (by cases q)
  e := fun _ => ⟨g, hg, hg0, by simpa [World.setCell] using lt, fun j => by simp [fz], ⟨u41, J Z (sent + 1), J Z got, by
    rw [cell_set_other (.inr (by simp)), cell_set_other (.inr (by simp)), cell_set_same c0], by
    rw [cell_set_other (.inr (by simp)), cell_set_same (by rw [cell_set_other (.inr (by simp))]; exact c1)], by
    rw [cell_set_same (by rw [cell_set_other (.inr (by simp)), cell_set_other (.inr (by simp))]; exact c2)], fun _ => ⟨rfl, rfl, rfl, rfl⟩⟩, fun _ q => (by cases q), fun _ q => (by cases q), fun _ => n2 rfl⟩ }
end Go.Proofs.Ytkcpoibhlnjldaa
