/- What the law on links keeps: two ends in variables, a list of parcels of its own. -/
import Derived.Test.YtjmkppajfebidaaLkM
import Derived.Test.YtjmkppajfebidaaInv2
namespace Go.Proofs.Ytjmkppajfebidaa
open Go.ChangeShapes Go.WideShapes Go.ChangeAt Go.RowKit
set_option linter.unusedVariables false
/-- an end in a variable that may be written -/
structure Var (K : Nat) (E : En) (a : Option Addr) (cap : Nat) (x : World) : Prop where
  lt : K < x.heap.size
  c0 : x.cell? ⟨K, 0, none⟩ = some (.slice a E.out.length cap)
  c1 : x.cell? ⟨K, 1, none⟩ = some (.int .i64 E.sent)
  c2 : x.cell? ⟨K, 2, none⟩ = some (.int .i64 E.got)
  fz : ∀ j, x.frozen? ⟨K, j, none⟩ = false
theorem Var.keep {K : Nat} {E : En} {a : Option Addr} {cap : Nat} {x y : World} (h : Var K E a cap x) (hs : x.heap.size ≤ y.heap.size) (e : y.heap[K]? = x.heap[K]?) : Var K E a cap y :=
  ⟨Nat.lt_of_lt_of_le h.lt hs, (World.cell?_of_block e).trans h.c0, (World.cell?_of_block e).trans h.c1, (World.cell?_of_block e).trans h.c2, fun j => (World.frozen?_of_block e).trans (h.fz j)⟩
theorem Var.put {K : Nat} {E : En} {a : Option Addr} {cap : Nat} {x : World} (h : Var K E a cap x) (E2 : En) (a2 : Option Addr) (cap2 : Nat) :
    Var K E2 a2 cap2 (((x.setCell ⟨K, 0, none⟩ (.slice a2 E2.out.length cap2)).setCell ⟨K, 1, none⟩ (.int .i64 E2.sent)).setCell ⟨K, 2, none⟩ (.int .i64 E2.got)) :=
  ⟨by simpa [World.setCell] using h.lt, by rw [cell_set_other (.inr (by simp)), cell_set_other (.inr (by simp))]; exact cell_set_same h.c0, by rw [cell_set_other (.inr (by simp))]; exact cell_set_same (by rw [cell_set_other (.inr (by simp))]; exact h.c1), cell_set_same (by rw [cell_set_other (.inr (by simp)), cell_set_other (.inr (by simp))]; exact h.c2), fun j => by simp [h.fz]⟩
structure Lk (w : World) (ka kb : Nat) (A : En) (aa : Option Addr) (ac ga : Nat) (b : En) (ba : Option Addr) (bc : Nat) (v : Value) (ps : List Prc) (x : World) : Prop where
  bel : Below w.heap.size w x
  loA : w.heap.size ≤ ka
  loB : w.heap.size ≤ kb
  ne : ka ≠ kb
  vA : Var ka A aa ac x
  vB : Var kb b ba bc x
  bn : b.out = []
  nB : ba = none → bc = 0
  gA : w.heap.size ≤ ga
  gne : 0 < A.out.length → ga ≠ ka ∧ ga ≠ kb ∧ v.ownBlock ≠ some ga
  row : OwnRow 2 prcCells x ga aa ac A.out
  lst : x.ownsRow w.heap.size 30 2 v ps.length (ps.flatMap prcCells)
  lA : v.ownBlock ≠ some ka
  lB : v.ownBlock ≠ some kb
theorem Lk.below {w : World} {ka kb : Nat} {A : En} {aa : Option Addr} {ac ga : Nat} {b : En} {ba : Option Addr} {bc : Nat} {v : Value} {ps : List Prc} {x y : World} (h : Lk w ka kb A aa ac ga b ba bc v ps x) (k : Below x.heap.size x y) : Lk w ka kb A aa ac ga b ba bc v ps y :=
  { h with
    bel := below_trans h.bel k
    vA := h.vA.keep k.size (k.block _ h.vA.lt)
    vB := h.vB.keep k.size (k.block _ h.vB.lt)
    row := h.row.below k
    lst := own_keep h.lst k }
theorem Lk.rowB {w : World} {ka kb : Nat} {A : En} {aa : Option Addr} {ac ga : Nat} {b : En} {ba : Option Addr} {bc : Nat} {v : Value} {ps : List Prc} {x : World} (h : Lk w ka kb A aa ac ga b ba bc v ps x) : RowAt 2 prcCells x ba b.out := by rw [h.bn]; exact RowAt.nil
/-- the first end's variable is written anew -/
theorem Lk.setA {w : World} {ka kb : Nat} {A : En} {aa : Option Addr} {ac ga : Nat} {b : En} {ba : Option Addr} {bc : Nat} {v : Value} {ps : List Prc} {x : World} (h : Lk w ka kb A aa ac ga b ba bc v ps x) {A2 : En} {a2 : Option Addr} {c2 g2 : Nat} (hg : w.heap.size ≤ g2) (hn : 0 < A2.out.length → g2 ≠ ka ∧ g2 ≠ kb ∧ v.ownBlock ≠ some g2) (ho : OwnRow 2 prcCells x g2 a2 c2 A2.out) :
    Lk w ka kb A2 a2 c2 g2 b ba bc v ps (((x.setCell ⟨ka, 0, none⟩ (.slice a2 A2.out.length c2)).setCell ⟨ka, 1, none⟩ (.int .i64 A2.sent)).setCell ⟨ka, 2, none⟩ (.int .i64 A2.got)) := by
  have hot : ∀ j, j ≠ ka → (((x.setCell ⟨ka, 0, none⟩ (.slice a2 A2.out.length c2)).setCell ⟨ka, 1, none⟩ (.int .i64 A2.sent)).setCell ⟨ka, 2, none⟩ (.int .i64 A2.got)).heap[j]? = x.heap[j]? := fun j hj => ((Below.heap_setCell _ _ _ _ hj).trans (Below.heap_setCell _ _ _ _ hj)).trans (Below.heap_setCell _ _ _ _ hj)
  have hv : v.ownBlock = none ∨ v.ownBlock ≠ some ka := .inr h.lA
  exact { h with
    bel := ((h.bel.setCell (p := ⟨ka, 0, none⟩) h.loA _).setCell (p := ⟨ka, 1, none⟩) h.loA _).setCell (p := ⟨ka, 2, none⟩) h.loA _
    vA := h.vA.put A2 a2 c2
    vB := h.vB.keep (by simp [World.setCell]) (hot _ (Ne.symm h.ne))
    gA := hg
    gne := hn
    row := ho.turned ((((Turned.refl ka x).setCell _).setCell _).setCell _) (fun q => (hn q).1)
    lst := ((h.lst.kept (grown_set _ _ _ _) hv).kept (grown_set _ _ _ _) hv).kept (grown_set _ _ _ _) hv }
theorem Lk.setB {w : World} {ka kb : Nat} {A : En} {aa : Option Addr} {ac ga : Nat} {b : En} {ba : Option Addr} {bc : Nat} {v : Value} {ps : List Prc} {x : World} (h : Lk w ka kb A aa ac ga b ba bc v ps x) {b2 : En} {a2 : Option Addr} {c2 : Nat} (hb2 : b2.out = []) (hn : a2 = none → c2 = 0) :
    Lk w ka kb A aa ac ga b2 a2 c2 v ps (((x.setCell ⟨kb, 0, none⟩ (.slice a2 b2.out.length c2)).setCell ⟨kb, 1, none⟩ (.int .i64 b2.sent)).setCell ⟨kb, 2, none⟩ (.int .i64 b2.got)) := by
  have hot : ∀ j, j ≠ kb → (((x.setCell ⟨kb, 0, none⟩ (.slice a2 b2.out.length c2)).setCell ⟨kb, 1, none⟩ (.int .i64 b2.sent)).setCell ⟨kb, 2, none⟩ (.int .i64 b2.got)).heap[j]? = x.heap[j]? := fun j hj => ((Below.heap_setCell _ _ _ _ hj).trans (Below.heap_setCell _ _ _ _ hj)).trans (Below.heap_setCell _ _ _ _ hj)
  have hv : v.ownBlock = none ∨ v.ownBlock ≠ some kb := .inr h.lB
  exact { h with
    bel := ((h.bel.setCell (p := ⟨kb, 0, none⟩) h.loB _).setCell (p := ⟨kb, 1, none⟩) h.loB _).setCell (p := ⟨kb, 2, none⟩) h.loB _
    vA := h.vA.keep (by simp [World.setCell]) (hot _ h.ne)
    vB := h.vB.put b2 a2 c2
    bn := hb2
    nB := hn
    row := h.row.turned ((((Turned.refl kb x).setCell _).setCell _).setCell _) (fun q => (h.gne q).2.1)
    lst := ((h.lst.kept (grown_set _ _ _ _) hv).kept (grown_set _ _ _ _) hv).kept (grown_set _ _ _ _) hv }
/-- the list has grown -/
theorem Lk.grow {w : World} {ka kb : Nat} {A : En} {aa : Option Addr} {ac ga : Nat} {b : En} {ba : Option Addr} {bc : Nat} {v v2 : Value} {ps ps2 : List Prc} {x y : World} (h : Lk w ka kb A aa ac ga b ba bc v ps x) (hg : x.grownBy y v.ownBlock) (ho : y.ownsRow w.heap.size 30 2 v2 ps2.length (ps2.flatMap prcCells)) (hl : v2.ownBlock = v.ownBlock ∨ v2.ownBlock = some x.heap.size) : Lk w ka kb A aa ac ga b ba bc v2 ps2 y :=
  { h with
    bel := h.bel.grown hg h.bel.size (fun k hk => (h.lst.lt k hk).1)
    vA := h.vA.keep hg.size (hg.block _ h.vA.lt (fun e => h.lA e.symm))
    vB := h.vB.keep hg.size (hg.block _ h.vB.lt (fun e => h.lB e.symm))
    gne := fun q => ⟨(h.gne q).1, (h.gne q).2.1, own_lie hl (h.gne q).2.2 (h.row.lt q)⟩
    row := h.row.keepB (fun q => hg.block _ (h.row.lt q) (fun e => (h.gne q).2.2 e.symm))
    lst := ho
    lA := own_lie hl h.lA h.vA.lt
    lB := own_lie hl h.lB h.vB.lt }
/-- the start -/
theorem lk_start {w x : World} (hb : Below w.heap.size w x) : Lk w x.heap.size (x.heap.size + 1) ⟨[], 0, 0⟩ none 0 w.heap.size ⟨[], 0, 0⟩ none 0 (.slice (some ⟨x.heap.size + 2, 0, none⟩) 0 0) [] (((x.alloc (.cells #[.slice none 0 0, .int .i64 0, .int .i64 0] 26)).alloc (.cells #[.slice none 0 0, .int .i64 0, .int .i64 0] 26)).alloc (.cells #[] 30)) := by
  obtain ⟨y, hy⟩ : ∃ y, y = x.alloc (.cells #[.slice none 0 0, .int .i64 0, .int .i64 0] 26) := ⟨_, rfl⟩
  obtain ⟨z, hz⟩ : ∃ z, z = y.alloc (.cells #[.slice none 0 0, .int .i64 0, .int .i64 0] 26) := ⟨_, rfl⟩
  have sy : y.heap.size = x.heap.size + 1 := by rw [hy]; simp
  have sz : z.heap.size = x.heap.size + 2 := by rw [hz]; simp [sy]
  have vy : Var x.heap.size ⟨[], 0, 0⟩ none 0 y := by
    rw [hy]; exact ⟨by simp, World.cell?_alloc_at _ _ _ _ rfl, World.cell?_alloc_at _ _ _ _ rfl, World.cell?_alloc_at _ _ _ _ rfl, frozen_of_block (heap_alloc_new x _)⟩
  have vz : Var y.heap.size ⟨[], 0, 0⟩ none 0 z := by
    rw [hz]; exact ⟨by simp, World.cell?_alloc_at _ _ _ _ rfl, World.cell?_alloc_at _ _ _ _ rfl, World.cell?_alloc_at _ _ _ _ rfl, frozen_of_block (heap_alloc_new y _)⟩
  have b1 : Below y.heap.size y z := by rw [hz]; exact below_alloc (Below.refl _ _) _
  have b0 : Below x.heap.size x y := by rw [hy]; exact below_alloc (Below.refl _ _) _
  have b2 : Below z.heap.size z (z.alloc (.cells #[] 30)) := below_alloc (Below.refl _ _) _
  have hs := hb.size
  rw [← hy, ← hz]
  have own := World.ownsRow_made (base := w.heap.size) (e := 30) (size := 2) z #[] 0 (by omega) (by unfold maxLen; omega) rfl
  rw [sz] at own
  have vz' := vz.keep b2.size (b2.block _ vz.lt)
  rw [sy] at vz'
  exact ⟨below_trans (below_trans (below_trans hb b0) b1) b2, hs, by omega, by omega, (vy.keep b1.size (b1.block _ vy.lt)).keep b2.size (b2.block _ (by omega)), vz', rfl, fun _ => rfl, Nat.le_refl _, fun q => by simp at q, OwnRow.nil (fun _ => rfl), own, by simp [Value.ownBlock], by simp [Value.ownBlock]⟩
end Go.Proofs.Ytjmkppajfebidaa
