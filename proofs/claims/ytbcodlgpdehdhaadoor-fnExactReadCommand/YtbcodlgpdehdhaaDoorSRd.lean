/- The contract of the model's ReadCommand. -/
import Derived.Test.YtbcodlgpdehdhaaDoorTxtS
import Derived.Test.YtbcodlgpdehdhaaDoorWds
namespace Go.Proofs.YtbcodlgpdehdhaaDoor
open Go.ChangeShapes Go.WideShapes Go.ChangeAt Go.RowKit
set_option linter.unusedVariables false
set_option maxRecDepth 100000
/-- a command's block -/
def CAt (b : Nat) (id kind : Int) (f t : ByteArray) (am ref : Int) (x : World) : Prop := x.heap[b]? = some (.cells #[.int .i64 id, .int .i64 kind, .string f, .string t, .int .i64 am, .int .i64 ref] 23 (0, 0))
theorem CAt.cells {b : Nat} {id kind : Int} {f t : ByteArray} {am ref : Int} {x : World} (h : CAt b id kind f t am ref x) :
    (x.cell? ⟨b, 0, none⟩ = some (.int .i64 id) ∧ x.cell? ⟨b, 1, none⟩ = some (.int .i64 kind) ∧ x.cell? ⟨b, 2, none⟩ = some (.string f) ∧ x.cell? ⟨b, 3, none⟩ = some (.string t) ∧ x.cell? ⟨b, 4, none⟩ = some (.int .i64 am) ∧ x.cell? ⟨b, 5, none⟩ = some (.int .i64 ref)) ∧ ∀ j, x.frozen? ⟨b, j, none⟩ = false :=
  ⟨⟨by simp [World.cell?, show x.heap[b]? = _ from h], by simp [World.cell?, show x.heap[b]? = _ from h], by simp [World.cell?, show x.heap[b]? = _ from h], by simp [World.cell?, show x.heap[b]? = _ from h], by simp [World.cell?, show x.heap[b]? = _ from h], by simp [World.cell?, show x.heap[b]? = _ from h]⟩, frozen_of_block h⟩
theorem CAt.below {b : Nat} {id kind : Int} {f t : ByteArray} {am ref : Int} {x y : World} (h : CAt b id kind f t am ref x) (k : Below x.heap.size x y) : CAt b id kind f t am ref y :=
  (k.block b (Array.getElem?_eq_some_iff.1 h).1).trans h
def put6 (x : World) (b : Nat) (v0 v1 v2 v3 v4 v5 : Value) : World := (((((x.setCell ⟨b, 0, none⟩ v0).setCell ⟨b, 1, none⟩ v1).setCell ⟨b, 2, none⟩ v2).setCell ⟨b, 3, none⟩ v3).setCell ⟨b, 4, none⟩ v4).setCell ⟨b, 5, none⟩ v5
theorem put6_cells {x : World} {b : Nat} {v0 v1 v2 v3 v4 v5 u0 u1 u2 u3 u4 u5 : Value} (r0 : x.cell? ⟨b, 0, none⟩ = some u0) (r1 : x.cell? ⟨b, 1, none⟩ = some u1) (r2 : x.cell? ⟨b, 2, none⟩ = some u2) (r3 : x.cell? ⟨b, 3, none⟩ = some u3) (r4 : x.cell? ⟨b, 4, none⟩ = some u4) (r5 : x.cell? ⟨b, 5, none⟩ = some u5) :
    (put6 x b v0 v1 v2 v3 v4 v5).cell? ⟨b, 0, none⟩ = some v0 ∧ (put6 x b v0 v1 v2 v3 v4 v5).cell? ⟨b, 1, none⟩ = some v1 ∧ (put6 x b v0 v1 v2 v3 v4 v5).cell? ⟨b, 2, none⟩ = some v2 ∧ (put6 x b v0 v1 v2 v3 v4 v5).cell? ⟨b, 3, none⟩ = some v3 ∧ (put6 x b v0 v1 v2 v3 v4 v5).cell? ⟨b, 4, none⟩ = some v4 ∧ (put6 x b v0 v1 v2 v3 v4 v5).cell? ⟨b, 5, none⟩ = some v5 := by
  unfold put6
  refine ⟨?_, ?_, ?_, ?_, ?_, ?_⟩
  · rw [cell_set_other (.inr (by omega)), cell_set_other (.inr (by omega)), cell_set_other (.inr (by omega)), cell_set_other (.inr (by omega)), cell_set_other (.inr (by omega))]; exact cell_set_same r0
  · rw [cell_set_other (.inr (by omega)), cell_set_other (.inr (by omega)), cell_set_other (.inr (by omega)), cell_set_other (.inr (by omega))]; exact cell_set_same (by rw [cell_set_other (.inr (by omega))]; exact r1)
  · rw [cell_set_other (.inr (by omega)), cell_set_other (.inr (by omega)), cell_set_other (.inr (by omega))]; exact cell_set_same (by rw [cell_set_other (.inr (by omega)), cell_set_other (.inr (by omega))]; exact r2)
  · rw [cell_set_other (.inr (by omega)), cell_set_other (.inr (by omega))]; exact cell_set_same (by rw [cell_set_other (.inr (by omega)), cell_set_other (.inr (by omega)), cell_set_other (.inr (by omega))]; exact r3)
  · rw [cell_set_other (.inr (by omega))]; exact cell_set_same (by rw [cell_set_other (.inr (by omega)), cell_set_other (.inr (by omega)), cell_set_other (.inr (by omega)), cell_set_other (.inr (by omega))]; exact r4)
  · exact cell_set_same (by rw [cell_set_other (.inr (by omega)), cell_set_other (.inr (by omega)), cell_set_other (.inr (by omega)), cell_set_other (.inr (by omega)), cell_set_other (.inr (by omega))]; exact r5)
theorem put6_below {w x : World} {b : Nat} {v0 v1 v2 v3 v4 v5 : Value} (h : Below w.heap.size w x) (hb : w.heap.size ≤ b) : Below w.heap.size w (put6 x b v0 v1 v2 v3 v4 v5) :=
  (((((h.setCell (p := ⟨b, 0, none⟩) hb v0).setCell (p := ⟨b, 1, none⟩) hb v1).setCell (p := ⟨b, 2, none⟩) hb v2).setCell (p := ⟨b, 3, none⟩) hb v3).setCell (p := ⟨b, 4, none⟩) hb v4).setCell (p := ⟨b, 5, none⟩) hb v5
set_option maxHeartbeats 4000000 in
theorem sread_short (l : List UInt8) (w : World) (hs : l.length ≤ 1048576) (h3 : (wordsL l).length < 3) :
    Calls Tryd.prog 4 #[.string (bs l)] w fun e w' => e = .returned (.tuple #[.agg #[.int .i64 0, .int .i64 0, .string ByteArray.empty, .string ByteArray.empty, .int .i64 0, .int .i64 0], .bool false]) ∧ Below w.heap.size w w' := by
  have h3' : ((wordsL l).length : Int) < 3 := by omega
  go_enter Tryd.func4, Tryd.ntmps4
  go_wp2_with (first | (go_at_call 7; refine (l3Words_any l _ hs).mono ?_; rintro e w1 ⟨hb1, g, cap, rfl, hg, hc⟩; have HR : Hid (CAt w.heap.size 0 0 ByteArray.empty ByteArray.empty 0 0 w1) := hide (CAt.below (heap_alloc_new w _) hb1); have HB : Hid _ := hide hb1; clear hb1; obtain ⟨⟨r0, r1, r2, r3, r4, r5⟩, rf⟩ := HR.out.cells; have f0 := rf 0; have f1 := rf 1; have f2 := rf 2; have f3 := rf 3; have f4 := rf 4; have f5 := rf 5; clear rf) | fail)
  obtain ⟨e0, e1, e2, e3, e4, e5⟩ := put6_cells (v0 := .int .i64 0) (v1 := .int .i64 0) (v2 := .string { data := #[] }) (v3 := .string { data := #[] }) (v4 := .int .i64 0) (v5 := .int .i64 0) r0 r1 r2 r3 r4 r5
  unfold put6 at e0 e1 e2 e3 e4 e5
  have HE := put6_below (v0 := .int .i64 0) (v1 := .int .i64 0) (v2 := .string { data := #[] }) (v3 := .string { data := #[] }) (v4 := .int .i64 0) (v5 := .int .i64 0) (below_trans (below_alloc (Below.refl w.heap.size w) _) HB.out) (Nat.le_refl _)
  exact bodyPost_ret (v := .tuple #[.agg #[.int .i64 0, .int .i64 0, .string { data := #[] }, .string { data := #[] }, .int .i64 0, .int .i64 0], .bool false]) (by simp [results, Tryd.results4, go_sem, e0, e1, e2, e3, e4, e5]) rfl ⟨rfl, HE⟩
end Go.Proofs.YtbcodlgpdehdhaaDoor
