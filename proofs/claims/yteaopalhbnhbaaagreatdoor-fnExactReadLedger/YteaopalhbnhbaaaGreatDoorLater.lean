/- A region that draws its order, reads what was there and calls what lays new blocks alone: one walk, in the order of the text, serves every order. -/
import Derived.Test.YteaopalhbnhbaaaGreatDoorSOk
namespace Go.Proofs.YteaopalhbnhbaaaGreatDoor
open Go.ChangeShapes Go.WideShapes Go.ChangeAt Go.RowKit
set_option linter.unusedVariables false
set_option maxRecDepth 100000
theorem later_box {w wr : World} {va vh vs : Value} (o : Obj) (hsz : w.heap.size < wr.heap.size) (e0 : wr.cell? ⟨w.heap.size, 0, none⟩ = some va) (e1 : wr.cell? ⟨w.heap.size, 1, none⟩ = some vh) (e2 : wr.cell? ⟨w.heap.size, 2, none⟩ = some vs) :
    (∀ x : Later (wr.alloc o), x.w.cell? ⟨w.heap.size, 0, none⟩ = some va) ∧ (∀ x : Later (wr.alloc o), x.w.cell? ⟨w.heap.size, 1, none⟩ = some vh) ∧ (∀ x : Later (wr.alloc o), x.w.cell? ⟨w.heap.size, 2, none⟩ = some vs) := by
  have h0 : w.heap.size < (wr.alloc o).heap.size := by simp; omega
  exact ⟨fun x => (x.below.cell h0).trans ((World.cell?_alloc_past _ _ _ hsz).trans e0), fun x => (x.below.cell h0).trans ((World.cell?_alloc_past _ _ _ hsz).trans e1), fun x => (x.below.cell h0).trans ((World.cell?_alloc_past _ _ _ hsz).trans e2)⟩
theorem later_new {wr : World} {v0 v1 v2 v3 : Value} {T : TypeId} :
    (∀ x : Later (wr.alloc (.cells #[v0, v1, v2, v3] T)), x.w.cell? ⟨wr.heap.size, 0, none⟩ = some v0) ∧ (∀ x : Later (wr.alloc (.cells #[v0, v1, v2, v3] T)), x.w.cell? ⟨wr.heap.size, 1, none⟩ = some v1) ∧ (∀ x : Later (wr.alloc (.cells #[v0, v1, v2, v3] T)), x.w.cell? ⟨wr.heap.size, 2, none⟩ = some v2) := by
  have h1 : wr.heap.size < (wr.alloc (.cells #[v0, v1, v2, v3] T)).heap.size := by simp
  exact ⟨fun x => (x.below.cell h1).trans (World.cell?_alloc_at _ _ _ _ rfl), fun x => (x.below.cell h1).trans (World.cell?_alloc_at _ _ _ _ rfl), fun x => (x.below.cell h1).trans (World.cell?_alloc_at _ _ _ _ rfl)⟩
theorem later_old {wr : World} {o : Obj} {b f : Nat} {v : Value} (hb : b < wr.heap.size) (h : wr.cell? ⟨b, f, none⟩ = some v) : ∀ x : Later (wr.alloc o), x.w.cell? ⟨b, f, none⟩ = some v :=
  fun x => (x.below.cell (by simp; omega)).trans ((World.cell?_alloc_past _ _ _ hb).trans h)
end Go.Proofs.YteaopalhbnhbaaaGreatDoor
