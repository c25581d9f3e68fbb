/- The box of a call; how LedgerOk ends. -/
import Derived.Test.YteaopalhbnhbaaaGreatDoorLater
namespace Go.Proofs.YteaopalhbnhbaaaGreatDoor
open Go.ChangeShapes Go.WideShapes Go.ChangeAt Go.RowKit
set_option linter.unusedVariables false
set_option maxRecDepth 100000
def OkEnd (b : Bool) (w : World) (e : Ending) (w' : World) : Prop := e = .returned (.bool b) ∧ Below w.heap.size w w'
theorem below_of_box {w wr : World} {o : Obj} (h : Below (w.heap.size + 1) (w.alloc o) wr) : Below w.heap.size w wr :=
  (below_alloc (Below.refl _ _) o).trans (h.mono (by omega))
theorem box_grow {w a b : World} {o : Obj} (h : Below (w.heap.size + 1) (w.alloc o) a) (k : Below a.heap.size a b) : Below (w.heap.size + 1) (w.alloc o) b :=
  h.trans (k.mono (by have := h.size; simpa using this))
theorem after_box {w wr w5 : World} {va vh vs v0 v1 v2 v3 : Value} {T : TypeId} (hsz : w.heap.size < wr.heap.size) (e0 : wr.cell? ⟨w.heap.size, 0, none⟩ = some va) (e1 : wr.cell? ⟨w.heap.size, 1, none⟩ = some vh) (e2 : wr.cell? ⟨w.heap.size, 2, none⟩ = some vs)
    (HB : Below (wr.alloc (.cells #[v0, v1, v2, v3] T)).drew.heap.size (wr.alloc (.cells #[v0, v1, v2, v3] T)).drew w5) :
    w5.cell? ⟨w.heap.size, 0, none⟩ = some va ∧ w5.cell? ⟨w.heap.size, 1, none⟩ = some vh ∧ w5.cell? ⟨w.heap.size, 2, none⟩ = some vs ∧ w5.cell? ⟨wr.heap.size, 0, none⟩ = some v0 ∧ w5.cell? ⟨wr.heap.size, 1, none⟩ = some v1 := by
  have h0 : w.heap.size < (wr.alloc (.cells #[v0, v1, v2, v3] T)).drew.heap.size := by show w.heap.size < (wr.alloc _).heap.size; simp; omega
  have h1 : wr.heap.size < (wr.alloc (.cells #[v0, v1, v2, v3] T)).drew.heap.size := by show wr.heap.size < (wr.alloc _).heap.size; simp
  exact ⟨(HB.cell h0).trans ((World.cell?_alloc_past _ _ _ hsz).trans e0), (HB.cell h0).trans ((World.cell?_alloc_past _ _ _ hsz).trans e1), (HB.cell h0).trans ((World.cell?_alloc_past _ _ _ hsz).trans e2), (HB.cell h1).trans (World.cell?_alloc_at _ _ _ _ rfl), (HB.cell h1).trans (World.cell?_alloc_at _ _ _ _ rfl)⟩
end Go.Proofs.YteaopalhbnhbaaaGreatDoor
