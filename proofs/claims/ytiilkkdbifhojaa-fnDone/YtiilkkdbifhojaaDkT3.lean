/- The contracts of the laws' toDisk, eqFile, eqDOp, eqFileS, eqDOpS, eqDisk. -/
import Derived.Test.YtiilkkdbifhojaaDkT2
import Derived.Test.YtiilkkdbifhojaaDkI1
namespace Go.Proofs.Ytiilkkdbifhojaa
open Go.ChangeShapes Go.WideShapes Go.ChangeAt Go.RowKit
set_option linter.unusedVariables false
set_option maxRecDepth 100000
theorem OwnRow.keepB {A : Type} {sz : Nat} {f : A → List Value} {x y : World} {g : Nat} {a : Option Addr} {cap : Nat} {l : List A} (h : OwnRow sz f x g a cap l) (e : 0 < l.length → y.heap[g]? = x.heap[g]?) : OwnRow sz f y g a cap l := by
  have hgy : 0 < l.length → g < y.heap.size := fun q => by
    have hg := h.lt q
    have e := e q
    rcases Nat.lt_or_ge g y.heap.size with k | k
    · exact k
    · rw [Array.getElem?_eq_none k, Array.getElem?_eq_getElem hg] at e; cases e
  refine ⟨fun i hi => ?_, fun h0 => ⟨(h.own h0).1, fun j => ?_⟩, h.room⟩
  · have h0 : 0 < l.length := by omega
    obtain ⟨b, off, e2, _, hc⟩ := h.rows i hi
    have e3 := e2
    rw [(h.own h0).1] at e2
    simp only [Option.some.injEq, Addr.mk.injEq, and_true] at e2
    obtain ⟨rfl, rfl⟩ := e2
    exact ⟨g, 0, e3, hgy h0, fun r v hv => (World.cell?_of_block (w := x) (e h0)).trans (hc r v hv)⟩
  · exact (World.frozen?_of_block (w := x) (e h0)).trans ((h.own h0).2 j)
theorem set_block (x : World) {g b o : Nat} (v : Value) (h : g ≠ b) : (x.setCell ⟨b, o, none⟩ v).heap[g]? = x.heap[g]? := Below.heap_setCell _ _ _ _ h
/-- a disk's three rows, of the call's own, apart -/
structure OwnD (g1 g2 g3 : Nat) (live safe : List Fl) (ops : List Dp) (x : World) : Prop where
  o1 : OwnRow 2 flCells x g1 (some ⟨g1, 0, none⟩) live.length live
  o2 : OwnRow 2 flCells x g2 (some ⟨g2, 0, none⟩) safe.length safe
  o3 : OwnRow 4 dpCells x g3 (some ⟨g3, 0, none⟩) ops.length ops
  d12 : g1 < g2
  d23 : g2 < g3
  lt : g3 < x.heap.size
theorem OwnD.below {g1 g2 g3 : Nat} {live safe : List Fl} {ops : List Dp} {x y : World} (h : OwnD g1 g2 g3 live safe ops x) (b : Below x.heap.size x y) : OwnD g1 g2 g3 live safe ops y :=
  ⟨h.o1.below b, h.o2.below b, h.o3.below b, h.d12, h.d23, Nat.lt_of_lt_of_le h.lt b.size⟩
theorem OwnD.at {g1 g2 g3 : Nat} {live safe : List Fl} {ops : List Dp} {x : World} (h : OwnD g1 g2 g3 live safe ops x) : DkAt x (some ⟨g1, 0, none⟩) (some ⟨g2, 0, none⟩) (some ⟨g3, 0, none⟩) live safe ops := ⟨h.o1.rows, h.o2.rows, h.o3.rows⟩
def dkV (g1 g2 g3 : Nat) (live safe : List Fl) (ops : List Dp) : Value := .agg #[.slice (some ⟨g1, 0, none⟩) live.length live.length, .slice (some ⟨g2, 0, none⟩) safe.length safe.length, .slice (some ⟨g3, 0, none⟩) ops.length ops.length]
def ToDisk (live safe : List Fl) (ops : List Dp) (w : World) (e : Ending) (w' : World) : Prop := Below w.heap.size w w' ∧ ∃ g1 g2 g3, e = .returned (.agg #[.slice (some ⟨g1, 0, none⟩) live.length live.length, .slice (some ⟨g2, 0, none⟩) safe.length safe.length, .slice (some ⟨g3, 0, none⟩) ops.length ops.length]) ∧ w.heap.size ≤ g1 ∧ OwnD g1 g2 g3 live safe ops w'
end Go.Proofs.Ytiilkkdbifhojaa
