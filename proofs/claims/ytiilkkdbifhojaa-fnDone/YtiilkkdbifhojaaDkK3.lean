/- The contracts of the laws' markDisk, heldDisk. -/
import Derived.Test.YtiilkkdbifhojaaDkK2
namespace Go.Proofs.Ytiilkkdbifhojaa
open Go.ChangeShapes Go.WideShapes Go.ChangeAt Go.RowKit
set_option linter.unusedVariables false
set_option maxRecDepth 100000
/-- a disk's three rows, apart where they have elements, between two places -/
structure OwnR (lo hi : Nat) (a1 a2 a3 : Option Addr) (c1 c2 c3 g1 g2 g3 : Nat) (live safe : List Fl) (ops : List Dp) (x : World) : Prop where
  o1 : OwnRow 2 flCells x g1 a1 c1 live
  o2 : OwnRow 2 flCells x g2 a2 c2 safe
  o3 : OwnRow 4 dpCells x g3 a3 c3 ops
  d12 : 0 < live.length → 0 < safe.length → g1 ≠ g2
  d13 : 0 < live.length → 0 < ops.length → g1 ≠ g3
  d23 : 0 < safe.length → 0 < ops.length → g2 ≠ g3
  i1 : 0 < live.length → lo ≤ g1 ∧ g1 < hi
  i2 : 0 < safe.length → lo ≤ g2 ∧ g2 < hi
  i3 : 0 < ops.length → lo ≤ g3 ∧ g3 < hi
theorem OwnR.below {lo hi : Nat} {a1 a2 a3 : Option Addr} {c1 c2 c3 g1 g2 g3 : Nat} {live safe : List Fl} {ops : List Dp} {x y : World} (h : OwnR lo hi a1 a2 a3 c1 c2 c3 g1 g2 g3 live safe ops x) (b : Below x.heap.size x y) : OwnR lo hi a1 a2 a3 c1 c2 c3 g1 g2 g3 live safe ops y :=
  ⟨h.o1.below b, h.o2.below b, h.o3.below b, h.d12, h.d13, h.d23, h.i1, h.i2, h.i3⟩
theorem OwnR.at {lo hi : Nat} {a1 a2 a3 : Option Addr} {c1 c2 c3 g1 g2 g3 : Nat} {live safe : List Fl} {ops : List Dp} {x : World} (h : OwnR lo hi a1 a2 a3 c1 c2 c3 g1 g2 g3 live safe ops x) : DkAt x a1 a2 a3 live safe ops := ⟨h.o1.rows, h.o2.rows, h.o3.rows⟩
theorem OwnD.r {g1 g2 g3 : Nat} {live safe : List Fl} {ops : List Dp} {x : World} (h : OwnD g1 g2 g3 live safe ops x) {lo : Nat} (hl : lo ≤ g1) : OwnR lo x.heap.size (some ⟨g1, 0, none⟩) (some ⟨g2, 0, none⟩) (some ⟨g3, 0, none⟩) live.length safe.length ops.length g1 g2 g3 live safe ops x :=
  ⟨h.o1, h.o2, h.o3, fun _ _ => by have := h.d12; omega, fun _ _ => by have := h.d12; have := h.d23; omega, fun _ _ => by have := h.d23; omega, fun _ => by have := h.d12; have := h.d23; have := h.lt; omega, fun _ => by have := h.d12; have := h.d23; have := h.lt; omega, fun _ => by have := h.d12; have := h.d23; have := h.lt; omega⟩
theorem OwnR.none3 {lo hi : Nat} {x : World} : OwnR lo hi none none none 0 0 0 0 0 0 [] [] [] x :=
  ⟨OwnRow.nil, OwnRow.nil, OwnRow.nil, fun h => by simp at h, fun h => by simp at h, fun h => by simp at h, fun h => by simp at h, fun h => by simp at h, fun h => by simp at h⟩
/-- blocks between two places alone may have turned, and new blocks were laid -/
structure Chr (lo hi : Nat) (w w' : World) : Prop where
  os : w'.os = w.os
  tape : w'.tape = w.tape
  output : w'.output = w.output
  size : w.heap.size ≤ w'.heap.size
  block : ∀ k, k < w.heap.size → (k < lo ∨ hi ≤ k) → w'.heap[k]? = w.heap[k]?
theorem Chr.low {lo hi : Nat} {w w' : World} (h : Chr lo hi w w') {B : Nat} (hB : B ≤ lo) (hw : B ≤ w.heap.size) : Below B w w' := ⟨h.os, h.tape, h.output, h.size, fun k hk => h.block k (by omega) (.inl (by omega))⟩
theorem Chr.keep {lo hi : Nat} {x y : World} (h : Chr lo hi x y) {lo2 hi2 : Nat} {a1 a2 a3 : Option Addr} {c1 c2 c3 g1 g2 g3 : Nat} {live safe : List Fl} {ops : List Dp} (o : OwnR lo2 hi2 a1 a2 a3 c1 c2 c3 g1 g2 g3 live safe ops x) (hd : hi2 ≤ lo ∨ hi ≤ lo2) : OwnR lo2 hi2 a1 a2 a3 c1 c2 c3 g1 g2 g3 live safe ops y :=
  ⟨o.o1.keepB (fun q => h.block _ (o.o1.lt q) (by have := o.i1 q; omega)), o.o2.keepB (fun q => h.block _ (o.o2.lt q) (by have := o.i2 q; omega)), o.o3.keepB (fun q => h.block _ (o.o3.lt q) (by have := o.i3 q; omega)), o.d12, o.d13, o.d23, o.i1, o.i2, o.i3⟩
theorem Blk.same {g : Nat} {cur : List Value} {x y : World} (h : Blk g cur x) (e : y.heap[g]? = x.heap[g]?) (s : x.heap.size ≤ y.heap.size) : Blk g cur y :=
  ⟨Nat.lt_of_lt_of_le h.lt s, fun j v hj => (World.cell?_of_block e).trans (h.c j v hj), fun j => (World.frozen?_of_block e).trans (h.f j)⟩
theorem Chr.blk {lo hi : Nat} {x y : World} (h : Chr lo hi x y) {g : Nat} {cur : List Value} (k : Blk g cur x) (hd : g < lo ∨ hi ≤ g) : Blk g cur y := k.same (h.block g k.lt hd) h.size
def MarkEnd (lo hi q : Nat) (a1 a2 a3 : Option Addr) (c1 c2 c3 g1 g2 g3 n1 n2 n3 : Nat) (w : World) (e : Ending) (w' : World) : Prop :=
  e = .returned (.int .i64 ((q + 2 * n1 + 2 * n2 + 4 * n3 : Nat) : Int)) ∧ Chr lo hi w w' ∧ OwnR lo hi a1 a2 a3 c1 c2 c3 g1 g2 g3 (fmarkL q n1) (fmarkL (q + 2 * n1) n2) (omarkL (q + 2 * n1 + 2 * n2) n3) w'
theorem mark_end {lo hi q : Nat} {a1 a2 a3 : Option Addr} {c1 c2 c3 g1 g2 g3 : Nat} {live safe : List Fl} {ops : List Dp} {w wa w1 w2 w3 : World} (h : OwnR lo hi a1 a2 a3 c1 c2 c3 g1 g2 g3 live safe ops w) (b : Below w.heap.size w wa)
    (q1 : Chq (0 < live.length) g1 wa w1) (r1 : OwnRow 2 flCells w1 g1 a1 c1 (fmarkL q live.length)) (q2 : Chq (0 < safe.length) g2 w1 w2) (r2 : OwnRow 2 flCells w2 g2 a2 c2 (fmarkL (q + 2 * live.length) safe.length))
    (q3 : Chq (0 < ops.length) g3 w2 w3) (r3 : OwnRow 4 dpCells w3 g3 a3 c3 (omarkL (q + 2 * live.length + 2 * safe.length) ops.length)) :
    Chr lo hi w w3 ∧ OwnR lo hi a1 a2 a3 c1 c2 c3 g1 g2 g3 (fmarkL q live.length) (fmarkL (q + 2 * live.length) safe.length) (omarkL (q + 2 * live.length + 2 * safe.length) ops.length) w3 := by
  have s0 := b.size
  have s1 := q1.size
  have s2 := q2.size
  refine ⟨⟨q3.os.trans (q2.os.trans (q1.os.trans b.os)), q3.tape.trans (q2.tape.trans (q1.tape.trans b.tape)), q3.output.trans (q2.output.trans (q1.output.trans b.output)), by have := q3.size; omega, fun k hk hd => ?_⟩, ?_⟩
  · rw [q3.block k (by omega) (fun p => by have := h.i3 p; omega), q2.block k (by omega) (fun p => by have := h.i2 p; omega), q1.block k (by omega) (fun p => by have := h.i1 p; omega), b.block k hk]
  · refine ⟨r1.keepB (fun p => ?_), r2.keepB (fun p => ?_), r3, ?_, ?_, ?_, ?_, ?_, ?_⟩
    · have l1 := r1.lt p
      rw [fmarkL_len] at p
      rw [q3.block g1 (by omega) (fun z => h.d13 p z), q2.block g1 l1 (fun z => h.d12 p z)]
    · have l2 := r2.lt p
      rw [fmarkL_len] at p
      exact q3.block g2 l2 (fun z => h.d23 p z)
    · rw [fmarkL_len, fmarkL_len]; exact h.d12
    · rw [fmarkL_len, omarkL_len]; exact h.d13
    · rw [fmarkL_len, omarkL_len]; exact h.d23
    · rw [fmarkL_len]; exact h.i1
    · rw [fmarkL_len]; exact h.i2
    · rw [omarkL_len]; exact h.i3
end Go.Proofs.Ytiilkkdbifhojaa
