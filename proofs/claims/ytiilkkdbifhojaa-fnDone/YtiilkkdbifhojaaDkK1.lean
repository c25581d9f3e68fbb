/- The contracts of the laws' marks of disks: markText, markFileS, markDOpS, heldFileS, heldDOpS. -/
import Derived.Test.YtiilkkdbifhojaaDkT4
namespace Go.Proofs.Ytiilkkdbifhojaa
open Go.ChangeShapes Go.WideShapes Go.ChangeAt Go.RowKit
set_option linter.unusedVariables false
set_option maxRecDepth 100000
def bs (l : List UInt8) : ByteArray := ⟨l.toArray⟩
theorem bs_of {r : ByteArray} {l : List UInt8} (h : r.data.toList = l) : r = bs l := by subst h; simp [bs]
def dg (n : Nat) : UInt8 := UInt8.ofNat (48 + n % 10)
def mkD : Nat → Nat → List UInt8 → List UInt8
  | 0, _, acc => acc
  | f + 1, n, acc => if n = 0 then acc else mkD f (n / 10) (dg n :: acc)
def mkT (n : Nat) : ByteArray := { data := #[109] } ++ bs (mkD 20 n [])
theorem mkD_zero (f : Nat) (acc : List UInt8) : mkD f 0 acc = acc := by cases f <;> simp [mkD]
theorem mkD_step (f n : Nat) (acc : List UInt8) (h : 0 < n) : mkD (f + 1) n acc = mkD f (n / 10) (dg n :: acc) := by rw [mkD, if_neg (by omega)]
theorem list_one (c : UInt8) (b : ByteArray) : (({ data := #[c] } : ByteArray) ++ b).data.toList = c :: b.data.toList := by simp
theorem one_size (c : UInt8) (b : ByteArray) : (({ data := #[c] } : ByteArray) ++ b).size = b.size + 1 := by
  rw [ByteArray.size_append]; show 1 + b.size = _; omega
theorem conv1 (w : World) (a : Int) : (convert 22 9 (.slice (some ⟨w.heap.size, 0, none⟩) 1 1)).run Try.prog (w.alloc (.cells #[.int .u8 a] 5)) = .ok (.string ⟨#[UInt8.ofNat a.toNat]⟩) (w.alloc (.cells #[.int .u8 a] 5)) := by
  have h := run_convert_bytes_arg (P := Try.prog) (w.alloc (.cells #[.int .u8 a] 5)) 22 5 Try.underlying22 Try.underlying5 w.heap.size 0 1 1 [a] rfl (fun i hi => by
    obtain rfl : i = 0 := by omega
    simp) 9 Try.underlying9
  rw [h]; rfl
/-- block g may have turned where p holds, and new blocks were laid -/
structure Chq (p : Prop) (g : Nat) (w w' : World) : Prop where
  os : w'.os = w.os
  tape : w'.tape = w.tape
  output : w'.output = w.output
  size : w.heap.size ≤ w'.heap.size
  block : ∀ k, k < w.heap.size → (p → k ≠ g) → w'.heap[k]? = w.heap[k]?
theorem Chq.refl (p : Prop) (g : Nat) (w : World) : Chq p g w w := ⟨rfl, rfl, rfl, Nat.le_refl _, fun _ _ _ => rfl⟩
theorem Chq.on {p : Prop} {g : Nat} {w x y : World} (h : Chq p g w x) (b : Below x.heap.size x y) : Chq p g w y :=
  ⟨b.os.trans h.os, b.tape.trans h.tape, b.output.trans h.output, Nat.le_trans h.size b.size, fun k hk hg => (b.block k (Nat.lt_of_lt_of_le hk h.size)).trans (h.block k hk hg)⟩
theorem Chq.setCell {p : Prop} {g : Nat} {w x : World} (h : Chq p g w x) (hp : p) {o : Nat} (v : Value) : Chq p g w (x.setCell ⟨g, o, none⟩ v) :=
  ⟨h.os, h.tape, h.output, by rw [size_setCell]; exact h.size, fun k hk hg => (Below.heap_setCell _ _ _ _ (hg hp)).trans (h.block k hk hg)⟩
theorem Chq.below {p : Prop} {g : Nat} {w x : World} (h : Chq p g w x) {B : Nat} (hB : p → B ≤ g) (hw : B ≤ w.heap.size) : Below B w x := ⟨h.os, h.tape, h.output, h.size, fun k hk => h.block k (by omega) (fun q => by have := hB q; omega)⟩
def fmarkL (q n : Nat) : List Fl := (List.range n).map fun (i : Nat) => ⟨mkT (q + 2 * i), mkT (q + 2 * i + 1)⟩
def omarkL (q n : Nat) : List Dp := (List.range n).map fun (i : Nat) => ⟨((q + 4 * i : Nat) : Int), mkT (q + 4 * i + 1), mkT (q + 4 * i + 2), mkT (q + 4 * i + 3)⟩
theorem fmarkL_len (q n : Nat) : (fmarkL q n).length = n := by simp [fmarkL]
theorem omarkL_len (q n : Nat) : (omarkL q n).length = n := by simp [omarkL]
theorem fmarkL_at (q n : Nat) (i : Nat) (h : i < n) : (fmarkL q n)[i]? = some ⟨mkT (q + 2 * i), mkT (q + 2 * i + 1)⟩ := by simp [fmarkL, List.getElem?_range h]
theorem omarkL_at (q n : Nat) (i : Nat) (h : i < n) : (omarkL q n)[i]? = some ⟨((q + 4 * i : Nat) : Int), mkT (q + 4 * i + 1), mkT (q + 4 * i + 2), mkT (q + 4 * i + 3)⟩ := by simp [omarkL, List.getElem?_range h]
theorem fmarkL_get (q n : Nat) (i : Nat) (h : i < (fmarkL q n).length) : (fmarkL q n)[i] = ⟨mkT (q + 2 * i), mkT (q + 2 * i + 1)⟩ := by simp [fmarkL]
theorem omarkL_get (q n : Nat) (i : Nat) (h : i < (omarkL q n).length) : (omarkL q n)[i] = ⟨((q + 4 * i : Nat) : Int), mkT (q + 4 * i + 1), mkT (q + 4 * i + 2), mkT (q + 4 * i + 3)⟩ := by simp [omarkL]
theorem PutMid.below {g n size k m : Nat} {cells : Nat → List Value} {x y : World} (h : PutMid g n size cells k m x) (b : Below x.heap.size x y) : PutMid g n size cells k m y :=
  ⟨Nat.lt_of_lt_of_le h.lt b.size, fun j hj => by obtain ⟨v, hv⟩ := h.there j hj; exact ⟨v, (b.cell h.lt).trans hv⟩, fun j => (b.frozen h.lt).trans (h.free j), fun i r hi hr => (b.cell h.lt).trans (h.done i r hi hr), fun r hr => (b.cell h.lt).trans (h.part r hr)⟩
def markFileSEnd (q : Nat) (g : Nat) (a : Option Addr) (cap n : Nat) (w : World) (e : Ending) (w' : World) : Prop := e = .returned (.int .i64 ((q + 2 * n : Nat) : Int)) ∧ Chq (0 < n) g w w' ∧ OwnRow 2 flCells w' g a cap (fmarkL q n)
end Go.Proofs.Ytiilkkdbifhojaa
