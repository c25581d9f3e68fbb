/- The contracts of the laws' szFile, szDOp, szFileS, szDOpS, szDisk. -/
import Derived.Test.YtiilkkdbifhojaaGreatBa
import Derived.Test.YtiilkkdbifhojaaGreatBb
namespace Go.Proofs.YtiilkkdbifhojaaGreat
open Go.ChangeShapes Go.WideShapes Go.ChangeAt Go.RowKit
set_option linter.unusedVariables false
set_option maxRecDepth 100000
def SzP (left : Int) (P : Prop) (w : World) (e : Ending) (w' : World) : Prop := Below w.heap.size w w' ∧ ∃ r : Int, e = .returned (.int .i64 r) ∧ -1 ≤ r ∧ r ≤ left ∧ (0 ≤ r → P)
def LimF (f : Fl) : Prop := f.nm.size ≤ maxLen ∧ f.da.size ≤ maxLen
def LimO (o : Dp) : Prop := o.nm.size ≤ maxLen ∧ o.tn.size ≤ maxLen ∧ o.da.size ≤ maxLen
def Sms {A : Type} (p : A → Prop) (l : List A) : Prop := l.length ≤ 1048576 ∧ ∀ x ∈ l, p x
def SmF1 (f : Fl) : Prop := f.nm.size ≤ 1048576 ∧ f.da.size ≤ 1048576
def SmD (live safe : List Fl) (ops : List Dp) : Prop := Sms SmF1 live ∧ Sms SmF1 safe ∧ Sms SmO ops
structure DkAt (w : World) (la sa oa : Option Addr) (live safe : List Fl) (ops : List Dp) : Prop where
  r1 : RowAt 2 flCells w la live
  r2 : RowAt 2 flCells w sa safe
  r3 : RowAt 4 dpCells w oa ops
theorem DkAt.below {w w' : World} {la sa oa : Option Addr} {live safe : List Fl} {ops : List Dp} (h : DkAt w la sa oa live safe ops) (b : Below w.heap.size w w') : DkAt w' la sa oa live safe ops := ⟨h.r1.below b, h.r2.below b, h.r3.below b⟩
def LimD (live safe : List Fl) (ops : List Dp) : Prop := (live.length ≤ maxLen ∧ ∀ x ∈ live, LimF x) ∧ (safe.length ≤ maxLen ∧ ∀ x ∈ safe, LimF x) ∧ ops.length ≤ maxLen ∧ ∀ x ∈ ops, LimO x
end Go.Proofs.YtiilkkdbifhojaaGreat
/- The contracts of the laws' toFile, toDOp, toFileS, toDOpS, toDisk. -/
namespace Go.Proofs.YtiilkkdbifhojaaGreat
open Go.ChangeShapes Go.WideShapes Go.ChangeAt Go.RowKit
set_option linter.unusedVariables false
set_option maxRecDepth 100000
theorem infoO : (Tryz.prog.info? 50).map (fun i => (i.zero, i.size, i.bytes)) = some (some (.agg #[.int .i64 0, .string ByteArray.empty, .string ByteArray.empty, .string ByteArray.empty]), 4, 56) := by kernel_rfl
theorem huO : Tryz.prog.underlying 25 = some (.slice 50) := by kernel_rfl
/-- a row of the call's own that reads as the list -/
def ToRow {A : Type} (sz : Nat) (f : A → List Value) (l : List A) (w : World) (g : Nat) (w' : World) : Prop := (w.heap.size ≤ g ∧ g < w'.heap.size) ∧ OwnRow sz f w' g (some ⟨g, 0, none⟩) l.length l
theorem ToRow.below {A : Type} {sz : Nat} {f : A → List Value} {l : List A} {w x y : World} {g : Nat} (h : ToRow sz f l w g x) (b : Below x.heap.size x y) : ToRow sz f l w g y := ⟨⟨h.1.1, Nat.lt_of_lt_of_le h.1.2 b.size⟩, h.2.below b⟩
def ToS {A : Type} (sz : Nat) (f : A → List Value) (l : List A) (w : World) (e : Ending) (w' : World) : Prop := Below w.heap.size w w' ∧ ∃ g, e = .returned (.slice (some ⟨g, 0, none⟩) l.length l.length) ∧ ToRow sz f l w g w'
end Go.Proofs.YtiilkkdbifhojaaGreat
/- The contracts of the laws' toDisk, eqFile, eqDOp, eqFileS, eqDOpS, eqDisk. -/
namespace Go.Proofs.YtiilkkdbifhojaaGreat
open Go.ChangeShapes Go.WideShapes Go.ChangeAt Go.RowKit
set_option linter.unusedVariables false
set_option maxRecDepth 100000
theorem OwnRow.keepB {A : Type} {sz : Nat} {f : A → List Value} {x y : World} {g : Nat} {a : Option Addr} {cap : Nat} {l : List A} (h : OwnRow sz f x g a cap l) (e : 0 < l.length → y.heap[g]? = x.heap[g]?) : OwnRow sz f y g a cap l := by
  have hgy : 0 < l.length → g < y.heap.size := fun q => by
    have hg := h.lt q
    have e := e q
    rcases Nat.lt_or_ge g y.heap.size with k | k
    · exact k
    · rw [Array.getElem?_eq_none k, Array.getElem?_eq_getElem hg] at e; cases e
  refine ⟨fun i hi => ?_, fun h0 => ⟨(h.own h0).1, fun j => ?_⟩, h.room⟩
  · have h0 : 0 < l.length := by omega
    obtain ⟨b, off, e2, _, hc⟩ := h.rows i hi
    have e3 := e2
    rw [(h.own h0).1] at e2
    simp only [Option.some.injEq, Addr.mk.injEq, and_true] at e2
    obtain ⟨rfl, rfl⟩ := e2
    exact ⟨g, 0, e3, hgy h0, fun r v hv => (World.cell?_of_block (w := x) (e h0)).trans (hc r v hv)⟩
  · exact (World.frozen?_of_block (w := x) (e h0)).trans ((h.own h0).2 j)
theorem set_block (x : World) {g b o : Nat} (v : Value) (h : g ≠ b) : (x.setCell ⟨b, o, none⟩ v).heap[g]? = x.heap[g]? := Below.heap_setCell _ _ _ _ h
/-- a disk's three rows, of the call's own, apart -/
structure OwnD (g1 g2 g3 : Nat) (live safe : List Fl) (ops : List Dp) (x : World) : Prop where
  o1 : OwnRow 2 flCells x g1 (some ⟨g1, 0, none⟩) live.length live
  o2 : OwnRow 2 flCells x g2 (some ⟨g2, 0, none⟩) safe.length safe
  o3 : OwnRow 4 dpCells x g3 (some ⟨g3, 0, none⟩) ops.length ops
  d12 : g1 < g2
  d23 : g2 < g3
  lt : g3 < x.heap.size
theorem OwnD.below {g1 g2 g3 : Nat} {live safe : List Fl} {ops : List Dp} {x y : World} (h : OwnD g1 g2 g3 live safe ops x) (b : Below x.heap.size x y) : OwnD g1 g2 g3 live safe ops y :=
  ⟨h.o1.below b, h.o2.below b, h.o3.below b, h.d12, h.d23, Nat.lt_of_lt_of_le h.lt b.size⟩
theorem OwnD.at {g1 g2 g3 : Nat} {live safe : List Fl} {ops : List Dp} {x : World} (h : OwnD g1 g2 g3 live safe ops x) : DkAt x (some ⟨g1, 0, none⟩) (some ⟨g2, 0, none⟩) (some ⟨g3, 0, none⟩) live safe ops := ⟨h.o1.rows, h.o2.rows, h.o3.rows⟩
def dkV (g1 g2 g3 : Nat) (live safe : List Fl) (ops : List Dp) : Value := .agg #[.slice (some ⟨g1, 0, none⟩) live.length live.length, .slice (some ⟨g2, 0, none⟩) safe.length safe.length, .slice (some ⟨g3, 0, none⟩) ops.length ops.length]
def ToDisk (live safe : List Fl) (ops : List Dp) (w : World) (e : Ending) (w' : World) : Prop := Below w.heap.size w w' ∧ ∃ g1 g2 g3, e = .returned (.agg #[.slice (some ⟨g1, 0, none⟩) live.length live.length, .slice (some ⟨g2, 0, none⟩) safe.length safe.length, .slice (some ⟨g3, 0, none⟩) ops.length ops.length]) ∧ w.heap.size ≤ g1 ∧ OwnD g1 g2 g3 live safe ops w'
end Go.Proofs.YtiilkkdbifhojaaGreat
/- The contracts of the laws' eqFile, eqDOp, eqFileS, eqDOpS, eqDisk: equal disks are equal. -/
namespace Go.Proofs.YtiilkkdbifhojaaGreat
open Go.ChangeShapes Go.WideShapes Go.ChangeAt Go.RowKit
set_option linter.unusedVariables false
set_option maxRecDepth 100000
end Go.Proofs.YtiilkkdbifhojaaGreat
/- The contracts of the laws' marks of disks: markText, markFileS, markDOpS, heldFileS, heldDOpS. -/
namespace Go.Proofs.YtiilkkdbifhojaaGreat
open Go.ChangeShapes Go.WideShapes Go.ChangeAt Go.RowKit
set_option linter.unusedVariables false
set_option maxRecDepth 100000
def bs (l : List UInt8) : ByteArray := ⟨l.toArray⟩
theorem bs_of {r : ByteArray} {l : List UInt8} (h : r.data.toList = l) : r = bs l := by subst h; simp [bs]
def dg (n : Nat) : UInt8 := UInt8.ofNat (48 + n % 10)
def mkD : Nat → Nat → List UInt8 → List UInt8
  | 0, _, acc => acc
  | f + 1, n, acc => if n = 0 then acc else mkD f (n / 10) (dg n :: acc)
def mkT (n : Nat) : ByteArray := { data := #[109] } ++ bs (mkD 20 n [])
theorem mkD_zero (f : Nat) (acc : List UInt8) : mkD f 0 acc = acc := by cases f <;> simp [mkD]
theorem mkD_step (f n : Nat) (acc : List UInt8) (h : 0 < n) : mkD (f + 1) n acc = mkD f (n / 10) (dg n :: acc) := by rw [mkD, if_neg (by omega)]
theorem list_one (c : UInt8) (b : ByteArray) : (({ data := #[c] } : ByteArray) ++ b).data.toList = c :: b.data.toList := by simp
theorem one_size (c : UInt8) (b : ByteArray) : (({ data := #[c] } : ByteArray) ++ b).size = b.size + 1 := by
  rw [ByteArray.size_append]; show 1 + b.size = _; omega
theorem conv1 (w : World) (a : Int) : (convert 22 9 (.slice (some ⟨w.heap.size, 0, none⟩) 1 1)).run Tryz.prog (w.alloc (.cells #[.int .u8 a] 5)) = .ok (.string ⟨#[UInt8.ofNat a.toNat]⟩) (w.alloc (.cells #[.int .u8 a] 5)) := by
  have h := run_convert_bytes_arg (P := Tryz.prog) (w.alloc (.cells #[.int .u8 a] 5)) 22 5 Tryz.underlying22 Tryz.underlying5 w.heap.size 0 1 1 [a] rfl (fun i hi => by
    obtain rfl : i = 0 := by omega
    simp) 9 Tryz.underlying9
  rw [h]; rfl
/-- block g may have turned where p holds, and new blocks were laid -/
structure Chq (p : Prop) (g : Nat) (w w' : World) : Prop where
  os : w'.os = w.os
  tape : w'.tape = w.tape
  output : w'.output = w.output
  size : w.heap.size ≤ w'.heap.size
  block : ∀ k, k < w.heap.size → (p → k ≠ g) → w'.heap[k]? = w.heap[k]?
theorem Chq.refl (p : Prop) (g : Nat) (w : World) : Chq p g w w := ⟨rfl, rfl, rfl, Nat.le_refl _, fun _ _ _ => rfl⟩
theorem Chq.on {p : Prop} {g : Nat} {w x y : World} (h : Chq p g w x) (b : Below x.heap.size x y) : Chq p g w y :=
  ⟨b.os.trans h.os, b.tape.trans h.tape, b.output.trans h.output, Nat.le_trans h.size b.size, fun k hk hg => (b.block k (Nat.lt_of_lt_of_le hk h.size)).trans (h.block k hk hg)⟩
theorem Chq.setCell {p : Prop} {g : Nat} {w x : World} (h : Chq p g w x) (hp : p) {o : Nat} (v : Value) : Chq p g w (x.setCell ⟨g, o, none⟩ v) :=
  ⟨h.os, h.tape, h.output, by rw [size_setCell]; exact h.size, fun k hk hg => (Below.heap_setCell _ _ _ _ (hg hp)).trans (h.block k hk hg)⟩
theorem Chq.below {p : Prop} {g : Nat} {w x : World} (h : Chq p g w x) {B : Nat} (hB : p → B ≤ g) (hw : B ≤ w.heap.size) : Below B w x := ⟨h.os, h.tape, h.output, h.size, fun k hk => h.block k (by omega) (fun q => by have := hB q; omega)⟩
def fmarkL (q n : Nat) : List Fl := (List.range n).map fun (i : Nat) => ⟨mkT (q + 2 * i), mkT (q + 2 * i + 1)⟩
def omarkL (q n : Nat) : List Dp := (List.range n).map fun (i : Nat) => ⟨((q + 4 * i : Nat) : Int), mkT (q + 4 * i + 1), mkT (q + 4 * i + 2), mkT (q + 4 * i + 3)⟩
theorem fmarkL_len (q n : Nat) : (fmarkL q n).length = n := by simp [fmarkL]
theorem omarkL_len (q n : Nat) : (omarkL q n).length = n := by simp [omarkL]
theorem fmarkL_at (q n : Nat) (i : Nat) (h : i < n) : (fmarkL q n)[i]? = some ⟨mkT (q + 2 * i), mkT (q + 2 * i + 1)⟩ := by simp [fmarkL, List.getElem?_range h]
theorem omarkL_at (q n : Nat) (i : Nat) (h : i < n) : (omarkL q n)[i]? = some ⟨((q + 4 * i : Nat) : Int), mkT (q + 4 * i + 1), mkT (q + 4 * i + 2), mkT (q + 4 * i + 3)⟩ := by simp [omarkL, List.getElem?_range h]
theorem fmarkL_get (q n : Nat) (i : Nat) (h : i < (fmarkL q n).length) : (fmarkL q n)[i] = ⟨mkT (q + 2 * i), mkT (q + 2 * i + 1)⟩ := by simp [fmarkL]
theorem omarkL_get (q n : Nat) (i : Nat) (h : i < (omarkL q n).length) : (omarkL q n)[i] = ⟨((q + 4 * i : Nat) : Int), mkT (q + 4 * i + 1), mkT (q + 4 * i + 2), mkT (q + 4 * i + 3)⟩ := by simp [omarkL]
theorem PutMid.below {g n size k m : Nat} {cells : Nat → List Value} {x y : World} (h : PutMid g n size cells k m x) (b : Below x.heap.size x y) : PutMid g n size cells k m y :=
  ⟨Nat.lt_of_lt_of_le h.lt b.size, fun j hj => by obtain ⟨v, hv⟩ := h.there j hj; exact ⟨v, (b.cell h.lt).trans hv⟩, fun j => (b.frozen h.lt).trans (h.free j), fun i r hi hr => (b.cell h.lt).trans (h.done i r hi hr), fun r hr => (b.cell h.lt).trans (h.part r hr)⟩
def markFileSEnd (q : Nat) (g : Nat) (a : Option Addr) (cap n : Nat) (w : World) (e : Ending) (w' : World) : Prop := e = .returned (.int .i64 ((q + 2 * n : Nat) : Int)) ∧ Chq (0 < n) g w w' ∧ OwnRow 2 flCells w' g a cap (fmarkL q n)
end Go.Proofs.YtiilkkdbifhojaaGreat
/- The contracts of the laws' markDOpS, heldFileS, heldDOpS. -/
namespace Go.Proofs.YtiilkkdbifhojaaGreat
open Go.ChangeShapes Go.WideShapes Go.ChangeAt Go.RowKit
set_option linter.unusedVariables false
set_option maxRecDepth 100000
def markDOpSEnd (q : Nat) (g : Nat) (a : Option Addr) (cap n : Nat) (w : World) (e : Ending) (w' : World) : Prop := e = .returned (.int .i64 ((q + 4 * n : Nat) : Int)) ∧ Chq (0 < n) g w w' ∧ OwnRow 4 dpCells w' g a cap (omarkL q n)
def HeldEnd (r : Nat) (w : World) (e : Ending) (w' : World) : Prop := e = .returned (.int .i64 ((r : Nat) : Int)) ∧ Below w.heap.size w w'
theorem fmark_row {q n : Nat} {a : Option Addr} {w : World} (h : RowAt 2 flCells w a (fmarkL q n)) (i : Nat) (hi : i < n) : ∃ b off, a = some ⟨b, off, none⟩ ∧ b < w.heap.size ∧ w.cell? ⟨b, off + i * 2, none⟩ = some (.string (mkT (q + 2 * i))) ∧ w.cell? ⟨b, off + i * 2 + 1, none⟩ = some (.string (mkT (q + 2 * i + 1))) := by
  obtain ⟨b, off, e, hb, c0, c1⟩ := fl_row h i (by rw [fmarkL_len]; exact hi)
  rw [fmarkL_get] at c0 c1
  exact ⟨b, off, e, hb, c0, c1⟩
theorem omark_row {q n : Nat} {a : Option Addr} {w : World} (h : RowAt 4 dpCells w a (omarkL q n)) (i : Nat) (hi : i < n) : ∃ b off, a = some ⟨b, off, none⟩ ∧ b < w.heap.size ∧ w.cell? ⟨b, off + i * 4, none⟩ = some (.int .i64 ((q + 4 * i : Nat) : Int)) ∧ w.cell? ⟨b, off + i * 4 + 1, none⟩ = some (.string (mkT (q + 4 * i + 1))) ∧ w.cell? ⟨b, off + i * 4 + 2, none⟩ = some (.string (mkT (q + 4 * i + 2))) ∧ w.cell? ⟨b, off + i * 4 + 3, none⟩ = some (.string (mkT (q + 4 * i + 3))) := by
  obtain ⟨b, off, e, hb, c0, c1, c2, c3⟩ := dp_row h i (by rw [omarkL_len]; exact hi)
  rw [omarkL_get] at c0 c1 c2 c3
  exact ⟨b, off, e, hb, c0, c1, c2, c3⟩
end Go.Proofs.YtiilkkdbifhojaaGreat
/- The contracts of the laws' markDisk, heldDisk. -/
namespace Go.Proofs.YtiilkkdbifhojaaGreat
open Go.ChangeShapes Go.WideShapes Go.ChangeAt Go.RowKit
set_option linter.unusedVariables false
set_option maxRecDepth 100000
/-- a disk's three rows, apart where they have elements, between two places -/
structure OwnR (lo hi : Nat) (a1 a2 a3 : Option Addr) (c1 c2 c3 g1 g2 g3 : Nat) (live safe : List Fl) (ops : List Dp) (x : World) : Prop where
  o1 : OwnRow 2 flCells x g1 a1 c1 live
  o2 : OwnRow 2 flCells x g2 a2 c2 safe
  o3 : OwnRow 4 dpCells x g3 a3 c3 ops
  d12 : 0 < live.length → 0 < safe.length → g1 ≠ g2
  d13 : 0 < live.length → 0 < ops.length → g1 ≠ g3
  d23 : 0 < safe.length → 0 < ops.length → g2 ≠ g3
  i1 : 0 < live.length → lo ≤ g1 ∧ g1 < hi
  i2 : 0 < safe.length → lo ≤ g2 ∧ g2 < hi
  i3 : 0 < ops.length → lo ≤ g3 ∧ g3 < hi
theorem OwnR.below {lo hi : Nat} {a1 a2 a3 : Option Addr} {c1 c2 c3 g1 g2 g3 : Nat} {live safe : List Fl} {ops : List Dp} {x y : World} (h : OwnR lo hi a1 a2 a3 c1 c2 c3 g1 g2 g3 live safe ops x) (b : Below x.heap.size x y) : OwnR lo hi a1 a2 a3 c1 c2 c3 g1 g2 g3 live safe ops y :=
  ⟨h.o1.below b, h.o2.below b, h.o3.below b, h.d12, h.d13, h.d23, h.i1, h.i2, h.i3⟩
theorem OwnR.at {lo hi : Nat} {a1 a2 a3 : Option Addr} {c1 c2 c3 g1 g2 g3 : Nat} {live safe : List Fl} {ops : List Dp} {x : World} (h : OwnR lo hi a1 a2 a3 c1 c2 c3 g1 g2 g3 live safe ops x) : DkAt x a1 a2 a3 live safe ops := ⟨h.o1.rows, h.o2.rows, h.o3.rows⟩
theorem OwnD.r {g1 g2 g3 : Nat} {live safe : List Fl} {ops : List Dp} {x : World} (h : OwnD g1 g2 g3 live safe ops x) {lo : Nat} (hl : lo ≤ g1) : OwnR lo x.heap.size (some ⟨g1, 0, none⟩) (some ⟨g2, 0, none⟩) (some ⟨g3, 0, none⟩) live.length safe.length ops.length g1 g2 g3 live safe ops x :=
  ⟨h.o1, h.o2, h.o3, fun _ _ => by have := h.d12; omega, fun _ _ => by have := h.d12; have := h.d23; omega, fun _ _ => by have := h.d23; omega, fun _ => by have := h.d12; have := h.d23; have := h.lt; omega, fun _ => by have := h.d12; have := h.d23; have := h.lt; omega, fun _ => by have := h.d12; have := h.d23; have := h.lt; omega⟩
theorem OwnR.none3 {lo hi : Nat} {x : World} : OwnR lo hi none none none 0 0 0 0 0 0 [] [] [] x :=
  ⟨OwnRow.nil, OwnRow.nil, OwnRow.nil, fun h => by simp at h, fun h => by simp at h, fun h => by simp at h, fun h => by simp at h, fun h => by simp at h, fun h => by simp at h⟩
/-- blocks between two places alone may have turned, and new blocks were laid -/
structure Chr (lo hi : Nat) (w w' : World) : Prop where
  os : w'.os = w.os
  tape : w'.tape = w.tape
  output : w'.output = w.output
  size : w.heap.size ≤ w'.heap.size
  block : ∀ k, k < w.heap.size → (k < lo ∨ hi ≤ k) → w'.heap[k]? = w.heap[k]?
theorem Chr.low {lo hi : Nat} {w w' : World} (h : Chr lo hi w w') {B : Nat} (hB : B ≤ lo) (hw : B ≤ w.heap.size) : Below B w w' := ⟨h.os, h.tape, h.output, h.size, fun k hk => h.block k (by omega) (.inl (by omega))⟩
theorem Chr.keep {lo hi : Nat} {x y : World} (h : Chr lo hi x y) {lo2 hi2 : Nat} {a1 a2 a3 : Option Addr} {c1 c2 c3 g1 g2 g3 : Nat} {live safe : List Fl} {ops : List Dp} (o : OwnR lo2 hi2 a1 a2 a3 c1 c2 c3 g1 g2 g3 live safe ops x) (hd : hi2 ≤ lo ∨ hi ≤ lo2) : OwnR lo2 hi2 a1 a2 a3 c1 c2 c3 g1 g2 g3 live safe ops y :=
  ⟨o.o1.keepB (fun q => h.block _ (o.o1.lt q) (by have := o.i1 q; omega)), o.o2.keepB (fun q => h.block _ (o.o2.lt q) (by have := o.i2 q; omega)), o.o3.keepB (fun q => h.block _ (o.o3.lt q) (by have := o.i3 q; omega)), o.d12, o.d13, o.d23, o.i1, o.i2, o.i3⟩
theorem Blk.same {g : Nat} {cur : List Value} {x y : World} (h : Blk g cur x) (e : y.heap[g]? = x.heap[g]?) (s : x.heap.size ≤ y.heap.size) : Blk g cur y :=
  ⟨Nat.lt_of_lt_of_le h.lt s, fun j v hj => (World.cell?_of_block e).trans (h.c j v hj), fun j => (World.frozen?_of_block e).trans (h.f j)⟩
theorem Chr.blk {lo hi : Nat} {x y : World} (h : Chr lo hi x y) {g : Nat} {cur : List Value} (k : Blk g cur x) (hd : g < lo ∨ hi ≤ g) : Blk g cur y := k.same (h.block g k.lt hd) h.size
def MarkEnd (lo hi q : Nat) (a1 a2 a3 : Option Addr) (c1 c2 c3 g1 g2 g3 n1 n2 n3 : Nat) (w : World) (e : Ending) (w' : World) : Prop :=
  e = .returned (.int .i64 ((q + 2 * n1 + 2 * n2 + 4 * n3 : Nat) : Int)) ∧ Chr lo hi w w' ∧ OwnR lo hi a1 a2 a3 c1 c2 c3 g1 g2 g3 (fmarkL q n1) (fmarkL (q + 2 * n1) n2) (omarkL (q + 2 * n1 + 2 * n2) n3) w'
theorem mark_end {lo hi q : Nat} {a1 a2 a3 : Option Addr} {c1 c2 c3 g1 g2 g3 : Nat} {live safe : List Fl} {ops : List Dp} {w wa w1 w2 w3 : World} (h : OwnR lo hi a1 a2 a3 c1 c2 c3 g1 g2 g3 live safe ops w) (b : Below w.heap.size w wa)
    (q1 : Chq (0 < live.length) g1 wa w1) (r1 : OwnRow 2 flCells w1 g1 a1 c1 (fmarkL q live.length)) (q2 : Chq (0 < safe.length) g2 w1 w2) (r2 : OwnRow 2 flCells w2 g2 a2 c2 (fmarkL (q + 2 * live.length) safe.length))
    (q3 : Chq (0 < ops.length) g3 w2 w3) (r3 : OwnRow 4 dpCells w3 g3 a3 c3 (omarkL (q + 2 * live.length + 2 * safe.length) ops.length)) :
    Chr lo hi w w3 ∧ OwnR lo hi a1 a2 a3 c1 c2 c3 g1 g2 g3 (fmarkL q live.length) (fmarkL (q + 2 * live.length) safe.length) (omarkL (q + 2 * live.length + 2 * safe.length) ops.length) w3 := by
  have s0 := b.size
  have s1 := q1.size
  have s2 := q2.size
  refine ⟨⟨q3.os.trans (q2.os.trans (q1.os.trans b.os)), q3.tape.trans (q2.tape.trans (q1.tape.trans b.tape)), q3.output.trans (q2.output.trans (q1.output.trans b.output)), by have := q3.size; omega, fun k hk hd => ?_⟩, ?_⟩
  · rw [q3.block k (by omega) (fun p => by have := h.i3 p; omega), q2.block k (by omega) (fun p => by have := h.i2 p; omega), q1.block k (by omega) (fun p => by have := h.i1 p; omega), b.block k hk]
  · refine ⟨r1.keepB (fun p => ?_), r2.keepB (fun p => ?_), r3, ?_, ?_, ?_, ?_, ?_, ?_⟩
    · have l1 := r1.lt p
      rw [fmarkL_len] at p
      rw [q3.block g1 (by omega) (fun z => h.d13 p z), q2.block g1 l1 (fun z => h.d12 p z)]
    · have l2 := r2.lt p
      rw [fmarkL_len] at p
      exact q3.block g2 l2 (fun z => h.d23 p z)
    · rw [fmarkL_len, fmarkL_len]; exact h.d12
    · rw [fmarkL_len, omarkL_len]; exact h.d13
    · rw [fmarkL_len, omarkL_len]; exact h.d23
    · rw [fmarkL_len]; exact h.i1
    · rw [fmarkL_len]; exact h.i2
    · rw [omarkL_len]; exact h.i3
end Go.Proofs.YtiilkkdbifhojaaGreat
