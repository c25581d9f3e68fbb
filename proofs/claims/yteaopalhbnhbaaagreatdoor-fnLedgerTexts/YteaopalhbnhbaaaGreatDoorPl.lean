/- What a call owns, rows of structs, regions that draw their order: what speaks of no program. -/
import Derived.Test.YteaopalhbnhbaaaGreatDoorRows
import Derived.WalkKit
import Derived.ProofKit
import Derived.OpenShut
import Derived.ShutString
import Derived.WalkSpells
import Derived.WalkLawsBesides
import Derived.Below
import Derived.Deep.QuietTactic
import Derived.BigQuiet
import Derived.BigRegion
import Derived.Deep.RegionWith
import Derived.Maps.AppendAt
import Derived.OwnWalk
import Derived.Deep.RegionHeld
import Derived.Deep.RegionLaw
import Derived.Orders
import Derived.Deep.AppendLies
import Derived.Laws.OwnMore
namespace Go.Proofs.YteaopalhbnhbaaaGreatDoor
open Go.ChangeShapes Go.WideShapes Go.ChangeAt Go.RowKit
set_option linter.unusedVariables false
set_option maxRecDepth 100000
theorem hide {p : Prop} (h : p) : Hid p := h
theorem below_alloc {w w' : World} (h : Below w.heap.size w w') (o : Obj) : Below w.heap.size w (w'.alloc o) := h.alloc h.size o
theorem below_trans {a b c : World} (h : Below a.heap.size a b) (k : Below b.heap.size b c) : Below a.heap.size a c := h.trans (k.mono h.size)
def inB (lo hi n : Int) : Bool := decide (lo ≤ n ∧ n ≤ hi)
def Shut2 (p : Prop) : Prop := p
theorem Shut2.mk {p : Prop} (h : Shut2 p) : p := h
theorem take_next {A : Type} (l : List A) (k : Nat) (h : k < l.length) : l.take (k + 1) = l.take k ++ [l[k]] := List.take_succ_eq_append_getElem h
theorem cell_lt {w : World} {a : Addr} {v : Value} (h : w.cell? a = some v) : a.block < w.heap.size := by
  rcases Nat.lt_or_ge a.block w.heap.size with h' | h'
  · exact h'
  · exfalso
    unfold World.cell? at h
    simp [Array.getElem?_eq_none h'] at h
theorem below_keeps {w w' : World} (b : Below w.heap.size w w') : ∀ a v, w.cell? a = some v → w'.cell? a = some v := fun a v h => (b.cell (cell_lt h)).trans h
theorem flat_len {A B : Type} (f : A → List B) (n : Nat) (hf : ∀ x, (f x).length = n) (l : List A) : (l.flatMap f).length = l.length * n := by
  induction l with
  | nil => simp
  | cons x xs ih => simp only [List.flatMap_cons, List.length_append, ih, hf, List.length_cons, Nat.succ_mul]; omega
theorem flat_get {A B : Type} (f : A → List B) (n : Nat) (hf : ∀ x, (f x).length = n) (l : List A) : ∀ (i : Nat) (h : i < l.length) (r : Nat), r < n → (l.flatMap f)[i * n + r]? = (f l[i])[r]? := by
  induction l with
  | nil => intro i h; simp at h
  | cons x xs ih =>
    intro i h r hr
    rw [List.flatMap_cons]
    cases i with
    | zero => rw [List.getElem?_append_left (by rw [hf]; omega)]; simp
    | succ i =>
      rw [List.getElem?_append_right (by rw [hf, Nat.succ_mul]; omega), hf, show (i + 1) * n + r - n = i * n + r by rw [Nat.succ_mul]; omega]
      rw [ih i (by simpa using h) r hr]
      simp
theorem addr_add (b off j : Nat) : (⟨b, off, none⟩ : Addr).add j = ⟨b, off + j, none⟩ := by
  simp only [Addr.add]
  split
  · rename_i h; subst h; rfl
  · rfl
/-- a list as it lies in memory, sz cells an element -/
def RowAt {A : Type} (sz : Nat) (f : A → List Value) (w : World) (a : Option Addr) (l : List A) : Prop :=
  ∀ i (h : i < l.length), ∃ b off, a = some ⟨b, off, none⟩ ∧ b < w.heap.size ∧ ∀ r v, (f l[i])[r]? = some v → w.cell? ⟨b, off + i * sz + r, none⟩ = some v
theorem RowAt.below {A : Type} {sz : Nat} {f : A → List Value} {w w' : World} {a : Option Addr} {l : List A} (h : RowAt sz f w a l) (k : Below w.heap.size w w') : RowAt sz f w' a l := fun i hi => by
  obtain ⟨b, off, e, hb, hc⟩ := h i hi
  have := k.size
  exact ⟨b, off, e, by omega, fun r v hv => (k.cell (by exact hb)).trans (hc r v hv)⟩
theorem RowAt.nil {A : Type} {sz : Nat} {f : A → List Value} {w : World} {a : Option Addr} : RowAt sz f w a ([] : List A) := fun i hi => by simp at hi
theorem RowAt.news {A : Type} {sz : Nat} {f : A → List Value} (hf : ∀ x, (f x).length = sz) (h0 : 0 < sz) {w : World} {b off : Nat} {l : List A} (h : RowAt sz f w (some ⟨b, off, none⟩) l) : ∀ j u, (l.flatMap f)[j]? = some u → w.cell? ((⟨b, off, none⟩ : Addr).add j) = some u := by
  intro j u hj
  have hlen := flat_len f sz hf l
  have hj' : j < (l.flatMap f).length := (List.getElem?_eq_some_iff.1 hj).1
  rw [hlen] at hj'
  have hi : j / sz < l.length := (Nat.div_lt_iff_lt_mul h0).2 hj'
  have hr : j % sz < sz := Nat.mod_lt _ h0
  have hg := flat_get f sz hf l (j / sz) hi (j % sz) hr
  have hd : j / sz * sz + j % sz = j := by rw [Nat.mul_comm]; exact Nat.div_add_mod j sz
  rw [hd, hj] at hg
  obtain ⟨b', off', e, _, hc⟩ := h (j / sz) hi
  simp only [Option.some.injEq, Addr.mk.injEq, and_true] at e
  obtain ⟨rfl, rfl⟩ := e
  rw [addr_add]
  have := hc (j % sz) u hg.symm
  rwa [Nat.add_assoc, hd] at this
theorem frozen_of_block {w : World} {g : Nat} {cur : Array Value} {e : TypeId} (h : w.heap[g]? = some (.cells cur e (0, 0))) (j : Nat) : w.frozen? ⟨g, j, none⟩ = false := by
  simp [World.frozen?, h]
/-- a row of a call's own: it begins its block, and may be written -/
structure OwnRow {A : Type} (sz : Nat) (f : A → List Value) (w : World) (g : Nat) (a : Option Addr) (cap : Nat) (l : List A) : Prop where
  rows : RowAt sz f w a l
  own : 0 < l.length → a = some ⟨g, 0, none⟩ ∧ ∀ j, w.frozen? ⟨g, j, none⟩ = false
  room : l.length ≤ cap
  nocap : a = none → cap = 0
theorem OwnRow.lt {A : Type} {sz : Nat} {f : A → List Value} {w : World} {g : Nat} {a : Option Addr} {cap : Nat} {l : List A} (h : OwnRow sz f w g a cap l) (h0 : 0 < l.length) : g < w.heap.size := by
  obtain ⟨b, off, e, hb, _⟩ := h.rows 0 h0
  rw [(h.own h0).1] at e
  simp only [Option.some.injEq, Addr.mk.injEq, and_true] at e
  omega
theorem OwnRow.below {A : Type} {sz : Nat} {f : A → List Value} {w w' : World} {g : Nat} {a : Option Addr} {cap : Nat} {l : List A} (h : OwnRow sz f w g a cap l) (k : Below w.heap.size w w') : OwnRow sz f w' g a cap l :=
  ⟨h.rows.below k, fun h0 => ⟨(h.own h0).1, fun j => (k.frozen (by exact h.lt h0)).trans ((h.own h0).2 j)⟩, h.room, h.nocap⟩
theorem OwnRow.nil {A : Type} {sz : Nat} {f : A → List Value} {w : World} {g : Nat} {a : Option Addr} {cap : Nat} (hn : a = none → cap = 0) : OwnRow sz f w g a cap ([] : List A) := ⟨RowAt.nil, fun h => by simp at h, by simp, hn⟩
/-- what append leaves is such a row -/
theorem own_of_row {A : Type} {sz : Nat} {f : A → List Value} (hf : ∀ x, (f x).length = sz) {w : World} {base : Nat} {e : TypeId} {v : Value} {l : List A} (h : w.ownsRow base e sz v l.length (l.flatMap f)) : ∃ g a cap, base ≤ g ∧ v = .slice a l.length cap ∧ OwnRow sz f w g a cap l := by
  obtain ⟨hl, ⟨h0, h1⟩ | ⟨g, cap, cur, h1, hb, hg, hn, hc, hz, ht⟩⟩ := h
  · have hl0 : l.length = 0 := h1
    have : l = [] := List.eq_nil_of_length_eq_zero hl0
    subst this
    exact ⟨base, none, 0, Nat.le_refl _, h0, OwnRow.nil (fun _ => rfl)⟩
  · refine ⟨g, some ⟨g, 0, none⟩, cap, hb, h1, ⟨fun i hi => ⟨g, 0, rfl, (Array.getElem?_eq_some_iff.1 hg).1, fun r u hu => ?_⟩, fun _ => ⟨rfl, frozen_of_block hg⟩, hn, fun q => by cases q⟩⟩
    have hr : r < sz := by rw [← hf l[i]]; exact (List.getElem?_eq_some_iff.1 hu).1
    have h2 := flat_get f sz hf l i hi r hr
    rw [hu] at h2
    have hlt : i * sz + r < (l.flatMap f).length := (List.getElem?_eq_some_iff.1 h2).1
    have h3 : (cur.toList.take (l.length * sz))[i * sz + r]? = some u := by rw [ht]; exact h2
    have h4 : cur.toList[i * sz + r]? = some u := by
      rw [List.getElem?_take] at h3
      split at h3
      · exact h3
      · cases h3
    simp only [World.cell?, hg, Nat.zero_add]
    simpa using h4
/-- one block alone has turned -/
structure Turned (g : Nat) (w w' : World) : Prop where
  os : w'.os = w.os
  tape : w'.tape = w.tape
  output : w'.output = w.output
  size : w'.heap.size = w.heap.size
  block : ∀ k, k ≠ g → w'.heap[k]? = w.heap[k]?
theorem Turned.refl (g : Nat) (w : World) : Turned g w w := ⟨rfl, rfl, rfl, rfl, fun _ _ => rfl⟩
theorem Turned.setCell {g : Nat} {w x : World} (h : Turned g w x) {o : Nat} (v : Value) : Turned g w (x.setCell ⟨g, o, none⟩ v) :=
  ⟨h.os, h.tape, h.output, by rw [← h.size]; simp [World.setCell], fun k hk => (Below.heap_setCell _ _ _ _ hk).trans (h.block k hk)⟩
theorem Turned.below {g : Nat} {w x : World} (h : Turned g w x) {B : Nat} (hB : B ≤ g) : Below B w x := ⟨h.os, h.tape, h.output, by rw [h.size]; exact Nat.le_refl _, fun k hk => h.block k (by omega)⟩
theorem Turned.cell {g : Nat} {w x : World} (h : Turned g w x) {p : Addr} (hp : p.block ≠ g) : x.cell? p = w.cell? p := World.cell?_of_block (h.block _ hp)
theorem Turned.frozen {g : Nat} {w x : World} (h : Turned g w x) {p : Addr} (hp : p.block ≠ g) : x.frozen? p = w.frozen? p := World.frozen?_of_block (h.block _ hp)
theorem RowAt.turned {A : Type} {sz : Nat} {f : A → List Value} {w w' : World} {a : Option Addr} {l : List A} {g : Nat} (h : RowAt sz f w a l) (k : Turned g w w') (hne : ∀ b off, 0 < l.length → a = some ⟨b, off, none⟩ → b ≠ g) : RowAt sz f w' a l := fun i hi => by
  obtain ⟨b, off, e, hb, hc⟩ := h i hi
  exact ⟨b, off, e, by rw [k.size]; exact hb, fun r v hv => (k.cell (hne b off (by omega) e)).trans (hc r v hv)⟩
theorem OwnRow.turned {A : Type} {sz : Nat} {f : A → List Value} {w w' : World} {g g' : Nat} {a : Option Addr} {cap : Nat} {l : List A} (h : OwnRow sz f w g a cap l) (k : Turned g' w w') (hne : 0 < l.length → g ≠ g') : OwnRow sz f w' g a cap l :=
  ⟨h.rows.turned k (fun b off h0 e => by
    rw [(h.own h0).1] at e
    simp only [Option.some.injEq, Addr.mk.injEq, and_true] at e
    rw [← e.1]; exact hne h0), fun h0 => ⟨(h.own h0).1, fun j => (k.frozen (hne h0)).trans ((h.own h0).2 j)⟩, h.room, h.nocap⟩
/-- a row of the call's own: k of its elements have been written -/
structure RowMid (g n size : Nat) (cells : Nat → List Value) (k : Nat) (x : World) : Prop where
  lt : g < x.heap.size
  there : ∀ j, j < n * size → ∃ v, x.cell? ⟨g, j, none⟩ = some v
  free : ∀ j, x.frozen? ⟨g, j, none⟩ = false
  done : ∀ i r, i < k → r < size → x.cell? ⟨g, i * size + r, none⟩ = (cells i)[r]?
theorem RowMid.below {g n size k : Nat} {cells : Nat → List Value} {x y : World} (h : RowMid g n size cells k x) (b : Below x.heap.size x y) : RowMid g n size cells k y :=
  ⟨Nat.lt_of_lt_of_le h.lt b.size, fun j hj => by obtain ⟨v, hv⟩ := h.there j hj; exact ⟨v, (b.cell h.lt).trans hv⟩, fun j => (b.frozen h.lt).trans (h.free j), fun i r hi hr => (b.cell h.lt).trans (h.done i r hi hr)⟩
theorem frozen_set (w : World) (p a : Addr) (v : Value) : (w.setCell p v).frozen? a = w.frozen? a := World.frozen?_setCell _ _ _ _
theorem size_setCell (w : World) (p : Addr) (v : Value) : (w.setCell p v).heap.size = w.heap.size := by simp
theorem cell_set_other {w : World} {b o b' o' : Nat} {v : Value} (h : b ≠ b' ∨ o ≠ o') : (w.setCell ⟨b, o, none⟩ v).cell? ⟨b', o', none⟩ = w.cell? ⟨b', o', none⟩ :=
  World.cell?_setCell_other w _ _ v (fun e => by simp only [Addr.mk.injEq, and_true] at e; rcases h with h | h <;> omega)
theorem cell_set_same {w : World} {b o : Nat} {u v : Value} (h : w.cell? ⟨b, o, none⟩ = some u) : (w.setCell ⟨b, o, none⟩ v).cell? ⟨b, o, none⟩ = some v := World.cell?_setCell_same w _ v h
/-- one cell of the element that is written -/
structure PutMid (g n size : Nat) (cells : Nat → List Value) (k m : Nat) (x : World) : Prop where
  lt : g < x.heap.size
  there : ∀ j, j < n * size → ∃ v, x.cell? ⟨g, j, none⟩ = some v
  free : ∀ j, x.frozen? ⟨g, j, none⟩ = false
  done : ∀ i r, i < k → r < size → x.cell? ⟨g, i * size + r, none⟩ = (cells i)[r]?
  part : ∀ r, r < m → x.cell? ⟨g, k * size + r, none⟩ = (cells k)[r]?
theorem RowMid.put {g n size k : Nat} {cells : Nat → List Value} {x : World} (h : RowMid g n size cells k x) : PutMid g n size cells k 0 x := ⟨h.lt, h.there, h.free, h.done, fun r hr => by omega⟩
theorem PutMid.set {g n size k m : Nat} {cells : Nat → List Value} {x : World} (h : PutMid g n size cells k m x) (hk : k < n) (hm : m < size) {v : Value} (hv : (cells k)[m]? = some v) {o : Nat} (ho : o = k * size + m) : PutMid g n size cells k (m + 1) (x.setCell ⟨g, o, none⟩ v) := by
  subst ho
  have hin : k * size + m < n * size := Nat.lt_of_lt_of_le (show k * size + m < (k + 1) * size by rw [Nat.succ_mul]; omega) (Nat.mul_le_mul_right _ hk)
  obtain ⟨u, hu⟩ := h.there _ hin
  refine ⟨by rw [size_setCell]; exact h.lt, fun j hj => ?_, fun j => by rw [frozen_set]; exact h.free j, fun i r hi hr => ?_, fun r hr => ?_⟩
  · by_cases e : k * size + m = j
    · subst e; exact ⟨v, cell_set_same hu⟩
    · rw [cell_set_other (.inr e)]; exact h.there j hj
  · have : i * size + r ≠ k * size + m := by
      have : (i + 1) * size ≤ k * size := Nat.mul_le_mul_right _ hi
      rw [Nat.succ_mul] at this
      omega
    rw [cell_set_other (.inr (fun e => this e.symm))]
    exact h.done i r hi hr
  · by_cases e : r = m
    · subst e; rw [cell_set_same hu, hv]
    · rw [cell_set_other (.inr (by omega))]
      exact h.part r (by omega)
theorem PutMid.whole {g n size k : Nat} {cells : Nat → List Value} {x : World} (h : PutMid g n size cells k size x) : RowMid g n size cells (k + 1) x :=
  ⟨h.lt, h.there, h.free, fun i r hi hr => by
    rcases Nat.lt_or_ge i k with h1 | h1
    · exact h.done i r h1 hr
    · obtain rfl : i = k := by omega
      exact h.part r hr⟩
/-- a row of the call's own that was written whole -/
theorem own_of_mid {A : Type} {sz : Nat} {f : A → List Value} (hf : ∀ x, (f x).length = sz) {g cap : Nat} {l : List A} {x : World} (h : RowMid g l.length sz (fun i => (l[i]?).elim [] f) l.length x) (hc : l.length ≤ cap) : OwnRow sz f x g (some ⟨g, 0, none⟩) cap l :=
  ⟨fun i hi => ⟨g, 0, rfl, h.lt, fun r v hv => by
    have hr : r < sz := by rw [← hf l[i]]; exact (List.getElem?_eq_some_iff.1 hv).1
    have := h.done i r hi hr
    rw [Nat.zero_add, this, List.getElem?_eq_getElem hi]
    exact hv⟩, fun _ => ⟨rfl, h.free⟩, hc, fun q => by cases q⟩
theorem off_ne {sz i k r r' : Nat} (hr : r < sz) (hr' : r' < sz) (h : ¬ (k = i ∧ r' = r)) : i * sz + r ≠ k * sz + r' := by
  intro e
  rcases Nat.lt_trichotomy k i with h1 | h1 | h1
  · have := Nat.mul_le_mul_right sz (show k + 1 ≤ i from h1)
    rw [Nat.succ_mul] at this; omega
  · subst h1; exact h ⟨rfl, by omega⟩
  · have := Nat.mul_le_mul_right sz (show i + 1 ≤ k from h1)
    rw [Nat.succ_mul] at this; omega
/-- one cell of an own row is written -/
theorem OwnRow.set {A : Type} {sz : Nat} {f : A → List Value} (hf : ∀ x, (f x).length = sz) {w : World} {g : Nat} {a : Option Addr} {cap : Nat} {l l' : List A} {i r : Nat} {u : Value} (h : OwnRow sz f w g a cap l) (hi : i < l.length) (hr : r < sz) (hlen : l'.length = l.length)
    (hc : ∀ k (hk : k < l'.length) (hk' : k < l.length) r' v, (f l'[k])[r']? = some v → (k = i ∧ r' = r ∧ v = u) ∨ (¬ (k = i ∧ r' = r) ∧ (f l[k])[r']? = some v)) : OwnRow sz f (w.setCell ⟨g, i * sz + r, none⟩ u) g a cap l' := by
  obtain ⟨ea, hfz⟩ := h.own (by omega)
  refine ⟨fun k hk => ?_, fun h0 => ⟨ea, fun j => by rw [frozen_set]; exact hfz j⟩, by rw [hlen]; exact h.room, h.nocap⟩
  have hk' : k < l.length := by omega
  obtain ⟨b, off, e, hb, hcell⟩ := h.rows k hk'
  have e' := e
  rw [ea] at e'
  simp only [Option.some.injEq, Addr.mk.injEq, and_true] at e'
  obtain ⟨rfl, rfl⟩ := e'
  refine ⟨g, 0, e, by rw [size_setCell]; exact hb, fun r' v hv => ?_⟩
  rw [Nat.zero_add]
  have hr' : r' < sz := by rw [← hf l'[k]]; exact (List.getElem?_eq_some_iff.1 hv).1
  rcases hc k hk hk' r' v hv with ⟨rfl, rfl, rfl⟩ | ⟨hne, ho⟩
  · obtain ⟨b2, off2, e2, _, hcell2⟩ := h.rows k hi
    rw [ea] at e2
    simp only [Option.some.injEq, Addr.mk.injEq, and_true] at e2
    obtain ⟨rfl, rfl⟩ := e2
    have hin : r' < (f l[k]).length := by rw [hf]; exact hr
    have := hcell2 r' _ (List.getElem?_eq_getElem hin)
    rw [Nat.zero_add] at this
    exact cell_set_same this
  · rw [cell_set_other (.inr (off_ne hr hr' hne))]
    have := hcell r' v ho
    rwa [Nat.zero_add] at this
/-- a new row of the call's own, that reads as the list -/
def NewRow {A : Type} (sz : Nat) (f : A → List Value) (l : List A) (w : World) (v : Value) (w' : World) : Prop := ∃ g a cap, w.heap.size ≤ g ∧ v = .slice a l.length cap ∧ OwnRow sz f w' g a cap l
theorem NewRow.below {A : Type} {sz : Nat} {f : A → List Value} {l : List A} {w x y : World} {v : Value} (h : NewRow sz f l w v x) (b : Below x.heap.size x y) : NewRow sz f l w v y := by
  obtain ⟨g, a, cap, hg, e, ho⟩ := h
  exact ⟨g, a, cap, hg, e, ho.below b⟩
def S3 (B : Nat) (p0 p1 p2 : Value) (W0 x : World) : Prop := x.cell? ⟨B, 0, none⟩ = some p0 ∧ x.cell? ⟨B, 1, none⟩ = some p1 ∧ x.cell? ⟨B, 2, none⟩ = some p2 ∧ Hid (Below W0.heap.size W0 x)
theorem S3.of {B : Nat} {p0 p1 p2 : Value} {W0 x : World} (h : W0.cell? ⟨B, 0, none⟩ = some p0 ∧ W0.cell? ⟨B, 1, none⟩ = some p1 ∧ W0.cell? ⟨B, 2, none⟩ = some p2) (b : Below W0.heap.size W0 x) : S3 B p0 p1 p2 W0 x :=
  ⟨below_keeps b _ _ h.1, below_keeps b _ _ h.2.1, below_keeps b _ _ h.2.2, hide b⟩
theorem S3.on {B : Nat} {p0 p1 p2 : Value} {W0 x y : World} (h : S3 B p0 p1 p2 W0 x) (b : Below x.heap.size x y) : S3 B p0 p1 p2 W0 y :=
  ⟨below_keeps b _ _ h.1, below_keeps b _ _ h.2.1, below_keeps b _ _ h.2.2.1, hide (below_trans h.2.2.2.out b)⟩
structure Prc where
  seq : Int
  amt : Int
def prcCells (x : Prc) : List Value := [.int .i64 x.seq, .int .i64 x.amt]
theorem prcLen (x : Prc) : (prcCells x).length = 2 := rfl
theorem prc_row {w : World} {a : Option Addr} {l : List Prc} (h : RowAt 2 prcCells w a l) (i : Nat) (hi : i < l.length) : ∃ b off, a = some ⟨b, off, none⟩ ∧ b < w.heap.size ∧ w.cell? ⟨b, off + i * 2, none⟩ = some (.int .i64 l[i].seq) ∧ w.cell? ⟨b, off + i * 2 + 1, none⟩ = some (.int .i64 l[i].amt) := by
  obtain ⟨b, off, e, hb, hc⟩ := h i hi
  exact ⟨b, off, e, hb, hc 0 _ rfl, hc 1 _ rfl⟩
/-- the end of a link -/
structure En where
  out : List Prc
  sent : Int
  got : Int
/-- a block as it was laid, whatever came behind it -/
theorem boxN {w x : World} {cur : Array Value} {T : TypeId} (h : Below (w.heap.size + 1) (w.alloc (.cells cur T)) x) (j : Nat) (v : Value) (hj : cur[j]? = some v) : x.cell? ⟨w.heap.size, j, none⟩ = some v :=
  (h.cell (by show w.heap.size < w.heap.size + 1; omega)).trans ((World.cell?_alloc_at _ _ _ _ rfl).trans hj)
theorem boxFree {w x : World} {cur : Array Value} {T : TypeId} (h : Below (w.heap.size + 1) (w.alloc (.cells cur T)) x) (j : Nat) : x.frozen? ⟨w.heap.size, j, none⟩ = false :=
  (h.frozen (by show w.heap.size < w.heap.size + 1; omega)).trans (frozen_of_block (cur := cur) (e := T) (by show (w.heap.push _)[w.heap.size]? = _; simp) j)
/-- a block whose cells are known and that may be written -/
structure Blk (g : Nat) (cur : List Value) (x : World) : Prop where
  lt : g < x.heap.size
  c : ∀ j v, cur[j]? = some v → x.cell? ⟨g, j, none⟩ = some v
  f : ∀ j, x.frozen? ⟨g, j, none⟩ = false
theorem Blk.new {w : World} {cur : List Value} {T : TypeId} : Blk w.heap.size cur (w.alloc (.cells cur.toArray T)) :=
  ⟨by simp, fun j v hj => boxN (T := T) (Below.refl _ _) j v (by simpa using hj), fun j => boxFree (cur := cur.toArray) (T := T) (Below.refl _ _) j⟩
theorem Blk.below {g : Nat} {cur : List Value} {x y : World} (h : Blk g cur x) (b : Below x.heap.size x y) : Blk g cur y :=
  ⟨Nat.lt_of_lt_of_le h.lt b.size, fun j v hj => (b.cell h.lt).trans (h.c j v hj), fun j => (b.frozen h.lt).trans (h.f j)⟩
theorem Blk.alloc {g : Nat} {cur : List Value} {x : World} (h : Blk g cur x) (o : Obj) : Blk g cur (x.alloc o) := h.below (below_alloc (Below.refl _ _) _)
theorem Blk.set {g : Nat} {cur : List Value} {x : World} (h : Blk g cur x) (o : Nat) (v : Value) (ho : o < cur.length) : Blk g (cur.set o v) (x.setCell ⟨g, o, none⟩ v) :=
  ⟨by rw [size_setCell]; exact h.lt, fun j u hj => by
    by_cases e : o = j
    · subst e
      rw [List.getElem?_set_self (by simpa using ho)] at hj
      cases hj
      exact cell_set_same (h.c o cur[o] (List.getElem?_eq_getElem ho))
    · rw [List.getElem?_set_ne e] at hj
      rw [cell_set_other (.inr e)]
      exact h.c j u hj, fun j => by rw [frozen_set]; exact h.f j⟩
theorem step_append_own {P : Program} {ops : Array Oper} {o : Oper} {a : Act} {w : World} {K : Act → World → Prop} {Q : Exit → Act → World → Prop} {E : Prop}
    (hg : o.guard = none) (s x : Operand) (t : TypeId) (hop : o.op = Op.call { callee := Callee.builtin Builtin.append, args := #[s, x], argTypes := #[t, t] })
    (base : Nat) (e : TypeId) (i : TypeInfo) (z : Value) (size bytes : Nat) (h1 : P.underlying t = some (.slice e)) (h2 : P.info? e = some i) (h3 : i.zero = some z) (h4 : i.size = size) (h5 : i.bytes = bytes) (h6 : z.cells.size = size) (h7 : 0 < size)
    (v : Value) (n : Nat) (xs : List Value) (hs : a.eval s = v) (hown : w.ownsRow base e size v n xs)
    (ad : Addr) (m c : Nat) (news : List Value) (hx : a.eval x = .slice (some ad) m c) (hn : news.length = m * size) (hc : ∀ j u, news[j]? = some u → w.cell? (ad.add j) = some u) (h1c : ∀ u ∈ news, u.oneCell' = true)
    (b1 : n + m ≤ maxLen) (b2 : (n + m) * bytes ≤ 140737488355328) (hbase : base ≤ w.heap.size)
    (hK : ∀ v' w', w'.ownsRow base e size v' (n + m) (xs ++ news) → w.grownBy w' v.ownBlock → K (a.put o.dst v') w') :
    if Region.wanted o (yielded ops a.tmps) = true then Oper.wp P o a w K Q else E := by
  have hw : Region.wanted o (yielded ops a.tmps) = true := by simp [Region.wanted, hg]
  rw [if_pos hw]
  obtain ⟨v', w', hr, r1, r2, _, _⟩ := run_append_own_at (P := P) w base t o.type e i z size bytes h1 h2 h3 h4 h5 h6 h7 v n xs hown ad m c news hn hc h1c b1 b2 hbase
  unfold Oper.wp execOp
  simp only [hop, resolve, invoke, builtin, Sem.run_bind, Sem.run_pure, Result.andThen_ok, List.map_toArray, List.map_cons, List.map_nil, hs, hx, hr]
  exact hK v' w' r1 r2
theorem count_zero_false {L : Array Bool} (h : L.toList.count false = 0) (j : Nat) : L.getD j true ≠ false := by
  intro hj
  have hm : false ∈ L.toList := by
    rcases Nat.lt_or_ge j L.size with hlt | hge
    · have : L[j] = false := by simpa [hlt] using hj
      rw [← this]; exact Array.getElem_mem_toList hlt
    · simp [Array.getElem?_eq_none hge] at hj
  exact absurd h (Nat.ne_of_gt (List.count_pos_iff.2 hm))
theorem count_set_false {L : Array Bool} {j : Nat} (hj : L.getD j true = false) : (L.setIfInBounds j true).toList.count false + 1 = L.toList.count false := by
  have hlt : j < L.size := by
    rcases Nat.lt_or_ge j L.size with hlt | hge
    · exact hlt
    · simp [Array.getElem?_eq_none hge] at hj
  have e : L[j] = false := by simpa [hlt] using hj
  have hm : false ∈ L.toList := by rw [← e]; exact Array.getElem_mem_toList hlt
  have hp := List.count_pos_iff.2 hm
  rw [Array.toList_setIfInBounds, List.count_set (by simpa using hlt)]
  have e' : L.toList[j]'(by simpa using hlt) = false := by simpa using e
  rw [e', if_pos (by decide), if_neg (by decide)]
  omega
/-- what holds whatever has come up, and is kept by each that may come up next -/
theorem wpAny_inv {P : Program} {ops : Array Oper} {Q : Exit → Act → World → Prop} {md : Region.Mode} (I : Array Bool → Act → World → Prop)
    (hst : ∀ L a w i, I L a w → i ∈ Region.ready md ops L → ∀ K : Act → World → Prop, (∀ a' w', I (L.setIfInBounds i true) a' w' → K a' w') → wpOp P ops Q i K a w)
    (hen : ∀ L a w, I L a w → Region.ready md ops L = [] → Q .normal a w) :
    ∀ fuel L a w, I L a w → L.toList.count false ≤ fuel → wpAny P md ops Q fuel L a w := by
  intro fuel
  induction fuel with
  | zero =>
    intro L a w h hc
    have hr : Region.ready md ops L = [] := by
      cases hr : Region.ready md ops L with
      | nil => rfl
      | cons j t =>
        have : j ∈ Region.ready md ops L := by rw [hr]; exact List.mem_cons_self
        exact absurd (mem_ready.1 this).1 (count_zero_false (by omega) j)
    exact ⟨hr, hen L a w h hr⟩
  | succ fuel ih =>
    intro L a w h hc
    refine ⟨fun hr => hen L a w h hr, fun i hi => hst L a w i h hi _ fun a' w' h' => ih _ a' w' h' ?_⟩
    have := count_set_false (mem_ready.1 hi).1
    omega
theorem wp_region_inv {P : Program} {ops : Array Oper} {Q : Exit → Act → World → Prop} {id : Nat} {a : Act} {w : World} (hm : P.follows .mixedOrders = true) (I : Array Bool → Act → World → Prop)
    (hst : ∀ L a w i, I L a w → i ∈ Region.ready .any ops L → ∀ K : Act → World → Prop, (∀ a' w', I (L.setIfInBounds i true) a' w' → K a' w') → wpOp P ops Q i K a w)
    (hen : ∀ L a w, I L a w → Region.ready .any ops L = [] → Q .normal a w) (h0 : I (Array.replicate ops.size false) a w.drew) : (Code.region id ops true).wp P Q a w :=
  wp_region_any hm (wpAny_inv I hst hen _ _ _ _ h0 (by
    have h := List.count_le_length (a := false) (l := (Array.replicate ops.size false).toList)
    rw [Array.length_toList, Array.size_replicate] at h
    exact h))
/-- one operation, run -/
theorem wpOp_run {P : Program} {ops : Array Oper} {Q : Exit → Act → World → Prop} {i : Nat} {o : Oper} {a : Act} {w : World} {K : Act → World → Prop} (hi : ops[i]? = some o) (hg : o.guard = none) {v : Value} {w' : World} (hr : (execOp a.eval o).run P w = .ok (.value v) w') (h : K (a.put o.dst v) w') : wpOp P ops Q i K a w := by
  unfold wpOp
  have hw : Region.wanted o (yielded ops a.tmps) = true := by simp [Region.wanted, hg]
  simp only [hi, hw, if_true]
  exact .inl (by unfold Oper.wp; rw [hr]; exact h)
theorem wpOp_skip {P : Program} {ops : Array Oper} {Q : Exit → Act → World → Prop} {i : Nat} {o : Oper} {a : Act} {w : World} {K : Act → World → Prop} (hi : ops[i]? = some o) (hg : o.guard = none) {w' : World} (hr : (execOp a.eval o).run P w = .ok .skip w') (h : K (a.put o.dst undef) w') : wpOp P ops Q i K a w := by
  unfold wpOp
  have hw : Region.wanted o (yielded ops a.tmps) = true := by simp [Region.wanted, hg]
  simp only [hi, hw, if_true]
  exact .inl (by unfold Oper.wp; rw [hr]; exact h)
theorem ready_on {md : Region.Mode} {ops : Array Oper} {L : Array Bool} {i : Nat} (hi : i ∈ Region.ready md ops L) (k : Nat) (hk : ((ops[i]?).map fun o => o.after.any fun e => Region.binds md e && e.on == k) = some true) : L.getD k false = true := by
  obtain ⟨_, o, ho, hd⟩ := mem_ready.1 hi
  rw [ho] at hk
  simp only [Option.map_some, Option.some.injEq, Array.any_eq_true] at hk
  obtain ⟨j, hj, he⟩ := hk
  simp only [Bool.and_eq_true, beq_iff_eq] at he
  have := hd o.after[j] (Array.getElem_mem hj) he.1
  rwa [he.2] at this
theorem exec_append {P : Program} {w w' : World} {o : Oper} {ev : Operand → Value} {s x : Operand} {t : TypeId} {v u v' : Value} (hop : o.op = Op.call { callee := Callee.builtin Builtin.append, args := #[s, x], argTypes := #[t, t] }) (hs : ev s = v) (hx : ev x = u) (hr : (Builtin.append_ #[t, t] o.type #[v, u]).run P w = .ok v' w') : (execOp ev o).run P w = .ok (.value v') w' := by
  unfold execOp
  simp only [hop, resolve, invoke, builtin, Sem.run_bind, Sem.run_pure, Result.andThen_ok, List.map_toArray, List.map_cons, List.map_nil, hs, hx, hr]
theorem news2 {x : World} {g : Nat} {v0 v1 : Value} (c0 : x.cell? ⟨g, 0, none⟩ = some v0) (c1 : x.cell? ⟨g, 1, none⟩ = some v1) (j : Nat) (u : Value) (hj : [v0, v1][j]? = some u) : x.cell? ((⟨g, 0, none⟩ : Addr).add j) = some u := by
  rw [addr_add]
  match j, hj with
  | 0, hj => simp at hj; rw [← hj]; exact c0
  | 1, hj => simp at hj; rw [← hj]; exact c1
theorem ready_all {md : Region.Mode} {ops : Array Oper} {L : Array Bool} (h : Region.ready md ops L = []) (hs : L.size = ops.size) (ha : ∀ i (hi : i < ops.size), ∀ e ∈ ops[i].after, Region.binds md e = true → e.on < i) : ∀ i, i < ops.size → L.getD i false = true := by
  intro i
  induction i using Nat.strongRecOn with
  | ind i ih =>
    intro hi
    cases hL : L.getD i true with
    | false =>
      have : i ∈ Region.ready md ops L := mem_ready.2 ⟨hL, ops[i], by simp [hi], fun e he hb => ih _ (ha i hi e he hb) (Nat.lt_trans (ha i hi e he hb) hi)⟩
      rw [h] at this
      cases this
    | true =>
      have hi' : i < L.size := by omega
      simpa [hi'] using hL
theorem grown_set (w : World) (g j : Nat) (v : Value) : w.grownBy (w.setCell ⟨g, j, none⟩ v) (some g) := ⟨rfl, rfl, rfl, by simp [World.setCell], fun k hk hne => Below.heap_setCell _ _ _ _ (fun e => hne (by rw [e]))⟩
theorem own_ne {w : World} {base : Nat} {e : TypeId} {size : Nat} {v : Value} {n : Nat} {xs : List Value} (h : w.ownsRow base e size v n xs) : v.ownBlock ≠ some w.heap.size := fun hk => by
  have := (h.lt _ hk).2
  omega
theorem own_lie {v v' : Value} {m g : Nat} (h : v'.ownBlock = v.ownBlock ∨ v'.ownBlock = some m) (h1 : v.ownBlock ≠ some g) (h2 : g < m) : v'.ownBlock ≠ some g := fun hk => by
  rcases h with h | h
  · exact h1 (h ▸ hk)
  · rw [h] at hk
    simp only [Option.some.injEq] at hk
    omega
theorem wpOp_call {P : Program} {ops : Array Oper} {Q : Exit → Act → World → Prop} {i : Nat} {o : Oper} {a : Act} {w : World} {K : Act → World → Prop} {f : FuncId} {args : Array Value} {R : Ending → World → Prop} (hi : ops[i]? = some o) (hg : o.guard = none) (hr : (execOp a.eval o).run P w = .ok (.enter f args) w) (hc : Calls P f args w R) (hK : ∀ e w', R e w' → ∃ v, e = .returned v ∧ K (a.put o.dst v) w') : wpOp P ops Q i K a w := by
  unfold wpOp
  have hw : Region.wanted o (yielded ops a.tmps) = true := by simp [Region.wanted, hg]
  simp only [hi, hw, if_true]
  refine .inl ?_
  unfold Oper.wp
  rw [hr, Oper.upon_enter]
  refine hc.mono fun e w' he => ?_
  obtain ⟨v, rfl, hv⟩ := hK e w' he
  exact hv
theorem run_append_any {P : Program} {w : World} (base : Nat) (t ty e : TypeId) (i : TypeInfo) (z : Value) (size bytes : Nat) (ht : P.underlying t = some (.slice e)) (hi : P.info? e = some i) (hz : i.zero = some z)
    (hsize : i.size = size) (hby : i.bytes = bytes) (hzs : z.cells.size = size) (hsz : 0 < size)
    (v : Value) (n : Nat) (xs : List Value) (hown : w.ownsRow base e size v n xs)
    (ao : Option Addr) (m c : Nat) (news : List Value) (hl : news.length = m * size) (hnone : ao = none → m = 0 ∧ c = 0) (hnews : ∀ a, ao = some a → ∀ j u, news[j]? = some u → w.cell? (a.add j) = some u) (h1 : ∀ u ∈ news, u.oneCell' = true)
    (h63 : n + m ≤ maxLen) (hbytes : (n + m) * bytes ≤ 140737488355328) (hbase : base ≤ w.heap.size) :
    ∃ v' w', (Builtin.append_ #[t, t] ty #[v, .slice ao m c]).run P w = .ok v' w' ∧ w'.ownsRow base e size v' (n + m) (xs ++ news) ∧ w.grownBy w' v.ownBlock ∧ (v'.ownBlock = v.ownBlock ∨ v'.ownBlock = some w.heap.size) := by
  cases ao with
  | some a =>
    obtain ⟨v', w', r1, r2, r3, _, r5⟩ := run_append_own_at (P := P) (w := w) base t ty e i z size bytes ht hi hz hsize hby hzs hsz v n xs hown a m c news hl (hnews a rfl) h1 h63 hbytes hbase
    exact ⟨v', w', r1, r2, r3, r5⟩
  | none =>
    obtain ⟨rfl, rfl⟩ := hnone rfl
    have hn : news = [] := List.eq_nil_of_length_eq_zero (by simpa using hl)
    subst hn
    exact ⟨v, w, run_append_owned_none (P := P) (w := w) base t ty e i size ht hi v n xs hown, by simpa using hown, World.grownBy.refl _ _, .inl rfl⟩
theorem RowAt.news_any {A : Type} {sz : Nat} {f : A → List Value} (hf : ∀ x, (f x).length = sz) (h0 : 0 < sz) {w : World} {a : Option Addr} {l : List A} (h : RowAt sz f w a l) : ∀ ad, a = some ad → ∀ j u, (l.flatMap f)[j]? = some u → w.cell? (ad.add j) = some u := by
  intro ad had j u hj
  subst had
  cases l with
  | nil => simp at hj
  | cons x t =>
    obtain ⟨b, off, e, _⟩ := h 0 (by simp)
    simp only [Option.some.injEq] at e
    subst e
    exact h.news hf h0 j u hj
theorem row_none {A : Type} {sz : Nat} {f : A → List Value} {w : World} {a : Option Addr} {l : List A} (h : RowAt sz f w a l) (ha : a = none) : l.length = 0 := by
  cases l with
  | nil => rfl
  | cons x t =>
    obtain ⟨b, off, e, _⟩ := h 0 (by simp)
    rw [ha] at e
    cases e
/-- a piece of memory: its blocks, and what is so of them alone -/
structure Rs where
  fp : List Nat
  P : World → Prop
  loc : ∀ x y : World, (∀ b ∈ fp, y.heap[b]? = x.heap[b]?) → P x → P y
def fps (rs : List Rs) : List Nat := rs.flatMap Rs.fp
theorem fps_nil : fps [] = [] := rfl
theorem fps_cons (r : Rs) (rs : List Rs) : fps (r :: rs) = r.fp ++ fps rs := by simp [fps]
theorem fps_app (a b : List Rs) : fps (a ++ b) = fps a ++ fps b := by simp [fps]
theorem fps_one (r : Rs) : fps [r] = r.fp := by simp [fps]
theorem mem_fps {rs : List Rs} {b : Nat} : b ∈ fps rs ↔ ∃ r ∈ rs, b ∈ r.fp := by simp [fps]
/-- blocks that were there, but those of F, stand -/
structure Fr (F : List Nat) (w x : World) : Prop where
  os : x.os = w.os
  tape : x.tape = w.tape
  output : x.output = w.output
  size : w.heap.size ≤ x.heap.size
  block : ∀ k, k < w.heap.size → k ∉ F → x.heap[k]? = w.heap[k]?
theorem Fr.refl (F : List Nat) (w : World) : Fr F w w := ⟨rfl, rfl, rfl, Nat.le_refl _, fun _ _ _ => rfl⟩
theorem Fr.below {F : List Nat} {w x : World} (h : Below w.heap.size w x) : Fr F w x := ⟨h.os, h.tape, h.output, h.size, fun k hk _ => h.block k hk⟩
theorem Fr.to_below {w x : World} (h : Fr [] w x) : Below w.heap.size w x := ⟨h.os, h.tape, h.output, h.size, fun k hk => h.block k hk (by simp)⟩
theorem Fr.mono {F G : List Nat} {w x : World} (h : Fr F w x) (hs : ∀ b ∈ F, b ∈ G ∨ w.heap.size ≤ b) : Fr G w x :=
  ⟨h.os, h.tape, h.output, h.size, fun k hk hn => h.block k hk (fun q => by rcases hs k q with a | a; exact hn a; omega)⟩
theorem Fr.trans {F G : List Nat} {w x y : World} (h : Fr F w x) (k : Fr G x y) (hs : ∀ b ∈ G, b ∈ F ∨ w.heap.size ≤ b) : Fr F w y :=
  ⟨k.os.trans h.os, k.tape.trans h.tape, k.output.trans h.output, Nat.le_trans h.size k.size, fun b hb hn => (k.block b (Nat.lt_of_lt_of_le hb h.size) (fun q => by rcases hs b q with a | a; exact hn a; omega)).trans (h.block b hb hn)⟩
theorem Fr.drew {F : List Nat} {w x : World} (h : Fr F w x) : Fr F w x.drew := ⟨h.os, h.tape, h.output, h.size, h.block⟩
theorem Fr.alloc {F : List Nat} {w x : World} (h : Fr F w x) (o : Obj) : Fr F w (x.alloc o) := h.trans (Fr.below (below_alloc (Below.refl _ _) o)) (G := []) (fun b hb => by cases hb)
theorem Fr.set {F : List Nat} {w x : World} (h : Fr F w x) {g o : Nat} {v : Value} (hg : g ∈ F ∨ w.heap.size ≤ g) : Fr F w (x.setCell ⟨g, o, none⟩ v) :=
  ⟨h.os, h.tape, h.output, by rw [size_setCell]; exact h.size, fun k hk hn => (Below.heap_setCell _ _ _ _ (fun e => by subst e; rcases hg with a | a; exact hn a; exact absurd hk (by show ¬ k < _; omega))).trans (h.block k hk hn)⟩
theorem Fr.turned {g : Nat} {w x : World} (h : Turned g w x) : Fr [g] w x := ⟨h.os, h.tape, h.output, by rw [h.size]; exact Nat.le_refl _, fun k hk hn => h.block k (fun e => hn (by simp [e]))⟩
theorem Fr.grown {w x : World} {o : Option Nat} (h : w.grownBy x o) : Fr o.toList w x := ⟨h.os, h.tape, h.output, h.size, fun k hk hn => h.block k hk (fun e => hn (by simp [← e]))⟩
theorem Fr.cell {F : List Nat} {w x : World} (h : Fr F w x) {p : Addr} (hp : p.block < w.heap.size) (hn : p.block ∉ F) : x.cell? p = w.cell? p := World.cell?_of_block (h.block _ hp hn)
/-- pieces that lie apart -/
structure Star (rs : List Rs) (x : World) : Prop where
  all : ∀ r ∈ rs, r.P x
  nd : (fps rs).Nodup
  lt : ∀ b ∈ fps rs, b < x.heap.size
theorem Star.nil (x : World) : Star [] x := ⟨fun r h => (by cases h), (by simp [fps]), fun b h => (by simp [fps] at h)⟩
theorem Star.perm {rs rs' : List Rs} {x : World} (h : Star rs x) (p : rs.Perm rs') : Star rs' x :=
  ⟨fun r hr => h.all r (p.mem_iff.2 hr), (List.Perm.nodup_iff (List.Perm.flatMap_right _ p)).1 h.nd, fun b hb => h.lt b ((List.Perm.flatMap_right _ p).mem_iff.2 hb)⟩
theorem Star.left {a b : List Rs} {x : World} (h : Star (a ++ b) x) : Star a x := by
  have nd := h.nd
  rw [fps_app, List.nodup_append] at nd
  exact ⟨fun r hr => h.all r (by simp [hr]), nd.1, fun c hc => h.lt c (by rw [fps_app]; simp [hc])⟩
theorem Star.right {a b : List Rs} {x : World} (h : Star (a ++ b) x) : Star b x := h.perm List.perm_append_comm |>.left
theorem Star.app {a b : List Rs} {x : World} (h : Star a x) (k : Star b x) (d : ∀ c ∈ fps a, c ∉ fps b) : Star (a ++ b) x :=
  ⟨fun r hr => by rcases List.mem_append.1 hr with q | q; exact h.all r q; exact k.all r q, by
    rw [fps_app, List.nodup_append]
    exact ⟨h.nd, k.nd, fun c hc e he q => d c hc (q ▸ he)⟩, fun c hc => by
    rw [fps_app] at hc
    rcases List.mem_append.1 hc with q | q
    · exact h.lt c q
    · exact k.lt c q⟩
theorem Star.apart {a b : List Rs} {x : World} (h : Star (a ++ b) x) : ∀ c ∈ fps a, c ∉ fps b := by
  have nd := h.nd
  rw [fps_app, List.nodup_append] at nd
  exact fun c hc q => nd.2.2 c hc c q rfl
theorem Star.keep {rs : List Rs} {x y : World} {F : List Nat} (h : Star rs x) (k : Fr F x y) (d : ∀ b ∈ fps rs, b ∉ F) : Star rs y :=
  ⟨fun r hr => r.loc x y (fun b hb => k.block b (h.lt b (mem_fps.2 ⟨r, hr, hb⟩)) (d b (mem_fps.2 ⟨r, hr, hb⟩))) (h.all r hr), h.nd, fun b hb => Nat.lt_of_lt_of_le (h.lt b hb) k.size⟩
theorem Star.below {rs : List Rs} {x y : World} (h : Star rs x) (k : Below x.heap.size x y) : Star rs y := h.keep (Fr.below (F := []) k) (fun _ _ q => by cases q)
theorem Star.cons {r : Rs} {rs : List Rs} {x : World} (h : Star (r :: rs) x) : r.P x ∧ Star rs x := ⟨h.all r (by simp), Star.right (a := [r]) h⟩
theorem Star.get {rs : List Rs} {x : World} (h : Star rs x) {r : Rs} (hr : r ∈ rs) : r.P x := h.all r hr
theorem Star.one {r : Rs} {x : World} (h : r.P x) (nd : r.fp.Nodup) (lt : ∀ b ∈ r.fp, b < x.heap.size) : Star [r] x :=
  ⟨fun q hq => by simp only [List.mem_singleton] at hq; subst hq; exact h, by rw [fps_one]; exact nd, by rw [fps_one]; exact lt⟩
/-- what is owned, in places; beside it, of what was there at w, only blocks of F have turned -/
structure Pool (F : List Nat) (w : World) (S : List (List Rs)) (x : World) : Prop where
  fr : Fr F w x
  st : Star S.flatten x
  hi : ∀ b ∈ fps S.flatten, b ∈ F ∨ w.heap.size ≤ b
theorem slot_split {S : List (List Rs)} {i : Nat} {rs : List Rs} (hi : S[i]? = some rs) (rs' : List Rs) : ∃ A B, S.flatten = A ++ (rs ++ B) ∧ (S.set i rs').flatten = A ++ (rs' ++ B) := by
  have hl : i < S.length := (List.getElem?_eq_some_iff.1 hi).1
  refine ⟨(S.take i).flatten, (S.drop (i + 1)).flatten, ?_, ?_⟩
  · have e : S = S.take i ++ rs :: S.drop (i + 1) := by
      have := List.getElem?_eq_some_iff.1 hi
      obtain ⟨_, h2⟩ := this
      rw [← h2]
      simp
    rw [← List.flatten_cons, ← List.flatten_append, ← e]
  · rw [List.set_eq_take_append_cons_drop, if_pos hl, List.flatten_append, List.flatten_cons]
theorem Pool.get {F : List Nat} {w x : World} {S : List (List Rs)} (h : Pool F w S x) {i : Nat} {rs : List Rs} (hi : S[i]? = some rs) : Star rs x := by
  obtain ⟨A, B, e, _⟩ := slot_split hi []
  have := h.st
  rw [e] at this
  exact this.right.left
/-- one place turns: its pieces are given, others are got, that lie in its blocks or in new ones -/
theorem Pool.step {F : List Nat} {w x y : World} {S : List (List Rs)} (h : Pool F w S x) {i : Nat} {rs rs' : List Rs} (hi : S[i]? = some rs) (fr : Fr (fps rs) x y) (st : Star rs' y) (sub : ∀ b ∈ fps rs', b ∈ fps rs ∨ x.heap.size ≤ b) : Pool F w (S.set i rs') y := by
  obtain ⟨A, B, e, e'⟩ := slot_split hi rs'
  have hs := h.st
  have hh := h.hi
  rw [e] at hs hh
  have hin : ∀ b ∈ fps rs, b ∈ F ∨ w.heap.size ≤ b := fun b hb => hh b (by rw [fps_app, fps_app]; simp [hb])
  have dA := hs.apart
  have dB := hs.right.apart
  have kA : Star A y := hs.left.keep fr (fun b hb q => dA b hb (by rw [fps_app]; simp [q]))
  have kB : Star B y := hs.right.right.keep fr (fun b hb q => dB b q hb)
  refine ⟨h.fr.trans fr hin, ?_, ?_⟩
  · rw [e']
    refine kA.app (st.app kB (fun c hc q => ?_)) (fun c hc q => ?_)
    · rcases sub c hc with a | a
      · exact dB c a q
      · have := hs.right.right.lt c q; omega
    · rw [fps_app] at q
      rcases List.mem_append.1 q with q | q
      · rcases sub c q with a | a
        · exact dA c hc (by rw [fps_app]; simp [a])
        · have := hs.left.lt c hc; omega
      · exact dA c hc (by rw [fps_app]; simp [q])
  · rw [e']
    intro b hb
    rw [fps_app, fps_app] at hb
    rcases List.mem_append.1 hb with q | q
    · exact hh b (by rw [fps_app]; simp [q])
    · rcases List.mem_append.1 q with q | q
      · rcases sub b q with a | a
        · exact hin b a
        · exact .inr (Nat.le_trans h.fr.size a)
      · exact hh b (by rw [fps_app, fps_app]; simp [q])
theorem Pool.call {F : List Nat} {w x y : World} {S : List (List Rs)} (h : Pool F w S x) {i : Nat} {rs rs' : List Rs} (hi : S[i]? = some rs) (k : Pool (fps rs) x [rs'] y) : Pool F w (S.set i rs') y :=
  h.step hi k.fr (by simpa using k.st) (by simpa using k.hi)
theorem Pool.keep {F : List Nat} {w x y : World} {S : List (List Rs)} (h : Pool F w S x) (b : Below x.heap.size x y) : Pool F w S y :=
  ⟨h.fr.trans (Fr.below (F := []) b) (fun c hc => by cases hc), h.st.below b, h.hi⟩
theorem Pool.drew {F : List Nat} {w x : World} {S : List (List Rs)} (h : Pool F w S x) : Pool F w S x.drew := h.keep (Below.refl _ _).drew
theorem Pool.alloc {F : List Nat} {w x : World} {S : List (List Rs)} (h : Pool F w S x) (o : Obj) : Pool F w S (x.alloc o) := h.keep (below_alloc (Below.refl _ _) o)
theorem Pool.perm {F : List Nat} {w x : World} {S S' : List (List Rs)} (h : Pool F w S x) (p : S.flatten.Perm S'.flatten) : Pool F w S' x :=
  ⟨h.fr, h.st.perm p, fun b hb => h.hi b ((List.Perm.flatMap_right _ p).mem_iff.2 hb)⟩
theorem Pool.cast {F : List Nat} {w x : World} {S S' : List (List Rs)} (h : Pool F w S x) (e : S.flatten = S'.flatten) : Pool F w S' x := ⟨h.fr, e ▸ h.st, e ▸ h.hi⟩
theorem Pool.drop {F : List Nat} {w x : World} {S : List (List Rs)} (h : Pool F w S x) {i : Nat} {rs : List Rs} (hi : S[i]? = some rs) : Pool F w (S.set i []) x := h.step hi (Fr.refl _ _) (Star.nil _) (fun b hb => by simp [fps] at hb)
/-- new pieces into an empty place -/
theorem Pool.new {F : List Nat} {w x y : World} {S : List (List Rs)} (h : Pool F w S x) {i : Nat} {rs' : List Rs} (hi : S[i]? = some []) (b : Below x.heap.size x y) (st : Star rs' y) (hi' : ∀ c ∈ fps rs', x.heap.size ≤ c) : Pool F w (S.set i rs') y :=
  h.step hi (Fr.below b) st (fun c hc => .inr (hi' c hc))
theorem Pool.start (w : World) (S : List (List Rs)) (e : S.flatten = []) : Pool [] w S w := ⟨Fr.refl _ _, by rw [e]; exact Star.nil _, by rw [e]; exact fun b hb => by simp [fps] at hb⟩
theorem Pool.of {rs : List Rs} {w : World} (h : Star rs w) : Pool (fps rs) w [rs] w := ⟨Fr.refl _ _, by simpa using h, fun b hb => .inl (by simpa using hb)⟩
theorem Pool.below {w x : World} {S : List (List Rs)} (h : Pool [] w S x) : Below w.heap.size w x := h.fr.to_below
/-- a block whose cells are known -/
def blk (b : Nat) (cur : List Value) : Rs := ⟨[b], Blk b cur, fun x y e h => by
  have e := e b (by simp)
  have hlt : b < y.heap.size := by
    rcases Nat.lt_or_ge b y.heap.size with q | q
    · exact q
    · rw [Array.getElem?_eq_none q] at e
      have := h.lt
      rw [Array.getElem?_eq_getElem this] at e
      cases e
  exact ⟨hlt, fun j v hj => (World.cell?_of_block (a := ⟨b, j, none⟩) e).trans (h.c j v hj), fun j => (World.frozen?_of_block (a := ⟨b, j, none⟩) e).trans (h.f j)⟩⟩
theorem blk_fp (b : Nat) (cur : List Value) : (blk b cur).fp = [b] := rfl
theorem Star.ofBlk {b : Nat} {cur : List Value} {x : World} (h : Blk b cur x) : Star [blk b cur] x := Star.one h (by simp [blk]) (fun c hc => by simp only [blk_fp, List.mem_singleton] at hc; subst hc; exact h.lt)
theorem Pool.newBlk {F : List Nat} {w x : World} {S : List (List Rs)} (h : Pool F w S x) {i : Nat} (hi : S[i]? = some []) (cur : List Value) (T : TypeId) : Pool F w (S.set i [blk x.heap.size cur]) (x.alloc (.cells cur.toArray T)) :=
  h.new hi (below_alloc (Below.refl _ _) _) (Star.ofBlk Blk.new) (fun c hc => by simp only [fps_one, blk_fp, List.mem_singleton] at hc; omega)
theorem Pool.setBlk {F : List Nat} {w x : World} {S : List (List Rs)} (h : Pool F w S x) {i b : Nat} {cur : List Value} (hi : S[i]? = some [blk b cur]) (o : Nat) (v : Value) (ho : o < cur.length) : Pool F w (S.set i [blk b (cur.set o v)]) (x.setCell ⟨b, o, none⟩ v) := by
  have hB : Blk b cur x := (h.get hi).get (r := blk b cur) (by simp)
  exact h.step hi (by rw [fps_one, blk_fp]; exact (Fr.refl _ _).set (.inl (by simp))) (Star.ofBlk (hB.set o v ho)) (fun c hc => .inl hc)
/-- a row that append may grow -/
def row (T : TypeId) (sz : Nat) (v : Value) (n : Nat) (xs : List Value) : Rs := ⟨v.ownBlock.toList, fun x => x.ownsRow 0 T sz v n xs, fun x y e h => by
  obtain ⟨hl, h0 | ⟨g, cap, cur, h1, hb, hg, r⟩⟩ := h
  · exact ⟨hl, .inl h0⟩
  · exact ⟨hl, .inr ⟨g, cap, cur, h1, hb, (e g (by subst h1; simp [Value.ownBlock])).trans hg, r⟩⟩⟩
theorem row_fp (T : TypeId) (sz : Nat) (v : Value) (n : Nat) (xs : List Value) : (row T sz v n xs).fp = v.ownBlock.toList := rfl
theorem toList_nodup (o : Option Nat) : o.toList.Nodup := by cases o <;> simp
theorem own_zero {w : World} {base : Nat} {T : TypeId} {sz n : Nat} {v : Value} {xs : List Value} (h : w.ownsRow base T sz v n xs) : w.ownsRow 0 T sz v n xs := by
  obtain ⟨hl, h0 | ⟨g, cap, cur, h1, hb, r⟩⟩ := h
  · exact ⟨hl, .inl h0⟩
  · exact ⟨hl, .inr ⟨g, cap, cur, h1, Nat.zero_le _, r⟩⟩
theorem Star.ofRow {base : Nat} {T : TypeId} {sz n : Nat} {v : Value} {xs : List Value} {x : World} (h : x.ownsRow base T sz v n xs) : Star [row T sz v n xs] x :=
  Star.one (r := row T sz v n xs) (own_zero h) (toList_nodup _) (fun c hc => by
    rw [row_fp, Option.mem_toList] at hc
    exact (h.lt c hc).2)
theorem Pool.newRow {F : List Nat} {w x : World} {S : List (List Rs)} (h : Pool F w S x) {i : Nat} (hi : S[i]? = some []) (T : TypeId) (sz : Nat) : Pool F w (S.set i [row T sz (.slice (some ⟨x.heap.size, 0, none⟩) 0 0) 0 []]) (x.alloc (.cells #[] T)) :=
  h.new hi (below_alloc (Below.refl _ _) _) (Star.ofRow (World.ownsRow_made (base := 0) x #[] 0 (Nat.zero_le _) (by unfold maxLen; omega) (by simp))) (fun c hc => by simp only [fps_one, row_fp, Value.ownBlock, Option.toList, List.mem_singleton] at hc; omega)
theorem Pool.newNil {F : List Nat} {w x : World} {S : List (List Rs)} (h : Pool F w S x) {i : Nat} (hi : S[i]? = some []) (T : TypeId) (sz : Nat) : Pool F w (S.set i [row T sz (.slice none 0 0) 0 []]) x :=
  h.new hi (Below.refl _ _) (Star.ofRow (World.ownsRow_nil x 0 T sz)) (fun c hc => by simp [fps_one, row_fp, Value.ownBlock] at hc)
theorem Pool.rowAt {F : List Nat} {w x : World} {S : List (List Rs)} (h : Pool F w S x) {i : Nat} {T : TypeId} {sz n : Nat} {v : Value} {xs : List Value} (hi : S[i]? = some [row T sz v n xs]) : x.ownsRow 0 T sz v n xs := (h.get hi).get (r := row T sz v n xs) (by simp)
theorem Pool.blkAt {F : List Nat} {w x : World} {S : List (List Rs)} (h : Pool F w S x) {i b : Nat} {cur : List Value} (hi : S[i]? = some [blk b cur]) : Blk b cur x := (h.get hi).get (r := blk b cur) (by simp)
theorem Pool.grow {F : List Nat} {w x y : World} {S : List (List Rs)} (h : Pool F w S x) {i : Nat} {T : TypeId} {sz n m : Nat} {v v' : Value} {xs ys : List Value} (hi : S[i]? = some [row T sz v n xs]) (ho : y.ownsRow 0 T sz v' m ys) (hg : x.grownBy y v.ownBlock) (hl : v'.ownBlock = v.ownBlock ∨ v'.ownBlock = some x.heap.size) : Pool F w (S.set i [row T sz v' m ys]) y :=
  h.step hi (by rw [fps_one, row_fp]; exact Fr.grown hg) (Star.ofRow ho) (fun c hc => by
    rw [fps_one, row_fp, Option.mem_toList] at hc
    rcases hl with e | e
    · exact .inl (by rw [fps_one, row_fp, Option.mem_toList, ← e]; exact hc)
    · rw [e] at hc
      simp only [Option.some.injEq] at hc
      exact .inr (by omega))
/-- where a row lies -/
def gOf : Option Addr → Nat
  | some a => a.block
  | none => 0
/-- where a slice that may grow lies, and how much room it has -/
def Shp (x : World) (sz n : Nat) (a : Option Addr) (cap : Nat) : Prop := (a = none ∧ cap = 0 ∧ n = 0) ∨ ∃ g cur T, a = some ⟨g, 0, none⟩ ∧ x.heap[g]? = some (.cells cur T (0, 0)) ∧ cur.size = cap * sz ∧ n ≤ cap ∧ cap ≤ maxLen
/-- a row that may be written and may grow -/
def orow {A : Type} (sz : Nat) (f : A → List Value) (a : Option Addr) (cap : Nat) (l : List A) : Rs := ⟨(Value.slice a l.length cap).ownBlock.toList, fun x => Shp x sz l.length a cap ∧ OwnRow sz f x (gOf a) a cap l, fun x y e h => by
  obtain ⟨s, h⟩ := h
  have hs : Shp y sz l.length a cap := by
    rcases s with s | ⟨g, cur, T, rfl, hg, r⟩
    · exact .inl s
    · exact .inr ⟨g, cur, T, rfl, (e g (by simp [Value.ownBlock])).trans hg, r⟩
  refine ⟨hs, ?_⟩
  by_cases h0 : 0 < l.length
  · rcases s with ⟨_, _, s⟩ | ⟨g, cur, T, rfl, hg, r⟩
    · omega
    have e := e g (by simp [Value.ownBlock])
    refine ⟨fun i hi => ?_, fun h0 => ⟨(h.own h0).1, fun j => ?_⟩, h.room, h.nocap⟩
    · obtain ⟨b, off, ea, hb, hc⟩ := h.rows i hi
      simp only [Option.some.injEq, Addr.mk.injEq, and_true] at ea
      obtain ⟨rfl, rfl⟩ := ea
      refine ⟨g, 0, rfl, ?_, fun r v hv => (World.cell?_of_block (a := ⟨g, 0 + i * sz + r, none⟩) e).trans (hc r v hv)⟩
      rcases Nat.lt_or_ge g y.heap.size with q | q
      · exact q
      · rw [Array.getElem?_eq_none q, Array.getElem?_eq_getElem hb] at e
        cases e
    · exact (World.frozen?_of_block (a := ⟨g, j, none⟩) e).trans ((h.own h0).2 j)
  · have : l = [] := List.eq_nil_of_length_eq_zero (by omega)
    subst this
    exact OwnRow.nil h.nocap⟩
theorem orow_fp {A : Type} (sz : Nat) (f : A → List Value) (a : Option Addr) (cap : Nat) (l : List A) : (orow sz f a cap l).fp = (Value.slice a l.length cap).ownBlock.toList := rfl
theorem orow_mem {A : Type} {sz : Nat} {f : A → List Value} {a : Option Addr} {cap : Nat} {l : List A} {b : Nat} (h : b ∈ (orow sz f a cap l).fp) : a ≠ none ∧ b = gOf a := by
  rw [orow_fp, Option.mem_toList] at h
  cases a with
  | none => cases h
  | some ad => exact ⟨fun e => (by cases e), by simpa [Value.ownBlock, gOf] using h.symm⟩
theorem Star.ofOwn {A : Type} {sz : Nat} {f : A → List Value} {a : Option Addr} {cap : Nat} {l : List A} {x : World} (s : Shp x sz l.length a cap) (h : OwnRow sz f x (gOf a) a cap l) : Star [orow sz f a cap l] x :=
  Star.one (r := orow sz f a cap l) ⟨s, h⟩ (toList_nodup _) (fun b hb => by
    rcases s with ⟨rfl, _⟩ | ⟨g, cur, T, rfl, hg, r⟩
    · rw [orow_fp] at hb; simp [Value.ownBlock] at hb
    · obtain ⟨_, rfl⟩ := orow_mem hb
      exact (Array.getElem?_eq_some_iff.1 hg).1)
theorem Star.ofNone {A : Type} {sz : Nat} {f : A → List Value} {x : World} : Star [orow sz f none 0 ([] : List A)] x := Star.ofOwn (.inl ⟨rfl, rfl, rfl⟩) (OwnRow.nil (fun _ => rfl))
/-- what append leaves, as a row that may be written -/
theorem Star.of_row {A : Type} {sz : Nat} {f : A → List Value} (hf : ∀ x, (f x).length = sz) {w : World} {base : Nat} {e : TypeId} {v : Value} {l : List A} (h : w.ownsRow base e sz v l.length (l.flatMap f)) : ∃ a cap, v = .slice a l.length cap ∧ Star [orow sz f a cap l] w ∧ (∀ b ∈ fps [orow sz f a cap l], b ∈ v.ownBlock.toList) := by
  obtain ⟨g, a, cap, hb, e1, ho⟩ := own_of_row hf h
  have hs : Shp w sz l.length a cap := by
    obtain ⟨_, ⟨h0, h1⟩ | ⟨g', c', cur, h1, _, hg, hn, hm, hc, _⟩⟩ := h
    · rw [h0] at e1
      simp only [Value.slice.injEq] at e1
      exact .inl ⟨e1.1.symm, e1.2.2.symm, h1⟩
    · rw [h1] at e1
      simp only [Value.slice.injEq, true_and] at e1
      obtain ⟨rfl, rfl⟩ := e1
      exact .inr ⟨g', cur, _, rfl, hg, hc, hn, hm⟩
  have ho2 : OwnRow sz f w (gOf a) a cap l := by
    by_cases h0 : 0 < l.length
    · have : gOf a = g := by rw [(ho.own h0).1]; rfl
      rw [this]; exact ho
    · have : l = [] := List.eq_nil_of_length_eq_zero (by omega)
      subst this
      exact OwnRow.nil ho.nocap
  refine ⟨a, cap, e1, Star.ofOwn hs ho2, fun b q => ?_⟩
  rw [fps_one, orow_fp, ← e1] at q
  exact q
theorem Pool.asOrow {A : Type} {sz : Nat} {f : A → List Value} (hf : ∀ x, (f x).length = sz) {F : List Nat} {w x : World} {S : List (List Rs)} (h : Pool F w S x) {i : Nat} {T : TypeId} {v : Value} {l : List A} (hi : S[i]? = some [row T sz v l.length (l.flatMap f)]) : ∃ a cap, v = .slice a l.length cap ∧ Pool F w (S.set i [orow sz f a cap l]) x := by
  obtain ⟨a, cap, e, st, hb⟩ := Star.of_row hf (h.rowAt hi)
  exact ⟨a, cap, e, h.step hi (Fr.refl _ _) st (fun b hq => .inl (by rw [fps_one, row_fp]; exact hb b hq))⟩
theorem Pool.orowAt {A : Type} {sz : Nat} {f : A → List Value} {F : List Nat} {w x : World} {S : List (List Rs)} (h : Pool F w S x) {i : Nat} {a : Option Addr} {cap : Nat} {l : List A} (hi : S[i]? = some [orow sz f a cap l]) : OwnRow sz f x (gOf a) a cap l := ((h.get hi).get (r := orow sz f a cap l) (by simp)).2
theorem Pool.shpAt {A : Type} {sz : Nat} {f : A → List Value} {F : List Nat} {w x : World} {S : List (List Rs)} (h : Pool F w S x) {i : Nat} {a : Option Addr} {cap : Nat} {l : List A} (hi : S[i]? = some [orow sz f a cap l]) : Shp x sz l.length a cap := ((h.get hi).get (r := orow sz f a cap l) (by simp)).1
theorem Shp.set {x : World} {sz n : Nat} {a : Option Addr} {cap : Nat} (h : Shp x sz n a cap) (b o : Nat) (v : Value) : Shp (x.setCell ⟨b, o, none⟩ v) sz n a cap := by
  rcases h with h | ⟨g, cur, T, e, hg, hc, r⟩
  · exact .inl h
  · by_cases q : g = b
    · subst q
      exact .inr ⟨g, cur.setIfInBounds o v, T, e, by simp [World.setCell, Array.getElem?_modify, hg], by simpa using hc, r⟩
    · exact .inr ⟨g, cur, T, e, (Below.heap_setCell _ _ _ _ q).trans hg, hc, r⟩
/-- six cells of a block written anew -/
theorem Pool.set6 {F : List Nat} {w x : World} {S : List (List Rs)} (h : Pool F w S x) {i b : Nat} {z0 z1 z2 z3 z4 z5 : Value} (hi : S[i]? = some [blk b [z0, z1, z2, z3, z4, z5]]) (v0 v1 v2 v3 v4 v5 : Value) :
    Pool F w (S.set i [blk b [v0, v1, v2, v3, v4, v5]]) ((((((x.setCell ⟨b, 0, none⟩ v0).setCell ⟨b, 1, none⟩ v1).setCell ⟨b, 2, none⟩ v2).setCell ⟨b, 3, none⟩ v3).setCell ⟨b, 4, none⟩ v4).setCell ⟨b, 5, none⟩ v5) := by
  have hl : i < S.length := (List.getElem?_eq_some_iff.1 hi).1
  have e : ∀ r : List Rs, (S.set i r)[i]? = some r := fun r => by simp [hl]
  have h0 := h.setBlk hi 0 v0 (by simp)
  have h1 := h0.setBlk (e _) 1 v1 (by simp)
  have h2 := h1.setBlk (by rw [List.set_set]; exact e _) 2 v2 (by simp)
  have h3 := h2.setBlk (by rw [List.set_set, List.set_set]; exact e _) 3 v3 (by simp)
  have h4 := h3.setBlk (by rw [List.set_set, List.set_set, List.set_set]; exact e _) 4 v4 (by simp)
  have h5 := h4.setBlk (by rw [List.set_set, List.set_set, List.set_set, List.set_set]; exact e _) 5 v5 (by simp)
  simp only [List.set_set] at h5
  exact h5
/-- an address with no far part -/
def Near (a : Option Addr) : Prop := ∀ x, a = some x → ∃ b off, x = ⟨b, off, none⟩
theorem row_near {w : World} {base : Nat} {e : TypeId} {sz n m c : Nat} {a : Option Addr} {xs : List Value} (h : w.ownsRow base e sz (.slice a m c) n xs) : Near a := fun x hx => by
  obtain ⟨hl, ⟨h0, _⟩ | ⟨g, cap, cur, h1, _⟩⟩ := h
  · simp only [Value.slice.injEq] at h0
    rw [h0.1] at hx
    cases hx
  · simp only [Value.slice.injEq] at h1
    rw [h1.1] at hx
    simp only [Option.some.injEq] at hx
    exact ⟨g, 0, hx.symm⟩
/-- where a value's slice lies -/
def slA : Value → Option Addr
  | .slice a _ _ => a
  | .agg xs => (match xs.toList with | Value.slice a _ _ :: _ => a | _ => none)
  | .tuple ys => (match ys.toList with | Value.agg xs :: _ => (match xs.toList with | Value.slice a _ _ :: _ => a | _ => none) | _ => none)
  | _ => none
def slC : Value → Nat
  | .slice _ _ c => c
  | .agg xs => (match xs.toList with | Value.slice _ _ c :: _ => c | _ => 0)
  | .tuple ys => (match ys.toList with | Value.agg xs :: _ => (match xs.toList with | Value.slice _ _ c :: _ => c | _ => 0) | _ => 0)
  | _ => 0
/-- the block that a pointer leads to -/
def ptB : Value → Nat
  | .pointer (some a) => a.block
  | _ => 0
theorem Pool.append {P : Program} {F : List Nat} {w x : World} {S : List (List Rs)} (h : Pool F w S x) {i0 : Nat} {T : TypeId} {size n : Nat} {v : Value} {xs : List Value} (hs : S[i0]? = some [row T size v n xs])
    (t ty : TypeId) (i : TypeInfo) (z : Value) (bytes : Nat) (ht : P.underlying t = some (.slice T)) (hi : P.info? T = some i) (hz : i.zero = some z)
    (hsize : i.size = size) (hby : i.bytes = bytes) (hzs : z.cells.size = size) (hsz : 0 < size)
    (ao : Option Addr) (m c : Nat) (news : List Value) (hl : news.length = m * size) (hnone : ao = none → m = 0 ∧ c = 0) (hnews : ∀ a, ao = some a → ∀ j u, news[j]? = some u → x.cell? (a.add j) = some u) (h1 : ∀ u ∈ news, u.oneCell' = true)
    (h63 : n + m ≤ maxLen) (hbytes : (n + m) * bytes ≤ 140737488355328) :
    ∃ v' y, (Builtin.append_ #[t, t] ty #[v, .slice ao m c]).run P x = .ok v' y ∧ Pool F w (S.set i0 [row T size v' (n + m) (xs ++ news)]) y := by
  obtain ⟨v', y, hr, ho, hg, hlie⟩ := run_append_any (P := P) (w := x) 0 t ty T i z size bytes ht hi hz hsize hby hzs hsz v n xs (h.rowAt hs) ao m c news hl hnone hnews h1 h63 hbytes (Nat.zero_le _)
  exact ⟨v', y, hr, h.grow hs ho hg hlie⟩
theorem blk_news {g : Nat} {cur : List Value} {x : World} (h : Blk g cur x) : ∀ a, (some ⟨g, 0, none⟩ : Option Addr) = some a → ∀ j u, cur[j]? = some u → x.cell? (a.add j) = some u := fun a ha j u hj => by
  simp only [Option.some.injEq] at ha
  subst ha
  rw [addr_add, Nat.zero_add]
  exact h.c j u hj
theorem Below.news {w x : World} {A : Type} {sz : Nat} {f : A → List Value} (hf : ∀ x, (f x).length = sz) (h0 : 0 < sz) {a : Option Addr} {l : List A} (b : Below w.heap.size w x) (h : RowAt sz f w a l) : ∀ ad, a = some ad → ∀ j u, (l.flatMap f)[j]? = some u → x.cell? (ad.add j) = some u := (h.below b).news_any hf h0
end Go.Proofs.YteaopalhbnhbaaaGreatDoor
