/- Lists of structs as they lie in memory, rows of a call's own, and a world in which one block alone has turned. -/
import Derived.Test.YtiilkkdbifhojaaData
import Derived.Maps.AppendAt
import Derived.OwnWalk
namespace Go.Proofs.Ytiilkkdbifhojaa
open Go.ChangeShapes Go.WideShapes Go.ChangeAt Go.RowKit
set_option linter.unusedVariables false
theorem cell_lt {w : World} {a : Addr} {v : Value} (h : w.cell? a = some v) : a.block < w.heap.size := by
  rcases Nat.lt_or_ge a.block w.heap.size with h' | h'
  · exact h'
  · exfalso
    unfold World.cell? at h
    simp [Array.getElem?_eq_none h'] at h
theorem below_keeps {w w' : World} (b : Below w.heap.size w w') : ∀ a v, w.cell? a = some v → w'.cell? a = some v := fun a v h => (b.cell (cell_lt h)).trans h
theorem flat_len {A B : Type} (f : A → List B) (n : Nat) (hf : ∀ x, (f x).length = n) (l : List A) : (l.flatMap f).length = l.length * n := by
  induction l with
  | nil => simp
  | cons x xs ih => simp only [List.flatMap_cons, List.length_append, ih, hf, List.length_cons, Nat.succ_mul]; omega
theorem flat_get {A B : Type} (f : A → List B) (n : Nat) (hf : ∀ x, (f x).length = n) (l : List A) : ∀ (i : Nat) (h : i < l.length) (r : Nat), r < n → (l.flatMap f)[i * n + r]? = (f l[i])[r]? := by
  induction l with
  | nil => intro i h; simp at h
  | cons x xs ih =>
    intro i h r hr
    rw [List.flatMap_cons]
    cases i with
    | zero => rw [List.getElem?_append_left (by rw [hf]; omega)]; simp
    | succ i =>
      rw [List.getElem?_append_right (by rw [hf, Nat.succ_mul]; omega), hf, show (i + 1) * n + r - n = i * n + r by rw [Nat.succ_mul]; omega]
      rw [ih i (by simpa using h) r hr]
      simp
theorem addr_add (b off j : Nat) : (⟨b, off, none⟩ : Addr).add j = ⟨b, off + j, none⟩ := by
  simp only [Addr.add]
  split
  · rename_i h; subst h; rfl
  · rfl
/-- a list as it lies in memory, sz cells an element -/
def RowAt {A : Type} (sz : Nat) (f : A → List Value) (w : World) (a : Option Addr) (l : List A) : Prop :=
  ∀ i (h : i < l.length), ∃ b off, a = some ⟨b, off, none⟩ ∧ b < w.heap.size ∧ ∀ r v, (f l[i])[r]? = some v → w.cell? ⟨b, off + i * sz + r, none⟩ = some v
theorem RowAt.below {A : Type} {sz : Nat} {f : A → List Value} {w w' : World} {a : Option Addr} {l : List A} (h : RowAt sz f w a l) (k : Below w.heap.size w w') : RowAt sz f w' a l := fun i hi => by
  obtain ⟨b, off, e, hb, hc⟩ := h i hi
  have := k.size
  exact ⟨b, off, e, by omega, fun r v hv => (k.cell (by exact hb)).trans (hc r v hv)⟩
/-- below B: the row lies there -/
theorem RowAt.belowB {A : Type} {sz : Nat} {f : A → List Value} {w w1 w' : World} {a : Option Addr} {l : List A} (h : RowAt sz f w a l) (k : Below w.heap.size w w1) (k' : Below w.heap.size w1 w') : RowAt sz f w' a l := h.below (k.trans k')
theorem RowAt.nil {A : Type} {sz : Nat} {f : A → List Value} {w : World} {a : Option Addr} : RowAt sz f w a ([] : List A) := fun i hi => by simp at hi
theorem RowAt.news {A : Type} {sz : Nat} {f : A → List Value} (hf : ∀ x, (f x).length = sz) (h0 : 0 < sz) {w : World} {b off : Nat} {l : List A} (h : RowAt sz f w (some ⟨b, off, none⟩) l) : ∀ j u, (l.flatMap f)[j]? = some u → w.cell? ((⟨b, off, none⟩ : Addr).add j) = some u := by
  intro j u hj
  have hlen := flat_len f sz hf l
  have hj' : j < (l.flatMap f).length := (List.getElem?_eq_some_iff.1 hj).1
  rw [hlen] at hj'
  have hi : j / sz < l.length := (Nat.div_lt_iff_lt_mul h0).2 hj'
  have hr : j % sz < sz := Nat.mod_lt _ h0
  have hg := flat_get f sz hf l (j / sz) hi (j % sz) hr
  have hd : j / sz * sz + j % sz = j := by rw [Nat.mul_comm]; exact Nat.div_add_mod j sz
  rw [hd, hj] at hg
  obtain ⟨b', off', e, _, hc⟩ := h (j / sz) hi
  simp only [Option.some.injEq, Addr.mk.injEq, and_true] at e
  obtain ⟨rfl, rfl⟩ := e
  rw [addr_add]
  have := hc (j % sz) u hg.symm
  rwa [Nat.add_assoc, hd] at this
theorem frozen_of_block {w : World} {g : Nat} {cur : Array Value} {e : TypeId} (h : w.heap[g]? = some (.cells cur e (0, 0))) (j : Nat) : w.frozen? ⟨g, j, none⟩ = false := by
  simp [World.frozen?, h]
/-- a row of a call's own: it begins its block, and may be written -/
structure OwnRow {A : Type} (sz : Nat) (f : A → List Value) (w : World) (g : Nat) (a : Option Addr) (cap : Nat) (l : List A) : Prop where
  rows : RowAt sz f w a l
  own : 0 < l.length → a = some ⟨g, 0, none⟩ ∧ ∀ j, w.frozen? ⟨g, j, none⟩ = false
  room : l.length ≤ cap
theorem OwnRow.lt {A : Type} {sz : Nat} {f : A → List Value} {w : World} {g : Nat} {a : Option Addr} {cap : Nat} {l : List A} (h : OwnRow sz f w g a cap l) (h0 : 0 < l.length) : g < w.heap.size := by
  obtain ⟨b, off, e, hb, _⟩ := h.rows 0 h0
  rw [(h.own h0).1] at e
  simp only [Option.some.injEq, Addr.mk.injEq, and_true] at e
  omega
theorem OwnRow.below {A : Type} {sz : Nat} {f : A → List Value} {w w' : World} {g : Nat} {a : Option Addr} {cap : Nat} {l : List A} (h : OwnRow sz f w g a cap l) (k : Below w.heap.size w w') : OwnRow sz f w' g a cap l :=
  ⟨h.rows.below k, fun h0 => ⟨(h.own h0).1, fun j => (k.frozen (by exact h.lt h0)).trans ((h.own h0).2 j)⟩, h.room⟩
theorem OwnRow.nil {A : Type} {sz : Nat} {f : A → List Value} {w : World} {g : Nat} {a : Option Addr} {cap : Nat} : OwnRow sz f w g a cap ([] : List A) := ⟨RowAt.nil, fun h => by simp at h, by simp⟩
/-- what append leaves is such a row -/
theorem own_of_row {A : Type} {sz : Nat} {f : A → List Value} (hf : ∀ x, (f x).length = sz) {w : World} {base : Nat} {e : TypeId} {v : Value} {l : List A} (h : w.ownsRow base e sz v l.length (l.flatMap f)) : ∃ g a cap, base ≤ g ∧ v = .slice a l.length cap ∧ OwnRow sz f w g a cap l := by
  obtain ⟨hl, ⟨h0, h1⟩ | ⟨g, cap, cur, h1, hb, hg, hn, hc, hz, ht⟩⟩ := h
  · have hl0 : l.length = 0 := h1
    have : l = [] := List.eq_nil_of_length_eq_zero hl0
    subst this
    exact ⟨base, none, 0, Nat.le_refl _, h0, OwnRow.nil⟩
  · refine ⟨g, some ⟨g, 0, none⟩, cap, hb, h1, ⟨fun i hi => ⟨g, 0, rfl, (Array.getElem?_eq_some_iff.1 hg).1, fun r u hu => ?_⟩, fun _ => ⟨rfl, frozen_of_block hg⟩, hn⟩⟩
    have hr : r < sz := by rw [← hf l[i]]; exact (List.getElem?_eq_some_iff.1 hu).1
    have h2 := flat_get f sz hf l i hi r hr
    rw [hu] at h2
    have hlt : i * sz + r < (l.flatMap f).length := (List.getElem?_eq_some_iff.1 h2).1
    have h3 : (cur.toList.take (l.length * sz))[i * sz + r]? = some u := by rw [ht]; exact h2
    have h4 : cur.toList[i * sz + r]? = some u := by
      rw [List.getElem?_take] at h3
      split at h3
      · exact h3
      · cases h3
    simp only [World.cell?, hg, Nat.zero_add]
    simpa using h4
theorem below_grown {w w' : World} {row : Option Nat} (h : w.grownBy w' row) {w0 : World} (k : Below w0.heap.size w0 w) (hr : ∀ j, row = some j → w0.heap.size ≤ j) : Below w0.heap.size w0 w' := k.grown h k.size hr
/-- one block alone has turned -/
structure Turned (g : Nat) (w w' : World) : Prop where
  os : w'.os = w.os
  tape : w'.tape = w.tape
  output : w'.output = w.output
  size : w'.heap.size = w.heap.size
  block : ∀ k, k ≠ g → w'.heap[k]? = w.heap[k]?
theorem Turned.refl (g : Nat) (w : World) : Turned g w w := ⟨rfl, rfl, rfl, rfl, fun _ _ => rfl⟩
theorem Turned.setCell {g : Nat} {w x : World} (h : Turned g w x) {o : Nat} (v : Value) : Turned g w (x.setCell ⟨g, o, none⟩ v) :=
  ⟨h.os, h.tape, h.output, by rw [← h.size]; simp [World.setCell], fun k hk => (Below.heap_setCell _ _ _ _ hk).trans (h.block k hk)⟩
theorem Turned.below {g : Nat} {w x : World} (h : Turned g w x) {B : Nat} (hB : B ≤ g) : Below B w x := ⟨h.os, h.tape, h.output, by rw [h.size]; exact Nat.le_refl _, fun k hk => h.block k (by omega)⟩
theorem Turned.cell {g : Nat} {w x : World} (h : Turned g w x) {p : Addr} (hp : p.block ≠ g) : x.cell? p = w.cell? p := World.cell?_of_block (h.block _ hp)
theorem Turned.frozen {g : Nat} {w x : World} (h : Turned g w x) {p : Addr} (hp : p.block ≠ g) : x.frozen? p = w.frozen? p := World.frozen?_of_block (h.block _ hp)
theorem RowAt.turned {A : Type} {sz : Nat} {f : A → List Value} {w w' : World} {a : Option Addr} {l : List A} {g : Nat} (h : RowAt sz f w a l) (k : Turned g w w') (hne : ∀ b off, 0 < l.length → a = some ⟨b, off, none⟩ → b ≠ g) : RowAt sz f w' a l := fun i hi => by
  obtain ⟨b, off, e, hb, hc⟩ := h i hi
  exact ⟨b, off, e, by rw [k.size]; exact hb, fun r v hv => (k.cell (hne b off (by omega) e)).trans (hc r v hv)⟩
theorem OwnRow.turned {A : Type} {sz : Nat} {f : A → List Value} {w w' : World} {g g' : Nat} {a : Option Addr} {cap : Nat} {l : List A} (h : OwnRow sz f w g a cap l) (k : Turned g' w w') (hne : 0 < l.length → g ≠ g') : OwnRow sz f w' g a cap l :=
  ⟨h.rows.turned k (fun b off h0 e => by
    rw [(h.own h0).1] at e
    simp only [Option.some.injEq, Addr.mk.injEq, and_true] at e
    rw [← e.1]; exact hne h0), fun h0 => ⟨(h.own h0).1, fun j => (k.frozen (hne h0)).trans ((h.own h0).2 j)⟩, h.room⟩
/-- a row of the call's own: k of its elements have been written -/
structure RowMid (g n size : Nat) (cells : Nat → List Value) (k : Nat) (x : World) : Prop where
  lt : g < x.heap.size
  there : ∀ j, j < n * size → ∃ v, x.cell? ⟨g, j, none⟩ = some v
  free : ∀ j, x.frozen? ⟨g, j, none⟩ = false
  done : ∀ i r, i < k → r < size → x.cell? ⟨g, i * size + r, none⟩ = (cells i)[r]?
theorem RowMid.below {g n size k : Nat} {cells : Nat → List Value} {x y : World} (h : RowMid g n size cells k x) (b : Below x.heap.size x y) : RowMid g n size cells k y :=
  ⟨Nat.lt_of_lt_of_le h.lt b.size, fun j hj => by obtain ⟨v, hv⟩ := h.there j hj; exact ⟨v, (b.cell h.lt).trans hv⟩, fun j => (b.frozen h.lt).trans (h.free j), fun i r hi hr => (b.cell h.lt).trans (h.done i r hi hr)⟩
theorem rowMid_made {w x : World} {e : TypeId} {n size : Nat} {xs : List Value} {cells : Nat → List Value} (h : x.ownsRow w.heap.size e size (.slice (some ⟨w.heap.size, 0, none⟩) n n) n xs) : RowMid w.heap.size n size cells 0 x := by
  obtain ⟨hl, ⟨h0, _⟩ | ⟨g, cap, cur, h1, hb, hg, hn, hc, hz, ht⟩⟩ := h
  · cases h0
  · simp only [Value.slice.injEq, Option.some.injEq, Addr.mk.injEq, and_true, true_and] at h1
    obtain ⟨rfl, rfl⟩ := h1
    refine ⟨(Array.getElem?_eq_some_iff.1 hg).1, fun j hj => ?_, frozen_of_block hg, fun i r hi => by omega⟩
    have hj' : j < cur.size := by rw [hz]; exact hj
    exact ⟨cur[j], by simp [World.cell?, hg, Array.getElem?_eq_getElem hj']⟩
theorem frozen_set (w : World) (p a : Addr) (v : Value) : (w.setCell p v).frozen? a = w.frozen? a := World.frozen?_setCell _ _ _ _
theorem size_setCell (w : World) (p : Addr) (v : Value) : (w.setCell p v).heap.size = w.heap.size := by simp
theorem cell_set_other {w : World} {b o b' o' : Nat} {v : Value} (h : b ≠ b' ∨ o ≠ o') : (w.setCell ⟨b, o, none⟩ v).cell? ⟨b', o', none⟩ = w.cell? ⟨b', o', none⟩ :=
  World.cell?_setCell_other w _ _ v (fun e => by simp only [Addr.mk.injEq, and_true] at e; rcases h with h | h <;> omega)
theorem cell_set_same {w : World} {b o : Nat} {u v : Value} (h : w.cell? ⟨b, o, none⟩ = some u) : (w.setCell ⟨b, o, none⟩ v).cell? ⟨b, o, none⟩ = some v := World.cell?_setCell_same w _ v h
/-- one cell of the element that is written -/
structure PutMid (g n size : Nat) (cells : Nat → List Value) (k m : Nat) (x : World) : Prop where
  lt : g < x.heap.size
  there : ∀ j, j < n * size → ∃ v, x.cell? ⟨g, j, none⟩ = some v
  free : ∀ j, x.frozen? ⟨g, j, none⟩ = false
  done : ∀ i r, i < k → r < size → x.cell? ⟨g, i * size + r, none⟩ = (cells i)[r]?
  part : ∀ r, r < m → x.cell? ⟨g, k * size + r, none⟩ = (cells k)[r]?
theorem RowMid.put {g n size k : Nat} {cells : Nat → List Value} {x : World} (h : RowMid g n size cells k x) : PutMid g n size cells k 0 x := ⟨h.lt, h.there, h.free, h.done, fun r hr => by omega⟩
theorem PutMid.set {g n size k m : Nat} {cells : Nat → List Value} {x : World} (h : PutMid g n size cells k m x) (hk : k < n) (hm : m < size) {v : Value} (hv : (cells k)[m]? = some v) {o : Nat} (ho : o = k * size + m) : PutMid g n size cells k (m + 1) (x.setCell ⟨g, o, none⟩ v) := by
  subst ho
  have hin : k * size + m < n * size := Nat.lt_of_lt_of_le (show k * size + m < (k + 1) * size by rw [Nat.succ_mul]; omega) (Nat.mul_le_mul_right _ hk)
  obtain ⟨u, hu⟩ := h.there _ hin
  refine ⟨by rw [size_setCell]; exact h.lt, fun j hj => ?_, fun j => by rw [frozen_set]; exact h.free j, fun i r hi hr => ?_, fun r hr => ?_⟩
  · by_cases e : k * size + m = j
    · subst e; exact ⟨v, cell_set_same hu⟩
    · rw [cell_set_other (.inr e)]; exact h.there j hj
  · have : i * size + r ≠ k * size + m := by
      have : (i + 1) * size ≤ k * size := Nat.mul_le_mul_right _ hi
      rw [Nat.succ_mul] at this
      omega
    rw [cell_set_other (.inr (fun e => this e.symm))]
    exact h.done i r hi hr
  · by_cases e : r = m
    · subst e; rw [cell_set_same hu, hv]
    · rw [cell_set_other (.inr (by omega))]
      exact h.part r (by omega)
theorem PutMid.whole {g n size k : Nat} {cells : Nat → List Value} {x : World} (h : PutMid g n size cells k size x) : RowMid g n size cells (k + 1) x :=
  ⟨h.lt, h.there, h.free, fun i r hi hr => by
    rcases Nat.lt_or_ge i k with h1 | h1
    · exact h.done i r h1 hr
    · obtain rfl : i = k := by omega
      exact h.part r hr⟩
/-- a row of the call's own that was written whole -/
theorem own_of_mid {A : Type} {sz : Nat} {f : A → List Value} (hf : ∀ x, (f x).length = sz) {g cap : Nat} {l : List A} {x : World} (h : RowMid g l.length sz (fun i => (l[i]?).elim [] f) l.length x) (hc : l.length ≤ cap) : OwnRow sz f x g (some ⟨g, 0, none⟩) cap l :=
  ⟨fun i hi => ⟨g, 0, rfl, h.lt, fun r v hv => by
    have hr : r < sz := by rw [← hf l[i]]; exact (List.getElem?_eq_some_iff.1 hv).1
    have := h.done i r hi hr
    rw [Nat.zero_add, this, List.getElem?_eq_getElem hi]
    exact hv⟩, fun _ => ⟨rfl, h.free⟩, hc⟩
/-- an own row, none of its elements written anew yet -/
theorem mid_of_own {A : Type} {sz : Nat} {f : A → List Value} (hf : ∀ x, (f x).length = sz) (h0 : 0 < sz) {g cap : Nat} {a : Option Addr} {l : List A} {x : World} {cells : Nat → List Value} (h : OwnRow sz f x g a cap l) (hl : 0 < l.length) : RowMid g l.length sz cells 0 x :=
  ⟨h.lt hl, fun j hj => by
    have hi : j / sz < l.length := (Nat.div_lt_iff_lt_mul h0).2 hj
    have hr : j % sz < sz := Nat.mod_lt _ h0
    obtain ⟨b, off, e, _, hc⟩ := h.rows (j / sz) hi
    rw [(h.own hl).1] at e
    simp only [Option.some.injEq, Addr.mk.injEq, and_true] at e
    obtain ⟨rfl, rfl⟩ := e
    have hr' : j % sz < (f l[j / sz]).length := by rw [hf]; exact hr
    have := hc (j % sz) _ (List.getElem?_eq_getElem hr')
    have hd : j / sz * sz + j % sz = j := by rw [Nat.mul_comm]; exact Nat.div_add_mod j sz
    rw [Nat.zero_add, hd] at this
    exact ⟨_, this⟩, (h.own hl).2, fun i r hi => by omega⟩
theorem off_ne {sz i k r r' : Nat} (hr : r < sz) (hr' : r' < sz) (h : ¬ (k = i ∧ r' = r)) : i * sz + r ≠ k * sz + r' := by
  intro e
  rcases Nat.lt_trichotomy k i with h1 | h1 | h1
  · have := Nat.mul_le_mul_right sz (show k + 1 ≤ i from h1)
    rw [Nat.succ_mul] at this; omega
  · subst h1; exact h ⟨rfl, by omega⟩
  · have := Nat.mul_le_mul_right sz (show i + 1 ≤ k from h1)
    rw [Nat.succ_mul] at this; omega
/-- one cell of an own row is written -/
theorem OwnRow.set {A : Type} {sz : Nat} {f : A → List Value} (hf : ∀ x, (f x).length = sz) {w : World} {g : Nat} {a : Option Addr} {cap : Nat} {l l' : List A} {i r : Nat} {u : Value} (h : OwnRow sz f w g a cap l) (hi : i < l.length) (hr : r < sz) (hlen : l'.length = l.length)
    (hc : ∀ k (hk : k < l'.length) (hk' : k < l.length) r' v, (f l'[k])[r']? = some v → (k = i ∧ r' = r ∧ v = u) ∨ (¬ (k = i ∧ r' = r) ∧ (f l[k])[r']? = some v)) : OwnRow sz f (w.setCell ⟨g, i * sz + r, none⟩ u) g a cap l' := by
  obtain ⟨ea, hfz⟩ := h.own (by omega)
  refine ⟨fun k hk => ?_, fun h0 => ⟨ea, fun j => by rw [frozen_set]; exact hfz j⟩, by rw [hlen]; exact h.room⟩
  have hk' : k < l.length := by omega
  obtain ⟨b, off, e, hb, hcell⟩ := h.rows k hk'
  have e' := e
  rw [ea] at e'
  simp only [Option.some.injEq, Addr.mk.injEq, and_true] at e'
  obtain ⟨rfl, rfl⟩ := e'
  refine ⟨g, 0, e, by rw [size_setCell]; exact hb, fun r' v hv => ?_⟩
  rw [Nat.zero_add]
  have hr' : r' < sz := by rw [← hf l'[k]]; exact (List.getElem?_eq_some_iff.1 hv).1
  rcases hc k hk hk' r' v hv with ⟨rfl, rfl, rfl⟩ | ⟨hne, ho⟩
  · obtain ⟨b2, off2, e2, _, hcell2⟩ := h.rows k hi
    rw [ea] at e2
    simp only [Option.some.injEq, Addr.mk.injEq, and_true] at e2
    obtain ⟨rfl, rfl⟩ := e2
    have hin : r' < (f l[k]).length := by rw [hf]; exact hr
    have := hcell2 r' _ (List.getElem?_eq_getElem hin)
    rw [Nat.zero_add] at this
    exact cell_set_same this
  · rw [cell_set_other (.inr (off_ne hr hr' hne))]
    have := hcell r' v ho
    rwa [Nat.zero_add] at this
/-- a new row of the call's own, that reads as the list -/
def NewRow {A : Type} (sz : Nat) (f : A → List Value) (l : List A) (w : World) (v : Value) (w' : World) : Prop := ∃ g a cap, w.heap.size ≤ g ∧ v = .slice a l.length cap ∧ OwnRow sz f w' g a cap l
theorem NewRow.below {A : Type} {sz : Nat} {f : A → List Value} {l : List A} {w x y : World} {v : Value} (h : NewRow sz f l w v x) (b : Below x.heap.size x y) : NewRow sz f l w v y := by
  obtain ⟨g, a, cap, hg, e, ho⟩ := h
  exact ⟨g, a, cap, hg, e, ho.below b⟩
theorem cell_new3 {w w1 : World} {v0 v1 v2 : Value} {T : TypeId} (h : Below (w.alloc (.cells #[v0, v1, v2] T)).heap.size (w.alloc (.cells #[v0, v1, v2] T)) w1) : w1.cell? ⟨w.heap.size, 0, none⟩ = some v0 ∧ w1.cell? ⟨w.heap.size, 1, none⟩ = some v1 ∧ w1.cell? ⟨w.heap.size, 2, none⟩ = some v2 := by
  have h1 : w.heap.size < (w.alloc (.cells #[v0, v1, v2] T)).heap.size := by simp
  exact ⟨(h.cell h1).trans (World.cell?_alloc_at _ _ _ _ rfl), (h.cell h1).trans (World.cell?_alloc_at _ _ _ _ rfl), (h.cell h1).trans (World.cell?_alloc_at _ _ _ _ rfl)⟩
theorem later_cell {W : World} {p : Addr} {v : Value} (h : W.cell? p = some v) : ∀ y : Later W, y.w.cell? p = some v := fun y => (y.below.cell (cell_lt h)).trans h
theorem box_on {w a b : World} {o : Obj} (h : Below (w.heap.size + 1) (w.alloc o) a) (k : Below a.heap.size a b) : Below (w.heap.size + 1) (w.alloc o) b :=
  h.trans (k.mono (by have := h.size; simpa using this))
theorem box_old {w wr : World} {o : Obj} (h : Below (w.heap.size + 1) (w.alloc o) wr) : Below w.heap.size w wr :=
  (below_alloc (Below.refl _ _) o).trans (h.mono (by omega))
theorem box_lt {w wr : World} {o : Obj} (h : Below (w.heap.size + 1) (w.alloc o) wr) : w.heap.size + 1 ≤ wr.heap.size := by have := h.size; simpa using this
theorem box3 {w x : World} {v0 v1 v2 : Value} {T : TypeId} (h : Below (w.heap.size + 1) (w.alloc (.cells #[v0, v1, v2] T)) x) : x.cell? ⟨w.heap.size, 0, none⟩ = some v0 ∧ x.cell? ⟨w.heap.size, 1, none⟩ = some v1 ∧ x.cell? ⟨w.heap.size, 2, none⟩ = some v2 :=
  cell_new3 (by simpa using h)
def S3 (B : Nat) (p0 p1 p2 : Value) (W0 x : World) : Prop := x.cell? ⟨B, 0, none⟩ = some p0 ∧ x.cell? ⟨B, 1, none⟩ = some p1 ∧ x.cell? ⟨B, 2, none⟩ = some p2 ∧ Hid (Below W0.heap.size W0 x)
theorem S3.of {B : Nat} {p0 p1 p2 : Value} {W0 x : World} (h : W0.cell? ⟨B, 0, none⟩ = some p0 ∧ W0.cell? ⟨B, 1, none⟩ = some p1 ∧ W0.cell? ⟨B, 2, none⟩ = some p2) (b : Below W0.heap.size W0 x) : S3 B p0 p1 p2 W0 x :=
  ⟨below_keeps b _ _ h.1, below_keeps b _ _ h.2.1, below_keeps b _ _ h.2.2, hide b⟩
theorem S3.on {B : Nat} {p0 p1 p2 : Value} {W0 x y : World} (h : S3 B p0 p1 p2 W0 x) (b : Below x.heap.size x y) : S3 B p0 p1 p2 W0 y :=
  ⟨below_keeps b _ _ h.1, below_keeps b _ _ h.2.1, below_keeps b _ _ h.2.2.1, hide (below_trans h.2.2.2.out b)⟩
end Go.Proofs.Ytiilkkdbifhojaa
