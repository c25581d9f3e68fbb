/- The small helpers: within, l1In; worlds in which nothing has turned. -/
import Derived.Test.YtiilkkdbifhojaaGreatRows
import Derived.WalkKit
import Derived.ProofKit
import Derived.OpenShut
import Derived.ShutString
import Derived.WalkSpells
import Derived.WalkLawsBesides
import Derived.Below
import Derived.Deep.QuietTactic
import Derived.BigQuiet
import Derived.BigRegion
import Derived.Deep.RegionWith
import Derived.Maps.AppendAt
import Derived.OwnWalk
import Derived.Orders
import Derived.Deep.AppendLies
import Derived.Laws.OwnMore
import Derived.Lib.Strings
import Derived.Deep.RegionHeld
namespace Go.Proofs.YtiilkkdbifhojaaGreat
open Go.ChangeShapes Go.WideShapes Go.ChangeAt Go.RowKit
set_option linter.unusedVariables false
theorem hide {p : Prop} (h : p) : Hid p := h
/-- an int64 -/
def I64 (n : Int) : Prop := -9223372036854775808 ≤ n ∧ n ≤ 9223372036854775807
theorem below_alloc {w w' : World} (h : Below w.heap.size w w') (o : Obj) : Below w.heap.size w (w'.alloc o) := h.alloc h.size o
theorem below_trans {a b c : World} (h : Below a.heap.size a b) (k : Below b.heap.size b c) : Below a.heap.size a c := h.trans (k.mono h.size)
theorem below_drewN {a w : World} {B : Nat} (h : Below B a w) : ∀ q, Below B a (w.drewN q)
  | 0 => h
  | q + 1 => (below_drewN h q).drew
def inB (lo hi n : Int) : Bool := decide (lo ≤ n ∧ n ≤ hi)
theorem within_any (n lo hi : Int) (w : World) :
    Calls Tryz.prog 45 #[.int .i64 n, .int .i64 lo, .int .i64 hi] w fun e w' => e = .returned (.bool (inB lo hi n)) ∧ w' = w := by
  by_cases h1 : lo ≤ n
  · by_cases h2 : n ≤ hi
    · have HR : Hid (inB lo hi n = true) := hide (by simp [inB, h1, h2])
      go_enter Tryz.func45, Tryz.ntmps45
      go_wp2
      go_ret
      exact ⟨by rw [HR.out]; rfl, rfl⟩
    · have HR : Hid (inB lo hi n = false) := hide (by simp [inB, h1, h2])
      go_enter Tryz.func45, Tryz.ntmps45
      go_wp2
      go_ret
      exact ⟨by rw [HR.out]; rfl, rfl⟩
  · have HR : Hid (inB lo hi n = false) := hide (by simp [inB, h1])
    go_enter Tryz.func45, Tryz.ntmps45
    go_wp2
    go_ret
    exact ⟨by rw [HR.out]; rfl, rfl⟩
theorem l1In_any (n lo hi : Int) (w : World) :
    Calls Tryz.prog 55 #[.int .i64 n, .int .i64 lo, .int .i64 hi] w fun e w' => e = .returned (.bool (inB lo hi n)) ∧ w' = w := by
  by_cases h1 : lo ≤ n
  · by_cases h2 : n ≤ hi
    · have HR : Hid (inB lo hi n = true) := hide (by simp [inB, h1, h2])
      go_enter Tryz.func55, Tryz.ntmps55
      go_wp2
      go_ret
      exact ⟨by rw [HR.out]; rfl, rfl⟩
    · have HR : Hid (inB lo hi n = false) := hide (by simp [inB, h1, h2])
      go_enter Tryz.func55, Tryz.ntmps55
      go_wp2
      go_ret
      exact ⟨by rw [HR.out]; rfl, rfl⟩
  · have HR : Hid (inB lo hi n = false) := hide (by simp [inB, h1])
    go_enter Tryz.func55, Tryz.ntmps55
    go_wp2
    go_ret
    exact ⟨by rw [HR.out]; rfl, rfl⟩
/-- a world in which of what W has nothing has turned -/
structure Later (W : World) where
  w : World
  below : Below W.heap.size W w
theorem later_there (W : World) : Nonempty (Later W) := ⟨⟨W, Below.refl _ _⟩⟩
theorem wp_region_later {P : Program} {id : Nat} {Q : Exit → Act → World → Prop} {a : Act} {w : World} {l : List Oper} (W : World) (hm : P.follows .mixedOrders = true) (hB : Region.lexB .any l.toArray = true) (h0 : Below W.heap.size W w.drew)
    (h : wpQuiet P l.toArray (fun w' => ∃ x : Later W, w' = x.w) (fun a' => ∀ w', (∃ x : Later W, w' = x.w) → Q .normal a' w') l a) : (Code.region id l.toArray true).wp P Q a w :=
  wp_region_quiet (C := fun w' => ∃ x : Later W, w' = x.w) hm hB ⟨⟨_, h0⟩, rfl⟩ h
theorem later_same {P : Program} {f : FuncId} {args : Array Value} {W : World} {x : Later W} {v : Value}
    (h : Calls P f args x.w fun e w' => e = .returned v ∧ w' = x.w) : Calls P f args x.w fun e w'' => e = .returned v ∧ ∃ y : Later W, w'' = y.w :=
  h.mono fun _ _ ⟨he, hm⟩ => ⟨he, x, hm⟩
theorem later_of {P : Program} {f : FuncId} {args : Array Value} {W : World} {x : Later W} {v : Value}
    (h : Calls P f args x.w fun e w' => e = .returned v ∧ Below x.w.heap.size x.w w') : Calls P f args x.w fun e w'' => e = .returned v ∧ ∃ y : Later W, w'' = y.w :=
  h.mono fun _ w' ⟨he, hm⟩ => ⟨he, ⟨w', below_trans x.below hm⟩, rfl⟩
theorem later_new3 {wr : World} {v0 v1 v2 : Value} {T : TypeId} :
    (∀ x : Later (wr.alloc (.cells #[v0, v1, v2] T)), x.w.cell? ⟨wr.heap.size, 0, none⟩ = some v0) ∧ (∀ x : Later (wr.alloc (.cells #[v0, v1, v2] T)), x.w.cell? ⟨wr.heap.size, 1, none⟩ = some v1) ∧ (∀ x : Later (wr.alloc (.cells #[v0, v1, v2] T)), x.w.cell? ⟨wr.heap.size, 2, none⟩ = some v2) := by
  have h1 : wr.heap.size < (wr.alloc (.cells #[v0, v1, v2] T)).heap.size := by simp
  exact ⟨fun x => (x.below.cell h1).trans (World.cell?_alloc_at _ _ _ _ rfl), fun x => (x.below.cell h1).trans (World.cell?_alloc_at _ _ _ _ rfl), fun x => (x.below.cell h1).trans (World.cell?_alloc_at _ _ _ _ rfl)⟩
theorem later_old {wr : World} {o : Obj} {b f : Nat} {v : Value} (hb : b < wr.heap.size) (h : wr.cell? ⟨b, f, none⟩ = some v) : ∀ x : Later (wr.alloc o), x.w.cell? ⟨b, f, none⟩ = some v :=
  fun x => (x.below.cell (by simp; omega)).trans ((World.cell?_alloc_past _ _ _ hb).trans h)
def Shut2 (p : Prop) : Prop := p
theorem Shut2.mk {p : Prop} (h : Shut2 p) : p := h
theorem Shut2.mk' {p : Prop} (h : p) : Shut2 p := h
theorem take_next {A : Type} (l : List A) (k : Nat) (h : k < l.length) : l.take (k + 1) = l.take k ++ [l[k]] := List.take_succ_eq_append_getElem h
end Go.Proofs.YtiilkkdbifhojaaGreat
/- Lists of structs as they lie in memory, rows of a call's own, and a world in which one block alone has turned. -/
namespace Go.Proofs.YtiilkkdbifhojaaGreat
open Go.ChangeShapes Go.WideShapes Go.ChangeAt Go.RowKit
set_option linter.unusedVariables false
theorem cell_lt {w : World} {a : Addr} {v : Value} (h : w.cell? a = some v) : a.block < w.heap.size := by
  rcases Nat.lt_or_ge a.block w.heap.size with h' | h'
  · exact h'
  · exfalso
    unfold World.cell? at h
    simp [Array.getElem?_eq_none h'] at h
theorem below_keeps {w w' : World} (b : Below w.heap.size w w') : ∀ a v, w.cell? a = some v → w'.cell? a = some v := fun a v h => (b.cell (cell_lt h)).trans h
theorem flat_len {A B : Type} (f : A → List B) (n : Nat) (hf : ∀ x, (f x).length = n) (l : List A) : (l.flatMap f).length = l.length * n := by
  induction l with
  | nil => simp
  | cons x xs ih => simp only [List.flatMap_cons, List.length_append, ih, hf, List.length_cons, Nat.succ_mul]; omega
theorem flat_get {A B : Type} (f : A → List B) (n : Nat) (hf : ∀ x, (f x).length = n) (l : List A) : ∀ (i : Nat) (h : i < l.length) (r : Nat), r < n → (l.flatMap f)[i * n + r]? = (f l[i])[r]? := by
  induction l with
  | nil => intro i h; simp at h
  | cons x xs ih =>
    intro i h r hr
    rw [List.flatMap_cons]
    cases i with
    | zero => rw [List.getElem?_append_left (by rw [hf]; omega)]; simp
    | succ i =>
      rw [List.getElem?_append_right (by rw [hf, Nat.succ_mul]; omega), hf, show (i + 1) * n + r - n = i * n + r by rw [Nat.succ_mul]; omega]
      rw [ih i (by simpa using h) r hr]
      simp
theorem addr_add (b off j : Nat) : (⟨b, off, none⟩ : Addr).add j = ⟨b, off + j, none⟩ := by
  simp only [Addr.add]
  split
  · rename_i h; subst h; rfl
  · rfl
/-- a list as it lies in memory, sz cells an element -/
def RowAt {A : Type} (sz : Nat) (f : A → List Value) (w : World) (a : Option Addr) (l : List A) : Prop :=
  ∀ i (h : i < l.length), ∃ b off, a = some ⟨b, off, none⟩ ∧ b < w.heap.size ∧ ∀ r v, (f l[i])[r]? = some v → w.cell? ⟨b, off + i * sz + r, none⟩ = some v
theorem RowAt.below {A : Type} {sz : Nat} {f : A → List Value} {w w' : World} {a : Option Addr} {l : List A} (h : RowAt sz f w a l) (k : Below w.heap.size w w') : RowAt sz f w' a l := fun i hi => by
  obtain ⟨b, off, e, hb, hc⟩ := h i hi
  have := k.size
  exact ⟨b, off, e, by omega, fun r v hv => (k.cell (by exact hb)).trans (hc r v hv)⟩
/-- below B: the row lies there -/
theorem RowAt.belowB {A : Type} {sz : Nat} {f : A → List Value} {w w1 w' : World} {a : Option Addr} {l : List A} (h : RowAt sz f w a l) (k : Below w.heap.size w w1) (k' : Below w.heap.size w1 w') : RowAt sz f w' a l := h.below (k.trans k')
theorem RowAt.nil {A : Type} {sz : Nat} {f : A → List Value} {w : World} {a : Option Addr} : RowAt sz f w a ([] : List A) := fun i hi => by simp at hi
theorem RowAt.news {A : Type} {sz : Nat} {f : A → List Value} (hf : ∀ x, (f x).length = sz) (h0 : 0 < sz) {w : World} {b off : Nat} {l : List A} (h : RowAt sz f w (some ⟨b, off, none⟩) l) : ∀ j u, (l.flatMap f)[j]? = some u → w.cell? ((⟨b, off, none⟩ : Addr).add j) = some u := by
  intro j u hj
  have hlen := flat_len f sz hf l
  have hj' : j < (l.flatMap f).length := (List.getElem?_eq_some_iff.1 hj).1
  rw [hlen] at hj'
  have hi : j / sz < l.length := (Nat.div_lt_iff_lt_mul h0).2 hj'
  have hr : j % sz < sz := Nat.mod_lt _ h0
  have hg := flat_get f sz hf l (j / sz) hi (j % sz) hr
  have hd : j / sz * sz + j % sz = j := by rw [Nat.mul_comm]; exact Nat.div_add_mod j sz
  rw [hd, hj] at hg
  obtain ⟨b', off', e, _, hc⟩ := h (j / sz) hi
  simp only [Option.some.injEq, Addr.mk.injEq, and_true] at e
  obtain ⟨rfl, rfl⟩ := e
  rw [addr_add]
  have := hc (j % sz) u hg.symm
  rwa [Nat.add_assoc, hd] at this
theorem frozen_of_block {w : World} {g : Nat} {cur : Array Value} {e : TypeId} (h : w.heap[g]? = some (.cells cur e (0, 0))) (j : Nat) : w.frozen? ⟨g, j, none⟩ = false := by
  simp [World.frozen?, h]
/-- a row of a call's own: it begins its block, and may be written -/
structure OwnRow {A : Type} (sz : Nat) (f : A → List Value) (w : World) (g : Nat) (a : Option Addr) (cap : Nat) (l : List A) : Prop where
  rows : RowAt sz f w a l
  own : 0 < l.length → a = some ⟨g, 0, none⟩ ∧ ∀ j, w.frozen? ⟨g, j, none⟩ = false
  room : l.length ≤ cap
theorem OwnRow.lt {A : Type} {sz : Nat} {f : A → List Value} {w : World} {g : Nat} {a : Option Addr} {cap : Nat} {l : List A} (h : OwnRow sz f w g a cap l) (h0 : 0 < l.length) : g < w.heap.size := by
  obtain ⟨b, off, e, hb, _⟩ := h.rows 0 h0
  rw [(h.own h0).1] at e
  simp only [Option.some.injEq, Addr.mk.injEq, and_true] at e
  omega
theorem OwnRow.below {A : Type} {sz : Nat} {f : A → List Value} {w w' : World} {g : Nat} {a : Option Addr} {cap : Nat} {l : List A} (h : OwnRow sz f w g a cap l) (k : Below w.heap.size w w') : OwnRow sz f w' g a cap l :=
  ⟨h.rows.below k, fun h0 => ⟨(h.own h0).1, fun j => (k.frozen (by exact h.lt h0)).trans ((h.own h0).2 j)⟩, h.room⟩
theorem OwnRow.nil {A : Type} {sz : Nat} {f : A → List Value} {w : World} {g : Nat} {a : Option Addr} {cap : Nat} : OwnRow sz f w g a cap ([] : List A) := ⟨RowAt.nil, fun h => by simp at h, by simp⟩
/-- what append leaves is such a row -/
theorem own_of_row {A : Type} {sz : Nat} {f : A → List Value} (hf : ∀ x, (f x).length = sz) {w : World} {base : Nat} {e : TypeId} {v : Value} {l : List A} (h : w.ownsRow base e sz v l.length (l.flatMap f)) : ∃ g a cap, base ≤ g ∧ v = .slice a l.length cap ∧ OwnRow sz f w g a cap l := by
  obtain ⟨hl, ⟨h0, h1⟩ | ⟨g, cap, cur, h1, hb, hg, hn, hc, hz, ht⟩⟩ := h
  · have hl0 : l.length = 0 := h1
    have : l = [] := List.eq_nil_of_length_eq_zero hl0
    subst this
    exact ⟨base, none, 0, Nat.le_refl _, h0, OwnRow.nil⟩
  · refine ⟨g, some ⟨g, 0, none⟩, cap, hb, h1, ⟨fun i hi => ⟨g, 0, rfl, (Array.getElem?_eq_some_iff.1 hg).1, fun r u hu => ?_⟩, fun _ => ⟨rfl, frozen_of_block hg⟩, hn⟩⟩
    have hr : r < sz := by rw [← hf l[i]]; exact (List.getElem?_eq_some_iff.1 hu).1
    have h2 := flat_get f sz hf l i hi r hr
    rw [hu] at h2
    have hlt : i * sz + r < (l.flatMap f).length := (List.getElem?_eq_some_iff.1 h2).1
    have h3 : (cur.toList.take (l.length * sz))[i * sz + r]? = some u := by rw [ht]; exact h2
    have h4 : cur.toList[i * sz + r]? = some u := by
      rw [List.getElem?_take] at h3
      split at h3
      · exact h3
      · cases h3
    simp only [World.cell?, hg, Nat.zero_add]
    simpa using h4
theorem below_grown {w w' : World} {row : Option Nat} (h : w.grownBy w' row) {w0 : World} (k : Below w0.heap.size w0 w) (hr : ∀ j, row = some j → w0.heap.size ≤ j) : Below w0.heap.size w0 w' := k.grown h k.size hr
/-- one block alone has turned -/
structure Turned (g : Nat) (w w' : World) : Prop where
  os : w'.os = w.os
  tape : w'.tape = w.tape
  output : w'.output = w.output
  size : w'.heap.size = w.heap.size
  block : ∀ k, k ≠ g → w'.heap[k]? = w.heap[k]?
theorem Turned.refl (g : Nat) (w : World) : Turned g w w := ⟨rfl, rfl, rfl, rfl, fun _ _ => rfl⟩
theorem Turned.setCell {g : Nat} {w x : World} (h : Turned g w x) {o : Nat} (v : Value) : Turned g w (x.setCell ⟨g, o, none⟩ v) :=
  ⟨h.os, h.tape, h.output, by rw [← h.size]; simp [World.setCell], fun k hk => (Below.heap_setCell _ _ _ _ hk).trans (h.block k hk)⟩
theorem Turned.below {g : Nat} {w x : World} (h : Turned g w x) {B : Nat} (hB : B ≤ g) : Below B w x := ⟨h.os, h.tape, h.output, by rw [h.size]; exact Nat.le_refl _, fun k hk => h.block k (by omega)⟩
theorem Turned.cell {g : Nat} {w x : World} (h : Turned g w x) {p : Addr} (hp : p.block ≠ g) : x.cell? p = w.cell? p := World.cell?_of_block (h.block _ hp)
theorem Turned.frozen {g : Nat} {w x : World} (h : Turned g w x) {p : Addr} (hp : p.block ≠ g) : x.frozen? p = w.frozen? p := World.frozen?_of_block (h.block _ hp)
theorem RowAt.turned {A : Type} {sz : Nat} {f : A → List Value} {w w' : World} {a : Option Addr} {l : List A} {g : Nat} (h : RowAt sz f w a l) (k : Turned g w w') (hne : ∀ b off, 0 < l.length → a = some ⟨b, off, none⟩ → b ≠ g) : RowAt sz f w' a l := fun i hi => by
  obtain ⟨b, off, e, hb, hc⟩ := h i hi
  exact ⟨b, off, e, by rw [k.size]; exact hb, fun r v hv => (k.cell (hne b off (by omega) e)).trans (hc r v hv)⟩
theorem OwnRow.turned {A : Type} {sz : Nat} {f : A → List Value} {w w' : World} {g g' : Nat} {a : Option Addr} {cap : Nat} {l : List A} (h : OwnRow sz f w g a cap l) (k : Turned g' w w') (hne : 0 < l.length → g ≠ g') : OwnRow sz f w' g a cap l :=
  ⟨h.rows.turned k (fun b off h0 e => by
    rw [(h.own h0).1] at e
    simp only [Option.some.injEq, Addr.mk.injEq, and_true] at e
    rw [← e.1]; exact hne h0), fun h0 => ⟨(h.own h0).1, fun j => (k.frozen (hne h0)).trans ((h.own h0).2 j)⟩, h.room⟩
/-- a row of the call's own: k of its elements have been written -/
structure RowMid (g n size : Nat) (cells : Nat → List Value) (k : Nat) (x : World) : Prop where
  lt : g < x.heap.size
  there : ∀ j, j < n * size → ∃ v, x.cell? ⟨g, j, none⟩ = some v
  free : ∀ j, x.frozen? ⟨g, j, none⟩ = false
  done : ∀ i r, i < k → r < size → x.cell? ⟨g, i * size + r, none⟩ = (cells i)[r]?
theorem RowMid.below {g n size k : Nat} {cells : Nat → List Value} {x y : World} (h : RowMid g n size cells k x) (b : Below x.heap.size x y) : RowMid g n size cells k y :=
  ⟨Nat.lt_of_lt_of_le h.lt b.size, fun j hj => by obtain ⟨v, hv⟩ := h.there j hj; exact ⟨v, (b.cell h.lt).trans hv⟩, fun j => (b.frozen h.lt).trans (h.free j), fun i r hi hr => (b.cell h.lt).trans (h.done i r hi hr)⟩
theorem rowMid_made {w x : World} {e : TypeId} {n size : Nat} {xs : List Value} {cells : Nat → List Value} (h : x.ownsRow w.heap.size e size (.slice (some ⟨w.heap.size, 0, none⟩) n n) n xs) : RowMid w.heap.size n size cells 0 x := by
  obtain ⟨hl, ⟨h0, _⟩ | ⟨g, cap, cur, h1, hb, hg, hn, hc, hz, ht⟩⟩ := h
  · cases h0
  · simp only [Value.slice.injEq, Option.some.injEq, Addr.mk.injEq, and_true, true_and] at h1
    obtain ⟨rfl, rfl⟩ := h1
    refine ⟨(Array.getElem?_eq_some_iff.1 hg).1, fun j hj => ?_, frozen_of_block hg, fun i r hi => by omega⟩
    have hj' : j < cur.size := by rw [hz]; exact hj
    exact ⟨cur[j], by simp [World.cell?, hg, Array.getElem?_eq_getElem hj']⟩
theorem frozen_set (w : World) (p a : Addr) (v : Value) : (w.setCell p v).frozen? a = w.frozen? a := World.frozen?_setCell _ _ _ _
theorem size_setCell (w : World) (p : Addr) (v : Value) : (w.setCell p v).heap.size = w.heap.size := by simp
theorem cell_set_other {w : World} {b o b' o' : Nat} {v : Value} (h : b ≠ b' ∨ o ≠ o') : (w.setCell ⟨b, o, none⟩ v).cell? ⟨b', o', none⟩ = w.cell? ⟨b', o', none⟩ :=
  World.cell?_setCell_other w _ _ v (fun e => by simp only [Addr.mk.injEq, and_true] at e; rcases h with h | h <;> omega)
theorem cell_set_same {w : World} {b o : Nat} {u v : Value} (h : w.cell? ⟨b, o, none⟩ = some u) : (w.setCell ⟨b, o, none⟩ v).cell? ⟨b, o, none⟩ = some v := World.cell?_setCell_same w _ v h
/-- one cell of the element that is written -/
structure PutMid (g n size : Nat) (cells : Nat → List Value) (k m : Nat) (x : World) : Prop where
  lt : g < x.heap.size
  there : ∀ j, j < n * size → ∃ v, x.cell? ⟨g, j, none⟩ = some v
  free : ∀ j, x.frozen? ⟨g, j, none⟩ = false
  done : ∀ i r, i < k → r < size → x.cell? ⟨g, i * size + r, none⟩ = (cells i)[r]?
  part : ∀ r, r < m → x.cell? ⟨g, k * size + r, none⟩ = (cells k)[r]?
theorem RowMid.put {g n size k : Nat} {cells : Nat → List Value} {x : World} (h : RowMid g n size cells k x) : PutMid g n size cells k 0 x := ⟨h.lt, h.there, h.free, h.done, fun r hr => by omega⟩
theorem PutMid.set {g n size k m : Nat} {cells : Nat → List Value} {x : World} (h : PutMid g n size cells k m x) (hk : k < n) (hm : m < size) {v : Value} (hv : (cells k)[m]? = some v) {o : Nat} (ho : o = k * size + m) : PutMid g n size cells k (m + 1) (x.setCell ⟨g, o, none⟩ v) := by
  subst ho
  have hin : k * size + m < n * size := Nat.lt_of_lt_of_le (show k * size + m < (k + 1) * size by rw [Nat.succ_mul]; omega) (Nat.mul_le_mul_right _ hk)
  obtain ⟨u, hu⟩ := h.there _ hin
  refine ⟨by rw [size_setCell]; exact h.lt, fun j hj => ?_, fun j => by rw [frozen_set]; exact h.free j, fun i r hi hr => ?_, fun r hr => ?_⟩
  · by_cases e : k * size + m = j
    · subst e; exact ⟨v, cell_set_same hu⟩
    · rw [cell_set_other (.inr e)]; exact h.there j hj
  · have : i * size + r ≠ k * size + m := by
      have : (i + 1) * size ≤ k * size := Nat.mul_le_mul_right _ hi
      rw [Nat.succ_mul] at this
      omega
    rw [cell_set_other (.inr (fun e => this e.symm))]
    exact h.done i r hi hr
  · by_cases e : r = m
    · subst e; rw [cell_set_same hu, hv]
    · rw [cell_set_other (.inr (by omega))]
      exact h.part r (by omega)
theorem PutMid.whole {g n size k : Nat} {cells : Nat → List Value} {x : World} (h : PutMid g n size cells k size x) : RowMid g n size cells (k + 1) x :=
  ⟨h.lt, h.there, h.free, fun i r hi hr => by
    rcases Nat.lt_or_ge i k with h1 | h1
    · exact h.done i r h1 hr
    · obtain rfl : i = k := by omega
      exact h.part r hr⟩
/-- a row of the call's own that was written whole -/
theorem own_of_mid {A : Type} {sz : Nat} {f : A → List Value} (hf : ∀ x, (f x).length = sz) {g cap : Nat} {l : List A} {x : World} (h : RowMid g l.length sz (fun i => (l[i]?).elim [] f) l.length x) (hc : l.length ≤ cap) : OwnRow sz f x g (some ⟨g, 0, none⟩) cap l :=
  ⟨fun i hi => ⟨g, 0, rfl, h.lt, fun r v hv => by
    have hr : r < sz := by rw [← hf l[i]]; exact (List.getElem?_eq_some_iff.1 hv).1
    have := h.done i r hi hr
    rw [Nat.zero_add, this, List.getElem?_eq_getElem hi]
    exact hv⟩, fun _ => ⟨rfl, h.free⟩, hc⟩
/-- an own row, none of its elements written anew yet -/
theorem mid_of_own {A : Type} {sz : Nat} {f : A → List Value} (hf : ∀ x, (f x).length = sz) (h0 : 0 < sz) {g cap : Nat} {a : Option Addr} {l : List A} {x : World} {cells : Nat → List Value} (h : OwnRow sz f x g a cap l) (hl : 0 < l.length) : RowMid g l.length sz cells 0 x :=
  ⟨h.lt hl, fun j hj => by
    have hi : j / sz < l.length := (Nat.div_lt_iff_lt_mul h0).2 hj
    have hr : j % sz < sz := Nat.mod_lt _ h0
    obtain ⟨b, off, e, _, hc⟩ := h.rows (j / sz) hi
    rw [(h.own hl).1] at e
    simp only [Option.some.injEq, Addr.mk.injEq, and_true] at e
    obtain ⟨rfl, rfl⟩ := e
    have hr' : j % sz < (f l[j / sz]).length := by rw [hf]; exact hr
    have := hc (j % sz) _ (List.getElem?_eq_getElem hr')
    have hd : j / sz * sz + j % sz = j := by rw [Nat.mul_comm]; exact Nat.div_add_mod j sz
    rw [Nat.zero_add, hd] at this
    exact ⟨_, this⟩, (h.own hl).2, fun i r hi => by omega⟩
theorem off_ne {sz i k r r' : Nat} (hr : r < sz) (hr' : r' < sz) (h : ¬ (k = i ∧ r' = r)) : i * sz + r ≠ k * sz + r' := by
  intro e
  rcases Nat.lt_trichotomy k i with h1 | h1 | h1
  · have := Nat.mul_le_mul_right sz (show k + 1 ≤ i from h1)
    rw [Nat.succ_mul] at this; omega
  · subst h1; exact h ⟨rfl, by omega⟩
  · have := Nat.mul_le_mul_right sz (show i + 1 ≤ k from h1)
    rw [Nat.succ_mul] at this; omega
/-- one cell of an own row is written -/
theorem OwnRow.set {A : Type} {sz : Nat} {f : A → List Value} (hf : ∀ x, (f x).length = sz) {w : World} {g : Nat} {a : Option Addr} {cap : Nat} {l l' : List A} {i r : Nat} {u : Value} (h : OwnRow sz f w g a cap l) (hi : i < l.length) (hr : r < sz) (hlen : l'.length = l.length)
    (hc : ∀ k (hk : k < l'.length) (hk' : k < l.length) r' v, (f l'[k])[r']? = some v → (k = i ∧ r' = r ∧ v = u) ∨ (¬ (k = i ∧ r' = r) ∧ (f l[k])[r']? = some v)) : OwnRow sz f (w.setCell ⟨g, i * sz + r, none⟩ u) g a cap l' := by
  obtain ⟨ea, hfz⟩ := h.own (by omega)
  refine ⟨fun k hk => ?_, fun h0 => ⟨ea, fun j => by rw [frozen_set]; exact hfz j⟩, by rw [hlen]; exact h.room⟩
  have hk' : k < l.length := by omega
  obtain ⟨b, off, e, hb, hcell⟩ := h.rows k hk'
  have e' := e
  rw [ea] at e'
  simp only [Option.some.injEq, Addr.mk.injEq, and_true] at e'
  obtain ⟨rfl, rfl⟩ := e'
  refine ⟨g, 0, e, by rw [size_setCell]; exact hb, fun r' v hv => ?_⟩
  rw [Nat.zero_add]
  have hr' : r' < sz := by rw [← hf l'[k]]; exact (List.getElem?_eq_some_iff.1 hv).1
  rcases hc k hk hk' r' v hv with ⟨rfl, rfl, rfl⟩ | ⟨hne, ho⟩
  · obtain ⟨b2, off2, e2, _, hcell2⟩ := h.rows k hi
    rw [ea] at e2
    simp only [Option.some.injEq, Addr.mk.injEq, and_true] at e2
    obtain ⟨rfl, rfl⟩ := e2
    have hin : r' < (f l[k]).length := by rw [hf]; exact hr
    have := hcell2 r' _ (List.getElem?_eq_getElem hin)
    rw [Nat.zero_add] at this
    exact cell_set_same this
  · rw [cell_set_other (.inr (off_ne hr hr' hne))]
    have := hcell r' v ho
    rwa [Nat.zero_add] at this
/-- a new row of the call's own, that reads as the list -/
def NewRow {A : Type} (sz : Nat) (f : A → List Value) (l : List A) (w : World) (v : Value) (w' : World) : Prop := ∃ g a cap, w.heap.size ≤ g ∧ v = .slice a l.length cap ∧ OwnRow sz f w' g a cap l
theorem NewRow.below {A : Type} {sz : Nat} {f : A → List Value} {l : List A} {w x y : World} {v : Value} (h : NewRow sz f l w v x) (b : Below x.heap.size x y) : NewRow sz f l w v y := by
  obtain ⟨g, a, cap, hg, e, ho⟩ := h
  exact ⟨g, a, cap, hg, e, ho.below b⟩
theorem cell_new3 {w w1 : World} {v0 v1 v2 : Value} {T : TypeId} (h : Below (w.alloc (.cells #[v0, v1, v2] T)).heap.size (w.alloc (.cells #[v0, v1, v2] T)) w1) : w1.cell? ⟨w.heap.size, 0, none⟩ = some v0 ∧ w1.cell? ⟨w.heap.size, 1, none⟩ = some v1 ∧ w1.cell? ⟨w.heap.size, 2, none⟩ = some v2 := by
  have h1 : w.heap.size < (w.alloc (.cells #[v0, v1, v2] T)).heap.size := by simp
  exact ⟨(h.cell h1).trans (World.cell?_alloc_at _ _ _ _ rfl), (h.cell h1).trans (World.cell?_alloc_at _ _ _ _ rfl), (h.cell h1).trans (World.cell?_alloc_at _ _ _ _ rfl)⟩
theorem later_cell {W : World} {p : Addr} {v : Value} (h : W.cell? p = some v) : ∀ y : Later W, y.w.cell? p = some v := fun y => (y.below.cell (cell_lt h)).trans h
theorem box_on {w a b : World} {o : Obj} (h : Below (w.heap.size + 1) (w.alloc o) a) (k : Below a.heap.size a b) : Below (w.heap.size + 1) (w.alloc o) b :=
  h.trans (k.mono (by have := h.size; simpa using this))
theorem box_old {w wr : World} {o : Obj} (h : Below (w.heap.size + 1) (w.alloc o) wr) : Below w.heap.size w wr :=
  (below_alloc (Below.refl _ _) o).trans (h.mono (by omega))
theorem box_lt {w wr : World} {o : Obj} (h : Below (w.heap.size + 1) (w.alloc o) wr) : w.heap.size + 1 ≤ wr.heap.size := by have := h.size; simpa using this
theorem box3 {w x : World} {v0 v1 v2 : Value} {T : TypeId} (h : Below (w.heap.size + 1) (w.alloc (.cells #[v0, v1, v2] T)) x) : x.cell? ⟨w.heap.size, 0, none⟩ = some v0 ∧ x.cell? ⟨w.heap.size, 1, none⟩ = some v1 ∧ x.cell? ⟨w.heap.size, 2, none⟩ = some v2 :=
  cell_new3 (by simpa using h)
def S3 (B : Nat) (p0 p1 p2 : Value) (W0 x : World) : Prop := x.cell? ⟨B, 0, none⟩ = some p0 ∧ x.cell? ⟨B, 1, none⟩ = some p1 ∧ x.cell? ⟨B, 2, none⟩ = some p2 ∧ Hid (Below W0.heap.size W0 x)
theorem S3.of {B : Nat} {p0 p1 p2 : Value} {W0 x : World} (h : W0.cell? ⟨B, 0, none⟩ = some p0 ∧ W0.cell? ⟨B, 1, none⟩ = some p1 ∧ W0.cell? ⟨B, 2, none⟩ = some p2) (b : Below W0.heap.size W0 x) : S3 B p0 p1 p2 W0 x :=
  ⟨below_keeps b _ _ h.1, below_keeps b _ _ h.2.1, below_keeps b _ _ h.2.2, hide b⟩
theorem S3.on {B : Nat} {p0 p1 p2 : Value} {W0 x y : World} (h : S3 B p0 p1 p2 W0 x) (b : Below x.heap.size x y) : S3 B p0 p1 p2 W0 y :=
  ⟨below_keeps b _ _ h.1, below_keeps b _ _ h.2.1, below_keeps b _ _ h.2.2.1, hide (below_trans h.2.2.2.out b)⟩
end Go.Proofs.YtiilkkdbifhojaaGreat
/- A region that draws its order, by what holds whatever of its operations have come up. -/
namespace Go.Proofs.YtiilkkdbifhojaaGreat
open Go.ChangeShapes Go.WideShapes Go.ChangeAt Go.RowKit
set_option linter.unusedVariables false
theorem count_zero_false {L : Array Bool} (h : L.toList.count false = 0) (j : Nat) : L.getD j true ≠ false := by
  intro hj
  have hm : false ∈ L.toList := by
    rcases Nat.lt_or_ge j L.size with hlt | hge
    · have : L[j] = false := by simpa [hlt] using hj
      rw [← this]; exact Array.getElem_mem_toList hlt
    · simp [Array.getElem?_eq_none hge] at hj
  exact absurd h (Nat.ne_of_gt (List.count_pos_iff.2 hm))
theorem count_set_false {L : Array Bool} {j : Nat} (hj : L.getD j true = false) : (L.setIfInBounds j true).toList.count false + 1 = L.toList.count false := by
  have hlt : j < L.size := by
    rcases Nat.lt_or_ge j L.size with hlt | hge
    · exact hlt
    · simp [Array.getElem?_eq_none hge] at hj
  have e : L[j] = false := by simpa [hlt] using hj
  have hm : false ∈ L.toList := by rw [← e]; exact Array.getElem_mem_toList hlt
  have hp := List.count_pos_iff.2 hm
  rw [Array.toList_setIfInBounds, List.count_set (by simpa using hlt)]
  have e' : L.toList[j]'(by simpa using hlt) = false := by simpa using e
  rw [e', if_pos (by decide), if_neg (by decide)]
  omega
/-- what holds whatever has come up, and is kept by each that may come up next -/
theorem wpAny_inv {P : Program} {ops : Array Oper} {Q : Exit → Act → World → Prop} {md : Region.Mode} (I : Array Bool → Act → World → Prop)
    (hst : ∀ L a w i, I L a w → i ∈ Region.ready md ops L → ∀ K : Act → World → Prop, (∀ a' w', I (L.setIfInBounds i true) a' w' → K a' w') → wpOp P ops Q i K a w)
    (hen : ∀ L a w, I L a w → Region.ready md ops L = [] → Q .normal a w) :
    ∀ fuel L a w, I L a w → L.toList.count false ≤ fuel → wpAny P md ops Q fuel L a w := by
  intro fuel
  induction fuel with
  | zero =>
    intro L a w h hc
    have hr : Region.ready md ops L = [] := by
      cases hr : Region.ready md ops L with
      | nil => rfl
      | cons j t =>
        have : j ∈ Region.ready md ops L := by rw [hr]; exact List.mem_cons_self
        exact absurd (mem_ready.1 this).1 (count_zero_false (by omega) j)
    exact ⟨hr, hen L a w h hr⟩
  | succ fuel ih =>
    intro L a w h hc
    refine ⟨fun hr => hen L a w h hr, fun i hi => hst L a w i h hi _ fun a' w' h' => ih _ a' w' h' ?_⟩
    have := count_set_false (mem_ready.1 hi).1
    omega
theorem wp_region_inv {P : Program} {ops : Array Oper} {Q : Exit → Act → World → Prop} {id : Nat} {a : Act} {w : World} (hm : P.follows .mixedOrders = true) (I : Array Bool → Act → World → Prop)
    (hst : ∀ L a w i, I L a w → i ∈ Region.ready .any ops L → ∀ K : Act → World → Prop, (∀ a' w', I (L.setIfInBounds i true) a' w' → K a' w') → wpOp P ops Q i K a w)
    (hen : ∀ L a w, I L a w → Region.ready .any ops L = [] → Q .normal a w) (h0 : I (Array.replicate ops.size false) a w.drew) : (Code.region id ops true).wp P Q a w :=
  wp_region_any hm (wpAny_inv I hst hen _ _ _ _ h0 (by
    have h := List.count_le_length (a := false) (l := (Array.replicate ops.size false).toList)
    rw [Array.length_toList, Array.size_replicate] at h
    exact h))
/-- one operation, run -/
theorem wpOp_run {P : Program} {ops : Array Oper} {Q : Exit → Act → World → Prop} {i : Nat} {o : Oper} {a : Act} {w : World} {K : Act → World → Prop} (hi : ops[i]? = some o) (hg : o.guard = none) {v : Value} {w' : World} (hr : (execOp a.eval o).run P w = .ok (.value v) w') (h : K (a.put o.dst v) w') : wpOp P ops Q i K a w := by
  unfold wpOp
  have hw : Region.wanted o (yielded ops a.tmps) = true := by simp [Region.wanted, hg]
  simp only [hi, hw, if_true]
  exact .inl (by unfold Oper.wp; rw [hr]; exact h)
theorem wpOp_skip {P : Program} {ops : Array Oper} {Q : Exit → Act → World → Prop} {i : Nat} {o : Oper} {a : Act} {w : World} {K : Act → World → Prop} (hi : ops[i]? = some o) (hg : o.guard = none) {w' : World} (hr : (execOp a.eval o).run P w = .ok .skip w') (h : K (a.put o.dst undef) w') : wpOp P ops Q i K a w := by
  unfold wpOp
  have hw : Region.wanted o (yielded ops a.tmps) = true := by simp [Region.wanted, hg]
  simp only [hi, hw, if_true]
  exact .inl (by unfold Oper.wp; rw [hr]; exact h)
end Go.Proofs.YtiilkkdbifhojaaGreat
/- Laws for a region by what holds whatever has come up: calls, appends, what is ready. -/
namespace Go.Proofs.YtiilkkdbifhojaaGreat
open Go.ChangeShapes Go.WideShapes Go.ChangeAt Go.RowKit
set_option linter.unusedVariables false
theorem ready_on {md : Region.Mode} {ops : Array Oper} {L : Array Bool} {i : Nat} (hi : i ∈ Region.ready md ops L) (k : Nat) (hk : ((ops[i]?).map fun o => o.after.any fun e => Region.binds md e && e.on == k) = some true) : L.getD k false = true := by
  obtain ⟨_, o, ho, hd⟩ := mem_ready.1 hi
  rw [ho] at hk
  simp only [Option.map_some, Option.some.injEq, Array.any_eq_true] at hk
  obtain ⟨j, hj, he⟩ := hk
  simp only [Bool.and_eq_true, beq_iff_eq] at he
  have := hd o.after[j] (Array.getElem_mem hj) he.1
  rwa [he.2] at this
theorem exec_append {P : Program} {w w' : World} {o : Oper} {ev : Operand → Value} {s x : Operand} {t : TypeId} {v u v' : Value} (hop : o.op = Op.call { callee := Callee.builtin Builtin.append, args := #[s, x], argTypes := #[t, t] }) (hs : ev s = v) (hx : ev x = u) (hr : (Builtin.append_ #[t, t] o.type #[v, u]).run P w = .ok v' w') : (execOp ev o).run P w = .ok (.value v') w' := by
  unfold execOp
  simp only [hop, resolve, invoke, builtin, Sem.run_bind, Sem.run_pure, Result.andThen_ok, List.map_toArray, List.map_cons, List.map_nil, hs, hx, hr]
theorem news2 {x : World} {g : Nat} {v0 v1 : Value} (c0 : x.cell? ⟨g, 0, none⟩ = some v0) (c1 : x.cell? ⟨g, 1, none⟩ = some v1) (j : Nat) (u : Value) (hj : [v0, v1][j]? = some u) : x.cell? ((⟨g, 0, none⟩ : Addr).add j) = some u := by
  rw [addr_add]
  match j, hj with
  | 0, hj => simp at hj; rw [← hj]; exact c0
  | 1, hj => simp at hj; rw [← hj]; exact c1
theorem ready_all {md : Region.Mode} {ops : Array Oper} {L : Array Bool} (h : Region.ready md ops L = []) (hs : L.size = ops.size) (ha : ∀ i (hi : i < ops.size), ∀ e ∈ ops[i].after, Region.binds md e = true → e.on < i) : ∀ i, i < ops.size → L.getD i false = true := by
  intro i
  induction i using Nat.strongRecOn with
  | ind i ih =>
    intro hi
    cases hL : L.getD i true with
    | false =>
      have : i ∈ Region.ready md ops L := mem_ready.2 ⟨hL, ops[i], by simp [hi], fun e he hb => ih _ (ha i hi e he hb) (Nat.lt_trans (ha i hi e he hb) hi)⟩
      rw [h] at this
      cases this
    | true =>
      have hi' : i < L.size := by omega
      simpa [hi'] using hL
theorem grown_set (w : World) (g j : Nat) (v : Value) : w.grownBy (w.setCell ⟨g, j, none⟩ v) (some g) := ⟨rfl, rfl, rfl, by simp [World.setCell], fun k hk hne => Below.heap_setCell _ _ _ _ (fun e => hne (by rw [e]))⟩
theorem own_ne {w : World} {base : Nat} {e : TypeId} {size : Nat} {v : Value} {n : Nat} {xs : List Value} (h : w.ownsRow base e size v n xs) : v.ownBlock ≠ some w.heap.size := fun hk => by
  have := (h.lt _ hk).2
  omega
theorem own_lie {v v' : Value} {m g : Nat} (h : v'.ownBlock = v.ownBlock ∨ v'.ownBlock = some m) (h1 : v.ownBlock ≠ some g) (h2 : g < m) : v'.ownBlock ≠ some g := fun hk => by
  rcases h with h | h
  · exact h1 (h ▸ hk)
  · rw [h] at hk
    simp only [Option.some.injEq] at hk
    omega
theorem wpOp_call {P : Program} {ops : Array Oper} {Q : Exit → Act → World → Prop} {i : Nat} {o : Oper} {a : Act} {w : World} {K : Act → World → Prop} {f : FuncId} {args : Array Value} {R : Ending → World → Prop} (hi : ops[i]? = some o) (hg : o.guard = none) (hr : (execOp a.eval o).run P w = .ok (.enter f args) w) (hc : Calls P f args w R) (hK : ∀ e w', R e w' → ∃ v, e = .returned v ∧ K (a.put o.dst v) w') : wpOp P ops Q i K a w := by
  unfold wpOp
  have hw : Region.wanted o (yielded ops a.tmps) = true := by simp [Region.wanted, hg]
  simp only [hi, hw, if_true]
  refine .inl ?_
  unfold Oper.wp
  rw [hr, Oper.upon_enter]
  refine hc.mono fun e w' he => ?_
  obtain ⟨v, rfl, hv⟩ := hK e w' he
  exact hv
theorem run_append_any {P : Program} {w : World} (base : Nat) (t ty e : TypeId) (i : TypeInfo) (z : Value) (size bytes : Nat) (ht : P.underlying t = some (.slice e)) (hi : P.info? e = some i) (hz : i.zero = some z)
    (hsize : i.size = size) (hby : i.bytes = bytes) (hzs : z.cells.size = size) (hsz : 0 < size)
    (v : Value) (n : Nat) (xs : List Value) (hown : w.ownsRow base e size v n xs)
    (ao : Option Addr) (m c : Nat) (news : List Value) (hl : news.length = m * size) (hnone : ao = none → m = 0 ∧ c = 0) (hnews : ∀ a, ao = some a → ∀ j u, news[j]? = some u → w.cell? (a.add j) = some u) (h1 : ∀ u ∈ news, u.oneCell' = true)
    (h63 : n + m ≤ maxLen) (hbytes : (n + m) * bytes ≤ 140737488355328) (hbase : base ≤ w.heap.size) :
    ∃ v' w', (Builtin.append_ #[t, t] ty #[v, .slice ao m c]).run P w = .ok v' w' ∧ w'.ownsRow base e size v' (n + m) (xs ++ news) ∧ w.grownBy w' v.ownBlock ∧ (v'.ownBlock = v.ownBlock ∨ v'.ownBlock = some w.heap.size) := by
  cases ao with
  | some a =>
    obtain ⟨v', w', r1, r2, r3, _, r5⟩ := run_append_own_at (P := P) (w := w) base t ty e i z size bytes ht hi hz hsize hby hzs hsz v n xs hown a m c news hl (hnews a rfl) h1 h63 hbytes hbase
    exact ⟨v', w', r1, r2, r3, r5⟩
  | none =>
    obtain ⟨rfl, rfl⟩ := hnone rfl
    have hn : news = [] := List.eq_nil_of_length_eq_zero (by simpa using hl)
    subst hn
    exact ⟨v, w, run_append_owned_none (P := P) (w := w) base t ty e i size ht hi v n xs hown, by simpa using hown, World.grownBy.refl _ _, .inl rfl⟩
theorem RowAt.news_any {A : Type} {sz : Nat} {f : A → List Value} (hf : ∀ x, (f x).length = sz) (h0 : 0 < sz) {w : World} {a : Option Addr} {l : List A} (h : RowAt sz f w a l) : ∀ ad, a = some ad → ∀ j u, (l.flatMap f)[j]? = some u → w.cell? (ad.add j) = some u := by
  intro ad had j u hj
  subst had
  cases l with
  | nil => simp at hj
  | cons x t =>
    obtain ⟨b, off, e, _⟩ := h 0 (by simp)
    simp only [Option.some.injEq] at e
    subst e
    exact h.news hf h0 j u hj
theorem row_none {A : Type} {sz : Nat} {f : A → List Value} {w : World} {a : Option Addr} {l : List A} (h : RowAt sz f w a l) (ha : a = none) : l.length = 0 := by
  cases l with
  | nil => rfl
  | cons x t =>
    obtain ⟨b, off, e, _⟩ := h 0 (by simp)
    rw [ha] at e
    cases e
end Go.Proofs.YtiilkkdbifhojaaGreat
/- Disks as data: files, what is asked of a disk, and what is right. -/
namespace Go.Proofs.YtiilkkdbifhojaaGreat
open Go.ChangeShapes Go.WideShapes Go.ChangeAt Go.RowKit
set_option linter.unusedVariables false
theorem row_shape {w : World} {base : Nat} {e : TypeId} {size : Nat} {v : Value} {n : Nat} {xs : List Value} (h : w.ownsRow base e size v n xs) : ∃ a c, v = .slice a n c := by
  obtain ⟨_, ⟨h0, h1⟩ | ⟨g, cap, cur, h1, _⟩⟩ := h
  · exact ⟨none, 0, by rw [h0, h1]⟩
  · exact ⟨_, _, h1⟩
theorem own_base {x : World} {base : Nat} {e : TypeId} {sz : Nat} {v : Value} {n : Nat} {xs : List Value} (h : x.ownsRow base e sz v n xs) : ∀ g, v.ownBlock = some g → base ≤ g := by
  intro g hg
  obtain ⟨hl, ⟨h0, h1⟩ | ⟨g', cap, cur, h1, hb, _⟩⟩ := h
  · rw [h0] at hg; cases hg
  · rw [h1] at hg
    simp only [Value.ownBlock, Option.some.injEq] at hg
    omega
theorem own_keep {x y : World} {base : Nat} {e : TypeId} {sz : Nat} {v : Value} {n : Nat} {xs : List Value} (h : x.ownsRow base e sz v n xs) (b : Below x.heap.size x y) : y.ownsRow base e sz v n xs := by
  obtain ⟨hl, ⟨h0, h1⟩ | ⟨g, cap, cur, h1, hb, hg, r⟩⟩ := h
  · exact ⟨hl, .inl ⟨h0, h1⟩⟩
  · exact ⟨hl, .inr ⟨g, cap, cur, h1, hb, (b.block g (Array.getElem?_eq_some_iff.1 hg).1).trans hg, r⟩⟩
theorem beq_bytes {a b : ByteArray} : (a.toList == b.toList) = true ↔ a = b := by
  rw [Lib.toList_data, Lib.toList_data, beq_iff_eq]
  exact ⟨fun e => ByteArray.ext (Array.toList_inj.1 e), fun e => by rw [e]⟩
theorem beq_no {a b : ByteArray} (h : ¬ a = b) : (a.toList == b.toList) = false := by
  cases e : (a.toList == b.toList) with
  | false => rfl
  | true => exact absurd (beq_bytes.1 e) h
theorem less_eq : ∀ (x y : List UInt8), Op.bytesLess x y = decide (x < y)
  | [], [] => rfl
  | [], _ :: _ => rfl
  | _ :: _, [] => rfl
  | a :: s, b :: t => by
    rw [Op.bytesLess, less_eq s t, Bool.eq_iff_iff]
    simp [List.cons_lt_cons_iff]
theorem wrap_pred {k m : Nat} (h : k = m + 1) (hk : k ≤ 1048576) : IntKind.i64.wrap ((k : Int) - 1) = (m : Int) := by
  rw [show (k : Int) - 1 = (m : Int) by omega]; simp only [IntKind.wrap, IntKind.signed, IntKind.bits]; simp; omega
def allTo (f : Nat → Bool) : Nat → Bool
  | 0 => true
  | n + 1 => allTo f n && f n
theorem allTo_false {f : Nat → Bool} {n k : Nat} (h : k < n) (hf : f k = false) : allTo f n = false := by
  induction n with
  | zero => omega
  | succ n ih =>
    simp only [allTo]
    rcases Nat.lt_or_ge k n with h1 | h1
    · rw [ih h1]; rfl
    · obtain rfl : k = n := by omega
      rw [hf, Bool.and_false]
theorem allTo_step {f : Nat → Bool} {k : Nat} (h : allTo f k = true) (hf : f k = true) : allTo f (k + 1) = true := by simp [allTo, h, hf]
theorem allTo_get {f : Nat → Bool} {n k : Nat} (h : allTo f n = true) (hk : k < n) : f k = true := by
  induction n with
  | zero => omega
  | succ n ih =>
    simp only [allTo, Bool.and_eq_true] at h
    rcases Nat.lt_or_ge k n with h1 | h1
    · exact ih h.1 h1
    · obtain rfl : k = n := by omega
      exact h.2
/-- a file -/
structure Fl where
  nm : ByteArray
  da : ByteArray
deriving DecidableEq
def flCells (f : Fl) : List Value := [.string f.nm, .string f.da]
theorem flLen (x : Fl) : (flCells x).length = 2 := rfl
theorem fl_one (l : List Fl) : ∀ u ∈ l.flatMap flCells, u.oneCell' = true := fun u hu => by
  obtain ⟨x, _, hx⟩ := List.mem_flatMap.1 hu
  simp only [flCells, List.mem_cons, List.not_mem_nil, or_false] at hx
  rcases hx with rfl | rfl <;> rfl
theorem fl_row {w : World} {a : Option Addr} {l : List Fl} (h : RowAt 2 flCells w a l) (i : Nat) (hi : i < l.length) : ∃ b off, a = some ⟨b, off, none⟩ ∧ b < w.heap.size ∧ w.cell? ⟨b, off + i * 2, none⟩ = some (.string l[i].nm) ∧ w.cell? ⟨b, off + i * 2 + 1, none⟩ = some (.string l[i].da) := by
  obtain ⟨b, off, e, hb, hc⟩ := h i hi
  exact ⟨b, off, e, hb, hc 0 _ rfl, hc 1 _ rfl⟩
/-- what is asked of a disk -/
structure Dp where
  kind : Int
  nm : ByteArray
  tn : ByteArray
  da : ByteArray
deriving DecidableEq
def dpCells (o : Dp) : List Value := [.int .i64 o.kind, .string o.nm, .string o.tn, .string o.da]
def dpV (o : Dp) : Value := .agg #[.int .i64 o.kind, .string o.nm, .string o.tn, .string o.da]
theorem dpLen (x : Dp) : (dpCells x).length = 4 := rfl
theorem dp_one (l : List Dp) : ∀ u ∈ l.flatMap dpCells, u.oneCell' = true := fun u hu => by
  obtain ⟨x, _, hx⟩ := List.mem_flatMap.1 hu
  simp only [dpCells, List.mem_cons, List.not_mem_nil, or_false] at hx
  rcases hx with rfl | rfl | rfl | rfl <;> rfl
theorem dp_row {w : World} {a : Option Addr} {l : List Dp} (h : RowAt 4 dpCells w a l) (i : Nat) (hi : i < l.length) : ∃ b off, a = some ⟨b, off, none⟩ ∧ b < w.heap.size ∧ w.cell? ⟨b, off + i * 4, none⟩ = some (.int .i64 l[i].kind) ∧ w.cell? ⟨b, off + i * 4 + 1, none⟩ = some (.string l[i].nm) ∧ w.cell? ⟨b, off + i * 4 + 2, none⟩ = some (.string l[i].tn) ∧ w.cell? ⟨b, off + i * 4 + 3, none⟩ = some (.string l[i].da) := by
  obtain ⟨b, off, e, hb, hc⟩ := h i hi
  exact ⟨b, off, e, hb, hc 0 _ rfl, hc 1 _ rfl, hc 2 _ rfl, hc 3 _ rfl⟩
/-- names and data are small -/
def SmF (l : List Fl) : Prop := ∀ f ∈ l, f.nm.size ≤ 1048576 ∧ f.da.size ≤ 1048576
def SmO (o : Dp) : Prop := o.nm.size ≤ 1048600 ∧ o.tn.size ≤ 1048600 ∧ o.da.size ≤ 1048600
def nmB (s : ByteArray) : Bool := inB 1 100 (s.size : Int)
def risesN (l : List Fl) (k : Nat) : Bool := match k with
  | 0 => true
  | m + 1 => match l[m]?, l[m + 1]? with
    | some x, some y => Op.bytesLess x.nm.toList y.nm.toList
    | _, _ => false
theorem rises_fl {l : List Fl} {m : Nat} (h : m + 1 < l.length) : risesN l (m + 1) = Op.bytesLess (l[m]).nm.toList (l[m + 1]).nm.toList := by
  simp [risesN, List.getElem?_eq_getElem h, List.getElem?_eq_getElem (show m < l.length by omega)]
def flB (l : List Fl) (k : Nat) : Bool := match l[k]? with
  | none => false
  | some f => nmB f.nm && risesN l k
theorem flB_at {l : List Fl} {k : Nat} (h : k < l.length) : flB l k = (nmB (l[k]).nm && risesN l k) := by simp [flB, List.getElem?_eq_getElem h]
def datL : List Fl → Nat
  | [] => 0
  | f :: l => f.da.size + datL l
theorem datL_append (a b : List Fl) : datL (a ++ b) = datL a + datL b := by
  induction a with
  | nil => simp [datL]
  | cons x xs ih => simp only [List.cons_append, datL, ih]; omega
theorem datL_next (l : List Fl) (k : Nat) (h : k < l.length) : datL (l.take (k + 1)) = datL (l.take k) + (l[k]).da.size := by
  rw [take_next l k h, datL_append]; simp [datL]
theorem datL_bd {l : List Fl} {M : Nat} (h : ∀ f ∈ l, f.da.size ≤ M) : datL l ≤ M * l.length := by
  induction l with
  | nil => simp [datL]
  | cons x xs ih =>
    have h1 := h x (by simp)
    have h2 := ih (fun f hf => h f (by simp [hf]))
    simp only [datL, List.length_cons, Nat.mul_add, Nat.mul_one]
    omega
theorem datL_mem {l : List Fl} {f : Fl} (h : f ∈ l) : f.da.size ≤ datL l := by
  induction l with
  | nil => simp at h
  | cons x xs ih =>
    simp only [List.mem_cons] at h
    simp only [datL]
    rcases h with rfl | h
    · omega
    · have := ih h; omega
theorem dat_take {l : List Fl} (h60 : l.length ≤ 61) (hs : ∀ f ∈ l, f.da.size ≤ 67108864) (k : Nat) : datL (l.take k) ≤ 4093640704 := by
  have h1 := datL_bd (l := l.take k) (M := 67108864) (fun f hf => hs f (List.mem_of_mem_take hf))
  have h2 : (l.take k).length ≤ 61 := by rw [List.length_take]; omega
  have h3 : 67108864 * (l.take k).length ≤ 67108864 * 61 := Nat.mul_le_mul_left _ h2
  omega
def filesB (l : List Fl) : Bool := decide (l.length ≤ 60) && allTo (flB l) l.length && decide ((datL l : Int) ≤ 200000)
theorem filesB_parts {l : List Fl} (h : filesB l = true) : l.length ≤ 60 ∧ allTo (flB l) l.length = true ∧ datL l ≤ 200000 := by
  simp only [filesB, Bool.and_eq_true, decide_eq_true_eq] at h
  exact ⟨h.1.1, h.1.2, by omega⟩
theorem filesB_small {l : List Fl} (h : filesB l = true) : ∀ f ∈ l, f.nm.size ≤ 100 ∧ f.da.size ≤ 200000 := fun f hf => by
  obtain ⟨h1, h2, h3⟩ := filesB_parts h
  have h4 := datL_mem hf
  obtain ⟨i, hi, rfl⟩ := List.getElem_of_mem hf
  have h5 := allTo_get h2 hi
  rw [flB_at hi] at h5
  simp only [nmB, inB, Bool.and_eq_true, decide_eq_true_eq] at h5
  exact ⟨by omega, by omega⟩
theorem filesB_sm {l : List Fl} (h : filesB l = true) : SmF l := fun f hf => by
  have := filesB_small h f hf
  exact ⟨by omega, by omega⟩
def emB (s : ByteArray) : Bool := s.toList.isEmpty
def formB (o : Dp) : Bool := inB 1 3 o.kind && nmB o.nm && (if o.kind == 2 then nmB o.tn && emB o.da else emB o.tn && (o.kind == 1 || emB o.da))
/-- the place of a name -/
def atL (l : List Fl) (nm : ByteArray) : Option Nat := l.findIdx? (fun f => f.nm.toList == nm.toList)
def ixV : Option Nat → Int
  | none => -1
  | some k => k
theorem at_hit {l : List Fl} {nm : ByteArray} {k : Nat} (hk : k < l.length) (h1 : (l[k]).nm = nm) (h2 : ∀ j (hj : j < l.length), j < k → (l[j]).nm ≠ nm) : atL l nm = some k := by
  unfold atL
  rw [List.findIdx?_eq_some_iff_getElem]
  exact ⟨hk, beq_bytes.2 h1, fun j hj => by simpa using beq_no (h2 j (by omega) hj)⟩
theorem at_miss {l : List Fl} {nm : ByteArray} (h : ∀ j (hj : j < l.length), (l[j]).nm ≠ nm) : atL l nm = none := by
  unfold atL
  rw [List.findIdx?_eq_none_iff]
  intro f hf
  obtain ⟨i, hi, rfl⟩ := List.getElem_of_mem hf
  exact beq_no (h i hi)
theorem at_some {l : List Fl} {nm : ByteArray} {k : Nat} (h : atL l nm = some k) : ∃ hk : k < l.length, (l[k]).nm = nm := by
  unfold atL at h
  rw [List.findIdx?_eq_some_iff_getElem] at h
  obtain ⟨hk, h1, _⟩ := h
  exact ⟨hk, beq_bytes.1 h1⟩
theorem at_none {l : List Fl} {nm : ByteArray} (h : atL l nm = none) : ∀ f ∈ l, f.nm ≠ nm := by
  unfold atL at h
  rw [List.findIdx?_eq_none_iff] at h
  intro f hf e
  have := h f hf
  rw [beq_bytes.2 e] at this
  cases this
/-- the files with one of this name and data: one file's step -/
def putS (nm da : ByteArray) (st : List Fl × Bool) (f : Fl) : List Fl × Bool :=
  let st1 := if (!st.2 && !Op.bytesLess f.nm.toList nm.toList) = true then (st.1 ++ [⟨nm, da⟩], true) else st
  if (f.nm.toList == nm.toList) = true then st1 else (st1.1 ++ [f], st1.2)
def putK (l : List Fl) (nm da : ByteArray) (k : Nat) : List Fl × Bool := (l.take k).foldl (putS nm da) ([], false)
theorem putK_next (l : List Fl) (nm da : ByteArray) (k : Nat) (h : k < l.length) : putK l nm da (k + 1) = putS nm da (putK l nm da k) l[k] := by
  unfold putK
  rw [take_next l k h, List.foldl_append]; rfl
theorem putK_len (l : List Fl) (nm da : ByteArray) : ∀ k, (putK l nm da k).1.length ≤ 2 * k
  | 0 => by simp [putK]
  | k + 1 => by
    have ih := putK_len l nm da k
    rcases Nat.lt_or_ge k l.length with h | h
    · rw [putK_next l nm da k h]
      unfold putS
      simp only
      split <;> split <;> simp <;> omega
    · have : putK l nm da (k + 1) = putK l nm da k := by
        unfold putK
        rw [List.take_of_length_le (by omega), List.take_of_length_le (by omega)]
      rw [this]; omega
def putL (l : List Fl) (nm da : ByteArray) : List Fl := if (putK l nm da l.length).2 then (putK l nm da l.length).1 else (putK l nm da l.length).1 ++ [⟨nm, da⟩]
def cutL (l : List Fl) (nm : ByteArray) : List Fl := l.filter (fun f => !(f.nm.toList == nm.toList))
theorem cutL_next (l : List Fl) (nm : ByteArray) (k : Nat) (h : k < l.length) : cutL (l.take (k + 1)) nm = cutL (l.take k) nm ++ (if ((l[k]).nm.toList == nm.toList) = true then [] else [l[k]]) := by
  unfold cutL
  rw [take_next l k h, List.filter_append]
  cases e : ((l[k]).nm.toList == nm.toList) <;> simp [e]
theorem cutL_len (l : List Fl) (nm : ByteArray) : (cutL l nm).length ≤ l.length := List.length_filter_le _ _
/-- the data of a file, or none -/
def dataL (l : List Fl) (nm : ByteArray) : ByteArray := match atL l nm with
  | none => ByteArray.empty
  | some k => match l[k]? with
    | none => ByteArray.empty
    | some f => f.da
/-- the data of a file, and more -/
def appD (l : List Fl) (nm da : ByteArray) : ByteArray := match atL l nm with
  | none => da
  | some _ => dataL l nm ++ da
/-- files behind what is asked -/
def doL (l : List Fl) (o : Dp) : List Fl × Bool :=
  if (o.kind == 1) = true then (putL l o.nm (appD l o.nm o.da), true)
  else match atL l o.nm with
    | none => (l, false)
    | some _ => (if (o.kind == 2) = true then putL (cutL l o.nm) o.tn (dataL l o.nm) else cutL l o.nm, true)
def stepL (l : List Fl) (o : Dp) : Option (List Fl) := if (doL l o).2 && formB o && filesB (doL l o).1 then some (doL l o).1 else none
def runL (l : List Fl) : List Dp → Option (List Fl)
  | [] => some l
  | o :: os => (stepL l o).bind (fun l' => runL l' os)
theorem runL_append (l : List Fl) (a b : List Dp) : runL l (a ++ b) = (runL l a).bind (fun l' => runL l' b) := by
  induction a generalizing l with
  | nil => rfl
  | cons o a ih =>
    simp only [List.cons_append, runL]
    cases stepL l o with
    | none => rfl
    | some l' => exact ih l'
theorem runL_next (l : List Fl) (os : List Dp) (k : Nat) (h : k < os.length) {l' : List Fl} (hr : runL l (os.take k) = some l') : runL l (os.take (k + 1)) = stepL l' os[k] := by
  rw [take_next os k h, runL_append, hr]
  simp only [Option.bind_some, runL]
  cases stepL l' os[k] <;> rfl
theorem runL_none (l : List Fl) (os : List Dp) (k : Nat) (h : runL l (os.take k) = none) : runL l os = none := by
  have e : os = os.take k ++ os.drop k := (List.take_append_drop k os).symm
  rw [e, runL_append, h]
  rfl
structure DkD where
  live : List Fl
  safe : List Fl
  ops : List Dp
def isRun (r : Option (List Fl)) (live : List Fl) : Bool := match r with
  | none => false
  | some l => decide (l = live)
def diskB (D : DkD) : Bool := filesB D.live && filesB D.safe && decide (D.ops.length ≤ 200) && isRun (runL D.safe D.ops) D.live
end Go.Proofs.YtiilkkdbifhojaaGreat
/- The contracts of the model's small functions of disks: l8Name, l8At, l8Cut, l8Put, l8Files, l8Form, l8Same. -/
namespace Go.Proofs.YtiilkkdbifhojaaGreat
open Go.ChangeShapes Go.WideShapes Go.ChangeAt Go.RowKit
set_option linter.unusedVariables false
set_option maxRecDepth 100000
theorem infoF : (Tryz.prog.info? 71).map (fun i => (i.zero, i.size, i.bytes)) = some (some (.agg #[.string ByteArray.empty, .string ByteArray.empty]), 2, 32) := by kernel_rfl
theorem huF : Tryz.prog.underlying 24 = some (.slice 71) := by kernel_rfl
theorem l8Name_any (s : ByteArray) (w : World) (h : s.size ≤ 4194304) :
    Calls Tryz.prog 52 #[.string s] w fun e w' => e = .returned (.bool (nmB s)) ∧ w' = w := by
  by_cases h1 : (1 : Int) ≤ (s.size : Int)
  · by_cases h2 : (s.size : Int) ≤ 100
    · have HR : Hid (nmB s = true) := hide (by simp [nmB, inB]; omega)
      go_enter Tryz.func52, Tryz.ntmps52
      go_wp2
      go_ret
      exact ⟨by rw [HR.out]; rfl, rfl⟩
    · have HR : Hid (nmB s = false) := hide (by simp [nmB, inB]; omega)
      go_enter Tryz.func52, Tryz.ntmps52
      go_wp2
      go_ret
      exact ⟨by rw [HR.out]; rfl, rfl⟩
  · have HR : Hid (nmB s = false) := hide (by simp [nmB, inB]; omega)
    go_enter Tryz.func52, Tryz.ntmps52
    go_wp2
    go_ret
    exact ⟨by rw [HR.out]; rfl, rfl⟩
set_option maxHeartbeats 1000000 in
theorem l8At_any (a : Option Addr) (l : List Fl) (cap : Nat) (nm : ByteArray) (w : World) (hl : l.length ≤ 1048576) (h : RowAt 2 flCells w a l) :
    Calls Tryz.prog 22 #[.slice a l.length cap, .string nm] w fun e w' => e = .returned (.int .i64 (ixV (atL l nm))) ∧ w' = w := by
  have HC : Hid _ := hide h
  clear h
  go_enter Tryz.func22, Tryz.ntmps22
  go_wp2
  go_loop [5] (fun i => ∃ k : Nat, k ≤ l.length ∧ i = .int .i64 (k : Int) ∧ Hid (∀ j (hj : j < l.length), j < k → (l[j]).nm ≠ nm)) (fun i => l.length - (intOf i).toNat)
  case atStart => exact ⟨0, Nat.zero_le _, rfl, hide (fun j _ hj => by omega)⟩
  case round =>
    obtain ⟨k, hk, rfl, HN⟩ := hrel
    by_cases hlt : k < l.length
    · obtain ⟨b, off, rfl, hb, c0, c1⟩ := fl_row HC.out k hlt
      have hlt' : (k : Int) < (l.length : Int) := by omega
      cases hq : ((l[k]).nm.toList == nm.toList)
      · have HN2 : Hid (∀ j (hj : j < l.length), j < k + 1 → (l[j]).nm ≠ nm) := hide (fun j hj hjk => by
          rcases Nat.lt_or_ge j k with h | h
          · exact HN.out j hj h
          · obtain rfl : j = k := by omega
            intro e; rw [beq_bytes.2 e] at hq; cases hq)
        go_wp2
        exact ⟨⟨k + 1, by omega, by go_num, HN2⟩, by simp [intOf]; omega⟩
      · have HE : Hid (ixV (atL l nm) = (k : Int)) := hide (by rw [at_hit hlt (beq_bytes.1 hq) HN.out]; rfl)
        go_wp2
        go_ret
        exact ⟨by rw [HE.out]; rfl, rfl⟩
    · have hk' : ¬ (k : Int) < (l.length : Int) := by omega
      have HE : Hid (ixV (atL l nm) = -1) := hide (by rw [at_miss (fun j hj => HN.out j hj (by omega))]; rfl)
      go_wp2
      go_ret
      exact ⟨by rw [HE.out]; rfl, rfl⟩
/-- a new list of files -/
def NewF (l : List Fl) (w : World) (e : Ending) (w' : World) : Prop := Below w.heap.size w w' ∧ ∃ v, e = .returned v ∧ w'.ownsRow w.heap.size 71 2 v l.length (l.flatMap flCells)
theorem newF_of {l : List Fl} {w w' : World} {v : Value} (hb : Below w.heap.size w w') (h : w'.ownsRow w.heap.size 71 2 v l.length (l.flatMap flCells)) : NewF l w (.returned v) w' := ⟨hb, v, rfl, h⟩
theorem own_read {l : List Fl} {w : World} {base : Nat} {v : Value} (h : w.ownsRow base 71 2 v l.length (l.flatMap flCells)) : ∃ a cap, v = .slice a l.length cap ∧ RowAt 2 flCells w a l ∧ (a = none → cap = 0) := by
  obtain ⟨g, a, cap, _, e, ho⟩ := own_of_row flLen h
  refine ⟨a, cap, e, ho.rows, fun ha => ?_⟩
  obtain ⟨_, ⟨h0, h1⟩ | ⟨g', cap', cur, h1, _⟩⟩ := h
  · rw [e] at h0; simp only [Value.slice.injEq] at h0; exact h0.2.2
  · rw [e, ha] at h1; simp at h1
theorem wpList_append_any {P : Program} {w : World} {ops : Array Oper} {rest : List Oper} {o : Oper} {a : Act} {Q : Exit → Act → World → Prop} (hgd : o.guard = none) (s x : Operand) (t : TypeId)
    (ho : o.op = .call { callee := .builtin .append, args := #[s, x], argTypes := #[t, t] })
    (base : Nat) (e : TypeId) (i : TypeInfo) (z : Value) (size bytes : Nat) (ht : P.underlying t = some (.slice e)) (hi : P.info? e = some i) (hz : i.zero = some z)
    (hsize : i.size = size) (hby : i.bytes = bytes) (hzs : z.cells.size = size) (hsz : 0 < size)
    (v : Value) (n : Nat) (xs : List Value) (hs : a.eval s = v) (hown : w.ownsRow base e size v n xs)
    (ao : Option Addr) (m c : Nat) (news : List Value) (hx : a.eval x = .slice ao m c) (hl : news.length = m * size) (hnone : ao = none → m = 0 ∧ c = 0) (hnews : ∀ ad, ao = some ad → ∀ j u, news[j]? = some u → w.cell? (ad.add j) = some u) (h1 : ∀ u ∈ news, u.oneCell' = true)
    (h63 : n + m ≤ maxLen) (hbytes : (n + m) * bytes ≤ 140737488355328) (hbase : base ≤ w.heap.size)
    (h : ∀ v' w', w'.ownsRow base e size v' (n + m) (xs ++ news) → w.grownBy w' v.ownBlock → (v'.ownBlock = v.ownBlock ∨ v'.ownBlock = some w.heap.size) → wpList P ops Q rest (a.put o.dst v') w') :
    wpList P ops Q (o :: rest) a w := by
  refine wpList_plain hgd fun K hK => ?_
  obtain ⟨v', w', hr, h2, h3, h4⟩ := run_append_any (P := P) (w := w) base t o.type e i z size bytes ht hi hz hsize hby hzs hsz v n xs hown ao m c news hl hnone hnews h1 h63 hbytes hbase
  unfold Oper.wp
  rw [exec_append ho hs hx hr]
  exact hK _ _ (h v' w' h2 h3 h4)
set_option maxHeartbeats 2000000 in
theorem l8Cut_any (a : Option Addr) (l : List Fl) (cap : Nat) (nm : ByteArray) (w : World) (hl : l.length ≤ 1048576) (h : RowAt 2 flCells w a l) :
    Calls Tryz.prog 54 #[.slice a l.length cap, .string nm] w fun e w' => NewF (cutL l nm) w e w' := by
  have HC : Hid _ := hide h
  clear h
  obtain ⟨i0, hi0, hz0, hz1, hz2⟩ := info_parts infoF
  have hu := huF
  go_enter Tryz.func54, Tryz.ntmps54
  go_wp2
  go_loopw [5, 6] (fun v i wr => ∃ k : Nat, k ≤ l.length ∧ i = .int .i64 (k : Int) ∧ Hid (Below w.heap.size w wr) ∧ Hid (wr.ownsRow w.heap.size 71 2 v (cutL (l.take k) nm).length ((cutL (l.take k) nm).flatMap flCells))) (fun v i wr => l.length - (intOf i).toNat)
  case atStart => exact ⟨0, Nat.zero_le _, rfl, hide (below_alloc (Below.refl _ _) _), hide (World.ownsRow_made w #[] 0 (Nat.le_refl _) (by unfold maxLen; omega) rfl)⟩
  case round =>
    obtain ⟨k, hk, rfl, HX, HO⟩ := hrel
    obtain ⟨va, vc, rfl⟩ := row_shape HO.out
    by_cases hlt : k < l.length
    · have hlt' : (k : Int) < (l.length : Int) := by omega
      obtain ⟨b, off, rfl, hb, c0, c1⟩ := fl_row (HC.out.below HX.out) k hlt
      have HNX : Hid _ := hide (cutL_next l nm k hlt)
      have HLN : Hid ((cutL (l.take k) nm).length ≤ 1048576) := hide (Nat.le_trans (cutL_len _ _) (by rw [List.length_take]; omega))
      cases hq : ((l[k]).nm.toList == nm.toList)
      · go_wp2_with (first | (at_builtin; refine Shut2.mk ?_) | fail)
        refine Shut2.mk' ?_
        refine wpList_append_own_at _ rfl _ _ 24 rfl w.heap.size 71 i0 _ 2 32 hu hi0 hz0 hz1 hz2 rfl (by decide) (.slice va (cutL (l.take k) nm).length vc) (cutL (l.take k) nm).length ((cutL (l.take k) nm).flatMap flCells) rfl ?own ⟨wr.heap.size, 0, none⟩ 1 1 [.string l[k].nm, .string l[k].da] rfl rfl ?news (by simp [Value.oneCell']) (by have := HLN.out; unfold maxLen; omega) (by have := HLN.out; omega) ?base ?_
        case own => exact own_keep HO.out (below_alloc (Below.refl _ _) _)
        case news => exact news2 (World.cell?_alloc_at _ _ _ _ rfl) (World.cell?_alloc_at _ _ _ _ rfl)
        case base => have := HX.out.size; simp; omega
        intro v6 w6 ho6 hg6 _ _
        have hnx := HNX.out
        rw [hq] at hnx
        simp only [Bool.false_eq_true, if_false] at hnx
        have HO6 : Hid (w6.ownsRow w.heap.size 71 2 v6 (cutL (l.take (k + 1)) nm).length ((cutL (l.take (k + 1)) nm).flatMap flCells)) := hide (by
          rw [hnx, List.flatMap_append]
          simpa [flCells] using ho6)
        have HX6 : Hid (Below w.heap.size w w6) := hide ((below_alloc HX.out _).grown hg6 (by have := HX.out.size; simp; omega) (fun j hj => own_base HO.out j hj))
        clear hnx HNX HO ho6 hg6 HX
        go_wp2
        exact ⟨⟨k + 1, by omega, by go_num, HX6, HO6⟩, by simp [intOf]; omega⟩
      · have hnx := HNX.out
        rw [hq] at hnx
        simp only [if_true, List.append_nil] at hnx
        have HO5 : Hid (wr.ownsRow w.heap.size 71 2 (.slice va (cutL (l.take k) nm).length vc) (cutL (l.take (k + 1)) nm).length ((cutL (l.take (k + 1)) nm).flatMap flCells)) := hide (by rw [hnx]; exact HO.out)
        clear hnx HNX HO
        go_wp2
        exact ⟨⟨k + 1, by omega, by go_num, HX, HO5⟩, by simp [intOf]; omega⟩
    · have hlt' : ¬ (k : Int) < (l.length : Int) := by omega
      have HE : Hid (NewF (cutL l nm) w (.returned (.slice va (cutL (l.take k) nm).length vc)) wr) := hide (newF_of HX.out (by
        have := HO.out
        rw [List.take_of_length_le (by omega)] at this
        rw [List.take_of_length_le (by omega)]
        exact this))
      go_wp2
      go_ret
      exact HE.out
end Go.Proofs.YtiilkkdbifhojaaGreat
/- The contracts of the model's l8Put, l8Files, l8Form, l8Same. -/
namespace Go.Proofs.YtiilkkdbifhojaaGreat
open Go.ChangeShapes Go.WideShapes Go.ChangeAt Go.RowKit
set_option linter.unusedVariables false
set_option maxRecDepth 100000
set_option maxHeartbeats 4000000 in
theorem l8Put_any (a : Option Addr) (l : List Fl) (cap : Nat) (nm da : ByteArray) (w : World) (hl : l.length ≤ 1000) (h : RowAt 2 flCells w a l) :
    Calls Tryz.prog 53 #[.slice a l.length cap, .string nm, .string da] w fun e w' => NewF (putL l nm da) w e w' := by
  have HC : Hid _ := hide h
  clear h
  obtain ⟨i0, hi0, hz0, hz1, hz2⟩ := info_parts infoF
  have hu := huF
  go_enter Tryz.func53, Tryz.ntmps53
  go_wp2
  go_loopw [7, 8, 9] (fun v d i wr => ∃ (k : Nat) (out : List Fl) (dn : Bool), k ≤ l.length ∧ i = .int .i64 (k : Int) ∧ d = .bool dn ∧ Hid (putK l nm da k = (out, dn)) ∧ Hid (Below w.heap.size w wr) ∧ Hid (wr.ownsRow w.heap.size 71 2 v out.length (out.flatMap flCells))) (fun v d i wr => l.length - (intOf i).toNat)
  case atStart => exact ⟨0, [], false, Nat.zero_le _, rfl, rfl, hide rfl, hide (below_alloc (Below.refl _ _) _), hide (World.ownsRow_made w #[] 0 (Nat.le_refl _) (by unfold maxLen; omega) rfl)⟩
  case round =>
    obtain ⟨k, out, dn, hk, rfl, rfl, HK, HX, HO⟩ := hrel
    obtain ⟨va, vc, rfl⟩ := row_shape HO.out
    have HLN : Hid (out.length ≤ 2000) := hide (by have := putK_len l nm da k; rw [HK.out] at this; simp only at this; omega)
    by_cases hlt : k < l.length
    · have hlt' : (k : Int) < (l.length : Int) := by omega
      obtain ⟨b, off, rfl, hb, c0, c1⟩ := fl_row (HC.out.below HX.out) k hlt
      have HNX : Hid (putK l nm da (k + 1) = putS nm da (out, dn) l[k]) := hide (by rw [putK_next l nm da k hlt, HK.out])
      cases dn
      · cases hls : Op.bytesLess (l[k]).nm.toList nm.toList
        · cases hq : ((l[k]).nm.toList == nm.toList)
          · go_wp2_with (first | (at_builtin; refine Shut2.mk ?_) | fail)
            refine Shut2.mk' ?_
            refine wpList_append_own_at _ rfl _ _ 24 rfl w.heap.size 71 i0 _ 2 32 hu hi0 hz0 hz1 hz2 rfl (by decide) (.slice va out.length vc) out.length (out.flatMap flCells) rfl ?ownf ⟨wr.heap.size, 0, none⟩ 1 1 [.string nm, .string da] rfl rfl ?newsf (by simp [Value.oneCell']) (by have := HLN.out; unfold maxLen; omega) (by have := HLN.out; omega) ?basef ?_
            case ownf => exact own_keep HO.out (below_alloc (Below.refl _ _) _)
            case newsf => exact news2 (World.cell?_alloc_at _ _ _ _ rfl) (World.cell?_alloc_at _ _ _ _ rfl)
            case basef => have := HX.out.size; simp; omega
            intro v6 w6 ho6 hg6 _ _
            have HO6 : Hid (w6.ownsRow w.heap.size 71 2 v6 (out ++ [(⟨nm, da⟩ : Fl)]).length ((out ++ [(⟨nm, da⟩ : Fl)]).flatMap flCells)) := hide (by
              rw [List.flatMap_append]
              simpa [flCells] using ho6)
            have HX6 : Hid (Below w.heap.size w w6) := hide ((below_alloc HX.out _).grown hg6 (by have := HX.out.size; simp; omega) (fun j hj => own_base HO.out j hj))
            obtain ⟨b2, off2, e2, hb2, d0, d1⟩ := fl_row (HC.out.below HX6.out) k hlt
            simp only [Option.some.injEq, Addr.mk.injEq, and_true] at e2
            obtain ⟨rfl, rfl⟩ := e2
            obtain ⟨out2, hout2⟩ : ∃ o, o = out ++ [(⟨nm, da⟩ : Fl)] := ⟨_, rfl⟩
            rw [← hout2] at HO6
            have HLN2 : Hid (out2.length ≤ 2001) := hide (by have := HLN.out; rw [hout2]; simp; omega)
            have HO2 : Hid (out2 = out ++ [(⟨nm, da⟩ : Fl)]) := hide hout2
            obtain ⟨va6, vc6, rfl⟩ := row_shape HO6.out
            clear HO ho6 hg6 HX c0 c1 hb hout2
            go_wp2_with (first | (at_builtin; refine Shut2.mk ?_) | fail)
            refine Shut2.mk' ?_
            refine wpList_append_own_at _ rfl _ _ 24 rfl w.heap.size 71 i0 _ 2 32 hu hi0 hz0 hz1 hz2 rfl (by decide) (.slice va6 out2.length vc6) out2.length (out2.flatMap flCells) rfl ?owna ⟨w6.heap.size, 0, none⟩ 1 1 [.string l[k].nm, .string l[k].da] rfl rfl ?newsa (by simp [Value.oneCell']) (by have := HLN2.out; unfold maxLen; simp; omega) (by have := HLN2.out; simp; omega) ?basea ?_
            case owna => exact own_keep HO6.out (below_alloc (Below.refl _ _) _)
            case newsa => exact news2 (World.cell?_alloc_at _ _ _ _ rfl) (World.cell?_alloc_at _ _ _ _ rfl)
            case basea => have := HX6.out.size; simp; omega
            intro v7 w7 ho7 hg7 _ _
            have HO7 : Hid (w7.ownsRow w.heap.size 71 2 v7 (out2 ++ [l[k]]).length ((out2 ++ [l[k]]).flatMap flCells)) := hide (by
              rw [List.flatMap_append]
              simpa [flCells] using ho7)
            have HX7 : Hid (Below w.heap.size w w7) := hide ((below_alloc HX6.out _).grown hg7 (by have := HX6.out.size; simp; omega) (fun j hj => own_base HO6.out j hj))
            have HK7 : Hid (putK l nm da (k + 1) = (out2 ++ [l[k]], true)) := hide (by rw [HNX.out, HO2.out]; simp [putS, hls, hq])
            clear HNX HK HO6 ho7 hg7 HX6
            go_wp2
            exact ⟨⟨k + 1, out2 ++ [l[k]], true, by omega, by go_num, rfl, HK7, HX7, HO7⟩, by simp [intOf]; omega⟩
          · go_wp2_with (first | (at_builtin; refine Shut2.mk ?_) | fail)
            refine Shut2.mk' ?_
            refine wpList_append_own_at _ rfl _ _ 24 rfl w.heap.size 71 i0 _ 2 32 hu hi0 hz0 hz1 hz2 rfl (by decide) (.slice va out.length vc) out.length (out.flatMap flCells) rfl ?owng ⟨wr.heap.size, 0, none⟩ 1 1 [.string nm, .string da] rfl rfl ?newsg (by simp [Value.oneCell']) (by have := HLN.out; unfold maxLen; omega) (by have := HLN.out; omega) ?baseg ?_
            case owng => exact own_keep HO.out (below_alloc (Below.refl _ _) _)
            case newsg => exact news2 (World.cell?_alloc_at _ _ _ _ rfl) (World.cell?_alloc_at _ _ _ _ rfl)
            case baseg => have := HX.out.size; simp; omega
            intro v6 w6 ho6 hg6 _ _
            have HO6 : Hid (w6.ownsRow w.heap.size 71 2 v6 (out ++ [(⟨nm, da⟩ : Fl)]).length ((out ++ [(⟨nm, da⟩ : Fl)]).flatMap flCells)) := hide (by
              rw [List.flatMap_append]
              simpa [flCells] using ho6)
            have HX6 : Hid (Below w.heap.size w w6) := hide ((below_alloc HX.out _).grown hg6 (by have := HX.out.size; simp; omega) (fun j hj => own_base HO.out j hj))
            obtain ⟨b2, off2, e2, hb2, d0, d1⟩ := fl_row (HC.out.below HX6.out) k hlt
            simp only [Option.some.injEq, Addr.mk.injEq, and_true] at e2
            obtain ⟨rfl, rfl⟩ := e2
            obtain ⟨out2, hout2⟩ : ∃ o, o = out ++ [(⟨nm, da⟩ : Fl)] := ⟨_, rfl⟩
            rw [← hout2] at HO6
            have HLN2 : Hid (out2.length ≤ 2001) := hide (by have := HLN.out; rw [hout2]; simp; omega)
            have HO2 : Hid (out2 = out ++ [(⟨nm, da⟩ : Fl)]) := hide hout2
            obtain ⟨va6, vc6, rfl⟩ := row_shape HO6.out
            clear HO ho6 hg6 HX c0 c1 hb hout2
            have HK7 : Hid (putK l nm da (k + 1) = (out2, true)) := hide (by rw [HNX.out, HO2.out]; simp [putS, hls, hq])
            clear HNX HK
            go_wp2
            exact ⟨⟨k + 1, out2, true, by omega, by go_num, rfl, HK7, HX6, HO6⟩, by simp [intOf]; omega⟩
        · cases hq : ((l[k]).nm.toList == nm.toList)
          · go_wp2_with (first | (at_builtin; refine Shut2.mk ?_) | fail)
            refine Shut2.mk' ?_
            refine wpList_append_own_at _ rfl _ _ 24 rfl w.heap.size 71 i0 _ 2 32 hu hi0 hz0 hz1 hz2 rfl (by decide) (.slice va out.length vc) out.length (out.flatMap flCells) rfl ?ownb ⟨wr.heap.size, 0, none⟩ 1 1 [.string l[k].nm, .string l[k].da] rfl rfl ?newsb (by simp [Value.oneCell']) (by have := HLN.out; unfold maxLen; simp; omega) (by have := HLN.out; simp; omega) ?baseb ?_
            case ownb => exact own_keep HO.out (below_alloc (Below.refl _ _) _)
            case newsb => exact news2 (World.cell?_alloc_at _ _ _ _ rfl) (World.cell?_alloc_at _ _ _ _ rfl)
            case baseb => have := HX.out.size; simp; omega
            intro v7 w7 ho7 hg7 _ _
            have HO7 : Hid (w7.ownsRow w.heap.size 71 2 v7 (out ++ [l[k]]).length ((out ++ [l[k]]).flatMap flCells)) := hide (by
              rw [List.flatMap_append]
              simpa [flCells] using ho7)
            have HX7 : Hid (Below w.heap.size w w7) := hide ((below_alloc HX.out _).grown hg7 (by have := HX.out.size; simp; omega) (fun j hj => own_base HO.out j hj))
            have HK7 : Hid (putK l nm da (k + 1) = (out ++ [l[k]], false)) := hide (by rw [HNX.out]; simp [putS, hls, hq])
            clear HNX HK HO ho7 hg7 HX
            go_wp2
            exact ⟨⟨k + 1, out ++ [l[k]], false, by omega, by go_num, rfl, HK7, HX7, HO7⟩, by simp [intOf]; omega⟩
          · have HK7 : Hid (putK l nm da (k + 1) = (out, false)) := hide (by rw [HNX.out]; simp [putS, hls, hq])
            clear HNX HK
            go_wp2
            exact ⟨⟨k + 1, out, false, by omega, by go_num, rfl, HK7, HX, HO⟩, by simp [intOf]; omega⟩
      · cases hq : ((l[k]).nm.toList == nm.toList)
        · go_wp2_with (first | (at_builtin; refine Shut2.mk ?_) | fail)
          refine Shut2.mk' ?_
          refine wpList_append_own_at _ rfl _ _ 24 rfl w.heap.size 71 i0 _ 2 32 hu hi0 hz0 hz1 hz2 rfl (by decide) (.slice va out.length vc) out.length (out.flatMap flCells) rfl ?ownc ⟨wr.heap.size, 0, none⟩ 1 1 [.string l[k].nm, .string l[k].da] rfl rfl ?newsc (by simp [Value.oneCell']) (by have := HLN.out; unfold maxLen; simp; omega) (by have := HLN.out; simp; omega) ?basec ?_
          case ownc => exact own_keep HO.out (below_alloc (Below.refl _ _) _)
          case newsc => exact news2 (World.cell?_alloc_at _ _ _ _ rfl) (World.cell?_alloc_at _ _ _ _ rfl)
          case basec => have := HX.out.size; simp; omega
          intro v7 w7 ho7 hg7 _ _
          have HO7 : Hid (w7.ownsRow w.heap.size 71 2 v7 (out ++ [l[k]]).length ((out ++ [l[k]]).flatMap flCells)) := hide (by
            rw [List.flatMap_append]
            simpa [flCells] using ho7)
          have HX7 : Hid (Below w.heap.size w w7) := hide ((below_alloc HX.out _).grown hg7 (by have := HX.out.size; simp; omega) (fun j hj => own_base HO.out j hj))
          have HK7 : Hid (putK l nm da (k + 1) = (out ++ [l[k]], true)) := hide (by rw [HNX.out]; simp [putS, hq])
          clear HNX HK HO ho7 hg7 HX
          go_wp2
          exact ⟨⟨k + 1, out ++ [l[k]], true, by omega, by go_num, rfl, HK7, HX7, HO7⟩, by simp [intOf]; omega⟩
        · have HK7 : Hid (putK l nm da (k + 1) = (out, true)) := hide (by rw [HNX.out]; simp [putS, hq])
          clear HNX HK
          go_wp2
          exact ⟨⟨k + 1, out, true, by omega, by go_num, rfl, HK7, HX, HO⟩, by simp [intOf]; omega⟩
    · have hlt' : ¬ (k : Int) < (l.length : Int) := by omega
      have HE : Hid (k = l.length) := hide (by omega)
      cases dn
      · go_wp2_with (first | (at_builtin; refine Shut2.mk ?_) | fail)
        refine Shut2.mk' ?_
        refine wpList_append_own_at _ rfl _ _ 24 rfl w.heap.size 71 i0 _ 2 32 hu hi0 hz0 hz1 hz2 rfl (by decide) (.slice va out.length vc) out.length (out.flatMap flCells) rfl ?own ⟨wr.heap.size, 0, none⟩ 1 1 [.string nm, .string da] rfl rfl ?news (by simp [Value.oneCell']) (by have := HLN.out; unfold maxLen; omega) (by have := HLN.out; omega) ?base ?_
        case own => exact own_keep HO.out (below_alloc (Below.refl _ _) _)
        case news => exact news2 (World.cell?_alloc_at _ _ _ _ rfl) (World.cell?_alloc_at _ _ _ _ rfl)
        case base => have := HX.out.size; simp; omega
        intro v6 w6 ho6 hg6 _ _
        have HO6 : Hid (w6.ownsRow w.heap.size 71 2 v6 (out ++ [(⟨nm, da⟩ : Fl)]).length ((out ++ [(⟨nm, da⟩ : Fl)]).flatMap flCells)) := hide (by
          rw [List.flatMap_append]
          simpa [flCells] using ho6)
        have HX6 : Hid (Below w.heap.size w w6) := hide ((below_alloc HX.out _).grown hg6 (by have := HX.out.size; simp; omega) (fun j hj => own_base HO.out j hj))
        have HEE : Hid (NewF (putL l nm da) w (.returned v6) w6) := hide (newF_of HX6.out (by
          have hk2 := HK.out
          rw [HE.out] at hk2
          have e : putL l nm da = out ++ [⟨nm, da⟩] := by simp [putL, hk2]
          rw [e]
          exact HO6.out))
        clear HO ho6 hg6 HX HE HK
        go_wp2
        go_ret
        exact HEE.out
      · have HEE : Hid (NewF (putL l nm da) w (.returned (.slice va out.length vc)) wr) := hide (newF_of HX.out (by
          have hk2 := HK.out
          rw [HE.out] at hk2
          have e : putL l nm da = out := by simp [putL, hk2]
          rw [e]
          exact HO.out))
        clear HE HK
        go_wp2
        go_ret
        exact HEE.out
end Go.Proofs.YtiilkkdbifhojaaGreat
/- The contracts of the model's l8Files, l8Form, l8Same. -/
namespace Go.Proofs.YtiilkkdbifhojaaGreat
open Go.ChangeShapes Go.WideShapes Go.ChangeAt Go.RowKit
set_option linter.unusedVariables false
set_option maxRecDepth 100000
theorem later_val {P : Program} {f : FuncId} {args : Array Value} {W : World} {x : Later W} {b b' : Bool} (e : b = b') (h : Calls P f args x.w fun e w'' => e = .returned (.bool b) ∧ ∃ y : Later W, w'' = y.w) : Calls P f args x.w fun e w'' => e = .returned (.bool b') ∧ ∃ y : Later W, w'' = y.w := by rw [← e]; exact h
theorem later_int2 {P : Program} {f : FuncId} {args : Array Value} {W : World} {x : Later W} {b b' : Int} (e : b = b') (h : Calls P f args x.w fun e w'' => e = .returned (.int .i64 b) ∧ ∃ y : Later W, w'' = y.w) : Calls P f args x.w fun e w'' => e = .returned (.int .i64 b') ∧ ∃ y : Later W, w'' = y.w := by rw [← e]; exact h
def SmG0 (l : List Fl) : Prop := ∀ f ∈ l, f.nm.size ≤ 4194304 ∧ f.da.size ≤ 4194304
def SmG (l : List Fl) : Prop := ∀ f ∈ l, f.nm.size ≤ 4194304 ∧ f.da.size ≤ 67108864
theorem SmG0.up {l : List Fl} (h : SmG0 l) : SmG l := fun f hf => by have := h f hf; exact ⟨by omega, by omega⟩
theorem SmF.g0 {l : List Fl} (h : SmF l) : SmG0 l := fun f hf => by have := h f hf; exact ⟨by omega, by omega⟩
theorem SmF.g {l : List Fl} (h : SmF l) : SmG l := fun f hf => by have := h f hf; exact ⟨by omega, by omega⟩
theorem filesB_end {l : List Fl} (h60 : l.length ≤ 60) (h : allTo (flB l) l.length = true) : filesB l = decide ((datL l : Int) ≤ 200000) := by simp [filesB, h60, h]
theorem filesB_no {l : List Fl} {k : Nat} (hk : k < l.length) (h : flB l k = false) : filesB l = false := by simp [filesB, allTo_false hk h]
theorem le_of_not {x y : ByteArray} (h : Op.bytesLess x.toList y.toList = false) (h' : Op.bytesLess y.toList x.toList = false) : (y.toList == x.toList) = true := by
  rw [less_eq] at h h'
  simp only [decide_eq_false_iff_not] at h h'
  exact beq_iff_eq.2 (List.le_antisymm (List.not_lt.1 h) (List.not_lt.1 h'))
theorem not_le_of {x y : ByteArray} (h : Op.bytesLess x.toList y.toList = true) : Op.bytesLess y.toList x.toList = false ∧ (y.toList == x.toList) = false := by
  rw [less_eq] at h ⊢
  simp only [decide_eq_true_eq] at h
  refine ⟨by simpa using List.le_of_lt h, ?_⟩
  rw [beq_eq_false_iff_ne]
  intro e
  rw [e] at h
  exact List.lt_irrefl _ h
set_option maxHeartbeats 4000000 in
theorem l8Files_any (a : Option Addr) (l : List Fl) (cap : Nat) (w : World) (hl : l.length ≤ 1048576) (hs : SmG l) (h : RowAt 2 flCells w a l) :
    Calls Tryz.prog 41 #[.slice a l.length cap] w fun e w' => e = .returned (.bool (filesB l)) ∧ Below w.heap.size w w' := by
  have HC : Hid _ := hide h
  have HS : Hid _ := hide hs
  clear h hs
  by_cases h60 : l.length ≤ 60
  · have a2 : ¬ (60 : Int) < (l.length : Int) := by omega
    go_enter Tryz.func41, Tryz.ntmps41
    go_wp2
    go_loopw [3, 4] (fun s i wr => ∃ (k : Nat) (z : Nat), k ≤ l.length ∧ i = .int .i64 (k : Int) ∧ s = .int .i64 (z : Int) ∧ Hid (z = datL (l.take k)) ∧ z ≤ 4093640704 ∧ Hid (Below w.heap.size w wr) ∧ Hid (allTo (flB l) k = true)) (fun s i wr => l.length - (intOf i).toNat)
    case atStart => exact ⟨0, 0, Nat.zero_le _, rfl, rfl, hide (by simp [datL]), by omega, hide (Below.refl _ _), hide rfl⟩
    case round =>
      obtain ⟨k, z, hk, rfl, rfl, HZ, hz, HB, HG⟩ := hrel
      by_cases hlt : k < l.length
      · have hlt' : (k : Int) < (l.length : Int) := by omega
        obtain ⟨b, off, rfl, hb, c0, c1⟩ := fl_row (HC.out.below HB.out) k hlt
        have s1 := (HS.out _ (List.getElem_mem hlt)).1
        have s2 := (HS.out _ (List.getElem_mem hlt)).2
        have HZ2 : Hid (z + (l[k]).da.size = datL (l.take (k + 1))) := hide (by rw [HZ.out, datL_next l k hlt])
        have hz2 : z + (l[k]).da.size ≤ 4093640704 := by rw [HZ2.out]; exact dat_take (by omega) (fun f hf => (HS.out f hf).2) _
        have d0 := later_cell c0
        have d1 := later_cell c1
        have hne : Nonempty (Later wr) := later_there _
        cases q1 : nmB (l[k]).nm
        · have HR : Hid (filesB l = false) := hide (filesB_no hlt (by rw [flB_at hlt, q1]; rfl))
          go_wp2_with fail
          refine wp_region_later wr (by kernel_rfl) (by kernel_rfl) ((Below.refl _ _).drew) ?_
          repeat (go_big_quiet_step (first | (go_at_call 52; exact later_val q1 (later_same (l8Name_any _ _ s1)))))
          refine wpQuiet_nil ?_
          intro _ hw'
          obtain ⟨nx, rfl⟩ := hw'
          go_wp2
          go_ret
          exact ⟨by rw [HR.out]; rfl, below_trans HB.out nx.below⟩
        · by_cases hz0 : k = 0
          · have hri : Hid (risesN l k = true) := hide (by rw [hz0]; rfl)
            have hz' : decide ((0 : Int) < (k : Int)) = false := by simp; omega
            have hz'' : decide (0 < k) = false := by simp; omega
            clear hz0
            have HG2 : Hid (allTo (flB l) (k + 1) = true) := hide (allTo_step HG.out (by rw [flB_at hlt, q1, hri.out]; rfl))
            go_wp2_with fail
            refine wp_region_later wr (by kernel_rfl) (by kernel_rfl) ((Below.refl _ _).drew) ?_
            repeat (go_big_quiet_step (first | (go_at_call 52; exact later_val q1 (later_same (l8Name_any _ _ s1)))))
            refine wpQuiet_nil ?_
            intro _ hw'
            obtain ⟨nx, rfl⟩ := hw'
            have e1 := d1 nx
            go_wp2
            exact ⟨⟨k + 1, z + (l[k]).da.size, by omega, by go_num, by go_num, HZ2, hz2, hide (below_trans HB.out nx.below), HG2⟩, by simp [intOf]; omega⟩
          · obtain ⟨m, hm⟩ : ∃ m, k = m + 1 := ⟨k - 1, by omega⟩
            have hm3 : m < l.length := by omega
            obtain ⟨b', off', heq, _, p0, _⟩ := fl_row (HC.out.below HB.out) m hm3
            simp only [Option.some.injEq, Addr.mk.injEq, and_true] at heq
            obtain ⟨rfl, rfl⟩ := heq
            have f0 := later_cell p0
            have hz' : (0 : Int) < (k : Int) := by omega
            have hm1 : IntKind.i64.wrap ((k : Int) - 1) = (m : Int) := wrap_pred hm (by omega)
            have hm2 : (m : Int) < (l.length : Int) := by omega
            have hz'' : 0 < k := by omega
            have hrs : risesN l k = Op.bytesLess (l[m]).nm.toList (l[k]).nm.toList := by subst hm; exact rises_fl hlt
            cases q2 : Op.bytesLess (l[m]).nm.toList (l[k]).nm.toList
            · have HR : Hid (filesB l = false) := hide (filesB_no hlt (by rw [flB_at hlt, q1, hrs, q2]; rfl))
              clear hrs hm hz0
              cases e1 : Op.bytesLess (l[k]).nm.toList (l[m]).nm.toList
              · have e2 := le_of_not q2 e1
                go_wp2_with fail
                refine wp_region_later wr (by kernel_rfl) (by kernel_rfl) ((Below.refl _ _).drew) ?_
                repeat (go_big_quiet_step (first | (go_at_call 52; exact later_val q1 (later_same (l8Name_any _ _ s1)))))
                refine wpQuiet_nil ?_
                intro _ hw'
                obtain ⟨nx, rfl⟩ := hw'
                go_wp2
                go_ret
                exact ⟨by rw [HR.out]; rfl, below_trans HB.out nx.below⟩
              · go_wp2_with fail
                refine wp_region_later wr (by kernel_rfl) (by kernel_rfl) ((Below.refl _ _).drew) ?_
                repeat (go_big_quiet_step (first | (go_at_call 52; exact later_val q1 (later_same (l8Name_any _ _ s1)))))
                refine wpQuiet_nil ?_
                intro _ hw'
                obtain ⟨nx, rfl⟩ := hw'
                go_wp2
                go_ret
                exact ⟨by rw [HR.out]; rfl, below_trans HB.out nx.below⟩
            · have HG2 : Hid (allTo (flB l) (k + 1) = true) := hide (allTo_step HG.out (by rw [flB_at hlt, q1, hrs, q2]; rfl))
              obtain ⟨t1, t2⟩ := not_le_of q2
              clear hrs hm hz0
              go_wp2_with fail
              refine wp_region_later wr (by kernel_rfl) (by kernel_rfl) ((Below.refl _ _).drew) ?_
              repeat (go_big_quiet_step (first | (go_at_call 52; exact later_val q1 (later_same (l8Name_any _ _ s1)))))
              refine wpQuiet_nil ?_
              intro _ hw'
              obtain ⟨nx, rfl⟩ := hw'
              have e1 := d1 nx
              go_wp2
              exact ⟨⟨k + 1, z + (l[k]).da.size, by omega, by go_num, by go_num, HZ2, hz2, hide (below_trans HB.out nx.below), HG2⟩, by simp [intOf]; omega⟩
      · have hk' : ¬ (k : Int) < (l.length : Int) := by omega
        have HE : Hid (filesB l = decide ((z : Int) ≤ 200000)) := hide (by
          have hkk : k = l.length := by omega
          have h1 := HG.out
          rw [hkk] at h1
          rw [filesB_end h60 h1, HZ.out, hkk, List.take_length])
        clear HZ
        go_wp2
        go_ret
        exact ⟨by rw [HE.out]; rfl, HB.out⟩
  · have HR : Hid (filesB l = false) := hide (by simp [filesB, h60])
    have a2 : (60 : Int) < (l.length : Int) := by omega
    go_enter Tryz.func41, Tryz.ntmps41
    go_wp2
    go_ret
    exact ⟨by rw [HR.out]; rfl, Below.refl _ _⟩
set_option maxHeartbeats 4000000 in
theorem l8Same_any (a c : Option Addr) (l l' : List Fl) (ca cc : Nat) (w : World) (hl : l.length ≤ 1048576) (hl' : l'.length ≤ 1048576) (h : RowAt 2 flCells w a l) (h' : RowAt 2 flCells w c l') :
    Calls Tryz.prog 44 #[.slice a l.length ca, .slice c l'.length cc] w fun e w' => e = .returned (.bool (decide (l = l'))) ∧ Below w.heap.size w w' := by
  have HC : Hid _ := hide h
  have HC' : Hid _ := hide h'
  clear h h'
  by_cases hln : l.length = l'.length
  · have hln' : ((l.length : Int) != (l'.length : Int)) = false := by simp; omega
    have HLN : Hid _ := hide hln
    clear hln
    go_enter Tryz.func44, Tryz.ntmps44
    go_wp2
    go_loopw [5] (fun i wr => ∃ (k : Nat), k ≤ l.length ∧ i = .int .i64 (k : Int) ∧ Hid (Below w.heap.size w wr) ∧ Hid (∀ j (hj : j < l.length) (hj' : j < l'.length), j < k → l[j] = l'[j])) (fun i wr => l.length - (intOf i).toNat)
    case atStart => exact ⟨0, Nat.zero_le _, rfl, hide (Below.refl _ _), hide (fun j _ _ hj => by omega)⟩
    case round =>
      obtain ⟨k, hk, rfl, HB, HE⟩ := hrel
      by_cases hlt : k < l.length
      · have hlt' : (k : Int) < (l.length : Int) := by omega
        have hl2 : k < l'.length := by have := HLN.out; omega
        have hl3 : (k : Int) < (l'.length : Int) := by omega
        obtain ⟨b, off, rfl, hb, c0, c1⟩ := fl_row (HC.out.below HB.out) k hlt
        obtain ⟨b', off', rfl, hb', p0, p1⟩ := fl_row (HC'.out.below HB.out) k hl2
        by_cases he : l[k] = l'[k]
        · have HE2 : Hid (∀ j (hj : j < l.length) (hj' : j < l'.length), j < k + 1 → l[j] = l'[j]) := hide (fun j hj hj' hjk => by
            rcases Nat.lt_or_ge j k with h | h
            · exact HE.out j hj hj' h
            · obtain rfl : j = k := by omega
              exact he)
          rw [← he] at p0 p1
          clear he
          go_wp2_with fail
          go_quiet (fail)
          go_wp2
          exact ⟨⟨k + 1, by omega, by go_num, hide (below_drewN HB.out _), HE2⟩, by simp [intOf]; omega⟩
        · have HR : Hid (decide (l = l') = false) := hide (by simp; intro e; exact he (by simp [e]))
          have hnn : ((l[k]).nm.toList == (l'[k]).nm.toList && (l[k]).da.toList == (l'[k]).da.toList) = false := by
            rw [Bool.eq_false_iff]
            intro e
            simp only [Bool.and_eq_true] at e
            exact he (by
              have e1 := beq_bytes.1 e.1
              have e2 := beq_bytes.1 e.2
              revert e1 e2
              cases l[k]; cases l'[k]; simp_all)
          clear he
          cases e1 : ((l[k]).nm.toList == (l'[k]).nm.toList)
          · go_wp2_with fail
            go_quiet (fail)
            go_wp2
            go_ret
            exact ⟨by rw [HR.out]; rfl, below_drewN HB.out _⟩
          · rw [e1, Bool.true_and] at hnn
            go_wp2_with fail
            go_quiet (fail)
            go_wp2
            go_ret
            exact ⟨by rw [HR.out]; rfl, below_drewN HB.out _⟩
      · have hk' : ¬ (k : Int) < (l.length : Int) := by omega
        have HR : Hid (decide (l = l') = true) := hide (by
          simp only [decide_eq_true_eq]
          have := HLN.out
          exact List.ext_getElem this (fun i h1 h2 => HE.out i h1 h2 (by omega)))
        go_wp2
        go_ret
        exact ⟨by rw [HR.out]; rfl, HB.out⟩
  · have HR : Hid (decide (l = l') = false) := hide (by simp; intro e; exact hln (by rw [e]))
    have hln' : ((l.length : Int) != (l'.length : Int)) = true := by simp; omega
    go_enter Tryz.func44, Tryz.ntmps44
    go_wp2
    go_ret
    exact ⟨by rw [HR.out]; rfl, Below.refl _ _⟩
end Go.Proofs.YtiilkkdbifhojaaGreat
/- The contracts of the model's l8Form, l8Do and DiskOk. -/
namespace Go.Proofs.YtiilkkdbifhojaaGreat
open Go.ChangeShapes Go.WideShapes Go.ChangeAt Go.RowKit
set_option linter.unusedVariables false
set_option maxRecDepth 100000
set_option maxHeartbeats 4000000 in
theorem l8Form_any (o : Dp) (w : World) (hs : SmO o) :
    Calls Tryz.prog 43 #[.agg #[.int .i64 o.kind, .string o.nm, .string o.tn, .string o.da]] w fun e w' => e = .returned (.bool (formB o)) ∧ Below w.heap.size w w' := by
  obtain ⟨s1, s2, s3⟩ := hs
  cases q0 : inB 1 3 o.kind
  · skip
    have HR : Hid (formB o = _) := hide (by unfold formB; rw [q0])
    go_enter Tryz.func43, Tryz.ntmps43
    go_wp2_with (first | (go_at_call 55; refine (l1In_any _ _ _ _).mono ?_; rintro e w' ⟨rfl, hw'⟩; have hw'' := hw'.symm; subst hw'') | (go_at_call 52; refine (l8Name_any _ _ (by omega)).mono ?_; rintro e w' ⟨rfl, hw'⟩; have hw'' := hw'.symm; subst hw'') | fail)
    go_ret
    exact ⟨by rw [HR.out]; rfl, below_alloc (Below.refl _ _) _⟩
  · skip
    cases q1 : nmB o.nm
    · skip
      have HR : Hid (formB o = _) := hide (by unfold formB; rw [q0, q1])
      go_enter Tryz.func43, Tryz.ntmps43
      go_wp2_with (first | (go_at_call 55; refine (l1In_any _ _ _ _).mono ?_; rintro e w' ⟨rfl, hw'⟩; have hw'' := hw'.symm; subst hw'') | (go_at_call 52; refine (l8Name_any _ _ (by omega)).mono ?_; rintro e w' ⟨rfl, hw'⟩; have hw'' := hw'.symm; subst hw'') | fail)
      go_ret
      exact ⟨by rw [HR.out]; rfl, below_alloc (Below.refl _ _) _⟩
    · skip
      cases q2 : (o.kind == 2)
      · skip
        cases q5 : o.tn.toList.isEmpty
        · skip
          have HR : Hid (formB o = _) := hide (by unfold formB; rw [q0, q1, q2, show emB o.tn = _ from q5])
          go_enter Tryz.func43, Tryz.ntmps43
          go_wp2_with (first | (go_at_call 55; refine (l1In_any _ _ _ _).mono ?_; rintro e w' ⟨rfl, hw'⟩; have hw'' := hw'.symm; subst hw'') | (go_at_call 52; refine (l8Name_any _ _ (by omega)).mono ?_; rintro e w' ⟨rfl, hw'⟩; have hw'' := hw'.symm; subst hw'') | fail)
          go_ret
          exact ⟨by rw [HR.out]; rfl, below_alloc (Below.refl _ _) _⟩
        · skip
          cases q6 : (o.kind == 1)
          · skip
            cases q4 : o.da.toList.isEmpty
            · skip
              have HR : Hid (formB o = _) := hide (by unfold formB; rw [q0, q1, q2, show emB o.tn = _ from q5, q6, show emB o.da = _ from q4])
              go_enter Tryz.func43, Tryz.ntmps43
              go_wp2_with (first | (go_at_call 55; refine (l1In_any _ _ _ _).mono ?_; rintro e w' ⟨rfl, hw'⟩; have hw'' := hw'.symm; subst hw'') | (go_at_call 52; refine (l8Name_any _ _ (by omega)).mono ?_; rintro e w' ⟨rfl, hw'⟩; have hw'' := hw'.symm; subst hw'') | fail)
              go_ret
              exact ⟨by rw [HR.out]; rfl, below_alloc (Below.refl _ _) _⟩
            · skip
              have HR : Hid (formB o = _) := hide (by unfold formB; rw [q0, q1, q2, show emB o.tn = _ from q5, q6, show emB o.da = _ from q4])
              go_enter Tryz.func43, Tryz.ntmps43
              go_wp2_with (first | (go_at_call 55; refine (l1In_any _ _ _ _).mono ?_; rintro e w' ⟨rfl, hw'⟩; have hw'' := hw'.symm; subst hw'') | (go_at_call 52; refine (l8Name_any _ _ (by omega)).mono ?_; rintro e w' ⟨rfl, hw'⟩; have hw'' := hw'.symm; subst hw'') | fail)
              go_ret
              exact ⟨by rw [HR.out]; rfl, below_alloc (Below.refl _ _) _⟩
          · skip
            have HR : Hid (formB o = _) := hide (by unfold formB; rw [q0, q1, q2, show emB o.tn = _ from q5, q6])
            go_enter Tryz.func43, Tryz.ntmps43
            go_wp2_with (first | (go_at_call 55; refine (l1In_any _ _ _ _).mono ?_; rintro e w' ⟨rfl, hw'⟩; have hw'' := hw'.symm; subst hw'') | (go_at_call 52; refine (l8Name_any _ _ (by omega)).mono ?_; rintro e w' ⟨rfl, hw'⟩; have hw'' := hw'.symm; subst hw'') | fail)
            go_ret
            exact ⟨by rw [HR.out]; rfl, below_alloc (Below.refl _ _) _⟩
      · skip
        cases q3 : nmB o.tn
        · skip
          have HR : Hid (formB o = _) := hide (by unfold formB; rw [q0, q1, q2, q3])
          go_enter Tryz.func43, Tryz.ntmps43
          go_wp2_with (first | (go_at_call 55; refine (l1In_any _ _ _ _).mono ?_; rintro e w' ⟨rfl, hw'⟩; have hw'' := hw'.symm; subst hw'') | (go_at_call 52; refine (l8Name_any _ _ (by omega)).mono ?_; rintro e w' ⟨rfl, hw'⟩; have hw'' := hw'.symm; subst hw'') | fail)
          go_ret
          exact ⟨by rw [HR.out]; rfl, below_alloc (Below.refl _ _) _⟩
        · skip
          cases q4 : o.da.toList.isEmpty
          · skip
            have HR : Hid (formB o = _) := hide (by unfold formB; rw [q0, q1, q2, q3, show emB o.da = _ from q4])
            go_enter Tryz.func43, Tryz.ntmps43
            go_wp2_with (first | (go_at_call 55; refine (l1In_any _ _ _ _).mono ?_; rintro e w' ⟨rfl, hw'⟩; have hw'' := hw'.symm; subst hw'') | (go_at_call 52; refine (l8Name_any _ _ (by omega)).mono ?_; rintro e w' ⟨rfl, hw'⟩; have hw'' := hw'.symm; subst hw'') | fail)
            go_ret
            exact ⟨by rw [HR.out]; rfl, below_alloc (Below.refl _ _) _⟩
          · skip
            have HR : Hid (formB o = _) := hide (by unfold formB; rw [q0, q1, q2, q3, show emB o.da = _ from q4])
            go_enter Tryz.func43, Tryz.ntmps43
            go_wp2_with (first | (go_at_call 55; refine (l1In_any _ _ _ _).mono ?_; rintro e w' ⟨rfl, hw'⟩; have hw'' := hw'.symm; subst hw'') | (go_at_call 52; refine (l8Name_any _ _ (by omega)).mono ?_; rintro e w' ⟨rfl, hw'⟩; have hw'' := hw'.symm; subst hw'') | fail)
            go_ret
            exact ⟨by rw [HR.out]; rfl, below_alloc (Below.refl _ _) _⟩
theorem data_at {l : List Fl} {nm : ByteArray} {k : Nat} (h : atL l nm = some k) (hk : k < l.length) : dataL l nm = (l[k]).da := by
  unfold dataL
  rw [h]
  simp only [List.getElem?_eq_getElem hk]
def DoEnd (l : List Fl) (o : Dp) (w : World) (e : Ending) (w' : World) : Prop := Below w.heap.size w w' ∧ ∃ v, e = .returned (.tuple #[v, .bool (doL l o).2]) ∧ w'.ownsRow w.heap.size 71 2 v (doL l o).1.length ((doL l o).1.flatMap flCells)
theorem own_from {l : List Fl} {w w' : World} {base : Nat} {v : Value} (h : w'.ownsRow base 71 2 v l.length (l.flatMap flCells)) (hb : w.heap.size ≤ base) : w'.ownsRow w.heap.size 71 2 v l.length (l.flatMap flCells) := by
  obtain ⟨hl, h0 | ⟨g, cap, cur, h1, hg, r⟩⟩ := h
  · exact ⟨hl, .inl h0⟩
  · exact ⟨hl, .inr ⟨g, cap, cur, h1, Nat.le_trans hb hg, r⟩⟩
abbrev S2c (p q : Addr) (u v : Value) (W x : World) : Prop := x.cell? p = some u ∧ x.cell? q = some v ∧ Hid (Below W.heap.size W x)
theorem S2c.of {p q : Addr} {u v : Value} {W x : World} (h1 : W.cell? p = some u) (h2 : W.cell? q = some v) (b : Below W.heap.size W x) : S2c p q u v W x := ⟨below_keeps b _ _ h1, below_keeps b _ _ h2, hide b⟩
theorem S2c.on {p q : Addr} {u v : Value} {W x y : World} (h : S2c p q u v W x) (b : Below x.heap.size x y) : S2c p q u v W y := ⟨below_keeps b _ _ h.1, below_keeps b _ _ h.2.1, hide (below_trans h.2.2.out b)⟩
set_option maxHeartbeats 4000000 in
theorem l8Do_any (a : Option Addr) (l : List Fl) (cap : Nat) (o : Dp) (w : World) (hl : l.length ≤ 400) (hcap : a = none → cap = 0) (hs : SmG l) (ho : SmO o) (h : RowAt 2 flCells w a l) :
    Calls Tryz.prog 42 #[.slice a l.length cap, .agg #[.int .i64 o.kind, .string o.nm, .string o.tn, .string o.da]] w fun e w' => DoEnd l o w e w' := by
  have HC : Hid _ := hide h
  have HS : Hid _ := hide hs
  have HO : Hid _ := hide ho
  have HCP : Hid _ := hide hcap
  obtain ⟨s1, s2, s3⟩ := ho
  clear h hs hcap
  obtain ⟨i0, hi0, hz0, hz1, hz2⟩ := info_parts infoF
  have hu := huF
  have HB0 : Hid (Below w.heap.size w (w.alloc (.cells #[.int .i64 o.kind, .string o.nm, .string o.tn, .string o.da] 50))) := hide (below_alloc (Below.refl _ _) _)
  have HC0 : Hid (RowAt 2 flCells (w.alloc (.cells #[.int .i64 o.kind, .string o.nm, .string o.tn, .string o.da] 50)) a l) := hide (HC.out.below HB0.out)
  go_enter Tryz.func42, Tryz.ntmps42
  go_wp2_with fail
  refine (l8At_any a l cap o.nm _ (by omega) HC0.out).mono ?_
  rintro e w1 ⟨rfl, hw1⟩
  have hsz1 : w.heap.size < w1.heap.size := by rw [hw1]; simp
  have x0 : w1.cell? ⟨w.heap.size, 0, none⟩ = some (.int .i64 o.kind) := by rw [hw1]; exact World.cell?_alloc_at _ _ _ _ rfl
  have x1 : w1.cell? ⟨w.heap.size, 1, none⟩ = some (.string o.nm) := by rw [hw1]; exact World.cell?_alloc_at _ _ _ _ rfl
  have x2 : w1.cell? ⟨w.heap.size, 2, none⟩ = some (.string o.tn) := by rw [hw1]; exact World.cell?_alloc_at _ _ _ _ rfl
  have x3 : w1.cell? ⟨w.heap.size, 3, none⟩ = some (.string o.da) := by rw [hw1]; exact World.cell?_alloc_at _ _ _ _ rfl
  have HB1 : Hid (Below w.heap.size w w1) := hide (by rw [hw1]; exact HB0.out)
  have HC1 : Hid (RowAt 2 flCells w1 a l) := hide (by rw [hw1]; exact HC0.out)
  have HS1 : Hid (w.heap.size ≤ w1.heap.size) := hide (Nat.le_of_lt hsz1)
  clear hw1 HB0 HC0
  cases hat : atL l o.nm with
  | none =>
    cases q1 : (o.kind == 1)
    · have HE : Hid (doL l o = (l, false)) := hide (by simp [doL, q1, hat])
      simp only [ixV]
      go_wp2_with (first | (at_builtin; refine Shut2.mk ?_) | fail)
      refine Shut2.mk' ?_
      refine wpList_append_any rfl _ _ 24 rfl w.heap.size 71 i0 _ 2 32 hu hi0 hz0 hz1 hz2 rfl (by decide) (.slice (some ⟨w1.heap.size, 0, none⟩) 0 0) 0 [] rfl (World.ownsRow_made w1 #[] 0 HS1.out (by unfold maxLen; omega) rfl) a l.length cap (l.flatMap flCells) rfl (flat_len flCells 2 flLen l) (fun e => ⟨row_none HC1.out e, HCP.out e⟩) (RowAt.news_any flLen (by decide) (HC1.out.below (below_alloc (Below.refl _ _) _))) (fl_one l) (by unfold maxLen; omega) (by omega) (by have := HS1.out; simp; omega) ?_
      intro v2 w2 ho2 hg2 _
      have HB2 : Hid (Below w.heap.size w w2) := hide ((below_alloc HB1.out _).grown hg2 (by have := HS1.out; simp; omega) (fun j hj => by
        simp only [Value.ownBlock, Option.some.injEq] at hj
        have := HS1.out
        omega))
      have HO2 : Hid _ := hide ho2
      clear ho2 hg2
      go_wp2
      exact bodyPost_ret (v := .tuple #[v2, .bool false]) (by simp [results, Tryz.results42, go_sem]) rfl ⟨HB2.out, v2, by rw [HE.out], by rw [HE.out]; simpa using HO2.out⟩
    · have HE : Hid (doL l o = (putL l o.nm o.da, true)) := hide (by simp [doL, appD, q1, hat])
      simp only [ixV]
      go_wp2_with fail
      refine (l8Put_any a l cap o.nm o.da w1 (by omega) HC1.out).mono ?_
      rintro e w2 ⟨hb2, v2, rfl, ho2⟩
      have HB2 : Hid _ := hide (below_trans HB1.out hb2)
      have HO2 : Hid _ := hide (own_from ho2 HS1.out)
      clear hb2 ho2
      go_wp2
      exact bodyPost_ret (v := .tuple #[v2, .bool true]) (by simp [results, Tryz.results42, go_sem]) rfl ⟨HB2.out, v2, by rw [HE.out], by rw [HE.out]; exact HO2.out⟩
  | some k =>
    obtain ⟨hk, hnm⟩ := at_some hat
    have hda := data_at hat hk
    obtain ⟨b, off, rfl, hb, c0, c1⟩ := fl_row HC1.out k hk
    have hk' : (k : Int) < (l.length : Int) := by omega
    have s5 := (HS.out _ (List.getElem_mem hk)).2
    cases q1 : (o.kind == 1)
    · cases q2 : (o.kind == 2)
      · have HE : Hid (doL l o = (cutL l o.nm, true)) := hide (by simp [doL, q1, q2, hat])
        simp only [ixV]
        go_wp2_with fail
        refine (l8Cut_any _ l cap o.nm w1 (by omega) HC1.out).mono ?_
        rintro e w2 ⟨hb2, v2, rfl, ho2⟩
        have y0 : w2.cell? ⟨w.heap.size, 0, none⟩ = some (.int .i64 o.kind) := (hb2.cell hsz1).trans x0
        have hsz2 : w.heap.size < w2.heap.size := Nat.lt_of_lt_of_le hsz1 hb2.size
        have HB2 : Hid _ := hide (below_trans HB1.out hb2)
        have HO2 : Hid _ := hide (own_from ho2 HS1.out)
        clear hb2 ho2
        go_wp2
        exact bodyPost_ret (v := .tuple #[v2, .bool true]) (by simp [results, Tryz.results42, go_sem]) rfl ⟨HB2.out, v2, by rw [HE.out], by rw [HE.out]; exact HO2.out⟩
      · have HE : Hid (doL l o = (putL (cutL l o.nm) o.tn (l[k]).da, true)) := hide (by simp [doL, q1, q2, hat, hda])
        simp only [ixV]
        go_wp2_with fail
        refine (l8Cut_any _ l cap o.nm w1 (by omega) HC1.out).mono ?_
        rintro e w2 ⟨hb2, v2, rfl, ho2⟩
        have y0 : w2.cell? ⟨w.heap.size, 0, none⟩ = some (.int .i64 o.kind) := (hb2.cell hsz1).trans x0
        have y2 : w2.cell? ⟨w.heap.size, 2, none⟩ = some (.string o.tn) := (hb2.cell hsz1).trans x2
        have d1 : w2.cell? ⟨b, off + k * 2 + 1, none⟩ = some (.string (l[k]).da) := (hb2.cell hb).trans c1
        have hb' : b < w2.heap.size := Nat.lt_of_lt_of_le hb hb2.size
        have hsz2 : w.heap.size < w2.heap.size := Nat.lt_of_lt_of_le hsz1 hb2.size
        obtain ⟨a2, c2, rfl, hr2, _⟩ := own_read ho2
        have HB2 : Hid _ := hide (below_trans HB1.out hb2)
        have HR2 : Hid _ := hide hr2
        have HCL : Hid ((cutL l o.nm).length ≤ 400) := hide (Nat.le_trans (cutL_len l o.nm) hl)
        have HWS : Hid (w.heap.size ≤ w2.heap.size) := hide (Nat.le_of_lt hsz2)
        clear hb2 ho2 hr2
        have HPX : Hid (∀ x, S2c ⟨w.heap.size, 2, none⟩ ⟨b, off + k * 2 + 1, none⟩ (.string o.tn) (.string (l[k]).da) w2 x → Calls Tryz.prog 53 #[.slice a2 (cutL l o.nm).length c2, .string o.tn, .string (l[k]).da] x fun e w' => NewF (putL (cutL l o.nm) o.tn (l[k]).da) x e w') := hide (fun x hx => l8Put_any a2 (cutL l o.nm) c2 o.tn (l[k]).da x (by have := HCL.out; omega) (HR2.out.below hx.2.2.out))
        go_wp2_with fail
        go_region_held (fun x => x.cell? ⟨w.heap.size, 2, none⟩ = some (.string o.tn) ∧ x.cell? ⟨b, off + k * 2 + 1, none⟩ = some (.string (l[k]).da) ∧ Hid (Below w2.heap.size w2 x))
          (first | with_reducible exact S2c.of y2 d1 (Below.refl _ _).drew | with_reducible exact S2c.on (by assumption) (by assumption) | with_reducible assumption)
          (first | (go_at_call 53; refine (HPX.out _ (by assumption)).mono ?_; rintro e w3 ⟨hb3, v3, rfl, ho3⟩))
        have HB3 : Hid (Below w2.heap.size w2 w3) := (by assumption : S2c ⟨w.heap.size, 2, none⟩ ⟨b, off + k * 2 + 1, none⟩ (.string o.tn) (.string (l[k]).da) w2 w3).2.2
        have HO3 : Hid (w3.ownsRow w.heap.size 71 2 v3 (putL (cutL l o.nm) o.tn (l[k]).da).length ((putL (cutL l o.nm) o.tn (l[k]).da).flatMap flCells)) := hide (own_from ho3 HWS.out)
        have HB4 : Hid (Below w.heap.size w w3) := hide (below_trans HB2.out HB3.out)
        clear hb3 ho3
        go_wp2
        exact bodyPost_ret (v := .tuple #[v3, .bool true]) (by simp [results, Tryz.results42, go_sem]) rfl ⟨HB4.out, v3, by rw [HE.out], by rw [HE.out]; exact HO3.out⟩
    · have HE : Hid (doL l o = (putL l o.nm ((l[k]).da ++ o.da), true)) := hide (by simp [doL, appD, q1, hat, hda])
      simp only [ixV]
      go_wp2_with fail
      refine (l8Put_any _ l cap o.nm ((l[k]).da ++ o.da) w1 (by omega) HC1.out).mono ?_
      rintro e w2 ⟨hb2, v2, rfl, ho2⟩
      have HB2 : Hid _ := hide (below_trans HB1.out hb2)
      have HO2 : Hid _ := hide (own_from ho2 HS1.out)
      clear hb2 ho2
      go_wp2
      exact bodyPost_ret (v := .tuple #[v2, .bool true]) (by simp [results, Tryz.results42, go_sem]) rfl ⟨HB2.out, v2, by rw [HE.out], by rw [HE.out]; exact HO2.out⟩
end Go.Proofs.YtiilkkdbifhojaaGreat
/- The contract of the model's DiskOk. -/
namespace Go.Proofs.YtiilkkdbifhojaaGreat
open Go.ChangeShapes Go.WideShapes Go.ChangeAt Go.RowKit
set_option linter.unusedVariables false
set_option maxRecDepth 100000
theorem putS_mem {nm da : ByteArray} {st : List Fl × Bool} {x f : Fl} (h : f ∈ (putS nm da st x).1) : f ∈ st.1 ∨ f = ⟨nm, da⟩ ∨ f = x := by
  unfold putS at h
  simp only at h
  by_cases h1 : (x.nm.toList == nm.toList) = true
  · rw [if_pos h1] at h
    by_cases h2 : (!st.2 && !Op.bytesLess x.nm.toList nm.toList) = true
    · rw [if_pos h2] at h
      simp only [List.mem_append, List.mem_singleton] at h
      rcases h with h | h
      · exact .inl h
      · exact .inr (.inl h)
    · rw [if_neg h2] at h
      exact .inl h
  · rw [if_neg h1] at h
    by_cases h2 : (!st.2 && !Op.bytesLess x.nm.toList nm.toList) = true
    · rw [if_pos h2] at h
      simp only [List.mem_append, List.mem_singleton] at h
      rcases h with (h | h) | h
      · exact .inl h
      · exact .inr (.inl h)
      · exact .inr (.inr h)
    · rw [if_neg h2] at h
      simp only [List.mem_append, List.mem_singleton] at h
      rcases h with h | h
      · exact .inl h
      · exact .inr (.inr h)
theorem putK_mem (l : List Fl) (nm da : ByteArray) : ∀ k, ∀ f ∈ (putK l nm da k).1, f ∈ l ∨ f = ⟨nm, da⟩
  | 0 => by simp [putK]
  | k + 1 => by
    have ih := putK_mem l nm da k
    rcases Nat.lt_or_ge k l.length with h | h
    · rw [putK_next l nm da k h]
      intro f hf
      rcases putS_mem hf with hf | hf | rfl
      · exact ih f hf
      · exact .inr hf
      · exact .inl (List.getElem_mem h)
    · have e : putK l nm da (k + 1) = putK l nm da k := by
        unfold putK
        rw [List.take_of_length_le (by omega), List.take_of_length_le (by omega)]
      rw [e]; exact ih
theorem putL_mem {l : List Fl} {nm da : ByteArray} {f : Fl} (h : f ∈ putL l nm da) : f ∈ l ∨ f = ⟨nm, da⟩ := by
  unfold putL at h
  split at h
  · exact putK_mem l nm da _ f h
  · simp only [List.mem_append, List.mem_singleton] at h
    rcases h with h | h
    · exact putK_mem l nm da _ f h
    · exact .inr h
theorem putL_len (l : List Fl) (nm da : ByteArray) : (putL l nm da).length ≤ 2 * l.length + 1 := by
  have := putK_len l nm da l.length
  unfold putL
  split <;> simp <;> omega
theorem dataL_size {l : List Fl} {nm : ByteArray} {M : Nat} (h : ∀ f ∈ l, f.da.size ≤ M) : (dataL l nm).size ≤ M := by
  unfold dataL
  split
  · simp
  · split
    · simp
    · rename_i k _ f hf
      exact h f (List.mem_of_getElem? hf)
theorem doL_small {l : List Fl} {o : Dp} (h : filesB l = true) (ho : SmO o) : SmG0 (doL l o).1 ∧ (doL l o).1.length ≤ 200 := by
  have hs := filesB_small h
  have h60 := (filesB_parts h).1
  have hd : (dataL l o.nm).size ≤ 200000 := dataL_size (fun f hf => (hs f hf).2)
  have sG : ∀ f ∈ l, f.nm.size ≤ 4194304 ∧ f.da.size ≤ 4194304 := fun f hf => by have := hs f hf; exact ⟨by omega, by omega⟩
  have sC : ∀ f ∈ cutL l o.nm, f ∈ l := fun f hf => (List.mem_filter.1 hf).1
  obtain ⟨o1, o2, o3⟩ := ho
  have lc := cutL_len l o.nm
  unfold doL
  split
  · have hl := putL_len l o.nm (appD l o.nm o.da)
    refine ⟨fun f hf => ?_, by simp only; omega⟩
    rcases putL_mem hf with hf | rfl
    · exact sG f hf
    · refine ⟨by show o.nm.size ≤ _; omega, ?_⟩
      show (appD l o.nm o.da).size ≤ _
      unfold appD
      split
      · omega
      · rw [ByteArray.size_append]; omega
  · split
    · exact ⟨sG, by simp only; omega⟩
    · simp only
      split
      · have hl := putL_len (cutL l o.nm) o.tn (dataL l o.nm)
        refine ⟨fun f hf => ?_, by omega⟩
        rcases putL_mem hf with hf | rfl
        · exact sG f (sC f hf)
        · exact ⟨by show o.tn.size ≤ _; omega, by show (dataL l o.nm).size ≤ _; omega⟩
      · exact ⟨fun f hf => sG f (sC f hf), by omega⟩
theorem diskB_run {live safe : List Fl} {ops : List Dp} (h1 : filesB live = true) (h2 : filesB safe = true) (h3 : ops.length ≤ 200) : diskB ⟨live, safe, ops⟩ = isRun (runL safe ops) live := by simp [diskB, h1, h2, h3]
theorem diskB_stop {live safe : List Fl} {ops : List Dp} {k : Nat} (hk : k < ops.length) {now : List Fl} (hr : runL safe (ops.take k) = some now) (hs : stepL now ops[k] = none) : diskB ⟨live, safe, ops⟩ = false := by
  have e : runL safe ops = none := runL_none safe ops (k + 1) (by rw [runL_next safe ops k hk hr]; exact hs)
  simp [diskB, e, isRun]
set_option maxHeartbeats 8000000 in
theorem specDiskOk_any (la sa oa : Option Addr) (lc sc oc : Nat) (live safe : List Fl) (ops : List Dp) (w : World) (hl : live.length ≤ 1048576) (hs : safe.length ≤ 1048576) (hn : ops.length ≤ 1048576) (gl : SmF live) (gs : SmF safe) (go : ∀ o ∈ ops, SmO o) (hsc : sa = none → sc = 0)
    (h1 : RowAt 2 flCells w la live) (h2 : RowAt 2 flCells w sa safe) (h3 : RowAt 4 dpCells w oa ops) :
    Calls Tryz.prog 21 #[.agg #[.slice la live.length lc, .slice sa safe.length sc, .slice oa ops.length oc]] w fun e w' => e = .returned (.bool (diskB ⟨live, safe, ops⟩)) ∧ Below w.heap.size w w' := by
  have H1 : Hid _ := hide h1
  have H2 : Hid _ := hide h2
  have H3 : Hid _ := hide h3
  have GO : Hid _ := hide go
  have HSC : Hid _ := hide hsc
  clear h1 h2 h3 go hsc
  have HX0 : Hid (Below (w.heap.size + 1) (w.alloc (.cells #[.slice la live.length lc, .slice sa safe.length sc, .slice oa ops.length oc] 27)) (w.alloc (.cells #[.slice la live.length lc, .slice sa safe.length sc, .slice oa ops.length oc] 27))) := hide (Below.refl _ _)
  go_enter Tryz.func21, Tryz.ntmps21
  go_wp2_with fail
  refine (l8Files_any la live lc _ hl gl.g (H1.out.below (box_old HX0.out))).mono ?_
  rintro e w1 ⟨rfl, hb1⟩
  have HX1 : Hid _ := hide (box_on HX0.out hb1)
  clear hb1 HX0
  obtain ⟨x0, x1, x2⟩ := box3 HX1.out
  have xl := box_lt HX1.out
  cases q1 : filesB live
  · have HR : Hid (diskB ⟨live, safe, ops⟩ = false) := hide (by simp [diskB, q1])
    go_wp2
    go_ret
    exact ⟨by rw [HR.out]; rfl, box_old HX1.out⟩
  · go_wp2_with fail
    refine (l8Files_any sa safe sc _ hs gs.g (H2.out.below (box_old HX1.out))).mono ?_
    rintro e w2 ⟨rfl, hb2⟩
    have HX2 : Hid _ := hide (box_on HX1.out hb2)
    clear hb2 HX1 x0 x1 x2 xl
    obtain ⟨x0, x1, x2⟩ := box3 HX2.out
    have xl := box_lt HX2.out
    cases q2 : filesB safe
    · have HR : Hid (diskB ⟨live, safe, ops⟩ = false) := hide (by simp [diskB, q2])
      go_wp2
      go_ret
      exact ⟨by rw [HR.out]; rfl, box_old HX2.out⟩
    · by_cases h200 : ops.length ≤ 200
      · have a2 : ¬ (200 : Int) < (ops.length : Int) := by omega
        have HRUN : Hid _ := hide (diskB_run q1 q2 h200)
        have HQ2 : Hid _ := hide q2
        have h60 : live.length ≤ 60 := (filesB_parts q1).1
        have hs60 : safe.length ≤ 60 := (filesB_parts q2).1
        clear q1 q2
        go_wp2
        go_loopw [3, 4] (fun v i wr => ∃ (k : Nat) (now : List Fl) (na : Option Addr) (nc : Nat), k ≤ ops.length ∧ i = .int .i64 (k : Int) ∧ v = .slice na now.length nc ∧ now.length ≤ 60 ∧ Hid (na = none → nc = 0) ∧ Hid (runL safe (ops.take k) = some now) ∧ Hid (filesB now = true) ∧ Hid (RowAt 2 flCells wr na now) ∧ Hid (Below (w.heap.size + 1) (w.alloc (.cells #[.slice la live.length lc, .slice sa safe.length sc, .slice oa ops.length oc] 27)) wr)) (fun v i wr => ops.length - (intOf i).toNat)
        case atStart => exact ⟨0, safe, sa, sc, Nat.zero_le _, rfl, rfl, hs60, HSC, hide rfl, HQ2, hide (H2.out.below (box_old HX2.out)), HX2⟩
        case round =>
          obtain ⟨k, now, na, nc, hk, rfl, rfl, hnl, HNC, HRK, HFN, HRW, HX⟩ := hrel
          clear x0 x1 x2 xl
          obtain ⟨x0, x1, x2⟩ := box3 HX.out
          have xl := box_lt HX.out
          by_cases hlt : k < ops.length
          · have hlt' : (k : Int) < (ops.length : Int) := by omega
            obtain ⟨b, off, rfl, hb, c0, c1, c2, c3⟩ := dp_row (H3.out.below (box_old HX.out)) k hlt
            have HSO : Hid (SmO ops[k]) := hide (GO.out _ (List.getElem_mem hlt))
            have HDS : Hid _ := hide (doL_small HFN.out HSO.out)
            go_wp2_with fail
            refine (l8Do_any na now nc ops[k] wr (by omega) HNC.out (filesB_sm HFN.out).g HSO.out HRW.out).mono ?_
            rintro e w3 ⟨hb3, v3, rfl, ho3⟩
            obtain ⟨a3, cp3, rfl, hr3, hn3⟩ := own_read ho3
            have HX3 : Hid _ := hide (box_on HX.out hb3)
            have HR3 : Hid _ := hide hr3
            have HN3 : Hid _ := hide hn3
            have hb' : b < w3.heap.size := Nat.lt_of_lt_of_le hb hb3.size
            have d0 : w3.cell? ⟨b, off + k * 4, none⟩ = some (.int .i64 (ops[k]).kind) := (hb3.cell hb).trans c0
            have d1 : w3.cell? ⟨b, off + k * 4 + 1, none⟩ = some (.string (ops[k]).nm) := (hb3.cell hb).trans c1
            have d2 : w3.cell? ⟨b, off + k * 4 + 2, none⟩ = some (.string (ops[k]).tn) := (hb3.cell hb).trans c2
            have d3 : w3.cell? ⟨b, off + k * 4 + 3, none⟩ = some (.string (ops[k]).da) := (hb3.cell hb).trans c3
            clear hb3 ho3 hr3 hn3 HX x0 x1 x2 xl c0 c1 c2 c3 hb
            obtain ⟨x0, x1, x2⟩ := box3 HX3.out
            have xl := box_lt HX3.out
            have HST : Hid (stepL now ops[k] = if (doL now ops[k]).2 && formB ops[k] && filesB (doL now ops[k]).1 then some (doL now ops[k]).1 else none) := hide rfl
            have HLN : Hid ((doL now ops[k]).1.length ≤ 200) := hide HDS.out.2
            have HSG : Hid (SmG (doL now ops[k]).1) := hide HDS.out.1.up
            clear HDS
            generalize (doL now ops[k]).1 = nx at *
            generalize (doL now ops[k]).2 = ok at *
            cases ok
            · have HR : Hid (diskB ⟨live, safe, ops⟩ = false) := hide (diskB_stop hlt HRK.out (by rw [HST.out]; rfl))
              go_wp2
              go_ret
              exact ⟨by rw [HR.out]; rfl, box_old HX3.out⟩
            · go_wp2_with fail
              refine (l8Form_any ops[k] w3 HSO.out).mono ?_
              rintro e w4 ⟨rfl, hb4⟩
              have HX4 : Hid _ := hide (box_on HX3.out hb4)
              have HR4 : Hid _ := hide (HR3.out.below hb4)
              clear hb4 HX3 HR3 x0 x1 x2 xl
              obtain ⟨x0, x1, x2⟩ := box3 HX4.out
              have xl := box_lt HX4.out
              cases q3 : formB ops[k]
              · have HR : Hid (diskB ⟨live, safe, ops⟩ = false) := hide (diskB_stop hlt HRK.out (by rw [HST.out, q3]; rfl))
                go_wp2
                go_ret
                exact ⟨by rw [HR.out]; rfl, box_old HX4.out⟩
              · go_wp2_with fail
                refine (l8Files_any a3 nx cp3 w4 (by have := HLN.out; omega) HSG.out HR4.out).mono ?_
                rintro e w5 ⟨rfl, hb5⟩
                have HX5 : Hid _ := hide (box_on HX4.out hb5)
                have HR5 : Hid _ := hide (HR4.out.below hb5)
                clear hb5 HX4 HR4 x0 x1 x2 xl
                cases q4 : filesB nx
                · have HR : Hid (diskB ⟨live, safe, ops⟩ = false) := hide (diskB_stop hlt HRK.out (by rw [HST.out, q3, q4]; rfl))
                  go_wp2
                  go_ret
                  exact ⟨by rw [HR.out]; rfl, box_old HX5.out⟩
                · have HRK2 : Hid (runL safe (ops.take (k + 1)) = some nx) := hide (by rw [runL_next safe ops k hlt HRK.out, HST.out, q3, q4]; rfl)
                  have hn60 : nx.length ≤ 60 := (filesB_parts q4).1
                  have HQ4 : Hid _ := hide q4
                  clear q3 q4
                  go_wp2
                  exact ⟨⟨k + 1, nx, a3, cp3, by omega, by go_num, rfl, hn60, HN3, HRK2, HQ4, HR5, HX5⟩, by simp [intOf]; omega⟩
          · have hk' : ¬ (k : Int) < (ops.length : Int) := by omega
            have HRR : Hid (diskB ⟨live, safe, ops⟩ = decide (now = live)) := hide (by
              have := HRK.out
              rw [List.take_of_length_le (by omega)] at this
              rw [HRUN.out, this]
              rfl)
            go_wp2_with fail
            refine (l8Same_any na la now live nc lc wr (by omega) (by omega) HRW.out (H1.out.below (box_old HX.out))).mono ?_
            rintro e w3 ⟨rfl, hb3⟩
            have HE : Hid (Below w.heap.size w w3) := hide (below_trans (box_old HX.out) hb3)
            clear hb3
            go_wp2
            go_ret
            exact ⟨by rw [HRR.out]; rfl, HE.out⟩
      · have a2 : (200 : Int) < (ops.length : Int) := by omega
        have HR : Hid (diskB ⟨live, safe, ops⟩ = false) := hide (by simp [diskB, h200])
        go_wp2
        go_ret
        exact ⟨by rw [HR.out]; rfl, box_old HX2.out⟩
end Go.Proofs.YtiilkkdbifhojaaGreat
