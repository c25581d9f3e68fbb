/- The end of a link as data, and the contracts of the small helpers: within, numberOk, l1In, aheadOfOut, parcelOk. -/
import Derived.Test.YtkcpoibhlnjldaaRows
import Derived.WalkKit
import Derived.ProofKit
import Derived.OpenShut
import Derived.ShutString
import Derived.WalkSpells
import Derived.WalkLawsBesides
import Derived.Below
import Derived.Deep.QuietTactic
import Derived.BigQuiet
import Derived.BigRegion
import Derived.Deep.RegionWith
import Derived.Maps.AppendAt
import Derived.OwnWalk
import Derived.Orders
import Derived.Deep.AppendLies
import Derived.Laws.OwnMore
import Derived.Deep.RegionHeld
import Derived.Deep.RegionLaw
namespace Go.Proofs.Ytkcpoibhlnjldaa
open Go.Value renaming int → J, slice → V
open Go.IntKind renaming i64 → Z
open Go.ChangeShapes Go.WideShapes Go.ChangeAt Go.RowKit
set_option linter.unusedVariables false
theorem hide {p : Prop} (h : p) : Hid p := h
theorem below_alloc {w w' : World} (h : Below w.heap.size w w') (o : Obj) : Below w.heap.size w (w'.alloc o) := h.alloc h.size o
theorem below_trans {a b c : World} (h : Below a.heap.size a b) (k : Below b.heap.size b c) : Below a.heap.size a c := h.trans (k.mono h.size)
theorem below_drewN {a w : World} {B : Nat} (h : Below B a w) : ∀ q, Below B a (w.drewN q)
 | 0 => h
 | q + 1 => (below_drewN h q).drew
def inB (lo hi n : Int) : Bool := decide (lo ≤ n ∧ n ≤ hi)
theorem within_any (n lo hi : Int) (w : World) :
  Calls Try.prog 26 #[J Z n, J Z lo, J Z hi] w fun e w' => e = .returned (.bool (inB lo hi n)) ∧ w' = w := by
 by_cases h1 : lo ≤ n
 ·by_cases h2 : n ≤ hi
  ·have HR : Hid (inB lo hi n = true) := hide (by simp [inB, h1, h2])
   go_enter Try.func26, Try.ntmps26
   go_wp2
   go_ret
   exact ⟨by rw [HR.out]; rfl, rfl⟩
  ·have HR : Hid (inB lo hi n = false) := hide (by simp [inB, h1, h2])
   go_enter Try.func26, Try.ntmps26
   go_wp2
   go_ret
   exact ⟨by rw [HR.out]; rfl, rfl⟩
 ·have HR : Hid (inB lo hi n = false) := hide (by simp [inB, h1])
  go_enter Try.func26, Try.ntmps26
  go_wp2
  go_ret
  exact ⟨by rw [HR.out]; rfl, rfl⟩
theorem l1In_any (n lo hi : Int) (w : World) :
  Calls Try.prog 47 #[J Z n, J Z lo, J Z hi] w fun e w' => e = .returned (.bool (inB lo hi n)) ∧ w' = w := by
 by_cases h1 : lo ≤ n
 ·by_cases h2 : n ≤ hi
  ·have HR : Hid (inB lo hi n = true) := hide (by simp [inB, h1, h2])
   go_enter Try.func47, Try.ntmps47
   go_wp2
   go_ret
   exact ⟨by rw [HR.out]; rfl, rfl⟩
  ·have HR : Hid (inB lo hi n = false) := hide (by simp [inB, h1, h2])
   go_enter Try.func47, Try.ntmps47
   go_wp2
   go_ret
   exact ⟨by rw [HR.out]; rfl, rfl⟩
 ·have HR : Hid (inB lo hi n = false) := hide (by simp [inB, h1])
  go_enter Try.func47, Try.ntmps47
  go_wp2
  go_ret
  exact ⟨by rw [HR.out]; rfl, rfl⟩
theorem numberOk_any (n : Int) (w : World) :
  Calls Try.prog 25 #[J Z n] w fun e w' => e = .returned (.bool (inB 1 1000000000 n)) ∧ w' = w := by
 go_enter Try.func25, Try.ntmps25
 go_wp2_with fail
 refine (within_any _ _ _ _).mono ?_
 rintro e w' ⟨rfl, rfl⟩
 go_wp2
 go_ret
 exact ⟨rfl, rfl⟩
/-- a world in which of what W has nothing has turned -/
structure Later (W : World) where
 w : World
 below : Below W.heap.size W w
theorem later_there (W : World) : Nonempty (Later W) := ⟨⟨W, Below.refl _ _⟩⟩
theorem wp_region_later {P : Program} {id : Nat} {Q : Exit → Act → World → Prop} {a : Act} {w : World} {l : List Oper} (W : World) (hm : P.follows .mixedOrders = true) (hB : Region.lexB .any l.toArray = true) (h0 : Below W.heap.size W w.drew)
  (h : wpQuiet P l.toArray (fun w' => ∃ x : Later W, w' = x.w) (fun a' => ∀ w', (∃ x : Later W, w' = x.w) → Q .normal a' w') l a) : (Code.region id l.toArray true).wp P Q a w :=
 wp_region_quiet (C := fun w' => ∃ x : Later W, w' = x.w) hm hB ⟨⟨_, h0⟩, rfl⟩ h
theorem later_same {P : Program} {f : FuncId} {args : Array Value} {W : World} {x : Later W} {v : Value}
  (h : Calls P f args x.w fun e w' => e = .returned v ∧ w' = x.w) : Calls P f args x.w fun e w'' => e = .returned v ∧ ∃ y : Later W, w'' = y.w :=
 h.mono fun _ _ ⟨he, hm⟩ => ⟨he, x, hm⟩
theorem later_of {P : Program} {f : FuncId} {args : Array Value} {W : World} {x : Later W} {v : Value}
  (h : Calls P f args x.w fun e w' => e = .returned v ∧ Below x.w.heap.size x.w w') : Calls P f args x.w fun e w'' => e = .returned v ∧ ∃ y : Later W, w'' = y.w :=
 h.mono fun _ w' ⟨he, hm⟩ => ⟨he, ⟨w', below_trans x.below hm⟩, rfl⟩
theorem later_old {wr : World} {o : Obj} {b f : Nat} {v : Value} (hb : b < wr.heap.size) (h : wr.cell? ⟨b, f, none⟩ = some v) : ∀ x : Later (wr.alloc o), x.w.cell? ⟨b, f, none⟩ = some v :=
 fun x => (x.below.cell (by simp; omega)).trans ((World.cell?_alloc_past _ _ _ hb).trans h)
def Shut2 (p : Prop) : Prop := p
theorem Shut2.mk {p : Prop} (h : Shut2 p) : p := h
theorem Shut2.mk' {p : Prop} (h : p) : Shut2 p := h
theorem take_next {A : Type} (l : List A) (k : Nat) (h : k < l.length) : l.take (k + 1) = l.take k ++ [l[k]] := List.take_succ_eq_append_getElem h
end Go.Proofs.Ytkcpoibhlnjldaa
/- Lists of structs as they lie in memory, rows of a call's own, and a world in which one block alone has turned. -/
namespace Go.Proofs.Ytkcpoibhlnjldaa
open Go.Value renaming int → J, slice → V
open Go.IntKind renaming i64 → Z
open Go.ChangeShapes Go.WideShapes Go.ChangeAt Go.RowKit
set_option linter.unusedVariables false
theorem cell_lt {w : World} {a : Addr} {v : Value} (h : w.cell? a = some v) : a.block < w.heap.size := by
 rcases Nat.lt_or_ge a.block w.heap.size with h' | h'
 ·exact h'
 ·exfalso
  unfold World.cell? at h
  simp [Array.getElem?_eq_none h'] at h
theorem below_keeps {w w' : World} (b : Below w.heap.size w w') : ∀ a v, w.cell? a = some v → w'.cell? a = some v := fun a v h => (b.cell (cell_lt h)).trans h
theorem flat_len {A B : Type} (f : A → List B) (n : Nat) (hf : ∀ x, (f x).length = n) (l : List A) : (l.flatMap f).length = l.length * n := by
 induction l with
 | nil => simp
 | cons x xs ih => simp only [List.flatMap_cons, List.length_append, ih, hf, List.length_cons, Nat.succ_mul]; omega
theorem flat_get {A B : Type} (f : A → List B) (n : Nat) (hf : ∀ x, (f x).length = n) (l : List A) : ∀ (i : Nat) (h : i < l.length) (r : Nat), r < n → (l.flatMap f)[i * n + r]? = (f l[i])[r]? := by
 induction l with
 | nil => intro i h; simp at h
 | cons x xs ih =>
  intro i h r hr
  rw [List.flatMap_cons]
  cases i with
  | zero => rw [List.getElem?_append_left (by rw [hf]; omega)]; simp
  | succ i =>
   rw [List.getElem?_append_right (by rw [hf, Nat.succ_mul]; omega), hf, show (i + 1) * n + r - n = i * n + r by rw [Nat.succ_mul]; omega]
   rw [ih i (by simpa using h) r hr]
   simp
theorem addr_add (b off j : Nat) : (⟨b, off, none⟩ : Addr).add j = ⟨b, off + j, none⟩ := by
 simp only [Addr.add]
 split
 ·rename_i h; subst h; rfl
 ·rfl
/-- a list as it lies in memory, sz cells an element -/
def RowAt {A : Type} (sz : Nat) (f : A → List Value) (w : World) (a : Option Addr) (l : List A) : Prop :=
 ∀ i (h : i < l.length), ∃ b off, a = some ⟨b, off, none⟩ ∧ b < w.heap.size ∧ ∀ r v, (f l[i])[r]? = some v → w.cell? ⟨b, off + i * sz + r, none⟩ = some v
theorem RowAt.below {A : Type} {sz : Nat} {f : A → List Value} {w w' : World} {a : Option Addr} {l : List A} (h : RowAt sz f w a l) (k : Below w.heap.size w w') : RowAt sz f w' a l := fun i hi => by
 obtain ⟨b, off, e, hb, hc⟩ := h i hi
 have := k.size
 exact ⟨b, off, e, by omega, fun r v hv => (k.cell (by exact hb)).trans (hc r v hv)⟩
theorem RowAt.nil {A : Type} {sz : Nat} {f : A → List Value} {w : World} {a : Option Addr} : RowAt sz f w a ([] : List A) := fun i hi => by simp at hi
theorem RowAt.news {A : Type} {sz : Nat} {f : A → List Value} (hf : ∀ x, (f x).length = sz) (h0 : 0 < sz) {w : World} {b off : Nat} {l : List A} (h : RowAt sz f w (some ⟨b, off, none⟩) l) : ∀ j u, (l.flatMap f)[j]? = some u → w.cell? ((⟨b, off, none⟩ : Addr).add j) = some u := by
 intro j u hj
 have hlen := flat_len f sz hf l
 have hj' : j < (l.flatMap f).length := (List.getElem?_eq_some_iff.1 hj).1
 rw [hlen] at hj'
 have hi : j / sz < l.length := (Nat.div_lt_iff_lt_mul h0).2 hj'
 have hr : j % sz < sz := Nat.mod_lt _ h0
 have hg := flat_get f sz hf l (j / sz) hi (j % sz) hr
 have hd : j / sz * sz + j % sz = j := by rw [Nat.mul_comm]; exact Nat.div_add_mod j sz
 rw [hd, hj] at hg
 obtain ⟨b', off', e, _, hc⟩ := h (j / sz) hi
 simp only [Option.some.injEq, Addr.mk.injEq, and_true] at e
 obtain ⟨rfl, rfl⟩ := e
 rw [addr_add]
 have := hc (j % sz) u hg.symm
 rwa [Nat.add_assoc, hd] at this
theorem frozen_of_block {w : World} {g : Nat} {cur : Array Value} {e : TypeId} (h : w.heap[g]? = some (.cells cur e (0, 0))) (j : Nat) : w.frozen? ⟨g, j, none⟩ = false := by
 simp [World.frozen?, h]
/-- a row of a call's own: it begins its block, and may be written -/
structure OwnRow {A : Type} (sz : Nat) (f : A → List Value) (w : World) (g : Nat) (a : Option Addr) (cap : Nat) (l : List A) : Prop where
 rows : RowAt sz f w a l
 own : 0 < l.length → a = some ⟨g, 0, none⟩ ∧ ∀ j, w.frozen? ⟨g, j, none⟩ = false
 room : l.length ≤ cap
 nocap : a = none → cap = 0
theorem OwnRow.lt {A : Type} {sz : Nat} {f : A → List Value} {w : World} {g : Nat} {a : Option Addr} {cap : Nat} {l : List A} (h : OwnRow sz f w g a cap l) (h0 : 0 < l.length) : g < w.heap.size := by
 obtain ⟨b, off, e, hb, _⟩ := h.rows 0 h0
 rw [(h.own h0).1] at e
 simp only [Option.some.injEq, Addr.mk.injEq, and_true] at e
 omega
theorem OwnRow.below {A : Type} {sz : Nat} {f : A → List Value} {w w' : World} {g : Nat} {a : Option Addr} {cap : Nat} {l : List A} (h : OwnRow sz f w g a cap l) (k : Below w.heap.size w w') : OwnRow sz f w' g a cap l :=
 ⟨h.rows.below k, fun h0 => ⟨(h.own h0).1, fun j => (k.frozen (by exact h.lt h0)).trans ((h.own h0).2 j)⟩, h.room, h.nocap⟩
theorem OwnRow.nil {A : Type} {sz : Nat} {f : A → List Value} {w : World} {g : Nat} {a : Option Addr} {cap : Nat} (hn : a = none → cap = 0) : OwnRow sz f w g a cap ([] : List A) := ⟨RowAt.nil, fun h => by simp at h, by simp, hn⟩
/-- what append leaves is such a row -/
theorem own_of_row {A : Type} {sz : Nat} {f : A → List Value} (hf : ∀ x, (f x).length = sz) {w : World} {base : Nat} {e : TypeId} {v : Value} {l : List A} (h : w.ownsRow base e sz v l.length (l.flatMap f)) : ∃ g a cap, base ≤ g ∧ v = V a l.length cap ∧ OwnRow sz f w g a cap l := by
 obtain ⟨hl, ⟨h0, h1⟩ | ⟨g, cap, cur, h1, hb, hg, hn, hc, hz, ht⟩⟩ := h
 ·have hl0 : l.length = 0 := h1
  have : l = [] := List.eq_nil_of_length_eq_zero hl0
  subst this
  exact ⟨base, none, 0, Nat.le_refl _, h0, OwnRow.nil (fun _ => rfl)⟩
 ·refine ⟨g, some ⟨g, 0, none⟩, cap, hb, h1, ⟨fun i hi => ⟨g, 0, rfl, (Array.getElem?_eq_some_iff.1 hg).1, fun r u hu => ?_⟩, fun _ => ⟨rfl, frozen_of_block hg⟩, hn, fun q => by cases q⟩⟩
  have hr : r < sz := by rw [← hf l[i]]; exact (List.getElem?_eq_some_iff.1 hu).1
  have h2 := flat_get f sz hf l i hi r hr
  rw [hu] at h2
  have hlt : i * sz + r < (l.flatMap f).length := (List.getElem?_eq_some_iff.1 h2).1
  have h3 : (cur.toList.take (l.length * sz))[i * sz + r]? = some u := by rw [ht]; exact h2
  have h4 : cur.toList[i * sz + r]? = some u := by
   rw [List.getElem?_take] at h3
   split at h3
   ·exact h3
   ·cases h3
  simp only [World.cell?, hg, Nat.zero_add]
  simpa using h4
theorem below_grown {w w' : World} {row : Option Nat} (h : w.grownBy w' row) {w0 : World} (k : Below w0.heap.size w0 w) (hr : ∀ j, row = some j → w0.heap.size ≤ j) : Below w0.heap.size w0 w' := k.grown h k.size hr
/-- one block alone has turned -/
structure Turned (g : Nat) (w w' : World) : Prop where
 os : w'.os = w.os
 tape : w'.tape = w.tape
 output : w'.output = w.output
 size : w'.heap.size = w.heap.size
 block : ∀ k, k ≠ g → w'.heap[k]? = w.heap[k]?
theorem Turned.refl (g : Nat) (w : World) : Turned g w w := ⟨rfl, rfl, rfl, rfl, fun _ _ => rfl⟩
theorem Turned.setCell {g : Nat} {w x : World} (h : Turned g w x) {o : Nat} (v : Value) : Turned g w (x.setCell ⟨g, o, none⟩ v) :=
 ⟨h.os, h.tape, h.output, by rw [← h.size]; simp [World.setCell], fun k hk => (Below.heap_setCell _ _ _ _ hk).trans (h.block k hk)⟩
theorem Turned.below {g : Nat} {w x : World} (h : Turned g w x) {B : Nat} (hB : B ≤ g) : Below B w x := ⟨h.os, h.tape, h.output, by rw [h.size]; exact Nat.le_refl _, fun k hk => h.block k (by omega)⟩
theorem Turned.cell {g : Nat} {w x : World} (h : Turned g w x) {p : Addr} (hp : p.block ≠ g) : x.cell? p = w.cell? p := World.cell?_of_block (h.block _ hp)
theorem Turned.frozen {g : Nat} {w x : World} (h : Turned g w x) {p : Addr} (hp : p.block ≠ g) : x.frozen? p = w.frozen? p := World.frozen?_of_block (h.block _ hp)
theorem RowAt.turned {A : Type} {sz : Nat} {f : A → List Value} {w w' : World} {a : Option Addr} {l : List A} {g : Nat} (h : RowAt sz f w a l) (k : Turned g w w') (hne : ∀ b off, 0 < l.length → a = some ⟨b, off, none⟩ → b ≠ g) : RowAt sz f w' a l := fun i hi => by
 obtain ⟨b, off, e, hb, hc⟩ := h i hi
 exact ⟨b, off, e, by rw [k.size]; exact hb, fun r v hv => (k.cell (hne b off (by omega) e)).trans (hc r v hv)⟩
theorem OwnRow.turned {A : Type} {sz : Nat} {f : A → List Value} {w w' : World} {g g' : Nat} {a : Option Addr} {cap : Nat} {l : List A} (h : OwnRow sz f w g a cap l) (k : Turned g' w w') (hne : 0 < l.length → g ≠ g') : OwnRow sz f w' g a cap l :=
 ⟨h.rows.turned k (fun b off h0 e => by
  rw [(h.own h0).1] at e
  simp only [Option.some.injEq, Addr.mk.injEq, and_true] at e
  rw [← e.1]; exact hne h0), fun h0 => ⟨(h.own h0).1, fun j => (k.frozen (hne h0)).trans ((h.own h0).2 j)⟩, h.room, h.nocap⟩
/-- a row of the call's own: k of its elements have been written -/
structure RowMid (g n size : Nat) (cells : Nat → List Value) (k : Nat) (x : World) : Prop where
 lt : g < x.heap.size
 there : ∀ j, j < n * size → ∃ v, x.cell? ⟨g, j, none⟩ = some v
 free : ∀ j, x.frozen? ⟨g, j, none⟩ = false
 done : ∀ i r, i < k → r < size → x.cell? ⟨g, i * size + r, none⟩ = (cells i)[r]?
theorem RowMid.below {g n size k : Nat} {cells : Nat → List Value} {x y : World} (h : RowMid g n size cells k x) (b : Below x.heap.size x y) : RowMid g n size cells k y :=
 ⟨Nat.lt_of_lt_of_le h.lt b.size, fun j hj => by obtain ⟨v, hv⟩ := h.there j hj; exact ⟨v, (b.cell h.lt).trans hv⟩, fun j => (b.frozen h.lt).trans (h.free j), fun i r hi hr => (b.cell h.lt).trans (h.done i r hi hr)⟩
theorem frozen_set (w : World) (p a : Addr) (v : Value) : (w.setCell p v).frozen? a = w.frozen? a := World.frozen?_setCell _ _ _ _
theorem size_setCell (w : World) (p : Addr) (v : Value) : (w.setCell p v).heap.size = w.heap.size := by simp
theorem cell_set_other {w : World} {b o b' o' : Nat} {v : Value} (h : b ≠ b' ∨ o ≠ o') : (w.setCell ⟨b, o, none⟩ v).cell? ⟨b', o', none⟩ = w.cell? ⟨b', o', none⟩ :=
 World.cell?_setCell_other w _ _ v (fun e => by simp only [Addr.mk.injEq, and_true] at e; rcases h with h | h <;> omega)
theorem cell_set_same {w : World} {b o : Nat} {u v : Value} (h : w.cell? ⟨b, o, none⟩ = some u) : (w.setCell ⟨b, o, none⟩ v).cell? ⟨b, o, none⟩ = some v := World.cell?_setCell_same w _ v h
/-- one cell of the element that is written -/
structure PutMid (g n size : Nat) (cells : Nat → List Value) (k m : Nat) (x : World) : Prop where
 lt : g < x.heap.size
 there : ∀ j, j < n * size → ∃ v, x.cell? ⟨g, j, none⟩ = some v
 free : ∀ j, x.frozen? ⟨g, j, none⟩ = false
 done : ∀ i r, i < k → r < size → x.cell? ⟨g, i * size + r, none⟩ = (cells i)[r]?
 part : ∀ r, r < m → x.cell? ⟨g, k * size + r, none⟩ = (cells k)[r]?
theorem RowMid.put {g n size k : Nat} {cells : Nat → List Value} {x : World} (h : RowMid g n size cells k x) : PutMid g n size cells k 0 x := ⟨h.lt, h.there, h.free, h.done, fun r hr => by omega⟩
theorem PutMid.set {g n size k m : Nat} {cells : Nat → List Value} {x : World} (h : PutMid g n size cells k m x) (hk : k < n) (hm : m < size) {v : Value} (hv : (cells k)[m]? = some v) {o : Nat} (ho : o = k * size + m) : PutMid g n size cells k (m + 1) (x.setCell ⟨g, o, none⟩ v) := by
 subst ho
 have hin : k * size + m < n * size := Nat.lt_of_lt_of_le (show k * size + m < (k + 1) * size by rw [Nat.succ_mul]; omega) (Nat.mul_le_mul_right _ hk)
 obtain ⟨u, hu⟩ := h.there _ hin
 refine ⟨by rw [size_setCell]; exact h.lt, fun j hj => ?_, fun j => by rw [frozen_set]; exact h.free j, fun i r hi hr => ?_, fun r hr => ?_⟩
 ·by_cases e : k * size + m = j
  ·subst e; exact ⟨v, cell_set_same hu⟩
  ·rw [cell_set_other (.inr e)]; exact h.there j hj
 ·have : i * size + r ≠ k * size + m := by
   have : (i + 1) * size ≤ k * size := Nat.mul_le_mul_right _ hi
   rw [Nat.succ_mul] at this
   omega
  rw [cell_set_other (.inr (fun e => this e.symm))]
  exact h.done i r hi hr
 ·by_cases e : r = m
  ·subst e; rw [cell_set_same hu, hv]
  ·rw [cell_set_other (.inr (by omega))]
   exact h.part r (by omega)
theorem PutMid.whole {g n size k : Nat} {cells : Nat → List Value} {x : World} (h : PutMid g n size cells k size x) : RowMid g n size cells (k + 1) x :=
 ⟨h.lt, h.there, h.free, fun i r hi hr => by
  rcases Nat.lt_or_ge i k with h1 | h1
  ·exact h.done i r h1 hr
  ·obtain rfl : i = k := by omega
   exact h.part r hr⟩
theorem off_ne {sz i k r r' : Nat} (hr : r < sz) (hr' : r' < sz) (h : ¬ (k = i ∧ r' = r)) : i * sz + r ≠ k * sz + r' := by
 intro e
 rcases Nat.lt_trichotomy k i with h1 | h1 | h1
 ·have := Nat.mul_le_mul_right sz (show k + 1 ≤ i from h1)
  rw [Nat.succ_mul] at this; omega
 ·subst h1; exact h ⟨rfl, by omega⟩
 ·have := Nat.mul_le_mul_right sz (show i + 1 ≤ k from h1)
  rw [Nat.succ_mul] at this; omega
/-- one cell of an own row is written -/
theorem OwnRow.set {A : Type} {sz : Nat} {f : A → List Value} (hf : ∀ x, (f x).length = sz) {w : World} {g : Nat} {a : Option Addr} {cap : Nat} {l l' : List A} {i r : Nat} {u : Value} (h : OwnRow sz f w g a cap l) (hi : i < l.length) (hr : r < sz) (hlen : l'.length = l.length)
  (hc : ∀ k (hk : k < l'.length) (hk' : k < l.length) r' v, (f l'[k])[r']? = some v → (k = i ∧ r' = r ∧ v = u) ∨ (¬ (k = i ∧ r' = r) ∧ (f l[k])[r']? = some v)) : OwnRow sz f (w.setCell ⟨g, i * sz + r, none⟩ u) g a cap l' := by
 obtain ⟨ea, hfz⟩ := h.own (by omega)
 refine ⟨fun k hk => ?_, fun h0 => ⟨ea, fun j => by rw [frozen_set]; exact hfz j⟩, by rw [hlen]; exact h.room, h.nocap⟩
 have hk' : k < l.length := by omega
 obtain ⟨b, off, e, hb, hcell⟩ := h.rows k hk'
 have e' := e
 rw [ea] at e'
 simp only [Option.some.injEq, Addr.mk.injEq, and_true] at e'
 obtain ⟨rfl, rfl⟩ := e'
 refine ⟨g, 0, e, by rw [size_setCell]; exact hb, fun r' v hv => ?_⟩
 rw [Nat.zero_add]
 have hr' : r' < sz := by rw [← hf l'[k]]; exact (List.getElem?_eq_some_iff.1 hv).1
 rcases hc k hk hk' r' v hv with ⟨rfl, rfl, rfl⟩ | ⟨hne, ho⟩
 ·obtain ⟨b2, off2, e2, _, hcell2⟩ := h.rows k hi
  rw [ea] at e2
  simp only [Option.some.injEq, Addr.mk.injEq, and_true] at e2
  obtain ⟨rfl, rfl⟩ := e2
  have hin : r' < (f l[k]).length := by rw [hf]; exact hr
  have := hcell2 r' _ (List.getElem?_eq_getElem hin)
  rw [Nat.zero_add] at this
  exact cell_set_same this
 ·rw [cell_set_other (.inr (off_ne hr hr' hne))]
  have := hcell r' v ho
  rwa [Nat.zero_add] at this
/-- a new row of the call's own, that reads as the list -/
def NewRow {A : Type} (sz : Nat) (f : A → List Value) (l : List A) (w : World) (v : Value) (w' : World) : Prop := ∃ g a cap, w.heap.size ≤ g ∧ v = V a l.length cap ∧ OwnRow sz f w' g a cap l
theorem NewRow.below {A : Type} {sz : Nat} {f : A → List Value} {l : List A} {w x y : World} {v : Value} (h : NewRow sz f l w v x) (b : Below x.heap.size x y) : NewRow sz f l w v y := by
 obtain ⟨g, a, cap, hg, e, ho⟩ := h
 exact ⟨g, a, cap, hg, e, ho.below b⟩
theorem cell_new3 {w w1 : World} {v0 v1 v2 : Value} {T : TypeId} (h : Below (w.alloc (.cells #[v0, v1, v2] T)).heap.size (w.alloc (.cells #[v0, v1, v2] T)) w1) : w1.cell? ⟨w.heap.size, 0, none⟩ = some v0 ∧ w1.cell? ⟨w.heap.size, 1, none⟩ = some v1 ∧ w1.cell? ⟨w.heap.size, 2, none⟩ = some v2 := by
 have h1 : w.heap.size < (w.alloc (.cells #[v0, v1, v2] T)).heap.size := by simp
 exact ⟨(h.cell h1).trans (World.cell?_alloc_at _ _ _ _ rfl), (h.cell h1).trans (World.cell?_alloc_at _ _ _ _ rfl), (h.cell h1).trans (World.cell?_alloc_at _ _ _ _ rfl)⟩
theorem later_cell {W : World} {p : Addr} {v : Value} (h : W.cell? p = some v) : ∀ y : Later W, y.w.cell? p = some v := fun y => (y.below.cell (cell_lt h)).trans h
theorem box_on {w a b : World} {o : Obj} (h : Below (w.heap.size + 1) (w.alloc o) a) (k : Below a.heap.size a b) : Below (w.heap.size + 1) (w.alloc o) b :=
 h.trans (k.mono (by have := h.size; simpa using this))
theorem box_old {w wr : World} {o : Obj} (h : Below (w.heap.size + 1) (w.alloc o) wr) : Below w.heap.size w wr :=
 (below_alloc (Below.refl _ _) o).trans (h.mono (by omega))
theorem box_lt {w wr : World} {o : Obj} (h : Below (w.heap.size + 1) (w.alloc o) wr) : w.heap.size + 1 ≤ wr.heap.size := by have := h.size; simpa using this
theorem box3 {w x : World} {v0 v1 v2 : Value} {T : TypeId} (h : Below (w.heap.size + 1) (w.alloc (.cells #[v0, v1, v2] T)) x) : x.cell? ⟨w.heap.size, 0, none⟩ = some v0 ∧ x.cell? ⟨w.heap.size, 1, none⟩ = some v1 ∧ x.cell? ⟨w.heap.size, 2, none⟩ = some v2 :=
 cell_new3 (by simpa using h)
def S3 (B : Nat) (p0 p1 p2 : Value) (W0 x : World) : Prop := x.cell? ⟨B, 0, none⟩ = some p0 ∧ x.cell? ⟨B, 1, none⟩ = some p1 ∧ x.cell? ⟨B, 2, none⟩ = some p2 ∧ Hid (Below W0.heap.size W0 x)
theorem S3.of {B : Nat} {p0 p1 p2 : Value} {W0 x : World} (h : W0.cell? ⟨B, 0, none⟩ = some p0 ∧ W0.cell? ⟨B, 1, none⟩ = some p1 ∧ W0.cell? ⟨B, 2, none⟩ = some p2) (b : Below W0.heap.size W0 x) : S3 B p0 p1 p2 W0 x :=
 ⟨below_keeps b _ _ h.1, below_keeps b _ _ h.2.1, below_keeps b _ _ h.2.2, hide b⟩
theorem S3.on {B : Nat} {p0 p1 p2 : Value} {W0 x y : World} (h : S3 B p0 p1 p2 W0 x) (b : Below x.heap.size x y) : S3 B p0 p1 p2 W0 y :=
 ⟨below_keeps b _ _ h.1, below_keeps b _ _ h.2.1, below_keeps b _ _ h.2.2.1, hide (below_trans h.2.2.2.out b)⟩
structure Prc where
 seq : Int
 amt : Int
def prcCells (x : Prc) : List Value := [J Z x.seq, J Z x.amt]
theorem prcLen (x : Prc) : (prcCells x).length = 2 := rfl
theorem prc_one (l : List Prc) : ∀ u ∈ l.flatMap prcCells, u.oneCell' = true := fun u hu => by
 obtain ⟨x, _, hx⟩ := List.mem_flatMap.1 hu
 simp only [prcCells, List.mem_cons, List.not_mem_nil, or_false] at hx
 rcases hx with rfl | rfl <;> rfl
theorem prc_row {w : World} {a : Option Addr} {l : List Prc} (h : RowAt 2 prcCells w a l) (i : Nat) (hi : i < l.length) : ∃ b off, a = some ⟨b, off, none⟩ ∧ b < w.heap.size ∧ w.cell? ⟨b, off + i * 2, none⟩ = some (J Z l[i].seq) ∧ w.cell? ⟨b, off + i * 2 + 1, none⟩ = some (J Z l[i].amt) := by
 obtain ⟨b, off, e, hb, hc⟩ := h i hi
 exact ⟨b, off, e, hb, hc 0 _ rfl, hc 1 _ rfl⟩
/-- the end of a link -/
structure En where
 out : List Prc
 sent : Int
 got : Int
end Go.Proofs.Ytkcpoibhlnjldaa
/- The contracts of EndOk, of the program and of its model. -/
namespace Go.Proofs.Ytkcpoibhlnjldaa
open Go.Value renaming int → J, slice → V
open Go.IntKind renaming i64 → Z
open Go.ChangeShapes Go.WideShapes Go.ChangeAt Go.RowKit
set_option linter.unusedVariables false
/-- the parcel at a place is as it must be -/
def prcB (sent : Int) (n : Nat) (j : Nat) (p : Prc) : Bool := (p.seq == sent - (n : Int) + 1 + (j : Int)) && decide (1 ≤ p.seq) && inB 1 1000000000000 p.amt
def GoodTo (l : List Prc) (sent : Int) (k : Nat) : Prop := ∀ j (h : j < l.length), j < k → prcB sent l.length j l[j] = true
theorem GoodTo.step {l : List Prc} {sent : Int} {k : Nat} (h : GoodTo l sent k) (hk : k < l.length) (hb : prcB sent l.length k l[k] = true) : GoodTo l sent (k + 1) := fun j hj hjk => by
 rcases Nat.lt_or_ge j k with h1 | h1
 ·exact h j hj h1
 ·obtain rfl : j = k := by omega
  exact hb
def endB (E : En) : Bool := decide (E.out.length ≤ 8) && inB 0 1000000000 E.sent && inB 0 1000000000 E.got && decide (∀ j (h : j < E.out.length), prcB E.sent E.out.length j E.out[j] = true)
theorem endB_no {l : List Prc} {sent got : Int} {k : Nat} (hk : k < l.length) (h : prcB sent l.length k l[k] = false) : endB ⟨l, sent, got⟩ = false := by
 have : decide (∀ j (h : j < l.length), prcB sent l.length j l[j] = true) = false := decide_eq_false (fun g => by have := g k hk; rw [h] at this; cases this)
 simp only [endB, this, Bool.and_false]
theorem endB_yes {l : List Prc} {sent got : Int} (h8 : l.length ≤ 8) (q : inB 0 1000000000 sent = true ∧ inB 0 1000000000 got = true) (h : GoodTo l sent l.length) : endB ⟨l, sent, got⟩ = true := by
 have : decide (∀ j (h : j < l.length), prcB sent l.length j l[j] = true) = true := decide_eq_true (fun j hj => h j hj hj)
 simp [endB, this, h8, q.1, q.2]
set_option maxRecDepth 100000 in
set_option maxHeartbeats 8000000 in
theorem specEndOk_any (a : Option Addr) (l : List Prc) (cap : Nat) (sent got : Int) (w : World) (hl : l.length ≤ 1048576) (h : RowAt 2 prcCells w a l) :
  Calls Try.prog 48 #[.agg #[V a l.length cap, J Z sent, J Z got]] w fun e w' => e = .returned (.bool (endB ⟨l, sent, got⟩)) ∧ Below w.heap.size w w' := by
 have HC : Hid _ := hide h
 clear h
 by_cases h8 : l.length ≤ 8
 ·cases q1 : inB 0 1000000000 sent
  ·have HR : Hid (endB ⟨l, sent, got⟩ = false) := hide (by simp [endB, q1])
   have a2 : ¬ (8 : Int) < (l.length : Int) := by omega
   go_enter Try.func48, Try.ntmps48
   go_wp2_with (first | (go_at_call 47; refine (l1In_any _ _ _ _).mono ?_; rintro e w' ⟨rfl, hw'⟩; have hw'' := hw'.symm; subst hw'') | fail)
   go_ret
   exact ⟨by rw [HR.out]; rfl, below_alloc (Below.refl _ _) _⟩
  ·cases q2 : inB 0 1000000000 got
   ·have HR : Hid (endB ⟨l, sent, got⟩ = false) := hide (by simp [endB, q2])
    have a2 : ¬ (8 : Int) < (l.length : Int) := by omega
    go_enter Try.func48, Try.ntmps48
    go_wp2_with (first | (go_at_call 47; refine (l1In_any _ _ _ _).mono ?_; rintro e w' ⟨rfl, hw'⟩; have hw'' := hw'.symm; subst hw'') | fail)
    go_ret
    exact ⟨by rw [HR.out]; rfl, below_alloc (Below.refl _ _) _⟩
   ·have a2 : ¬ (8 : Int) < (l.length : Int) := by omega
    have hs : (0 : Int) ≤ sent ∧ sent ≤ 1000000000 := by simpa only [inB, decide_eq_true_eq] using q1
    obtain ⟨hs0, hs1⟩ := hs
    have HQ : Hid _ := hide (And.intro q1 q2)
    go_enter Try.func48, Try.ntmps48
    go_wp2_with (first | (go_at_call 47; refine (l1In_any _ _ _ _).mono ?_; rintro e w' ⟨rfl, hw'⟩; have hw'' := hw'.symm; subst hw'') | fail)
    go_loopw [3] (fun i wr => ∃ k : Nat, k ≤ l.length ∧ i = J Z (k : Int) ∧ Below (w.heap.size + 1) (w.alloc (.cells #[V a l.length cap, J Z sent, J Z got] 39)) wr ∧ Hid (GoodTo l sent k)) (fun i wr => l.length - (intOf i).toNat)
    case atStart => exact ⟨0, Nat.zero_le _, rfl, Below.refl _ _, hide (fun j _ hj => by omega)⟩
    case round =>
     obtain ⟨k, hk, rfl, HB, HG⟩ := hrel
     obtain ⟨x0, x1, x2⟩ := box3 HB
     by_cases hlt : k < l.length
     ·obtain ⟨b, off, rfl, hb, c0, c1⟩ := prc_row (HC.out.below (box_old HB)) k hlt
      have hlt' : (k : Int) < (l.length : Int) := by omega
      have x0' := later_cell x0
      have x1' := later_cell x1
      have c0' := later_cell c0
      have c1' := later_cell c1
      clear x1 x2 c0 c1
      have hne : Nonempty (Later wr) := later_there _
      have hPB : prcB sent l.length k l[k] = (((l[k]).seq == sent - (l.length : Int) + 1 + (k : Int)) && decide (1 ≤ (l[k]).seq) && inB 1 1000000000000 (l[k]).amt) := rfl
      have HPB : Hid _ := hide hPB
      clear hPB
      cases p1 : ((l[k]).seq != sent - (l.length : Int) + 1 + (k : Int))
      ·have p1' : ((l[k]).seq == sent - (l.length : Int) + 1 + (k : Int)) = true := by simpa using p1
       have P1 : Hid _ := hide p1'
       clear p1'
       cases p2 : decide ((l[k]).seq < 1)
       ·have P2 : Hid (decide (1 ≤ (l[k]).seq) = true) := hide (by simp at p2 ⊢; omega)
        cases p3 : inB 1 1000000000000 (l[k]).amt
        ·have HR : Hid (endB ⟨l, sent, got⟩ = false) := hide (endB_no hlt (by rw [HPB.out, p3]; simp))
         go_wp2_with fail
         refine wp_region_later wr (by kernel_rfl) (by kernel_rfl) ((Below.refl _ _).drew) ?_
         repeat (go_big_quiet_step (first | (go_at_call 47; exact later_same (l1In_any _ _ _ _))))
         refine wpQuiet_nil ?_
         intro _ hw'
         obtain ⟨nx, rfl⟩ := hw'
         go_wp2
         go_ret
         exact ⟨by rw [HR.out]; rfl, box_old (box_on HB nx.below)⟩
        ·have HG2 : Hid (GoodTo l sent (k + 1)) := hide (HG.out.step hlt (by rw [HPB.out, P1.out, P2.out, p3]; rfl))
         go_wp2_with fail
         refine wp_region_later wr (by kernel_rfl) (by kernel_rfl) ((Below.refl _ _).drew) ?_
         repeat (go_big_quiet_step (first | (go_at_call 47; exact later_same (l1In_any _ _ _ _))))
         refine wpQuiet_nil ?_
         intro _ hw'
         obtain ⟨nx, rfl⟩ := hw'
         go_wp2
         exact ⟨⟨k + 1, by omega, by go_num, box_on HB nx.below, HG2⟩, by simp [intOf]; omega⟩
       ·have HR : Hid (endB ⟨l, sent, got⟩ = false) := hide (endB_no hlt (by rw [HPB.out, show decide (1 ≤ (l[k]).seq) = false by simp at p2 ⊢; omega]; simp))
        go_wp2_with fail
        refine wp_region_later wr (by kernel_rfl) (by kernel_rfl) ((Below.refl _ _).drew) ?_
        repeat (go_big_quiet_step (first | (go_at_call 47; exact later_same (l1In_any _ _ _ _))))
        refine wpQuiet_nil ?_
        intro _ hw'
        obtain ⟨nx, rfl⟩ := hw'
        go_wp2
        go_ret
        exact ⟨by rw [HR.out]; rfl, box_old (box_on HB nx.below)⟩
      ·have HR : Hid (endB ⟨l, sent, got⟩ = false) := hide (endB_no hlt (by rw [HPB.out, show ((l[k]).seq == sent - (l.length : Int) + 1 + (k : Int)) = false by simpa using p1]; simp))
       go_wp2_with fail
       refine wp_region_later wr (by kernel_rfl) (by kernel_rfl) ((Below.refl _ _).drew) ?_
       repeat (go_big_quiet_step (first | (go_at_call 47; exact later_same (l1In_any _ _ _ _))))
       refine wpQuiet_nil ?_
       intro _ hw'
       obtain ⟨nx, rfl⟩ := hw'
       go_wp2
       go_ret
       exact ⟨by rw [HR.out]; rfl, box_old (box_on HB nx.below)⟩
     ·have hk' : ¬ (k : Int) < (l.length : Int) := by omega
      have HR : Hid (endB ⟨l, sent, got⟩ = true) := hide (endB_yes h8 HQ.out (by have := HG.out; rwa [show k = l.length by omega] at this))
      go_wp2
      go_ret
      exact ⟨by rw [HR.out]; rfl, box_old HB⟩
 ·have HR : Hid (endB ⟨l, sent, got⟩ = false) := hide (by simp [endB, h8])
  have a2 : (8 : Int) < (l.length : Int) := by omega
  go_enter Try.func48, Try.ntmps48
  go_wp2
  go_ret
  exact ⟨by rw [HR.out]; rfl, below_alloc (Below.refl _ _) _⟩
set_option maxHeartbeats 1000000 in
theorem aheadOfOut_any (v : Value) (a : Option Addr) (n cap : Nat) (sent got : Int) (w : World) (hn : n ≤ 8) (hs : 0 ≤ sent ∧ sent ≤ 1000000000) :
  Calls Try.prog 68 #[.agg #[V a n cap, J Z sent, J Z got]] w fun e w' => e = .returned (J Z (sent - (n : Int))) ∧ Below w.heap.size w w' := by
 obtain ⟨s0, s1⟩ := hs
 go_enter Try.func68, Try.ntmps68
 go_wp2
 go_ret
 exact ⟨rfl, below_alloc (Below.refl _ _) _⟩
def pOkB (p : Prc) : Bool := inB 1 1000000000 p.seq && inB 1 1000000000000 p.amt
set_option maxHeartbeats 1000000 in
theorem parcelOk_any (s m : Int) (w : World) :
  Calls Try.prog 69 #[.agg #[J Z s, J Z m]] w fun e w' => e = .returned (.bool (pOkB ⟨s, m⟩)) ∧ Below w.heap.size w w' := by
 cases q1 : inB 1 1000000000 s
 ·have HR : Hid (pOkB ⟨s, m⟩ = false) := hide (by simp [pOkB, q1])
  go_enter Try.func69, Try.ntmps69
  go_wp2_with (first | (go_at_call 25; refine (numberOk_any _ _).mono ?_; rintro e w' ⟨rfl, hw'⟩; have hw'' := hw'.symm; subst hw'') | (go_at_call 26; refine (within_any _ _ _ _).mono ?_; rintro e w' ⟨rfl, hw'⟩; have hw'' := hw'.symm; subst hw''))
  go_ret
  exact ⟨by rw [HR.out]; rfl, below_alloc (Below.refl _ _) _⟩
 ·have HR : Hid (pOkB ⟨s, m⟩ = inB 1 1000000000000 m) := hide (by simp [pOkB, q1])
  go_enter Try.func69, Try.ntmps69
  go_wp2_with (first | (go_at_call 25; refine (numberOk_any _ _).mono ?_; rintro e w' ⟨rfl, hw'⟩; have hw'' := hw'.symm; subst hw'') | (go_at_call 26; refine (within_any _ _ _ _).mono ?_; rintro e w' ⟨rfl, hw'⟩; have hw'' := hw'.symm; subst hw''))
  go_ret
  exact ⟨by rw [HR.out]; rfl, below_alloc (Below.refl _ _) _⟩
theorem later_new2 {wr : World} {v0 v1 : Value} {T : TypeId} :
  (∀ x : Later (wr.alloc (.cells #[v0, v1] T)), x.w.cell? ⟨wr.heap.size, 0, none⟩ = some v0) ∧ (∀ x : Later (wr.alloc (.cells #[v0, v1] T)), x.w.cell? ⟨wr.heap.size, 1, none⟩ = some v1) := by
 have h1 : wr.heap.size < (wr.alloc (.cells #[v0, v1] T)).heap.size := by simp
 exact ⟨fun x => (x.below.cell h1).trans (World.cell?_alloc_at _ _ _ _ rfl), fun x => (x.below.cell h1).trans (World.cell?_alloc_at _ _ _ _ rfl)⟩
set_option maxRecDepth 100000 in
set_option maxHeartbeats 8000000 in
theorem implEndOk_any (a : Option Addr) (l : List Prc) (cap : Nat) (sent got : Int) (w : World) (hl : l.length ≤ 1048576) (h : RowAt 2 prcCells w a l) :
  Calls Try.prog 55 #[.agg #[V a l.length cap, J Z sent, J Z got]] w fun e w' => e = .returned (.bool (endB ⟨l, sent, got⟩)) ∧ Below w.heap.size w w' := by
 have HC : Hid _ := hide h
 clear h
 by_cases h8 : l.length ≤ 8
 ·cases q1 : inB 0 1000000000 sent
  ·have HR : Hid (endB ⟨l, sent, got⟩ = false) := hide (by simp [endB, q1])
   have a2 : ¬ (8 : Int) < (l.length : Int) := by omega
   go_enter Try.func55, Try.ntmps55
   go_wp2_with (first | (go_at_call 26; refine (within_any _ _ _ _).mono ?_; rintro e w' ⟨rfl, hw'⟩; have hw'' := hw'.symm; subst hw'') | fail)
   go_ret
   exact ⟨by rw [HR.out]; rfl, below_alloc (Below.refl _ _) _⟩
  ·cases q2 : inB 0 1000000000 got
   ·have HR : Hid (endB ⟨l, sent, got⟩ = false) := hide (by simp [endB, q2])
    have a2 : ¬ (8 : Int) < (l.length : Int) := by omega
    go_enter Try.func55, Try.ntmps55
    go_wp2_with (first | (go_at_call 26; refine (within_any _ _ _ _).mono ?_; rintro e w' ⟨rfl, hw'⟩; have hw'' := hw'.symm; subst hw'') | fail)
    go_ret
    exact ⟨by rw [HR.out]; rfl, below_alloc (Below.refl _ _) _⟩
   ·have a2 : ¬ (8 : Int) < (l.length : Int) := by omega
    have hs : (0 : Int) ≤ sent ∧ sent ≤ 1000000000 := by simpa only [inB, decide_eq_true_eq] using q1
    obtain ⟨hs0, hs1⟩ := hs
    have HQ : Hid _ := hide (And.intro q1 q2)
    go_enter Try.func55, Try.ntmps55
    go_wp2_with (first | (go_at_call 26; refine (within_any _ _ _ _).mono ?_; rintro e w' ⟨rfl, hw'⟩; have hw'' := hw'.symm; subst hw'') | fail)
    go_loopw [24] (fun i wr => ∃ k : Nat, k ≤ l.length ∧ i = J Z (k : Int) ∧ Below (w.heap.size + 1) (w.alloc (.cells #[V a l.length cap, J Z sent, J Z got] 39)) wr ∧ Hid (GoodTo l sent k)) (fun i wr => l.length - (intOf i).toNat)
    case atStart => exact ⟨0, Nat.zero_le _, rfl, Below.refl _ _, hide (fun j _ hj => by omega)⟩
    case round =>
     obtain ⟨k, hk, rfl, HB, HG⟩ := hrel
     obtain ⟨x0, x1, x2⟩ := box3 HB
     by_cases hlt : k < l.length
     ·obtain ⟨b, off, rfl, hb, c0, c1⟩ := prc_row (HC.out.below (box_old HB)) k hlt
      have hlt' : (k : Int) < (l.length : Int) := by omega
      have hbx : w.heap.size < wr.heap.size := box_lt HB
      have x0' := later_old (o := .cells #[J Z (l[k]).seq, J Z (l[k]).amt] 61) hbx x0
      have x1' := later_old (o := .cells #[J Z (l[k]).seq, J Z (l[k]).amt] 61) hbx x1
      have x2' := later_old (o := .cells #[J Z (l[k]).seq, J Z (l[k]).amt] 61) hbx x2
      obtain ⟨s0', s1'⟩ := later_new2 (wr := wr) (v0 := J Z (l[k]).seq) (v1 := J Z (l[k]).amt) (T := 61)
      have hne : Nonempty (Later (wr.alloc (.cells #[J Z (l[k]).seq, J Z (l[k]).amt] 61))) := later_there _
      have hPB : prcB sent l.length k l[k] = (((l[k]).seq == sent - (l.length : Int) + 1 + (k : Int)) && decide (1 ≤ (l[k]).seq) && inB 1 1000000000000 (l[k]).amt) := rfl
      have HPB : Hid _ := hide hPB
      clear hPB x1 x2
      cases p1 : ((l[k]).seq != sent - (l.length : Int) + 1 + (k : Int))
      ·have p1' : (l[k]).seq = sent - (l.length : Int) + 1 + (k : Int) := by simpa using p1
       have P1 : Hid (pOkB ⟨(l[k]).seq, (l[k]).amt⟩ = prcB sent l.length k l[k]) := hide (by
        have e1 : inB 1 1000000000 (l[k]).seq = decide (1 ≤ (l[k]).seq) := by
         simp only [inB]
         by_cases e : 1 ≤ (l[k]).seq
         ·rw [decide_eq_true e, decide_eq_true (And.intro e (by omega))]
         ·rw [decide_eq_false e, decide_eq_false (fun g => e g.1)]
        rw [HPB.out, show ((l[k]).seq == sent - (l.length : Int) + 1 + (k : Int)) = true by simpa using p1]
        simp only [pOkB, e1, Bool.true_and])
       clear p1'
       cases p2 : pOkB ⟨(l[k]).seq, (l[k]).amt⟩
       ·have HR : Hid (endB ⟨l, sent, got⟩ = false) := hide (endB_no hlt (by rw [← P1.out]; exact p2))
        go_wp2_with fail
        refine wp_region_later (wr.alloc (.cells #[J Z (l[k]).seq, J Z (l[k]).amt] 61)) (by kernel_rfl) (by kernel_rfl) ((Below.refl _ _).drew) ?_
        repeat (go_big_quiet_step (first | (go_at_call 68; exact later_of (aheadOfOut_any (.bool true) _ _ _ _ _ _ h8 (And.intro hs0 hs1))) | (go_at_call 69; exact later_of (parcelOk_any _ _ _))))
        refine wpQuiet_nil ?_
        intro _ hw'
        obtain ⟨nx, rfl⟩ := hw'
        go_wp2
        go_ret
        exact ⟨by rw [HR.out]; rfl, box_old (box_on HB (below_trans (below_alloc (Below.refl _ _) _) nx.below))⟩
       ·have HG2 : Hid (GoodTo l sent (k + 1)) := hide (HG.out.step hlt (by rw [← P1.out]; exact p2))
        go_wp2_with fail
        refine wp_region_later (wr.alloc (.cells #[J Z (l[k]).seq, J Z (l[k]).amt] 61)) (by kernel_rfl) (by kernel_rfl) ((Below.refl _ _).drew) ?_
        repeat (go_big_quiet_step (first | (go_at_call 68; exact later_of (aheadOfOut_any (.bool true) _ _ _ _ _ _ h8 (And.intro hs0 hs1))) | (go_at_call 69; exact later_of (parcelOk_any _ _ _))))
        refine wpQuiet_nil ?_
        intro _ hw'
        obtain ⟨nx, rfl⟩ := hw'
        go_wp2
        exact ⟨⟨k + 1, by omega, by go_num, box_on HB (below_trans (below_alloc (Below.refl _ _) _) nx.below), HG2⟩, by simp [intOf]; omega⟩
      ·have HR : Hid (endB ⟨l, sent, got⟩ = false) := hide (endB_no hlt (by rw [HPB.out, show ((l[k]).seq == sent - (l.length : Int) + 1 + (k : Int)) = false by simpa using p1]; simp))
       go_wp2_with fail
       refine wp_region_later (wr.alloc (.cells #[J Z (l[k]).seq, J Z (l[k]).amt] 61)) (by kernel_rfl) (by kernel_rfl) ((Below.refl _ _).drew) ?_
       repeat (go_big_quiet_step (first | (go_at_call 68; exact later_of (aheadOfOut_any (.bool true) _ _ _ _ _ _ h8 (And.intro hs0 hs1))) | (go_at_call 69; exact later_of (parcelOk_any _ _ _))))
       refine wpQuiet_nil ?_
       intro _ hw'
       obtain ⟨nx, rfl⟩ := hw'
       go_wp2
       go_ret
       exact ⟨by rw [HR.out]; rfl, box_old (box_on HB (below_trans (below_alloc (Below.refl _ _) _) nx.below))⟩
     ·have hk' : ¬ (k : Int) < (l.length : Int) := by omega
      have HR : Hid (endB ⟨l, sent, got⟩ = true) := hide (endB_yes h8 HQ.out (by have := HG.out; rwa [show k = l.length by omega] at this))
      go_wp2
      go_ret
      exact ⟨by rw [HR.out]; rfl, box_old HB⟩
 ·have HR : Hid (endB ⟨l, sent, got⟩ = false) := hide (by simp [endB, h8])
  have a2 : (8 : Int) < (l.length : Int) := by omega
  go_enter Try.func55, Try.ntmps55
  go_wp2
  go_ret
  exact ⟨by rw [HR.out]; rfl, below_alloc (Below.refl _ _) _⟩
end Go.Proofs.Ytkcpoibhlnjldaa
/- The contracts of the laws' helpers over ends: szEnd, toEnd, toParcel, eqEnd, eqParcel, markEnd, heldEnd. -/
namespace Go.Proofs.Ytkcpoibhlnjldaa
open Go.Value renaming int → J, slice → V
open Go.IntKind renaming i64 → Z
open Go.ChangeShapes Go.WideShapes Go.ChangeAt Go.RowKit
set_option linter.unusedVariables false
def YesEnd (w : World) (e : Ending) (w' : World) : Prop := e = .returned (.bool true) ∧ Below w.heap.size w w'
theorem info34 : (Try.prog.info? 61).map (fun i => (i.zero, i.size, i.bytes)) = some (some (.agg #[J Z 0, J Z 0]), 2, 16) := by kernel_rfl
theorem new_block {w x : World} {v0 v1 v2 : Value} {T : TypeId} (h : Below (w.heap.size + 1) (w.alloc (.cells #[v0, v1, v2] T)) x) : (x.cell? ⟨w.heap.size, 0, none⟩ = some v0 ∧ x.cell? ⟨w.heap.size, 1, none⟩ = some v1 ∧ x.cell? ⟨w.heap.size, 2, none⟩ = some v2) ∧ ∀ j, x.frozen? ⟨w.heap.size, j, none⟩ = false :=
 ⟨box3 h, fun j => (h.frozen (by show w.heap.size < w.heap.size + 1; omega)).trans (frozen_of_block (cur := #[v0, v1, v2]) (e := T) (by show (w.heap.push _)[w.heap.size]? = _; simp) j)⟩
end Go.Proofs.Ytkcpoibhlnjldaa
/- Nodes and worlds as data, and how they lie in memory. -/
namespace Go.Proofs.Ytkcpoibhlnjldaa
open Go.Value renaming int → J, slice → V
open Go.IntKind renaming i64 → Z
open Go.ChangeShapes Go.WideShapes Go.ChangeAt Go.RowKit
set_option linter.unusedVariables false
/-- a number that was answered -/
structure Sn where
 id : Int
 code : Int
def snCells (x : Sn) : List Value := [J Z x.id, J Z x.code]
theorem snLen (x : Sn) : (snCells x).length = 2 := rfl
theorem sn_row {w : World} {a : Option Addr} {l : List Sn} (h : RowAt 2 snCells w a l) (i : Nat) (hi : i < l.length) : ∃ b off, a = some ⟨b, off, none⟩ ∧ b < w.heap.size ∧ w.cell? ⟨b, off + i * 2, none⟩ = some (J Z l[i].id) ∧ w.cell? ⟨b, off + i * 2 + 1, none⟩ = some (J Z l[i].code) := by
 obtain ⟨b, off, e, hb, hc⟩ := h i hi
 exact ⟨b, off, e, hb, hc 0 _ rfl, hc 1 _ rfl⟩
/-- a peer: its number, its end, and where the end's row lies -/
structure Pr where
 id : Int
 a : Option Addr
 cap : Nat
 E : En
structure PD where
 id : Int
 E : En
def Pr.d (p : Pr) : PD := ⟨p.id, p.E⟩
def prCells (p : Pr) : List Value := [J Z p.id, V p.a p.E.out.length p.cap, J Z p.E.sent, J Z p.E.got]
theorem prLen (x : Pr) : (prCells x).length = 4 := rfl
theorem pr_row {w : World} {a : Option Addr} {l : List Pr} (h : RowAt 4 prCells w a l) (i : Nat) (hi : i < l.length) : ∃ b off, a = some ⟨b, off, none⟩ ∧ b < w.heap.size ∧ w.cell? ⟨b, off + i * 4, none⟩ = some (J Z l[i].id) ∧ w.cell? ⟨b, off + i * 4 + 1, none⟩ = some (V l[i].a l[i].E.out.length l[i].cap) ∧ w.cell? ⟨b, off + i * 4 + 2, none⟩ = some (J Z l[i].E.sent) ∧ w.cell? ⟨b, off + i * 4 + 3, none⟩ = some (J Z l[i].E.got) := by
 obtain ⟨b, off, e, hb, hc⟩ := h i hi
 exact ⟨b, off, e, hb, hc 0 _ rfl, hc 1 _ rfl, hc 2 _ rfl, hc 3 _ rfl⟩
structure PeersAt (w : World) (a : Option Addr) (l : List Pr) : Prop where
 row : RowAt 4 prCells w a l
 ends : ∀ p ∈ l, RowAt 2 prcCells w p.a p.E.out
theorem PeersAt.below {w w' : World} {a : Option Addr} {l : List Pr} (h : PeersAt w a l) (k : Below w.heap.size w w') : PeersAt w' a l :=
 ⟨h.row.below k, fun p hp => (h.ends p hp).below k⟩
theorem PeersAt.nil {w : World} {a : Option Addr} : PeersAt w a [] := ⟨RowAt.nil, fun p hp => by simp at hp⟩
/-- a node: its numbers, its rows and where they lie -/
structure Nd where
 id : Int
 has : Int
 spent : Int
 earned : Int
 sa : Option Addr
 sc : Nat
 seen : List Sn
 pa : Option Addr
 pc : Nat
 peers : List Pr
structure NdD where
 id : Int
 has : Int
 spent : Int
 earned : Int
 seen : List Sn
 peers : List PD
def Nd.d (n : Nd) : NdD := ⟨n.id, n.has, n.spent, n.earned, n.seen, n.peers.map Pr.d⟩
def ndCells (n : Nd) : List Value := [J Z n.id, J Z n.has, J Z n.spent, J Z n.earned, V n.sa n.seen.length n.sc, V n.pa n.peers.length n.pc]
structure NodeAt (w : World) (n : Nd) : Prop where
 seen : RowAt 2 snCells w n.sa n.seen
 peers : PeersAt w n.pa n.peers
theorem NodeAt.below {w w' : World} {n : Nd} (h : NodeAt w n) (k : Below w.heap.size w w') : NodeAt w' n := ⟨h.seen.below k, h.peers.below k⟩
structure NodesAt (w : World) (a : Option Addr) (l : List Nd) : Prop where
 row : RowAt 6 ndCells w a l
 each : ∀ n ∈ l, NodeAt w n
theorem NodesAt.below {w w' : World} {a : Option Addr} {l : List Nd} (h : NodesAt w a l) (k : Below w.heap.size w w') : NodesAt w' a l := ⟨h.row.below k, fun n hn => (h.each n hn).below k⟩
theorem NodesAt.nil {w : World} {a : Option Addr} : NodesAt w a [] := ⟨RowAt.nil, fun p hp => by simp at hp⟩
/-- a message -/
structure Mg where
 fr : Int
 to : Int
 kind : Int
 seq : Int
 amt : Int
def mgCells (m : Mg) : List Value := [J Z m.fr, J Z m.to, J Z m.kind, J Z m.seq, J Z m.amt]
theorem mgLen (x : Mg) : (mgCells x).length = 5 := rfl
theorem mg_row {w : World} {a : Option Addr} {l : List Mg} (h : RowAt 5 mgCells w a l) (i : Nat) (hi : i < l.length) : ∃ b off, a = some ⟨b, off, none⟩ ∧ b < w.heap.size ∧ w.cell? ⟨b, off + i * 5, none⟩ = some (J Z l[i].fr) ∧ w.cell? ⟨b, off + i * 5 + 1, none⟩ = some (J Z l[i].to) ∧ w.cell? ⟨b, off + i * 5 + 2, none⟩ = some (J Z l[i].kind) ∧ w.cell? ⟨b, off + i * 5 + 3, none⟩ = some (J Z l[i].seq) ∧ w.cell? ⟨b, off + i * 5 + 4, none⟩ = some (J Z l[i].amt) := by
 obtain ⟨b, off, e, hb, hc⟩ := h i hi
 exact ⟨b, off, e, hb, hc 0 _ rfl, hc 1 _ rfl, hc 2 _ rfl, hc 3 _ rfl, hc 4 _ rfl⟩
def allTo (f : Nat → Bool) : Nat → Bool
 | 0 => true
 | n + 1 => allTo f n && f n
theorem allTo_false {f : Nat → Bool} {n k : Nat} (h : k < n) (hf : f k = false) : allTo f n = false := by
 induction n with
 | zero => omega
 | succ n ih =>
  simp only [allTo]
  rcases Nat.lt_or_ge k n with h1 | h1
  ·rw [ih h1]; rfl
  ·obtain rfl : k = n := by omega
   rw [hf, Bool.and_false]
theorem allTo_step {f : Nat → Bool} {k : Nat} (h : allTo f k = true) (hf : f k = true) : allTo f (k + 1) = true := by simp [allTo, h, hf]
theorem allTo_get {f : Nat → Bool} {n k : Nat} (h : allTo f n = true) (hk : k < n) : f k = true := by
 induction n with
 | zero => omega
 | succ n ih =>
  simp only [allTo, Bool.and_eq_true] at h
  rcases Nat.lt_or_ge k n with h1 | h1
  ·exact ih h.1 h1
  ·obtain rfl : k = n := by omega
   exact h.2
theorem allTo_iff {f : Nat → Bool} {n : Nat} : allTo f n = true ↔ ∀ k, k < n → f k = true :=
 ⟨fun h k hk => allTo_get h hk, fun h => by
  induction n with
  | zero => rfl
  | succ n ih => exact allTo_step (ih fun k hk => h k (by omega)) (h n (by omega))⟩
def risesB (l : List Int) (k : Nat) : Bool := match k with
 | 0 => true
 | m + 1 => match l[m]?, l[m + 1]? with
  | some x, some y => decide (x < y)
  | _, _ => false
theorem rises_at {l : List Int} {m : Nat} (h : m + 1 < l.length) : risesB l (m + 1) = decide (l[m] < l[m + 1]) := by
 simp [risesB, List.getElem?_eq_getElem h, List.getElem?_eq_getElem (show m < l.length by omega)]
def snB (cd : Int → Bool) (l : List Sn) (k : Nat) : Bool := match l[k]? with
 | none => false
 | some x => inB 1 1000000000 x.id && risesB (l.map Sn.id) k && cd x.code
theorem snB_at {cd : Int → Bool} {l : List Sn} {k : Nat} (h : k < l.length) : snB cd l k = (inB 1 1000000000 (l[k]).id && risesB (l.map Sn.id) k && cd (l[k]).code) := by simp [snB, List.getElem?_eq_getElem h]
theorem rises_sn {l : List Sn} {m : Nat} (h : m + 1 < l.length) : risesB (l.map Sn.id) (m + 1) = decide ((l[m]).id < (l[m + 1]).id) := by
 rw [rises_at (by simpa using h)]; simp
def nodeCd (c : Int) : Bool := (c == 0) || (c == 4) || (c == 6)
def pdB (own : Int) (l : List PD) (k : Nat) : Bool := match l[k]? with
 | none => false
 | some x => inB 1 1000000000 x.id && risesB (l.map PD.id) k && !(x.id == own) && endB x.E
theorem pdB_at {own : Int} {l : List Pr} {k : Nat} (h : k < l.length) : pdB own (l.map Pr.d) k = (inB 1 1000000000 (l[k]).id && risesB (l.map Pr.id) k && !((l[k]).id == own) && endB (l[k]).E) := by
 have e : (l.map Pr.d).map PD.id = l.map Pr.id := by simp [Pr.d]
 simp only [pdB, List.getElem?_map, List.getElem?_eq_getElem h, Option.map_some, e]
 rfl
theorem rises_pr {l : List Pr} {m : Nat} (h : m + 1 < l.length) : risesB (l.map Pr.id) (m + 1) = decide ((l[m]).id < (l[m + 1]).id) := by
 rw [rises_at (by simpa using h)]; simp
def nodeB (D : NdD) : Bool := inB 1 1000000000 D.id && inB 0 10000000000000 D.has && inB 0 1000000000000 D.spent && inB 0 1000000000000 D.earned && decide (D.seen.length ≤ 40) && decide (D.peers.length ≤ 8) && allTo (snB nodeCd D.seen) D.seen.length && allTo (pdB D.id D.peers) D.peers.length
end Go.Proofs.Ytkcpoibhlnjldaa
/- The contracts of the program's seenOk, peersOk and NodeOk. -/
namespace Go.Proofs.Ytkcpoibhlnjldaa
open Go.Value renaming int → J, slice → V
open Go.IntKind renaming i64 → Z
open Go.ChangeShapes Go.WideShapes Go.ChangeAt Go.RowKit
set_option linter.unusedVariables false
/-- a block as it was laid, whatever came behind it -/
theorem boxN {w x : World} {cur : Array Value} {T : TypeId} (h : Below (w.heap.size + 1) (w.alloc (.cells cur T)) x) (j : Nat) (v : Value) (hj : cur[j]? = some v) : x.cell? ⟨w.heap.size, j, none⟩ = some v :=
 (h.cell (by show w.heap.size < w.heap.size + 1; omega)).trans ((World.cell?_alloc_at _ _ _ _ rfl).trans hj)
theorem boxFree {w x : World} {cur : Array Value} {T : TypeId} (h : Below (w.heap.size + 1) (w.alloc (.cells cur T)) x) (j : Nat) : x.frozen? ⟨w.heap.size, j, none⟩ = false :=
 (h.frozen (by show w.heap.size < w.heap.size + 1; omega)).trans (frozen_of_block (cur := cur) (e := T) (by show (w.heap.push _)[w.heap.size]? = _; simp) j)
theorem later_newN {wr : World} {cur : Array Value} {T : TypeId} (j : Nat) (v : Value) (hj : cur[j]? = some v) : ∀ x : Later (wr.alloc (.cells cur T)), x.w.cell? ⟨wr.heap.size, j, none⟩ = some v :=
 fun x => (x.below.cell (show wr.heap.size < (wr.alloc (.cells cur T)).heap.size by simp)).trans ((World.cell?_alloc_at _ _ _ _ rfl).trans hj)
theorem wrap_pred {k m : Nat} (h : k = m + 1) (hk : k ≤ 1048576) : IntKind.i64.wrap ((k : Int) - 1) = (m : Int) := by
 rw [show (k : Int) - 1 = (m : Int) by omega]; simp only [IntKind.wrap, IntKind.signed, IntKind.bits]; simp; omega
set_option maxHeartbeats 1000000 in
theorem nodeCode_any (c : Int) (w : World) :
  Calls Try.prog 28 #[J Z c] w fun e w' => e = .returned (.bool (nodeCd c)) ∧ w' = w := by
 cases q0 : (c == 0) <;> cases q1 : (c == 4) <;> cases q2 : (c == 6) <;>
 ·have HR : Hid (nodeCd c = _) := hide (by unfold nodeCd; rw [q0, q1, q2])
  go_enter Try.func28, Try.ntmps28
  go_wp2
  go_ret
  exact ⟨by rw [HR.out]; rfl, rfl⟩
set_option maxHeartbeats 4000000 in
theorem seenOk_any (a : Option Addr) (l : List Sn) (cap : Nat) (w : World) (hl : l.length ≤ 40) (h : RowAt 2 snCells w a l) :
  Calls Try.prog 27 #[V a l.length cap, .func (.func 28) #[] #[]] w fun e w' => e = .returned (.bool (allTo (snB nodeCd l) l.length)) ∧ Below w.heap.size w w' := by
 have HL : Hid _ := hide h
 clear h
 go_enter Try.func27, Try.ntmps27
 go_wp2
 go_loopw [9] (fun i wr => ∃ k : Nat, k ≤ l.length ∧ i = J Z (k : Int) ∧ Below w.heap.size w wr ∧ Hid (allTo (snB nodeCd l) k = true)) (fun i wr => l.length - (intOf i).toNat)
 case atStart => exact ⟨0, Nat.zero_le _, rfl, Below.refl _ _, hide rfl⟩
 case round =>
  obtain ⟨k, hk, rfl, HB, HS⟩ := hrel
  by_cases hlt : k < l.length
  ·obtain ⟨b, off, rfl, hb, c0, c1⟩ := sn_row (HL.out.below HB) k hlt
   have hlt' : (k : Int) < (l.length : Int) := by omega
   by_cases hz : k = 0
   ·have hri : Hid (risesB (l.map Sn.id) k = true) := hide (by rw [hz]; rfl)
    have hz' : decide ((0 : Int) < (k : Int)) = false := by simp; omega
    have hz'' : decide (0 < k) = false := by simp; omega
    clear hz
    cases q1 : inB 1 1000000000 (l[k]).id
    ·have HR : Hid (allTo (snB nodeCd l) l.length = false) := hide (by rw [allTo_false hlt (by rw [snB_at hlt, q1]; rfl)])
     go_wp2_with (fail)
     go_quiet (fail)
     go_wp2_with (first | (go_at_call 25; refine (numberOk_any _ _).mono ?_; rintro e w' ⟨rfl, rfl⟩) | (go_at_call 28; refine (nodeCode_any _ _).mono ?_; rintro e w' ⟨rfl, rfl⟩))
     go_ret
     exact ⟨by rw [HR.out]; rfl, below_drewN (below_alloc HB _) _⟩
    ·cases q3 : nodeCd (l[k]).code
     ·have HR : Hid (allTo (snB nodeCd l) l.length = false) := hide (by rw [allTo_false hlt (by rw [snB_at hlt, q1, hri.out, q3]; rfl)])
      go_wp2_with (fail)
      go_quiet (fail)
      go_wp2_with (first | (go_at_call 25; refine (numberOk_any _ _).mono ?_; rintro e w' ⟨rfl, rfl⟩) | (go_at_call 28; refine (nodeCode_any _ _).mono ?_; rintro e w' ⟨rfl, rfl⟩))
      go_ret
      exact ⟨by rw [HR.out]; rfl, below_drewN (below_alloc HB _) _⟩
     ·have HS2 : Hid (allTo (snB nodeCd l) (k + 1) = true) := hide (allTo_step HS.out (by rw [snB_at hlt, q1, hri.out, q3]; rfl))
      go_wp2_with (fail)
      go_quiet (fail)
      go_wp2_with (first | (go_at_call 25; refine (numberOk_any _ _).mono ?_; rintro e w' ⟨rfl, rfl⟩) | (go_at_call 28; refine (nodeCode_any _ _).mono ?_; rintro e w' ⟨rfl, rfl⟩))
      exact ⟨⟨_, by omega, by go_num, below_drewN (below_alloc HB _) _, HS2⟩, by simp [intOf]; omega⟩
   ·obtain ⟨m, hm⟩ : ∃ m, k = m + 1 := ⟨k - 1, by omega⟩
    have hm3 : m < l.length := by omega
    obtain ⟨b', off', heq, _, p0, _⟩ := sn_row (HL.out.below HB) m hm3
    simp only [Option.some.injEq, Addr.mk.injEq, and_true] at heq
    obtain ⟨rfl, rfl⟩ := heq
    have hz' : (0 : Int) < (k : Int) := by omega
    have hm1 : IntKind.i64.wrap ((k : Int) - 1) = (m : Int) := wrap_pred hm (by omega)
    have hm2 : (m : Int) < (l.length : Int) := by omega
    have hz'' : 0 < k := by omega
    have hrs : risesB (l.map Sn.id) k = decide ((l[m]).id < (l[k]).id) := by subst hm; exact rises_sn hlt
    by_cases q2 : (l[m]).id < (l[k]).id
    ·have hri : Hid (risesB (l.map Sn.id) k = true) := hide (by rw [hrs]; simpa using q2)
     have q2' : decide ((l[k]).id ≤ (l[m]).id) = false := by simp; omega
     clear hrs hm hz
     cases q1 : inB 1 1000000000 (l[k]).id
     ·have HR : Hid (allTo (snB nodeCd l) l.length = false) := hide (by rw [allTo_false hlt (by rw [snB_at hlt, q1]; rfl)])
      go_wp2_with (fail)
      go_quiet (fail)
      go_wp2_with (first | (go_at_call 25; refine (numberOk_any _ _).mono ?_; rintro e w' ⟨rfl, rfl⟩) | (go_at_call 28; refine (nodeCode_any _ _).mono ?_; rintro e w' ⟨rfl, rfl⟩))
      go_ret
      exact ⟨by rw [HR.out]; rfl, below_drewN (below_alloc HB _) _⟩
     ·cases q3 : nodeCd (l[k]).code
      ·have HR : Hid (allTo (snB nodeCd l) l.length = false) := hide (by rw [allTo_false hlt (by rw [snB_at hlt, q1, hri.out, q3]; rfl)])
       go_wp2_with (fail)
       go_quiet (fail)
       go_wp2_with (first | (go_at_call 25; refine (numberOk_any _ _).mono ?_; rintro e w' ⟨rfl, rfl⟩) | (go_at_call 28; refine (nodeCode_any _ _).mono ?_; rintro e w' ⟨rfl, rfl⟩))
       go_ret
       exact ⟨by rw [HR.out]; rfl, below_drewN (below_alloc HB _) _⟩
      ·have HS2 : Hid (allTo (snB nodeCd l) (k + 1) = true) := hide (allTo_step HS.out (by rw [snB_at hlt, q1, hri.out, q3]; rfl))
       go_wp2_with (fail)
       go_quiet (fail)
       go_wp2_with (first | (go_at_call 25; refine (numberOk_any _ _).mono ?_; rintro e w' ⟨rfl, rfl⟩) | (go_at_call 28; refine (nodeCode_any _ _).mono ?_; rintro e w' ⟨rfl, rfl⟩))
       exact ⟨⟨_, by omega, by go_num, below_drewN (below_alloc HB _) _, HS2⟩, by simp [intOf]; omega⟩
    ·have q2' : (l[k]).id ≤ (l[m]).id := by omega
     have HR : Hid (allTo (snB nodeCd l) l.length = false) := hide (by rw [allTo_false hlt (by rw [snB_at hlt, hrs, decide_eq_false q2]; simp)])
     clear hrs hm hz
     go_wp2_with (fail)
     go_quiet (fail)
     go_wp2
     go_ret
     exact ⟨by rw [HR.out]; rfl, below_drewN (below_alloc HB _) _⟩
  ·have hk' : ¬ (k : Int) < (l.length : Int) := by omega
   have HR : Hid (allTo (snB nodeCd l) l.length = true) := hide (by
    have hs := HS.out
    rw [show k = l.length by omega] at hs
    exact hs)
   go_wp2
   go_ret
   exact ⟨by rw [HR.out]; rfl, HB⟩
set_option maxHeartbeats 8000000 in
theorem peersOk_any (own : Int) (a : Option Addr) (l : List Pr) (cap : Nat) (w : World) (hl : l.length ≤ 8) (hsm : ∀ p ∈ l, p.E.out.length ≤ 1048576) (h : PeersAt w a l) :
  Calls Try.prog 29 #[J Z own, V a l.length cap] w fun e w' => e = .returned (.bool (allTo (pdB own (l.map Pr.d)) l.length)) ∧ Below w.heap.size w w' := by
 have HL : Hid _ := hide h
 clear h
 go_enter Try.func29, Try.ntmps29
 go_wp2
 go_loopw [9] (fun i wr => ∃ k : Nat, k ≤ l.length ∧ i = J Z (k : Int) ∧ Below w.heap.size w wr ∧ Hid (allTo (pdB own (l.map Pr.d)) k = true)) (fun i wr => l.length - (intOf i).toNat)
 case atStart => exact ⟨0, Nat.zero_le _, rfl, Below.refl _ _, hide rfl⟩
 case round =>
  obtain ⟨k, hk, rfl, HB, HS⟩ := hrel
  by_cases hlt : k < l.length
  ·obtain ⟨b, off, rfl, hb, c0, c1, c2, c3⟩ := pr_row (HL.out.row.below HB) k hlt
   have hlt' : (k : Int) < (l.length : Int) := by omega
   have HRow : Hid _ := hide ((HL.out.ends (l[k]) (List.getElem_mem hlt)).below HB)
   have HSm : Hid _ := hide (hsm (l[k]) (List.getElem_mem hlt))
   by_cases hz : k = 0
   ·have hri : Hid (risesB (l.map Pr.id) k = true) := hide (by rw [hz]; rfl)
    have hz' : decide ((0 : Int) < (k : Int)) = false := by simp; omega
    have hz'' : decide (0 < k) = false := by simp; omega
    clear hz
    cases q1 : inB 1 1000000000 (l[k]).id
    ·have HR : Hid (allTo (pdB own (l.map Pr.d)) l.length = false) := hide (by rw [allTo_false hlt (by rw [pdB_at hlt, q1]; rfl)])
     go_wp2_with (fail)
     go_quiet (fail)
     go_wp2_with (first | (go_at_call 25; refine (numberOk_any _ _).mono ?_; rintro e w' ⟨rfl, rfl⟩))
     go_ret
     exact ⟨by rw [HR.out]; rfl, below_drewN (below_alloc HB _) _⟩
    ·cases q3 : ((l[k]).id == own)
     ·go_wp2_with (fail)
      go_quiet (fail)
      go_wp2_with (first | (go_at_call 25; refine (numberOk_any _ _).mono ?_; rintro e w' ⟨rfl, rfl⟩) | fail)
      refine (implEndOk_any _ _ _ _ _ _ HSm.out (HRow.out.below (below_drewN (below_alloc (Below.refl _ _) _) _))).mono ?_
      rintro e w2 ⟨rfl, hb2⟩
      have HB2 : Hid (Below w.heap.size w w2) := hide (below_trans (below_drewN (below_alloc HB _) _) hb2)
      clear hb2
      cases q4 : endB (l[k]).E
      ·have HR : Hid (allTo (pdB own (l.map Pr.d)) l.length = false) := hide (by rw [allTo_false hlt (by rw [pdB_at hlt, q1, hri.out, q3, q4]; rfl)])
       go_wp2
       go_ret
       exact ⟨by rw [HR.out]; rfl, HB2.out⟩
      ·have HS2 : Hid (allTo (pdB own (l.map Pr.d)) (k + 1) = true) := hide (allTo_step HS.out (by rw [pdB_at hlt, q1, hri.out, q3, q4]; rfl))
       go_wp2
       exact ⟨⟨_, by omega, by go_num, HB2.out, HS2⟩, by simp [intOf]; omega⟩
     ·have HR : Hid (allTo (pdB own (l.map Pr.d)) l.length = false) := hide (by rw [allTo_false hlt (by rw [pdB_at hlt, q3]; simp)])
      go_wp2_with (fail)
      go_quiet (fail)
      go_wp2_with (first | (go_at_call 25; refine (numberOk_any _ _).mono ?_; rintro e w' ⟨rfl, rfl⟩))
      go_ret
      exact ⟨by rw [HR.out]; rfl, below_drewN (below_alloc HB _) _⟩
   ·obtain ⟨m, hm⟩ : ∃ m, k = m + 1 := ⟨k - 1, by omega⟩
    have hm3 : m < l.length := by omega
    obtain ⟨b', off', heq, _, p0, _⟩ := pr_row (HL.out.row.below HB) m hm3
    simp only [Option.some.injEq, Addr.mk.injEq, and_true] at heq
    obtain ⟨rfl, rfl⟩ := heq
    have hz' : (0 : Int) < (k : Int) := by omega
    have hm1 : IntKind.i64.wrap ((k : Int) - 1) = (m : Int) := wrap_pred hm (by omega)
    have hm2 : (m : Int) < (l.length : Int) := by omega
    have hz'' : 0 < k := by omega
    have hrs : risesB (l.map Pr.id) k = decide ((l[m]).id < (l[k]).id) := by subst hm; exact rises_pr hlt
    by_cases q2 : (l[m]).id < (l[k]).id
    ·have hri : Hid (risesB (l.map Pr.id) k = true) := hide (by rw [hrs]; simpa using q2)
     have q2' : decide ((l[k]).id ≤ (l[m]).id) = false := by simp; omega
     clear hrs hm hz
     cases q1 : inB 1 1000000000 (l[k]).id
     ·have HR : Hid (allTo (pdB own (l.map Pr.d)) l.length = false) := hide (by rw [allTo_false hlt (by rw [pdB_at hlt, q1]; rfl)])
      go_wp2_with (fail)
      go_quiet (fail)
      go_wp2_with (first | (go_at_call 25; refine (numberOk_any _ _).mono ?_; rintro e w' ⟨rfl, rfl⟩))
      go_ret
      exact ⟨by rw [HR.out]; rfl, below_drewN (below_alloc HB _) _⟩
     ·cases q3 : ((l[k]).id == own)
      ·go_wp2_with (fail)
       go_quiet (fail)
       go_wp2_with (first | (go_at_call 25; refine (numberOk_any _ _).mono ?_; rintro e w' ⟨rfl, rfl⟩) | fail)
       refine (implEndOk_any _ _ _ _ _ _ HSm.out (HRow.out.below (below_drewN (below_alloc (Below.refl _ _) _) _))).mono ?_
       rintro e w2 ⟨rfl, hb2⟩
       have HB2 : Hid (Below w.heap.size w w2) := hide (below_trans (below_drewN (below_alloc HB _) _) hb2)
       clear hb2
       cases q4 : endB (l[k]).E
       ·have HR : Hid (allTo (pdB own (l.map Pr.d)) l.length = false) := hide (by rw [allTo_false hlt (by rw [pdB_at hlt, q1, hri.out, q3, q4]; rfl)])
        go_wp2
        go_ret
        exact ⟨by rw [HR.out]; rfl, HB2.out⟩
       ·have HS2 : Hid (allTo (pdB own (l.map Pr.d)) (k + 1) = true) := hide (allTo_step HS.out (by rw [pdB_at hlt, q1, hri.out, q3, q4]; rfl))
        go_wp2
        exact ⟨⟨_, by omega, by go_num, HB2.out, HS2⟩, by simp [intOf]; omega⟩
      ·have HR : Hid (allTo (pdB own (l.map Pr.d)) l.length = false) := hide (by rw [allTo_false hlt (by rw [pdB_at hlt, q3]; simp)])
       go_wp2_with (fail)
       go_quiet (fail)
       go_wp2_with (first | (go_at_call 25; refine (numberOk_any _ _).mono ?_; rintro e w' ⟨rfl, rfl⟩))
       go_ret
       exact ⟨by rw [HR.out]; rfl, below_drewN (below_alloc HB _) _⟩
    ·have q2' : (l[k]).id ≤ (l[m]).id := by omega
     have HR : Hid (allTo (pdB own (l.map Pr.d)) l.length = false) := hide (by rw [allTo_false hlt (by rw [pdB_at hlt, hrs, decide_eq_false q2]; simp)])
     clear hrs hm hz
     go_wp2_with (fail)
     go_quiet (fail)
     go_wp2
     go_ret
     exact ⟨by rw [HR.out]; rfl, below_drewN (below_alloc HB _) _⟩
  ·have hk' : ¬ (k : Int) < (l.length : Int) := by omega
   have HR : Hid (allTo (pdB own (l.map Pr.d)) l.length = true) := hide (by
    have hs := HS.out
    rw [show k = l.length by omega] at hs
    exact hs)
   go_wp2
   go_ret
   exact ⟨by rw [HR.out]; rfl, HB⟩
set_option maxRecDepth 100000 in
set_option maxHeartbeats 8000000 in
theorem implNodeOk_any (id has spent earned : Int) (sa : Option Addr) (seen : List Sn) (sc : Nat) (pa : Option Addr) (peers : List Pr) (pc : Nat) (w : World) (hs : seen.length ≤ 1048576) (hp : peers.length ≤ 1048576) (hsm : ∀ p ∈ peers, p.E.out.length ≤ 1048576) (h1 : RowAt 2 snCells w sa seen) (h2 : PeersAt w pa peers) :
  Calls Try.prog 9 #[.agg #[J Z id, J Z has, J Z spent, J Z earned, V sa seen.length sc, V pa peers.length pc]] w fun e w' => e = .returned (.bool (nodeB ⟨id, has, spent, earned, seen, peers.map Pr.d⟩)) ∧ Below w.heap.size w w' := by
 have H1 : Hid _ := hide h1
 have H2 : Hid _ := hide h2
 clear h1 h2
 cases q1 : inB 1 1000000000 id
 ·have HR : Hid (nodeB (⟨id, has, spent, earned, seen, peers.map Pr.d⟩ : NdD) = false) := hide (by simp [nodeB, q1])
  have hs0 : (0 : Int) ≤ (seen.length : Int) := by omega
  go_enter Try.func9, Try.ntmps9
  go_wp2_with (first | (go_at_call 25; refine (numberOk_any _ _).mono ?_; rintro e w' ⟨rfl, hw'⟩; have hw'' := hw'.symm; subst hw'') | (go_at_call 26; refine (within_any _ _ _ _).mono ?_; rintro e w' ⟨rfl, hw'⟩; have hw'' := hw'.symm; subst hw''))
  go_ret
  exact ⟨by rw [HR.out]; rfl, below_alloc (Below.refl _ _) _⟩
 ·skip
  cases q2 : inB 0 10000000000000 has
  ·have HR : Hid (nodeB (⟨id, has, spent, earned, seen, peers.map Pr.d⟩ : NdD) = false) := hide (by simp [nodeB, q2])
   have hs0 : (0 : Int) ≤ (seen.length : Int) := by omega
   go_enter Try.func9, Try.ntmps9
   go_wp2_with (first | (go_at_call 25; refine (numberOk_any _ _).mono ?_; rintro e w' ⟨rfl, hw'⟩; have hw'' := hw'.symm; subst hw'') | (go_at_call 26; refine (within_any _ _ _ _).mono ?_; rintro e w' ⟨rfl, hw'⟩; have hw'' := hw'.symm; subst hw''))
   go_ret
   exact ⟨by rw [HR.out]; rfl, below_alloc (Below.refl _ _) _⟩
  ·skip
   cases q3 : inB 0 1000000000000 spent
   ·have HR : Hid (nodeB (⟨id, has, spent, earned, seen, peers.map Pr.d⟩ : NdD) = false) := hide (by simp [nodeB, q3])
    have hs0 : (0 : Int) ≤ (seen.length : Int) := by omega
    go_enter Try.func9, Try.ntmps9
    go_wp2_with (first | (go_at_call 25; refine (numberOk_any _ _).mono ?_; rintro e w' ⟨rfl, hw'⟩; have hw'' := hw'.symm; subst hw'') | (go_at_call 26; refine (within_any _ _ _ _).mono ?_; rintro e w' ⟨rfl, hw'⟩; have hw'' := hw'.symm; subst hw''))
    go_ret
    exact ⟨by rw [HR.out]; rfl, below_alloc (Below.refl _ _) _⟩
   ·skip
    cases q4 : inB 0 1000000000000 earned
    ·have HR : Hid (nodeB (⟨id, has, spent, earned, seen, peers.map Pr.d⟩ : NdD) = false) := hide (by simp [nodeB, q4])
     have hs0 : (0 : Int) ≤ (seen.length : Int) := by omega
     go_enter Try.func9, Try.ntmps9
     go_wp2_with (first | (go_at_call 25; refine (numberOk_any _ _).mono ?_; rintro e w' ⟨rfl, hw'⟩; have hw'' := hw'.symm; subst hw'') | (go_at_call 26; refine (within_any _ _ _ _).mono ?_; rintro e w' ⟨rfl, hw'⟩; have hw'' := hw'.symm; subst hw''))
     go_ret
     exact ⟨by rw [HR.out]; rfl, below_alloc (Below.refl _ _) _⟩
    ·skip
     by_cases g1 : seen.length ≤ 40
     ·by_cases g2 : peers.length ≤ 8
      ·have a1 : ¬ (40 : Int) < (seen.length : Int) := by omega
       have a2 : ¬ (8 : Int) < (peers.length : Int) := by omega
       have HN : Hid (nodeB (⟨id, has, spent, earned, seen, peers.map Pr.d⟩ : NdD) = (allTo (snB nodeCd seen) seen.length && allTo (pdB id (peers.map Pr.d)) peers.length)) := hide (by simp [nodeB, q1, q2, q3, q4, g1, g2])
       have HB0 : Hid (Below w.heap.size w (w.alloc (.cells #[J Z id, J Z has, J Z spent, J Z earned, V sa seen.length sc, V pa peers.length pc] 27))) := hide (below_alloc (Below.refl _ _) _)
       go_enter Try.func9, Try.ntmps9
       go_wp2_with (first | (go_at_call 25; refine (numberOk_any _ _).mono ?_; rintro e w' ⟨rfl, hw'⟩; have hw'' := hw'.symm; subst hw'') | (go_at_call 26; refine (within_any _ _ _ _).mono ?_; rintro e w' ⟨rfl, hw'⟩; have hw'' := hw'.symm; subst hw'') | fail)
       refine (seenOk_any _ seen _ _ g1 (H1.out.below HB0.out)).mono ?_
       rintro e w1 ⟨rfl, hb1⟩
       have c0 := boxN (hb1.mono (by simp)) 0 _ rfl
       have c5 := boxN (hb1.mono (by simp)) 5 _ rfl
       have HB1 : Hid (Below w.heap.size w w1) := hide (below_trans HB0.out hb1)
       clear hb1
       cases r1 : allTo (snB nodeCd seen) seen.length
       ·have HR : Hid (nodeB (⟨id, has, spent, earned, seen, peers.map Pr.d⟩ : NdD) = false) := hide (by rw [HN.out, r1]; rfl)
        go_wp2
        go_ret
        exact ⟨by rw [HR.out]; rfl, HB1.out⟩
       ·have HR : Hid (nodeB (⟨id, has, spent, earned, seen, peers.map Pr.d⟩ : NdD) = allTo (pdB id (peers.map Pr.d)) peers.length) := hide (by rw [HN.out, r1]; rfl)
        go_wp2_with fail
        refine (peersOk_any _ _ peers _ _ g2 hsm (H2.out.below HB1.out)).mono ?_
        rintro e w2 ⟨rfl, hb2⟩
        have HB2 : Hid (Below w.heap.size w w2) := hide (below_trans HB1.out hb2)
        clear hb2
        go_wp2
        go_ret
        exact ⟨by rw [HR.out]; rfl, HB2.out⟩
      ·have HR : Hid (nodeB (⟨id, has, spent, earned, seen, peers.map Pr.d⟩ : NdD) = false) := hide (by simp [nodeB, g2])
       have a1 : ¬ (40 : Int) < (seen.length : Int) := by omega
       have a2 : (8 : Int) < (peers.length : Int) := by omega
       go_enter Try.func9, Try.ntmps9
       go_wp2_with (first | (go_at_call 25; refine (numberOk_any _ _).mono ?_; rintro e w' ⟨rfl, hw'⟩; have hw'' := hw'.symm; subst hw'') | (go_at_call 26; refine (within_any _ _ _ _).mono ?_; rintro e w' ⟨rfl, hw'⟩; have hw'' := hw'.symm; subst hw''))
       go_ret
       exact ⟨by rw [HR.out]; rfl, below_alloc (Below.refl _ _) _⟩
     ·have HR : Hid (nodeB (⟨id, has, spent, earned, seen, peers.map Pr.d⟩ : NdD) = false) := hide (by simp [nodeB, g1])
      have a1 : (40 : Int) < (seen.length : Int) := by omega
      go_enter Try.func9, Try.ntmps9
      go_wp2_with (first | (go_at_call 25; refine (numberOk_any _ _).mono ?_; rintro e w' ⟨rfl, hw'⟩; have hw'' := hw'.symm; subst hw'') | (go_at_call 26; refine (within_any _ _ _ _).mono ?_; rintro e w' ⟨rfl, hw'⟩; have hw'' := hw'.symm; subst hw''))
      go_ret
      exact ⟨by rw [HR.out]; rfl, below_alloc (Below.refl _ _) _⟩
end Go.Proofs.Ytkcpoibhlnjldaa
/- The contracts of the laws' helpers over ends. -/
namespace Go.Proofs.Ytkcpoibhlnjldaa
open Go.ChangeShapes Go.WideShapes Go.ChangeAt Go.RowKit
set_option linter.unusedVariables false
set_option maxRecDepth 100000
end Go.Proofs.Ytkcpoibhlnjldaa
/- The contracts of the laws' helpers over nodes: sizes, copies. -/
namespace Go.Proofs.Ytkcpoibhlnjldaa
open Go.ChangeShapes Go.WideShapes Go.ChangeAt Go.RowKit
set_option linter.unusedVariables false
/-- blocks from B on that were there stand -/
structure Upper (B : Nat) (w w' : World) : Prop where
 size : w.heap.size ≤ w'.heap.size
 cell : ∀ b off v, B ≤ b → w.cell? ⟨b, off, none⟩ = some v → w'.cell? ⟨b, off, none⟩ = some v
theorem Upper.refl (B : Nat) (w : World) : Upper B w w := ⟨Nat.le_refl _, fun _ _ _ _ h => h⟩
theorem Upper.trans {B : Nat} {a b c : World} (h : Upper B a b) (k : Upper B b c) : Upper B a c := ⟨Nat.le_trans h.size k.size, fun x o v hx hv => k.cell x o v hx (h.cell x o v hx hv)⟩
theorem Upper.of {B : Nat} {w w' : World} (h : Below w.heap.size w w') : Upper B w w' := ⟨h.size, fun b o v _ hv => below_keeps h _ _ hv⟩
theorem Upper.set {B : Nat} {w w' : World} (h : Upper B w w') {g o : Nat} (hg : g < B) (v : Value) : Upper B w (w'.setCell ⟨g, o, none⟩ v) :=
 ⟨by rw [size_setCell]; exact h.size, fun b f u hb hu => by rw [cell_set_other (.inl (by omega))]; exact h.cell b f u hb hu⟩
/-- where a row lies, if it is anywhere: from B on -/
def HiA (B : Nat) (a : Option Addr) : Prop := ∀ b off, a = some ⟨b, off, none⟩ → B ≤ b
theorem HiA.mono {B C : Nat} {a : Option Addr} (h : HiA B a) (hc : C ≤ B) : HiA C a := fun b off e => Nat.le_trans hc (h b off e)
theorem hi_at {B g : Nat} (h : B ≤ g) : HiA B (some ⟨g, 0, none⟩) := fun b off e => by
 simp only [Option.some.injEq, Addr.mk.injEq, and_true] at e
 omega
theorem RowAt.upper {A : Type} {sz : Nat} {f : A → List Value} {w w' : World} {a : Option Addr} {l : List A} {B : Nat} (h : RowAt sz f w a l) (ha : HiA B a) (k : Upper B w w') : RowAt sz f w' a l := fun i hi => by
 obtain ⟨b, off, e, hb, hc⟩ := h i hi
 have := k.size
 exact ⟨b, off, e, by omega, fun r v hv => k.cell _ _ _ (ha b off e) (hc r v hv)⟩
def HiP (B : Nat) (l : List Pr) : Prop := ∀ p ∈ l, HiA B p.a
theorem PeersAt.upper {w w' : World} {a : Option Addr} {l : List Pr} {B : Nat} (h : PeersAt w a l) (ha : HiA B a) (hp : HiP B l) (k : Upper B w w') : PeersAt w' a l :=
 ⟨h.row.upper ha k, fun p hm => (h.ends p hm).upper (hp p hm) k⟩
theorem RowMid.congr {g n size k : Nat} {c c' : Nat → List Value} {x : World} (h : RowMid g n size c k x) (e : ∀ i, i < k → c i = c' i) : RowMid g n size c' k x :=
 ⟨h.lt, h.there, h.free, fun i r hi hr => by rw [← e i hi]; exact h.done i r hi hr⟩
def SmP (l : List Pr) : Prop := ∀ p ∈ l, p.E.out.length ≤ 1048576
def SmL (l : List Pr) : Prop := l.length ≤ 1048576 ∧ SmP l
def SmN (n : Nd) : Prop := n.seen.length ≤ 1048576 ∧ SmL n.peers
end Go.Proofs.Ytkcpoibhlnjldaa
/- The contracts of the laws' helpers over nodes: copies. -/
namespace Go.Proofs.Ytkcpoibhlnjldaa
open Go.Value renaming int → J, slice → V
open Go.IntKind renaming i64 → Z
open Go.ChangeShapes Go.WideShapes Go.ChangeAt Go.RowKit
set_option linter.unusedVariables false
/-- a block whose cells are known and that may be written -/
structure Blk (g : Nat) (cur : List Value) (x : World) : Prop where
 lt : g < x.heap.size
 c : ∀ j v, cur[j]? = some v → x.cell? ⟨g, j, none⟩ = some v
 f : ∀ j, x.frozen? ⟨g, j, none⟩ = false
theorem Blk.new {w : World} {cur : List Value} {T : TypeId} : Blk w.heap.size cur (w.alloc (.cells cur.toArray T)) :=
 ⟨by simp, fun j v hj => boxN (T := T) (Below.refl _ _) j v (by simpa using hj), fun j => boxFree (cur := cur.toArray) (T := T) (Below.refl _ _) j⟩
theorem Blk.below {g : Nat} {cur : List Value} {x y : World} (h : Blk g cur x) (b : Below x.heap.size x y) : Blk g cur y :=
 ⟨Nat.lt_of_lt_of_le h.lt b.size, fun j v hj => (b.cell h.lt).trans (h.c j v hj), fun j => (b.frozen h.lt).trans (h.f j)⟩
theorem Blk.alloc {g : Nat} {cur : List Value} {x : World} (h : Blk g cur x) (o : Obj) : Blk g cur (x.alloc o) := h.below (below_alloc (Below.refl _ _) _)
theorem Blk.set {g : Nat} {cur : List Value} {x : World} (h : Blk g cur x) (o : Nat) (v : Value) (ho : o < cur.length) : Blk g (cur.set o v) (x.setCell ⟨g, o, none⟩ v) :=
 ⟨by rw [size_setCell]; exact h.lt, fun j u hj => by
  by_cases e : o = j
  ·subst e
   rw [List.getElem?_set_self (by simpa using ho)] at hj
   cases hj
   exact cell_set_same (h.c o cur[o] (List.getElem?_eq_getElem ho))
  ·rw [List.getElem?_set_ne e] at hj
   rw [cell_set_other (.inr e)]
   exact h.c j u hj, fun j => by rw [frozen_set]; exact h.f j⟩
theorem Blk.other {g g' : Nat} {cur : List Value} {x : World} (h : Blk g cur x) (o : Nat) (v : Value) (hg : g' ≠ g) : Blk g cur (x.setCell ⟨g', o, none⟩ v) :=
 ⟨by rw [size_setCell]; exact h.lt, fun j u hj => by rw [cell_set_other (.inl hg)]; exact h.c j u hj, fun j => by rw [frozen_set]; exact h.f j⟩

theorem infoSn : (Try.prog.info? 70).map (fun i => (i.zero, i.size, i.bytes)) = some (some (.agg #[J Z 0, J Z 0]), 2, 16) := by kernel_rfl
theorem infoMg : (Try.prog.info? 29).map (fun i => (i.zero, i.size, i.bytes)) = some (some (.agg #[J Z 0, J Z 0, J Z 0, J Z 0, J Z 0]), 5, 40) := by kernel_rfl
theorem infoPr : (Try.prog.info? 41).map (fun i => (i.zero, i.size, i.bytes)) = some (some (.agg #[J Z 0, V none 0 0, J Z 0, J Z 0]), 4, 48) := by kernel_rfl
/-- peers that are being copied: k of them are -/
def PeersMid (g : Nat) (l : List Pr) (k : Nat) (x : World) : Prop := ∃ l1 : List Pr, l1.length = k ∧ l1.map Pr.d = (l.take k).map Pr.d ∧ RowMid g l.length 4 (fun i => (l1[i]?).elim [] prCells) k x ∧ (∀ p ∈ l1, RowAt 2 prcCells x p.a p.E.out) ∧ HiP (g + 1) l1
theorem PeersMid.step {g : Nat} {l : List Pr} {k : Nat} {x y : World} (h : PeersMid g l k x) (hk : k < l.length) (b : Below x.heap.size x y) {g1 : Nat} (hg : x.heap.size ≤ g1) (hr : RowAt 2 prcCells y (some ⟨g1, 0, none⟩) (l[k]).E.out) :
  PeersMid g l (k + 1) ((((y.setCell ⟨g, k * 4, none⟩ (J Z (l[k]).id)).setCell ⟨g, k * 4 + 1, none⟩ (V (some ⟨g1, 0, none⟩) (l[k]).E.out.length (l[k]).E.out.length)).setCell ⟨g, k * 4 + 2, none⟩ (J Z (l[k]).E.sent)).setCell ⟨g, k * 4 + 3, none⟩ (J Z (l[k]).E.got)) := by
 obtain ⟨l1, h1, h2, h3, h4, h5⟩ := h
 have hgx := h3.lt
 obtain ⟨p, hp⟩ : ∃ p : Pr, p = ⟨(l[k]).id, some ⟨g1, 0, none⟩, (l[k]).E.out.length, (l[k]).E⟩ := ⟨_, rfl⟩
 have e1 : ((l1 ++ [p])[k]?).elim [] prCells = prCells p := by rw [List.getElem?_append_right (by omega), h1]; simp
 have up : Upper (g + 1) y ((((y.setCell ⟨g, k * 4, none⟩ (J Z (l[k]).id)).setCell ⟨g, k * 4 + 1, none⟩ (V (some ⟨g1, 0, none⟩) (l[k]).E.out.length (l[k]).E.out.length)).setCell ⟨g, k * 4 + 2, none⟩ (J Z (l[k]).E.sent)).setCell ⟨g, k * 4 + 3, none⟩ (J Z (l[k]).E.got)) := ((((Upper.refl _ _).set (by omega) _).set (by omega) _).set (by omega) _).set (by omega) _
 refine ⟨l1 ++ [p], by simp [h1], ?_, ?_, fun q hq => ?_, fun q hq => ?_⟩
 ·rw [take_next l k hk, List.map_append, List.map_append, h2, hp]; rfl
 ·have m := (h3.below b).congr (c' := fun i => ((l1 ++ [p])[i]?).elim [] prCells) (fun i hi => by rw [List.getElem?_append_left (by omega)])
  exact ((((m.put.set hk (by decide) (v := J Z (l[k]).id) (by simp only [e1]; rw [hp]; rfl) rfl).set hk (by decide) (v := V (some ⟨g1, 0, none⟩) (l[k]).E.out.length (l[k]).E.out.length) (by simp only [e1]; rw [hp]; rfl) rfl).set hk (by decide) (v := J Z (l[k]).E.sent) (by simp only [e1]; rw [hp]; rfl) rfl).set hk (by decide) (v := J Z (l[k]).E.got) (by simp only [e1]; rw [hp]; rfl) rfl).whole
 ·rcases List.mem_append.1 hq with hq | hq
  ·exact ((h4 q hq).below b).upper (h5 q hq) up
  ·obtain rfl := List.mem_singleton.1 hq
   rw [hp]
   exact hr.upper (hi_at (by omega)) up
 ·rcases List.mem_append.1 hq with hq | hq
  ·exact h5 q hq
  ·obtain rfl := List.mem_singleton.1 hq
   rw [hp]
   exact hi_at (by omega)
end Go.Proofs.Ytkcpoibhlnjldaa
/- A region that draws its order, by what holds whatever of its operations have come up. -/
namespace Go.Proofs.Ytkcpoibhlnjldaa
open Go renaming undef → U
open Go.ChangeShapes Go.WideShapes Go.ChangeAt Go.RowKit
set_option linter.unusedVariables false
theorem count_zero_false {L : Array Bool} (h : L.toList.count false = 0) (j : Nat) : L.getD j true ≠ false := by
 intro hj
 have hm : false ∈ L.toList := by
  rcases Nat.lt_or_ge j L.size with hlt | hge
  ·have : L[j] = false := by simpa [hlt] using hj
   rw [← this]; exact Array.getElem_mem_toList hlt
  ·simp [Array.getElem?_eq_none hge] at hj
 exact absurd h (Nat.ne_of_gt (List.count_pos_iff.2 hm))
theorem count_set_false {L : Array Bool} {j : Nat} (hj : L.getD j true = false) : (L.setIfInBounds j true).toList.count false + 1 = L.toList.count false := by
 have hlt : j < L.size := by
  rcases Nat.lt_or_ge j L.size with hlt | hge
  ·exact hlt
  ·simp [Array.getElem?_eq_none hge] at hj
 have e : L[j] = false := by simpa [hlt] using hj
 have hm : false ∈ L.toList := by rw [← e]; exact Array.getElem_mem_toList hlt
 have hp := List.count_pos_iff.2 hm
 rw [Array.toList_setIfInBounds, List.count_set (by simpa using hlt)]
 have e' : L.toList[j]'(by simpa using hlt) = false := by simpa using e
 rw [e', if_pos (by decide), if_neg (by decide)]
 omega
/-- what holds whatever has come up, and is kept by each that may come up next -/
theorem wpAny_inv {P : Program} {ops : Array Oper} {Q : Exit → Act → World → Prop} {md : Region.Mode} (I : Array Bool → Act → World → Prop)
  (hst : ∀ L a w i, I L a w → i ∈ Region.ready md ops L → ∀ K : Act → World → Prop, (∀ a' w', I (L.setIfInBounds i true) a' w' → K a' w') → wpOp P ops Q i K a w)
  (hen : ∀ L a w, I L a w → Region.ready md ops L = [] → Q .normal a w) :
  ∀ fuel L a w, I L a w → L.toList.count false ≤ fuel → wpAny P md ops Q fuel L a w := by
 intro fuel
 induction fuel with
 | zero =>
  intro L a w h hc
  have hr : Region.ready md ops L = [] := by
   cases hr : Region.ready md ops L with
   | nil => rfl
   | cons j t =>
    have : j ∈ Region.ready md ops L := by rw [hr]; exact List.mem_cons_self
    exact absurd (mem_ready.1 this).1 (count_zero_false (by omega) j)
  exact ⟨hr, hen L a w h hr⟩
 | succ fuel ih =>
  intro L a w h hc
  refine ⟨fun hr => hen L a w h hr, fun i hi => hst L a w i h hi _ fun a' w' h' => ih _ a' w' h' ?_⟩
  have := count_set_false (mem_ready.1 hi).1
  omega
theorem wp_region_inv {P : Program} {ops : Array Oper} {Q : Exit → Act → World → Prop} {id : Nat} {a : Act} {w : World} (hm : P.follows .mixedOrders = true) (I : Array Bool → Act → World → Prop)
  (hst : ∀ L a w i, I L a w → i ∈ Region.ready .any ops L → ∀ K : Act → World → Prop, (∀ a' w', I (L.setIfInBounds i true) a' w' → K a' w') → wpOp P ops Q i K a w)
  (hen : ∀ L a w, I L a w → Region.ready .any ops L = [] → Q .normal a w) (h0 : I (Array.replicate ops.size false) a w.drew) : (Code.region id ops true).wp P Q a w :=
 wp_region_any hm (wpAny_inv I hst hen _ _ _ _ h0 (by
  have h := List.count_le_length (a := false) (l := (Array.replicate ops.size false).toList)
  rw [Array.length_toList, Array.size_replicate] at h
  exact h))
/-- one operation, run -/
theorem wpOp_run {P : Program} {ops : Array Oper} {Q : Exit → Act → World → Prop} {i : Nat} {o : Oper} {a : Act} {w : World} {K : Act → World → Prop} (hi : ops[i]? = some o) (hg : o.guard = none) {v : Value} {w' : World} (hr : (execOp a.eval o).run P w = .ok (.value v) w') (h : K (a.put o.dst v) w') : wpOp P ops Q i K a w := by
 unfold wpOp
 have hw : Region.wanted o (yielded ops a.tmps) = true := by simp [Region.wanted, hg]
 simp only [hi, hw, if_true]
 exact .inl (by unfold Oper.wp; rw [hr]; exact h)
theorem wpOp_skip {P : Program} {ops : Array Oper} {Q : Exit → Act → World → Prop} {i : Nat} {o : Oper} {a : Act} {w : World} {K : Act → World → Prop} (hi : ops[i]? = some o) (hg : o.guard = none) {w' : World} (hr : (execOp a.eval o).run P w = .ok .skip w') (h : K (a.put o.dst U) w') : wpOp P ops Q i K a w := by
 unfold wpOp
 have hw : Region.wanted o (yielded ops a.tmps) = true := by simp [Region.wanted, hg]
 simp only [hi, hw, if_true]
 exact .inl (by unfold Oper.wp; rw [hr]; exact h)
end Go.Proofs.Ytkcpoibhlnjldaa
/- Laws for a region by what holds whatever has come up: calls, appends, what is ready. -/
namespace Go.Proofs.Ytkcpoibhlnjldaa
open Go.Value renaming int → J, slice → V
open Go.ChangeShapes Go.WideShapes Go.ChangeAt Go.RowKit
set_option linter.unusedVariables false
theorem ready_on {md : Region.Mode} {ops : Array Oper} {L : Array Bool} {i : Nat} (hi : i ∈ Region.ready md ops L) (k : Nat) (hk : ((ops[i]?).map fun o => o.after.any fun e => Region.binds md e && e.on == k) = some true) : L.getD k false = true := by
 obtain ⟨_, o, ho, hd⟩ := mem_ready.1 hi
 rw [ho] at hk
 simp only [Option.map_some, Option.some.injEq, Array.any_eq_true] at hk
 obtain ⟨j, hj, he⟩ := hk
 simp only [Bool.and_eq_true, beq_iff_eq] at he
 have := hd o.after[j] (Array.getElem_mem hj) he.1
 rwa [he.2] at this
theorem exec_append {P : Program} {w w' : World} {o : Oper} {ev : Operand → Value} {s x : Operand} {t : TypeId} {v u v' : Value} (hop : o.op = Op.call { callee := Callee.builtin Builtin.append, args := #[s, x], argTypes := #[t, t] }) (hs : ev s = v) (hx : ev x = u) (hr : (Builtin.append_ #[t, t] o.type #[v, u]).run P w = .ok v' w') : (execOp ev o).run P w = .ok (.value v') w' := by
 unfold execOp
 simp only [hop, resolve, invoke, builtin, Sem.run_bind, Sem.run_pure, Result.andThen_ok, List.map_toArray, List.map_cons, List.map_nil, hs, hx, hr]
theorem news2 {x : World} {g : Nat} {v0 v1 : Value} (c0 : x.cell? ⟨g, 0, none⟩ = some v0) (c1 : x.cell? ⟨g, 1, none⟩ = some v1) (j : Nat) (u : Value) (hj : [v0, v1][j]? = some u) : x.cell? ((⟨g, 0, none⟩ : Addr).add j) = some u := by
 rw [addr_add]
 match j, hj with
 | 0, hj => simp at hj; rw [← hj]; exact c0
 | 1, hj => simp at hj; rw [← hj]; exact c1
theorem ready_all {md : Region.Mode} {ops : Array Oper} {L : Array Bool} (h : Region.ready md ops L = []) (hs : L.size = ops.size) (ha : ∀ i (hi : i < ops.size), ∀ e ∈ ops[i].after, Region.binds md e = true → e.on < i) : ∀ i, i < ops.size → L.getD i false = true := by
 intro i
 induction i using Nat.strongRecOn with
 | ind i ih =>
  intro hi
  cases hL : L.getD i true with
  | false =>
   have : i ∈ Region.ready md ops L := mem_ready.2 ⟨hL, ops[i], by simp [hi], fun e he hb => ih _ (ha i hi e he hb) (Nat.lt_trans (ha i hi e he hb) hi)⟩
   rw [h] at this
   cases this
  | true =>
   have hi' : i < L.size := by omega
   simpa [hi'] using hL
theorem grown_set (w : World) (g j : Nat) (v : Value) : w.grownBy (w.setCell ⟨g, j, none⟩ v) (some g) := ⟨rfl, rfl, rfl, by simp [World.setCell], fun k hk hne => Below.heap_setCell _ _ _ _ (fun e => hne (by rw [e]))⟩
theorem own_ne {w : World} {base : Nat} {e : TypeId} {size : Nat} {v : Value} {n : Nat} {xs : List Value} (h : w.ownsRow base e size v n xs) : v.ownBlock ≠ some w.heap.size := fun hk => by
 have := (h.lt _ hk).2
 omega
theorem own_lie {v v' : Value} {m g : Nat} (h : v'.ownBlock = v.ownBlock ∨ v'.ownBlock = some m) (h1 : v.ownBlock ≠ some g) (h2 : g < m) : v'.ownBlock ≠ some g := fun hk => by
 rcases h with h | h
 ·exact h1 (h ▸ hk)
 ·rw [h] at hk
  simp only [Option.some.injEq] at hk
  omega
theorem wpOp_call {P : Program} {ops : Array Oper} {Q : Exit → Act → World → Prop} {i : Nat} {o : Oper} {a : Act} {w : World} {K : Act → World → Prop} {f : FuncId} {args : Array Value} {R : Ending → World → Prop} (hi : ops[i]? = some o) (hg : o.guard = none) (hr : (execOp a.eval o).run P w = .ok (.enter f args) w) (hc : Calls P f args w R) (hK : ∀ e w', R e w' → ∃ v, e = .returned v ∧ K (a.put o.dst v) w') : wpOp P ops Q i K a w := by
 unfold wpOp
 have hw : Region.wanted o (yielded ops a.tmps) = true := by simp [Region.wanted, hg]
 simp only [hi, hw, if_true]
 refine .inl ?_
 unfold Oper.wp
 rw [hr, Oper.upon_enter]
 refine hc.mono fun e w' he => ?_
 obtain ⟨v, rfl, hv⟩ := hK e w' he
 exact hv
theorem run_append_any {P : Program} {w : World} (base : Nat) (t ty e : TypeId) (i : TypeInfo) (z : Value) (size bytes : Nat) (ht : P.underlying t = some (.slice e)) (hi : P.info? e = some i) (hz : i.zero = some z)
  (hsize : i.size = size) (hby : i.bytes = bytes) (hzs : z.cells.size = size) (hsz : 0 < size)
  (v : Value) (n : Nat) (xs : List Value) (hown : w.ownsRow base e size v n xs)
  (ao : Option Addr) (m c : Nat) (news : List Value) (hl : news.length = m * size) (hnone : ao = none → m = 0 ∧ c = 0) (hnews : ∀ a, ao = some a → ∀ j u, news[j]? = some u → w.cell? (a.add j) = some u) (h1 : ∀ u ∈ news, u.oneCell' = true)
  (h63 : n + m ≤ maxLen) (hbytes : (n + m) * bytes ≤ 140737488355328) (hbase : base ≤ w.heap.size) :
  ∃ v' w', (Builtin.append_ #[t, t] ty #[v, V ao m c]).run P w = .ok v' w' ∧ w'.ownsRow base e size v' (n + m) (xs ++ news) ∧ w.grownBy w' v.ownBlock ∧ (v'.ownBlock = v.ownBlock ∨ v'.ownBlock = some w.heap.size) := by
 cases ao with
 | some a =>
  obtain ⟨v', w', r1, r2, r3, _, r5⟩ := run_append_own_at (P := P) (w := w) base t ty e i z size bytes ht hi hz hsize hby hzs hsz v n xs hown a m c news hl (hnews a rfl) h1 h63 hbytes hbase
  exact ⟨v', w', r1, r2, r3, r5⟩
 | none =>
  obtain ⟨rfl, rfl⟩ := hnone rfl
  have hn : news = [] := List.eq_nil_of_length_eq_zero (by simpa using hl)
  subst hn
  exact ⟨v, w, run_append_owned_none (P := P) (w := w) base t ty e i size ht hi v n xs hown, by simpa using hown, World.grownBy.refl _ _, .inl rfl⟩
theorem RowAt.news_any {A : Type} {sz : Nat} {f : A → List Value} (hf : ∀ x, (f x).length = sz) (h0 : 0 < sz) {w : World} {a : Option Addr} {l : List A} (h : RowAt sz f w a l) : ∀ ad, a = some ad → ∀ j u, (l.flatMap f)[j]? = some u → w.cell? (ad.add j) = some u := by
 intro ad had j u hj
 subst had
 cases l with
 | nil => simp at hj
 | cons x t =>
  obtain ⟨b, off, e, _⟩ := h 0 (by simp)
  simp only [Option.some.injEq] at e
  subst e
  exact h.news hf h0 j u hj
theorem row_none {A : Type} {sz : Nat} {f : A → List Value} {w : World} {a : Option Addr} {l : List A} (h : RowAt sz f w a l) (ha : a = none) : l.length = 0 := by
 cases l with
 | nil => rfl
 | cons x t =>
  obtain ⟨b, off, e, _⟩ := h 0 (by simp)
  rw [ha] at e
  cases e
end Go.Proofs.Ytkcpoibhlnjldaa
/- The contracts of OpenOf, of the program and of its model. -/
namespace Go.Proofs.Ytkcpoibhlnjldaa
open Go.ChangeShapes Go.WideShapes Go.ChangeAt Go.RowKit
set_option linter.unusedVariables false
theorem endB_parts {E : En} (h : endB E = true) : E.out.length ≤ 8 ∧ (0 ≤ E.sent ∧ E.sent ≤ 1000000000) ∧ (0 ≤ E.got ∧ E.got ≤ 1000000000) ∧ ∀ j (hj : j < E.out.length), E.out[j].seq = E.sent - (E.out.length : Int) + 1 + (j : Int) ∧ 1 ≤ E.out[j].seq ∧ 1 ≤ E.out[j].amt ∧ E.out[j].amt ≤ 1000000000000 := by
 simp only [endB, Bool.and_eq_true, decide_eq_true_eq, inB] at h
 refine ⟨h.1.1.1, h.1.1.2, h.1.2, fun j hj => ?_⟩
 have := h.2 j hj
 simp only [prcB, Bool.and_eq_true, decide_eq_true_eq, beq_iff_eq, inB] at this
 exact ⟨this.1.1, this.1.2, this.2.1, this.2.2⟩
end Go.Proofs.Ytkcpoibhlnjldaa
/- The ring: how it lies in memory; append as a step of a region that draws; ringOf. -/
namespace Go.Proofs.Ytkcpoibhlnjldaa
open Go.Value renaming int → J, slice → V
open Go.IntKind renaming i64 → Z
open Go.ChangeShapes Go.WideShapes Go.ChangeAt Go.RowKit
set_option linter.unusedVariables false
theorem step_append_own {P : Program} {ops : Array Oper} {o : Oper} {a : Act} {w : World} {K : Act → World → Prop} {Q : Exit → Act → World → Prop} {E : Prop}
  (hg : o.guard = none) (s x : Operand) (t : TypeId) (hop : o.op = Op.call { callee := Callee.builtin Builtin.append, args := #[s, x], argTypes := #[t, t] })
  (base : Nat) (e : TypeId) (i : TypeInfo) (z : Value) (size bytes : Nat) (h1 : P.underlying t = some (.slice e)) (h2 : P.info? e = some i) (h3 : i.zero = some z) (h4 : i.size = size) (h5 : i.bytes = bytes) (h6 : z.cells.size = size) (h7 : 0 < size)
  (v : Value) (n : Nat) (xs : List Value) (hs : a.eval s = v) (hown : w.ownsRow base e size v n xs)
  (ad : Addr) (m c : Nat) (news : List Value) (hx : a.eval x = V (some ad) m c) (hn : news.length = m * size) (hc : ∀ j u, news[j]? = some u → w.cell? (ad.add j) = some u) (h1c : ∀ u ∈ news, u.oneCell' = true)
  (b1 : n + m ≤ maxLen) (b2 : (n + m) * bytes ≤ 140737488355328) (hbase : base ≤ w.heap.size)
  (hK : ∀ v' w', w'.ownsRow base e size v' (n + m) (xs ++ news) → w.grownBy w' v.ownBlock → K (a.put o.dst v') w') :
  if Region.wanted o (yielded ops a.tmps) = true then Oper.wp P o a w K Q else E := by
 have hw : Region.wanted o (yielded ops a.tmps) = true := by simp [Region.wanted, hg]
 rw [if_pos hw]
 obtain ⟨v', w', hr, r1, r2, _, _⟩ := run_append_own_at (P := P) w base t o.type e i z size bytes h1 h2 h3 h4 h5 h6 h7 v n xs hown ad m c news hn hc h1c b1 b2 hbase
 unfold Oper.wp execOp
 simp only [hop, resolve, invoke, builtin, Sem.run_bind, Sem.run_pure, Result.andThen_ok, List.map_toArray, List.map_cons, List.map_nil, hs, hx, hr]
 exact hK v' w' r1 r2
/-- a ring: eight places, what was acknowledged, what was sent -/
structure RingAt (w : World) (R : Nat) (acked sent : Int) (room : List Prc) : Prop where
 len : room.length = 8
 row : OwnRow 2 prcCells w R (some ⟨R, 0, none⟩) 8 room
 ack : w.cell? ⟨R, 16, none⟩ = some (J Z acked)
 snt : w.cell? ⟨R, 17, none⟩ = some (J Z sent)
 lt : R < w.heap.size
 free : ∀ j, w.frozen? ⟨R, j, none⟩ = false
theorem RingAt.below {w w' : World} {R : Nat} {acked sent : Int} {room : List Prc} (h : RingAt w R acked sent room) (b : Below w.heap.size w w') : RingAt w' R acked sent room :=
 ⟨h.len, h.row.below b, (b.cell h.lt).trans h.ack, (b.cell h.lt).trans h.snt, Nat.lt_of_lt_of_le h.lt b.size, fun j => (b.frozen h.lt).trans (h.free j)⟩
theorem RingAt.place {w : World} {R : Nat} {acked sent : Int} {room : List Prc} (h : RingAt w R acked sent room) (q : Nat) (hq : q < room.length) : w.cell? ⟨R, q * 2, none⟩ = some (J Z room[q].seq) ∧ w.cell? ⟨R, q * 2 + 1, none⟩ = some (J Z room[q].amt) := by
 obtain ⟨b, off, e, _, c0, c1⟩ := prc_row h.row.rows q hq
 simp only [Option.some.injEq, Addr.mk.injEq, and_true] at e
 obtain ⟨rfl, rfl⟩ := e
 rw [Nat.zero_add] at c0 c1
 exact ⟨c0, c1⟩
theorem RingAt.there {w : World} {R : Nat} {acked sent : Int} {room : List Prc} (h : RingAt w R acked sent room) (q : Nat) (hq : q < 8) : (∃ v, w.cell? ⟨R, q * 2, none⟩ = some v) ∧ ∃ v, w.cell? ⟨R, q * 2 + 1, none⟩ = some v := by
 obtain ⟨h0, h1⟩ := h.place q (by rw [h.len]; exact hq)
 exact ⟨⟨_, h0⟩, ⟨_, h1⟩⟩
/-- a parcel is laid into its place -/
theorem RingAt.put {w : World} {R : Nat} {acked sent : Int} {room : List Prc} (h : RingAt w R acked sent room) (q : Nat) (hq : q < 8) (p : Prc) : RingAt ((w.setCell ⟨R, q * 2, none⟩ (J Z p.seq)).setCell ⟨R, q * 2 + 1, none⟩ (J Z p.amt)) R acked sent (room.set q p) := by
 have hl := h.len
 have s1 : OwnRow 2 prcCells (w.setCell ⟨R, q * 2 + 0, none⟩ (J Z p.seq)) R (some ⟨R, 0, none⟩) 8 (room.set q ⟨p.seq, (room[q]'(by omega)).amt⟩) := by
  refine OwnRow.set prcLen h.row (by omega) (by decide) (by simp) (fun k hk hk' r' v hv => ?_)
  rw [List.getElem_set] at hv
  by_cases e : q = k
  ·subst e
   rw [if_pos rfl] at hv
   match r', hv with
   | 0, hv => simp [prcCells] at hv; exact .inl ⟨rfl, rfl, hv.symm⟩
   | 1, hv => simp [prcCells] at hv; exact .inr ⟨by omega, by simp [prcCells, hv]⟩
   | r + 2, hv => simp [prcCells] at hv
  ·rw [if_neg e] at hv
   exact .inr ⟨by omega, hv⟩
 have s2 : OwnRow 2 prcCells ((w.setCell ⟨R, q * 2 + 0, none⟩ (J Z p.seq)).setCell ⟨R, q * 2 + 1, none⟩ (J Z p.amt)) R (some ⟨R, 0, none⟩) 8 (room.set q p) := by
  refine OwnRow.set prcLen s1 (i := q) (r := 1) (by simp; omega) (by decide) (by simp) (fun k hk hk' r' v hv => ?_)
  rw [List.getElem_set] at hv
  rw [List.getElem_set]
  by_cases e : q = k
  ·subst e
   rw [if_pos rfl] at hv ⊢
   match r', hv with
   | 0, hv => simp [prcCells] at hv; exact .inr ⟨by omega, by simp [prcCells, hv]⟩
   | 1, hv => simp [prcCells] at hv; exact .inl ⟨rfl, rfl, hv.symm⟩
   | r + 2, hv => simp [prcCells] at hv
  ·rw [if_neg e] at hv ⊢
   exact .inr ⟨by omega, hv⟩
 refine ⟨by simp [hl], s2, ?_, ?_, by rw [size_setCell, size_setCell]; exact h.lt, fun j => by rw [frozen_set, frozen_set]; exact h.free j⟩
 ·rw [cell_set_other (.inr (by omega)), cell_set_other (.inr (by omega))]; exact h.ack
 ·rw [cell_set_other (.inr (by omega)), cell_set_other (.inr (by omega))]; exact h.snt
theorem RingAt.turned {w w' : World} {R g : Nat} {acked sent : Int} {room : List Prc} (h : RingAt w R acked sent room) (k : Turned g w w') (hne : R ≠ g) : RingAt w' R acked sent room :=
 ⟨h.len, h.row.turned k (fun _ => hne), (k.cell hne).trans h.ack, (k.cell hne).trans h.snt, by rw [k.size]; exact h.lt, fun j => (k.frozen hne).trans (h.free j)⟩
/-- the place of a number -/
def plc (s : Int) : Nat := (s % 8).toNat
theorem plc_lt (s : Int) : plc s < 8 := by unfold plc; omega
theorem plc_eq {s : Int} (h : 0 ≤ s) : Int.tmod s 8 = (plc s : Int) := by
 rw [Int.tmod_eq_emod_of_nonneg h]; unfold plc; omega
def room0 : List Prc := List.replicate 8 ⟨0, 0⟩
theorem ring_made (w : World) (acked sent : Int) : RingAt (w.alloc (.cells #[J Z 0, J Z 0, J Z 0, J Z 0, J Z 0, J Z 0, J Z 0, J Z 0, J Z 0, J Z 0, J Z 0, J Z 0, J Z 0, J Z 0, J Z 0, J Z 0, J Z acked, J Z sent] 133)) w.heap.size acked sent room0 := by
 refine ⟨rfl, ⟨fun i hi => ⟨w.heap.size, 0, rfl, by simp, fun r v hv => ?_⟩, fun _ => ⟨rfl, frozen_of_block (cur := #[J Z 0, J Z 0, J Z 0, J Z 0, J Z 0, J Z 0, J Z 0, J Z 0, J Z 0, J Z 0, J Z 0, J Z 0, J Z 0, J Z 0, J Z 0, J Z 0, J Z acked, J Z sent]) (e := 133) (by show (w.heap.push _)[w.heap.size]? = _; simp)⟩, by decide, fun q => by cases q⟩, World.cell?_alloc_at _ _ _ _ rfl, World.cell?_alloc_at _ _ _ _ rfl, by simp, frozen_of_block (cur := #[J Z 0, J Z 0, J Z 0, J Z 0, J Z 0, J Z 0, J Z 0, J Z 0, J Z 0, J Z 0, J Z 0, J Z 0, J Z 0, J Z 0, J Z 0, J Z 0, J Z acked, J Z sent]) (e := 133) (by show (w.heap.push _)[w.heap.size]? = _; simp)⟩
 have hi8 : i < 8 := hi
 have e : room0[i]'hi = ⟨0, 0⟩ := List.getElem_replicate _
 have hv : (prcCells ⟨0, 0⟩)[r]? = some v := by rw [← e]; exact hv
 have h2 : r < 2 := by have := (List.getElem?_eq_some_iff.1 hv).1; simpa [prcCells] using this
 have hv' : v = J Z 0 := by
  match r, hv, h2 with
  | 0, hv, _ => simp [prcCells] at hv; exact hv.symm
  | 1, hv, _ => simp [prcCells] at hv; exact hv.symm
 subst hv'
 rw [Nat.zero_add]
 refine (World.cell?_alloc_at _ _ _ _ rfl).trans ?_
 have : i * 2 + r < 16 := by omega
 generalize i * 2 + r = m at this
 match m, this with
 | 0, _ => rfl | 1, _ => rfl | 2, _ => rfl | 3, _ => rfl | 4, _ => rfl | 5, _ => rfl | 6, _ => rfl | 7, _ => rfl
 | 8, _ => rfl | 9, _ => rfl | 10, _ => rfl | 11, _ => rfl | 12, _ => rfl | 13, _ => rfl | 14, _ => rfl | 15, _ => rfl
 | m + 16, h => exact absurd h (by omega)
def RingEnd (l : List Prc) (sent : Int) (w : World) (e : Ending) (w' : World) : Prop := Below w.heap.size w w' ∧ ∃ R room, w.heap.size ≤ R ∧ e = .returned (.pointer (some ⟨R, 0, none⟩)) ∧ RingAt w' R (sent - (l.length : Int)) sent room ∧ ∀ j (hj : j < l.length), room[plc l[j].seq]? = some l[j]
set_option maxRecDepth 100000 in
set_option maxHeartbeats 8000000 in
theorem ringOf_any (a : Option Addr) (l : List Prc) (cap : Nat) (sent got : Int) (w : World) (q : endB ⟨l, sent, got⟩ = true) (h : RowAt 2 prcCells w a l) :
  Calls Try.prog 74 #[.agg #[V a l.length cap, J Z sent, J Z got]] w fun e w' => RingEnd l sent w e w' := by
 have HC : Hid _ := hide h
 have HQ : Hid _ := hide q
 have h8 : l.length ≤ 8 := (endB_parts q).1
 have hs0 : 0 ≤ sent := (endB_parts q).2.1.1
 have hs1 : sent ≤ 1000000000 := (endB_parts q).2.1.2
 clear h q
 obtain ⟨w1, hw1⟩ : ∃ w1, w1 = w.alloc (.cells #[V a l.length cap, J Z sent, J Z got] 39) := ⟨_, rfl⟩
 have HX1 : Hid (Below (w.heap.size + 1) (w.alloc (.cells #[V a l.length cap, J Z sent, J Z got] 39)) w1) := hide (by rw [hw1]; exact Below.refl _ _)
 have HW : Hid (w.alloc (.cells #[V a l.length cap, J Z sent, J Z got] 39) = w1) := hide hw1.symm
 clear hw1
 have HC1 : Hid _ := hide (box3 HX1.out)
 go_enter Try.func74, Try.ntmps74
 go_wp2_with fail
 rw [HW.out]
 go_region_held (fun x => x.cell? ⟨w.heap.size, 0, none⟩ = some (V a l.length cap) ∧ x.cell? ⟨w.heap.size, 1, none⟩ = some (J Z sent) ∧ x.cell? ⟨w.heap.size, 2, none⟩ = some (J Z got) ∧ Hid (Below w1.heap.size w1 x))
  (first | assumption | exact S3.of HC1.out (Below.refl _ _).drew | exact S3.on (by assumption) (by assumption) | exact S3.on (by assumption) (below_alloc (Below.refl _ _) _))
  (first | (go_at_call 68; refine (aheadOfOut_any (.bool true) _ _ _ _ _ _ h8 (And.intro hs0 hs1)).mono ?_; rintro e w2 ⟨rfl, hb2⟩))
 have HS2 : Hid _ := hide (by assumption : S3 w.heap.size (V a l.length cap) (J Z sent) (J Z got) w1 (w2.alloc (.cells #[J Z 0, J Z 0, J Z 0, J Z 0, J Z 0, J Z 0, J Z 0, J Z 0, J Z 0, J Z 0, J Z 0, J Z 0, J Z 0, J Z 0, J Z 0, J Z 0, J Z (sent - (l.length : Int)), J Z sent] 133)))
 obtain ⟨w3, hw3⟩ : ∃ w3, w3 = w2.alloc (.cells #[J Z 0, J Z 0, J Z 0, J Z 0, J Z 0, J Z 0, J Z 0, J Z 0, J Z 0, J Z 0, J Z 0, J Z 0, J Z 0, J Z 0, J Z 0, J Z 0, J Z (sent - (l.length : Int)), J Z sent] 133) := ⟨_, rfl⟩
 have HR3 : Hid (RingAt w3 w2.heap.size (sent - (l.length : Int)) sent room0) := hide (by rw [hw3]; exact ring_made _ _ _)
 have HS3 : Hid (S3 w.heap.size (V a l.length cap) (J Z sent) (J Z got) w1 w3) := hide (by rw [hw3]; exact HS2.out)
 have HX3 : Hid _ := hide (box_on HX1.out HS3.out.2.2.2.out)
 have hRl : w.heap.size + 1 ≤ w2.heap.size := by have := box_lt HX1.out; have := hb2.size; simp at this; omega
 rw [← hw3]
 clear hw3 HS2 hb2
 obtain ⟨x0, x1, x2, _⟩ := HS3.out
 go_wp2
 go_loopw [15] (fun i wr => ∃ (k : Nat) (room : List Prc), k ≤ l.length ∧ i = J Z (k : Int) ∧ Hid (Below w2.heap.size w3 wr) ∧ Hid (RingAt wr w2.heap.size (sent - (l.length : Int)) sent room) ∧ Hid (∀ j (hj : j < l.length), j < k → room[plc l[j].seq]? = some l[j])) (fun i wr => l.length - (intOf i).toNat)
 case atStart => exact ⟨0, room0, Nat.zero_le _, rfl, hide (Below.refl _ _), HR3, hide (fun j _ hj => by omega)⟩
 case round =>
  obtain ⟨k, room, hk, rfl, HB, HR, HJ⟩ := hrel
  by_cases hlt : k < l.length
  ·have hle : w2.heap.size ≤ w3.heap.size := Nat.le_of_lt HR3.out.lt
   obtain ⟨b, off, rfl, hb, c0, c1⟩ := prc_row (HC.out.below ((box_old HX3.out).trans (HB.out.mono (by omega)))) k hlt
   have hlt' : (k : Int) < (l.length : Int) := by omega
   obtain ⟨e1, e2, e3, e4⟩ := (endB_parts HQ.out).2.2.2 k hlt
   simp only at e1 e2 e3 e4
   have hqe := plc_eq (s := (l[k]).seq) (by omega)
   have hq8 := plc_lt (l[k]).seq
   have hR2 := (HR.out.below (below_alloc (Below.refl wr.heap.size wr) (.cells #[J Z (l[k]).seq, J Z (l[k]).amt] 61)))
   have HP : Hid _ := hide (hR2.put (plc (l[k]).seq) hq8 l[k])
   obtain ⟨⟨u0, r0⟩, ⟨u1, r1⟩⟩ := hR2.there (plc (l[k]).seq) hq8
   have z0 := hR2.free (plc (l[k]).seq * 2)
   have z1 := hR2.free (plc (l[k]).seq * 2 + 1)
   have HL2 : Hid _ := hide hR2.len
   have HRL : Hid (w2.heap.size < wr.heap.size) := hide HR.out.lt
   clear hR2
   have HJ2 : Hid (∀ j (hj : j < l.length), j < k + 1 → (room.set (plc (l[k]).seq) l[k])[plc l[j].seq]? = some l[j]) := hide (fun j hj hjk => by
    rw [List.getElem?_set]
    rcases Nat.lt_or_ge j k with h1 | h1
    ·have e := ((endB_parts HQ.out).2.2.2 j hj).1
     have e' := ((endB_parts HQ.out).2.2.2 k hlt).1
     simp only at e e'
     have hne : plc (l[k]).seq ≠ plc l[j].seq := by
      rw [e, e']; unfold plc; omega
     rw [if_neg hne]
     exact HJ.out j hj h1
    ·obtain rfl : j = k := by omega
     rw [if_pos rfl, if_pos (by rw [HL2.out]; exact hq8)])
   generalize plc (l[k]).seq = qn at *
   clear e1 e2 e3 e4
   go_wp2_with fail
   go_region
   go_wp2
   exact ⟨⟨k + 1, _, by omega, by go_num, hide (((((HB.out.alloc (Nat.le_of_lt HRL.out) _).setCell (Nat.le_refl _) _).setCell (Nat.le_refl _) _)).drew), hide (HP.out.below ((Below.refl _ _).drew)), HJ2⟩, by simp [intOf]; omega⟩
  ·have hk' : ¬ (k : Int) < (l.length : Int) := by omega
   have HE : Hid (Below w.heap.size w wr) := hide ((box_old HX3.out).trans (HB.out.mono (by omega)))
   go_wp2
   go_ret
   exact ⟨HE.out, w2.heap.size, room, by omega, rfl, HR.out, fun j hj => HJ.out j hj (by omega)⟩
end Go.Proofs.Ytkcpoibhlnjldaa
/- The ring's methods: full, put, drop. -/
namespace Go.Proofs.Ytkcpoibhlnjldaa
open Go.Value renaming int → J, slice → V
open Go.IntKind renaming i64 → Z
open Go.ChangeShapes Go.WideShapes Go.ChangeAt Go.RowKit
set_option linter.unusedVariables false
def fullB (acked sent : Int) : Bool := sent - acked == 8
def PutEnd (R : Nat) (acked sent : Int) (room : List Prc) (amt : Int) (w : World) (e : Ending) (w' : World) : Prop := e = .returned (.agg #[J Z (sent + 1), J Z amt]) ∧ Below R w w' ∧ RingAt w' R acked (sent + 1) (room.set (plc (sent + 1)) ⟨sent + 1, amt⟩)
theorem RingAt.sent {w : World} {R : Nat} {acked sent : Int} {room : List Prc} (h : RingAt w R acked sent room) (s : Int) : RingAt (w.setCell ⟨R, 17, none⟩ (J Z s)) R acked s room := by
 refine ⟨h.len, ⟨fun i hi => ?_, fun h0 => ⟨rfl, fun j => by rw [frozen_set]; exact h.free j⟩, h.row.room, h.row.nocap⟩, ?_, cell_set_same h.snt, by rw [size_setCell]; exact h.lt, fun j => by rw [frozen_set]; exact h.free j⟩
 ·obtain ⟨b, off, e, hb, hc⟩ := h.row.rows i hi
  have e' := e
  simp only [Option.some.injEq, Addr.mk.injEq, and_true] at e'
  obtain ⟨rfl, rfl⟩ := e'
  refine ⟨R, 0, rfl, by rw [size_setCell]; exact hb, fun r v hv => ?_⟩
  have hr : r < 2 := by rw [← prcLen room[i]]; exact (List.getElem?_eq_some_iff.1 hv).1
  have hl := h.len
  rw [cell_set_other (.inr (by omega))]
  exact hc r v hv
 ·rw [cell_set_other (.inr (by omega))]; exact h.ack
theorem RingAt.acked {w : World} {R : Nat} {acked sent : Int} {room : List Prc} (h : RingAt w R acked sent room) (s : Int) : RingAt (w.setCell ⟨R, 16, none⟩ (J Z s)) R s sent room := by
 refine ⟨h.len, ⟨fun i hi => ?_, fun h0 => ⟨rfl, fun j => by rw [frozen_set]; exact h.free j⟩, h.row.room, h.row.nocap⟩, cell_set_same h.ack, ?_, by rw [size_setCell]; exact h.lt, fun j => by rw [frozen_set]; exact h.free j⟩
 ·obtain ⟨b, off, e, hb, hc⟩ := h.row.rows i hi
  have e' := e
  simp only [Option.some.injEq, Addr.mk.injEq, and_true] at e'
  obtain ⟨rfl, rfl⟩ := e'
  refine ⟨R, 0, rfl, by rw [size_setCell]; exact hb, fun r v hv => ?_⟩
  have hr : r < 2 := by rw [← prcLen room[i]]; exact (List.getElem?_eq_some_iff.1 hv).1
  have hl := h.len
  rw [cell_set_other (.inr (by omega))]
  exact hc r v hv
 ·rw [cell_set_other (.inr (by omega))]; exact h.snt
def DropEnd (R : Nat) (acked sent seq : Int) (room : List Prc) (w : World) (e : Ending) (w' : World) : Prop := e = .returned (.tuple #[]) ∧ Below R w w' ∧ w'.heap.size = w.heap.size ∧ RingAt w' R (max acked seq) sent room
set_option maxRecDepth 100000 in
set_option maxHeartbeats 4000000 in
theorem drop_any (R : Nat) (acked sent seq : Int) (room : List Prc) (w : World) (h : RingAt w R acked sent room) :
  Calls Try.prog 78 #[.pointer (some ⟨R, 0, none⟩), J Z seq] w fun e w' => DropEnd R acked sent seq room w e w' := by
 have c1 := h.ack
 have f1 := h.free 16
 have HP : Hid _ := hide (h.acked (max acked seq))
 have HB : Hid _ := hide ((Below.refl R w).setCell (p := ⟨R, 16, none⟩) (Nat.le_refl _) (J Z (max acked seq)))
 clear h
 by_cases hm : acked < seq
 ·have em : max acked seq = seq := by omega
  rw [em] at HP HB
  have HE : Hid (DropEnd R acked sent seq room w (.returned (.tuple #[])) (w.setCell ⟨R, 16, none⟩ (J Z seq))) := hide ⟨rfl, HB.out, by simp, by rw [em]; exact HP.out⟩
  clear em
  go_enter Try.func78, Try.ntmps78
  go_wp2
  go_end0
  exact HE.out
 ·have em : max acked seq = acked := by omega
  rw [em] at HP HB
  have HE : Hid (DropEnd R acked sent seq room w (.returned (.tuple #[])) (w.setCell ⟨R, 16, none⟩ (J Z acked))) := hide ⟨rfl, HB.out, by simp, by rw [em]; exact HP.out⟩
  clear em
  go_enter Try.func78, Try.ntmps78
  go_wp2
  go_end0
  exact HE.out
/-- what an end has open, told from the ring -/
def outL (acked sent : Int) (room : List Prc) : List Prc := (List.range (sent - acked).toNat).map fun (i : Nat) => (room[plc (acked + 1 + (i : Int))]?).getD ⟨0, 0⟩
theorem outL_len (acked sent : Int) (room : List Prc) : (outL acked sent room).length = (sent - acked).toNat := by simp [outL]
theorem outL_at (acked sent : Int) (room : List Prc) (k : Nat) (hk : k < (sent - acked).toNat) : (outL acked sent room).take (k + 1) = (outL acked sent room).take k ++ [(room[plc (acked + 1 + (k : Int))]?).getD ⟨0, 0⟩] := by
 rw [take_next _ k (by rw [outL_len]; exact hk)]
 simp [outL]
theorem row_shape {w : World} {base : Nat} {e : TypeId} {size : Nat} {v : Value} {n : Nat} {xs : List Value} (h : w.ownsRow base e size v n xs) : ∃ a c, v = V a n c := by
 obtain ⟨_, ⟨h0, h1⟩ | ⟨g, cap, cur, h1, _⟩⟩ := h
 ·exact ⟨none, 0, by rw [h0, h1]⟩
 ·exact ⟨_, _, h1⟩
/-- the block of the end that is built -/
structure EndMid (w : World) (k : Nat) (sent got : Int) (v : Value) (xs : List Value) (x : World) : Prop where
 old : Below w.heap.size w x
 lt : w.heap.size + 1 < x.heap.size
 c0 : x.cell? ⟨w.heap.size + 1, 0, none⟩ = some v
 c1 : x.cell? ⟨w.heap.size + 1, 1, none⟩ = some (J Z sent)
 c2 : x.cell? ⟨w.heap.size + 1, 2, none⟩ = some (J Z got)
 f : ∀ j, x.frozen? ⟨w.heap.size + 1, j, none⟩ = false
 own : x.ownsRow (w.heap.size + 2) 61 2 v k xs
end Go.Proofs.Ytkcpoibhlnjldaa
/- The ring's method end: what is open, as a list of its own. -/
namespace Go.Proofs.Ytkcpoibhlnjldaa
open Go.Value renaming int → J, slice → V
open Go.IntKind renaming i64 → Z
open Go.ChangeShapes Go.WideShapes Go.ChangeAt Go.RowKit
set_option linter.unusedVariables false
/-- the block that is handed back -/
structure ResMid (b : Nat) (x : World) : Prop where
 lt : b < x.heap.size
 c : ∀ j, j < 3 → ∃ v, x.cell? ⟨b, j, none⟩ = some v
 f : ∀ j, x.frozen? ⟨b, j, none⟩ = false
theorem ResMid.keep {b : Nat} {x y : World} (h : ResMid b x) (hb : y.heap[b]? = x.heap[b]?) (hs : x.heap.size ≤ y.heap.size) : ResMid b y :=
 ⟨Nat.lt_of_lt_of_le h.lt hs, fun j hj => by obtain ⟨v, hv⟩ := h.c j hj; exact ⟨v, (World.cell?_of_block hb).trans hv⟩, fun j => (World.frozen?_of_block hb).trans (h.f j)⟩
theorem end_start (w : World) (sent got : Int) : EndMid w 0 sent got (V none 0 0) [] ((w.alloc (.cells #[V none 0 0, J Z 0, J Z 0] 39)).alloc (.cells #[V none 0 0, J Z sent, J Z got] 39)) ∧ ResMid w.heap.size ((w.alloc (.cells #[V none 0 0, J Z 0, J Z 0] 39)).alloc (.cells #[V none 0 0, J Z sent, J Z got] 39)) := by
 obtain ⟨wa, hwa⟩ : ∃ wa, wa = w.alloc (.cells #[V none 0 0, J Z 0, J Z 0] 39) := ⟨_, rfl⟩
 have sa : wa.heap.size = w.heap.size + 1 := by rw [hwa]; simp
 have ba : Below (w.heap.size + 1) (w.alloc (.cells #[V none 0 0, J Z 0, J Z 0] 39)) (wa.alloc (.cells #[V none 0 0, J Z sent, J Z got] 39)) := by
  rw [← hwa]; exact (Below.refl _ _).alloc (by omega) _
 rw [← hwa]
 obtain ⟨⟨x0, x1, x2⟩, fx⟩ := new_block ba
 obtain ⟨⟨y0, y1, y2⟩, fy⟩ := new_block (w := wa) (v0 := V none 0 0) (v1 := J Z sent) (v2 := J Z got) (T := 39) (Below.refl _ _)
 rw [sa] at y0 y1 y2 fy
 refine ⟨⟨box_old ba, by simp [sa], y0, y1, y2, fy, World.ownsRow_nil _ _ _ _⟩, ⟨by simp [sa]; omega, fun j hj => ?_, fx⟩⟩
 match j, hj with
 | 0, _ => exact ⟨_, x0⟩
 | 1, _ => exact ⟨_, x1⟩
 | 2, _ => exact ⟨_, x2⟩
theorem own_keep {x y : World} {base : Nat} {e : TypeId} {sz : Nat} {v : Value} {n : Nat} {xs : List Value} (h : x.ownsRow base e sz v n xs) (b : Below x.heap.size x y) : y.ownsRow base e sz v n xs := by
 obtain ⟨hl, ⟨h0, h1⟩ | ⟨g, cap, cur, h1, hb, hg, r⟩⟩ := h
 ·exact ⟨hl, .inl ⟨h0, h1⟩⟩
 ·exact ⟨hl, .inr ⟨g, cap, cur, h1, hb, (b.block g (Array.getElem?_eq_some_iff.1 hg).1).trans hg, r⟩⟩
theorem own_base {x : World} {base : Nat} {e : TypeId} {sz : Nat} {v : Value} {n : Nat} {xs : List Value} (h : x.ownsRow base e sz v n xs) : ∀ g, v.ownBlock = some g → base ≤ g := by
 intro g hg
 obtain ⟨hl, ⟨h0, h1⟩ | ⟨g', cap, cur, h1, hb, _⟩⟩ := h
 ·rw [h0] at hg; cases hg
 ·rw [h1] at hg
  simp only [Value.ownBlock, Option.some.injEq] at hg
  omega
theorem two_news (w : World) (x y : Value) (t : TypeId) : ∀ j u, [x, y][j]? = some u → (w.alloc (.cells #[x, y] t)).drew.cell? ((⟨w.heap.size, 0, none⟩ : Addr).add j) = some u := by
 intro j u hj
 rw [addr_add, Nat.zero_add]
 show (w.alloc (.cells #[x, y] t)).cell? ⟨w.heap.size, j, none⟩ = some u
 match j, hj with
 | 0, hj => simp at hj; subst hj; exact World.cell?_alloc_at _ _ _ _ rfl
 | 1, hj => simp at hj; subst hj; exact World.cell?_alloc_at _ _ _ _ rfl
theorem two_one (a b : Int) : ∀ u ∈ [J Z a, J Z b], u.oneCell' = true := fun u hu => by
 simp only [List.mem_cons, List.not_mem_nil, or_false] at hu
 rcases hu with rfl | rfl <;> rfl
theorem EndMid.next {w x y : World} {k : Nat} {sent got : Int} {v v' : Value} {xs ys : List Value} (h : EndMid w k sent got v xs x) (hb : Below (w.heap.size + 2) x y) (ho : y.ownsRow (w.heap.size + 2) 61 2 v' (k + 1) ys) : EndMid w (k + 1) sent got v' ys (y.setCell ⟨w.heap.size + 1, 0, none⟩ v') := by
 have hl := h.lt
 have c0 : y.cell? ⟨w.heap.size + 1, 0, none⟩ = some v := (hb.cell (by show w.heap.size + 1 < w.heap.size + 2; omega)).trans h.c0
 refine ⟨((h.old).trans (hb.mono (by omega))).setCell (by show w.heap.size ≤ w.heap.size + 1; omega) _, by rw [size_setCell]; exact Nat.lt_of_lt_of_le hl hb.size, cell_set_same c0, ?_, ?_, fun j => ?_, ownsRow_setCell_below ho (by show w.heap.size + 1 < w.heap.size + 2; omega) _⟩
 ·rw [cell_set_other (.inr (by omega))]; exact (hb.cell (by show w.heap.size + 1 < w.heap.size + 2; omega)).trans h.c1
 ·rw [cell_set_other (.inr (by omega))]; exact (hb.cell (by show w.heap.size + 1 < w.heap.size + 2; omega)).trans h.c2
 ·rw [frozen_set]; exact (hb.frozen (by show w.heap.size + 1 < w.heap.size + 2; omega)).trans (h.f j)
def EndEnd (l : List Prc) (sent got : Int) (w : World) (e : Ending) (w' : World) : Prop := Below w.heap.size w w' ∧ ∃ v, e = .returned (.agg #[v, J Z sent, J Z got]) ∧ NewRow 2 prcCells l w v w'
set_option maxRecDepth 100000 in
set_option maxHeartbeats 8000000 in
theorem end_any (R : Nat) (acked sent got : Int) (room : List Prc) (w : World) (h : RingAt w R acked sent room) (ha : 0 ≤ acked) (hs : acked ≤ sent ∧ sent ≤ 1000000001) (hn : sent - acked ≤ 8) :
  Calls Try.prog 77 #[.pointer (some ⟨R, 0, none⟩), J Z got] w fun e w' => EndEnd (outL acked sent room) sent got w e w' := by
 obtain ⟨i0, hi, hz0, hz1, hz2⟩ := info_parts info34
 have hu27 : Try.prog.underlying 37 = some (.slice 61) := by kernel_rfl
 obtain ⟨hs0, hs1⟩ := hs
 have HR : Hid _ := hide h
 have hRl := h.lt
 have x16 := h.ack
 have x17 := h.snt
 clear h
 have HS0 : Hid _ := hide (end_start w sent got)
 have hlen := outL_len acked sent room
 have HL : Hid _ := hide hlen
 clear hlen
 go_enter Try.func77, Try.ntmps77
 go_wp2
 go_loopw [6] (fun i wr => ∃ (k : Nat) (v : Value), k ≤ (sent - acked).toNat ∧ i = J Z (acked + 1 + (k : Int)) ∧ Hid (EndMid w k sent got v (((outL acked sent room).take k).flatMap prcCells) wr) ∧ Hid (ResMid w.heap.size wr)) (fun i wr => ((sent + 1) - intOf i).toNat)
 case atStart => exact ⟨0, _, Nat.zero_le _, by simp, hide (by simpa using HS0.out.1), hide HS0.out.2⟩
 case round =>
  obtain ⟨k, v, hk, rfl, HM, HRes⟩ := hrel
  have y17 : wr.cell? ⟨R, 17, none⟩ = some (J Z sent) := (HM.out.old.cell hRl).trans x17
  have y0 := HM.out.c0
  have y1 := HM.out.c1
  have y2 := HM.out.c2
  by_cases hlt : k < (sent - acked).toNat
  ·have hle : acked + 1 + (k : Int) ≤ sent := by omega
   have hqe := plc_eq (s := acked + 1 + (k : Int)) (by omega)
   have hq8 := plc_lt (acked + 1 + (k : Int))
   have HTK : Hid _ := hide (outL_at acked sent room k hlt)
   have hRw := HR.out.below HM.out.old
   obtain ⟨c0, c1⟩ := hRw.place (plc (acked + 1 + (k : Int))) (by rw [hRw.len]; exact hq8)
   have hgd : (room[plc (acked + 1 + (k : Int))]?).getD ⟨0, 0⟩ = room[plc (acked + 1 + (k : Int))]'(by rw [hRw.len]; exact hq8) := by
    rw [List.getElem?_eq_getElem (by rw [hRw.len]; exact hq8)]; rfl
   obtain ⟨p, hp⟩ : ∃ p, p = (room[plc (acked + 1 + (k : Int))]?).getD ⟨0, 0⟩ := ⟨_, rfl⟩
   rw [← hgd, ← hp] at c0 c1
   rw [← hp] at HTK
   clear hgd hp
   obtain ⟨va, vc, rfl⟩ := row_shape HM.out.own
   have fz := HM.out.f 0
   have hwl := HM.out.lt
   have HWL : Hid (w.heap.size + 1 < wr.heap.size) := hide HM.out.lt
   have hq8' : ((plc (acked + 1 + (k : Int)) : Nat) : Int) < 8 := by omega
   generalize plc (acked + 1 + (k : Int)) = qn at *
   go_wp2_with fail
   go_region_law (refine step_append_own rfl (.tmp 27) (.tmp 35) 37 rfl (w.heap.size + 2) 61 i0 _ 2 16 hu27 hi hz0 hz1 hz2 rfl (by decide) (V va k vc) k (((outL acked sent room).take k).flatMap prcCells) (by simp [Act.eval]) (own_keep HM.out.own ((below_alloc (Below.refl _ _) _).drew)) ⟨wr.heap.size, 0, none⟩ 1 1 [J Z p.seq, J Z p.amt] (by simp [Act.eval]) rfl (two_news _ _ _ _) (two_one _ _) (by unfold maxLen; omega) (by omega) (by have := HWL.out; simp; omega) ?_; intro v' w' ho' hg'; obtain ⟨va', vc', rfl⟩ := row_shape ho'; have HB' : Hid (Below (w.heap.size + 2) wr w') := hide ((((Below.refl (w.heap.size + 2) wr).alloc (by have := HWL.out; omega) _).drew).grown hg' (by have := HWL.out; simp; omega) (own_base HM.out.own)); have HO' : Hid _ := hide ho'; have g0 := (HB'.out.cell (p := ⟨w.heap.size + 1, 0, none⟩) (by show w.heap.size + 1 < w.heap.size + 2; omega)).trans y0; have gz := (HB'.out.frozen (p := ⟨w.heap.size + 1, 0, none⟩) (by show w.heap.size + 1 < w.heap.size + 2; omega)).trans fz; clear ho' hg')
   all_goals
    have HM2 : Hid (EndMid w (k + 1) sent got (V va' (k + 1) vc') (((outL acked sent room).take (k + 1)).flatMap prcCells) (w'.setCell ⟨w.heap.size + 1, 0, none⟩ (V va' (k + 1) vc'))) := hide (by
     have ho := HO'.out
     refine HM.out.next HB'.out ?_
     rw [HTK.out, List.flatMap_append]
     simpa [prcCells] using ho)
    have HR2 : Hid (ResMid w.heap.size (w'.setCell ⟨w.heap.size + 1, 0, none⟩ (V va' (k + 1) vc'))) := hide (HRes.out.keep ((Below.heap_setCell _ _ _ _ (by show w.heap.size ≠ w.heap.size + 1; omega)).trans (HB'.out.block _ (by omega))) (by rw [size_setCell]; exact HB'.out.size))
    clear g0 gz HB' HO'
    go_wp2
    exact ⟨⟨k + 1, _, by omega, by simp; omega, HM2, HR2⟩, by simp [intOf]; omega⟩
  ·have hle : ¬ acked + 1 + (k : Int) ≤ sent := by omega
   obtain ⟨⟨t0, r0⟩, ⟨t1, r1⟩, ⟨t2, r2⟩⟩ := And.intro (HRes.out.c 0 (by omega)) (And.intro (HRes.out.c 1 (by omega)) (HRes.out.c 2 (by omega)))
   have f0 := HRes.out.f 0
   have f1 := HRes.out.f 1
   have f2 := HRes.out.f 2
   have ek : k = (sent - acked).toNat := by omega
   have HE : Hid (EndEnd (outL acked sent room) sent got w (.returned (.agg #[v, J Z sent, J Z got])) (((wr.setCell ⟨w.heap.size, 0, none⟩ v).setCell ⟨w.heap.size, 1, none⟩ (J Z sent)).setCell ⟨w.heap.size, 2, none⟩ (J Z got))) := hide (by
    have ho := HM.out.own
    have e1 : (outL acked sent room).take k = outL acked sent room := List.take_of_length_le (by rw [HL.out]; omega)
    rw [e1, show k = (outL acked sent room).length by rw [HL.out]; exact ek] at ho
    obtain ⟨g, ga, gc, hg, rfl, hown⟩ := own_of_row prcLen ho
    exact ⟨((HM.out.old.setCell (Nat.le_refl _) _).setCell (Nat.le_refl _) _).setCell (Nat.le_refl _) _, _, rfl, g, ga, gc, by omega, rfl, hown.turned ((((Turned.refl w.heap.size wr).setCell _).setCell _).setCell _) (fun _ => by omega)⟩)
   obtain ⟨va, vc, rfl⟩ := row_shape HM.out.own
   clear ek
   go_wp2
   exact bodyPost_ret (v := .agg #[V va k vc, J Z sent, J Z got]) (by simp [results, Try.results77, go_sem, r0, r1, r2]) rfl HE.out
end Go.Proofs.Ytkcpoibhlnjldaa
