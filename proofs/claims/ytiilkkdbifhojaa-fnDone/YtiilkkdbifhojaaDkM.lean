/- The program's shelf: a map from names to bodies, each with a row of pieces of its own. -/
import Derived.Test.YtiilkkdbifhojaaDkS5
import Derived.Maps.OwnOps
import Derived.Maps.OwnSet
import Derived.Maps.RangeWalk
import Derived.Maps.Views
namespace Go.Proofs.Ytiilkkdbifhojaa
open Go.ChangeShapes Go.WideShapes Go.ChangeAt Go.RowKit Go.Maps
set_option linter.unusedVariables false
theorem u9 : Try.prog.underlying 9 = some .string := by kernel_rfl
theorem uM : Try.prog.underlying 48 = some (.map 9 77) := by kernel_rfl
theorem zeroB (w : World) : (zeroValue 77).run Try.prog w = .ok (.agg #[.slice none 0 0, .int .i64 0]) w := by kernel_rfl
theorem law9 : Keyed Try.prog 9 := string_keyed u9
def kn (s : ByteArray) : Lit := .string s.data.toList
theorem kn_of {s : ByteArray} (h : s.size ≤ maxLen) : keyOf Try.prog 9 (.string s) = some (kn s) := _root_.Go.WideMaps.keyOf_string_mk u9 h
theorem kn_inj {a b : ByteArray} (h : kn a = kn b) : a = b := by
  simp only [kn, Lit.string.injEq] at h
  exact ByteArray.ext (Array.toList_inj.1 h)
theorem kn_key (s : ByteArray) : WideAt.IsKeyLit (kn s) := trivial
def catL : List ByteArray → ByteArray
  | [] => ByteArray.empty
  | x :: xs => x ++ catL xs
theorem catL_append (a b : List ByteArray) : catL (a ++ b) = catL a ++ catL b := by
  induction a with
  | nil => simp [catL]
  | cons x xs ih => simp only [List.cons_append, catL, ih, ByteArray.append_assoc]
/-- a body: its row of pieces, and where it lies -/
structure Bd where
  a : Option Nat
  c : Nat
  ps : List ByteArray
def adr (a : Option Nat) : Option Addr := a.map fun g => ⟨g, 0, none⟩
def Bd.v (b : Bd) : Value := .slice (adr b.a) b.ps.length b.c
def Bd.V (b : Bd) : Value := .agg #[.slice (adr b.a) b.ps.length b.c, .int .i64 ((catL b.ps).size : Int)]
def oN : Option Nat → Int
  | none => -1
  | some g => g
def bdD (a : Option Nat) (n c : Nat) (k : Int) : DataW Unit := .agg [.lit (.int .i64 (oN a)), .lit (.int .i64 (n : Int)), .lit (.int .i64 (c : Int)), .lit (.int .i64 k)]
def Bd.D (b : Bd) : DataW Unit := bdD b.a b.ps.length b.c ((catL b.ps).size : Int)
theorem bdD_inj {a a' : Option Nat} {n n' c c' : Nat} {k k' : Int} (h : bdD a n c k = bdD a' n' c' k') : a = a' ∧ n = n' ∧ c = c' ∧ k = k' := by
  simp only [bdD, DataW.agg.injEq, List.cons.injEq, DataW.lit.injEq, Lit.int.injEq, and_true, true_and] at h
  obtain ⟨h1, h2, h3, h4⟩ := h
  refine ⟨?_, by omega, by omega, h4⟩
  cases a <;> cases a' <;> simp only [oN] at h1
  · rfl
  · omega
  · omega
  · rw [show _ = _ from Int.ofNat.inj h1]
/-- how a body reads in the map -/
def bdElem (v : Value) : Option (DataW Unit × List MemPlace) := match v with
  | .agg xs => match xs.toList with
    | [.slice none n c, .int .i64 k] => some (bdD none n c k, [])
    | [.slice (some ⟨g, 0, none⟩) n c, .int .i64 k] => some (bdD (some g) n c k, [])
    | _ => none
  | _ => none
theorem bd_mk (a : Option Nat) (n c : Nat) (k : Int) : bdElem (.agg #[.slice (adr a) n c, .int .i64 k]) = some (bdD a n c k, []) := by cases a <;> rfl
theorem bd_inv {v : Value} {y : DataW Unit × List MemPlace} (h : bdElem v = some y) : ∃ a n c k, v = .agg #[.slice (adr a) n c, .int .i64 k] ∧ y = (bdD a n c k, []) := by
  unfold bdElem at h
  split at h
  · rename_i xs
    split at h
    · rename_i n c k e
      refine ⟨none, n, c, k, ?_, (Option.some.inj h).symm⟩
      rw [show xs = #[.slice none n c, .int .i64 k] from Array.toList_inj.1 e]; rfl
    · rename_i g n c k e
      refine ⟨some g, n, c, k, ?_, (Option.some.inj h).symm⟩
      rw [show xs = #[.slice (some ⟨g, 0, none⟩) n c, .int .i64 k] from Array.toList_inj.1 e]; rfl
    · cases h
  · cases h
theorem Bd.elem (b : Bd) : bdElem b.V = some (b.D, []) := bd_mk _ _ _ _
theorem bd_of {b : Bd} {v : Value} {ps : List MemPlace} (h : bdElem v = some (b.D, ps)) : v = b.V := by
  obtain ⟨a, n, c, k, rfl, e⟩ := bd_inv h
  simp only [Prod.mk.injEq] at e
  obtain ⟨e1, e2, e3, e4⟩ := bdD_inj e.1
  simp only [Bd.V, e1, e2, e3, e4]
/-- two rows that lie apart -/
def Apt (u v : Value) : Prop := u.ownBlock = none ∨ u.ownBlock ≠ v.ownBlock
def strs (ps : List ByteArray) : List Value := ps.map Value.string
def Srt (l : List Fl) : Prop := l.Pairwise (fun x y => x.nm.toList < y.nm.toList)
structure Shelf (base m : Nat) (l : List Fl) (β : ByteArray → Bd) (N : Nat) (w : World) : Prop where
  map : ∃ D n, n ≤ N ∧ w.ownsMap Try.prog 9 bdElem m n D ∧ (∀ f ∈ l, ∀ z, D.atKey (kn f.nm) z = (β f.nm).D) ∧ (∀ kl, Maps.has D kl = true → ∃ f ∈ l, kl = kn f.nm) ∧ Maps.size D = l.length
  lo : base ≤ m
  rows : ∀ f ∈ l, w.ownsRow base 9 1 (β f.nm).v (β f.nm).ps.length (strs (β f.nm).ps)
  cat : ∀ f ∈ l, catL (β f.nm).ps = f.da
  apt : ∀ f ∈ l, ∀ f' ∈ l, f.nm ≠ f'.nm → Apt (β f.nm).v (β f'.nm).v
  srt : Srt l
  pcs : ∀ f ∈ l, (β f.nm).ps.length ≤ N
  nms : ∀ f ∈ l, f.nm.size ≤ 4194304
theorem Shelf.lt {base m N : Nat} {l : List Fl} {β : ByteArray → Bd} {w : World} (h : Shelf base m l β N w) : m < w.heap.size := by
  obtain ⟨D, n, _, ho, _⟩ := h.map
  exact ho.lt
theorem below_grownBy {w w' : World} (b : Below w.heap.size w w') : w.grownBy w' none := ⟨b.os, b.tape, b.output, b.size, fun i hi _ => b.block i hi⟩
theorem Shelf.below {base m N : Nat} {l : List Fl} {β : ByteArray → Bd} {w w' : World} (h : Shelf base m l β N w) (b : Below w.heap.size w w') : Shelf base m l β N w' := by
  obtain ⟨D, n, hn, ho, r⟩ := h.map
  exact { h with
    map := ⟨D, n, hn, ho.kept (below_grownBy b) (by simp), r⟩
    rows := fun f hf => own_keep (h.rows f hf) b }
theorem Shelf.mono {base m N N' : Nat} {l : List Fl} {β : ByteArray → Bd} {w : World} (h : Shelf base m l β N w) (hN : N ≤ N') : Shelf base m l β N' w := by
  obtain ⟨D, n, hn, ho, r⟩ := h.map
  exact { h with
    map := ⟨D, n, Nat.le_trans hn hN, ho, r⟩
    pcs := fun f hf => Nat.le_trans (h.pcs f hf) hN }
theorem shelf_made {base : Nat} {w : World} (hb : base ≤ w.heap.size) (β : ByteArray → Bd) : Shelf base w.heap.size [] β 0 (w.alloc (.map #[] 0)) :=
  ⟨⟨.map [], 0, Nat.le_refl _, World.ownsMap_made _ _ _ _, fun f hf => by simp at hf, fun kl h => by simp [Maps.has] at h, by simp [Maps.size]⟩, hb, fun f hf => by simp at hf, fun f hf => by simp at hf, fun f hf => by simp at hf, List.Pairwise.nil, fun f hf => by simp at hf, fun f hf => by simp at hf⟩
/-- a row's block is not the map's -/
theorem own_not_map {w : World} {base m n k sz : Nat} {e : TypeId} {v : Value} {xs : List Value} {D : DataW Unit} (h : w.ownsRow base e sz v k xs) (ho : w.ownsMap Try.prog 9 bdElem m n D) : v.ownBlock ≠ some m := by
  intro hv
  obtain ⟨es, clock, hm, _⟩ := ho
  obtain ⟨_, ⟨h0, _⟩ | ⟨g, cap, cur, h1, _, hg, _⟩⟩ := h
  · rw [h0] at hv; cases hv
  · rw [h1] at hv
    simp only [Value.ownBlock, Option.some.injEq] at hv
    subst hv
    rw [hm] at hg
    cases hg
end Go.Proofs.Ytiilkkdbifhojaa
