/- The program's shelf: a map from names to bodies, each with a row of pieces of its own. -/
import Derived.Test.YtiilkkdbifhojaaGreatBa
import Derived.Maps.OwnOps
import Derived.Maps.OwnSet
import Derived.Maps.RangeWalk
import Derived.Maps.Views
import Derived.Deep.RegionHeld3
import Derived.Deep.CutRange
namespace Go.Proofs.YtiilkkdbifhojaaGreat
open Go.ChangeShapes Go.WideShapes Go.ChangeAt Go.RowKit Go.Maps
set_option linter.unusedVariables false
theorem u9 : Tryz.prog.underlying 9 = some .string := by kernel_rfl
theorem uM : Tryz.prog.underlying 56 = some (.map 9 83) := by kernel_rfl
theorem zeroB (w : World) : (zeroValue 83).run Tryz.prog w = .ok (.agg #[.slice none 0 0, .int .i64 0]) w := by kernel_rfl
theorem law9 : Keyed Tryz.prog 9 := string_keyed u9
def kn (s : ByteArray) : Lit := .string s.data.toList
theorem kn_of {s : ByteArray} (h : s.size ≤ maxLen) : keyOf Tryz.prog 9 (.string s) = some (kn s) := _root_.Go.WideMaps.keyOf_string_mk u9 h
theorem kn_inj {a b : ByteArray} (h : kn a = kn b) : a = b := by
  simp only [kn, Lit.string.injEq] at h
  exact ByteArray.ext (Array.toList_inj.1 h)
theorem kn_key (s : ByteArray) : WideAt.IsKeyLit (kn s) := trivial
def catL : List ByteArray → ByteArray
  | [] => ByteArray.empty
  | x :: xs => x ++ catL xs
theorem catL_append (a b : List ByteArray) : catL (a ++ b) = catL a ++ catL b := by
  induction a with
  | nil => simp [catL]
  | cons x xs ih => simp only [List.cons_append, catL, ih, ByteArray.append_assoc]
/-- a body: its row of pieces, and where it lies -/
structure Bd where
  a : Option Nat
  c : Nat
  ps : List ByteArray
def adr (a : Option Nat) : Option Addr := a.map fun g => ⟨g, 0, none⟩
def Bd.v (b : Bd) : Value := .slice (adr b.a) b.ps.length b.c
def Bd.V (b : Bd) : Value := .agg #[.slice (adr b.a) b.ps.length b.c, .int .i64 ((catL b.ps).size : Int)]
def oN : Option Nat → Int
  | none => -1
  | some g => g
def bdD (a : Option Nat) (n c : Nat) (k : Int) : DataW Unit := .agg [.lit (.int .i64 (oN a)), .lit (.int .i64 (n : Int)), .lit (.int .i64 (c : Int)), .lit (.int .i64 k)]
def Bd.D (b : Bd) : DataW Unit := bdD b.a b.ps.length b.c ((catL b.ps).size : Int)
theorem bdD_inj {a a' : Option Nat} {n n' c c' : Nat} {k k' : Int} (h : bdD a n c k = bdD a' n' c' k') : a = a' ∧ n = n' ∧ c = c' ∧ k = k' := by
  simp only [bdD, DataW.agg.injEq, List.cons.injEq, DataW.lit.injEq, Lit.int.injEq, and_true, true_and] at h
  obtain ⟨h1, h2, h3, h4⟩ := h
  refine ⟨?_, by omega, by omega, h4⟩
  cases a <;> cases a' <;> simp only [oN] at h1
  · rfl
  · omega
  · omega
  · rw [show _ = _ from Int.ofNat.inj h1]
/-- how a body reads in the map -/
def bdElem (v : Value) : Option (DataW Unit × List MemPlace) := match v with
  | .agg xs => match xs.toList with
    | [.slice none n c, .int .i64 k] => some (bdD none n c k, [])
    | [.slice (some ⟨g, 0, none⟩) n c, .int .i64 k] => some (bdD (some g) n c k, [])
    | _ => none
  | _ => none
theorem bd_mk (a : Option Nat) (n c : Nat) (k : Int) : bdElem (.agg #[.slice (adr a) n c, .int .i64 k]) = some (bdD a n c k, []) := by cases a <;> rfl
theorem bd_inv {v : Value} {y : DataW Unit × List MemPlace} (h : bdElem v = some y) : ∃ a n c k, v = .agg #[.slice (adr a) n c, .int .i64 k] ∧ y = (bdD a n c k, []) := by
  unfold bdElem at h
  split at h
  · rename_i xs
    split at h
    · rename_i n c k e
      refine ⟨none, n, c, k, ?_, (Option.some.inj h).symm⟩
      rw [show xs = #[.slice none n c, .int .i64 k] from Array.toList_inj.1 e]; rfl
    · rename_i g n c k e
      refine ⟨some g, n, c, k, ?_, (Option.some.inj h).symm⟩
      rw [show xs = #[.slice (some ⟨g, 0, none⟩) n c, .int .i64 k] from Array.toList_inj.1 e]; rfl
    · cases h
  · cases h
theorem Bd.elem (b : Bd) : bdElem b.V = some (b.D, []) := bd_mk _ _ _ _
theorem bd_of {b : Bd} {v : Value} {ps : List MemPlace} (h : bdElem v = some (b.D, ps)) : v = b.V := by
  obtain ⟨a, n, c, k, rfl, e⟩ := bd_inv h
  simp only [Prod.mk.injEq] at e
  obtain ⟨e1, e2, e3, e4⟩ := bdD_inj e.1
  simp only [Bd.V, e1, e2, e3, e4]
/-- two rows that lie apart -/
def Apt (u v : Value) : Prop := u.ownBlock = none ∨ u.ownBlock ≠ v.ownBlock
def strs (ps : List ByteArray) : List Value := ps.map Value.string
def Srt (l : List Fl) : Prop := l.Pairwise (fun x y => x.nm.toList < y.nm.toList)
structure Shelf (base m : Nat) (l : List Fl) (β : ByteArray → Bd) (N : Nat) (w : World) : Prop where
  map : ∃ D n, n ≤ N ∧ w.ownsMap Tryz.prog 9 bdElem m n D ∧ (∀ f ∈ l, ∀ z, D.atKey (kn f.nm) z = (β f.nm).D) ∧ (∀ kl, Maps.has D kl = true → ∃ f ∈ l, kl = kn f.nm) ∧ Maps.size D = l.length
  lo : base ≤ m
  rows : ∀ f ∈ l, w.ownsRow base 9 1 (β f.nm).v (β f.nm).ps.length (strs (β f.nm).ps)
  cat : ∀ f ∈ l, catL (β f.nm).ps = f.da
  apt : ∀ f ∈ l, ∀ f' ∈ l, f.nm ≠ f'.nm → Apt (β f.nm).v (β f'.nm).v
  srt : Srt l
  pcs : ∀ f ∈ l, (β f.nm).ps.length ≤ N
  nms : ∀ f ∈ l, f.nm.size ≤ 4194304
theorem Shelf.lt {base m N : Nat} {l : List Fl} {β : ByteArray → Bd} {w : World} (h : Shelf base m l β N w) : m < w.heap.size := by
  obtain ⟨D, n, _, ho, _⟩ := h.map
  exact ho.lt
theorem below_grownBy {w w' : World} (b : Below w.heap.size w w') : w.grownBy w' none := ⟨b.os, b.tape, b.output, b.size, fun i hi _ => b.block i hi⟩
theorem Shelf.below {base m N : Nat} {l : List Fl} {β : ByteArray → Bd} {w w' : World} (h : Shelf base m l β N w) (b : Below w.heap.size w w') : Shelf base m l β N w' := by
  obtain ⟨D, n, hn, ho, r⟩ := h.map
  exact { h with
    map := ⟨D, n, hn, ho.kept (below_grownBy b) (by simp), r⟩
    rows := fun f hf => own_keep (h.rows f hf) b }
theorem Shelf.mono {base m N N' : Nat} {l : List Fl} {β : ByteArray → Bd} {w : World} (h : Shelf base m l β N w) (hN : N ≤ N') : Shelf base m l β N' w := by
  obtain ⟨D, n, hn, ho, r⟩ := h.map
  exact { h with
    map := ⟨D, n, Nat.le_trans hn hN, ho, r⟩
    pcs := fun f hf => Nat.le_trans (h.pcs f hf) hN }
theorem shelf_made {base : Nat} {w : World} (hb : base ≤ w.heap.size) (β : ByteArray → Bd) : Shelf base w.heap.size [] β 0 (w.alloc (.map #[] 0)) :=
  ⟨⟨.map [], 0, Nat.le_refl _, World.ownsMap_made _ _ _ _, fun f hf => by simp at hf, fun kl h => by simp [Maps.has] at h, by simp [Maps.size]⟩, hb, fun f hf => by simp at hf, fun f hf => by simp at hf, fun f hf => by simp at hf, List.Pairwise.nil, fun f hf => by simp at hf, fun f hf => by simp at hf⟩
/-- a row's block is not the map's -/
theorem own_not_map {w : World} {base m n k sz : Nat} {e : TypeId} {v : Value} {xs : List Value} {D : DataW Unit} (h : w.ownsRow base e sz v k xs) (ho : w.ownsMap Tryz.prog 9 bdElem m n D) : v.ownBlock ≠ some m := by
  intro hv
  obtain ⟨es, clock, hm, _⟩ := ho
  obtain ⟨_, ⟨h0, _⟩ | ⟨g, cap, cur, h1, _, hg, _⟩⟩ := h
  · rw [h0] at hv; cases hv
  · rw [h1] at hv
    simp only [Value.ownBlock, Option.some.injEq] at hv
    subst hv
    rw [hm] at hg
    cases hg
end Go.Proofs.YtiilkkdbifhojaaGreat
/- Sorted files: what is put among them and what is cut out. -/
namespace Go.Proofs.YtiilkkdbifhojaaGreat
open Go.ChangeShapes Go.WideShapes Go.ChangeAt Go.RowKit Go.Maps
set_option linter.unusedVariables false
theorem less_iff {a b : ByteArray} : Op.bytesLess a.toList b.toList = true ↔ a.toList < b.toList := by rw [less_eq]; simp
theorem toList_inj {a b : ByteArray} (h : a.toList = b.toList) : a = b := beq_bytes.1 (beq_iff_eq.2 h)
theorem tri (a b : ByteArray) : a.toList < b.toList ∨ a = b ∨ b.toList < a.toList := by
  by_cases h1 : a.toList < b.toList
  · exact .inl h1
  · by_cases h2 : b.toList < a.toList
    · exact .inr (.inr h2)
    · exact .inr (.inl (toList_inj (List.le_antisymm (List.not_lt.1 h2) (List.not_lt.1 h1))))
def putF (l : List Fl) (nm da : ByteArray) : List Fl := l.filter (fun f => Op.bytesLess f.nm.toList nm.toList) ++ ⟨nm, da⟩ :: l.filter (fun f => Op.bytesLess nm.toList f.nm.toList)
theorem less_no {a b : ByteArray} (h : b.toList < a.toList ∨ a = b) : Op.bytesLess a.toList b.toList = false := by
  rw [less_eq]
  simp only [decide_eq_false_iff_not]
  rcases h with h | rfl
  · exact List.not_lt.2 (List.le_of_lt h)
  · exact List.lt_irrefl _
def PutI (l : List Fl) (nm da : ByteArray) (k : Nat) : Prop :=
  (putK l nm da k = (l.take k, false) ∧ ∀ f ∈ l.take k, f.nm.toList < nm.toList) ∨
  (putK l nm da k = (putF (l.take k) nm da, true) ∧ ∃ f ∈ l.take k, ¬ f.nm.toList < nm.toList)
theorem filter_all {l : List Fl} {nm : ByteArray} (h : ∀ f ∈ l, f.nm.toList < nm.toList) : l.filter (fun f => Op.bytesLess f.nm.toList nm.toList) = l ∧ l.filter (fun f => Op.bytesLess nm.toList f.nm.toList) = [] :=
  ⟨List.filter_eq_self.2 fun f hf => less_iff.2 (h f hf), List.filter_eq_nil_iff.2 fun f hf => by rw [less_no (.inl (h f hf))]; simp⟩
theorem putI {l : List Fl} (hs : Srt l) (nm da : ByteArray) : ∀ k, k ≤ l.length → PutI l nm da k
  | 0, _ => .inl ⟨by simp [putK], fun f hf => by simp at hf⟩
  | k + 1, hk => by
    have hlt : k < l.length := by omega
    have ih := putI hs nm da k (by omega)
    have hx : ∀ f ∈ l.take k, f.nm.toList < (l[k]).nm.toList := fun f hf => by
      obtain ⟨i, hi, rfl⟩ := List.getElem_of_mem hf
      have hi2 : i < k := by simp at hi; omega
      have e : (l.take k)[i] = l[i]'(by omega) := by simp
      rw [e]
      exact List.pairwise_iff_getElem.1 hs i k (by omega) hlt hi2
    unfold PutI at ih ⊢
    rw [putK_next l nm da k hlt, take_next l k hlt]
    generalize l.take k = P at *
    generalize l[k] = x at *
    rcases ih with ⟨e, hall⟩ | ⟨e, f0, hf0, hn0⟩
    · rw [e]
      obtain ⟨fa, fb⟩ := filter_all hall
      rcases tri x.nm nm with h | h | h
      · refine .inl ⟨?_, ?_⟩
        · have h1 := less_iff.2 h
          have h2 : (x.nm.toList == nm.toList) = false := beq_no (fun q => by rw [q] at h; exact List.lt_irrefl _ h)
          simp [putS, h1, h2]
        · intro f hf
          simp only [List.mem_append, List.mem_singleton] at hf
          rcases hf with hf | rfl
          · exact hall f hf
          · exact h
      · refine .inr ⟨?_, x, by simp, by rw [h]; exact List.lt_irrefl _⟩
        have h1 := less_no (.inr h)
        have h1' := less_no (.inr h.symm)
        have h2 : (x.nm.toList == nm.toList) = true := beq_bytes.2 h
        simp [putS, putF, h1, h1', h2, List.filter_append, fa, fb]
      · refine .inr ⟨?_, x, by simp, List.not_lt.2 (List.le_of_lt h)⟩
        have h1 := less_no (.inl h)
        have h1' := less_iff.2 h
        have h2 : (x.nm.toList == nm.toList) = false := beq_no (fun q => by rw [q] at h; exact List.lt_irrefl _ h)
        simp [putS, putF, h1, h1', h2, List.filter_append, fa, fb]
    · rw [e]
      have hgt : nm.toList < x.nm.toList := by
        have h1 := hx f0 hf0
        rcases tri f0.nm nm with q | q | q
        · exact absurd q hn0
        · rw [← q]; exact h1
        · exact List.lt_trans q h1
      refine .inr ⟨?_, f0, by simp [hf0], hn0⟩
      have h1 := less_no (.inl hgt)
      have h1' := less_iff.2 hgt
      have h2 : (x.nm.toList == nm.toList) = false := beq_no (fun q => by rw [q] at hgt; exact List.lt_irrefl _ hgt)
      simp [putS, putF, h1, h1', h2, List.filter_append]
theorem putL_eq {l : List Fl} (hs : Srt l) (nm da : ByteArray) : putL l nm da = putF l nm da := by
  have h := putI hs nm da l.length (Nat.le_refl _)
  unfold PutI at h
  rw [List.take_length] at h
  rcases h with ⟨e, hall⟩ | ⟨e, _⟩
  · obtain ⟨fa, fb⟩ := filter_all hall
    simp [putL, e, putF, fa, fb]
  · simp [putL, e]
theorem mem_putF {l : List Fl} {nm da : ByteArray} {f : Fl} : f ∈ putF l nm da ↔ f = ⟨nm, da⟩ ∨ (f ∈ l ∧ f.nm ≠ nm) := by
  unfold putF
  simp only [List.mem_append, List.mem_filter, List.mem_cons, less_iff]
  constructor
  · rintro (⟨h, q⟩ | h | ⟨h, q⟩)
    · exact .inr ⟨h, fun e => by rw [e] at q; exact List.lt_irrefl _ q⟩
    · exact .inl h
    · exact .inr ⟨h, fun e => by rw [e] at q; exact List.lt_irrefl _ q⟩
  · rintro (h | ⟨h, q⟩)
    · exact .inr (.inl h)
    · rcases tri f.nm nm with t | t | t
      · exact .inl ⟨h, t⟩
      · exact absurd t q
      · exact .inr (.inr ⟨h, t⟩)
theorem srt_putF {l : List Fl} (hs : Srt l) (nm da : ByteArray) : Srt (putF l nm da) := by
  unfold putF Srt
  rw [List.pairwise_append]
  refine ⟨hs.sublist List.filter_sublist, ?_, ?_⟩
  · rw [List.pairwise_cons]
    refine ⟨fun f hf => less_iff.1 (List.mem_filter.1 hf).2, hs.sublist List.filter_sublist⟩
  · intro x hx y hy
    have h1 := less_iff.1 (List.mem_filter.1 hx).2
    simp only [List.mem_cons] at hy
    rcases hy with rfl | hy
    · exact h1
    · exact List.lt_trans h1 (less_iff.1 (List.mem_filter.1 hy).2)
theorem srt_inj {l : List Fl} (hs : Srt l) {f g : Fl} (hf : f ∈ l) (hg : g ∈ l) (e : f.nm = g.nm) : f = g := by
  obtain ⟨i, hi, rfl⟩ := List.getElem_of_mem hf
  obtain ⟨j, hj, rfl⟩ := List.getElem_of_mem hg
  rcases Nat.lt_trichotomy i j with q | q | q
  · have := List.pairwise_iff_getElem.1 hs i j hi hj q
    rw [e] at this
    exact absurd this (List.lt_irrefl _)
  · subst q; rfl
  · have := List.pairwise_iff_getElem.1 hs j i hj hi q
    rw [e] at this
    exact absurd this (List.lt_irrefl _)
def hasN (l : List Fl) (nm : ByteArray) : Bool := l.any (fun f => f.nm.toList == nm.toList)
theorem hasN_iff {l : List Fl} {nm : ByteArray} : hasN l nm = true ↔ ∃ f ∈ l, f.nm = nm := by
  unfold hasN
  rw [List.any_eq_true]
  exact ⟨fun ⟨f, hf, e⟩ => ⟨f, hf, beq_bytes.1 e⟩, fun ⟨f, hf, e⟩ => ⟨f, hf, beq_bytes.2 e⟩⟩
theorem len_parts {l : List Fl} (hs : Srt l) (nm : ByteArray) : (l.filter (fun f => Op.bytesLess f.nm.toList nm.toList)).length + (l.filter (fun f => Op.bytesLess nm.toList f.nm.toList)).length + (if hasN l nm then 1 else 0) = l.length ∧ (cutL l nm).length + (if hasN l nm then 1 else 0) = l.length := by
  induction l with
  | nil => simp [hasN, cutL]
  | cons x t ih =>
    have hs' := List.pairwise_cons.1 hs
    obtain ⟨i1, i2⟩ := ih hs'.2
    have hno : x.nm = nm → hasN t nm = false := fun e => by
      rw [Bool.eq_false_iff]
      intro q
      obtain ⟨f, hf, e2⟩ := hasN_iff.1 q
      have := hs'.1 f hf
      rw [e, e2] at this
      exact List.lt_irrefl _ this
    unfold cutL at i2 ⊢
    rcases tri x.nm nm with h | h | h
    · have h1 := less_iff.2 h
      have h1' := less_no (.inl h)
      have h2 : (x.nm.toList == nm.toList) = false := beq_no (fun q => by rw [q] at h; exact List.lt_irrefl _ h)
      have h3 : hasN (x :: t) nm = hasN t nm := by simp [hasN, h2]
      simp only [List.filter_cons, h1, h1', h2, h3, Bool.not_false, if_true, List.length_cons, Bool.false_eq_true, if_false]
      omega
    · have h1 := less_no (.inr h)
      have h1' := less_no (.inr h.symm)
      have h2 : (x.nm.toList == nm.toList) = true := beq_bytes.2 h
      have h3 : hasN (x :: t) nm = true := by simp [hasN, h2]
      rw [hno h] at i1 i2
      simp only [List.filter_cons, h1, h1', h2, h3, Bool.not_true, if_true, List.length_cons, Bool.false_eq_true, if_false] at i1 i2 ⊢
      omega
    · have h1 := less_no (.inl h)
      have h1' := less_iff.2 h
      have h2 : (x.nm.toList == nm.toList) = false := beq_no (fun q => by rw [q] at h; exact List.lt_irrefl _ h)
      have h3 : hasN (x :: t) nm = hasN t nm := by simp [hasN, h2]
      simp only [List.filter_cons, h1, h1', h2, h3, Bool.not_false, if_true, List.length_cons, Bool.false_eq_true, if_false]
      omega
theorem len_putL {l : List Fl} (hs : Srt l) (nm da : ByteArray) : (putL l nm da).length = if hasN l nm then l.length else l.length + 1 := by
  have := (len_parts hs nm).1
  rw [putL_eq hs]
  unfold putF
  simp only [List.length_append, List.length_cons]
  split <;> simp_all <;> omega
theorem len_cutL {l : List Fl} (hs : Srt l) (nm : ByteArray) : (cutL l nm).length + (if hasN l nm then 1 else 0) = l.length := (len_parts hs nm).2
theorem mem_cutL {l : List Fl} {nm : ByteArray} {f : Fl} : f ∈ cutL l nm ↔ f ∈ l ∧ f.nm ≠ nm := by
  unfold cutL
  rw [List.mem_filter]
  constructor
  · rintro ⟨h, q⟩
    refine ⟨h, fun e => ?_⟩
    rw [beq_bytes.2 e] at q
    cases q
  · rintro ⟨h, q⟩
    exact ⟨h, by rw [beq_no q]; rfl⟩
theorem srt_cutL {l : List Fl} (hs : Srt l) (nm : ByteArray) : Srt (cutL l nm) := hs.sublist List.filter_sublist
theorem mem_putL {l : List Fl} (hs : Srt l) {nm da : ByteArray} {f : Fl} : f ∈ putL l nm da ↔ f = ⟨nm, da⟩ ∨ (f ∈ l ∧ f.nm ≠ nm) := by rw [putL_eq hs]; exact mem_putF
theorem srt_putL {l : List Fl} (hs : Srt l) (nm da : ByteArray) : Srt (putL l nm da) := by rw [putL_eq hs]; exact srt_putF hs nm da
end Go.Proofs.YtiilkkdbifhojaaGreat
/- What is read of a shelf, put on it, and taken away. -/
namespace Go.Proofs.YtiilkkdbifhojaaGreat
open Go.ChangeShapes Go.WideShapes Go.ChangeAt Go.RowKit Go.Maps
set_option linter.unusedVariables false
theorem drewN_below (w : World) : ∀ k, Below w.heap.size w (w.drewN k)
  | 0 => Below.refl _ _
  | k + 1 => (drewN_below w k).drew
def b0 : Bd := ⟨none, 0, []⟩
theorem small_max {s : ByteArray} (h : s.size ≤ 4194304) : s.size ≤ maxLen := by unfold maxLen; omega
theorem has_of {l : List Fl} {β : ByteArray → Bd} {D : DataW Unit} (hat : ∀ f ∈ l, ∀ z, D.atKey (kn f.nm) z = (β f.nm).D) (honly : ∀ kl, Maps.has D kl = true → ∃ f ∈ l, kl = kn f.nm) (nm : ByteArray) : Maps.has D (kn nm) = hasN l nm := by
  cases e : hasN l nm with
  | true =>
    obtain ⟨f, hf, rfl⟩ := hasN_iff.1 e
    exact has_true_of_atKey (hat f hf)
  | false =>
    rw [Bool.eq_false_iff]
    intro q
    obtain ⟨f, hf, e2⟩ := honly _ q
    have := hasN_iff.2 ⟨f, hf, (kn_inj e2).symm⟩
    rw [e] at this
    cases this
theorem Shelf.look {base m N : Nat} {l : List Fl} {β : ByteArray → Bd} {w : World} (h : Shelf base m l β N w) {nm : ByteArray} (hn : nm.size ≤ 4194304) (ok : Bool) :
    ∀ k, (Instr.lookup 56 (.map (some m)) (.string nm) ok).run Tryz.prog (w.drewN k) = .ok (if ok then .tuple #[if hasN l nm then (β nm).V else b0.V, .bool (hasN l nm)] else if hasN l nm then (β nm).V else b0.V) (w.drewN k) := by
  intro k
  obtain ⟨D, n, hn', ho, hat, honly, hsz⟩ := h.map
  have hoN : (w.drewN k).ownsMap Tryz.prog 9 bdElem m n D := ho.kept (below_grownBy (drewN_below w k)) (by simp)
  have hh := has_of hat honly nm
  have key : ∀ v ps, bdElem v = some (D.atKey (kn nm) b0.D, ps) → v = if hasN l nm then (β nm).V else b0.V := fun v ps hv => by
    cases e : hasN l nm with
    | true =>
      obtain ⟨f, hf, rfl⟩ := hasN_iff.1 e
      rw [hat f hf] at hv
      exact bd_of hv
    | false =>
      rw [e] at hh
      rw [atKey_of_not_has hh] at hv
      exact bd_of hv
  cases ok with
  | true =>
    obtain ⟨v, ps, hrun, hv⟩ := hoN.look_ok law9 uM (zeroB _) b0.elem (kn_of (small_max hn))
    rw [hrun, key v ps hv, hh]
    rfl
  | false =>
    obtain ⟨v, ps, hrun, hv⟩ := hoN.lookup law9 uM (zeroB _) b0.elem (kn_of (small_max hn))
    rw [hrun, key v ps hv]
    rfl
def upd (β : ByteArray → Bd) (nm : ByteArray) (b : Bd) : ByteArray → Bd := fun s => if s = nm then b else β s
theorem upd_same (β : ByteArray → Bd) (nm : ByteArray) (b : Bd) : upd β nm b nm = b := by simp [upd]
theorem upd_other {β : ByteArray → Bd} {nm : ByteArray} {b : Bd} {s : ByteArray} (h : s ≠ nm) : upd β nm b s = β s := by simp [upd, h]
theorem Shelf.store {base m N : Nat} {l : List Fl} {β : ByteArray → Bd} {x : World} (h : Shelf base m l β N x) {nm da : ByteArray} (b : Bd) (hn : nm.size ≤ 4194304) (hN : N ≤ 1000000) (hrow : x.ownsRow base 9 1 b.v b.ps.length (strs b.ps)) (hcat : catL b.ps = da)
    (hap : ∀ f ∈ l, f.nm ≠ nm → Apt b.v (β f.nm).v ∧ Apt (β f.nm).v b.v) (hpc : b.ps.length ≤ N + 1) :
    ∃ y, (Instr.mapUpdate 56 (.map (some m)) (.string nm) b.V).run Tryz.prog x = .ok () y ∧ Shelf base m (putL l nm da) (upd β nm b) (N + 1) y ∧ x.grownBy y (some m) := by
  obtain ⟨D, n, hn', ho, hat, honly, hsz⟩ := h.map
  obtain ⟨y, hrun, ho2, hg⟩ := ho.update law9 uM (by unfold maxLen; omega) (kn_of (small_max hn)) b.elem
  have hh := has_of hat honly nm
  have kept : ∀ {v : Value} {k : Nat} {xs : List Value}, x.ownsRow base 9 1 v k xs → y.ownsRow base 9 1 v k xs := fun hr => hr.kept hg (.inr (own_not_map hr ho))
  refine ⟨y, hrun, ⟨⟨D.put (kn nm) b.D, n + 1, by omega, ho2, fun f hf z => ?_, fun kl hkl => ?_, ?_⟩, h.lo, fun f hf => ?_, fun f hf => ?_, fun f hf f' hf' hne => ?_, srt_putL h.srt nm da, fun f hf => ?_, fun f hf => ?_⟩, hg⟩
  · rcases (mem_putL h.srt).1 hf with rfl | ⟨hf, hne⟩
    · rw [upd_same]; exact atKey_put_same ho.isMap (kn_key _) _ z
    · rw [upd_other hne, atKey_put_other (fun e => hne (kn_inj e))]; exact hat f hf z
  · by_cases e : kl = kn nm
    · exact ⟨⟨nm, da⟩, (mem_putL h.srt).2 (.inl rfl), e⟩
    · rw [has_put_other e] at hkl
      obtain ⟨f, hf, rfl⟩ := honly kl hkl
      exact ⟨f, (mem_putL h.srt).2 (.inr ⟨hf, fun q => e (by rw [q])⟩), rfl⟩
  · rw [size_put (ho.tidy law9), hh, len_putL h.srt, hsz]
  · rcases (mem_putL h.srt).1 hf with rfl | ⟨hf, hne⟩
    · rw [upd_same]; exact kept hrow
    · rw [upd_other hne]; exact kept (h.rows f hf)
  · rcases (mem_putL h.srt).1 hf with rfl | ⟨hf, hne⟩
    · rw [upd_same]; exact hcat
    · rw [upd_other hne]; exact h.cat f hf
  · rcases (mem_putL h.srt).1 hf with rfl | ⟨hf, h1⟩
    · rcases (mem_putL h.srt).1 hf' with rfl | ⟨hf', h2⟩
      · exact absurd rfl hne
      · rw [upd_same, upd_other h2]; exact (hap f' hf' h2).1
    · rcases (mem_putL h.srt).1 hf' with rfl | ⟨hf', h2⟩
      · rw [upd_same, upd_other h1]; exact (hap f hf h1).2
      · rw [upd_other h1, upd_other h2]; exact h.apt f hf f' hf' hne
  · rcases (mem_putL h.srt).1 hf with rfl | ⟨hf, hne⟩
    · rw [upd_same]; exact hpc
    · rw [upd_other hne]; have := h.pcs f hf; omega
  · rcases (mem_putL h.srt).1 hf with rfl | ⟨hf, hne⟩
    · exact hn
    · exact h.nms f hf
theorem Shelf.drop {base m N : Nat} {l : List Fl} {β : ByteArray → Bd} {x : World} (h : Shelf base m l β N x) {nm : ByteArray} (hn : nm.size ≤ 4194304) (ty : TypeId) :
    ∃ y, (Builtin.delete_ #[56, 9] ty #[.map (some m), .string nm]).run Tryz.prog x = .ok (.tuple #[]) y ∧ Shelf base m (cutL l nm) β N y ∧ x.grownBy y (some m) ∧ (∀ {v : Value} {k : Nat} {xs : List Value}, x.ownsRow base 9 1 v k xs → y.ownsRow base 9 1 v k xs) := by
  obtain ⟨D, n, hn', ho, hat, honly, hsz⟩ := h.map
  obtain ⟨y, hrun, ho2, ht⟩ := ho.drop law9 uM (kn_of (small_max hn)) ty
  have hg := ht.grown
  have hh := has_of hat honly nm
  have kept : ∀ {v : Value} {k : Nat} {xs : List Value}, x.ownsRow base 9 1 v k xs → y.ownsRow base 9 1 v k xs := fun hr => hr.kept hg (.inr (own_not_map hr ho))
  refine ⟨y, hrun, ⟨⟨D.del (kn nm), n, hn', ho2, fun f hf z => ?_, fun kl hkl => ?_, ?_⟩, h.lo, fun f hf => kept (h.rows f (mem_cutL.1 hf).1), fun f hf => h.cat f (mem_cutL.1 hf).1, fun f hf f' hf' hne => h.apt f (mem_cutL.1 hf).1 f' (mem_cutL.1 hf').1 hne, srt_cutL h.srt nm, fun f hf => h.pcs f (mem_cutL.1 hf).1, fun f hf => h.nms f (mem_cutL.1 hf).1⟩, hg, kept⟩
  · obtain ⟨hf, hne⟩ := mem_cutL.1 hf
    rw [atKey_del_other (fun e => hne (kn_inj e))]; exact hat f hf z
  · by_cases e : kl = kn nm
    · rw [e, has_del_same] at hkl; cases hkl
    · rw [has_del_other e] at hkl
      obtain ⟨f, hf, rfl⟩ := honly kl hkl
      exact ⟨f, mem_cutL.2 ⟨hf, fun q => e (by rw [q])⟩, rfl⟩
  · have h1 := size_del (k := kn nm) (ho.tidy law9)
    have h2 := len_cutL h.srt nm
    rw [hh, hsz] at h1
    omega
end Go.Proofs.YtiilkkdbifhojaaGreat
/- The contract of the program's body.with: a piece more. -/
namespace Go.Proofs.YtiilkkdbifhojaaGreat
open Go.ChangeShapes Go.WideShapes Go.ChangeAt Go.RowKit Go.Maps
set_option linter.unusedVariables false
set_option maxRecDepth 100000
theorem infoS : (Tryz.prog.info? 9).map (fun i => (i.zero, i.size, i.bytes)) = some (some (.string ByteArray.empty), 1, 16) := by kernel_rfl
theorem huS : Tryz.prog.underlying 42 = some (.slice 9) := by kernel_rfl
theorem news1 {x : World} {g : Nat} {v0 : Value} (c0 : x.cell? ⟨g, 0, none⟩ = some v0) (j : Nat) (u : Value) (hj : [v0][j]? = some u) : x.cell? ((⟨g, 0, none⟩ : Addr).add j) = some u := by
  rw [addr_add]
  match j, hj with
  | 0, hj => simp at hj; rw [← hj]; exact c0
def WithEnd (base : Nat) (b : Bd) (data : ByteArray) (w : World) (e : Ending) (w' : World) : Prop := ∃ b' : Bd, e = .returned b'.V ∧ b'.ps = b.ps ++ [data] ∧ w'.ownsRow base 9 1 b'.v b'.ps.length (strs b'.ps) ∧ w.grownBy w' b.v.ownBlock ∧ (b'.v.ownBlock = b.v.ownBlock ∨ ∃ g, b'.v.ownBlock = some g ∧ w.heap.size ≤ g)
abbrev Sw (B : Nat) (p0 p1 : Value) (x : World) : Prop := x.cell? ⟨B, 0, none⟩ = some p0 ∧ x.cell? ⟨B, 1, none⟩ = some p1
theorem grown_of_below {w w' w'' : World} {row : Option Nat} (h : Below w.heap.size w w') (k : w'.grownBy w'' row) (hr : ∀ j, row = some j → j < w.heap.size) : w.grownBy w'' row :=
  ⟨k.os.trans h.os, k.tape.trans h.tape, k.output.trans h.output, Nat.le_trans h.size k.size, fun i hi hne => (k.block i (Nat.lt_of_lt_of_le hi h.size) hne).trans (h.block i hi)⟩
theorem boxN {w x : World} {cur : Array Value} {T : TypeId} (h : Below (w.heap.size + 1) (w.alloc (.cells cur T)) x) (j : Nat) (v : Value) (hj : cur[j]? = some v) : x.cell? ⟨w.heap.size, j, none⟩ = some v :=
  (h.cell (by show w.heap.size < w.heap.size + 1; omega)).trans ((World.cell?_alloc_at _ _ _ _ rfl).trans hj)
theorem boxFree {w x : World} {cur : Array Value} {T : TypeId} (h : Below (w.heap.size + 1) (w.alloc (.cells cur T)) x) (j : Nat) : x.frozen? ⟨w.heap.size, j, none⟩ = false :=
  (h.frozen (by show w.heap.size < w.heap.size + 1; omega)).trans (frozen_of_block (cur := cur) (e := T) (by show (w.heap.push _)[w.heap.size]? = _; simp) j)
structure Blk (g : Nat) (cur : List Value) (x : World) : Prop where
  lt : g < x.heap.size
  c : ∀ j v, cur[j]? = some v → x.cell? ⟨g, j, none⟩ = some v
  f : ∀ j, x.frozen? ⟨g, j, none⟩ = false
theorem Blk.new {w : World} {cur : List Value} {T : TypeId} : Blk w.heap.size cur (w.alloc (.cells cur.toArray T)) :=
  ⟨by simp, fun j v hj => boxN (T := T) (Below.refl _ _) j v (by simpa using hj), fun j => boxFree (cur := cur.toArray) (T := T) (Below.refl _ _) j⟩
theorem Blk.below {g : Nat} {cur : List Value} {x y : World} (h : Blk g cur x) (b : Below x.heap.size x y) : Blk g cur y :=
  ⟨Nat.lt_of_lt_of_le h.lt b.size, fun j v hj => (b.cell h.lt).trans (h.c j v hj), fun j => (b.frozen h.lt).trans (h.f j)⟩
theorem Blk.alloc {g : Nat} {cur : List Value} {x : World} (h : Blk g cur x) (o : Obj) : Blk g cur (x.alloc o) := h.below (below_alloc (Below.refl _ _) _)
theorem Blk.set {g : Nat} {cur : List Value} {x : World} (h : Blk g cur x) (o : Nat) (v : Value) (ho : o < cur.length) : Blk g (cur.set o v) (x.setCell ⟨g, o, none⟩ v) :=
  ⟨by rw [size_setCell]; exact h.lt, fun j u hj => by
    by_cases e : o = j
    · subst e
      rw [List.getElem?_set_self (by simpa using ho)] at hj
      cases hj
      exact cell_set_same (h.c o cur[o] (List.getElem?_eq_getElem ho))
    · rw [List.getElem?_set_ne e] at hj
      rw [cell_set_other (.inr e)]
      exact h.c j u hj, fun j => by rw [frozen_set]; exact h.f j⟩
theorem Blk.other {g g' : Nat} {cur : List Value} {x : World} (h : Blk g cur x) (o : Nat) (v : Value) (hg : g' ≠ g) : Blk g cur (x.setCell ⟨g', o, none⟩ v) :=
  ⟨by rw [size_setCell]; exact h.lt, fun j u hj => by rw [cell_set_other (.inl hg)]; exact h.c j u hj, fun j => by rw [frozen_set]; exact h.f j⟩
theorem Sw.set2 {B : Nat} {p0 p1 u v : Value} {x : World} (h : Sw B p0 p1 x) : Sw B p0 p1 ((x.setCell ⟨B + 1, 0, none⟩ u).setCell ⟨B + 1, 1, none⟩ v) := by
  refine ⟨?_, ?_⟩
  · rw [cell_set_other (.inl (by omega)), cell_set_other (.inl (by omega))]; exact h.1
  · rw [cell_set_other (.inl (by omega)), cell_set_other (.inl (by omega))]; exact h.2
theorem grown_set_hi {w x : World} {row : Option Nat} (h : w.grownBy x row) {g o : Nat} (hg : w.heap.size ≤ g) (u : Value) : w.grownBy (x.setCell ⟨g, o, none⟩ u) row :=
  ⟨h.os, h.tape, h.output, by rw [size_setCell]; exact h.size, fun i hi hne => (Below.heap_setCell _ _ _ _ (fun e => by have : i = g := e; omega)).trans (h.block i hi hne)⟩
theorem wrap_nat {n : Nat} (h : n ≤ 1000000000000) : IntKind.i64.wrap (n : Int) = (n : Int) := by simp only [IntKind.wrap, IntKind.signed, IntKind.bits]; simp; omega
theorem Blk.grown {g : Nat} {cur : List Value} {x y : World} {row : Option Nat} (h : Blk g cur x) (k : x.grownBy y row) (hr : some g ≠ row) : Blk g cur y :=
  ⟨Nat.lt_of_lt_of_le h.lt k.size, fun j v hj => (World.cell?_of_block (k.block g h.lt hr)).trans (h.c j v hj), fun j => (World.frozen?_of_block (k.block g h.lt hr)).trans (h.f j)⟩
set_option maxHeartbeats 4000000 in
theorem with_any (base : Nat) (b : Bd) (data : ByteArray) (w : World) (hb : base ≤ w.heap.size) (hp : b.ps.length ≤ 1000000) (hz : (catL b.ps).size ≤ 1000000000) (hd : data.size ≤ 4194304) (h : w.ownsRow base 9 1 b.v b.ps.length (strs b.ps)) :
    Calls Tryz.prog 46 #[.agg #[.slice (adr b.a) b.ps.length b.c, .int .i64 ((catL b.ps).size : Int)], .string data] w fun e w' => WithEnd base b data w e w' := by
  obtain ⟨i0, hi0, hz0, hz1, hz2⟩ := info_parts infoS
  have hu := huS
  obtain ⟨W, hW⟩ : ∃ W, W = (w.alloc (.cells #[.slice (adr b.a) b.ps.length b.c, .int .i64 ((catL b.ps).size : Int)] 83)).alloc (.cells #[.slice none 0 0, .int .i64 0] 83) := ⟨_, rfl⟩
  have HW : Hid ((w.alloc (.cells #[.slice (adr b.a) b.ps.length b.c, .int .i64 ((catL b.ps).size : Int)] 83)).alloc (.cells #[.slice none 0 0, .int .i64 0] 83) = W) := hide hW.symm
  have sW : W.heap.size = w.heap.size + 2 := by rw [hW]; simp
  have HB : Hid (Below w.heap.size w W) := hide (by rw [hW]; exact below_alloc (below_alloc (Below.refl _ _) _) _)
  have KA : Hid (Blk w.heap.size [.slice (adr b.a) b.ps.length b.c, .int .i64 ((catL b.ps).size : Int)] W) := hide (by rw [hW]; exact Blk.new.alloc _)
  have KR : Hid (Blk (w.heap.size + 1) [.slice none 0 0, .int .i64 0] W) := hide (by rw [hW]; have := Blk.new (w := w.alloc (.cells #[.slice (adr b.a) b.ps.length b.c, .int .i64 ((catL b.ps).size : Int)] 83)) (cur := [.slice none 0 0, .int .i64 0]) (T := 83); simpa using this)
  have hlow : ∀ j, b.v.ownBlock = some j → j < w.heap.size := fun j hj => (h.lt j hj).2
  have HLOW : Hid _ := hide hlow
  have HO : Hid (W.ownsRow base 9 1 b.v b.ps.length (strs b.ps)) := hide (own_keep h HB.out)
  have x0 := KA.out.c 0 _ rfl
  have x1 := KA.out.c 1 _ rfl
  have SW : Hid (W.heap.size = w.heap.size + 2) := hide sW
  have HH : Hid _ := hide h
  clear hW h hlow sW
  generalize hcs : (catL b.ps).size = cs at *
  have HCS : Hid _ := hide hcs
  clear hcs
  go_enter Tryz.func46, Tryz.ntmps46
  go_wp2_with fail
  rw [HW.out]
  have XD : Hid (Sw w.heap.size (.slice (adr b.a) b.ps.length b.c) (.int .i64 (cs : Int)) W.drew) := hide ⟨x0, x1⟩
  have XA : Hid (Sw w.heap.size (.slice (adr b.a) b.ps.length b.c) (.int .i64 (cs : Int)) (W.alloc (.cells #[.string data] 9)).drew) := hide (by
    have k := KA.out.below (below_alloc (Below.refl _ _) (.cells #[.string data] 9)).drew
    exact ⟨k.c 0 _ rfl, k.c 1 _ rfl⟩)
  have KR2 : Hid (Blk (w.heap.size + 1) [.slice none 0 0, .int .i64 0] (W.alloc (.cells #[.string data] 9)).drew) := hide (KR.out.below (below_alloc (Below.refl _ _) _).drew)
  have KA2 : Hid (Blk w.heap.size [.slice (adr b.a) b.ps.length b.c, .int .i64 (cs : Int)] (W.alloc (.cells #[.string data] 9)).drew) := hide (KA.out.below (below_alloc (Below.refl _ _) _).drew)
  go_region_held3 (fun x => x.cell? ⟨w.heap.size, 0, none⟩ = some (.slice (adr b.a) b.ps.length b.c) ∧ x.cell? ⟨w.heap.size, 1, none⟩ = some (.int .i64 (cs : Int)))
    (first | with_reducible exact XD.out | with_reducible exact XA.out | with_reducible exact Sw.set2 (by assumption) | (with_reducible assumption))
    (first | (refine step_append_lies _ rfl (.tmp 6) (.tmp 8) 42 rfl base 9 i0 _ 1 16 hu hi0 hz0 hz1 hz2 rfl (by decide) b.v b.ps.length (strs b.ps) rfl (own_keep HO.out (below_alloc (Below.refl _ _) _).drew) ⟨W.heap.size, 0, none⟩ 1 1 [.string data] rfl rfl (news1 (World.cell?_alloc_at _ _ _ _ rfl)) (fun u hu => by simp only [List.mem_singleton] at hu; rw [hu]; rfl) (by decide) (by unfold maxLen; omega) (by omega) (by have := SW.out; simp; omega) (W.heap.size + 1) (by simp) ?_; intro g cap w' ho hg hlie hlt; have HG : Hid _ := hide hg; have HOO : Hid _ := hide ho; have HLI : Hid _ := hide hlie; have KA3 : Hid _ := hide (KA2.out.grown hg (fun q => by have := HLOW.out _ q.symm; omega)); have KR3 : Hid _ := hide (KR2.out.grown hg (fun q => by have := HLOW.out _ q.symm; omega)); have XS : Sw w.heap.size (.slice (adr b.a) b.ps.length b.c) (.int .i64 (cs : Int)) w' := ⟨KA3.out.c 0 _ rfl, KA3.out.c 1 _ rfl⟩; have r0 := KR3.out.c 0 _ rfl; have r1 := KR3.out.c 1 _ rfl; have f0 := KR3.out.f 0; have f1 := KR3.out.f 1; have hrl := KR3.out.lt; clear hg ho hlie))
  have hw : IntKind.i64.wrap ((cs : Int) + (data.size : Int)) = ((cs + data.size : Nat) : Int) := by
    rw [show (cs : Int) + (data.size : Int) = ((cs + data.size : Nat) : Int) by omega]
    exact wrap_nat (by omega)
  rw [hw]
  obtain ⟨Y, hY⟩ : ∃ Y, Y = ((w'.setCell ⟨w.heap.size + 1, 0, none⟩ (.slice (some ⟨g, 0, none⟩) (b.ps.length + 1) cap)).setCell ⟨w.heap.size + 1, 1, none⟩ (.int .i64 ((cs + data.size : Nat) : Int))) := ⟨_, rfl⟩
  rw [← hY]
  have k0 : Y.cell? ⟨w.heap.size + 1, 0, none⟩ = some (.slice (some ⟨g, 0, none⟩) (b.ps.length + 1) cap) := by rw [hY, cell_set_other (.inr (by omega))]; exact cell_set_same r0
  have k1 : Y.cell? ⟨w.heap.size + 1, 1, none⟩ = some (.int .i64 ((cs + data.size : Nat) : Int)) := by rw [hY]; exact cell_set_same (by rw [cell_set_other (.inr (by omega))]; exact r1)
  have hne : ∀ v, v = Value.slice (some ⟨g, 0, none⟩) (b.ps.length + 1) cap → v.ownBlock = none ∨ v.ownBlock ≠ some (w.heap.size + 1) := fun v e => .inr (fun q => by
    rw [e] at q
    simp only [Value.ownBlock, Option.some.injEq] at q
    rcases HLI.out with e1 | e1
    · have := HLOW.out _ e1; omega
    · have := SW.out; omega)
  have HE : Hid (WithEnd base b data w (.returned (.agg #[.slice (some ⟨g, 0, none⟩) (b.ps.length + 1) cap, .int .i64 ((cs + data.size : Nat) : Int)])) Y) := hide (by
    refine ⟨⟨some g, cap, b.ps ++ [data]⟩, ?_, rfl, ?_, ?_, ?_⟩
    · have e1 : (catL (b.ps ++ [data])).size = cs + data.size := by
        rw [catL_append, ByteArray.size_append, HCS.out]
        simp [catL]
      simp only [Bd.V, adr, Option.map_some, List.length_append, List.length_singleton, e1]
    · have e2 : (⟨some g, cap, b.ps ++ [data]⟩ : Bd).v = .slice (some ⟨g, 0, none⟩) (b.ps.length + 1) cap := by simp [Bd.v, adr]
      have e3 : strs (b.ps ++ [data]) = strs b.ps ++ [.string data] := by simp [strs]
      simp only [e2, e3, List.length_append, List.length_singleton]
      rw [hY]
      exact (HOO.out.kept (grown_set _ _ _ _) (hne _ rfl)).kept (grown_set _ _ _ _) (hne _ rfl)
    · rw [hY]
      exact grown_set_hi (grown_set_hi (grown_of_below (below_trans HB.out (below_alloc (Below.refl _ _) _).drew) HG.out HLOW.out) (by omega) _) (by omega) _
    · rcases HLI.out with e1 | e1
      · exact .inl (by rw [e1]; rfl)
      · exact .inr ⟨g, rfl, by have := SW.out; omega⟩)
  clear HG HOO HLI KA3 KR3 XS r0 r1 f0 f1 hY hne
  go_wp2
  exact bodyPost_ret (v := .agg #[.slice (some ⟨g, 0, none⟩) (b.ps.length + 1) cap, .int .i64 ((cs + data.size : Nat) : Int)]) (by simp [results, Tryz.results46, go_sem, k0, k1]) rfl HE.out
end Go.Proofs.YtiilkkdbifhojaaGreat
/- The contracts of the program's fileNameOk, shelf.has, shelf.fits and shelfOf. -/
namespace Go.Proofs.YtiilkkdbifhojaaGreat
open Go.ChangeShapes Go.WideShapes Go.ChangeAt Go.RowKit Go.Maps
set_option linter.unusedVariables false
set_option maxRecDepth 100000
theorem fileNameOk_any (s : ByteArray) (w : World) (h : s.size ≤ 4194304) :
    Calls Tryz.prog 51 #[.string s] w fun e w' => e = .returned (.bool (nmB s)) ∧ w' = w := by
  go_enter Tryz.func51, Tryz.ntmps51
  go_wp2_with fail
  refine (within_any _ _ _ _).mono ?_
  rintro e w' ⟨rfl, rfl⟩
  go_wp2
  go_ret
  exact ⟨rfl, rfl⟩
theorem sameKey_kn {a b : ByteArray} : (kn a).sameKey (kn b) = true ↔ a = b := by
  constructor
  · intro h
    by_cases e : kn a = kn b
    · exact kn_inj e
    · rw [sameKey_ne e] at h; cases h
  · rintro rfl
    exact WideAt.sameKey_self (kn_key _)
/-- what those that are done have, in all -/
def dnS (left : Lit → Bool) : List Fl → Nat
  | [] => 0
  | f :: l => (if left (kn f.nm) then 0 else f.da.size) + dnS left l
theorem dnS_start {left : Lit → Bool} {l : List Fl} (h : ∀ f ∈ l, left (kn f.nm) = true) : dnS left l = 0 := by
  induction l with
  | nil => rfl
  | cons x xs ih => simp only [dnS, h x (by simp), if_true]; rw [ih (fun y hy => h y (by simp [hy]))]
theorem dnS_end {left : Lit → Bool} {l : List Fl} (h : ∀ kl, left kl = false) : dnS left l = datL l := by
  induction l with
  | nil => rfl
  | cons x xs ih => simp only [dnS, h, Bool.false_eq_true, if_false, datL, ih]
theorem dnS_congr {left left' : Lit → Bool} {l : List Fl} (h : ∀ f ∈ l, left (kn f.nm) = left' (kn f.nm)) : dnS left l = dnS left' l := by
  induction l with
  | nil => rfl
  | cons x xs ih => simp only [dnS, h x (by simp)]; rw [ih (fun y hy => h y (by simp [hy]))]
theorem dnS_le (left : Lit → Bool) (l : List Fl) : dnS left l ≤ datL l := by
  induction l with
  | nil => simp [dnS]
  | cons x xs ih => simp only [dnS, datL]; split <;> omega
theorem dnS_step {left : Lit → Bool} : ∀ {l : List Fl} (hs : Srt l) {f : Fl} (hf : f ∈ l), left (kn f.nm) = true → dnS (fun z => left z && !z.sameKey (kn f.nm)) l = dnS left l + f.da.size := by
  intro l
  induction l with
  | nil => intro hs f hf; simp at hf
  | cons x xs ih =>
    intro hs f hf hl
    have hs' := List.pairwise_cons.1 hs
    rcases List.mem_cons.1 hf with rfl | hf'
    · have hself : (kn f.nm).sameKey (kn f.nm) = true := sameKey_kn.2 rfl
      simp only [dnS, hl, hself, if_true, Bool.not_true, Bool.and_false, Bool.false_eq_true, if_false]
      rw [dnS_congr (left' := left) (fun y hy => by
        have hne := hs'.1 y hy
        have : (kn y.nm).sameKey (kn f.nm) = false := by
          rw [Bool.eq_false_iff]; intro e; rw [sameKey_kn.1 e] at hne; exact List.lt_irrefl _ hne
        simp [this])]
      omega
    · have hne := hs'.1 f hf'
      have : (kn x.nm).sameKey (kn f.nm) = false := by
        rw [Bool.eq_false_iff]; intro e; rw [sameKey_kn.1 e] at hne; exact List.lt_irrefl _ hne
      simp only [dnS, this, Bool.not_false, Bool.and_true]
      rw [ih hs'.2 hf' hl]
      omega
/-- the step of a range over a shelf -/
theorem wpList_next_shelf {ops : Array Oper} {rest : List Oper} {o : Oper} {a : Act} {Q : Exit → Act → World → Prop} (w : World) (hg : o.guard = none) (it : Operand) (hop : o.op = Op.next it false) (m r n : Nat) (D : DataW Unit) (left : Lit → Bool) (cnt : Nat)
    (hit : a.eval it = .pointer (some ⟨r, 0, none⟩)) (h : w.ranges Tryz.prog 9 bdElem m r n D left cnt) (l : List Fl) (β : ByteArray → Bd) (hat : ∀ f ∈ l, ∀ z, D.atKey (kn f.nm) z = (β f.nm).D) (honly : ∀ kl, Maps.has D kl = true → ∃ f ∈ l, kl = kn f.nm)
    (hDone : (∀ kl, left kl = false) → wpList Tryz.prog ops Q rest (a.put o.dst (.tuple #[.bool false])) w)
    (hMore : ∀ f ∈ l, ∀ (w' : World) (cnt' : Nat), left (kn f.nm) = true → w'.ranges Tryz.prog 9 bdElem m r n D (fun z => left z && !z.sameKey (kn f.nm)) cnt' → cnt' < cnt → w.grownBy w' (some r) → w'.heap.size = w.heap.size →
      (Instr.entry (.pointer (some ⟨r, 0, none⟩))).run Tryz.prog w' = .ok (.tuple #[.string f.nm, .agg #[.slice (adr (β f.nm).a) (β f.nm).ps.length (β f.nm).c, .int .i64 ((catL (β f.nm).ps).size : Int)]]) w' → wpList Tryz.prog ops Q rest (a.put o.dst (.tuple #[.bool true, .string f.nm, .agg #[.slice (adr (β f.nm).a) (β f.nm).ps.length (β f.nm).c, .int .i64 ((catL (β f.nm).ps).size : Int)]])) w') :
    wpList Tryz.prog ops Q (o :: rest) a w := by
  refine wpList_next_ranges w hg it hop 9 law9 bdElem Value.string (fun q : Option Nat × Nat × Nat × Int => .agg #[.slice (adr q.1) q.2.1 q.2.2.1, .int .i64 q.2.2.2]) (fun key kl hk => by obtain ⟨s, rfl, _⟩ := WideMaps.string_of_keyOf u9 hk; exact ⟨s, rfl⟩) (fun v y hv => by obtain ⟨a, n, c, k, rfl, _⟩ := bd_inv hv; exact ⟨(a, n, c, k), rfl⟩)
    m r n D left cnt hit h (fun _ hl => hDone hl) (fun x c kl y w' cnt' hkey hlk hv hat' hrg hlt hgr hsz hen => ?_)
  obtain ⟨f, hf, rfl⟩ := honly kl (has_true_of_atKey hat')
  obtain ⟨a1, n1, c1, k1, e1, e2⟩ := bd_inv hv
  have e3 : (β f.nm).D = bdD a1 n1 c1 k1 := by
    have h1 := (hat f hf b0.D).symm.trans (hat' b0.D)
    rw [h1, e2]
  obtain ⟨q1, q2, q3, q4⟩ := bdD_inj e3
  obtain ⟨s, e4, e5, _⟩ := WideMaps.string_of_keyOf u9 hkey
  cases e4
  obtain rfl := kn_inj (a := f.nm) e5
  have ev : Value.agg #[.slice (adr c.1) c.2.1 c.2.2.1, .int .i64 c.2.2.2] = .agg #[.slice (adr (β f.nm).a) (β f.nm).ps.length (β f.nm).c, .int .i64 ((catL (β f.nm).ps).size : Int)] := by
    rw [e1, q1, q2, q3, q4]
  simp only [ev] at hen ⊢
  exact hMore f hf w' cnt' hlk hrg hlt hgr hsz hen
def fitB (l : List Fl) : Bool := decide ((l.length : Int) ≤ 60) && decide ((datL l : Int) ≤ 200000)
set_option maxHeartbeats 2000000 in
theorem fits_any (base m N : Nat) (l : List Fl) (β : ByteArray → Bd) (w : World) (hd : datL l ≤ 1000000000) (h : Shelf base m l β N w) :
    Calls Tryz.prog 29 #[.map (some m)] w fun e w' => e = .returned (.bool (fitB l)) ∧ Below w.heap.size w w' := by
  obtain ⟨D, n, hn, hown, hat, honly, hsz⟩ := h.map
  have HS : Hid _ := hide h.srt
  have HCT : Hid _ := hide h.cat
  have HA : Hid _ := hide hat
  have HO : Hid _ := hide honly
  have HL : Hid (∀ x : World, x.ownsMap Tryz.prog 9 bdElem m n D → (Builtin.len_ #[56] 3 #[.map (some m)]).run Tryz.prog x = .ok (.int .i64 (l.length : Int)) x) := hide (fun x hx => by rw [hx.len uM, hsz])
  clear hat honly hsz h
  go_enter Tryz.func29, Tryz.ntmps29
  go_wp2_with (first
    | (at_range; refine wpList_range_own _ rfl _ 56 rfl 9 83 law9 uM _ m n D rfl hown ?_; intro w0 hrg0 hg0 hs0)
    | go_in)
  go_frame
  have HB0 : Hid (Below w.heap.size w w0) := hide ((Below.refl _ _).grown hg0 (Nat.le_refl _) (fun j hj => by cases hj))
  go_loopw [3] (fun s wr => ∃ (left : Lit → Bool) (cnt : Nat) (z : Nat), wr.ranges Tryz.prog 9 bdElem m w.heap.size n D left cnt ∧ Below w.heap.size w wr ∧ s = .int .i64 (z : Int) ∧ Hid (z = dnS left l)) (fun s wr => wr.rangeLeft m w.heap.size)
  case atStart =>
    refine ⟨_, _, 0, hrg0, HB0.out, rfl, hide ?_⟩
    rw [dnS_start]
    intro f hf
    exact has_true_of_atKey (HA.out f hf)
  case round =>
    obtain ⟨left, cnt, z, hrg, HB, rfl, HZ⟩ := hrel
    have hzb : z ≤ 1000000000 := by rw [HZ.out]; exact Nat.le_trans (dnS_le _ _) hd
    go_wp2_with (first
      | (at_next; refine wpList_next_shelf _ rfl _ rfl m w.heap.size n D left cnt rfl hrg l β HA.out HO.out ?_ ?_)
      | go_in)
    · intro hl0
      have HE : Hid (z = datL l) := hide (by rw [HZ.out, dnS_end hl0])
      have hlen := HL.out wr hrg.owns
      have hfb : fitB l = (decide ((l.length : Int) ≤ 60) && decide ((z : Int) ≤ 200000)) := by rw [HE.out]; rfl
      have HF : Hid _ := hide hfb
      clear hl0 hfb HZ
      by_cases g1 : (l.length : Int) ≤ 60
      · go_wp2
        go_ret
        exact ⟨by rw [HF.out]; simp [g1], HB⟩
      · go_wp2
        go_ret
        exact ⟨by rw [HF.out]; simp; omega, HB⟩
    · intro f hf w1 cnt1 hlj hrg1 hlt hg1 hs1 hen
      have HB1 : Hid (Below w.heap.size w w1) := hide (HB.grown hg1 HB.size (fun k hk => by cases hk; exact Nat.le_refl _))
      have hst := dnS_step HS.out hf hlj
      have hle := dnS_le (fun z => left z && !z.sameKey (kn f.nm)) l
      have hcs : (catL (β f.nm).ps).size = f.da.size := by rw [HCT.out f hf]
      have HT : Hid (z + f.da.size = dnS (fun z => left z && !z.sameKey (kn f.nm)) l) := hide (by rw [hst, HZ.out])
      have hzb2 : z + f.da.size ≤ 1000000000 := by rw [HT.out]; omega
      have HM : Hid (w1.rangeLeft m w.heap.size < wr.rangeLeft m w.heap.size) := hide (by rw [hrg1.left_eq, hrg.left_eq]; exact hlt)
      have HR : Hid _ := hide hrg1
      rw [hcs] at hen ⊢
      clear hrg1 hrg hg1 hs1 hlt hlj hrg0 hg0 hs0 hown hst hle hcs HZ
      go_wp2
      go_roundw
      case rel => exact ⟨_, cnt1, z + f.da.size, HR.out.alloc _, below_alloc HB1.out _, by go_num, HT⟩
      case measure =>
        have hm := HM.out
        rw [HR.out.left_eq] at hm
        rw [(HR.out.alloc _).left_eq]
        exact hm

theorem b0V : b0.V = .agg #[.slice none 0 0, .int .i64 0] := rfl
set_option maxHeartbeats 1000000 in
theorem has_any (base m N : Nat) (l : List Fl) (β : ByteArray → Bd) (nm : ByteArray) (w : World) (hn : nm.size ≤ 4194304) (h : Shelf base m l β N w) :
    Calls Tryz.prog 113 #[.map (some m), .string nm] w fun e w' => e = .returned (.bool (hasN l nm)) ∧ Below w.heap.size w w' := by
  have hl : (Instr.lookup 56 (.map (some m)) (.string nm) true).run Tryz.prog w = .ok (if true then .tuple #[if hasN l nm then (β nm).V else b0.V, .bool (hasN l nm)] else if hasN l nm then (β nm).V else b0.V) w := h.look hn true 0
  simp only [if_true] at hl
  cases e : hasN l nm
  · rw [e] at hl
    simp only [Bool.false_eq_true, if_false, b0V] at hl
    have HR : Hid (hasN l nm = false) := hide e
    clear e
    go_enter Tryz.func113, Tryz.ntmps113
    go_wp2
    go_ret
    exact ⟨rfl, below_alloc (Below.refl _ _) _⟩
  · rw [e] at hl
    simp only [if_true, Bd.V] at hl
    have HR : Hid (hasN l nm = true) := hide e
    clear e
    go_enter Tryz.func113, Tryz.ntmps113
    go_wp2
    go_ret
    exact ⟨rfl, below_alloc (Below.refl _ _) _⟩
/-- one more at the end of a sorted list -/
theorem put_last {l : List Fl} (hs : Srt l) (k : Nat) (hk : k < l.length) : putL (l.take k) (l[k]).nm (l[k]).da = l.take (k + 1) := by
  have hst : Srt (l.take k) := hs.sublist (List.take_sublist _ _)
  have hall : ∀ f ∈ l.take k, f.nm.toList < (l[k]).nm.toList := fun f hf => by
    obtain ⟨i, hi, rfl⟩ := List.getElem_of_mem hf
    have hi2 : i < k := by simp at hi; omega
    have e : (l.take k)[i] = l[i]'(by omega) := by simp
    rw [e]
    exact List.pairwise_iff_getElem.1 hs i k (by omega) hk hi2
  obtain ⟨fa, fb⟩ := filter_all hall
  rw [putL_eq hst, putF, fa, fb, take_next l k hk]
def ShelfEnd (l : List Fl) (w : World) (e : Ending) (w' : World) : Prop := Below w.heap.size w w' ∧ ∃ m β, e = .returned (.map (some m)) ∧ Shelf w.heap.size m l β l.length w'
theorem own_b0 {w : World} {base : Nat} : w.ownsRow base 9 1 b0.v b0.ps.length (strs b0.ps) := ⟨by simp [strs, b0], .inl ⟨rfl, rfl⟩⟩
theorem below_of_none {w w' : World} (h : w.grownBy w' none) : Below w.heap.size w w' := (Below.refl _ _).grown h (Nat.le_refl _) (fun j hj => by cases hj)
theorem Sw.grown {B : Nat} {p0 p1 : Value} {x y : World} {row : Option Nat} (h : Sw B p0 p1 x) (hg : x.grownBy y row) (hr : row ≠ some B) : Sw B p0 p1 y := ⟨hg.cell h.1 (fun e => hr e.symm), hg.cell h.2 (fun e => hr e.symm)⟩
/-- rows apart: one that is new -/
theorem apt_hi {x : World} {base sz k : Nat} {e : TypeId} {u v : Value} {xs : List Value} (hv : x.ownsRow base e sz v k xs) (hu : ∀ g, u.ownBlock = some g → x.heap.size ≤ g) : Apt u v ∧ Apt v u := by
  have hne : ∀ g, u.ownBlock = some g → v.ownBlock ≠ some g := fun g h1 h2 => by
    have := (hv.lt g h2).2
    have := hu g h1
    omega
  constructor
  · cases h : u.ownBlock with
    | none => exact .inl h
    | some g => exact .inr (fun q => hne g h (by rw [← q, h]))
  · cases h : v.ownBlock with
    | none => exact .inl h
    | some g => exact .inr (fun q => hne g (by rw [← q, h]) h)
/-- a new body is put on a shelf -/
theorem Shelf.add {base m N : Nat} {l : List Fl} {β : ByteArray → Bd} {x x2 : World} (h : Shelf base m l β N x) {nm da : ByteArray} {b b' : Bd} (hn : nm.size ≤ 4194304) (hN : N ≤ 100000) (hps : b'.ps = b.ps ++ [da]) (hb : b.ps = []) (hb2 : b.v.ownBlock = none) (hro : x2.ownsRow base 9 1 b'.v b'.ps.length (strs b'.ps)) (hg : x.grownBy x2 b.v.ownBlock) (hli : b'.v.ownBlock = b.v.ownBlock ∨ ∃ g, b'.v.ownBlock = some g ∧ x.heap.size ≤ g) :
    ∃ y, (Instr.mapUpdate 56 (.map (some m)) (.string nm) b'.V).run Tryz.prog x2 = .ok () y ∧ Shelf base m (putL l nm da) (upd β nm b') (N + 1) y ∧ x2.grownBy y (some m) := by
  rw [hb2] at hg hli
  have hbl := below_of_none hg
  refine (h.below hbl).store b' hn (by omega) hro (by rw [hps, hb]; simp [catL]) (fun f hf hne => ?_) (by rw [hps, hb]; simp)
  have := apt_hi (u := b'.v) (h.rows f hf) (fun g hg => by
    rcases hli with q | ⟨g', q, hge⟩
    · rw [q] at hg; cases hg
    · rw [q] at hg; cases hg; exact hge)
  exact this
set_option maxHeartbeats 4000000 in
theorem shelfOf_any (a : Option Addr) (l : List Fl) (cap : Nat) (w : World) (hl : l.length ≤ 60) (hg : SmG0 l) (hs : Srt l) (h : RowAt 2 flCells w a l) :
    Calls Tryz.prog 27 #[.slice a l.length cap] w fun e w' => ShelfEnd l w e w' := by
  have HC : Hid _ := hide h
  have HG : Hid _ := hide hg
  have HS : Hid _ := hide hs
  clear h hg hs
  have hmm := @run_makeMap Tryz.prog
  go_enter Tryz.func27, Tryz.ntmps27
  go_wp2
  clear hmm
  go_loopw [9] (fun i wr => ∃ (k : Nat) (β : ByteArray → Bd), k ≤ l.length ∧ i = .int .i64 (k : Int) ∧ Hid (Below w.heap.size w wr) ∧ Hid (Shelf w.heap.size w.heap.size (l.take k) β k wr)) (fun i wr => l.length - (intOf i).toNat)
  case atStart => exact ⟨0, fun _ => b0, Nat.zero_le _, rfl, hide (below_alloc (Below.refl _ _) _), hide (shelf_made (Nat.le_refl _) _)⟩
  case round =>
    obtain ⟨k, β, hk, rfl, HB, HH⟩ := hrel
    by_cases hlt : k < l.length
    · have hlt' : (k : Int) < (l.length : Int) := by omega
      obtain ⟨b, off, rfl, hb, c0, c1⟩ := fl_row (HC.out.below HB.out) k hlt
      have s1 := (HG.out _ (List.getElem_mem hlt)).1
      have s2 := (HG.out _ (List.getElem_mem hlt)).2
      have HLW : Hid (w.heap.size < wr.heap.size) := hide HH.out.lt
      have HW2 : Hid (Below wr.heap.size wr (wr.alloc (.cells #[.string (l[k]).nm, .string (l[k]).da] 71))) := hide (below_alloc (Below.refl _ _) _)
      have XD : Hid (Sw wr.heap.size (.string (l[k]).nm) (.string (l[k]).da) (wr.alloc (.cells #[.string (l[k]).nm, .string (l[k]).da] 71)).drew) := hide ⟨World.cell?_alloc_at _ _ _ _ rfl, World.cell?_alloc_at _ _ _ _ rfl⟩
      have HHD : Hid (Shelf w.heap.size w.heap.size (l.take k) β k (wr.alloc (.cells #[.string (l[k]).nm, .string (l[k]).da] 71)).drew) := hide (HH.out.below HW2.out.drew)
      have HBD : Hid (Below w.heap.size w (wr.alloc (.cells #[.string (l[k]).nm, .string (l[k]).da] 71)).drew) := hide (below_trans HB.out HW2.out.drew)
      have HWT : Hid (Calls Tryz.prog 46 #[.agg #[.slice none 0 0, .int .i64 0], .string (l[k]).da] (wr.alloc (.cells #[.string (l[k]).nm, .string (l[k]).da] 71)).drew fun e w' => WithEnd w.heap.size b0 (l[k]).da (wr.alloc (.cells #[.string (l[k]).nm, .string (l[k]).da] 71)).drew e w') := hide (with_any w.heap.size b0 (l[k]).da _ HBD.out.size (by simp [b0]) (by simp [b0, catL]) s2 own_b0)
      have HPL : Hid _ := hide (put_last HS.out k hlt)
      go_wp2_with fail
      go_region_held3 (fun x => x.cell? ⟨wr.heap.size, 0, none⟩ = some (.string (l[k]).nm) ∧ x.cell? ⟨wr.heap.size, 1, none⟩ = some (.string (l[k]).da))
        (first | with_reducible exact XD.out | (with_reducible assumption))
        (first | (go_at_call 46; refine HWT.out.mono ?_; rintro e w2 ⟨b', rfl, hps, hro, hg, hli⟩; have XS : Sw wr.heap.size (.string (l[k]).nm) (.string (l[k]).da) w2 := XD.out.grown hg (by rw [show b0.v.ownBlock = none from rfl]; simp); obtain ⟨y, hrun, hsh, hgy⟩ := HHD.out.add (b := b0) s1 (by omega) hps rfl rfl hro hg hli; have XY : Sw wr.heap.size (.string (l[k]).nm) (.string (l[k]).da) y := XS.grown hgy (by have := HLW.out; simp; omega); have HSH : Hid _ := hide hsh; have HBY : Hid (Below w.heap.size w y) := hide ((below_trans HBD.out (below_of_none hg)).grown hgy (Nat.le_trans HBD.out.size (below_of_none hg).size) (fun j hj => by cases hj; exact Nat.le_refl _)); clear hsh hgy hg hli hro hps))
      have HSH2 : Hid (Shelf w.heap.size w.heap.size (l.take (k + 1)) (upd β (l[k]).nm b') (k + 1) y) := hide (by rw [← HPL.out]; exact HSH.out)
      clear hrun XS XY HSH
      go_wp2
      exact ⟨⟨k + 1, _, by omega, by go_num, HBY, HSH2⟩, by simp [intOf]; omega⟩
    · have hk' : ¬ (k : Int) < (l.length : Int) := by omega
      have HE : Hid (ShelfEnd l w (.returned (.map (some w.heap.size))) wr) := hide ⟨HB.out, _, β, rfl, by
        have := HH.out
        rw [List.take_of_length_le (by omega)] at this
        exact this.mono hk⟩
      go_wp2
      go_ret
      exact HE.out
end Go.Proofs.YtiilkkdbifhojaaGreat
/- The contract of the program's filesOk. -/
namespace Go.Proofs.YtiilkkdbifhojaaGreat
open Go.ChangeShapes Go.WideShapes Go.ChangeAt Go.RowKit Go.Maps
set_option linter.unusedVariables false
set_option maxRecDepth 100000
theorem srt_of {l : List Fl} (h : allTo (flB l) l.length = true) : Srt l := by
  have step : ∀ d i (hi : i + d + 1 < l.length), (l[i]'(by omega)).nm.toList < (l[i + d + 1]).nm.toList := by
    intro d
    induction d with
    | zero =>
      intro i hi
      have h2 := allTo_get h hi
      rw [flB_at hi, rises_fl (m := i) hi] at h2
      simp only [Bool.and_eq_true] at h2
      exact less_iff.1 h2.2
    | succ d ih =>
      intro i hi
      have h1 := ih i (by omega)
      have hi2 : (i + d + 1) + 1 < l.length := hi
      have h2 := allTo_get h hi2
      rw [flB_at hi2, rises_fl (m := i + d + 1) hi2] at h2
      simp only [Bool.and_eq_true] at h2
      exact List.lt_trans h1 (less_iff.1 h2.2)
  unfold Srt
  rw [List.pairwise_iff_getElem]
  intro i j hi hj hij
  have := step (j - i - 1) i (by omega)
  have e : i + (j - i - 1) + 1 = j := by omega
  simp only [e] at this
  exact this
theorem filesB_srt {l : List Fl} (h : filesB l = true) : Srt l := srt_of (filesB_parts h).2.1
theorem dat_take0 {l : List Fl} (h60 : l.length ≤ 61) (hs : ∀ f ∈ l, f.da.size ≤ 4194304) (k : Nat) : datL (l.take k) ≤ 255852544 := by
  have h1 := datL_bd (l := l.take k) (M := 4194304) (fun f hf => hs f (List.mem_of_mem_take hf))
  have h2 : (l.take k).length ≤ 61 := by rw [List.length_take]; omega
  have h3 : 4194304 * (l.take k).length ≤ 4194304 * 61 := Nat.mul_le_mul_left _ h2
  omega
set_option maxHeartbeats 4000000 in
theorem filesOk_any (a : Option Addr) (l : List Fl) (cap : Nat) (w : World) (hl : l.length ≤ 1048576) (hs : SmG0 l) (h : RowAt 2 flCells w a l) :
    Calls Tryz.prog 36 #[.slice a l.length cap] w fun e w' => e = .returned (.bool (filesB l)) ∧ Below w.heap.size w w' := by
  have HC : Hid _ := hide h
  have HS : Hid _ := hide hs
  clear h hs
  by_cases h60 : l.length ≤ 60
  · have a2 : ¬ (60 : Int) < (l.length : Int) := by omega
    go_enter Tryz.func36, Tryz.ntmps36
    go_wp2
    go_loopw [10] (fun i wr => ∃ (k : Nat), k ≤ l.length ∧ i = .int .i64 (k : Int) ∧ Hid (Below w.heap.size w wr) ∧ Hid (allTo (flB l) k = true)) (fun i wr => l.length - (intOf i).toNat)
    case atStart => exact ⟨0, Nat.zero_le _, rfl, hide (Below.refl _ _), hide rfl⟩
    case round =>
      obtain ⟨k, hk, rfl, HB, HG⟩ := hrel
      by_cases hlt : k < l.length
      · have hlt' : (k : Int) < (l.length : Int) := by omega
        obtain ⟨b, off, rfl, hb, c0, c1⟩ := fl_row (HC.out.below HB.out) k hlt
        have s1 := (HS.out _ (List.getElem_mem hlt)).1
        have d0 : ∀ y : Later (wr.alloc (.cells #[.string (l[k]).nm, .string (l[k]).da] 71)), y.w.cell? ⟨wr.heap.size, 0, none⟩ = some (.string (l[k]).nm) := later_cell (World.cell?_alloc_at _ _ _ _ rfl)
        have hne : Nonempty (Later (wr.alloc (.cells #[.string (l[k]).nm, .string (l[k]).da] 71))) := later_there _
        by_cases hz0 : k = 0
        · have hri : Hid (risesN l k = true) := hide (by rw [hz0]; rfl)
          have hz' : decide ((0 : Int) < (k : Int)) = false := by simp; omega
          have hz'' : decide (0 < k) = false := by simp; omega
          clear hz0
          cases q1 : nmB (l[k]).nm
          · have HR : Hid (filesB l = false) := hide (filesB_no hlt (by rw [flB_at hlt, q1]; rfl))
            go_wp2_with fail
            refine wp_region_later (wr.alloc (.cells #[.string (l[k]).nm, .string (l[k]).da] 71)) (by kernel_rfl) (by kernel_rfl) ((Below.refl _ _).drew) ?_
            repeat (go_big_quiet_step (first | (go_at_call 51; exact later_val q1 (later_same (fileNameOk_any _ _ s1)))))
            refine wpQuiet_nil ?_
            intro _ hw'
            obtain ⟨nx, rfl⟩ := hw'
            go_wp2
            go_ret
            exact ⟨by rw [HR.out]; rfl, below_trans (below_alloc HB.out _) nx.below⟩
          · have HG2 : Hid (allTo (flB l) (k + 1) = true) := hide (allTo_step HG.out (by rw [flB_at hlt, q1, hri.out]; rfl))
            go_wp2_with fail
            refine wp_region_later (wr.alloc (.cells #[.string (l[k]).nm, .string (l[k]).da] 71)) (by kernel_rfl) (by kernel_rfl) ((Below.refl _ _).drew) ?_
            repeat (go_big_quiet_step (first | (go_at_call 51; exact later_val q1 (later_same (fileNameOk_any _ _ s1)))))
            refine wpQuiet_nil ?_
            intro _ hw'
            obtain ⟨nx, rfl⟩ := hw'
            go_wp2
            exact ⟨⟨k + 1, by omega, by go_num, hide (below_trans (below_alloc HB.out _) nx.below), HG2⟩, by simp [intOf]; omega⟩
        · obtain ⟨m, hm⟩ : ∃ m, k = m + 1 := ⟨k - 1, by omega⟩
          have hm3 : m < l.length := by omega
          obtain ⟨b', off', heq, hb', p0, _⟩ := fl_row (HC.out.below HB.out) m hm3
          simp only [Option.some.injEq, Addr.mk.injEq, and_true] at heq
          obtain ⟨rfl, rfl⟩ := heq
          have f0 : ∀ y : Later (wr.alloc (.cells #[.string (l[k]).nm, .string (l[k]).da] 71)), y.w.cell? ⟨b, off + m * 2, none⟩ = some (.string (l[m]).nm) := later_old hb' p0
          have hz' : (0 : Int) < (k : Int) := by omega
          have hm1 : IntKind.i64.wrap ((k : Int) - 1) = (m : Int) := wrap_pred hm (by omega)
          have hm2 : (m : Int) < (l.length : Int) := by omega
          have hz'' : 0 < k := by omega
          have hrs : risesN l k = Op.bytesLess (l[m]).nm.toList (l[k]).nm.toList := by subst hm; exact rises_fl hlt
          cases q2 : Op.bytesLess (l[m]).nm.toList (l[k]).nm.toList
          · have HR : Hid (filesB l = false) := hide (filesB_no hlt (by rw [flB_at hlt, hrs, q2]; simp))
            clear hrs hm hz0
            cases q1 : nmB (l[k]).nm
            · skip
              go_wp2_with fail
              refine wp_region_later (wr.alloc (.cells #[.string (l[k]).nm, .string (l[k]).da] 71)) (by kernel_rfl) (by kernel_rfl) ((Below.refl _ _).drew) ?_
              repeat (go_big_quiet_step (first | (go_at_call 51; exact later_val q1 (later_same (fileNameOk_any _ _ s1)))))
              refine wpQuiet_nil ?_
              intro _ hw'
              obtain ⟨nx, rfl⟩ := hw'
              go_wp2
              go_ret
              exact ⟨by rw [HR.out]; rfl, below_trans (below_alloc HB.out _) nx.below⟩
            · skip
              go_wp2_with fail
              refine wp_region_later (wr.alloc (.cells #[.string (l[k]).nm, .string (l[k]).da] 71)) (by kernel_rfl) (by kernel_rfl) ((Below.refl _ _).drew) ?_
              repeat (go_big_quiet_step (first | (go_at_call 51; exact later_val q1 (later_same (fileNameOk_any _ _ s1)))))
              refine wpQuiet_nil ?_
              intro _ hw'
              obtain ⟨nx, rfl⟩ := hw'
              go_wp2
              go_ret
              exact ⟨by rw [HR.out]; rfl, below_trans (below_alloc HB.out _) nx.below⟩
          · cases q1 : nmB (l[k]).nm
            · have HR : Hid (filesB l = false) := hide (filesB_no hlt (by rw [flB_at hlt, q1]; rfl))
              clear hrs hm hz0
              go_wp2_with fail
              refine wp_region_later (wr.alloc (.cells #[.string (l[k]).nm, .string (l[k]).da] 71)) (by kernel_rfl) (by kernel_rfl) ((Below.refl _ _).drew) ?_
              repeat (go_big_quiet_step (first | (go_at_call 51; exact later_val q1 (later_same (fileNameOk_any _ _ s1)))))
              refine wpQuiet_nil ?_
              intro _ hw'
              obtain ⟨nx, rfl⟩ := hw'
              go_wp2
              go_ret
              exact ⟨by rw [HR.out]; rfl, below_trans (below_alloc HB.out _) nx.below⟩
            · have HG2 : Hid (allTo (flB l) (k + 1) = true) := hide (allTo_step HG.out (by rw [flB_at hlt, q1, hrs, q2]; rfl))
              clear hrs hm hz0
              go_wp2_with fail
              refine wp_region_later (wr.alloc (.cells #[.string (l[k]).nm, .string (l[k]).da] 71)) (by kernel_rfl) (by kernel_rfl) ((Below.refl _ _).drew) ?_
              repeat (go_big_quiet_step (first | (go_at_call 51; exact later_val q1 (later_same (fileNameOk_any _ _ s1)))))
              refine wpQuiet_nil ?_
              intro _ hw'
              obtain ⟨nx, rfl⟩ := hw'
              go_wp2
              exact ⟨⟨k + 1, by omega, by go_num, hide (below_trans (below_alloc HB.out _) nx.below), HG2⟩, by simp [intOf]; omega⟩
      · have hk' : ¬ (k : Int) < (l.length : Int) := by omega
        have HA : Hid (allTo (flB l) l.length = true) := hide (by
          have h1 := HG.out
          rw [show k = l.length by omega] at h1
          exact h1)
        have HE : Hid (filesB l = fitB l) := hide (by
          rw [filesB_end h60 HA.out, fitB, decide_eq_true (show (l.length : Int) ≤ 60 by omega)]
          rfl)
        go_wp2_with fail
        refine (shelfOf_any a l cap wr h60 HS.out (srt_of HA.out) (HC.out.below HB.out)).mono ?_
        rintro e w2 ⟨hb2, m, β, rfl, hsh⟩
        have HB2 : Hid _ := hide (below_trans HB.out hb2)
        have HSH : Hid _ := hide hsh
        have HDL : Hid (datL l ≤ 1000000000) := hide (by
          have := dat_take0 (l := l) (by omega) (fun f hf => (HS.out f hf).2) l.length
          rw [List.take_length] at this
          omega)
        clear hb2 hsh
        go_wp2_with fail
        refine (fits_any _ _ _ l β w2 HDL.out HSH.out).mono ?_
        rintro e w3 ⟨rfl, hb3⟩
        have HB3 : Hid _ := hide (below_trans HB2.out hb3)
        clear hb3
        go_wp2
        go_ret
        exact ⟨by rw [HE.out]; rfl, HB3.out⟩
  · have HR : Hid (filesB l = false) := hide (by simp [filesB, h60])
    have a2 : (60 : Int) < (l.length : Int) := by omega
    go_enter Tryz.func36, Tryz.ntmps36
    go_wp2
    go_ret
    exact ⟨by rw [HR.out]; rfl, Below.refl _ _⟩
end Go.Proofs.YtiilkkdbifhojaaGreat
