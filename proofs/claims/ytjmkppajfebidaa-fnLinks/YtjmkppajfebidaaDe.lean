/- The drawn end: what holds while it is drawn. -/
import Derived.Test.YtjmkppajfebidaaRd6
import Derived.Test.YtjmkppajfebidaaSPk2
import Derived.Test.YtjmkppajfebidaaSAck
import Derived.Test.YtjmkppajfebidaaSCp
namespace Go.Proofs.Ytjmkppajfebidaa
open Go.ChangeShapes Go.WideShapes Go.ChangeAt Go.RowKit
set_option linter.unusedVariables false
theorem OwnRow.keepB {A : Type} {sz : Nat} {f : A → List Value} {x y : World} {g : Nat} {a : Option Addr} {cap : Nat} {l : List A} (h : OwnRow sz f x g a cap l) (e : 0 < l.length → y.heap[g]? = x.heap[g]?) : OwnRow sz f y g a cap l := by
  have hgy : 0 < l.length → g < y.heap.size := fun q => by
    have hg := h.lt q
    have e := e q
    rcases Nat.lt_or_ge g y.heap.size with k | k
    · exact k
    · rw [Array.getElem?_eq_none k, Array.getElem?_eq_getElem hg] at e; cases e
  refine ⟨fun i hi => ?_, fun h0 => ⟨(h.own h0).1, fun j => ?_⟩, h.room, h.nocap⟩
  · have h0 : 0 < l.length := by omega
    obtain ⟨b, off, e2, _, hc⟩ := h.rows i hi
    have e3 := e2
    rw [(h.own h0).1] at e2
    simp only [Option.some.injEq, Addr.mk.injEq, and_true] at e2
    obtain ⟨rfl, rfl⟩ := e2
    exact ⟨g, 0, e3, hgy h0, fun r v hv => (World.cell?_of_block (w := x) (e h0)).trans (hc r v hv)⟩
  · exact (World.frozen?_of_block (w := x) (e h0)).trans ((h.own h0).2 j)
theorem apart_new {B : Nat} {a w : World} (h : Apart B a w) {g o : Nat} (hg : a.heap.size ≤ g) (v : Value) : Apart B a (w.setCell ⟨g, o, none⟩ v) :=
  ⟨h.os, h.tape, h.output, by rw [size_setCell]; exact h.size, fun k hk hB => (Below.heap_setCell _ _ _ _ (show k ≠ g by omega)).trans (h.block k hk hB)⟩
theorem rd_new {B : Nat} {w : World} (h : Rd B w) {g o : Nat} (hg : B < g) (v : Value) : Rd B (w.setCell ⟨g, o, none⟩ v) :=
  h.below ((Below.refl _ _).setCell (by exact hg) v)
/-- an end that is being drawn: its variable, its row, the reader -/
structure De (w : World) (B : Nat) (E : En) (a : Option Addr) (cap g : Nat) (x : World) : Prop where
  rd : Rd B x
  ap : Apart B w x
  hB : B < w.heap.size
  lt : w.heap.size + 2 ≤ x.heap.size
  c0 : x.cell? ⟨w.heap.size + 1, 0, none⟩ = some (.slice a E.out.length cap)
  c1 : x.cell? ⟨w.heap.size + 1, 1, none⟩ = some (.int .i64 E.sent)
  c2 : x.cell? ⟨w.heap.size + 1, 2, none⟩ = some (.int .i64 E.got)
  fz : ∀ j, x.frozen? ⟨w.heap.size + 1, j, none⟩ = false
  res : ResMid w.heap.size x
  hg : w.heap.size + 2 ≤ g
  row : OwnRow 2 prcCells x g a cap E.out
theorem De.move {w : World} {B : Nat} {E : En} {a : Option Addr} {cap g : Nat} {x y : World} (h : De w B E a cap g x) (hs : x.heap.size ≤ y.heap.size) (rd : Rd B y) (ap : Apart B w y) (hM : y.heap[w.heap.size + 1]? = x.heap[w.heap.size + 1]?) (hR : y.heap[w.heap.size]? = x.heap[w.heap.size]?) (hG : 0 < E.out.length → y.heap[g]? = x.heap[g]?) : De w B E a cap g y :=
  ⟨rd, ap, h.hB, Nat.le_trans h.lt hs, (World.cell?_of_block hM).trans h.c0, (World.cell?_of_block hM).trans h.c1, (World.cell?_of_block hM).trans h.c2, fun j => (World.frozen?_of_block hM).trans (h.fz j), h.res.keep hR hs, h.hg, h.row.keepB hG⟩
theorem De.apart {w : World} {B : Nat} {E : En} {a : Option Addr} {cap g : Nat} {x y : World} (h : De w B E a cap g x) (rd : Rd B y) (k : Apart B x y) : De w B E a cap g y := by
  have hB := h.hB
  have lt := h.lt
  exact h.move k.size rd (h.ap.trans k) (k.block _ (by omega) (by omega)) (k.block _ (by omega) (by omega)) (fun q => k.block _ (h.row.lt q) (by have := h.hg; omega))
theorem De.below {w : World} {B : Nat} {E : En} {a : Option Addr} {cap g : Nat} {x y : World} (h : De w B E a cap g x) (k : Below x.heap.size x y) : De w B E a cap g y :=
  h.apart (h.rd.below (k.mono h.rd.lt)) ⟨k.os, k.tape, k.output, k.size, fun i hi _ => k.block i hi⟩
theorem De.put {w : World} {B : Nat} {E : En} {a : Option Addr} {cap g : Nat} {x : World} (h : De w B E a cap g x) {E2 : En} {a2 : Option Addr} {cap2 g2 : Nat} (hg2 : w.heap.size + 2 ≤ g2) (row : OwnRow 2 prcCells x g2 a2 cap2 E2.out) :
    De w B E2 a2 cap2 g2 (((x.setCell ⟨w.heap.size + 1, 0, none⟩ (.slice a2 E2.out.length cap2)).setCell ⟨w.heap.size + 1, 1, none⟩ (.int .i64 E2.sent)).setCell ⟨w.heap.size + 1, 2, none⟩ (.int .i64 E2.got)) := by
  have hB := h.hB
  refine ⟨rd_new (rd_new (rd_new h.rd (by omega) _) (by omega) _) (by omega) _, apart_new (apart_new (apart_new h.ap (by omega) _) (by omega) _) (by omega) _, hB, by simpa [World.setCell] using h.lt, ?_, ?_, ?_, fun j => by simp [h.fz], ?_, hg2, ?_⟩
  · rw [cell_set_other (.inr (by simp)), cell_set_other (.inr (by simp))]; exact cell_set_same h.c0
  · rw [cell_set_other (.inr (by simp))]; exact cell_set_same (by rw [cell_set_other (.inr (by simp))]; exact h.c1)
  · exact cell_set_same (by rw [cell_set_other (.inr (by simp)), cell_set_other (.inr (by simp))]; exact h.c2)
  · exact h.res.keep (((Below.heap_setCell _ _ _ _ (by simp)).trans (Below.heap_setCell _ _ _ _ (by simp))).trans (Below.heap_setCell _ _ _ _ (by simp))) (by simp [World.setCell])
  · exact row.turned ((((Turned.refl (w.heap.size + 1) x).setCell _).setCell _).setCell _) (fun _ => by omega)
/-- what is packed is right -/
theorem pk_right {E : En} {n : Int} (q : pkOk E n = true) : endB (pkE E n) = true := by
  have q1 : endB E = true := by cases q1 : endB E <;> simp [pkOk, q1] at q ⊢
  have q2 : inB 1 1000000000000 n = true := by cases q2 : inB 1 1000000000000 n <;> simp [pkOk, q2] at q ⊢
  have q3 : E.out.length ≠ 8 := by intro e; simp [pkOk, e] at q
  have q4 : E.sent ≠ 1000000000 := by intro e; simp [pkOk, e] at q
  obtain ⟨h8, ⟨s0, s1⟩, ⟨g0, g1⟩, hl⟩ := endB_parts q1
  simp only [pkE, q, if_true]
  have ha : 1 ≤ n ∧ n ≤ 1000000000000 := by simpa [inB] using q2
  refine endB_yes (by simp; omega) ⟨by simp [inB]; omega, by simp [inB]; omega⟩ ?_
  intro j hj hj2
  simp only [List.length_append, List.length_cons, List.length_nil] at hj hj2 ⊢
  by_cases hjl : j < E.out.length
  · obtain ⟨e1, e2, e3, e4⟩ := hl j hjl
    rw [List.getElem_append_left hjl]
    simp only [prcB, inB]
    simp
    omega
  · obtain rfl : j = E.out.length := by omega
    simp only [List.getElem_append_right (Nat.le_refl _), Nat.sub_self, List.getElem_cons_zero, prcB, inB]
    simp
    omega
/-- what Packed has told, and how far it has been laid away -/
structure PkQ (S0 : Nat) (T : Int) (E2 : En) (p2 : Prc) (f2 : Bool) (a2 : Option Addr) (cap2 g2 : Nat) (l5 l6 l7 l8 l9 l10 l11 l13 : Bool) (u5 u6 u7 u15 u20 u21 u22 u23 : Value) (x : World) : Prop where
  m20 : u20 = .tuple #[.agg #[.slice a2 E2.out.length cap2, .int .i64 E2.sent, .int .i64 E2.got], .agg #[.int .i64 p2.seq, .int .i64 p2.amt], .bool f2]
  ok : f2 = true → endB E2 = true ∧ E2.sent ≤ T
  lo : S0 ≤ g2
  row : OwnRow 2 prcCells x g2 a2 cap2 E2.out
  n5 : l9 = true → 0 < E2.out.length → u5 ≠ .pointer (some ⟨g2, 0, none⟩)
  n6 : l10 = true → 0 < E2.out.length → u6 ≠ .pointer (some ⟨g2, 0, none⟩)
  m15 : l5 = true → u15 = u20
  m21 : l6 = true → u21 = .agg #[.slice a2 E2.out.length cap2, .int .i64 E2.sent, .int .i64 E2.got]
  m22 : l7 = true → u22 = .agg #[.int .i64 p2.seq, .int .i64 p2.amt]
  m23 : l8 = true → u23 = .bool f2
  m7 : l13 = true → u7 = .bool f2
  st : l11 = true → ∀ k, u5 = .pointer (some ⟨k, 0, none⟩) → k < x.heap.size ∧ x.cell? ⟨k, 0, none⟩ = some (.slice a2 E2.out.length cap2) ∧ x.cell? ⟨k, 1, none⟩ = some (.int .i64 E2.sent) ∧ x.cell? ⟨k, 2, none⟩ = some (.int .i64 E2.got)
/-- what holds in the midst of the region that packs -/
structure EdF (w : World) (B : Nat) (E : En) (a : Option Addr) (cap g S0 : Nat) (T : Int) (l0 l1 l2 l3 l4 l5 l6 l7 l8 l9 l10 l11 l12 l13 : Bool) (u5 u6 u7 u15 u16 u17 u18 u19 u20 u21 u22 u23 : Value) (x : World) : Prop where
  de : De w B E a cap g x
  sz : S0 ≤ x.heap.size
  sW : w.heap.size + 2 ≤ S0
  gS : 0 < E.out.length → g < S0
  q18 : l2 = true → ∃ r : Int, 0 ≤ r ∧ r ≤ 19 ∧ u18 = .int .i64 r
  q19 : l3 = true → ∃ r : Int, 1 ≤ r ∧ r ≤ 20 ∧ u19 = .int .i64 r
  d : l5 = true ∨ l6 = true ∨ l7 = true ∨ l8 = true ∨ l11 = true ∨ l13 = true → l4 = true
  d11 : l11 = true → l9 = true
  q20 : l4 = true → ∃ (E2 : En) (p2 : Prc) (f2 : Bool) (a2 : Option Addr) (cap2 g2 : Nat), PkQ S0 T E2 p2 f2 a2 cap2 g2 l5 l6 l7 l8 l9 l10 l11 l13 u5 u6 u7 u15 u20 u21 u22 u23 x
  e5 : l9 = true → ∃ k, u5 = .pointer (some ⟨k, 0, none⟩) ∧ S0 ≤ k ∧ ResMid k x
  e6 : l10 = true → ∃ k, u6 = .pointer (some ⟨k, 0, none⟩) ∧ S0 ≤ k ∧ k < x.heap.size ∧ (∀ j, x.frozen? ⟨k, j, none⟩ = false) ∧ (∃ v0, x.cell? ⟨k, 0, none⟩ = some v0) ∧ (∃ v1, x.cell? ⟨k, 1, none⟩ = some v1) ∧ (l9 = true → u5 ≠ .pointer (some ⟨k, 0, none⟩))
  p16 : l0 = true → u16 = .agg #[.slice a E.out.length cap, .int .i64 E.sent, .int .i64 E.got]
  p17 : l1 = true → u17 = .pointer (some ⟨B, 0, none⟩)
theorem EdF.grown {w : World} {B : Nat} {E : En} {a : Option Addr} {cap g S0 : Nat} {T : Int} {l0 l1 l2 l3 l4 l5 l6 l7 l8 l9 l10 l11 l12 l13 : Bool} {u5 u6 u7 u15 u16 u17 u18 u19 u20 u21 u22 u23 : Value} {x : World} {y : World} (h : EdF w B E a cap g S0 T l0 l1 l2 l3 l4 l5 l6 l7 l8 l9 l10 l11 l12 l13 u5 u6 u7 u15 u16 u17 u18 u19 u20 u21 u22 u23 x) (hs : x.heap.size ≤ y.heap.size) (rd : Rd B y) (ap : Apart B w y) (hk : ∀ k, k < x.heap.size → k ≠ B → y.heap[k]? = x.heap[k]?) : EdF w B E a cap g S0 T l0 l1 l2 l3 l4 l5 l6 l7 l8 l9 l10 l11 l12 l13 u5 u6 u7 u15 u16 u17 u18 u19 u20 u21 u22 u23 y := by
  have hB := h.de.hB
  have sW := h.sW
  have hS := h.sz
  have lt := h.de.lt
  exact { h with
    de := h.de.move hs rd ap (hk _ (by omega) (by omega)) (hk _ (by omega) (by omega)) (fun q => hk _ (h.de.row.lt q) (by have := h.de.hg; omega))
    sz := Nat.le_trans hS hs
    q20 := fun q => by
      obtain ⟨E2, p2, f2, a2, cap2, g2, hq⟩ := h.q20 q
      exact ⟨E2, p2, f2, a2, cap2, g2, { hq with
        row := hq.row.keepB (fun q => hk _ (hq.row.lt q) (by have := hq.lo; omega))
        st := fun q k e => by
          obtain ⟨lt, c0, c1, c2⟩ := hq.st q k e
          obtain ⟨k', e', lo, _⟩ := h.e5 (h.d11 q)
          rw [e] at e'
          simp only [Value.pointer.injEq, Option.some.injEq, Addr.mk.injEq, and_true] at e'
          have hb := hk k lt (by omega)
          exact ⟨Nat.lt_of_lt_of_le lt hs, (World.cell?_of_block hb).trans c0, (World.cell?_of_block hb).trans c1, (World.cell?_of_block hb).trans c2⟩ }⟩
    e5 := fun q => by
      obtain ⟨k, e, lo, hr⟩ := h.e5 q
      exact ⟨k, e, lo, hr.keep (hk _ hr.lt (by omega)) hs⟩
    e6 := fun q => by
      obtain ⟨k, e, lo, lt, fz, ⟨v0, c0⟩, ⟨v1, c1⟩, ne⟩ := h.e6 q
      have hb := hk k lt (by omega)
      exact ⟨k, e, lo, Nat.lt_of_lt_of_le lt hs, fun j => (World.frozen?_of_block hb).trans (fz j), ⟨v0, (World.cell?_of_block hb).trans c0⟩, ⟨v1, (World.cell?_of_block hb).trans c1⟩, ne⟩ }
theorem EdF.s2 {w : World} {B : Nat} {E : En} {a : Option Addr} {cap g S0 : Nat} {T : Int} {l0 l3 l4 l5 l6 l7 l8 l9 l10 l11 l12 l13 : Bool} {u5 u6 u7 u15 u16 u17 u18 u19 u20 u21 u22 u23 : Value} {x : World} {y : World} {r : Int} (h : EdF w B E a cap g S0 T l0 true false l3 l4 l5 l6 l7 l8 l9 l10 l11 l12 l13 u5 u6 u7 u15 u16 u17 u18 u19 u20 u21 u22 u23 x) (hr : Rd B y) (ha : Apart B x y) (r0 : 0 ≤ r) (r1 : r ≤ 19) : EdF w B E a cap g S0 T l0 true true l3 l4 l5 l6 l7 l8 l9 l10 l11 l12 l13 u5 u6 u7 u15 u16 u17 (.int .i64 r) u19 u20 u21 u22 u23 y := by
  have k := h.grown ha.size hr (h.de.ap.trans ha) ha.block
  exact { k with q18 := fun _ => ⟨r, r0, r1, rfl⟩ }
theorem EdF.s4 {w : World} {B : Nat} {E : En} {a : Option Addr} {cap g S0 : Nat} {T : Int} {l1 l5 l6 l7 l8 l9 l10 l11 l12 l13 : Bool} {u5 u6 u7 u15 u16 u17 u18 u19 u20 u21 u22 u23 : Value} {x : World} {y : World} {E2 : En} {p2 : Prc} {f2 : Bool} {a2 : Option Addr} {cap2 g2 : Nat} (h : EdF w B E a cap g S0 T true l1 true true false l5 l6 l7 l8 l9 l10 l11 l12 l13 u5 u6 u7 u15 u16 u17 u18 u19 u20 u21 u22 u23 x) (hf : f2 = true → endB E2 = true ∧ E2.sent ≤ T) (hb : Below x.heap.size x y) (hg : x.heap.size ≤ g2) (ho : OwnRow 2 prcCells y g2 a2 cap2 E2.out) : EdF w B E a cap g S0 T true l1 true true true l5 l6 l7 l8 l9 l10 l11 l12 l13 u5 u6 u7 u15 u16 u17 u18 u19 (.tuple #[.agg #[.slice a2 E2.out.length cap2, .int .i64 E2.sent, .int .i64 E2.got], .agg #[.int .i64 p2.seq, .int .i64 p2.amt], .bool f2]) u21 u22 u23 y := by
  have k := h.grown hb.size (h.de.rd.below (hb.mono h.de.rd.lt)) (h.de.ap.trans ⟨hb.os, hb.tape, hb.output, hb.size, fun k hk _ => hb.block k hk⟩) (fun k hk _ => hb.block k hk)
  have no : ∀ {P : Prop}, (l5 = true ∨ l6 = true ∨ l7 = true ∨ l8 = true ∨ l11 = true ∨ l13 = true) → P := fun q => absurd (h.d q) (by simp)
  exact { k with
    d := fun _ => rfl
    q20 := fun _ => ⟨E2, p2, f2, a2, cap2, g2, ⟨rfl, hf, by have := h.sz; omega, ho, fun q _ e => by
        obtain ⟨k, e', lo, hr⟩ := h.e5 q
        rw [e'] at e
        simp only [Value.pointer.injEq, Option.some.injEq, Addr.mk.injEq, and_true] at e
        have := hr.lt; omega, fun q _ e => by
        obtain ⟨k, e', lo, lt, _⟩ := h.e6 q
        rw [e'] at e
        simp only [Value.pointer.injEq, Option.some.injEq, Addr.mk.injEq, and_true] at e
        omega, fun q => no (.inl q), fun q => no (.inr (.inl q)), fun q => no (.inr (.inr (.inl q))), fun q => no (.inr (.inr (.inr (.inl q)))), fun q => no (.inr (.inr (.inr (.inr (.inr q))))), fun q => no (.inr (.inr (.inr (.inr (.inl q)))))⟩⟩ }
theorem EdF.al {w : World} {B : Nat} {E : En} {a : Option Addr} {cap g S0 : Nat} {T : Int} {l0 l1 l2 l3 l4 l5 l6 l7 l8 l9 l10 l11 l12 l13 : Bool} {u5 u6 u7 u15 u16 u17 u18 u19 u20 u21 u22 u23 : Value} {x : World} (h : EdF w B E a cap g S0 T l0 l1 l2 l3 l4 l5 l6 l7 l8 l9 l10 l11 l12 l13 u5 u6 u7 u15 u16 u17 u18 u19 u20 u21 u22 u23 x) (o : Obj) : EdF w B E a cap g S0 T l0 l1 l2 l3 l4 l5 l6 l7 l8 l9 l10 l11 l12 l13 u5 u6 u7 u15 u16 u17 u18 u19 u20 u21 u22 u23 (x.alloc o) := by
  have hB := h.de.rd.lt
  exact h.grown (by simp) (h.de.rd.below ((Below.refl _ _).alloc (by omega) _)) (h.de.ap.trans ⟨rfl, rfl, rfl, by simp, fun k hk _ => Below.heap_alloc _ _ _ hk⟩) (fun k hk _ => Below.heap_alloc _ _ _ hk)
theorem EdF.s9 {w : World} {B : Nat} {E : En} {a : Option Addr} {cap g S0 : Nat} {T : Int} {l0 l1 l2 l3 l4 l5 l6 l7 l8 l10 l11 l12 l13 : Bool} {u5 u6 u7 u15 u16 u17 u18 u19 u20 u21 u22 u23 : Value} {x : World} (h : EdF w B E a cap g S0 T l0 l1 l2 l3 l4 l5 l6 l7 l8 false l10 l11 l12 l13 u5 u6 u7 u15 u16 u17 u18 u19 u20 u21 u22 u23 x) : EdF w B E a cap g S0 T l0 l1 l2 l3 l4 l5 l6 l7 l8 true l10 l11 l12 l13 (.pointer (some ⟨x.heap.size, 0, none⟩)) u6 u7 u15 u16 u17 u18 u19 u20 u21 u22 u23 (x.alloc (.cells #[.slice none 0 0, .int .i64 0, .int .i64 0] 26)) := by
  have k := h.al (.cells #[.slice none 0 0, .int .i64 0, .int .i64 0] 26)
  have sz := h.sz
  exact { k with
    d11 := fun _ => rfl
    q20 := fun q => by
      obtain ⟨E2, p2, f2, a2, cap2, g2, hq⟩ := h.q20 q
      obtain ⟨E3, p3, f3, a3, cap3, g3, hq'⟩ := k.q20 q
      refine ⟨E2, p2, f2, a2, cap2, g2, { hq with
        row := hq.row.below (below_alloc (Below.refl _ _) _)
        n5 := fun _ q e => by
          simp only [Value.pointer.injEq, Option.some.injEq, Addr.mk.injEq, and_true] at e
          have := hq.row.lt q
          omega
        st := fun q => absurd (h.d11 q) (by simp) }⟩
    e5 := fun _ => ⟨x.heap.size, rfl, sz, by simp, fun j hj => by
      match j, hj with
      | 0, _ => exact ⟨_, World.cell?_alloc_at _ _ _ _ rfl⟩
      | 1, _ => exact ⟨_, World.cell?_alloc_at _ _ _ _ rfl⟩
      | 2, _ => exact ⟨_, World.cell?_alloc_at _ _ _ _ rfl⟩, frozen_of_block (heap_alloc_new x _)⟩
    e6 := fun q => by
      obtain ⟨k', e, lo, lt, fz, c0, c1, ne⟩ := k.e6 q
      obtain ⟨k2, e2, _, lt2, _⟩ := h.e6 q
      rw [e] at e2
      simp only [Value.pointer.injEq, Option.some.injEq, Addr.mk.injEq, and_true] at e2
      exact ⟨k', e, lo, lt, fz, c0, c1, fun _ e => by
        simp only [Value.pointer.injEq, Option.some.injEq, Addr.mk.injEq, and_true] at e
        omega⟩ }
theorem EdF.s10 {w : World} {B : Nat} {E : En} {a : Option Addr} {cap g S0 : Nat} {T : Int} {l0 l1 l2 l3 l4 l5 l6 l7 l8 l9 l11 l12 l13 : Bool} {u5 u6 u7 u15 u16 u17 u18 u19 u20 u21 u22 u23 : Value} {x : World} (h : EdF w B E a cap g S0 T l0 l1 l2 l3 l4 l5 l6 l7 l8 l9 false l11 l12 l13 u5 u6 u7 u15 u16 u17 u18 u19 u20 u21 u22 u23 x) : EdF w B E a cap g S0 T l0 l1 l2 l3 l4 l5 l6 l7 l8 l9 true l11 l12 l13 u5 (.pointer (some ⟨x.heap.size, 0, none⟩)) u7 u15 u16 u17 u18 u19 u20 u21 u22 u23 (x.alloc (.cells #[.int .i64 0, .int .i64 0] 30)) := by
  have k := h.al (.cells #[.int .i64 0, .int .i64 0] 30)
  have sz := h.sz
  exact { k with
    q20 := fun q => by
      obtain ⟨E2, p2, f2, a2, cap2, g2, hq⟩ := h.q20 q
      exact ⟨E2, p2, f2, a2, cap2, g2, { hq with
        row := hq.row.below (below_alloc (Below.refl _ _) _)
        n6 := fun _ q e => by
          simp only [Value.pointer.injEq, Option.some.injEq, Addr.mk.injEq, and_true] at e
          have := hq.row.lt q
          omega
        st := fun q k e => by
          obtain ⟨lt, c0, c1, c2⟩ := hq.st q k e
          have hb := Below.heap_alloc x (.cells #[.int .i64 0, .int .i64 0] 30) k lt
          exact ⟨Nat.lt_of_lt_of_le lt (by simp), (World.cell?_of_block hb).trans c0, (World.cell?_of_block hb).trans c1, (World.cell?_of_block hb).trans c2⟩ }⟩
    e6 := fun _ => ⟨x.heap.size, rfl, sz, by simp, frozen_of_block (heap_alloc_new x _), ⟨_, World.cell?_alloc_at _ _ _ _ rfl⟩, ⟨_, World.cell?_alloc_at _ _ _ _ rfl⟩, fun q e => by
      obtain ⟨k, e', _, hr⟩ := h.e5 q
      rw [e'] at e
      simp only [Value.pointer.injEq, Option.some.injEq, Addr.mk.injEq, and_true] at e
      have := hr.lt; omega⟩ }
theorem EdF.s11 {w : World} {B : Nat} {E : En} {a : Option Addr} {cap g S0 : Nat} {T : Int} {l7 l8 l12 l13 : Bool} {u5 u6 u7 u15 u16 u17 u18 u19 u20 u21 u22 u23 : Value} {x : World} {k : Nat} {E2 : En} {p2 : Prc} {f2 : Bool} {a2 : Option Addr} {cap2 g2 : Nat} (h : EdF w B E a cap g S0 T true true true true true true true l7 l8 true true false l12 l13 u5 u6 u7 u15 u16 u17 u18 u19 u20 u21 u22 u23 x) (e5 : u5 = .pointer (some ⟨k, 0, none⟩)) (hk : S0 ≤ k) (hq : PkQ S0 T E2 p2 f2 a2 cap2 g2 true true l7 l8 true true false l13 u5 u6 u7 u15 u20 u21 u22 u23 x) : EdF w B E a cap g S0 T true true true true true true true l7 l8 true true true l12 l13 u5 u6 u7 u15 u16 u17 u18 u19 u20 u21 u22 u23 (((x.setCell ⟨k, 0, none⟩ (.slice a2 E2.out.length cap2)).setCell ⟨k, 1, none⟩ (.int .i64 E2.sent)).setCell ⟨k, 2, none⟩ (.int .i64 E2.got)) := by
  have hB := h.de.hB
  have sW := h.sW
  have hS := h.sz
  have lt := h.de.lt
  obtain ⟨k', e', _, hr⟩ := h.e5 rfl
  rw [e5] at e'
  simp only [Value.pointer.injEq, Option.some.injEq, Addr.mk.injEq, and_true] at e'
  subst e'
  have hot : ∀ j, j ≠ k → ((((x.setCell ⟨k, 0, none⟩ (.slice a2 E2.out.length cap2)).setCell ⟨k, 1, none⟩ (.int .i64 E2.sent)).setCell ⟨k, 2, none⟩ (.int .i64 E2.got))).heap[j]? = x.heap[j]? := fun j hj => ((Below.heap_setCell _ _ _ _ hj).trans (Below.heap_setCell _ _ _ _ hj)).trans (Below.heap_setCell _ _ _ _ hj)
  have hsz : ((((x.setCell ⟨k, 0, none⟩ (.slice a2 E2.out.length cap2)).setCell ⟨k, 1, none⟩ (.int .i64 E2.sent)).setCell ⟨k, 2, none⟩ (.int .i64 E2.got))).heap.size = x.heap.size := by simp [World.setCell]
  obtain ⟨⟨t0, r0⟩, ⟨t1, r1⟩, ⟨t2, r2⟩⟩ := And.intro (hr.c 0 (by omega)) (And.intro (hr.c 1 (by omega)) (hr.c 2 (by omega)))
  exact { h with
    de := h.de.move (Nat.le_of_eq hsz.symm) (rd_new (rd_new (rd_new h.de.rd (by omega) _) (by omega) _) (by omega) _) (apart_new (apart_new (apart_new h.de.ap (by omega) _) (by omega) _) (by omega) _) (hot _ (by omega)) (hot _ (by omega)) (fun q => hot _ (by have := h.gS q; omega))
    sz := by rw [hsz]; exact hS
    d := fun _ => rfl
    d11 := fun _ => rfl
    q20 := fun _ => ⟨E2, p2, f2, a2, cap2, g2, { hq with
      row := hq.row.keepB (fun q => hot _ (fun e => hq.n5 rfl q (by rw [e5, e])))
      st := fun _ k2 e2 => by
        rw [e5] at e2
        simp only [Value.pointer.injEq, Option.some.injEq, Addr.mk.injEq, and_true] at e2
        subst e2
        exact ⟨by rw [hsz]; exact hr.lt, by rw [cell_set_other (.inr (by simp)), cell_set_other (.inr (by simp))]; exact cell_set_same r0, by rw [cell_set_other (.inr (by simp))]; exact cell_set_same (by rw [cell_set_other (.inr (by simp))]; exact r1), cell_set_same (by rw [cell_set_other (.inr (by simp)), cell_set_other (.inr (by simp))]; exact r2)⟩ }⟩
    e5 := fun _ => ⟨k, e5, hk, hr.set3 _ _ _⟩
    e6 := fun q => by
      obtain ⟨k6, e, lo, lt, fz, ⟨v0, c0⟩, ⟨v1, c1⟩, ne⟩ := h.e6 q
      have hb := hot k6 (fun q => ne rfl (by rw [e5, q]))
      exact ⟨k6, e, lo, by rw [hsz]; exact lt, fun j => (World.frozen?_of_block hb).trans (fz j), ⟨v0, (World.cell?_of_block hb).trans c0⟩, ⟨v1, (World.cell?_of_block hb).trans c1⟩, ne⟩ }
theorem EdF.s12 {w : World} {B : Nat} {E : En} {a : Option Addr} {cap g S0 : Nat} {T : Int} {l8 l13 : Bool} {u5 u6 u7 u15 u16 u17 u18 u19 u20 u21 u22 u23 : Value} {x : World} {k : Nat} {E2 : En} {p2 : Prc} {f2 : Bool} {a2 : Option Addr} {cap2 g2 : Nat} (h : EdF w B E a cap g S0 T true true true true true true true true l8 true true true false l13 u5 u6 u7 u15 u16 u17 u18 u19 u20 u21 u22 u23 x) (e6 : u6 = .pointer (some ⟨k, 0, none⟩)) (hk : S0 ≤ k) (ne : true = true → u5 ≠ .pointer (some ⟨k, 0, none⟩)) (hq : PkQ S0 T E2 p2 f2 a2 cap2 g2 true true true l8 true true true l13 u5 u6 u7 u15 u20 u21 u22 u23 x) : EdF w B E a cap g S0 T true true true true true true true true l8 true true true true l13 u5 u6 u7 u15 u16 u17 u18 u19 u20 u21 u22 u23 ((x.setCell ⟨k, 0, none⟩ (.int .i64 p2.seq)).setCell ⟨k, 1, none⟩ (.int .i64 p2.amt)) := by
  have hB := h.de.hB
  have sW := h.sW
  have hS := h.sz
  have lt := h.de.lt
  obtain ⟨k', e', _, ltk, fz, ⟨v0, c0⟩, ⟨v1, c1⟩, _⟩ := h.e6 rfl
  rw [e6] at e'
  simp only [Value.pointer.injEq, Option.some.injEq, Addr.mk.injEq, and_true] at e'
  subst e'
  have hot : ∀ j, j ≠ k → (((x.setCell ⟨k, 0, none⟩ (.int .i64 p2.seq)).setCell ⟨k, 1, none⟩ (.int .i64 p2.amt))).heap[j]? = x.heap[j]? := fun j hj => (Below.heap_setCell _ _ _ _ hj).trans (Below.heap_setCell _ _ _ _ hj)
  have hsz : (((x.setCell ⟨k, 0, none⟩ (.int .i64 p2.seq)).setCell ⟨k, 1, none⟩ (.int .i64 p2.amt))).heap.size = x.heap.size := by simp [World.setCell]
  exact { h with
    de := h.de.move (Nat.le_of_eq hsz.symm) (rd_new (rd_new h.de.rd (by omega) _) (by omega) _) (apart_new (apart_new h.de.ap (by omega) _) (by omega) _) (hot _ (by omega)) (hot _ (by omega)) (fun q => hot _ (by have := h.gS q; omega))
    sz := by rw [hsz]; exact hS
    q20 := fun _ => ⟨E2, p2, f2, a2, cap2, g2, { hq with
      row := hq.row.keepB (fun q => hot _ (fun e => hq.n6 rfl q (by rw [e6, e])))
      st := fun q k2 e2 => by
        obtain ⟨lt, c0, c1, c2⟩ := hq.st q k2 e2
        have hb := hot k2 (fun q => ne rfl (by rw [e2, q]))
        exact ⟨by rw [hsz]; exact lt, (World.cell?_of_block hb).trans c0, (World.cell?_of_block hb).trans c1, (World.cell?_of_block hb).trans c2⟩ }⟩
    e5 := fun q => by
      obtain ⟨k5, e, lo, hr⟩ := h.e5 q
      exact ⟨k5, e, lo, hr.keep (hot _ (fun q => ne rfl (by rw [e, q]))) (Nat.le_of_eq hsz.symm)⟩
    e6 := fun _ => ⟨k, e6, hk, by rw [hsz]; exact ltk, fun j => by simp [fz], ⟨_, by rw [cell_set_other (.inr (by simp))]; exact cell_set_same c0⟩, ⟨_, cell_set_same (by rw [cell_set_other (.inr (by simp))]; exact c1)⟩, ne⟩ }
end Go.Proofs.Ytjmkppajfebidaa
