/- The contracts of the laws' szLedger and its parts. -/
import Derived.Test.YtjjoeajnhblacaaGreatDoorGc
namespace Go.Proofs.YtjjoeajnhblacaaGreatDoor
open Go.ChangeShapes Go.WideShapes Go.ChangeAt Go.RowKit
set_option linter.unusedVariables false
set_option maxRecDepth 100000
/-- some number, at most what was left -/
def SzEnd (left : Int) (n : Nat) (w : World) (e : Ending) (w' : World) : Prop := Below w.heap.size w w' ∧ ∃ r : Int, e = .returned (.int .i64 r) ∧ -1 ≤ r ∧ (0 ≤ r → r + n ≤ left)
theorem box_on {w a b : World} {o : Obj} (h : Below (w.heap.size + 1) (w.alloc o) a) (k : Below a.heap.size a b) : Below (w.heap.size + 1) (w.alloc o) b :=
  h.trans (k.mono (by have := h.size; simpa using this))
theorem box_old {w wr : World} {o : Obj} (h : Below (w.heap.size + 1) (w.alloc o) wr) : Below w.heap.size w wr :=
  (below_alloc (Below.refl _ _) o).trans (h.mono (by omega))
/-- a great ledger has no room; else its lists are short -/
def SzLed (L : Led) (w : World) (e : Ending) (w' : World) : Prop := Below w.heap.size w w' ∧ ∃ r : Int, e = .returned (.int .i64 r) ∧ (0 ≤ r → L.acc.length ≤ 1048576 ∧ L.hold.length ≤ 1048576 ∧ L.seen.length ≤ 1048576)
end Go.Proofs.YtjjoeajnhblacaaGreatDoor
/- The contracts of the laws' toLedger and its parts. -/
namespace Go.Proofs.YtjjoeajnhblacaaGreatDoor
open Go.ChangeShapes Go.WideShapes Go.ChangeAt Go.RowKit
set_option linter.unusedVariables false
set_option maxRecDepth 100000
theorem info44 : (Tryz.prog.info? 37).map (fun i => (i.zero, i.size, i.bytes)) = some (some (.agg #[.string ByteArray.empty, .string ByteArray.empty, .int .i64 0, .int .i64 0]), 4, 48) := by kernel_rfl
theorem rowMid_made {w x : World} {e : TypeId} {n size : Nat} {xs : List Value} {cells : Nat → List Value} (h : x.ownsRow w.heap.size e size (.slice (some ⟨w.heap.size, 0, none⟩) n n) n xs) : RowMid w.heap.size n size cells 0 x := by
  obtain ⟨hl, ⟨h0, _⟩ | ⟨g, cap, cur, h1, hb, hg, hn, hc, hz, ht⟩⟩ := h
  · cases h0
  · simp only [Value.slice.injEq, Option.some.injEq, Addr.mk.injEq, and_true, true_and] at h1
    obtain ⟨rfl, rfl⟩ := h1
    refine ⟨(Array.getElem?_eq_some_iff.1 hg).1, fun j hj => ?_, frozen_of_block hg, fun i r hi => by omega⟩
    have hj' : j < cur.size := by rw [hz]; exact hj
    exact ⟨cur[j], by simp [World.cell?, hg, Array.getElem?_eq_getElem hj']⟩
theorem toAccount_parts {w : World} {a : Option Addr} {l : List Acc} (h : AccAt w a l) : ∀ x ∈ l, x.name.size ≤ maxLen ∧ x.cur.size ≤ maxLen ∧ I64 x.limit ∧ I64 x.posted := fun x hx => by
  obtain ⟨i, hi, rfl⟩ := List.getElem_of_mem hx
  obtain ⟨_, _, _, _, _, _, _, _, r⟩ := h i hi
  exact r
theorem toAccount_done {g n : Nat} {l : List Acc} {x : World} (h : RowMid g n 4 (fun i => (l[i]?).elim [] accCells) l.length x) (hs : ∀ x ∈ l, x.name.size ≤ maxLen ∧ x.cur.size ≤ maxLen ∧ I64 x.limit ∧ I64 x.posted) : AccAt x (some ⟨g, 0, none⟩) l := fun i hi => by
  have hd : ∀ r, r < 4 → x.cell? ⟨g, 0 + i * 4 + r, none⟩ = ((l[i]?).elim [] accCells)[r]? := fun r hr => by rw [Nat.zero_add]; exact h.done i r hi hr
  exact ⟨g, 0, rfl, h.lt, by have := hd 0 (by decide); simpa [accCells, List.getElem?_eq_getElem hi] using this, by have := hd 1 (by decide); simpa [accCells, List.getElem?_eq_getElem hi] using this, by have := hd 2 (by decide); simpa [accCells, List.getElem?_eq_getElem hi] using this, by have := hd 3 (by decide); simpa [accCells, List.getElem?_eq_getElem hi] using this, hs _ (List.getElem_mem hi)⟩
/-- a row of the call's own that reads as the list -/
def ToAccount (l : List Acc) (w : World) (e : Ending) (w' : World) : Prop := Below w.heap.size w w' ∧ ∃ g, w.heap.size ≤ g ∧ e = .returned (.slice (some ⟨g, 0, none⟩) l.length l.length) ∧ AccAt w' (some ⟨g, 0, none⟩) l
theorem toHold_parts {w : World} {a : Option Addr} {l : List Hld} (h : HoldAt w a l) : ∀ x ∈ l, x.fr.size ≤ maxLen ∧ x.to.size ≤ maxLen ∧ I64 x.id ∧ I64 x.amount := fun x hx => by
  obtain ⟨i, hi, rfl⟩ := List.getElem_of_mem hx
  obtain ⟨_, _, _, _, _, _, _, _, r⟩ := h i hi
  exact r
theorem toHold_done {g n : Nat} {l : List Hld} {x : World} (h : RowMid g n 4 (fun i => (l[i]?).elim [] hldCells) l.length x) (hs : ∀ x ∈ l, x.fr.size ≤ maxLen ∧ x.to.size ≤ maxLen ∧ I64 x.id ∧ I64 x.amount) : HoldAt x (some ⟨g, 0, none⟩) l := fun i hi => by
  have hd : ∀ r, r < 4 → x.cell? ⟨g, 0 + i * 4 + r, none⟩ = ((l[i]?).elim [] hldCells)[r]? := fun r hr => by rw [Nat.zero_add]; exact h.done i r hi hr
  exact ⟨g, 0, rfl, h.lt, by have := hd 0 (by decide); simpa [hldCells, List.getElem?_eq_getElem hi] using this, by have := hd 1 (by decide); simpa [hldCells, List.getElem?_eq_getElem hi] using this, by have := hd 2 (by decide); simpa [hldCells, List.getElem?_eq_getElem hi] using this, by have := hd 3 (by decide); simpa [hldCells, List.getElem?_eq_getElem hi] using this, hs _ (List.getElem_mem hi)⟩
/-- a row of the call's own that reads as the list -/
def ToHold (l : List Hld) (w : World) (e : Ending) (w' : World) : Prop := Below w.heap.size w w' ∧ ∃ g, w.heap.size ≤ g ∧ e = .returned (.slice (some ⟨g, 0, none⟩) l.length l.length) ∧ HoldAt w' (some ⟨g, 0, none⟩) l
theorem toAnswered_parts {w : World} {a : Option Addr} {l : List Sn} (h : AnsAt w a l) : ∀ x ∈ l, I64 x.id ∧ I64 x.code := fun x hx => by
  obtain ⟨i, hi, rfl⟩ := List.getElem_of_mem hx
  obtain ⟨_, _, _, _, _, _, r⟩ := h i hi
  exact r
theorem toAnswered_done {g n : Nat} {l : List Sn} {x : World} (h : RowMid g n 2 (fun i => (l[i]?).elim [] snCells) l.length x) (hs : ∀ x ∈ l, I64 x.id ∧ I64 x.code) : AnsAt x (some ⟨g, 0, none⟩) l := fun i hi => by
  have hd : ∀ r, r < 2 → x.cell? ⟨g, 0 + i * 2 + r, none⟩ = ((l[i]?).elim [] snCells)[r]? := fun r hr => by rw [Nat.zero_add]; exact h.done i r hi hr
  exact ⟨g, 0, rfl, h.lt, by have := hd 0 (by decide); simpa [snCells, List.getElem?_eq_getElem hi] using this, by have := hd 1 (by decide); simpa [snCells, List.getElem?_eq_getElem hi] using this, hs _ (List.getElem_mem hi)⟩
/-- a row of the call's own that reads as the list -/
def ToAnswered (l : List Sn) (w : World) (e : Ending) (w' : World) : Prop := Below w.heap.size w w' ∧ ∃ g, w.heap.size ≤ g ∧ e = .returned (.slice (some ⟨g, 0, none⟩) l.length l.length) ∧ AnsAt w' (some ⟨g, 0, none⟩) l
/-- toLedger's state -/
structure LedMid (w : World) (va vh vs v0 v1 v2 : Value) (x : World) : Prop where
  lt : w.heap.size + 1 + 1 < x.heap.size
  old : Below w.heap.size w x
  a0 : x.cell? ⟨w.heap.size, 0, none⟩ = some va
  a1 : x.cell? ⟨w.heap.size, 1, none⟩ = some vh
  a2 : x.cell? ⟨w.heap.size, 2, none⟩ = some vs
  r : ∀ j, j < 3 → ∃ v, x.cell? ⟨w.heap.size + 1, j, none⟩ = some v
  c0 : x.cell? ⟨w.heap.size + 1 + 1, 0, none⟩ = some v0
  c1 : x.cell? ⟨w.heap.size + 1 + 1, 1, none⟩ = some v1
  c2 : x.cell? ⟨w.heap.size + 1 + 1, 2, none⟩ = some v2
  f1 : ∀ j, x.frozen? ⟨w.heap.size + 1, j, none⟩ = false
  f2 : ∀ j, x.frozen? ⟨w.heap.size + 1 + 1, j, none⟩ = false
theorem LedMid.below {w : World} {va vh vs v0 v1 v2 : Value} {x y : World} (h : LedMid w va vh vs v0 v1 v2 x) (b : Below x.heap.size x y) : LedMid w va vh vs v0 v1 v2 y := by
  have hlt := h.lt
  have l0 : w.heap.size < x.heap.size := by omega
  have l1 : w.heap.size + 1 < x.heap.size := by omega
  exact ⟨Nat.lt_of_lt_of_le h.lt b.size, below_trans h.old b, (b.cell l0).trans h.a0, (b.cell l0).trans h.a1, (b.cell l0).trans h.a2, fun j hj => by obtain ⟨v, hv⟩ := h.r j hj; exact ⟨v, (b.cell l1).trans hv⟩,
    (b.cell hlt).trans h.c0, (b.cell hlt).trans h.c1, (b.cell hlt).trans h.c2, fun j => (b.frozen l1).trans (h.f1 j), fun j => (b.frozen hlt).trans (h.f2 j)⟩
theorem LedMid.set0 {w : World} {va vh vs v0 v1 v2 : Value} {x : World} (h : LedMid w va vh vs v0 v1 v2 x) (u : Value) : LedMid w va vh vs u v1 v2 (x.setCell ⟨w.heap.size + 1 + 1, 0, none⟩ u) :=
  ⟨by rw [size_setCell]; exact h.lt, h.old.setCell (by show w.heap.size ≤ w.heap.size + 1 + 1; omega) _, by rw [cell_set_other (.inl (by omega))]; exact h.a0, by rw [cell_set_other (.inl (by omega))]; exact h.a1, by rw [cell_set_other (.inl (by omega))]; exact h.a2, fun j hj => by rw [cell_set_other (.inl (by omega))]; exact h.r j hj,
    cell_set_same h.c0, by rw [cell_set_other (.inr (by omega))]; exact h.c1, by rw [cell_set_other (.inr (by omega))]; exact h.c2, fun j => by rw [frozen_set]; exact h.f1 j, fun j => by rw [frozen_set]; exact h.f2 j⟩
theorem LedMid.set1 {w : World} {va vh vs v0 v1 v2 : Value} {x : World} (h : LedMid w va vh vs v0 v1 v2 x) (u : Value) : LedMid w va vh vs v0 u v2 (x.setCell ⟨w.heap.size + 1 + 1, 1, none⟩ u) :=
  ⟨by rw [size_setCell]; exact h.lt, h.old.setCell (by show w.heap.size ≤ w.heap.size + 1 + 1; omega) _, by rw [cell_set_other (.inl (by omega))]; exact h.a0, by rw [cell_set_other (.inl (by omega))]; exact h.a1, by rw [cell_set_other (.inl (by omega))]; exact h.a2, fun j hj => by rw [cell_set_other (.inl (by omega))]; exact h.r j hj,
    by rw [cell_set_other (.inr (by omega))]; exact h.c0, cell_set_same h.c1, by rw [cell_set_other (.inr (by omega))]; exact h.c2, fun j => by rw [frozen_set]; exact h.f1 j, fun j => by rw [frozen_set]; exact h.f2 j⟩
theorem LedMid.set2 {w : World} {va vh vs v0 v1 v2 : Value} {x : World} (h : LedMid w va vh vs v0 v1 v2 x) (u : Value) : LedMid w va vh vs v0 v1 u (x.setCell ⟨w.heap.size + 1 + 1, 2, none⟩ u) :=
  ⟨by rw [size_setCell]; exact h.lt, h.old.setCell (by show w.heap.size ≤ w.heap.size + 1 + 1; omega) _, by rw [cell_set_other (.inl (by omega))]; exact h.a0, by rw [cell_set_other (.inl (by omega))]; exact h.a1, by rw [cell_set_other (.inl (by omega))]; exact h.a2, fun j hj => by rw [cell_set_other (.inl (by omega))]; exact h.r j hj,
    by rw [cell_set_other (.inr (by omega))]; exact h.c0, by rw [cell_set_other (.inr (by omega))]; exact h.c1, cell_set_same h.c2, fun j => by rw [frozen_set]; exact h.f1 j, fun j => by rw [frozen_set]; exact h.f2 j⟩
theorem AccAt.set {w : World} {g o : Nat} {l : List Acc} {b : Nat} {u : Value} (h : AccAt w (some ⟨g, 0, none⟩) l) (hne : b ≠ g) : AccAt (w.setCell ⟨b, o, none⟩ u) (some ⟨g, 0, none⟩) l := fun i hi => by
  obtain ⟨b', off, e, hb, h0, h1, h2, h3, r⟩ := h i hi
  cases e
  exact ⟨g, 0, rfl, by rw [size_setCell]; exact hb, by rw [cell_set_other (.inl hne)]; exact h0, by rw [cell_set_other (.inl hne)]; exact h1, by rw [cell_set_other (.inl hne)]; exact h2, by rw [cell_set_other (.inl hne)]; exact h3, r⟩
theorem HoldAt.set {w : World} {g o : Nat} {l : List Hld} {b : Nat} {u : Value} (h : HoldAt w (some ⟨g, 0, none⟩) l) (hne : b ≠ g) : HoldAt (w.setCell ⟨b, o, none⟩ u) (some ⟨g, 0, none⟩) l := fun i hi => by
  obtain ⟨b', off, e, hb, h0, h1, h2, h3, r⟩ := h i hi
  cases e
  exact ⟨g, 0, rfl, by rw [size_setCell]; exact hb, by rw [cell_set_other (.inl hne)]; exact h0, by rw [cell_set_other (.inl hne)]; exact h1, by rw [cell_set_other (.inl hne)]; exact h2, by rw [cell_set_other (.inl hne)]; exact h3, r⟩
theorem AnsAt.set {w : World} {g o : Nat} {l : List Sn} {b : Nat} {u : Value} (h : AnsAt w (some ⟨g, 0, none⟩) l) (hne : b ≠ g) : AnsAt (w.setCell ⟨b, o, none⟩ u) (some ⟨g, 0, none⟩) l := fun i hi => by
  obtain ⟨b', off, e, hb, h0, h1, r⟩ := h i hi
  cases e
  exact ⟨g, 0, rfl, by rw [size_setCell]; exact hb, by rw [cell_set_other (.inl hne)]; exact h0, by rw [cell_set_other (.inl hne)]; exact h1, r⟩
theorem three_set {X : World} {b : Nat} {u0 u1 u2 t0 t1 t2 : Value} (h0 : X.cell? ⟨b, 0, none⟩ = some t0) (h1 : X.cell? ⟨b, 1, none⟩ = some t1) (h2 : X.cell? ⟨b, 2, none⟩ = some t2) :
    (((X.setCell ⟨b, 0, none⟩ u0).setCell ⟨b, 1, none⟩ u1).setCell ⟨b, 2, none⟩ u2).cell? ⟨b, 0, none⟩ = some u0 ∧ (((X.setCell ⟨b, 0, none⟩ u0).setCell ⟨b, 1, none⟩ u1).setCell ⟨b, 2, none⟩ u2).cell? ⟨b, 1, none⟩ = some u1 ∧ (((X.setCell ⟨b, 0, none⟩ u0).setCell ⟨b, 1, none⟩ u1).setCell ⟨b, 2, none⟩ u2).cell? ⟨b, 2, none⟩ = some u2 := by
  refine ⟨?_, ?_, ?_⟩
  · rw [cell_set_other (.inr (by omega)), cell_set_other (.inr (by omega))]; exact cell_set_same h0
  · rw [cell_set_other (.inr (by omega))]; exact cell_set_same (by rw [cell_set_other (.inr (by omega))]; exact h1)
  · exact cell_set_same (by rw [cell_set_other (.inr (by omega)), cell_set_other (.inr (by omega))]; exact h2)
def ToLed (L : Led) (w : World) (e : Ending) (w' : World) : Prop := Below w.heap.size w w' ∧ ∃ a h s, e = .returned (.agg #[.slice a L.acc.length L.acc.length, .slice h L.hold.length L.hold.length, .slice s L.seen.length L.seen.length]) ∧ LedAt w' a h s L
end Go.Proofs.YtjjoeajnhblacaaGreatDoor
