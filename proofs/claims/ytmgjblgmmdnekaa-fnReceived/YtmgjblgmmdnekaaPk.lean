/- What is packed, as data; the contract of the program's Packed. -/
import Derived.Test.YtmgjblgmmdnekaaAck
namespace Go.Proofs.Ytmgjblgmmdnekaa
open Go.ChangeShapes Go.WideShapes Go.ChangeAt Go.RowKit
set_option linter.unusedVariables false
def pkOk (E : En) (amt : Int) : Bool := endB E && inB 1 1000000000000 amt && !(E.out.length == 8) && !(E.sent == 1000000000)
def pkE (E : En) (amt : Int) : En := if pkOk E amt then ⟨E.out ++ [⟨E.sent + 1, amt⟩], E.sent + 1, E.got⟩ else ⟨[], 0, 0⟩
def pkP (E : En) (amt : Int) : Prc := if pkOk E amt then ⟨E.sent + 1, amt⟩ else ⟨0, 0⟩
/-- an end, a parcel and a flag -/
def EndPrc (E : En) (p : Prc) (b : Bool) (w : World) (e : Ending) (w' : World) : Prop := Below w.heap.size w w' ∧ ∃ v, e = .returned (.tuple #[.agg #[v, .int .i64 E.sent, .int .i64 E.got], .agg #[.int .i64 p.seq, .int .i64 p.amt], .bool b]) ∧ NewRow 2 prcCells E.out w v w'
theorem outL_put {l : List Prc} {sent got amt : Int} {room : List Prc} (q : endB ⟨l, sent, got⟩ = true) (h8 : l.length < 8) (hr : room.length = 8) (h : ∀ j (hj : j < l.length), room[plc l[j].seq]? = some l[j]) : outL (sent - (l.length : Int)) (sent + 1) (room.set (plc (sent + 1)) ⟨sent + 1, amt⟩) = l ++ [⟨sent + 1, amt⟩] := by
  have hn : (sent + 1 - (sent - (l.length : Int))).toNat = l.length + 1 := by omega
  apply List.ext_getElem
  · rw [outL_len, hn]; simp
  · intro i h1 h2
    have hi : i < l.length + 1 := by simpa using h2
    simp only [outL, List.getElem_map, List.getElem_range]
    by_cases hil : i < l.length
    · have e := ((endB_parts q).2.2.2 i hil).1
      simp only at e
      have hh := h i hil
      rw [e] at hh
      have hne : plc (sent + 1) ≠ plc (sent - (l.length : Int) + 1 + (i : Int)) := by unfold plc; omega
      rw [List.getElem?_set_ne hne, hh, List.getElem_append_left hil]
      rfl
    · have hie : i = l.length := by omega
      subst hie
      have e : sent - (l.length : Int) + 1 + (l.length : Int) = sent + 1 := by omega
      rw [e, List.getElem?_set_self (by rw [hr]; exact plc_lt _)]
      simp
structure PkAt (w : World) (v0 : Value) (sent got : Int) (x : World) : Prop where
  old : Below w.heap.size w x
  lt : w.heap.size + 3 ≤ x.heap.size
  e0 : x.cell? ⟨w.heap.size, 0, none⟩ = some v0
  e1 : x.cell? ⟨w.heap.size, 1, none⟩ = some (.int .i64 sent)
  e2 : x.cell? ⟨w.heap.size, 2, none⟩ = some (.int .i64 got)
  res : ResMid (w.heap.size + 1) x
  p0 : ∃ v, x.cell? ⟨w.heap.size + 2, 0, none⟩ = some v
  p1 : ∃ v, x.cell? ⟨w.heap.size + 2, 1, none⟩ = some v
  pf : ∀ j, x.frozen? ⟨w.heap.size + 2, j, none⟩ = false
theorem pk_start (w : World) (v0 : Value) (sent got : Int) : PkAt w v0 sent got (((w.alloc (.cells #[v0, .int .i64 sent, .int .i64 got] 26)).alloc (.cells #[.slice none 0 0, .int .i64 0, .int .i64 0] 26)).alloc (.cells #[.int .i64 0, .int .i64 0] 28)) := by
  have h := ack_start w v0 sent got
  obtain ⟨x, hx⟩ : ∃ x, x = (w.alloc (.cells #[v0, .int .i64 sent, .int .i64 got] 26)).alloc (.cells #[.slice none 0 0, .int .i64 0, .int .i64 0] 26) := ⟨_, rfl⟩
  have sx : x.heap.size = w.heap.size + 2 := by rw [hx]; simp
  rw [← hx] at h ⊢
  have b : Below x.heap.size x (x.alloc (.cells #[.int .i64 0, .int .i64 0] 28)) := (Below.refl _ _).alloc (Nat.le_refl _) _
  have k := h.next b
  have c0 : (x.alloc (.cells #[.int .i64 0, .int .i64 0] 28)).cell? ⟨x.heap.size, 0, none⟩ = some (.int .i64 0) := World.cell?_alloc_at _ _ _ _ rfl
  have c1 : (x.alloc (.cells #[.int .i64 0, .int .i64 0] 28)).cell? ⟨x.heap.size, 1, none⟩ = some (.int .i64 0) := World.cell?_alloc_at _ _ _ _ rfl
  have fz : ∀ j, (x.alloc (.cells #[.int .i64 0, .int .i64 0] 28)).frozen? ⟨x.heap.size, j, none⟩ = false := fun j => frozen_of_block (cur := #[.int .i64 0, .int .i64 0]) (e := 28) (by show (x.heap.push _)[x.heap.size]? = _; simp) j
  rw [sx] at c0 c1 fz
  exact ⟨k.old, by simp [sx], k.e0, k.e1, k.e2, k.res, ⟨_, c0⟩, ⟨_, c1⟩, fz⟩
theorem PkAt.on {w x y : World} {v0 : Value} {sent got : Int} (h : PkAt w v0 sent got x) {B : Nat} (hB : w.heap.size + 3 ≤ B) (b : Below B x y) : PkAt w v0 sent got y :=
  ⟨h.old.trans (b.mono (by omega)), Nat.le_trans h.lt b.size, (b.cell (by show w.heap.size < B; omega)).trans h.e0, (b.cell (by show w.heap.size < B; omega)).trans h.e1, (b.cell (by show w.heap.size < B; omega)).trans h.e2, h.res.keep (b.block _ (by omega)) b.size,
    by obtain ⟨v, hv⟩ := h.p0; exact ⟨v, (b.cell (by show w.heap.size + 2 < B; omega)).trans hv⟩, by obtain ⟨v, hv⟩ := h.p1; exact ⟨v, (b.cell (by show w.heap.size + 2 < B; omega)).trans hv⟩, fun j => (b.frozen (by show w.heap.size + 2 < B; omega)).trans (h.pf j)⟩
theorem PkAt.next {w x y : World} {v0 : Value} {sent got : Int} (h : PkAt w v0 sent got x) (b : Below x.heap.size x y) : PkAt w v0 sent got y := h.on h.lt b
theorem pk_set {w x : World} {E : En} {p : Prc} {v : Value} {fl : Bool} (hold : Below w.heap.size w x) (g : Nat) (a : Option Addr) (cap : Nat) (hg : w.heap.size + 3 ≤ g) (hv : v = .slice a E.out.length cap) (ho : OwnRow 2 prcCells x g a cap E.out) :
    EndPrc E p fl w (.returned (.tuple #[.agg #[v, .int .i64 E.sent, .int .i64 E.got], .agg #[.int .i64 p.seq, .int .i64 p.amt], .bool fl])) (((((x.setCell ⟨w.heap.size + 1, 0, none⟩ v).setCell ⟨w.heap.size + 1, 1, none⟩ (.int .i64 E.sent)).setCell ⟨w.heap.size + 1, 2, none⟩ (.int .i64 E.got)).setCell ⟨w.heap.size + 2, 0, none⟩ (.int .i64 p.seq)).setCell ⟨w.heap.size + 2, 1, none⟩ (.int .i64 p.amt)) := by
  have h1 : w.heap.size ≤ w.heap.size + 1 := by omega
  have h2 : w.heap.size ≤ w.heap.size + 2 := by omega
  exact ⟨((((hold.setCell (p := ⟨w.heap.size + 1, 0, none⟩) h1 _).setCell (p := ⟨w.heap.size + 1, 1, none⟩) h1 _).setCell (p := ⟨w.heap.size + 1, 2, none⟩) h1 _).setCell (p := ⟨w.heap.size + 2, 0, none⟩) h2 _).setCell (p := ⟨w.heap.size + 2, 1, none⟩) h2 _, v, rfl, g, a, cap, by omega, hv,
    (ho.turned ((((Turned.refl (w.heap.size + 1) x).setCell _).setCell _).setCell _) (fun _ => by omega)).turned (((Turned.refl (w.heap.size + 2) _).setCell _).setCell _) (fun _ => by omega)⟩
theorem pk_zero {w x : World} {fl : Bool} (hold : Below w.heap.size w x) :
    EndPrc ⟨[], 0, 0⟩ ⟨0, 0⟩ fl w (.returned (.tuple #[.agg #[.slice none 0 0, .int .i64 0, .int .i64 0], .agg #[.int .i64 0, .int .i64 0], .bool fl])) (((((x.setCell ⟨w.heap.size + 1, 0, none⟩ (.slice none 0 0)).setCell ⟨w.heap.size + 1, 1, none⟩ (.int .i64 0)).setCell ⟨w.heap.size + 1, 2, none⟩ (.int .i64 0)).setCell ⟨w.heap.size + 2, 0, none⟩ (.int .i64 0)).setCell ⟨w.heap.size + 2, 1, none⟩ (.int .i64 0)) :=
  pk_set (E := ⟨[], 0, 0⟩) (p := ⟨0, 0⟩) hold (w.heap.size + 3) none 0 (Nat.le_refl _) rfl (OwnRow.nil (fun _ => rfl))
/-- cells that the last region reads -/
abbrev SPk (s p : Nat) (got sq amt : Int) (x : World) : Prop := x.cell? ⟨s, 2, none⟩ = some (.int .i64 got) ∧ x.cell? ⟨p, 0, none⟩ = some (.int .i64 sq) ∧ x.cell? ⟨p, 1, none⟩ = some (.int .i64 amt)
theorem SPk.on {s p : Nat} {got sq amt : Int} {x y : World} (h : SPk s p got sq amt x) (hp : s + 3 ≤ p) (hx : p < x.heap.size) (b : Below x.heap.size x y) : SPk s p got sq amt y :=
  ⟨(b.cell (by show s < _; omega)).trans h.1, (b.cell (by show p < _; omega)).trans h.2.1, (b.cell (by show p < _; omega)).trans h.2.2⟩
theorem SPk.set {s p : Nat} {got sq amt : Int} {x : World} (h : SPk s p got sq amt x) (hp : s + 3 ≤ p) {a b c : Value} : SPk s p got sq amt (((x.setCell ⟨s + 1, 0, none⟩ a).setCell ⟨s + 1, 1, none⟩ b).setCell ⟨s + 1, 2, none⟩ c) := by
  refine ⟨?_, ?_, ?_⟩ <;> rw [cell_set_other (.inl (by omega)), cell_set_other (.inl (by omega)), cell_set_other (.inl (by omega))]
  · exact h.1
  · exact h.2.1
  · exact h.2.2
theorem SPk.set2 {s p : Nat} {got sq amt : Int} {x : World} (h : SPk s p got sq amt x) (hp : s + 3 ≤ p) {a b : Value} : SPk s p got sq amt ((x.setCell ⟨s + 1 + 1, 0, none⟩ a).setCell ⟨s + 1 + 1, 1, none⟩ b) := by
  refine ⟨?_, ?_, ?_⟩ <;> rw [cell_set_other (.inl (by omega)), cell_set_other (.inl (by omega))]
  · exact h.1
  · exact h.2.1
  · exact h.2.2
theorem pkE_no {E : En} {amt : Int} (h : pkOk E amt = false) : pkE E amt = ⟨[], 0, 0⟩ := by simp [pkE, h]
theorem pkP_no {E : En} {amt : Int} (h : pkOk E amt = false) : pkP E amt = ⟨0, 0⟩ := by simp [pkP, h]
end Go.Proofs.Ytmgjblgmmdnekaa
