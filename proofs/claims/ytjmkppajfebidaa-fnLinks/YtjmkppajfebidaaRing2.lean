/- The ring's methods: full, put, drop. -/
import Derived.Test.YtjmkppajfebidaaRing
namespace Go.Proofs.Ytjmkppajfebidaa
open Go.ChangeShapes Go.WideShapes Go.ChangeAt Go.RowKit
set_option linter.unusedVariables false
def fullB (acked sent : Int) : Bool := sent - acked == 8
set_option maxRecDepth 100000 in
set_option maxHeartbeats 2000000 in
theorem full_any (R : Nat) (acked sent : Int) (room : List Prc) (w : World) (h : RingAt w R acked sent room) (hs : 0 ≤ sent ∧ sent ≤ 1000000000) (ha : 0 ≤ acked ∧ acked ≤ 1000000000) :
    Calls Try.prog 18 #[.pointer (some ⟨R, 0, none⟩)] w fun e w' => e = .returned (.bool (fullB acked sent)) ∧ Below w.heap.size w w' := by
  have c1 := h.ack
  have c2 := h.snt
  obtain ⟨s0, s1⟩ := hs
  obtain ⟨a0, a1⟩ := ha
  clear h
  go_enter Try.func18, Try.ntmps18
  go_wp2_with fail
  go_quiet (fail)
  go_wp2
  go_ret
  exact ⟨rfl, below_drewN (Below.refl _ _) _⟩
def PutEnd (R : Nat) (acked sent : Int) (room : List Prc) (amt : Int) (w : World) (e : Ending) (w' : World) : Prop := e = .returned (.agg #[.int .i64 (sent + 1), .int .i64 amt]) ∧ Below R w w' ∧ RingAt w' R acked (sent + 1) (room.set (plc (sent + 1)) ⟨sent + 1, amt⟩)
theorem RingAt.sent {w : World} {R : Nat} {acked sent : Int} {room : List Prc} (h : RingAt w R acked sent room) (s : Int) : RingAt (w.setCell ⟨R, 17, none⟩ (.int .i64 s)) R acked s room := by
  refine ⟨h.len, ⟨fun i hi => ?_, fun h0 => ⟨rfl, fun j => by rw [frozen_set]; exact h.free j⟩, h.row.room, h.row.nocap⟩, ?_, cell_set_same h.snt, by rw [size_setCell]; exact h.lt, fun j => by rw [frozen_set]; exact h.free j⟩
  · obtain ⟨b, off, e, hb, hc⟩ := h.row.rows i hi
    have e' := e
    simp only [Option.some.injEq, Addr.mk.injEq, and_true] at e'
    obtain ⟨rfl, rfl⟩ := e'
    refine ⟨R, 0, rfl, by rw [size_setCell]; exact hb, fun r v hv => ?_⟩
    have hr : r < 2 := by rw [← prcLen room[i]]; exact (List.getElem?_eq_some_iff.1 hv).1
    have hl := h.len
    rw [cell_set_other (.inr (by omega))]
    exact hc r v hv
  · rw [cell_set_other (.inr (by omega))]; exact h.ack
theorem RingAt.acked {w : World} {R : Nat} {acked sent : Int} {room : List Prc} (h : RingAt w R acked sent room) (s : Int) : RingAt (w.setCell ⟨R, 16, none⟩ (.int .i64 s)) R s sent room := by
  refine ⟨h.len, ⟨fun i hi => ?_, fun h0 => ⟨rfl, fun j => by rw [frozen_set]; exact h.free j⟩, h.row.room, h.row.nocap⟩, cell_set_same h.ack, ?_, by rw [size_setCell]; exact h.lt, fun j => by rw [frozen_set]; exact h.free j⟩
  · obtain ⟨b, off, e, hb, hc⟩ := h.row.rows i hi
    have e' := e
    simp only [Option.some.injEq, Addr.mk.injEq, and_true] at e'
    obtain ⟨rfl, rfl⟩ := e'
    refine ⟨R, 0, rfl, by rw [size_setCell]; exact hb, fun r v hv => ?_⟩
    have hr : r < 2 := by rw [← prcLen room[i]]; exact (List.getElem?_eq_some_iff.1 hv).1
    have hl := h.len
    rw [cell_set_other (.inr (by omega))]
    exact hc r v hv
  · rw [cell_set_other (.inr (by omega))]; exact h.snt
set_option maxRecDepth 100000 in
set_option maxHeartbeats 4000000 in
theorem put_any (R : Nat) (acked sent amt : Int) (room : List Prc) (w : World) (h : RingAt w R acked sent room) (hs : 0 ≤ sent ∧ sent ≤ 1000000000) :
    Calls Try.prog 19 #[.pointer (some ⟨R, 0, none⟩), .int .i64 amt] w fun e w' => PutEnd R acked sent room amt w e w' := by
  obtain ⟨s0, s1⟩ := hs
  have HR : Hid _ := hide h
  have hlt := h.lt
  have c2 := h.snt
  have f2 := h.free 17
  have hqe := plc_eq (s := sent + 1) (by omega)
  have hq8 := plc_lt (sent + 1)
  obtain ⟨⟨u0, r0⟩, ⟨u1, r1⟩⟩ := h.there (plc (sent + 1)) hq8
  have z0 := h.free (plc (sent + 1) * 2)
  have z1 := h.free (plc (sent + 1) * 2 + 1)
  have HP : Hid _ := hide ((h.sent (sent + 1)).put (plc (sent + 1)) hq8 ⟨sent + 1, amt⟩)
  have HQN : Hid (∀ x, PutEnd R acked sent room amt w (.returned (.agg #[.int .i64 (sent + 1), .int .i64 amt])) x ↔ Below R w x ∧ RingAt x R acked (sent + 1) (room.set (plc (sent + 1)) ⟨sent + 1, amt⟩)) := hide (fun x => ⟨fun g => g.2, fun g => ⟨rfl, g⟩⟩)
  clear h
  generalize plc (sent + 1) = qn at *
  have hn0 : ¬ (17 = qn * 2) := by omega
  have hn1 : ¬ (17 = qn * 2 + 1) := by omega
  go_enter Try.func19, Try.ntmps19
  go_wp2_with fail
  go_region
  go_wp2
  refine bodyPost_ret (v := .agg #[.int .i64 (sent + 1), .int .i64 amt]) (by simp [results, Try.results19, go_sem]) rfl ((HQN.out _).2 ⟨?_, ?_⟩)
  · exact (((((((Below.refl R w).setCell (Nat.le_refl _) _).setCell (Nat.le_refl _) _).setCell (Nat.le_refl _) _).alloc (by simp; omega) _).alloc (by simp; omega) _)).drew
  · exact HP.out.below ((below_alloc (below_alloc (Below.refl _ _) _) _).drew)
def DropEnd (R : Nat) (acked sent seq : Int) (room : List Prc) (w : World) (e : Ending) (w' : World) : Prop := e = .returned (.tuple #[]) ∧ Below R w w' ∧ w'.heap.size = w.heap.size ∧ RingAt w' R (max acked seq) sent room
set_option maxRecDepth 100000 in
set_option maxHeartbeats 4000000 in
theorem drop_any (R : Nat) (acked sent seq : Int) (room : List Prc) (w : World) (h : RingAt w R acked sent room) :
    Calls Try.prog 25 #[.pointer (some ⟨R, 0, none⟩), .int .i64 seq] w fun e w' => DropEnd R acked sent seq room w e w' := by
  have c1 := h.ack
  have f1 := h.free 16
  have HP : Hid _ := hide (h.acked (max acked seq))
  have HB : Hid _ := hide ((Below.refl R w).setCell (p := ⟨R, 16, none⟩) (Nat.le_refl _) (.int .i64 (max acked seq)))
  clear h
  by_cases hm : acked < seq
  · have em : max acked seq = seq := by omega
    rw [em] at HP HB
    have HE : Hid (DropEnd R acked sent seq room w (.returned (.tuple #[])) (w.setCell ⟨R, 16, none⟩ (.int .i64 seq))) := hide ⟨rfl, HB.out, by simp, by rw [em]; exact HP.out⟩
    clear em
    go_enter Try.func25, Try.ntmps25
    go_wp2
    go_end0
    exact HE.out
  · have em : max acked seq = acked := by omega
    rw [em] at HP HB
    have HE : Hid (DropEnd R acked sent seq room w (.returned (.tuple #[])) (w.setCell ⟨R, 16, none⟩ (.int .i64 acked))) := hide ⟨rfl, HB.out, by simp, by rw [em]; exact HP.out⟩
    clear em
    go_enter Try.func25, Try.ntmps25
    go_wp2
    go_end0
    exact HE.out
/-- what an end has open, told from the ring -/
def outL (acked sent : Int) (room : List Prc) : List Prc := (List.range (sent - acked).toNat).map fun (i : Nat) => (room[plc (acked + 1 + (i : Int))]?).getD ⟨0, 0⟩
theorem outL_len (acked sent : Int) (room : List Prc) : (outL acked sent room).length = (sent - acked).toNat := by simp [outL]
theorem outL_at (acked sent : Int) (room : List Prc) (k : Nat) (hk : k < (sent - acked).toNat) : (outL acked sent room).take (k + 1) = (outL acked sent room).take k ++ [(room[plc (acked + 1 + (k : Int))]?).getD ⟨0, 0⟩] := by
  rw [take_next _ k (by rw [outL_len]; exact hk)]
  simp [outL]
theorem row_shape {w : World} {base : Nat} {e : TypeId} {size : Nat} {v : Value} {n : Nat} {xs : List Value} (h : w.ownsRow base e size v n xs) : ∃ a c, v = .slice a n c := by
  obtain ⟨_, ⟨h0, h1⟩ | ⟨g, cap, cur, h1, _⟩⟩ := h
  · exact ⟨none, 0, by rw [h0, h1]⟩
  · exact ⟨_, _, h1⟩
/-- the block of the end that is built -/
structure EndMid (w : World) (k : Nat) (sent got : Int) (v : Value) (xs : List Value) (x : World) : Prop where
  old : Below w.heap.size w x
  lt : w.heap.size + 1 < x.heap.size
  c0 : x.cell? ⟨w.heap.size + 1, 0, none⟩ = some v
  c1 : x.cell? ⟨w.heap.size + 1, 1, none⟩ = some (.int .i64 sent)
  c2 : x.cell? ⟨w.heap.size + 1, 2, none⟩ = some (.int .i64 got)
  f : ∀ j, x.frozen? ⟨w.heap.size + 1, j, none⟩ = false
  own : x.ownsRow (w.heap.size + 2) 30 2 v k xs
end Go.Proofs.Ytjmkppajfebidaa
