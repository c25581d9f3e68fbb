/- The ring: how it lies in memory; append as a step of a region that draws; ringOf. -/
import Derived.Test.YtjmkppajfebidaaOf
import Derived.Test.YtjmkppajfebidaaTo
import Derived.Deep.RegionHeld
import Derived.Deep.RegionLaw
namespace Go.Proofs.Ytjmkppajfebidaa
open Go.ChangeShapes Go.WideShapes Go.ChangeAt Go.RowKit
set_option linter.unusedVariables false
theorem step_append_own {P : Program} {ops : Array Oper} {o : Oper} {a : Act} {w : World} {K : Act → World → Prop} {Q : Exit → Act → World → Prop} {E : Prop}
    (hg : o.guard = none) (s x : Operand) (t : TypeId) (hop : o.op = Op.call { callee := Callee.builtin Builtin.append, args := #[s, x], argTypes := #[t, t] })
    (base : Nat) (e : TypeId) (i : TypeInfo) (z : Value) (size bytes : Nat) (h1 : P.underlying t = some (.slice e)) (h2 : P.info? e = some i) (h3 : i.zero = some z) (h4 : i.size = size) (h5 : i.bytes = bytes) (h6 : z.cells.size = size) (h7 : 0 < size)
    (v : Value) (n : Nat) (xs : List Value) (hs : a.eval s = v) (hown : w.ownsRow base e size v n xs)
    (ad : Addr) (m c : Nat) (news : List Value) (hx : a.eval x = .slice (some ad) m c) (hn : news.length = m * size) (hc : ∀ j u, news[j]? = some u → w.cell? (ad.add j) = some u) (h1c : ∀ u ∈ news, u.oneCell' = true)
    (b1 : n + m ≤ maxLen) (b2 : (n + m) * bytes ≤ 140737488355328) (hbase : base ≤ w.heap.size)
    (hK : ∀ v' w', w'.ownsRow base e size v' (n + m) (xs ++ news) → w.grownBy w' v.ownBlock → K (a.put o.dst v') w') :
    if Region.wanted o (yielded ops a.tmps) = true then Oper.wp P o a w K Q else E := by
  have hw : Region.wanted o (yielded ops a.tmps) = true := by simp [Region.wanted, hg]
  rw [if_pos hw]
  obtain ⟨v', w', hr, r1, r2, _, _⟩ := run_append_own_at (P := P) w base t o.type e i z size bytes h1 h2 h3 h4 h5 h6 h7 v n xs hown ad m c news hn hc h1c b1 b2 hbase
  unfold Oper.wp execOp
  simp only [hop, resolve, invoke, builtin, Sem.run_bind, Sem.run_pure, Result.andThen_ok, List.map_toArray, List.map_cons, List.map_nil, hs, hx, hr]
  exact hK v' w' r1 r2
/-- a ring: eight places, what was acknowledged, what was sent -/
structure RingAt (w : World) (R : Nat) (acked sent : Int) (room : List Prc) : Prop where
  len : room.length = 8
  row : OwnRow 2 prcCells w R (some ⟨R, 0, none⟩) 8 room
  ack : w.cell? ⟨R, 16, none⟩ = some (.int .i64 acked)
  snt : w.cell? ⟨R, 17, none⟩ = some (.int .i64 sent)
  lt : R < w.heap.size
  free : ∀ j, w.frozen? ⟨R, j, none⟩ = false
theorem RingAt.below {w w' : World} {R : Nat} {acked sent : Int} {room : List Prc} (h : RingAt w R acked sent room) (b : Below w.heap.size w w') : RingAt w' R acked sent room :=
  ⟨h.len, h.row.below b, (b.cell h.lt).trans h.ack, (b.cell h.lt).trans h.snt, Nat.lt_of_lt_of_le h.lt b.size, fun j => (b.frozen h.lt).trans (h.free j)⟩
theorem RingAt.place {w : World} {R : Nat} {acked sent : Int} {room : List Prc} (h : RingAt w R acked sent room) (q : Nat) (hq : q < room.length) : w.cell? ⟨R, q * 2, none⟩ = some (.int .i64 room[q].seq) ∧ w.cell? ⟨R, q * 2 + 1, none⟩ = some (.int .i64 room[q].amt) := by
  obtain ⟨b, off, e, _, c0, c1⟩ := prc_row h.row.rows q hq
  simp only [Option.some.injEq, Addr.mk.injEq, and_true] at e
  obtain ⟨rfl, rfl⟩ := e
  rw [Nat.zero_add] at c0 c1
  exact ⟨c0, c1⟩
theorem RingAt.there {w : World} {R : Nat} {acked sent : Int} {room : List Prc} (h : RingAt w R acked sent room) (q : Nat) (hq : q < 8) : (∃ v, w.cell? ⟨R, q * 2, none⟩ = some v) ∧ ∃ v, w.cell? ⟨R, q * 2 + 1, none⟩ = some v := by
  obtain ⟨h0, h1⟩ := h.place q (by rw [h.len]; exact hq)
  exact ⟨⟨_, h0⟩, ⟨_, h1⟩⟩
/-- a parcel is laid into its place -/
theorem RingAt.put {w : World} {R : Nat} {acked sent : Int} {room : List Prc} (h : RingAt w R acked sent room) (q : Nat) (hq : q < 8) (p : Prc) : RingAt ((w.setCell ⟨R, q * 2, none⟩ (.int .i64 p.seq)).setCell ⟨R, q * 2 + 1, none⟩ (.int .i64 p.amt)) R acked sent (room.set q p) := by
  have hl := h.len
  have s1 : OwnRow 2 prcCells (w.setCell ⟨R, q * 2 + 0, none⟩ (.int .i64 p.seq)) R (some ⟨R, 0, none⟩) 8 (room.set q ⟨p.seq, (room[q]'(by omega)).amt⟩) := by
    refine OwnRow.set prcLen h.row (by omega) (by decide) (by simp) (fun k hk hk' r' v hv => ?_)
    rw [List.getElem_set] at hv
    by_cases e : q = k
    · subst e
      rw [if_pos rfl] at hv
      match r', hv with
      | 0, hv => simp [prcCells] at hv; exact .inl ⟨rfl, rfl, hv.symm⟩
      | 1, hv => simp [prcCells] at hv; exact .inr ⟨by omega, by simp [prcCells, hv]⟩
      | r + 2, hv => simp [prcCells] at hv
    · rw [if_neg e] at hv
      exact .inr ⟨by omega, hv⟩
  have s2 : OwnRow 2 prcCells ((w.setCell ⟨R, q * 2 + 0, none⟩ (.int .i64 p.seq)).setCell ⟨R, q * 2 + 1, none⟩ (.int .i64 p.amt)) R (some ⟨R, 0, none⟩) 8 (room.set q p) := by
    refine OwnRow.set prcLen s1 (i := q) (r := 1) (by simp; omega) (by decide) (by simp) (fun k hk hk' r' v hv => ?_)
    rw [List.getElem_set] at hv
    rw [List.getElem_set]
    by_cases e : q = k
    · subst e
      rw [if_pos rfl] at hv ⊢
      match r', hv with
      | 0, hv => simp [prcCells] at hv; exact .inr ⟨by omega, by simp [prcCells, hv]⟩
      | 1, hv => simp [prcCells] at hv; exact .inl ⟨rfl, rfl, hv.symm⟩
      | r + 2, hv => simp [prcCells] at hv
    · rw [if_neg e] at hv ⊢
      exact .inr ⟨by omega, hv⟩
  refine ⟨by simp [hl], s2, ?_, ?_, by rw [size_setCell, size_setCell]; exact h.lt, fun j => by rw [frozen_set, frozen_set]; exact h.free j⟩
  · rw [cell_set_other (.inr (by omega)), cell_set_other (.inr (by omega))]; exact h.ack
  · rw [cell_set_other (.inr (by omega)), cell_set_other (.inr (by omega))]; exact h.snt
theorem RingAt.turned {w w' : World} {R g : Nat} {acked sent : Int} {room : List Prc} (h : RingAt w R acked sent room) (k : Turned g w w') (hne : R ≠ g) : RingAt w' R acked sent room :=
  ⟨h.len, h.row.turned k (fun _ => hne), (k.cell hne).trans h.ack, (k.cell hne).trans h.snt, by rw [k.size]; exact h.lt, fun j => (k.frozen hne).trans (h.free j)⟩
/-- the place of a number -/
def plc (s : Int) : Nat := (s % 8).toNat
theorem plc_lt (s : Int) : plc s < 8 := by unfold plc; omega
theorem plc_eq {s : Int} (h : 0 ≤ s) : Int.tmod s 8 = (plc s : Int) := by
  rw [Int.tmod_eq_emod_of_nonneg h]; unfold plc; omega
def S3e (B : Nat) (p0 p1 p2 : Value) (W0 x : World) : Prop := S3 B p0 p1 p2 W0 x
def room0 : List Prc := List.replicate 8 ⟨0, 0⟩
theorem ring_made (w : World) (acked sent : Int) : RingAt (w.alloc (.cells #[.int .i64 0, .int .i64 0, .int .i64 0, .int .i64 0, .int .i64 0, .int .i64 0, .int .i64 0, .int .i64 0, .int .i64 0, .int .i64 0, .int .i64 0, .int .i64 0, .int .i64 0, .int .i64 0, .int .i64 0, .int .i64 0, .int .i64 acked, .int .i64 sent] 60)) w.heap.size acked sent room0 := by
  refine ⟨rfl, ⟨fun i hi => ⟨w.heap.size, 0, rfl, by simp, fun r v hv => ?_⟩, fun _ => ⟨rfl, frozen_of_block (cur := #[.int .i64 0, .int .i64 0, .int .i64 0, .int .i64 0, .int .i64 0, .int .i64 0, .int .i64 0, .int .i64 0, .int .i64 0, .int .i64 0, .int .i64 0, .int .i64 0, .int .i64 0, .int .i64 0, .int .i64 0, .int .i64 0, .int .i64 acked, .int .i64 sent]) (e := 60) (by show (w.heap.push _)[w.heap.size]? = _; simp)⟩, by decide, fun q => by cases q⟩, World.cell?_alloc_at _ _ _ _ rfl, World.cell?_alloc_at _ _ _ _ rfl, by simp, frozen_of_block (cur := #[.int .i64 0, .int .i64 0, .int .i64 0, .int .i64 0, .int .i64 0, .int .i64 0, .int .i64 0, .int .i64 0, .int .i64 0, .int .i64 0, .int .i64 0, .int .i64 0, .int .i64 0, .int .i64 0, .int .i64 0, .int .i64 0, .int .i64 acked, .int .i64 sent]) (e := 60) (by show (w.heap.push _)[w.heap.size]? = _; simp)⟩
  have hi8 : i < 8 := hi
  have e : room0[i]'hi = ⟨0, 0⟩ := List.getElem_replicate _
  have hv : (prcCells ⟨0, 0⟩)[r]? = some v := by rw [← e]; exact hv
  have h2 : r < 2 := by have := (List.getElem?_eq_some_iff.1 hv).1; simpa [prcCells] using this
  have hv' : v = .int .i64 0 := by
    match r, hv, h2 with
    | 0, hv, _ => simp [prcCells] at hv; exact hv.symm
    | 1, hv, _ => simp [prcCells] at hv; exact hv.symm
  subst hv'
  rw [Nat.zero_add]
  refine (World.cell?_alloc_at _ _ _ _ rfl).trans ?_
  have : i * 2 + r < 16 := by omega
  generalize i * 2 + r = m at this
  match m, this with
  | 0, _ => rfl | 1, _ => rfl | 2, _ => rfl | 3, _ => rfl | 4, _ => rfl | 5, _ => rfl | 6, _ => rfl | 7, _ => rfl
  | 8, _ => rfl | 9, _ => rfl | 10, _ => rfl | 11, _ => rfl | 12, _ => rfl | 13, _ => rfl | 14, _ => rfl | 15, _ => rfl
  | m + 16, h => exact absurd h (by omega)
def RingEnd (l : List Prc) (sent : Int) (w : World) (e : Ending) (w' : World) : Prop := Below w.heap.size w w' ∧ ∃ R room, w.heap.size ≤ R ∧ e = .returned (.pointer (some ⟨R, 0, none⟩)) ∧ RingAt w' R (sent - (l.length : Int)) sent room ∧ ∀ j (hj : j < l.length), room[plc l[j].seq]? = some l[j]
set_option maxRecDepth 100000 in
set_option maxHeartbeats 8000000 in
theorem ringOf_any (a : Option Addr) (l : List Prc) (cap : Nat) (sent got : Int) (w : World) (q : endB ⟨l, sent, got⟩ = true) (h : RowAt 2 prcCells w a l) :
    Calls Try.prog 17 #[.agg #[.slice a l.length cap, .int .i64 sent, .int .i64 got]] w fun e w' => RingEnd l sent w e w' := by
  have HC : Hid _ := hide h
  have HQ : Hid _ := hide q
  have h8 : l.length ≤ 8 := (endB_parts q).1
  have hs0 : 0 ≤ sent := (endB_parts q).2.1.1
  have hs1 : sent ≤ 1000000000 := (endB_parts q).2.1.2
  clear h q
  obtain ⟨w1, hw1⟩ : ∃ w1, w1 = w.alloc (.cells #[.slice a l.length cap, .int .i64 sent, .int .i64 got] 26) := ⟨_, rfl⟩
  have HX1 : Hid (Below (w.heap.size + 1) (w.alloc (.cells #[.slice a l.length cap, .int .i64 sent, .int .i64 got] 26)) w1) := hide (by rw [hw1]; exact Below.refl _ _)
  have HW : Hid (w.alloc (.cells #[.slice a l.length cap, .int .i64 sent, .int .i64 got] 26) = w1) := hide hw1.symm
  clear hw1
  have HC1 : Hid _ := hide (box3 HX1.out)
  go_enter Try.func17, Try.ntmps17
  go_wp2_with fail
  rw [HW.out]
  go_region_held (fun x => x.cell? ⟨w.heap.size, 0, none⟩ = some (.slice a l.length cap) ∧ x.cell? ⟨w.heap.size, 1, none⟩ = some (.int .i64 sent) ∧ x.cell? ⟨w.heap.size, 2, none⟩ = some (.int .i64 got) ∧ Hid (Below w1.heap.size w1 x))
    (first | assumption | exact S3.of HC1.out (Below.refl _ _).drew | exact S3.on (by assumption) (by assumption) | exact S3.on (by assumption) (below_alloc (Below.refl _ _) _))
    (first | (go_at_call 26; refine (aheadOfOut_any (.bool true) _ _ _ _ _ _ h8 (And.intro hs0 hs1)).mono ?_; rintro e w2 ⟨rfl, hb2⟩))
  have HS2 : Hid _ := hide (by assumption : S3 w.heap.size (.slice a l.length cap) (.int .i64 sent) (.int .i64 got) w1 (w2.alloc (.cells #[.int .i64 0, .int .i64 0, .int .i64 0, .int .i64 0, .int .i64 0, .int .i64 0, .int .i64 0, .int .i64 0, .int .i64 0, .int .i64 0, .int .i64 0, .int .i64 0, .int .i64 0, .int .i64 0, .int .i64 0, .int .i64 0, .int .i64 (sent - (l.length : Int)), .int .i64 sent] 60)))
  obtain ⟨w3, hw3⟩ : ∃ w3, w3 = w2.alloc (.cells #[.int .i64 0, .int .i64 0, .int .i64 0, .int .i64 0, .int .i64 0, .int .i64 0, .int .i64 0, .int .i64 0, .int .i64 0, .int .i64 0, .int .i64 0, .int .i64 0, .int .i64 0, .int .i64 0, .int .i64 0, .int .i64 0, .int .i64 (sent - (l.length : Int)), .int .i64 sent] 60) := ⟨_, rfl⟩
  have HR3 : Hid (RingAt w3 w2.heap.size (sent - (l.length : Int)) sent room0) := hide (by rw [hw3]; exact ring_made _ _ _)
  have HS3 : Hid (S3 w.heap.size (.slice a l.length cap) (.int .i64 sent) (.int .i64 got) w1 w3) := hide (by rw [hw3]; exact HS2.out)
  have HX3 : Hid _ := hide (box_on HX1.out HS3.out.2.2.2.out)
  have hRl : w.heap.size + 1 ≤ w2.heap.size := by have := box_lt HX1.out; have := hb2.size; simp at this; omega
  rw [← hw3]
  clear hw3 HS2 hb2
  obtain ⟨x0, x1, x2, _⟩ := HS3.out
  go_wp2
  go_loopw [15] (fun i wr => ∃ (k : Nat) (room : List Prc), k ≤ l.length ∧ i = .int .i64 (k : Int) ∧ Hid (Below w2.heap.size w3 wr) ∧ Hid (RingAt wr w2.heap.size (sent - (l.length : Int)) sent room) ∧ Hid (∀ j (hj : j < l.length), j < k → room[plc l[j].seq]? = some l[j])) (fun i wr => l.length - (intOf i).toNat)
  case atStart => exact ⟨0, room0, Nat.zero_le _, rfl, hide (Below.refl _ _), HR3, hide (fun j _ hj => by omega)⟩
  case round =>
    obtain ⟨k, room, hk, rfl, HB, HR, HJ⟩ := hrel
    by_cases hlt : k < l.length
    · have hle : w2.heap.size ≤ w3.heap.size := Nat.le_of_lt HR3.out.lt
      obtain ⟨b, off, rfl, hb, c0, c1⟩ := prc_row (HC.out.below ((box_old HX3.out).trans (HB.out.mono (by omega)))) k hlt
      have hlt' : (k : Int) < (l.length : Int) := by omega
      obtain ⟨e1, e2, e3, e4⟩ := (endB_parts HQ.out).2.2.2 k hlt
      simp only at e1 e2 e3 e4
      have hqe := plc_eq (s := (l[k]).seq) (by omega)
      have hq8 := plc_lt (l[k]).seq
      have hR2 := (HR.out.below (below_alloc (Below.refl wr.heap.size wr) (.cells #[.int .i64 (l[k]).seq, .int .i64 (l[k]).amt] 30)))
      have HP : Hid _ := hide (hR2.put (plc (l[k]).seq) hq8 l[k])
      obtain ⟨⟨u0, r0⟩, ⟨u1, r1⟩⟩ := hR2.there (plc (l[k]).seq) hq8
      have z0 := hR2.free (plc (l[k]).seq * 2)
      have z1 := hR2.free (plc (l[k]).seq * 2 + 1)
      have HL2 : Hid _ := hide hR2.len
      have HRL : Hid (w2.heap.size < wr.heap.size) := hide HR.out.lt
      clear hR2
      have HJ2 : Hid (∀ j (hj : j < l.length), j < k + 1 → (room.set (plc (l[k]).seq) l[k])[plc l[j].seq]? = some l[j]) := hide (fun j hj hjk => by
        rw [List.getElem?_set]
        rcases Nat.lt_or_ge j k with h1 | h1
        · have e := ((endB_parts HQ.out).2.2.2 j hj).1
          have e' := ((endB_parts HQ.out).2.2.2 k hlt).1
          simp only at e e'
          have hne : plc (l[k]).seq ≠ plc l[j].seq := by
            rw [e, e']; unfold plc; omega
          rw [if_neg hne]
          exact HJ.out j hj h1
        · obtain rfl : j = k := by omega
          rw [if_pos rfl, if_pos (by rw [HL2.out]; exact hq8)])
      generalize plc (l[k]).seq = qn at *
      clear e1 e2 e3 e4
      go_wp2_with fail
      go_region
      go_wp2
      exact ⟨⟨k + 1, _, by omega, by go_num, hide (((((HB.out.alloc (Nat.le_of_lt HRL.out) _).setCell (Nat.le_refl _) _).setCell (Nat.le_refl _) _)).drew), hide (HP.out.below ((Below.refl _ _).drew)), HJ2⟩, by simp [intOf]; omega⟩
    · have hk' : ¬ (k : Int) < (l.length : Int) := by omega
      have HE : Hid (Below w.heap.size w wr) := hide ((box_old HX3.out).trans (HB.out.mono (by omega)))
      go_wp2
      go_ret
      exact ⟨HE.out, w2.heap.size, room, by omega, rfl, HR.out, fun j hj => HJ.out j hj (by omega)⟩
end Go.Proofs.Ytjmkppajfebidaa
