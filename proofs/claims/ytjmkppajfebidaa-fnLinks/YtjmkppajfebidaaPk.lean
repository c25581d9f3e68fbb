/- What is packed, as data; the contract of the program's Packed. -/
import Derived.Test.YtjmkppajfebidaaAck
namespace Go.Proofs.Ytjmkppajfebidaa
open Go.ChangeShapes Go.WideShapes Go.ChangeAt Go.RowKit
set_option linter.unusedVariables false
def pkOk (E : En) (amt : Int) : Bool := endB E && inB 1 1000000000000 amt && !(E.out.length == 8) && !(E.sent == 1000000000)
def pkE (E : En) (amt : Int) : En := if pkOk E amt then ⟨E.out ++ [⟨E.sent + 1, amt⟩], E.sent + 1, E.got⟩ else ⟨[], 0, 0⟩
def pkP (E : En) (amt : Int) : Prc := if pkOk E amt then ⟨E.sent + 1, amt⟩ else ⟨0, 0⟩
/-- an end, a parcel and a flag -/
def EndPrc (E : En) (p : Prc) (b : Bool) (w : World) (e : Ending) (w' : World) : Prop := Below w.heap.size w w' ∧ ∃ v, e = .returned (.tuple #[.agg #[v, .int .i64 E.sent, .int .i64 E.got], .agg #[.int .i64 p.seq, .int .i64 p.amt], .bool b]) ∧ NewRow 2 prcCells E.out w v w'
theorem outL_put {l : List Prc} {sent got amt : Int} {room : List Prc} (q : endB ⟨l, sent, got⟩ = true) (h8 : l.length < 8) (hr : room.length = 8) (h : ∀ j (hj : j < l.length), room[plc l[j].seq]? = some l[j]) : outL (sent - (l.length : Int)) (sent + 1) (room.set (plc (sent + 1)) ⟨sent + 1, amt⟩) = l ++ [⟨sent + 1, amt⟩] := by
  have hn : (sent + 1 - (sent - (l.length : Int))).toNat = l.length + 1 := by omega
  apply List.ext_getElem
  · rw [outL_len, hn]; simp
  · intro i h1 h2
    have hi : i < l.length + 1 := by simpa using h2
    simp only [outL, List.getElem_map, List.getElem_range]
    by_cases hil : i < l.length
    · have e := ((endB_parts q).2.2.2 i hil).1
      simp only at e
      have hh := h i hil
      rw [e] at hh
      have hne : plc (sent + 1) ≠ plc (sent - (l.length : Int) + 1 + (i : Int)) := by unfold plc; omega
      rw [List.getElem?_set_ne hne, hh, List.getElem_append_left hil]
      rfl
    · have hie : i = l.length := by omega
      subst hie
      have e : sent - (l.length : Int) + 1 + (l.length : Int) = sent + 1 := by omega
      rw [e, List.getElem?_set_self (by rw [hr]; exact plc_lt _)]
      simp
structure PkAt (w : World) (v0 : Value) (sent got : Int) (x : World) : Prop where
  old : Below w.heap.size w x
  lt : w.heap.size + 3 ≤ x.heap.size
  e0 : x.cell? ⟨w.heap.size, 0, none⟩ = some v0
  e1 : x.cell? ⟨w.heap.size, 1, none⟩ = some (.int .i64 sent)
  e2 : x.cell? ⟨w.heap.size, 2, none⟩ = some (.int .i64 got)
  res : ResMid (w.heap.size + 1) x
  p0 : ∃ v, x.cell? ⟨w.heap.size + 2, 0, none⟩ = some v
  p1 : ∃ v, x.cell? ⟨w.heap.size + 2, 1, none⟩ = some v
  pf : ∀ j, x.frozen? ⟨w.heap.size + 2, j, none⟩ = false
theorem pk_start (w : World) (v0 : Value) (sent got : Int) : PkAt w v0 sent got (((w.alloc (.cells #[v0, .int .i64 sent, .int .i64 got] 26)).alloc (.cells #[.slice none 0 0, .int .i64 0, .int .i64 0] 26)).alloc (.cells #[.int .i64 0, .int .i64 0] 30)) := by
  have h := ack_start w v0 sent got
  obtain ⟨x, hx⟩ : ∃ x, x = (w.alloc (.cells #[v0, .int .i64 sent, .int .i64 got] 26)).alloc (.cells #[.slice none 0 0, .int .i64 0, .int .i64 0] 26) := ⟨_, rfl⟩
  have sx : x.heap.size = w.heap.size + 2 := by rw [hx]; simp
  rw [← hx] at h ⊢
  have b : Below x.heap.size x (x.alloc (.cells #[.int .i64 0, .int .i64 0] 30)) := (Below.refl _ _).alloc (Nat.le_refl _) _
  have k := h.next b
  have c0 : (x.alloc (.cells #[.int .i64 0, .int .i64 0] 30)).cell? ⟨x.heap.size, 0, none⟩ = some (.int .i64 0) := World.cell?_alloc_at _ _ _ _ rfl
  have c1 : (x.alloc (.cells #[.int .i64 0, .int .i64 0] 30)).cell? ⟨x.heap.size, 1, none⟩ = some (.int .i64 0) := World.cell?_alloc_at _ _ _ _ rfl
  have fz : ∀ j, (x.alloc (.cells #[.int .i64 0, .int .i64 0] 30)).frozen? ⟨x.heap.size, j, none⟩ = false := fun j => frozen_of_block (cur := #[.int .i64 0, .int .i64 0]) (e := 30) (by show (x.heap.push _)[x.heap.size]? = _; simp) j
  rw [sx] at c0 c1 fz
  exact ⟨k.old, by simp [sx], k.e0, k.e1, k.e2, k.res, ⟨_, c0⟩, ⟨_, c1⟩, fz⟩
theorem PkAt.on {w x y : World} {v0 : Value} {sent got : Int} (h : PkAt w v0 sent got x) {B : Nat} (hB : w.heap.size + 3 ≤ B) (b : Below B x y) : PkAt w v0 sent got y :=
  ⟨h.old.trans (b.mono (by omega)), Nat.le_trans h.lt b.size, (b.cell (by show w.heap.size < B; omega)).trans h.e0, (b.cell (by show w.heap.size < B; omega)).trans h.e1, (b.cell (by show w.heap.size < B; omega)).trans h.e2, h.res.keep (b.block _ (by omega)) b.size,
    by obtain ⟨v, hv⟩ := h.p0; exact ⟨v, (b.cell (by show w.heap.size + 2 < B; omega)).trans hv⟩, by obtain ⟨v, hv⟩ := h.p1; exact ⟨v, (b.cell (by show w.heap.size + 2 < B; omega)).trans hv⟩, fun j => (b.frozen (by show w.heap.size + 2 < B; omega)).trans (h.pf j)⟩
theorem PkAt.next {w x y : World} {v0 : Value} {sent got : Int} (h : PkAt w v0 sent got x) (b : Below x.heap.size x y) : PkAt w v0 sent got y := h.on h.lt b
theorem pk_set {w x : World} {E : En} {p : Prc} {v : Value} {fl : Bool} (hold : Below w.heap.size w x) (g : Nat) (a : Option Addr) (cap : Nat) (hg : w.heap.size + 3 ≤ g) (hv : v = .slice a E.out.length cap) (ho : OwnRow 2 prcCells x g a cap E.out) :
    EndPrc E p fl w (.returned (.tuple #[.agg #[v, .int .i64 E.sent, .int .i64 E.got], .agg #[.int .i64 p.seq, .int .i64 p.amt], .bool fl])) (((((x.setCell ⟨w.heap.size + 1, 0, none⟩ v).setCell ⟨w.heap.size + 1, 1, none⟩ (.int .i64 E.sent)).setCell ⟨w.heap.size + 1, 2, none⟩ (.int .i64 E.got)).setCell ⟨w.heap.size + 2, 0, none⟩ (.int .i64 p.seq)).setCell ⟨w.heap.size + 2, 1, none⟩ (.int .i64 p.amt)) := by
  have h1 : w.heap.size ≤ w.heap.size + 1 := by omega
  have h2 : w.heap.size ≤ w.heap.size + 2 := by omega
  exact ⟨((((hold.setCell (p := ⟨w.heap.size + 1, 0, none⟩) h1 _).setCell (p := ⟨w.heap.size + 1, 1, none⟩) h1 _).setCell (p := ⟨w.heap.size + 1, 2, none⟩) h1 _).setCell (p := ⟨w.heap.size + 2, 0, none⟩) h2 _).setCell (p := ⟨w.heap.size + 2, 1, none⟩) h2 _, v, rfl, g, a, cap, by omega, hv,
    (ho.turned ((((Turned.refl (w.heap.size + 1) x).setCell _).setCell _).setCell _) (fun _ => by omega)).turned (((Turned.refl (w.heap.size + 2) _).setCell _).setCell _) (fun _ => by omega)⟩
theorem pk_zero {w x : World} {fl : Bool} (hold : Below w.heap.size w x) :
    EndPrc ⟨[], 0, 0⟩ ⟨0, 0⟩ fl w (.returned (.tuple #[.agg #[.slice none 0 0, .int .i64 0, .int .i64 0], .agg #[.int .i64 0, .int .i64 0], .bool fl])) (((((x.setCell ⟨w.heap.size + 1, 0, none⟩ (.slice none 0 0)).setCell ⟨w.heap.size + 1, 1, none⟩ (.int .i64 0)).setCell ⟨w.heap.size + 1, 2, none⟩ (.int .i64 0)).setCell ⟨w.heap.size + 2, 0, none⟩ (.int .i64 0)).setCell ⟨w.heap.size + 2, 1, none⟩ (.int .i64 0)) :=
  pk_set (E := ⟨[], 0, 0⟩) (p := ⟨0, 0⟩) hold (w.heap.size + 3) none 0 (Nat.le_refl _) rfl (OwnRow.nil (fun _ => rfl))
/-- cells that the last region reads -/
abbrev SPk (s p : Nat) (got sq amt : Int) (x : World) : Prop := x.cell? ⟨s, 2, none⟩ = some (.int .i64 got) ∧ x.cell? ⟨p, 0, none⟩ = some (.int .i64 sq) ∧ x.cell? ⟨p, 1, none⟩ = some (.int .i64 amt)
theorem SPk.on {s p : Nat} {got sq amt : Int} {x y : World} (h : SPk s p got sq amt x) (hp : s + 3 ≤ p) (hx : p < x.heap.size) (b : Below x.heap.size x y) : SPk s p got sq amt y :=
  ⟨(b.cell (by show s < _; omega)).trans h.1, (b.cell (by show p < _; omega)).trans h.2.1, (b.cell (by show p < _; omega)).trans h.2.2⟩
theorem SPk.set {s p : Nat} {got sq amt : Int} {x : World} (h : SPk s p got sq amt x) (hp : s + 3 ≤ p) {a b c : Value} : SPk s p got sq amt (((x.setCell ⟨s + 1, 0, none⟩ a).setCell ⟨s + 1, 1, none⟩ b).setCell ⟨s + 1, 2, none⟩ c) := by
  refine ⟨?_, ?_, ?_⟩ <;> rw [cell_set_other (.inl (by omega)), cell_set_other (.inl (by omega)), cell_set_other (.inl (by omega))]
  · exact h.1
  · exact h.2.1
  · exact h.2.2
theorem SPk.set2 {s p : Nat} {got sq amt : Int} {x : World} (h : SPk s p got sq amt x) (hp : s + 3 ≤ p) {a b : Value} : SPk s p got sq amt ((x.setCell ⟨s + 1 + 1, 0, none⟩ a).setCell ⟨s + 1 + 1, 1, none⟩ b) := by
  refine ⟨?_, ?_, ?_⟩ <;> rw [cell_set_other (.inl (by omega)), cell_set_other (.inl (by omega))]
  · exact h.1
  · exact h.2.1
  · exact h.2.2
theorem pkE_no {E : En} {amt : Int} (h : pkOk E amt = false) : pkE E amt = ⟨[], 0, 0⟩ := by simp [pkE, h]
theorem pkP_no {E : En} {amt : Int} (h : pkOk E amt = false) : pkP E amt = ⟨0, 0⟩ := by simp [pkP, h]
set_option maxRecDepth 100000 in
set_option maxHeartbeats 1500000 in
theorem implPacked_any (a : Option Addr) (l : List Prc) (cap : Nat) (sent got amt : Int) (w : World) (hl : l.length ≤ 1048576) (h : RowAt 2 prcCells w a l) :
    Calls Try.prog 6 #[.agg #[.slice a l.length cap, .int .i64 sent, .int .i64 got], .int .i64 amt] w fun e w' => EndPrc (pkE ⟨l, sent, got⟩ amt) (pkP ⟨l, sent, got⟩ amt) (pkOk ⟨l, sent, got⟩ amt) w e w' := by
  have HC : Hid _ := hide h
  clear h
  have HW : Hid _ := hide (pk_start w (.slice a l.length cap) sent got)
  go_enter Try.func6, Try.ntmps6
  go_wp2_with fail
  refine (implEndOk_any a l cap sent got _ hl (HC.out.below HW.out.old)).mono ?_
  rintro e w1 ⟨rfl, hb1⟩
  have HA1 : Hid _ := hide (HW.out.next hb1)
  clear hb1 HW
  obtain ⟨⟨t0, r0⟩, ⟨t1, r1⟩, ⟨t2, r2⟩⟩ := And.intro (HA1.out.res.c 0 (by omega)) (And.intro (HA1.out.res.c 1 (by omega)) (HA1.out.res.c 2 (by omega)))
  obtain ⟨⟨t3, r3⟩, ⟨t4, r4⟩⟩ := And.intro HA1.out.p0 HA1.out.p1
  have f0 := HA1.out.res.f 0
  have f1 := HA1.out.res.f 1
  have f2 := HA1.out.res.f 2
  have f3 := HA1.out.pf 0
  have f4 := HA1.out.pf 1
  cases q : endB ⟨l, sent, got⟩
  · have HO : Hid (pkOk ⟨l, sent, got⟩ amt = false) := hide (by simp [pkOk, q])
    have HE : Hid _ := hide (pk_zero (fl := false) HA1.out.old)
    go_wp2
    refine bodyPost_ret (v := .tuple #[.agg #[.slice none 0 0, .int .i64 0, .int .i64 0], .agg #[.int .i64 0, .int .i64 0], .bool false]) (by simp [results, Try.results6, go_sem, r0, r1, r2, r3, r4]) rfl ?_
    rw [pkE_no HO.out, pkP_no HO.out, HO.out]
    exact HE.out
  · cases q2 : inB 1 1000000000000 amt
    · have HO : Hid (pkOk ⟨l, sent, got⟩ amt = false) := hide (by simp [pkOk, q2])
      have HE : Hid _ := hide (pk_zero (fl := false) HA1.out.old)
      go_wp2_with (first | (go_at_call 16; refine (within_any _ _ _ _).mono ?_; rintro e w' ⟨rfl, hw'⟩; have hw'' := hw'.symm; subst hw''))
      refine bodyPost_ret (v := .tuple #[.agg #[.slice none 0 0, .int .i64 0, .int .i64 0], .agg #[.int .i64 0, .int .i64 0], .bool false]) (by simp [results, Try.results6, go_sem, r0, r1, r2, r3, r4]) rfl ?_
      rw [pkE_no HO.out, pkP_no HO.out, HO.out]
      exact HE.out
    · have HQ : Hid _ := hide q
      have HQ2 : Hid _ := hide q2
      have hs0 : 0 ≤ sent := (endB_parts q).2.1.1
      have hs1 : sent ≤ 1000000000 := (endB_parts q).2.1.2
      have h8 : l.length ≤ 8 := (endB_parts q).1
      have hsn : (l.length : Int) ≤ sent := by
        by_cases h0 : 0 < l.length
        · have := (endB_parts q).2.2.2 0 h0
          simp only at this
          omega
        · omega
      have y0 := HA1.out.e0
      have y1 := HA1.out.e1
      have y2 := HA1.out.e2
      clear q r0 r1 r2 r3 r4 f0 f1 f2 f3 f4
      go_wp2_with (first | (go_at_call 16; refine (within_any _ _ _ _).mono ?_; rintro e w' ⟨rfl, hw'⟩; have hw'' := hw'.symm; subst hw'') | fail)
      refine (ringOf_any a l cap sent got w1 HQ.out (HC.out.below HA1.out.old)).mono ?_
      rintro e w3 ⟨hb3, R, room, hR, rfl, hring, hroom⟩
      have HA3 : Hid _ := hide (HA1.out.next hb3)
      have HRING : Hid _ := hide hring
      have HROOM : Hid _ := hide hroom
      have HR : Hid (w.heap.size + 3 ≤ R) := hide (Nat.le_trans HA1.out.lt hR)
      clear hb3 hR hring hroom y0 y1 y2 q2
      go_wp2_with fail
      refine (full_any R _ _ _ w3 HRING.out (And.intro hs0 hs1) (And.intro (by omega) (by omega))).mono ?_
      rintro e w4 ⟨rfl, hb4⟩
      have HA4 : Hid _ := hide (HA3.out.next hb4)
      have HRING4 : Hid _ := hide (HRING.out.below hb4)
      clear hb4 HRING HA3
      have y1 := HA4.out.e1
      obtain ⟨⟨t0, r0⟩, ⟨t1, r1⟩, ⟨t2, r2⟩⟩ := And.intro (HA4.out.res.c 0 (by omega)) (And.intro (HA4.out.res.c 1 (by omega)) (HA4.out.res.c 2 (by omega)))
      obtain ⟨⟨t3, r3⟩, ⟨t4, r4⟩⟩ := And.intro HA4.out.p0 HA4.out.p1
      have f0 := HA4.out.res.f 0
      have f1 := HA4.out.res.f 1
      have f2 := HA4.out.res.f 2
      have f3 := HA4.out.pf 0
      have f4 := HA4.out.pf 1
      have HFU : Hid (fullB (sent - (l.length : Int)) sent = (l.length == 8)) := hide (by unfold fullB; rw [Bool.eq_iff_iff]; simp; omega)
      cases q3 : fullB (sent - (l.length : Int)) sent
      · cases q4 : (sent == 1000000000)
        · have HO : Hid (pkOk ⟨l, sent, got⟩ amt = true) := hide (by have e := HFU.out; rw [q3] at e; simp only [pkOk, HQ.out, HQ2.out, ← e, q4]; rfl)
          have h7 : l.length < 8 := by have e := HFU.out; rw [q3] at e; have := e.symm; simp at this; omega
          have hs2 : sent < 1000000000 := by simp at q4; omega
          clear r0 r1 r2 r3 r4 f0 f1 f2 f3 f4
          go_wp2_with fail
          refine (put_any R _ _ amt _ w4 HRING4.out (And.intro hs0 hs1)).mono ?_
          rintro e w5 ⟨rfl, hb5, hring5⟩
          have HA5 : Hid _ := hide (HA4.out.on HR.out hb5)
          have HRING5 : Hid _ := hide hring5
          have HOUT : Hid _ := hide (outL_put (amt := amt) HQ.out h7 HRING4.out.len HROOM.out)
          clear hb5 hring5
          go_wp2_with fail
          obtain ⟨w6, hw6⟩ : ∃ w6, w6 = w5.alloc (.cells #[.int .i64 (sent + 1), .int .i64 amt] 30) := ⟨_, rfl⟩
          rw [← hw6]
          have hb6 : Below w5.heap.size w5 w6 := by rw [hw6]; exact (Below.refl _ _).alloc (Nat.le_refl _) _
          have HA6 : Hid _ := hide (HA5.out.next hb6)
          have HRING6 : Hid _ := hide (HRING5.out.below hb6)
          have HS6 : Hid (SPk w.heap.size w5.heap.size got (sent + 1) amt w6) := hide ⟨HA6.out.e2, by rw [hw6]; exact World.cell?_alloc_at _ _ _ _ rfl, by rw [hw6]; exact World.cell?_alloc_at _ _ _ _ rfl⟩
          have hp5 : w.heap.size + 3 ≤ w5.heap.size := HA5.out.lt
          have hp6 : w5.heap.size < w6.heap.size := by rw [hw6]; simp
          clear hw6 hb6
          obtain ⟨P, hP⟩ : ∃ P, P = w5.heap.size := ⟨_, rfl⟩
          rw [← hP] at HS6 hp5 hp6 ⊢
          clear hP
          have HS6d : Hid (SPk w.heap.size P got (sent + 1) amt w6.drew) := hide HS6.out
          go_region_held (fun x => x.cell? ⟨w.heap.size, 2, none⟩ = some (.int .i64 got) ∧ x.cell? ⟨P, 0, none⟩ = some (.int .i64 (sent + 1)) ∧ x.cell? ⟨P, 1, none⟩ = some (.int .i64 amt))
            (first | with_reducible assumption | with_reducible exact HS6.out | with_reducible exact HS6d.out | with_reducible exact HS7.out | with_reducible exact SPk.set (by with_reducible assumption) (by omega) | with_reducible exact SPk.set HS7.out (by omega) | with_reducible exact SPk.set2 (by with_reducible assumption) (by omega) | with_reducible exact SPk.set2 (SPk.set HS7.out (by omega)) (by omega))
            (first | (go_at_call 20; refine (end_any R _ _ _ _ _ (HRING6.out.below ((Below.refl _ _).drew)) (by omega) (And.intro (by omega) (by omega)) (by omega)).mono ?_; rw [HOUT.out]; rintro e w7 ⟨hb7, v7, rfl, g7, a7, c7, hg7, rfl, ho7⟩; have HA7 : Hid _ := hide ((HA6.out.next ((Below.refl w6.heap.size w6).drew)).next hb7); have HO7 : Hid _ := hide ho7; have HS7 : Hid (SPk w.heap.size P got (sent + 1) amt w7) := hide (HS6.out.on hp5 hp6 (below_trans ((Below.refl w6.heap.size w6).drew) hb7)); have HG7 : Hid (w6.heap.size ≤ g7) := hide hg7; obtain ⟨⟨t0, r0⟩, ⟨t1, r1⟩, ⟨t2, r2⟩⟩ := And.intro (HA7.out.res.c 0 (by omega)) (And.intro (HA7.out.res.c 1 (by omega)) (HA7.out.res.c 2 (by omega))); obtain ⟨⟨t3, r3⟩, ⟨t4, r4⟩⟩ := And.intro HA7.out.p0 HA7.out.p1; have f0 := HA7.out.res.f 0; have f1 := HA7.out.res.f 1; have f2 := HA7.out.res.f 2; have f3 := HA7.out.pf 0; have f4 := HA7.out.pf 1; clear hb7 ho7 hg7))
          have HE : Hid _ := hide (pk_set (v := .slice a7 (l.length + 1) c7) (E := ⟨l ++ [⟨sent + 1, amt⟩], sent + 1, got⟩) (p := ⟨sent + 1, amt⟩) (fl := true) HA7.out.old g7 a7 c7 (by have := HA6.out.lt; have := HG7.out; omega) (by simp) HO7.out)
          go_wp2
          refine bodyPost_ret (v := .tuple #[.agg #[.slice a7 (l.length + 1) c7, .int .i64 (sent + 1), .int .i64 got], .agg #[.int .i64 (sent + 1), .int .i64 amt], .bool true]) (by simp [results, Try.results6, go_sem, r0, r1, r2, r3, r4]) rfl ?_
          have e1 : pkE ⟨l, sent, got⟩ amt = ⟨l ++ [⟨sent + 1, amt⟩], sent + 1, got⟩ := if_pos HO.out
          have e2 : pkP ⟨l, sent, got⟩ amt = ⟨sent + 1, amt⟩ := if_pos HO.out
          rw [e1, e2, HO.out]
          exact HE.out
        · have HO : Hid (pkOk ⟨l, sent, got⟩ amt = false) := hide (by simp [pkOk, q4])
          have HE : Hid _ := hide (pk_zero (fl := false) HA4.out.old)
          go_wp2
          refine bodyPost_ret (v := .tuple #[.agg #[.slice none 0 0, .int .i64 0, .int .i64 0], .agg #[.int .i64 0, .int .i64 0], .bool false]) (by simp [results, Try.results6, go_sem, r0, r1, r2, r3, r4]) rfl ?_
          rw [pkE_no HO.out, pkP_no HO.out, HO.out]
          exact HE.out
      · have HO : Hid (pkOk ⟨l, sent, got⟩ amt = false) := hide (by have e := HFU.out; rw [q3] at e; simp only [pkOk, ← e]; simp)
        have HE : Hid _ := hide (pk_zero (fl := false) HA4.out.old)
        go_wp2
        refine bodyPost_ret (v := .tuple #[.agg #[.slice none 0 0, .int .i64 0, .int .i64 0], .agg #[.int .i64 0, .int .i64 0], .bool false]) (by simp [results, Try.results6, go_sem, r0, r1, r2, r3, r4]) rfl ?_
        rw [pkE_no HO.out, pkP_no HO.out, HO.out]
        exact HE.out
end Go.Proofs.Ytjmkppajfebidaa
