/- The contract of the program's Acked. -/
import Derived.Test.YtjmkppajfebidaaRcv
namespace Go.Proofs.Ytjmkppajfebidaa
open Go.ChangeShapes Go.WideShapes Go.ChangeAt Go.RowKit
set_option linter.unusedVariables false
def ackOk (E : En) (s : Int) : Bool := endB E && inB 0 E.sent s
def ackE (E : En) (s : Int) : En := if ackOk E s then ⟨E.out.filter (fun p => decide (s < p.seq)), E.sent, E.got⟩ else ⟨[], 0, 0⟩
/-- an end, and a flag -/
def EndFlag (E : En) (b : Bool) (w : World) (e : Ending) (w' : World) : Prop := Below w.heap.size w w' ∧ ∃ v, e = .returned (.tuple #[.agg #[v, .int .i64 E.sent, .int .i64 E.got], .bool b]) ∧ NewRow 2 prcCells E.out w v w'
theorem filter_drop {l : List Prc} {s : Int} {d : Nat} (h1 : ∀ j (hj : j < l.length), j < d → ¬ s < l[j].seq) (h2 : ∀ j (hj : j < l.length), d ≤ j → s < l[j].seq) : l.filter (fun p => decide (s < p.seq)) = l.drop d := by
  have e := List.take_append_drop d l
  have f1 : (l.take d).filter (fun p => decide (s < p.seq)) = [] := List.filter_eq_nil_iff.2 (fun x hx => by
    obtain ⟨i, hi, rfl⟩ := List.getElem_of_mem hx
    have hi' : i < d ∧ i < l.length := by simp at hi; omega
    have : (l.take d)[i] = l[i]'hi'.2 := by simp
    rw [this]
    simpa using h1 i hi'.2 hi'.1)
  have f2 : (l.drop d).filter (fun p => decide (s < p.seq)) = l.drop d := List.filter_eq_self.2 (fun x hx => by
    obtain ⟨i, hi, rfl⟩ := List.getElem_of_mem hx
    have hi' : d + i < l.length := by simp at hi; omega
    have : (l.drop d)[i] = l[d + i] := by simp
    rw [this]
    simpa using h2 (d + i) hi' (by omega))
  exact (congrArg (List.filter (fun p => decide (s < p.seq))) e.symm).trans (by rw [List.filter_append, f1, f2, List.nil_append])
theorem outL_acked {l : List Prc} {sent got s : Int} {room : List Prc} (q : endB ⟨l, sent, got⟩ = true) (hs : s ≤ sent) (h : ∀ j (hj : j < l.length), room[plc l[j].seq]? = some l[j]) : outL (max (sent - (l.length : Int)) s) sent room = l.filter (fun p => decide (s < p.seq)) := by
  have hseq : ∀ j (hj : j < l.length), l[j].seq = sent - (l.length : Int) + 1 + (j : Int) := fun j hj => ((endB_parts q).2.2.2 j hj).1
  obtain ⟨d, hd⟩ : ∃ d : Nat, (d : Int) = max (sent - (l.length : Int)) s - (sent - (l.length : Int)) := ⟨(max (sent - (l.length : Int)) s - (sent - (l.length : Int))).toNat, by omega⟩
  have hdl : d ≤ l.length := by omega
  rw [filter_drop (d := d) (fun j hj hjd => by rw [hseq j hj]; omega) (fun j hj hjd => by rw [hseq j hj]; omega)]
  apply List.ext_getElem
  · rw [outL_len, List.length_drop]; omega
  · intro i h1 h2
    have hi : d + i < l.length := by simp at h2; omega
    have hh := h (d + i) hi
    rw [hseq (d + i) hi] at hh
    simp only [outL, List.getElem_map, List.getElem_range, List.getElem_drop]
    rw [show max (sent - (l.length : Int)) s + 1 + (i : Int) = sent - (l.length : Int) + 1 + ((d + i : Nat) : Int) by omega, hh]
    rfl
/-- the blocks that Acked lays first: e, the answer -/
structure AckAt (w : World) (v0 : Value) (sent got : Int) (x : World) : Prop where
  old : Below w.heap.size w x
  lt : w.heap.size + 2 ≤ x.heap.size
  e0 : x.cell? ⟨w.heap.size, 0, none⟩ = some v0
  e1 : x.cell? ⟨w.heap.size, 1, none⟩ = some (.int .i64 sent)
  e2 : x.cell? ⟨w.heap.size, 2, none⟩ = some (.int .i64 got)
  res : ResMid (w.heap.size + 1) x
theorem ack_start (w : World) (v0 : Value) (sent got : Int) : AckAt w v0 sent got ((w.alloc (.cells #[v0, .int .i64 sent, .int .i64 got] 26)).alloc (.cells #[.slice none 0 0, .int .i64 0, .int .i64 0] 26)) := by
  obtain ⟨wa, hwa⟩ : ∃ wa, wa = w.alloc (.cells #[v0, .int .i64 sent, .int .i64 got] 26) := ⟨_, rfl⟩
  have sa : wa.heap.size = w.heap.size + 1 := by rw [hwa]; simp
  have b1 : Below (w.heap.size + 1) (w.alloc (.cells #[v0, .int .i64 sent, .int .i64 got] 26)) (wa.alloc (.cells #[.slice none 0 0, .int .i64 0, .int .i64 0] 26)) := by
    rw [← hwa]; exact (Below.refl _ _).alloc (by omega) _
  rw [← hwa]
  obtain ⟨⟨x0, x1, x2⟩, _⟩ := new_block b1
  obtain ⟨⟨y0, y1, y2⟩, fy⟩ := new_block (w := wa) (v0 := .slice none 0 0) (v1 := .int .i64 0) (v2 := .int .i64 0) (T := 26) (Below.refl _ _)
  rw [sa] at y0 y1 y2 fy
  refine ⟨box_old b1, by simp [sa], x0, x1, x2, ⟨by simp [sa], fun j hj => ?_, fy⟩⟩
  match j, hj with
  | 0, _ => exact ⟨_, y0⟩
  | 1, _ => exact ⟨_, y1⟩
  | 2, _ => exact ⟨_, y2⟩
theorem AckAt.on {w x y : World} {v0 : Value} {sent got : Int} (h : AckAt w v0 sent got x) {B : Nat} (hB : w.heap.size + 2 ≤ B) (b : Below B x y) : AckAt w v0 sent got y :=
  ⟨h.old.trans (b.mono (by omega)), Nat.le_trans h.lt b.size, (b.cell (by show w.heap.size < B; omega)).trans h.e0, (b.cell (by show w.heap.size < B; omega)).trans h.e1, (b.cell (by show w.heap.size < B; omega)).trans h.e2, h.res.keep (b.block _ (by omega)) b.size⟩
theorem AckAt.next {w x y : World} {v0 : Value} {sent got : Int} (h : AckAt w v0 sent got x) (b : Below x.heap.size x y) : AckAt w v0 sent got y := h.on h.lt b
theorem flag_set {w x : World} {E : En} {v : Value} {fl : Bool} (hold : Below w.heap.size w x) (b : Nat) (hb : w.heap.size ≤ b) (g : Nat) (a : Option Addr) (cap : Nat) (hg : b < g) (hv : v = .slice a E.out.length cap) (ho : OwnRow 2 prcCells x g a cap E.out) :
    EndFlag E fl w (.returned (.tuple #[.agg #[v, .int .i64 E.sent, .int .i64 E.got], .bool fl])) (((x.setCell ⟨b, 0, none⟩ v).setCell ⟨b, 1, none⟩ (.int .i64 E.sent)).setCell ⟨b, 2, none⟩ (.int .i64 E.got)) :=
  ⟨((hold.setCell (p := ⟨b, 0, none⟩) hb _).setCell (p := ⟨b, 1, none⟩) hb _).setCell (p := ⟨b, 2, none⟩) hb _, v, rfl, g, a, cap, by omega, hv, ho.turned ((((Turned.refl b x).setCell _).setCell _).setCell _) (fun _ => by omega)⟩
theorem flag_zero {w x : World} {fl : Bool} (hold : Below w.heap.size w x) (b : Nat) (hb : w.heap.size ≤ b) :
    EndFlag ⟨[], 0, 0⟩ fl w (.returned (.tuple #[.agg #[.slice none 0 0, .int .i64 0, .int .i64 0], .bool fl])) (((x.setCell ⟨b, 0, none⟩ (.slice none 0 0)).setCell ⟨b, 1, none⟩ (.int .i64 0)).setCell ⟨b, 2, none⟩ (.int .i64 0)) :=
  flag_set (E := ⟨[], 0, 0⟩) hold b hb (b + 1) none 0 (by omega) rfl (OwnRow.nil (fun _ => rfl))
set_option maxRecDepth 100000 in
set_option maxHeartbeats 8000000 in
theorem implAcked_any (a : Option Addr) (l : List Prc) (cap : Nat) (sent got s : Int) (w : World) (hl : l.length ≤ 1048576) (h : RowAt 2 prcCells w a l) :
    Calls Try.prog 10 #[.agg #[.slice a l.length cap, .int .i64 sent, .int .i64 got], .int .i64 s] w fun e w' => EndFlag (ackE ⟨l, sent, got⟩ s) (ackOk ⟨l, sent, got⟩ s) w e w' := by
  have HC : Hid _ := hide h
  clear h
  have HW : Hid _ := hide (ack_start w (.slice a l.length cap) sent got)
  go_enter Try.func10, Try.ntmps10
  go_wp2_with fail
  refine (implEndOk_any a l cap sent got _ hl (HC.out.below HW.out.old)).mono ?_
  rintro e w1 ⟨rfl, hb1⟩
  have HA1 : Hid _ := hide (HW.out.next hb1)
  clear hb1 HW
  obtain ⟨⟨t0, r0⟩, ⟨t1, r1⟩, ⟨t2, r2⟩⟩ := And.intro (HA1.out.res.c 0 (by omega)) (And.intro (HA1.out.res.c 1 (by omega)) (HA1.out.res.c 2 (by omega)))
  have f0 := HA1.out.res.f 0
  have f1 := HA1.out.res.f 1
  have f2 := HA1.out.res.f 2
  have y1 := HA1.out.e1
  cases q : endB ⟨l, sent, got⟩
  · have HO : Hid (ackOk ⟨l, sent, got⟩ s = false) := hide (by simp [ackOk, q])
    have HE : Hid _ := hide (flag_zero (fl := false) HA1.out.old (w.heap.size + 1) (by omega))
    go_wp2
    refine bodyPost_ret (v := .tuple #[.agg #[.slice none 0 0, .int .i64 0, .int .i64 0], .bool false]) (by simp [results, Try.results10, go_sem, r0, r1, r2]) rfl ?_
    simp only [ackE, HO.out]
    exact HE.out
  · cases q2 : inB 0 sent s
    · have HO : Hid (ackOk ⟨l, sent, got⟩ s = false) := hide (by simp [ackOk, q2])
      have HE : Hid _ := hide (flag_zero (fl := false) HA1.out.old (w.heap.size + 1) (by omega))
      go_wp2_with (first | (go_at_call 16; refine (within_any _ _ _ _).mono ?_; rintro e w' ⟨rfl, hw'⟩; have hw'' := hw'.symm; subst hw''))
      refine bodyPost_ret (v := .tuple #[.agg #[.slice none 0 0, .int .i64 0, .int .i64 0], .bool false]) (by simp [results, Try.results10, go_sem, r0, r1, r2]) rfl ?_
      simp only [ackE, HO.out]
      exact HE.out
    · have HO : Hid (ackOk ⟨l, sent, got⟩ s = true) := hide (by simp [ackOk, q, q2])
      have HQ : Hid _ := hide q
      have hs0 : 0 ≤ sent := (endB_parts q).2.1.1
      have hs1 : sent ≤ 1000000000 := (endB_parts q).2.1.2
      have h8 : l.length ≤ 8 := (endB_parts q).1
      have hsn : (l.length : Int) ≤ sent := by
        by_cases h0 : 0 < l.length
        · have := (endB_parts q).2.2.2 0 h0
          simp only at this
          omega
        · omega
      have hss : 0 ≤ s ∧ s ≤ sent := by simpa only [inB, decide_eq_true_eq] using q2
      obtain ⟨hss0, hss1⟩ := hss
      have y0 := HA1.out.e0
      have y2 := HA1.out.e2
      clear q r0 r1 r2 f0 f1 f2
      go_wp2_with (first | (go_at_call 16; refine (within_any _ _ _ _).mono ?_; rintro e w' ⟨rfl, hw'⟩; have hw'' := hw'.symm; subst hw'') | fail)
      refine (ringOf_any a l cap sent got w1 HQ.out (HC.out.below HA1.out.old)).mono ?_
      rintro e w3 ⟨hb3, R, room, hR, rfl, hring, hroom⟩
      have HA3 : Hid _ := hide (HA1.out.next hb3)
      have HRING : Hid _ := hide hring
      have HOUT : Hid _ := hide (outL_acked HQ.out hss1 hroom)
      have HR : Hid (w.heap.size + 2 ≤ R) := hide (Nat.le_trans HA1.out.lt hR)
      clear hb3 hR hring hroom y0 y1 y2 q2
      go_wp2_with fail
      refine (drop_any R _ _ s _ w3 HRING.out).mono ?_
      rintro e w4 ⟨rfl, hb4, hsz4, hring4⟩
      have HA4 : Hid _ := hide (HA3.out.on HR.out hb4)
      have HRING4 : Hid _ := hide hring4
      clear hb4 hsz4 hring4
      have z2 := HA4.out.e2
      go_wp2_with fail
      refine (end_any R _ _ got _ w4 HRING4.out (by omega) (And.intro (by omega) (by omega)) (by omega)).mono ?_
      rw [HOUT.out]
      rintro e w5 ⟨hb5, v5, rfl, g5, a5, c5, hg5, rfl, ho5⟩
      have HA5 : Hid _ := hide (HA4.out.next hb5)
      have HE : Hid _ := hide (flag_set (E := ⟨l.filter (fun p => decide (s < p.seq)), sent, got⟩) (fl := true) HA5.out.old (w.heap.size + 1) (by omega) g5 a5 c5 (by have := HA4.out.lt; omega) rfl ho5)
      obtain ⟨⟨t0, r0⟩, ⟨t1, r1⟩, ⟨t2, r2⟩⟩ := And.intro (HA5.out.res.c 0 (by omega)) (And.intro (HA5.out.res.c 1 (by omega)) (HA5.out.res.c 2 (by omega)))
      have f0 := HA5.out.res.f 0
      have f1 := HA5.out.res.f 1
      have f2 := HA5.out.res.f 2
      clear hb5 hg5 ho5 z2
      go_wp2
      refine bodyPost_ret (v := .tuple #[.agg #[.slice a5 (l.filter (fun p => decide (s < p.seq))).length c5, .int .i64 sent, .int .i64 got], .bool true]) (by simp [results, Try.results10, go_sem, r0, r1, r2]) rfl ?_
      have e1 : ackE ⟨l, sent, got⟩ s = ⟨l.filter (fun p => decide (s < p.seq)), sent, got⟩ := if_pos HO.out
      rw [e1, HO.out]
      exact HE.out
end Go.Proofs.Ytjmkppajfebidaa
