/- Ends of links: the contracts of the program's EndOk and OpenOf. -/
import Derived.Test.YtilacamcedjbmaaNB
namespace Go.Proofs.Ytilacamcedjbmaa
open Go.ChangeShapes Go.WideShapes Go.ChangeAt Go.RowKit
set_option linter.unusedVariables false
theorem later_cell {W : World} {p : Addr} {v : Value} (h : W.cell? p = some v) : ∀ y : Later W, y.w.cell? p = some v := fun y => (y.below.cell (cell_lt h)).trans h
theorem box_on {w a b : World} {o : Obj} (h : Below (w.heap.size + 1) (w.alloc o) a) (k : Below a.heap.size a b) : Below (w.heap.size + 1) (w.alloc o) b :=
  h.trans (k.mono (by have := h.size; simpa using this))
theorem box_old {w wr : World} {o : Obj} (h : Below (w.heap.size + 1) (w.alloc o) wr) : Below w.heap.size w wr :=
  (below_alloc (Below.refl _ _) o).trans (h.mono (by omega))
theorem box_lt {w wr : World} {o : Obj} (h : Below (w.heap.size + 1) (w.alloc o) wr) : w.heap.size + 1 ≤ wr.heap.size := by have := h.size; simpa using this
theorem box3 {w x : World} {v0 v1 v2 : Value} {T : TypeId} (h : Below (w.heap.size + 1) (w.alloc (.cells #[v0, v1, v2] T)) x) : x.cell? ⟨w.heap.size, 0, none⟩ = some v0 ∧ x.cell? ⟨w.heap.size, 1, none⟩ = some v1 ∧ x.cell? ⟨w.heap.size, 2, none⟩ = some v2 :=
  cell_new3 (by simpa using h)
def S3 (B : Nat) (p0 p1 p2 : Value) (W0 x : World) : Prop := x.cell? ⟨B, 0, none⟩ = some p0 ∧ x.cell? ⟨B, 1, none⟩ = some p1 ∧ x.cell? ⟨B, 2, none⟩ = some p2 ∧ Hid (Below W0.heap.size W0 x)
theorem S3.of {B : Nat} {p0 p1 p2 : Value} {W0 x : World} (h : W0.cell? ⟨B, 0, none⟩ = some p0 ∧ W0.cell? ⟨B, 1, none⟩ = some p1 ∧ W0.cell? ⟨B, 2, none⟩ = some p2) (b : Below W0.heap.size W0 x) : S3 B p0 p1 p2 W0 x :=
  ⟨below_keeps b _ _ h.1, below_keeps b _ _ h.2.1, below_keeps b _ _ h.2.2, hide b⟩
theorem S3.on {B : Nat} {p0 p1 p2 : Value} {W0 x y : World} (h : S3 B p0 p1 p2 W0 x) (b : Below x.heap.size x y) : S3 B p0 p1 p2 W0 y :=
  ⟨below_keeps b _ _ h.1, below_keeps b _ _ h.2.1, below_keeps b _ _ h.2.2.1, hide (below_trans h.2.2.2.out b)⟩
def GoodTp (l : List Prc) (sent : Int) (k : Nat) : Prop := ∀ j (h : j < l.length), j < k → prcB sent l.length j l[j] = true
theorem GoodTp.step {l : List Prc} {sent : Int} {k : Nat} (h : GoodTp l sent k) (hk : k < l.length) (hb : prcB sent l.length k l[k] = true) : GoodTp l sent (k + 1) := fun j hj hjk => by
  rcases Nat.lt_or_ge j k with h1 | h1
  · exact h j hj h1
  · obtain rfl : j = k := by omega
    exact hb
theorem endB_no {l : List Prc} {sent got : Int} {k : Nat} (hk : k < l.length) (h : prcB sent l.length k l[k] = false) : endB ⟨l, sent, got⟩ = false := by
  have : decide (∀ j (h : j < l.length), prcB sent l.length j l[j] = true) = false := decide_eq_false (fun g => by have := g k hk; rw [h] at this; cases this)
  simp only [endB, this, Bool.and_false]
theorem endB_yes {l : List Prc} {sent got : Int} (h8 : l.length ≤ 8) (q : inB 0 1000000000 sent = true ∧ inB 0 1000000000 got = true) (h : GoodTp l sent l.length) : endB ⟨l, sent, got⟩ = true := by
  have : decide (∀ j (h : j < l.length), prcB sent l.length j l[j] = true) = true := decide_eq_true (fun j hj => h j hj hj)
  simp [endB, this, h8, q.1, q.2]
set_option maxHeartbeats 1000000 in
theorem aheadOfOut_any (v : Value) (a : Option Addr) (n cap : Nat) (sent got : Int) (w : World) (hn : n ≤ 8) (hs : 0 ≤ sent ∧ sent ≤ 1000000000) :
    Calls Try.prog 44 #[.agg #[.slice a n cap, .int .i64 sent, .int .i64 got]] w fun e w' => e = .returned (.int .i64 (sent - (n : Int))) ∧ Below w.heap.size w w' := by
  obtain ⟨s0, s1⟩ := hs
  go_enter Try.func44, Try.ntmps44
  go_wp2
  go_ret
  exact ⟨rfl, below_alloc (Below.refl _ _) _⟩
def pOkB (p : Prc) : Bool := inB 1 1000000000 p.seq && inB 1 1000000000000 p.amt
set_option maxHeartbeats 1000000 in
theorem parcelOk_any (s m : Int) (w : World) :
    Calls Try.prog 56 #[.agg #[.int .i64 s, .int .i64 m]] w fun e w' => e = .returned (.bool (pOkB ⟨s, m⟩)) ∧ Below w.heap.size w w' := by
  cases q1 : inB 1 1000000000 s
  · have HR : Hid (pOkB ⟨s, m⟩ = false) := hide (by simp [pOkB, q1])
    go_enter Try.func56, Try.ntmps56
    go_wp2_with (first | (go_at_call 41; refine (numberOk_any _ _).mono ?_; rintro e w' ⟨rfl, hw'⟩; have hw'' := hw'.symm; subst hw'') | (go_at_call 24; refine (within_any _ _ _ _).mono ?_; rintro e w' ⟨rfl, hw'⟩; have hw'' := hw'.symm; subst hw''))
    go_ret
    exact ⟨by rw [HR.out]; rfl, below_alloc (Below.refl _ _) _⟩
  · have HR : Hid (pOkB ⟨s, m⟩ = inB 1 1000000000000 m) := hide (by simp [pOkB, q1])
    go_enter Try.func56, Try.ntmps56
    go_wp2_with (first | (go_at_call 41; refine (numberOk_any _ _).mono ?_; rintro e w' ⟨rfl, hw'⟩; have hw'' := hw'.symm; subst hw'') | (go_at_call 24; refine (within_any _ _ _ _).mono ?_; rintro e w' ⟨rfl, hw'⟩; have hw'' := hw'.symm; subst hw''))
    go_ret
    exact ⟨by rw [HR.out]; rfl, below_alloc (Below.refl _ _) _⟩
theorem later_new2 {wr : World} {v0 v1 : Value} {T : TypeId} :
    (∀ x : Later (wr.alloc (.cells #[v0, v1] T)), x.w.cell? ⟨wr.heap.size, 0, none⟩ = some v0) ∧ (∀ x : Later (wr.alloc (.cells #[v0, v1] T)), x.w.cell? ⟨wr.heap.size, 1, none⟩ = some v1) := by
  have h1 : wr.heap.size < (wr.alloc (.cells #[v0, v1] T)).heap.size := by simp
  exact ⟨fun x => (x.below.cell h1).trans (World.cell?_alloc_at _ _ _ _ rfl), fun x => (x.below.cell h1).trans (World.cell?_alloc_at _ _ _ _ rfl)⟩
set_option maxRecDepth 100000 in
set_option maxHeartbeats 8000000 in
theorem implEndOk_any (a : Option Addr) (l : List Prc) (cap : Nat) (sent got : Int) (w : World) (hl : l.length ≤ 1048576) (h : RowAt 2 prcCells w a l) :
    Calls Try.prog 47 #[.agg #[.slice a l.length cap, .int .i64 sent, .int .i64 got]] w fun e w' => e = .returned (.bool (endB ⟨l, sent, got⟩)) ∧ Below w.heap.size w w' := by
  have HC : Hid _ := hide h
  clear h
  by_cases h8 : l.length ≤ 8
  · cases q1 : inB 0 1000000000 sent
    · have HR : Hid (endB ⟨l, sent, got⟩ = false) := hide (by simp [endB, q1])
      have a2 : ¬ (8 : Int) < (l.length : Int) := by omega
      go_enter Try.func47, Try.ntmps47
      go_wp2_with (first | (go_at_call 24; refine (within_any _ _ _ _).mono ?_; rintro e w' ⟨rfl, hw'⟩; have hw'' := hw'.symm; subst hw'') | fail)
      go_ret
      exact ⟨by rw [HR.out]; rfl, below_alloc (Below.refl _ _) _⟩
    · cases q2 : inB 0 1000000000 got
      · have HR : Hid (endB ⟨l, sent, got⟩ = false) := hide (by simp [endB, q2])
        have a2 : ¬ (8 : Int) < (l.length : Int) := by omega
        go_enter Try.func47, Try.ntmps47
        go_wp2_with (first | (go_at_call 24; refine (within_any _ _ _ _).mono ?_; rintro e w' ⟨rfl, hw'⟩; have hw'' := hw'.symm; subst hw'') | fail)
        go_ret
        exact ⟨by rw [HR.out]; rfl, below_alloc (Below.refl _ _) _⟩
      · have a2 : ¬ (8 : Int) < (l.length : Int) := by omega
        have hs : (0 : Int) ≤ sent ∧ sent ≤ 1000000000 := by simpa only [inB, decide_eq_true_eq] using q1
        obtain ⟨hs0, hs1⟩ := hs
        have HQ : Hid _ := hide (And.intro q1 q2)
        go_enter Try.func47, Try.ntmps47
        go_wp2_with (first | (go_at_call 24; refine (within_any _ _ _ _).mono ?_; rintro e w' ⟨rfl, hw'⟩; have hw'' := hw'.symm; subst hw'') | fail)
        go_loopw [24] (fun i wr => ∃ k : Nat, k ≤ l.length ∧ i = .int .i64 (k : Int) ∧ Below (w.heap.size + 1) (w.alloc (.cells #[.slice a l.length cap, .int .i64 sent, .int .i64 got] 48)) wr ∧ Hid (GoodTp l sent k)) (fun i wr => l.length - (intOf i).toNat)
        case atStart => exact ⟨0, Nat.zero_le _, rfl, Below.refl _ _, hide (fun j _ hj => by omega)⟩
        case round =>
          obtain ⟨k, hk, rfl, HB, HG⟩ := hrel
          obtain ⟨x0, x1, x2⟩ := box3 HB
          by_cases hlt : k < l.length
          · obtain ⟨b, off, rfl, hb, c0, c1⟩ := prc_row (HC.out.below (box_old HB)) k hlt
            have hlt' : (k : Int) < (l.length : Int) := by omega
            have hbx : w.heap.size < wr.heap.size := box_lt HB
            have x0' := later_old (o := .cells #[.int .i64 (l[k]).seq, .int .i64 (l[k]).amt] 81) hbx x0
            have x1' := later_old (o := .cells #[.int .i64 (l[k]).seq, .int .i64 (l[k]).amt] 81) hbx x1
            have x2' := later_old (o := .cells #[.int .i64 (l[k]).seq, .int .i64 (l[k]).amt] 81) hbx x2
            obtain ⟨s0', s1'⟩ := later_new2 (wr := wr) (v0 := .int .i64 (l[k]).seq) (v1 := .int .i64 (l[k]).amt) (T := 81)
            have hne : Nonempty (Later (wr.alloc (.cells #[.int .i64 (l[k]).seq, .int .i64 (l[k]).amt] 81))) := later_there _
            have hPB : prcB sent l.length k l[k] = (((l[k]).seq == sent - (l.length : Int) + 1 + (k : Int)) && decide (1 ≤ (l[k]).seq) && inB 1 1000000000000 (l[k]).amt) := rfl
            have HPB : Hid _ := hide hPB
            clear hPB x1 x2
            cases p1 : ((l[k]).seq != sent - (l.length : Int) + 1 + (k : Int))
            · have p1' : (l[k]).seq = sent - (l.length : Int) + 1 + (k : Int) := by simpa using p1
              have P1 : Hid (pOkB ⟨(l[k]).seq, (l[k]).amt⟩ = prcB sent l.length k l[k]) := hide (by
                have e1 : inB 1 1000000000 (l[k]).seq = decide (1 ≤ (l[k]).seq) := by
                  simp only [inB]
                  by_cases e : 1 ≤ (l[k]).seq
                  · rw [decide_eq_true e, decide_eq_true (And.intro e (by omega))]
                  · rw [decide_eq_false e, decide_eq_false (fun g => e g.1)]
                rw [HPB.out, show ((l[k]).seq == sent - (l.length : Int) + 1 + (k : Int)) = true by simpa using p1]
                simp only [pOkB, e1, Bool.true_and])
              clear p1'
              cases p2 : pOkB ⟨(l[k]).seq, (l[k]).amt⟩
              · have HR : Hid (endB ⟨l, sent, got⟩ = false) := hide (endB_no hlt (by rw [← P1.out]; exact p2))
                go_wp2_with fail
                refine wp_region_later (wr.alloc (.cells #[.int .i64 (l[k]).seq, .int .i64 (l[k]).amt] 81)) (by kernel_rfl) (by kernel_rfl) ((Below.refl _ _).drew) ?_
                repeat (go_big_quiet_step (first | (go_at_call 44; exact later_of (aheadOfOut_any (.bool true) _ _ _ _ _ _ h8 (And.intro hs0 hs1))) | (go_at_call 56; exact later_of (parcelOk_any _ _ _))))
                refine wpQuiet_nil ?_
                intro _ hw'
                obtain ⟨nx, rfl⟩ := hw'
                go_wp2
                go_ret
                exact ⟨by rw [HR.out]; rfl, box_old (box_on HB (below_trans (below_alloc (Below.refl _ _) _) nx.below))⟩
              · have HG2 : Hid (GoodTp l sent (k + 1)) := hide (HG.out.step hlt (by rw [← P1.out]; exact p2))
                go_wp2_with fail
                refine wp_region_later (wr.alloc (.cells #[.int .i64 (l[k]).seq, .int .i64 (l[k]).amt] 81)) (by kernel_rfl) (by kernel_rfl) ((Below.refl _ _).drew) ?_
                repeat (go_big_quiet_step (first | (go_at_call 44; exact later_of (aheadOfOut_any (.bool true) _ _ _ _ _ _ h8 (And.intro hs0 hs1))) | (go_at_call 56; exact later_of (parcelOk_any _ _ _))))
                refine wpQuiet_nil ?_
                intro _ hw'
                obtain ⟨nx, rfl⟩ := hw'
                go_wp2
                exact ⟨⟨k + 1, by omega, by go_num, box_on HB (below_trans (below_alloc (Below.refl _ _) _) nx.below), HG2⟩, by simp [intOf]; omega⟩
            · have HR : Hid (endB ⟨l, sent, got⟩ = false) := hide (endB_no hlt (by rw [HPB.out, show ((l[k]).seq == sent - (l.length : Int) + 1 + (k : Int)) = false by simpa using p1]; simp))
              go_wp2_with fail
              refine wp_region_later (wr.alloc (.cells #[.int .i64 (l[k]).seq, .int .i64 (l[k]).amt] 81)) (by kernel_rfl) (by kernel_rfl) ((Below.refl _ _).drew) ?_
              repeat (go_big_quiet_step (first | (go_at_call 44; exact later_of (aheadOfOut_any (.bool true) _ _ _ _ _ _ h8 (And.intro hs0 hs1))) | (go_at_call 56; exact later_of (parcelOk_any _ _ _))))
              refine wpQuiet_nil ?_
              intro _ hw'
              obtain ⟨nx, rfl⟩ := hw'
              go_wp2
              go_ret
              exact ⟨by rw [HR.out]; rfl, box_old (box_on HB (below_trans (below_alloc (Below.refl _ _) _) nx.below))⟩
          · have hk' : ¬ (k : Int) < (l.length : Int) := by omega
            have HR : Hid (endB ⟨l, sent, got⟩ = true) := hide (endB_yes h8 HQ.out (by have := HG.out; rwa [show k = l.length by omega] at this))
            go_wp2
            go_ret
            exact ⟨by rw [HR.out]; rfl, box_old HB⟩
  · have HR : Hid (endB ⟨l, sent, got⟩ = false) := hide (by simp [endB, h8])
    have a2 : (8 : Int) < (l.length : Int) := by omega
    go_enter Try.func47, Try.ntmps47
    go_wp2
    go_ret
    exact ⟨by rw [HR.out]; rfl, below_alloc (Below.refl _ _) _⟩
def openL (got : Int) : List Prc → Int
  | [] => 0
  | x :: xs => (if got < x.seq then x.amt else 0) + openL got xs
theorem openL_append (got : Int) (a b : List Prc) : openL got (a ++ b) = openL got a + openL got b := by
  induction a with
  | nil => simp [openL]
  | cons x xs ih => simp only [List.cons_append, openL, ih]; omega
theorem openL_bd (got : Int) (l : List Prc) (h : ∀ x ∈ l, 0 ≤ x.amt ∧ x.amt ≤ 1000000000000) : 0 ≤ openL got l ∧ openL got l ≤ 1000000000000 * l.length := by
  induction l with
  | nil => simp [openL]
  | cons x xs ih =>
    have h1 := h x (by simp)
    have h2 := ih (fun y hy => h y (by simp [hy]))
    simp only [openL, List.length_cons]
    split <;> omega
theorem endB_parts {E : En} (h : endB E = true) : E.out.length ≤ 8 ∧ (0 ≤ E.sent ∧ E.sent ≤ 1000000000) ∧ (0 ≤ E.got ∧ E.got ≤ 1000000000) ∧ ∀ j (hj : j < E.out.length), E.out[j].seq = E.sent - (E.out.length : Int) + 1 + (j : Int) ∧ 1 ≤ E.out[j].seq ∧ 1 ≤ E.out[j].amt ∧ E.out[j].amt ≤ 1000000000000 := by
  simp only [endB, Bool.and_eq_true, decide_eq_true_eq, inB] at h
  refine ⟨h.1.1.1, h.1.1.2, h.1.2, fun j hj => ?_⟩
  have := h.2 j hj
  simp only [prcB, Bool.and_eq_true, decide_eq_true_eq, beq_iff_eq, inB] at this
  exact ⟨this.1.1, this.1.2, this.2.1, this.2.2⟩
theorem endB_amts {E : En} (h : endB E = true) : ∀ x ∈ E.out, 0 ≤ x.amt ∧ x.amt ≤ 1000000000000 := fun x hx => by
  obtain ⟨i, hi, rfl⟩ := List.getElem_of_mem hx
  have := (endB_parts h).2.2.2 i hi
  omega
theorem open_take {E : En} (h : endB E = true) (got : Int) (k : Nat) : 0 ≤ openL got (E.out.take k) ∧ openL got (E.out.take k) ≤ 8000000000000 := by
  have h1 := openL_bd got (E.out.take k) (fun x hx => endB_amts h x (List.mem_of_mem_take hx))
  have h2 : (E.out.take k).length ≤ 8 := by rw [List.length_take]; have := (endB_parts h).1; omega
  omega
def openOf (E : En) (got : Int) : Int := if endB E then openL got E.out else -1
set_option maxRecDepth 100000 in
set_option maxHeartbeats 4000000 in
theorem implOpenOf_any (a : Option Addr) (l : List Prc) (cap : Nat) (sent got : Int) (n : Int) (w : World) (hl : l.length ≤ 1048576) (h : RowAt 2 prcCells w a l) :
    Calls Try.prog 36 #[.agg #[.slice a l.length cap, .int .i64 sent, .int .i64 got], .int .i64 n] w fun e w' => e = .returned (.int .i64 (openOf ⟨l, sent, got⟩ n)) ∧ Below w.heap.size w w' := by
  have HC : Hid _ := hide h
  clear h
  have HX0 : Hid (Below (w.heap.size + 1) (w.alloc (.cells #[.slice a l.length cap, .int .i64 sent, .int .i64 got] 48)) (w.alloc (.cells #[.slice a l.length cap, .int .i64 sent, .int .i64 got] 48))) := hide (Below.refl _ _)
  go_enter Try.func36, Try.ntmps36
  go_wp2_with fail
  refine (implEndOk_any a l cap sent got _ hl (HC.out.below (box_old HX0.out))).mono ?_
  rintro e w1 ⟨rfl, hb1⟩
  have HX1 : Hid _ := hide (box_on HX0.out hb1)
  clear hb1 HX0
  cases q : endB ⟨l, sent, got⟩
  · have HR : Hid (openOf ⟨l, sent, got⟩ n = -1) := hide (by simp [openOf, q])
    go_wp2
    go_ret
    exact ⟨by rw [HR.out]; rfl, box_old HX1.out⟩
  · have HR : Hid (openOf ⟨l, sent, got⟩ n = openL n l) := hide (by simp [openOf, q])
    have h8 : l.length ≤ 8 := (endB_parts q).1
    have HQ : Hid _ := hide q
    obtain ⟨x0, x1, x2⟩ := box3 HX1.out
    have HC1 : Hid _ := hide (HC.out.below (box_old HX1.out))
    clear q
    go_wp2
    go_loopw [5, 14] (fun s i wr => ∃ k : Nat, k ≤ l.length ∧ i = .int .i64 (k : Int) ∧ s = .int .i64 (openL n (l.take k)) ∧ Below w1.heap.size w1 wr) (fun s i wr => l.length - (intOf i).toNat)
    case atStart => exact ⟨0, Nat.zero_le _, rfl, rfl, Below.refl _ _⟩
    case round =>
      obtain ⟨k, hk, rfl, rfl, HB⟩ := hrel
      by_cases hlt : k < l.length
      · obtain ⟨b, off, rfl, hb, c0, c1⟩ := prc_row (HC1.out.below HB) k hlt
        obtain ⟨b0, b1⟩ := open_take HQ.out n k
        obtain ⟨m0, m1⟩ := endB_amts HQ.out (l[k]) (List.getElem_mem hlt)
        have hst : openL n (l.take (k + 1)) = openL n (l.take k) + (if n < (l[k]).seq then (l[k]).amt else 0) := by
          rw [take_next l k hlt, openL_append]; simp [openL]
        by_cases p : n < (l[k]).seq
        · have HT : Hid (openL n (l.take (k + 1)) = openL n (l.take k) + (l[k]).amt) := hide (by rw [hst, if_pos p])
          clear hst
          simp only at b0 b1
          generalize openL n (l.take k) = x at *
          go_wp2
          exact ⟨⟨k + 1, by omega, by go_num, by rw [HT.out], below_alloc HB _⟩, by simp [intOf]; omega⟩
        · have HT : Hid (openL n (l.take (k + 1)) = openL n (l.take k)) := hide (by rw [hst, if_neg p]; omega)
          clear hst
          simp only at b0 b1
          generalize openL n (l.take k) = x at *
          go_wp2
          exact ⟨⟨k + 1, by omega, by go_num, by rw [HT.out], below_alloc HB _⟩, by simp [intOf]; omega⟩
      · have HE : Hid (l.take k = l) := hide (by rw [List.take_of_length_le (by omega)])
        go_wp2
        go_ret
        exact ⟨by show Ending.returned (Value.int _ (openL n (l.take k))) = _; rw [HE.out, HR.out], below_trans (box_old HX1.out) HB⟩
end Go.Proofs.Ytilacamcedjbmaa
