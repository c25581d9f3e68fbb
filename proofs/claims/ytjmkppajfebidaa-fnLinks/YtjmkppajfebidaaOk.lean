/- The contracts of EndOk, of the program and of its model. -/
import Derived.Test.YtjmkppajfebidaaRow
namespace Go.Proofs.Ytjmkppajfebidaa
open Go.ChangeShapes Go.WideShapes Go.ChangeAt Go.RowKit
set_option linter.unusedVariables false
/-- the parcel at a place is as it must be -/
def prcB (sent : Int) (n : Nat) (j : Nat) (p : Prc) : Bool := (p.seq == sent - (n : Int) + 1 + (j : Int)) && decide (1 ≤ p.seq) && inB 1 1000000000000 p.amt
def GoodTo (l : List Prc) (sent : Int) (k : Nat) : Prop := ∀ j (h : j < l.length), j < k → prcB sent l.length j l[j] = true
theorem GoodTo.step {l : List Prc} {sent : Int} {k : Nat} (h : GoodTo l sent k) (hk : k < l.length) (hb : prcB sent l.length k l[k] = true) : GoodTo l sent (k + 1) := fun j hj hjk => by
  rcases Nat.lt_or_ge j k with h1 | h1
  · exact h j hj h1
  · obtain rfl : j = k := by omega
    exact hb
def endB (E : En) : Bool := decide (E.out.length ≤ 8) && inB 0 1000000000 E.sent && inB 0 1000000000 E.got && decide (∀ j (h : j < E.out.length), prcB E.sent E.out.length j E.out[j] = true)
theorem endB_no {l : List Prc} {sent got : Int} {k : Nat} (hk : k < l.length) (h : prcB sent l.length k l[k] = false) : endB ⟨l, sent, got⟩ = false := by
  have : decide (∀ j (h : j < l.length), prcB sent l.length j l[j] = true) = false := decide_eq_false (fun g => by have := g k hk; rw [h] at this; cases this)
  simp only [endB, this, Bool.and_false]
theorem endB_yes {l : List Prc} {sent got : Int} (h8 : l.length ≤ 8) (q : inB 0 1000000000 sent = true ∧ inB 0 1000000000 got = true) (h : GoodTo l sent l.length) : endB ⟨l, sent, got⟩ = true := by
  have : decide (∀ j (h : j < l.length), prcB sent l.length j l[j] = true) = true := decide_eq_true (fun j hj => h j hj hj)
  simp [endB, this, h8, q.1, q.2]
set_option maxRecDepth 100000 in
set_option maxHeartbeats 8000000 in
theorem specEndOk_any (a : Option Addr) (l : List Prc) (cap : Nat) (sent got : Int) (w : World) (hl : l.length ≤ 1048576) (h : RowAt 2 prcCells w a l) :
    Calls Try.prog 21 #[.agg #[.slice a l.length cap, .int .i64 sent, .int .i64 got]] w fun e w' => e = .returned (.bool (endB ⟨l, sent, got⟩)) ∧ Below w.heap.size w w' := by
  have HC : Hid _ := hide h
  clear h
  by_cases h8 : l.length ≤ 8
  · cases q1 : inB 0 1000000000 sent
    · have HR : Hid (endB ⟨l, sent, got⟩ = false) := hide (by simp [endB, q1])
      have a2 : ¬ (8 : Int) < (l.length : Int) := by omega
      go_enter Try.func21, Try.ntmps21
      go_wp2_with (first | (go_at_call 22; refine (l1In_any _ _ _ _).mono ?_; rintro e w' ⟨rfl, hw'⟩; have hw'' := hw'.symm; subst hw'') | fail)
      go_ret
      exact ⟨by rw [HR.out]; rfl, below_alloc (Below.refl _ _) _⟩
    · cases q2 : inB 0 1000000000 got
      · have HR : Hid (endB ⟨l, sent, got⟩ = false) := hide (by simp [endB, q2])
        have a2 : ¬ (8 : Int) < (l.length : Int) := by omega
        go_enter Try.func21, Try.ntmps21
        go_wp2_with (first | (go_at_call 22; refine (l1In_any _ _ _ _).mono ?_; rintro e w' ⟨rfl, hw'⟩; have hw'' := hw'.symm; subst hw'') | fail)
        go_ret
        exact ⟨by rw [HR.out]; rfl, below_alloc (Below.refl _ _) _⟩
      · have a2 : ¬ (8 : Int) < (l.length : Int) := by omega
        have hs : (0 : Int) ≤ sent ∧ sent ≤ 1000000000 := by simpa only [inB, decide_eq_true_eq] using q1
        obtain ⟨hs0, hs1⟩ := hs
        have HQ : Hid _ := hide (And.intro q1 q2)
        go_enter Try.func21, Try.ntmps21
        go_wp2_with (first | (go_at_call 22; refine (l1In_any _ _ _ _).mono ?_; rintro e w' ⟨rfl, hw'⟩; have hw'' := hw'.symm; subst hw'') | fail)
        go_loopw [3] (fun i wr => ∃ k : Nat, k ≤ l.length ∧ i = .int .i64 (k : Int) ∧ Below (w.heap.size + 1) (w.alloc (.cells #[.slice a l.length cap, .int .i64 sent, .int .i64 got] 26)) wr ∧ Hid (GoodTo l sent k)) (fun i wr => l.length - (intOf i).toNat)
        case atStart => exact ⟨0, Nat.zero_le _, rfl, Below.refl _ _, hide (fun j _ hj => by omega)⟩
        case round =>
          obtain ⟨k, hk, rfl, HB, HG⟩ := hrel
          obtain ⟨x0, x1, x2⟩ := box3 HB
          by_cases hlt : k < l.length
          · obtain ⟨b, off, rfl, hb, c0, c1⟩ := prc_row (HC.out.below (box_old HB)) k hlt
            have hlt' : (k : Int) < (l.length : Int) := by omega
            have x0' := later_cell x0
            have x1' := later_cell x1
            have c0' := later_cell c0
            have c1' := later_cell c1
            clear x1 x2 c0 c1
            have hne : Nonempty (Later wr) := later_there _
            have hPB : prcB sent l.length k l[k] = (((l[k]).seq == sent - (l.length : Int) + 1 + (k : Int)) && decide (1 ≤ (l[k]).seq) && inB 1 1000000000000 (l[k]).amt) := rfl
            have HPB : Hid _ := hide hPB
            clear hPB
            cases p1 : ((l[k]).seq != sent - (l.length : Int) + 1 + (k : Int))
            · have p1' : ((l[k]).seq == sent - (l.length : Int) + 1 + (k : Int)) = true := by simpa using p1
              have P1 : Hid _ := hide p1'
              clear p1'
              cases p2 : decide ((l[k]).seq < 1)
              · have P2 : Hid (decide (1 ≤ (l[k]).seq) = true) := hide (by simp at p2 ⊢; omega)
                cases p3 : inB 1 1000000000000 (l[k]).amt
                · have HR : Hid (endB ⟨l, sent, got⟩ = false) := hide (endB_no hlt (by rw [HPB.out, p3]; simp))
                  go_wp2_with fail
                  refine wp_region_later wr (by kernel_rfl) (by kernel_rfl) ((Below.refl _ _).drew) ?_
                  repeat (go_big_quiet_step (first | (go_at_call 22; exact later_same (l1In_any _ _ _ _))))
                  refine wpQuiet_nil ?_
                  intro _ hw'
                  obtain ⟨nx, rfl⟩ := hw'
                  go_wp2
                  go_ret
                  exact ⟨by rw [HR.out]; rfl, box_old (box_on HB nx.below)⟩
                · have HG2 : Hid (GoodTo l sent (k + 1)) := hide (HG.out.step hlt (by rw [HPB.out, P1.out, P2.out, p3]; rfl))
                  go_wp2_with fail
                  refine wp_region_later wr (by kernel_rfl) (by kernel_rfl) ((Below.refl _ _).drew) ?_
                  repeat (go_big_quiet_step (first | (go_at_call 22; exact later_same (l1In_any _ _ _ _))))
                  refine wpQuiet_nil ?_
                  intro _ hw'
                  obtain ⟨nx, rfl⟩ := hw'
                  go_wp2
                  exact ⟨⟨k + 1, by omega, by go_num, box_on HB nx.below, HG2⟩, by simp [intOf]; omega⟩
              · have HR : Hid (endB ⟨l, sent, got⟩ = false) := hide (endB_no hlt (by rw [HPB.out, show decide (1 ≤ (l[k]).seq) = false by simp at p2 ⊢; omega]; simp))
                go_wp2_with fail
                refine wp_region_later wr (by kernel_rfl) (by kernel_rfl) ((Below.refl _ _).drew) ?_
                repeat (go_big_quiet_step (first | (go_at_call 22; exact later_same (l1In_any _ _ _ _))))
                refine wpQuiet_nil ?_
                intro _ hw'
                obtain ⟨nx, rfl⟩ := hw'
                go_wp2
                go_ret
                exact ⟨by rw [HR.out]; rfl, box_old (box_on HB nx.below)⟩
            · have HR : Hid (endB ⟨l, sent, got⟩ = false) := hide (endB_no hlt (by rw [HPB.out, show ((l[k]).seq == sent - (l.length : Int) + 1 + (k : Int)) = false by simpa using p1]; simp))
              go_wp2_with fail
              refine wp_region_later wr (by kernel_rfl) (by kernel_rfl) ((Below.refl _ _).drew) ?_
              repeat (go_big_quiet_step (first | (go_at_call 22; exact later_same (l1In_any _ _ _ _))))
              refine wpQuiet_nil ?_
              intro _ hw'
              obtain ⟨nx, rfl⟩ := hw'
              go_wp2
              go_ret
              exact ⟨by rw [HR.out]; rfl, box_old (box_on HB nx.below)⟩
          · have hk' : ¬ (k : Int) < (l.length : Int) := by omega
            have HR : Hid (endB ⟨l, sent, got⟩ = true) := hide (endB_yes h8 HQ.out (by have := HG.out; rwa [show k = l.length by omega] at this))
            go_wp2
            go_ret
            exact ⟨by rw [HR.out]; rfl, box_old HB⟩
  · have HR : Hid (endB ⟨l, sent, got⟩ = false) := hide (by simp [endB, h8])
    have a2 : (8 : Int) < (l.length : Int) := by omega
    go_enter Try.func21, Try.ntmps21
    go_wp2
    go_ret
    exact ⟨by rw [HR.out]; rfl, below_alloc (Below.refl _ _) _⟩
set_option maxHeartbeats 1000000 in
theorem aheadOfOut_any (v : Value) (a : Option Addr) (n cap : Nat) (sent got : Int) (w : World) (hn : n ≤ 8) (hs : 0 ≤ sent ∧ sent ≤ 1000000000) :
    Calls Try.prog 26 #[.agg #[.slice a n cap, .int .i64 sent, .int .i64 got]] w fun e w' => e = .returned (.int .i64 (sent - (n : Int))) ∧ Below w.heap.size w w' := by
  obtain ⟨s0, s1⟩ := hs
  go_enter Try.func26, Try.ntmps26
  go_wp2
  go_ret
  exact ⟨rfl, below_alloc (Below.refl _ _) _⟩
def pOkB (p : Prc) : Bool := inB 1 1000000000 p.seq && inB 1 1000000000000 p.amt
set_option maxHeartbeats 1000000 in
theorem parcelOk_any (s m : Int) (w : World) :
    Calls Try.prog 23 #[.agg #[.int .i64 s, .int .i64 m]] w fun e w' => e = .returned (.bool (pOkB ⟨s, m⟩)) ∧ Below w.heap.size w w' := by
  cases q1 : inB 1 1000000000 s
  · have HR : Hid (pOkB ⟨s, m⟩ = false) := hide (by simp [pOkB, q1])
    go_enter Try.func23, Try.ntmps23
    go_wp2_with (first | (go_at_call 31; refine (numberOk_any _ _).mono ?_; rintro e w' ⟨rfl, hw'⟩; have hw'' := hw'.symm; subst hw'') | (go_at_call 16; refine (within_any _ _ _ _).mono ?_; rintro e w' ⟨rfl, hw'⟩; have hw'' := hw'.symm; subst hw''))
    go_ret
    exact ⟨by rw [HR.out]; rfl, below_alloc (Below.refl _ _) _⟩
  · have HR : Hid (pOkB ⟨s, m⟩ = inB 1 1000000000000 m) := hide (by simp [pOkB, q1])
    go_enter Try.func23, Try.ntmps23
    go_wp2_with (first | (go_at_call 31; refine (numberOk_any _ _).mono ?_; rintro e w' ⟨rfl, hw'⟩; have hw'' := hw'.symm; subst hw'') | (go_at_call 16; refine (within_any _ _ _ _).mono ?_; rintro e w' ⟨rfl, hw'⟩; have hw'' := hw'.symm; subst hw''))
    go_ret
    exact ⟨by rw [HR.out]; rfl, below_alloc (Below.refl _ _) _⟩
theorem later_new2 {wr : World} {v0 v1 : Value} {T : TypeId} :
    (∀ x : Later (wr.alloc (.cells #[v0, v1] T)), x.w.cell? ⟨wr.heap.size, 0, none⟩ = some v0) ∧ (∀ x : Later (wr.alloc (.cells #[v0, v1] T)), x.w.cell? ⟨wr.heap.size, 1, none⟩ = some v1) := by
  have h1 : wr.heap.size < (wr.alloc (.cells #[v0, v1] T)).heap.size := by simp
  exact ⟨fun x => (x.below.cell h1).trans (World.cell?_alloc_at _ _ _ _ rfl), fun x => (x.below.cell h1).trans (World.cell?_alloc_at _ _ _ _ rfl)⟩
set_option maxRecDepth 100000 in
set_option maxHeartbeats 8000000 in
theorem implEndOk_any (a : Option Addr) (l : List Prc) (cap : Nat) (sent got : Int) (w : World) (hl : l.length ≤ 1048576) (h : RowAt 2 prcCells w a l) :
    Calls Try.prog 12 #[.agg #[.slice a l.length cap, .int .i64 sent, .int .i64 got]] w fun e w' => e = .returned (.bool (endB ⟨l, sent, got⟩)) ∧ Below w.heap.size w w' := by
  have HC : Hid _ := hide h
  clear h
  by_cases h8 : l.length ≤ 8
  · cases q1 : inB 0 1000000000 sent
    · have HR : Hid (endB ⟨l, sent, got⟩ = false) := hide (by simp [endB, q1])
      have a2 : ¬ (8 : Int) < (l.length : Int) := by omega
      go_enter Try.func12, Try.ntmps12
      go_wp2_with (first | (go_at_call 16; refine (within_any _ _ _ _).mono ?_; rintro e w' ⟨rfl, hw'⟩; have hw'' := hw'.symm; subst hw'') | fail)
      go_ret
      exact ⟨by rw [HR.out]; rfl, below_alloc (Below.refl _ _) _⟩
    · cases q2 : inB 0 1000000000 got
      · have HR : Hid (endB ⟨l, sent, got⟩ = false) := hide (by simp [endB, q2])
        have a2 : ¬ (8 : Int) < (l.length : Int) := by omega
        go_enter Try.func12, Try.ntmps12
        go_wp2_with (first | (go_at_call 16; refine (within_any _ _ _ _).mono ?_; rintro e w' ⟨rfl, hw'⟩; have hw'' := hw'.symm; subst hw'') | fail)
        go_ret
        exact ⟨by rw [HR.out]; rfl, below_alloc (Below.refl _ _) _⟩
      · have a2 : ¬ (8 : Int) < (l.length : Int) := by omega
        have hs : (0 : Int) ≤ sent ∧ sent ≤ 1000000000 := by simpa only [inB, decide_eq_true_eq] using q1
        obtain ⟨hs0, hs1⟩ := hs
        have HQ : Hid _ := hide (And.intro q1 q2)
        go_enter Try.func12, Try.ntmps12
        go_wp2_with (first | (go_at_call 16; refine (within_any _ _ _ _).mono ?_; rintro e w' ⟨rfl, hw'⟩; have hw'' := hw'.symm; subst hw'') | fail)
        go_loopw [24] (fun i wr => ∃ k : Nat, k ≤ l.length ∧ i = .int .i64 (k : Int) ∧ Below (w.heap.size + 1) (w.alloc (.cells #[.slice a l.length cap, .int .i64 sent, .int .i64 got] 26)) wr ∧ Hid (GoodTo l sent k)) (fun i wr => l.length - (intOf i).toNat)
        case atStart => exact ⟨0, Nat.zero_le _, rfl, Below.refl _ _, hide (fun j _ hj => by omega)⟩
        case round =>
          obtain ⟨k, hk, rfl, HB, HG⟩ := hrel
          obtain ⟨x0, x1, x2⟩ := box3 HB
          by_cases hlt : k < l.length
          · obtain ⟨b, off, rfl, hb, c0, c1⟩ := prc_row (HC.out.below (box_old HB)) k hlt
            have hlt' : (k : Int) < (l.length : Int) := by omega
            have hbx : w.heap.size < wr.heap.size := box_lt HB
            have x0' := later_old (o := .cells #[.int .i64 (l[k]).seq, .int .i64 (l[k]).amt] 30) hbx x0
            have x1' := later_old (o := .cells #[.int .i64 (l[k]).seq, .int .i64 (l[k]).amt] 30) hbx x1
            have x2' := later_old (o := .cells #[.int .i64 (l[k]).seq, .int .i64 (l[k]).amt] 30) hbx x2
            obtain ⟨s0', s1'⟩ := later_new2 (wr := wr) (v0 := .int .i64 (l[k]).seq) (v1 := .int .i64 (l[k]).amt) (T := 30)
            have hne : Nonempty (Later (wr.alloc (.cells #[.int .i64 (l[k]).seq, .int .i64 (l[k]).amt] 30))) := later_there _
            have hPB : prcB sent l.length k l[k] = (((l[k]).seq == sent - (l.length : Int) + 1 + (k : Int)) && decide (1 ≤ (l[k]).seq) && inB 1 1000000000000 (l[k]).amt) := rfl
            have HPB : Hid _ := hide hPB
            clear hPB x1 x2
            cases p1 : ((l[k]).seq != sent - (l.length : Int) + 1 + (k : Int))
            · have p1' : (l[k]).seq = sent - (l.length : Int) + 1 + (k : Int) := by simpa using p1
              have P1 : Hid (pOkB ⟨(l[k]).seq, (l[k]).amt⟩ = prcB sent l.length k l[k]) := hide (by
                have e1 : inB 1 1000000000 (l[k]).seq = decide (1 ≤ (l[k]).seq) := by
                  simp only [inB]
                  by_cases e : 1 ≤ (l[k]).seq
                  · rw [decide_eq_true e, decide_eq_true (And.intro e (by omega))]
                  · rw [decide_eq_false e, decide_eq_false (fun g => e g.1)]
                rw [HPB.out, show ((l[k]).seq == sent - (l.length : Int) + 1 + (k : Int)) = true by simpa using p1]
                simp only [pOkB, e1, Bool.true_and])
              clear p1'
              cases p2 : pOkB ⟨(l[k]).seq, (l[k]).amt⟩
              · have HR : Hid (endB ⟨l, sent, got⟩ = false) := hide (endB_no hlt (by rw [← P1.out]; exact p2))
                go_wp2_with fail
                refine wp_region_later (wr.alloc (.cells #[.int .i64 (l[k]).seq, .int .i64 (l[k]).amt] 30)) (by kernel_rfl) (by kernel_rfl) ((Below.refl _ _).drew) ?_
                repeat (go_big_quiet_step (first | (go_at_call 26; exact later_of (aheadOfOut_any (.bool true) _ _ _ _ _ _ h8 (And.intro hs0 hs1))) | (go_at_call 23; exact later_of (parcelOk_any _ _ _))))
                refine wpQuiet_nil ?_
                intro _ hw'
                obtain ⟨nx, rfl⟩ := hw'
                go_wp2
                go_ret
                exact ⟨by rw [HR.out]; rfl, box_old (box_on HB (below_trans (below_alloc (Below.refl _ _) _) nx.below))⟩
              · have HG2 : Hid (GoodTo l sent (k + 1)) := hide (HG.out.step hlt (by rw [← P1.out]; exact p2))
                go_wp2_with fail
                refine wp_region_later (wr.alloc (.cells #[.int .i64 (l[k]).seq, .int .i64 (l[k]).amt] 30)) (by kernel_rfl) (by kernel_rfl) ((Below.refl _ _).drew) ?_
                repeat (go_big_quiet_step (first | (go_at_call 26; exact later_of (aheadOfOut_any (.bool true) _ _ _ _ _ _ h8 (And.intro hs0 hs1))) | (go_at_call 23; exact later_of (parcelOk_any _ _ _))))
                refine wpQuiet_nil ?_
                intro _ hw'
                obtain ⟨nx, rfl⟩ := hw'
                go_wp2
                exact ⟨⟨k + 1, by omega, by go_num, box_on HB (below_trans (below_alloc (Below.refl _ _) _) nx.below), HG2⟩, by simp [intOf]; omega⟩
            · have HR : Hid (endB ⟨l, sent, got⟩ = false) := hide (endB_no hlt (by rw [HPB.out, show ((l[k]).seq == sent - (l.length : Int) + 1 + (k : Int)) = false by simpa using p1]; simp))
              go_wp2_with fail
              refine wp_region_later (wr.alloc (.cells #[.int .i64 (l[k]).seq, .int .i64 (l[k]).amt] 30)) (by kernel_rfl) (by kernel_rfl) ((Below.refl _ _).drew) ?_
              repeat (go_big_quiet_step (first | (go_at_call 26; exact later_of (aheadOfOut_any (.bool true) _ _ _ _ _ _ h8 (And.intro hs0 hs1))) | (go_at_call 23; exact later_of (parcelOk_any _ _ _))))
              refine wpQuiet_nil ?_
              intro _ hw'
              obtain ⟨nx, rfl⟩ := hw'
              go_wp2
              go_ret
              exact ⟨by rw [HR.out]; rfl, box_old (box_on HB (below_trans (below_alloc (Below.refl _ _) _) nx.below))⟩
          · have hk' : ¬ (k : Int) < (l.length : Int) := by omega
            have HR : Hid (endB ⟨l, sent, got⟩ = true) := hide (endB_yes h8 HQ.out (by have := HG.out; rwa [show k = l.length by omega] at this))
            go_wp2
            go_ret
            exact ⟨by rw [HR.out]; rfl, box_old HB⟩
  · have HR : Hid (endB ⟨l, sent, got⟩ = false) := hide (by simp [endB, h8])
    have a2 : (8 : Int) < (l.length : Int) := by omega
    go_enter Try.func12, Try.ntmps12
    go_wp2
    go_ret
    exact ⟨by rw [HR.out]; rfl, below_alloc (Below.refl _ _) _⟩
end Go.Proofs.Ytjmkppajfebidaa
