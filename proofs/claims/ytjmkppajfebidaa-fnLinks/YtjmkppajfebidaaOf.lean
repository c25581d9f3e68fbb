/- The contracts of OpenOf, of the program and of its model. -/
import Derived.Test.YtjmkppajfebidaaOk
namespace Go.Proofs.Ytjmkppajfebidaa
open Go.ChangeShapes Go.WideShapes Go.ChangeAt Go.RowKit
set_option linter.unusedVariables false
def openL (got : Int) : List Prc → Int
  | [] => 0
  | x :: xs => (if got < x.seq then x.amt else 0) + openL got xs
theorem openL_append (got : Int) (a b : List Prc) : openL got (a ++ b) = openL got a + openL got b := by
  induction a with
  | nil => simp [openL]
  | cons x xs ih => simp only [List.cons_append, openL, ih]; omega
theorem openL_bd (got : Int) (l : List Prc) (h : ∀ x ∈ l, 0 ≤ x.amt ∧ x.amt ≤ 1000000000000) : 0 ≤ openL got l ∧ openL got l ≤ 1000000000000 * l.length := by
  induction l with
  | nil => simp [openL]
  | cons x xs ih =>
    have h1 := h x (by simp)
    have h2 := ih (fun y hy => h y (by simp [hy]))
    simp only [openL, List.length_cons]
    split <;> omega
theorem endB_parts {E : En} (h : endB E = true) : E.out.length ≤ 8 ∧ (0 ≤ E.sent ∧ E.sent ≤ 1000000000) ∧ (0 ≤ E.got ∧ E.got ≤ 1000000000) ∧ ∀ j (hj : j < E.out.length), E.out[j].seq = E.sent - (E.out.length : Int) + 1 + (j : Int) ∧ 1 ≤ E.out[j].seq ∧ 1 ≤ E.out[j].amt ∧ E.out[j].amt ≤ 1000000000000 := by
  simp only [endB, Bool.and_eq_true, decide_eq_true_eq, inB] at h
  refine ⟨h.1.1.1, h.1.1.2, h.1.2, fun j hj => ?_⟩
  have := h.2 j hj
  simp only [prcB, Bool.and_eq_true, decide_eq_true_eq, beq_iff_eq, inB] at this
  exact ⟨this.1.1, this.1.2, this.2.1, this.2.2⟩
theorem endB_amts {E : En} (h : endB E = true) : ∀ x ∈ E.out, 0 ≤ x.amt ∧ x.amt ≤ 1000000000000 := fun x hx => by
  obtain ⟨i, hi, rfl⟩ := List.getElem_of_mem hx
  have := (endB_parts h).2.2.2 i hi
  omega
theorem open_take {E : En} (h : endB E = true) (got : Int) (k : Nat) : 0 ≤ openL got (E.out.take k) ∧ openL got (E.out.take k) ≤ 8000000000000 := by
  have h1 := openL_bd got (E.out.take k) (fun x hx => endB_amts h x (List.mem_of_mem_take hx))
  have h2 : (E.out.take k).length ≤ 8 := by rw [List.length_take]; have := (endB_parts h).1; omega
  omega
def openOf (E : En) (got : Int) : Int := if endB E then openL got E.out else -1
set_option maxRecDepth 100000 in
set_option maxHeartbeats 4000000 in
theorem implOpenOf_any (a : Option Addr) (l : List Prc) (cap : Nat) (sent got : Int) (n : Int) (w : World) (hl : l.length ≤ 1048576) (h : RowAt 2 prcCells w a l) :
    Calls Try.prog 11 #[.agg #[.slice a l.length cap, .int .i64 sent, .int .i64 got], .int .i64 n] w fun e w' => e = .returned (.int .i64 (openOf ⟨l, sent, got⟩ n)) ∧ Below w.heap.size w w' := by
  have HC : Hid _ := hide h
  clear h
  have HX0 : Hid (Below (w.heap.size + 1) (w.alloc (.cells #[.slice a l.length cap, .int .i64 sent, .int .i64 got] 26)) (w.alloc (.cells #[.slice a l.length cap, .int .i64 sent, .int .i64 got] 26))) := hide (Below.refl _ _)
  go_enter Try.func11, Try.ntmps11
  go_wp2_with fail
  refine (implEndOk_any a l cap sent got _ hl (HC.out.below (box_old HX0.out))).mono ?_
  rintro e w1 ⟨rfl, hb1⟩
  have HX1 : Hid _ := hide (box_on HX0.out hb1)
  clear hb1 HX0
  cases q : endB ⟨l, sent, got⟩
  · have HR : Hid (openOf ⟨l, sent, got⟩ n = -1) := hide (by simp [openOf, q])
    go_wp2
    go_ret
    exact ⟨by rw [HR.out]; rfl, box_old HX1.out⟩
  · have HR : Hid (openOf ⟨l, sent, got⟩ n = openL n l) := hide (by simp [openOf, q])
    have h8 : l.length ≤ 8 := (endB_parts q).1
    have HQ : Hid _ := hide q
    obtain ⟨x0, x1, x2⟩ := box3 HX1.out
    have HC1 : Hid _ := hide (HC.out.below (box_old HX1.out))
    clear q
    go_wp2
    go_loopw [5, 14] (fun s i wr => ∃ k : Nat, k ≤ l.length ∧ i = .int .i64 (k : Int) ∧ s = .int .i64 (openL n (l.take k)) ∧ Below w1.heap.size w1 wr) (fun s i wr => l.length - (intOf i).toNat)
    case atStart => exact ⟨0, Nat.zero_le _, rfl, rfl, Below.refl _ _⟩
    case round =>
      obtain ⟨k, hk, rfl, rfl, HB⟩ := hrel
      by_cases hlt : k < l.length
      · obtain ⟨b, off, rfl, hb, c0, c1⟩ := prc_row (HC1.out.below HB) k hlt
        obtain ⟨b0, b1⟩ := open_take HQ.out n k
        obtain ⟨m0, m1⟩ := endB_amts HQ.out (l[k]) (List.getElem_mem hlt)
        have hst : openL n (l.take (k + 1)) = openL n (l.take k) + (if n < (l[k]).seq then (l[k]).amt else 0) := by
          rw [take_next l k hlt, openL_append]; simp [openL]
        by_cases p : n < (l[k]).seq
        · have HT : Hid (openL n (l.take (k + 1)) = openL n (l.take k) + (l[k]).amt) := hide (by rw [hst, if_pos p])
          clear hst
          simp only at b0 b1
          generalize openL n (l.take k) = x at *
          go_wp2
          exact ⟨⟨k + 1, by omega, by go_num, by rw [HT.out], below_alloc HB _⟩, by simp [intOf]; omega⟩
        · have HT : Hid (openL n (l.take (k + 1)) = openL n (l.take k)) := hide (by rw [hst, if_neg p]; omega)
          clear hst
          simp only at b0 b1
          generalize openL n (l.take k) = x at *
          go_wp2
          exact ⟨⟨k + 1, by omega, by go_num, by rw [HT.out], below_alloc HB _⟩, by simp [intOf]; omega⟩
      · have HE : Hid (l.take k = l) := hide (by rw [List.take_of_length_le (by omega)])
        go_wp2
        go_ret
        exact ⟨by show Ending.returned (Value.int _ (openL n (l.take k))) = _; rw [HE.out, HR.out], below_trans (box_old HX1.out) HB⟩
end Go.Proofs.Ytjmkppajfebidaa
