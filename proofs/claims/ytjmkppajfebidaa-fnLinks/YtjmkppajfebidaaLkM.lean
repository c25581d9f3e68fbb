/- Six parcels: what is packed, received and acknowledged of them. -/
import Derived.Test.YtjmkppajfebidaaPk
import Derived.Test.YtjmkppajfebidaaDrE
import Derived.Test.YtjmkppajfebidaaOf
namespace Go.Proofs.Ytjmkppajfebidaa
open Go.ChangeShapes Go.WideShapes Go.ChangeAt Go.RowKit
set_option linter.unusedVariables false
def par (m : Int) (k : Nat) : List Prc := (List.range k).map (fun (i : Nat) => ⟨(i : Int) + 1, m + (i : Int) + 1⟩)
def EA (m : Int) (k : Nat) : En := ⟨par m k, (k : Int), 0⟩
def EB (g : Nat) : En := ⟨[], 0, (g : Int)⟩
def EC (m : Int) (d : Nat) : En := ackE (EA m 6) (d : Int)
def preS (m : Int) : Nat → Int
  | 0 => 0
  | k + 1 => preS m k + (m + (k : Int) + 1)
theorem par_len (m : Int) (k : Nat) : (par m k).length = k := by simp [par]
theorem par_get (m : Int) (k i : Nat) (h : i < (par m k).length) : (par m k)[i] = ⟨(i : Int) + 1, m + (i : Int) + 1⟩ := by simp [par]
theorem par_succ (m : Int) (k : Nat) : par m (k + 1) = par m k ++ [⟨(k : Int) + 1, m + (k : Int) + 1⟩] := by simp [par, List.range_succ]
theorem EA_right {m : Int} {k : Nat} (h0 : 0 ≤ m) (h1 : m ≤ 999) (hk : k ≤ 6) : endB (EA m k) = true := by
  refine endB_yes (by rw [par_len]; omega) ⟨by simp [inB]; omega, by simp [inB]⟩ ?_
  intro j hj hj2
  rw [par_len] at hj
  rw [par_get, par_len]
  simp only [prcB, inB]
  simp
  omega
theorem EA_zero (m : Int) : EA m 0 = ⟨[], 0, 0⟩ := rfl
theorem pk_small {E : En} {n : Int} (h : n < 1) : pkOk E n = false := by
  have : inB 1 1000000000000 n = false := by simp [inB]; omega
  simp [pkOk, this]
theorem EA_pack {m : Int} {k : Nat} (h0 : 0 ≤ m) (h1 : m ≤ 999) (hk : k < 6) : pkOk (EA m k) (m + (k : Int) + 1) = true ∧ pkE (EA m k) (m + (k : Int) + 1) = EA m (k + 1) ∧ pkP (EA m k) (m + (k : Int) + 1) = ⟨(k : Int) + 1, m + (k : Int) + 1⟩ := by
  have hok : pkOk (EA m k) (m + (k : Int) + 1) = true := by
    have hi : inB 1 1000000000000 (m + (k : Int) + 1) = true := by simp [inB]; omega
    have hl : ((EA m k).out.length == 8) = false := by simp [EA, par_len]; omega
    have hs : ((EA m k).sent == 1000000000) = false := by simp [EA]; omega
    simp only [pkOk, EA_right h0 h1 (Nat.le_of_lt hk), hi, hl, hs]; rfl
  refine ⟨hok, ?_, ?_⟩
  · simp only [pkE, hok, if_true]
    simp only [EA, par_succ]
    simp
  · simp only [pkP, hok, if_true]; rfl
theorem EB_right {g : Nat} (h : g ≤ 6) : endB (EB g) = true := endB_yes (by simp) ⟨by simp [inB], by simp [inB]; omega⟩ (fun j hj => by simp at hj)
theorem EB_rcv {m : Int} {g c : Nat} (h0 : 0 ≤ m) (h1 : m ≤ 999) (hg : g ≤ 6) (hc : c < 6) : (c = g ∧ rcvE (EB g) ⟨(c : Int) + 1, m + (c : Int) + 1⟩ = EB (g + 1) ∧ rcvX (EB g) ⟨(c : Int) + 1, m + (c : Int) + 1⟩ = m + (g : Int) + 1 ∧ rcvY (EB g) ⟨(c : Int) + 1, m + (c : Int) + 1⟩ = (g : Int) + 1) ∨
    (rcvE (EB g) ⟨(c : Int) + 1, m + (c : Int) + 1⟩ = EB g ∧ rcvX (EB g) ⟨(c : Int) + 1, m + (c : Int) + 1⟩ = 0 ∧ rcvY (EB g) ⟨(c : Int) + 1, m + (c : Int) + 1⟩ = (g : Int)) := by
  have hp : pOkB ⟨(c : Int) + 1, m + (c : Int) + 1⟩ = true := by simp [pOkB, inB]; omega
  have hok : rcvOk (EB g) ⟨(c : Int) + 1, m + (c : Int) + 1⟩ = true := by simp [rcvOk, EB_right hg, hp]
  by_cases hcg : c = g
  · subst hcg
    refine .inl ⟨rfl, ?_, ?_, ?_⟩
    · simp only [rcvE, hok, if_true]; simp [EB]
    · simp only [rcvX, hok, if_true]; simp [EB]
    · simp only [rcvY, hok, if_true]; simp [EB]
  · have hne : ¬ (c : Int) + 1 = (EB g).got + 1 := by simp [EB]; omega
    refine .inr ⟨?_, ?_, ?_⟩
    · simp only [rcvE, hok, if_true]; rw [if_neg hne]
    · simp only [rcvX, hok, if_true]; rw [if_neg hne]
    · simp only [rcvY, hok, if_true]; rw [if_neg hne]; rfl
theorem EA_ackOk {m : Int} {d : Nat} (h0 : 0 ≤ m) (h1 : m ≤ 999) (hd : d ≤ 6) : ackOk (EA m 6) (d : Int) = true := by
  have hi : inB 0 (EA m 6).sent (d : Int) = true := by simp [inB, EA]; omega
  simp [ackOk, EA_right h0 h1 (Nat.le_refl 6), hi]
theorem EC_is {m : Int} {d : Nat} (h0 : 0 ≤ m) (h1 : m ≤ 999) (hd : d ≤ 6) : EC m d = ⟨(par m 6).filter (fun p => decide ((d : Int) < p.seq)), 6, 0⟩ := by
  simp only [EC, ackE, EA_ackOk h0 h1 hd, if_true]
  rfl
theorem EC_zero {m : Int} (h0 : 0 ≤ m) (h1 : m ≤ 999) : EC m 0 = EA m 6 := by
  rw [EC_is h0 h1 (by omega)]
  simp only [EA, En.mk.injEq, and_true]
  refine ⟨?_, rfl⟩
  refine List.filter_eq_self.2 (fun x hx => ?_)
  obtain ⟨i, hi, rfl⟩ := List.getElem_of_mem hx
  rw [par_get]
  simp
theorem EC_right {m : Int} {d : Nat} (h0 : 0 ≤ m) (h1 : m ≤ 999) (hd : d ≤ 6) : endB (EC m d) = true := ack_right (EA_right h0 h1 (Nat.le_refl 6)) _
theorem EC_ack {m : Int} {d g : Nat} (h0 : 0 ≤ m) (h1 : m ≤ 999) (hd : d ≤ g) (hg : g ≤ 6) : ackOk (EC m d) (g : Int) = true ∧ ackE (EC m d) (g : Int) = EC m g := by
  have hok : ackOk (EC m d) (g : Int) = true := by
    have hi : inB 0 (EC m d).sent (g : Int) = true := by rw [EC_is h0 h1 (by omega)]; simp [inB]; omega
    simp [ackOk, EC_right h0 h1 (show d ≤ 6 by omega), hi]
  refine ⟨hok, ?_⟩
  simp only [ackE, hok, if_true]
  rw [EC_is h0 h1 (by omega), EC_is h0 h1 hg]
  simp only [En.mk.injEq, and_true]
  rw [List.filter_filter]
  congr 1
  funext p
  by_cases h : (g : Int) < p.seq
  · have h' : (d : Int) < p.seq := by omega
    simp [h, h']
  · simp [h]
theorem EC_len {m : Int} {d : Nat} (h0 : 0 ≤ m) (h1 : m ≤ 999) (hd : d ≤ 6) : (EC m d).out.length ≤ 6 := by
  rw [EC_is h0 h1 hd]
  have := List.length_filter_le (fun p => decide ((d : Int) < p.seq)) (par m 6)
  rw [par_len] at this
  exact this
theorem openL_sub (d g : Int) (h : d ≤ g) (l : List Prc) : openL g (l.filter (fun p => decide (d < p.seq))) = openL g l := by
  induction l with
  | nil => rfl
  | cons x t ih =>
    by_cases hx : d < x.seq
    · rw [List.filter_cons_of_pos (by simpa using hx)]; simp only [openL, ih]
    · have hg : ¬ g < x.seq := by omega
      rw [List.filter_cons_of_neg (by simpa using hx), ih]; simp [openL, hg]
theorem par_open (m : Int) (k g : Nat) : g ≤ k → openL (g : Int) (par m k) = preS m k - preS m g := by
  induction k with
  | zero => intro h; obtain rfl : g = 0 := (by omega); simp [par, openL, preS]
  | succ k ih =>
    intro h
    rw [par_succ, openL_append]
    by_cases hg : g ≤ k
    · rw [ih hg]
      have h2 : (g : Int) < (k : Int) + 1 := by omega
      simp only [openL, h2, if_true, preS]
      omega
    · obtain rfl : g = k + 1 := by omega
      have h0 : openL ((k + 1 : Nat) : Int) (par m k) = 0 := by
        have : ∀ l : List Prc, (∀ x ∈ l, x.seq ≤ ((k + 1 : Nat) : Int)) → openL ((k + 1 : Nat) : Int) l = 0 := by
          intro l hl
          induction l with
          | nil => rfl
          | cons x t ih2 =>
            have := hl x List.mem_cons_self
            have hn : ¬ ((k + 1 : Nat) : Int) < x.seq := by omega
            simp only [openL, hn, if_false, ih2 (fun y hy => hl y (List.mem_cons_of_mem _ hy))]; rfl
        refine this _ (fun x hx => ?_)
        obtain ⟨i, hi, rfl⟩ := List.getElem_of_mem hx
        rw [par_get]
        rw [par_len] at hi
        simp
        omega
      rw [h0]
      have hn : ¬ ((k + 1 : Nat) : Int) < (k : Int) + 1 := by omega
      simp only [openL, hn, if_false]
      omega
theorem EC_open {m : Int} {d g : Nat} (h0 : 0 ≤ m) (h1 : m ≤ 999) (hd : d ≤ g) (hg : g ≤ 6) : openOf (EC m d) (g : Int) = preS m 6 - preS m g := by
  simp only [openOf, EC_right h0 h1 (show d ≤ 6 by omega), if_true]
  rw [EC_is h0 h1 (by omega)]
  rw [openL_sub _ _ (by omega), par_open m 6 g hg]
theorem preS_bd {m : Int} (h0 : 0 ≤ m) (h1 : m ≤ 999) (k : Nat) : k ≤ 6 → 0 ≤ preS m k ∧ preS m k ≤ 1010 * (k : Int) := by
  induction k with
  | zero => intro _; simp [preS]
  | succ k ih => intro h; have := ih (by omega); simp only [preS]; omega
end Go.Proofs.Ytjmkppajfebidaa
