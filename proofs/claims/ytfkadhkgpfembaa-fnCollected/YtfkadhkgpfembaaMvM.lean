/- A move and the move back: the mathematics of the law FnMoved. -/
import Derived.Test.YtfkadhkgpfembaaMov
namespace Go.Proofs.Ytfkadhkgpfembaa
open Go.ChangeShapes Go.WideShapes Go.ChangeAt Go.RowKit
set_option linter.unusedVariables false
theorem posL_ids {l n : List Slt} (h : n.map (fun s => s.id) = l.map (fun s => s.id)) (id : Int) : posL n id = posL l id := by
  have e : ∀ m : List Slt, posL m id = if (m.map (fun s => s.id)).findIdx (fun x => x == id) < (m.map (fun s => s.id)).length then ((m.map (fun s => s.id)).findIdx (fun x => x == id) : Int) else -1 := fun m => by
    rw [List.findIdx_map, List.length_map]; rfl
  rw [e n, e l, h]
/-- the same slots, but for what they have -/
structure Alike (l n : List Slt) : Prop where
  len : n.length = l.length
  id : ∀ k (h : k < n.length) (h' : k < l.length), n[k].id = l[k].id
  up : ∀ k (h : k < n.length) (h' : k < l.length), n[k].up = l[k].up
theorem Alike.ids {l n : List Slt} (h : Alike l n) : n.map (fun s => s.id) = l.map (fun s => s.id) := by
  apply List.ext_getElem
  · simp [h.len]
  · intro k h1 h2
    simp only [List.getElem_map]
    exact h.id k (by simpa using h1) (by simpa using h2)
theorem Alike.take {l n : List Slt} (h : Alike l n) (k : Nat) : Alike (l.take k) (n.take k) :=
  ⟨by simp [h.len], fun i h1 h2 => by simp only [List.getElem_take]; exact h.id i (by simp at h1; omega) (by simp at h2; omega), fun i h1 h2 => by simp only [List.getElem_take]; exact h.up i (by simp at h1; omega) (by simp at h2; omega)⟩
theorem Alike.pos {l n : List Slt} (h : Alike l n) (id : Int) : posL n id = posL l id := posL_ids h.ids id
theorem alike_add (l : List Slt) (i : Nat) (d : Int) : Alike l (addHas l i d) :=
  ⟨addHas_len l i d, fun k h h' => by rw [addHas_get l i d k h h']; split <;> rfl, fun k h h' => by rw [addHas_get l i d k h h']; split <;> rfl⟩
theorem Alike.trans {a b c : List Slt} (h : Alike a b) (k : Alike b c) : Alike a c :=
  ⟨k.len.trans h.len, fun i h1 h2 => (k.id i h1 (by rw [h.len]; exact h2)).trans (h.id i (by rw [h.len]; exact h2) h2), fun i h1 h2 => (k.up i h1 (by rw [h.len]; exact h2)).trans (h.up i (by rw [h.len]; exact h2) h2)⟩
theorem sum_add (l : List Slt) (i : Nat) (d : Int) (h : i < l.length) : sumL (addHas l i d) = sumL l + d := by
  induction l generalizing i with
  | nil => simp at h
  | cons x xs ih =>
    cases i with
    | zero => simp only [addHas, List.modify_zero_cons, sumL]; omega
    | succ i =>
      have := ih i (by simpa using h)
      simp only [addHas] at this
      simp only [addHas, List.modify_succ_cons, sumL, this]; omega
theorem has_le_sum (l : List Slt) (h : ∀ x ∈ l, 0 ≤ x.has) : 0 ≤ sumL l ∧ ∀ x ∈ l, x.has ≤ sumL l := by
  induction l with
  | nil => simp [sumL]
  | cons x xs ih =>
    obtain ⟨h1, h2⟩ := ih (fun y hy => h y (List.mem_cons_of_mem _ hy))
    have hx := h x (List.mem_cons_self ..)
    refine ⟨by simp only [sumL]; omega, fun y hy => ?_⟩
    simp only [sumL]
    rcases List.mem_cons.1 hy with rfl | hy
    · omega
    · have := h2 y hy; omega
theorem Alike.slotB {l n : List Slt} (h : Alike l n) (k : Nat) (hk : k < n.length) (hk' : k < l.length) (hs : slotB (l.take k) l[k] = true) (hh : inB 0 1000000000000 n[k].has = true) : slotB (n.take k) n[k] = true := by
  cases k with
  | zero =>
    rw [slotB_zero hk'] at hs
    rw [slotB_zero hk]
    simp only [Bool.and_eq_true] at hs ⊢
    rw [h.id 0 hk hk', h.up 0 hk hk']
    exact ⟨⟨hs.1.1, hh⟩, hs.2⟩
  | succ m =>
    rw [slotB_succ hk'] at hs
    rw [slotB_succ hk]
    simp only [Bool.and_eq_true] at hs ⊢
    rw [h.id (m + 1) hk hk', h.up (m + 1) hk hk', h.id m (by omega) (by omega), (h.take (m + 1)).pos]
    exact ⟨⟨hs.1.1, hh⟩, hs.2⟩
/-- what a move that is done leaves -/
structure Back (l : List Slt) (f t amt : Int) (n : List Slt) : Prop where
  ok : movOk n t f amt = true
  same : movL n t f amt = l
  sum : sumOf n = sumOf l
  hasT : hasOf n t = hasOf l t + amt
  hasF : hasOf n f = hasOf l f - amt
  rights : rightsB n = true
  len : n.length = l.length
  small : n.length ≤ 8
  parts : ∀ x ∈ n, SltI x
  bdT : -1 ≤ hasOf l t ∧ hasOf l t ≤ 1000000000000
  bdF : -1 ≤ hasOf l f ∧ hasOf l f ≤ 1000000000000
  amts : 1 ≤ amt ∧ amt ≤ 1000000000000
theorem back {l : List Slt} {f t amt : Int} (h : movOk l f t amt = true) (hp : ∀ x ∈ l, SltI x) : Back l f t amt (movL l f t amt) := by
  have hr : rightsB l = true := by
    cases e : rightsB l with
    | true => rfl
    | false => rw [movOk_wrong e] at h; cases h
  rcases posL_cases l f with ⟨i, hi, hpf, hfi⟩ | ⟨hpf, _⟩
  · rcases posL_cases l t with ⟨j, hj, hpt, htj⟩ | ⟨hpt, _⟩
    · have hm := movOk_at (amt := amt) hr hi hj hpf hpt
      rw [h] at hm
      have hm' := hm.symm
      simp only [Bool.and_eq_true] at hm'
      obtain ⟨hnb, hin⟩ := hm'
      have hin2 : 1 ≤ amt ∧ amt ≤ l[i].has := by simpa [inB] using hin
      have hij : i ≠ j := fun e => by subst e; rw [nb_self hr i hi] at hnb; cases hnb
      have hsm := rightsB_small hr
      rw [movL_yes h hpf hpt]
      have hA := (alike_add l i (-amt)).trans (alike_add (addHas l i (-amt)) j amt)
      have hL1 : (addHas l i (-amt)).length = l.length := addHas_len _ _ _
      have hL2 : (addHas (addHas l i (-amt)) j amt).length = l.length := by rw [addHas_len, hL1]
      have hget : ∀ k (h1 : k < (addHas (addHas l i (-amt)) j amt).length) (h2 : k < l.length), (addHas (addHas l i (-amt)) j amt)[k].has = l[k].has + (if i = k then -amt else 0) + (if j = k then amt else 0) := fun k h1 h2 => by
        rw [addHas_get _ j amt k h1 (by rw [hL1]; exact h2)]
        by_cases e : j = k
        · rw [if_pos e, if_pos e]
          show (addHas l i (-amt))[k].has + amt = _
          rw [addHas_get l i (-amt) k (by rw [hL1]; exact h2) h2]
          by_cases e2 : i = k
          · rw [if_pos e2, if_pos e2]
          · rw [if_neg e2, if_neg e2]; omega
        · rw [if_neg e, if_neg e, addHas_get l i (-amt) k (by rw [hL1]; exact h2) h2]
          by_cases e2 : i = k
          · rw [if_pos e2, if_pos e2]; simp
          · rw [if_neg e2, if_neg e2]; omega
      have hsum : sumL (addHas (addHas l i (-amt)) j amt) = sumL l := by
        rw [sum_add _ j amt (by rw [hL1]; exact hj), sum_add l i (-amt) hi]; omega
      generalize hn : addHas (addHas l i (-amt)) j amt = n at *
      have hnn : ∀ x ∈ n, 0 ≤ x.has := fun x hx => by
        obtain ⟨k, hk, rfl⟩ := List.getElem_of_mem hx
        have hk' : k < l.length := by omega
        have h0 := (hsm.2 l[k] (List.getElem_mem hk')).1
        rw [hget k hk hk']
        by_cases e : i = k
        · subst e
          rw [if_pos rfl, if_neg (fun e => hij e.symm)]; omega
        · rw [if_neg e]
          by_cases e2 : j = k
          · rw [if_pos e2]; omega
          · rw [if_neg e2]; omega
      have hr' := hr
      simp only [rightsB, Bool.and_eq_true, decide_eq_true_eq] at hr'
      obtain ⟨⟨⟨r1, r8⟩, rs⟩, rsum⟩ := hr'
      have hle := (has_le_sum n hnn).2
      have hrn : rightsB n = true := by
        simp only [rightsB, Bool.and_eq_true, decide_eq_true_eq]
        refine ⟨⟨⟨by omega, by omega⟩, fun k hk => hA.slotB k hk (by omega) (rs k (by omega)) ?_⟩, by omega⟩
        have h1 := hnn n[k] (List.getElem_mem hk)
        have h2 := hle n[k] (List.getElem_mem hk)
        simp only [inB, decide_eq_true_eq]
        omega
      have hi' : i < n.length := by omega
      have hj' : j < n.length := by omega
      have pf : posL n f = (i : Int) := (hA.pos f).trans hpf
      have pt : posL n t = (j : Int) := (hA.pos t).trans hpt
      have gi : n[i].has = l[i].has - amt := by rw [hget i hi' hi, if_pos rfl, if_neg (fun e => hij e.symm)]; omega
      have gj : n[j].has = l[j].has + amt := by rw [hget j hj' hj, if_neg hij, if_pos rfl]; omega
      have hj0 := (hsm.2 l[j] (List.getElem_mem hj))
      have hi0 := (hsm.2 l[i] (List.getElem_mem hi))
      have hok : movOk n t f amt = true := by
        rw [movOk_at (amt := amt) hrn hj' hi' pt pf]
        simp only [Bool.and_eq_true]
        constructor
        · simp only [nbB, hA.id j hj' hj, hA.id i hi' hi, hA.up j hj' hj, hA.up i hi' hi]
          simp only [nbB] at hnb
          rw [Bool.or_comm]; exact hnb
        · simp only [inB, decide_eq_true_eq]; omega
      have e1 : hasOf l t = l[j].has := by simp only [hasOf, hr, if_true, find_at hj hpt]
      have e2 : hasOf l f = l[i].has := by simp only [hasOf, hr, if_true, find_at hi hpf]
      have e3 : hasOf n t = n[j].has := by simp only [hasOf, hrn, if_true, find_at hj' pt]
      have e4 : hasOf n f = n[i].has := by simp only [hasOf, hrn, if_true, find_at hi' pf]
      refine ⟨hok, ?_, by simp only [sumOf, hr, hrn, if_true, hsum], by rw [e3, e1, gj], by rw [e4, e2, gi], hrn, by omega, by omega, fun x hx => ?_, by rw [e1]; omega, by rw [e2]; omega, by omega⟩
      · rw [movL_yes hok pt pf]
        apply List.ext_getElem
        · rw [addHas_len, addHas_len]; omega
        · intro k h1 h2
          have hk : k < n.length := by omega
          have hL3 : (addHas n j (-amt)).length = n.length := addHas_len _ _ _
          have ei := hA.id k hk h2
          have eu := hA.up k hk h2
          have eh := hget k hk h2
          rw [addHas_get _ i amt k h1 (by rw [hL3]; exact hk), addHas_get n j (-amt) k (by rw [hL3]; exact hk) hk]
          by_cases c1 : i = k
          · have c2 : ¬ j = k := fun e => hij (c1.trans e.symm)
            rw [if_pos c1, if_neg c2] at eh
            rw [if_pos c1, if_neg c2, ei, eu, eh]
            cases l[k]; simp; omega
          · rw [if_neg c1] at eh
            rw [if_neg c1]
            by_cases c2 : j = k
            · rw [if_pos c2] at eh
              rw [if_pos c2, ei, eu, eh]
              cases l[k]; simp; omega
            · rw [if_neg c2] at eh
              rw [if_neg c2]
              have : n[k] = ⟨n[k].id, n[k].up, n[k].has⟩ := rfl
              rw [this, ei, eu, eh]
              cases l[k]; simp
      · obtain ⟨k, hk, rfl⟩ := List.getElem_of_mem hx
        have hk' : k < l.length := by omega
        obtain ⟨q1, q2, q3⟩ := hp l[k] (List.getElem_mem hk')
        have h1 := hnn n[k] (List.getElem_mem hk)
        have h2 := hle n[k] (List.getElem_mem hk)
        refine ⟨by rw [hA.id k hk hk']; exact q1, by rw [hA.up k hk hk']; exact q2, ?_⟩
        unfold I64; omega
    · rw [movOk_none2 hpt] at h; cases h
  · rw [movOk_none1 hpf] at h; cases h
end Go.Proofs.Ytfkadhkgpfembaa
