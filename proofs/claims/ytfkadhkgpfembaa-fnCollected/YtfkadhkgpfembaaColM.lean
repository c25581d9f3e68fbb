/- What is collected can be moved, one move behind the other, and brings what is asked for. -/
import Derived.Test.YtfkadhkgpfembaaMvM
import Derived.Test.YtfkadhkgpfembaaPaM
import Derived.Test.YtfkadhkgpfembaaICol
namespace Go.Proofs.Ytfkadhkgpfembaa
open Go.ChangeShapes Go.WideShapes Go.ChangeAt Go.RowKit
set_option linter.unusedVariables false
/-- the slots of l with what h says that each has -/
structure St (l n : List Slt) (h : Int → Int) : Prop where
  al : Alike l n
  rt : rightsB n = true
  sm : sumL n = sumL l
  pt : ∀ x ∈ n, SltI x
  hs : ∀ z, InL l z → hasOf n z = h z
theorem has_at {n : List Slt} {z : Int} {i : Nat} (hr : rightsB n = true) (hi : i < n.length) (hp : posL n z = (i : Int)) : hasOf n z = n[i].has := by
  simp only [hasOf, hr, if_true, find_at hi hp]
theorem add2_get (n : List Slt) (i j : Nat) (a : Int) (k : Nat) (h1 : k < (addHas (addHas n i (-a)) j a).length) (h2 : k < n.length) : (addHas (addHas n i (-a)) j a)[k].has = n[k].has + (if i = k then -a else 0) + (if j = k then a else 0) := by
  have hL1 : (addHas n i (-a)).length = n.length := addHas_len _ _ _
  rw [addHas_get _ j a k h1 (by rw [hL1]; exact h2)]
  by_cases e : j = k
  · rw [if_pos e, if_pos e]
    show (addHas n i (-a))[k].has + a = _
    rw [addHas_get n i (-a) k (by rw [hL1]; exact h2) h2]
    by_cases e2 : i = k
    · rw [if_pos e2, if_pos e2]
    · rw [if_neg e2, if_neg e2]; omega
  · rw [if_neg e, if_neg e, addHas_get n i (-a) k (by rw [hL1]; exact h2) h2]
    by_cases e2 : i = k
    · rw [if_pos e2, if_pos e2]; simp
    · rw [if_neg e2, if_neg e2]; omega
def bump (h : Int → Int) (f t a : Int) (z : Int) : Int := h z + (if z = f then -a else 0) + (if z = t then a else 0)
/-- one move -/
theorem mv1 {l n : List Slt} {h : Int → Int} {f t a : Int} (hl : rightsB l = true) (s : St l n h) (hf : InL l f) (ht : InL l t) (hn : Near l f t) (h1 : 1 ≤ a) (h2 : a ≤ h f) : movOk n f t a = true ∧ St l (movL n f t a) (bump h f t a) := by
  have hff := hf
  have htt := ht
  obtain ⟨i, hi, hpf, hfi⟩ := hf
  obtain ⟨j, hj, hpt, htj⟩ := ht
  have ln := s.al.len
  have hi' : i < n.length := by omega
  have hj' : j < n.length := by omega
  have pf : posL n f = (i : Int) := (s.al.pos f).trans hpf
  have pt : posL n t = (j : Int) := (s.al.pos t).trans hpt
  have gf : n[i].has = h f := (has_at s.rt hi' pf).symm.trans (s.hs f hff)
  have hok : movOk n f t a = true := by
    rw [movOk_at (amt := a) s.rt hi' hj' pf pt]
    simp only [Bool.and_eq_true]
    constructor
    · simp only [nbB, s.al.id j hj' hj, s.al.id i hi' hi, s.al.up j hj' hj, s.al.up i hi' hi, hfi, htj]
      rcases hn with ⟨_, e⟩ | ⟨_, e⟩
      · rw [upL_at hi hpf] at e; simp [e]
      · rw [upL_at hj hpt] at e; simp [e]
    · simp only [inB, decide_eq_true_eq]; omega
  have B := back hok s.pt
  refine ⟨hok, ?_⟩
  have hm := movL_yes hok pf pt
  have hA : Alike n (movL n f t a) := by rw [hm]; exact (alike_add n i (-a)).trans (alike_add (addHas n i (-a)) j a)
  have hAl := s.al.trans hA
  refine ⟨hAl, B.rights, ?_, B.parts, ?_⟩
  · have := B.sum
    simp only [sumOf, B.rights, s.rt, if_true] at this
    rw [this, s.sm]
  · intro z hz
    have hzz := hz
    obtain ⟨k, hk, hpz, hkz⟩ := hz
    have hk' : k < n.length := by omega
    have hk2 : k < (movL n f t a).length := by rw [hAl.len]; exact hk
    have pz : posL (movL n f t a) z = (k : Int) := (hAl.pos z).trans hpz
    have pzn : posL n z = (k : Int) := (s.al.pos z).trans hpz
    rw [has_at B.rights hk2 pz]
    have e0 : (movL n f t a)[k].has = n[k].has + (if i = k then -a else 0) + (if j = k then a else 0) := by
      have hk3 : k < (addHas (addHas n i (-a)) j a).length := by rw [← hm]; exact hk2
      have := add2_get n i j a k hk3 hk'
      rw [← this]
      congr 1
      simp only [hm]
    rw [e0, ← has_at s.rt hk' pzn, s.hs z hzz]
    have c1 : (i = k) ↔ (z = f) := by
      constructor
      · intro e; subst e; rw [← hkz, hfi]
      · intro e; rw [e, hpf] at hpz; omega
    have c2 : (j = k) ↔ (z = t) := by
      constructor
      · intro e; subst e; rw [← hkz, htj]
      · intro e; rw [e, hpt] at hpz; omega
    simp only [bump, c1, c2]
def runM (n : List Slt) : List Slt → Option (List Slt)
  | [] => some n
  | m :: ms => if movOk n m.id m.up m.has = true then runM (movL n m.id m.up m.has) ms else none
theorem runM_append (n : List Slt) (a b : List Slt) : runM n (a ++ b) = (runM n a).bind fun m => runM m b := by
  induction a generalizing n with
  | nil => rfl
  | cons x t ih =>
    simp only [List.cons_append, runM]
    split
    · exact ih _
    · rfl
theorem movesL_cons (x y : Int) (q : List Int) (a : Int) : movesL (x :: y :: q) a = ⟨x, y, a⟩ :: movesL (y :: q) a := by
  simp only [movesL, movesK, List.length_cons, Nat.add_sub_cancel]
  rw [List.range_succ_eq_map, List.map_cons, List.map_map]
  congr 1
theorem path_run {l : List Slt} (hl : rightsB l = true) (a : Int) (ha : 1 ≤ a) : ∀ (q : List Int) (x : Int) (n : List Slt) (h : Int → Int), (∀ z ∈ x :: q, InL l z) → (∀ i u v, (x :: q)[i]? = some u → (x :: q)[i + 1]? = some v → Near l u v) → (x :: q).Nodup → St l n h → (∀ z, InL l z → 0 ≤ h z) → a ≤ h x →
    ∃ n', runM n (movesL (x :: q) a) = some n' ∧ St l n' (bump h x ((x :: q).getLast (by simp)) a) := by
  intro q
  induction q with
  | nil =>
    intro x n h hin hnr hnd s h0 hx
    refine ⟨n, rfl, { s with hs := fun z hz => ?_ }⟩
    rw [s.hs z hz]
    simp only [bump, List.getLast_singleton]
    split <;> omega
  | cons y q ih =>
    intro x n h hin hnr hnd s h0 hx
    have hx1 := hin x (by simp)
    have hy1 := hin y (by simp)
    have hxy : y ≠ x := by
      intro e
      subst e
      simp at hnd
    obtain ⟨hok, s1⟩ := mv1 hl s hx1 hy1 (hnr 0 x y rfl rfl) ha hx
    have e1 : bump h x y a y = h y + a := by simp [bump, hxy]
    obtain ⟨n', hr, s2⟩ := ih y _ (bump h x y a) (fun z hz => hin z (List.mem_cons_of_mem _ hz)) (fun i u v hu hv => hnr (i + 1) u v hu hv) (List.nodup_cons.1 hnd).2 s1 (fun z hz => by
      have := h0 z hz
      simp only [bump]
      by_cases e : z = x
      · subst e
        rw [if_pos rfl, if_neg (Ne.symm hxy)]
        omega
      · rw [if_neg e]
        split <;> omega) (by rw [e1]; have := h0 y hy1; omega)
    refine ⟨n', ?_, { s2 with hs := fun z hz => ?_ }⟩
    · rw [movesL_cons]
      simp only [runM, hok, if_true]
      exact hr
    · rw [s2.hs z hz]
      have eg : (x :: y :: q).getLast (by simp) = (y :: q).getLast (by simp) := List.getLast_cons (by simp)
      rw [eg]
      simp only [bump]
      by_cases e : z = y
      · rw [if_pos e, if_pos e]; omega
      · rw [if_neg e, if_neg e]; omega
theorem way_in {l : List Slt} (h : rightsB l = true) : ∀ n a b, InL l a → InL l b → a.toNat + b.toNat ≤ n → ∀ z ∈ wayF l n a b, InL l z := by
  intro n
  induction n with
  | zero => intro a b ha hb hn; have := ha.pos h; have := hb.pos h; omega
  | succ n ih =>
    intro a b ha hb hn z hz
    simp only [wayF] at hz
    by_cases h1 : b < a
    · rw [if_pos h1] at hz
      have hu := (ha.up h).1
      have hin := ha.up_in h hb h1
      have hp1 := hin.pos h
      have hp2 := ha.pos h
      rcases List.mem_cons.1 hz with rfl | hz
      · exact ha
      · exact ih _ _ hin hb (by omega) z hz
    · by_cases h2 : a < b
      · rw [if_neg h1, if_pos h2] at hz
        have hu := (hb.up h).1
        have hin := hb.up_in h ha h2
        have hp1 := hin.pos h
        have hp2 := hb.pos h
        rcases List.mem_append.1 hz with hz | hz
        · exact ih _ _ ha hin (by omega) z hz
        · simp at hz; rw [hz]; exact hb
      · rw [if_neg h1, if_neg h2] at hz
        simp at hz
        rw [hz]; exact ha
/-- what all others have -/
def sumX (to : Int) : List Slt → Int
  | [] => 0
  | x :: xs => (if x.id = to then 0 else x.has) + sumX to xs
theorem sumX_append (to : Int) (a b : List Slt) : sumX to (a ++ b) = sumX to a + sumX to b := by
  induction a with
  | nil => simp [sumX]
  | cons x t ih => simp only [List.cons_append, sumX, ih]; omega
theorem sumX_is (to : Int) : ∀ (l : List Slt) (i : Nat) (hi : i < l.length), l[i].id = to → (∀ j (hj : j < l.length), j ≠ i → l[j].id ≠ to) → sumX to l = sumL l - l[i].has := by
  intro l
  induction l with
  | nil => intro i hi; simp at hi
  | cons x t ih =>
    intro i hi he hne
    cases i with
    | zero =>
      have hx : x.id = to := he
      have ht : ∀ m : List Slt, (∀ j (hj : j < m.length), m[j].id ≠ to) → sumX to m = sumL m := by
        intro m
        induction m with
        | nil => intro _; rfl
        | cons y u ih2 =>
          intro hm
          have h0 : ¬ y.id = to := hm 0 (by simp)
          simp only [sumX, sumL, if_neg h0]
          rw [ih2 (fun j hj => hm (j + 1) (by simpa using hj))]
      simp only [sumX, sumL, if_pos hx]
      rw [ht t (fun j hj => hne (j + 1) (by simpa using hj) (by omega))]
      simp
      omega
    | succ i =>
      have hx : ¬ x.id = to := hne 0 (by simp) (by omega)
      have := ih i (by simpa using hi) he (fun j hj hji => hne (j + 1) (by simpa using hj) (by omega))
      simp only [sumX, sumL, if_neg hx, this]
      simp
      omega
theorem id_ne {l : List Slt} (hl : rightsB l = true) {i j : Nat} (hi : i < l.length) (hj : j < l.length) (h : j ≠ i) : l[j].id ≠ l[i].id := by
  rcases Nat.lt_or_ge j i with hlt | hge
  · have := ids_rise hl j (i - j) (by omega)
    simp only [show j + (i - j) = i by omega] at this
    omega
  · have := ids_rise hl i (j - i) (by omega)
    simp only [show i + (j - i) = j by omega] at this
    omega
/-- what is collected of the first k slots -/
structure Col (l : List Slt) (to need : Int) (k : Nat) (n : List Slt) (h : Int → Int) : Prop where
  run : runM l (colK l to need k).2 = some n
  st : St l n h
  nn : ∀ z, InL l z → 0 ≤ h z
  rest : ∀ j (hj : j < l.length), k ≤ j → l[j].id ≠ to → h l[j].id = l[j].has
  at_ : h to = hasOf l to + (need - (colK l to need k).1)
  nd : need ≤ 0 → (colK l to need k).1 = need
  nd2 : 0 < need → 0 ≤ (colK l to need k).1 ∧ ((colK l to need k).1 = 0 ∨ (colK l to need k).1 = need - sumX to (l.take k))
theorem col_run {l : List Slt} (hl : rightsB l = true) (hp : ∀ x ∈ l, SltI x) {to : Int} (ht : InL l to) (need : Int) : ∀ k, k ≤ l.length → ∃ n h, Col l to need k n h := by
  intro k
  have hsm := rightsB_small hl
  induction k with
  | zero =>
    intro _
    refine ⟨l, fun z => hasOf l z, rfl, ⟨⟨rfl, fun _ _ _ => rfl, fun _ _ _ => rfl⟩, hl, rfl, hp, fun _ _ => rfl⟩, ?_, ?_, by simp [colK], fun _ => rfl, fun h => ⟨by simp only [colK, List.take_zero, List.foldl_nil]; omega, .inr (by simp [colK, sumX])⟩⟩
    · intro z hz
      obtain ⟨i, hi, hpz, _⟩ := hz
      simp only [has_at hl hi hpz]
      exact (hsm.2 _ (List.getElem_mem hi)).1
    · intro j hj _ _
      obtain ⟨i, hi, hpz, hiz⟩ := InL.mem (l := l) hj
      simp only [has_at hl hi hpz]
      by_cases e : j = i
      · subst e; rfl
      · exact absurd hiz.symm (id_ne hl hi hj e)
  | succ k ih =>
    intro hk
    obtain ⟨n, h, c⟩ := ih (by omega)
    have hkl : k < l.length := by omega
    have e0 := colK_next l to need k hkl
    have hk0 := (hsm.2 l[k] (List.getElem_mem hkl)).1
    have sx : sumX to (l.take (k + 1)) = sumX to (l.take k) + (if l[k].id = to then 0 else l[k].has) := by
      rw [take_next l k hkl, sumX_append]; simp [sumX]
    by_cases hc : l[k].id = to ∨ min (colK l to need k).1 l[k].has ≤ 0
    · have e : colK l to need (k + 1) = colK l to need k := by rw [e0]; unfold colStep; rw [if_pos hc]
      refine ⟨n, h, by rw [e]; exact c.run, c.st, c.nn, fun j hj hkj => c.rest j hj (by omega), by rw [e]; exact c.at_, by rw [e]; exact c.nd, fun hn => ?_⟩
      rw [e, sx]
      obtain ⟨h1, h2⟩ := c.nd2 hn
      refine ⟨h1, ?_⟩
      rcases hc with hc | hc
      · rw [if_pos hc]; rcases h2 with h2 | h2
        · exact .inl h2
        · exact .inr (by omega)
      · by_cases hid : l[k].id = to
        · rw [if_pos hid]; rcases h2 with h2 | h2
          · exact .inl h2
          · exact .inr (by omega)
        · rw [if_neg hid]
          rcases h2 with h2 | h2
          · exact .inl h2
          · by_cases hz : (colK l to need k).1 = 0
            · exact .inl hz
            · exact .inr (by omega)
    · have hid : l[k].id ≠ to := fun e => hc (.inl e)
      have ht1 : 1 ≤ min (colK l to need k).1 l[k].has := by
        have : ¬ min (colK l to need k).1 l[k].has ≤ 0 := fun e => hc (.inr e)
        omega
      have e : colK l to need (k + 1) = ((colK l to need k).1 - min (colK l to need k).1 l[k].has, (colK l to need k).2 ++ movesL (wayL l l[k].id to) (min (colK l to need k).1 l[k].has)) := by rw [e0]; unfold colStep; rw [if_neg hc]
      have hin := InL.mem (l := l) hkl
      have W := way_ok hl (l[k].id.toNat + to.toNat) l[k].id to hin ht (Nat.le_refl _)
      have hwin := way_in hl (l[k].id.toNat + to.toNat) l[k].id to hin ht (Nat.le_refl _)
      obtain ⟨q, hq⟩ : ∃ q, wayL l l[k].id to = l[k].id :: q := by
        have hf := W.first
        unfold wayL
        cases hw : wayF l (l[k].id.toNat + to.toNat) l[k].id to with
        | nil => rw [hw] at hf; cases hf
        | cons y q => rw [hw] at hf; simp only [List.head?_cons, Option.some.injEq] at hf; exact ⟨q, by rw [hf]⟩
      have hq' : wayF l (l[k].id.toNat + to.toNat) l[k].id to = l[k].id :: q := hq
      rw [hq'] at W hwin
      have hr := c.rest k hkl (Nat.le_refl _) hid
      obtain ⟨n', hrun, s'⟩ := path_run hl (min (colK l to need k).1 l[k].has) ht1 q l[k].id n h hwin W.near W.nodup c.st c.nn (by rw [hr]; omega)
      have hlast : (l[k].id :: q).getLast (by simp) = to := by
        have := W.last
        rw [List.getLast?_eq_some_getLast (by simp)] at this
        exact Option.some.inj this
      rw [hlast] at s'
      refine ⟨n', bump h l[k].id to (min (colK l to need k).1 l[k].has), ?_, s', ?_, ?_, ?_, ?_, ?_⟩
      · rw [e]
        simp only
        rw [runM_append, c.run, hq]
        exact hrun
      · intro z hz
        have := c.nn z hz
        simp only [bump]
        by_cases ez : z = l[k].id
        · rw [if_pos ez, ez, hr]; split <;> omega
        · rw [if_neg ez]; split <;> omega
      · intro j hj hkj hjt
        simp only [bump]
        rw [if_neg (id_ne hl hkl hj (by omega)), if_neg hjt, c.rest j hj (by omega) hjt]
        omega
      · rw [e]
        simp only [bump]
        rw [if_neg (Ne.symm hid), c.at_]
        simp only [if_true]
        omega
      · intro hn
        have := c.nd hn
        omega
      · intro hn
        rw [e, sx, if_neg hid]
        obtain ⟨h1, h2⟩ := c.nd2 hn
        simp only
        refine ⟨by omega, ?_⟩
        rcases h2 with h2 | h2
        · exact .inl (by omega)
        · by_cases hz : (colK l to need k).1 - min (colK l to need k).1 l[k].has = 0
          · exact .inl hz
          · exact .inr (by omega)
/-- all that the law asks -/
theorem col_all {l : List Slt} (hp : ∀ x ∈ l, SltI x) {to amt : Int} (hok : colOk l to amt = true) : ∃ n, runM l (colL l to amt) = some n ∧ rightsB n = true ∧ sumOf n = sumOf l ∧ hasOf n to = max amt (hasOf l to) := by
  have hl : rightsB l = true := by cases e : rightsB l <;> simp [colOk, e] at hok ⊢
  have hpos : 0 ≤ posL l to := by
    by_cases h : 0 ≤ posL l to
    · exact h
    · simp [colOk, h] at hok
  have hin : inB 0 (sumL l) amt = true := by cases e : inB 0 (sumL l) amt <;> simp [colOk, e] at hok ⊢
  have ha : 0 ≤ amt ∧ amt ≤ sumL l := by simpa [inB] using hin
  have ht : InL l to := by
    rcases inL_or l to with h | h
    · exact h
    · omega
  have htt := ht
  obtain ⟨i, hi, hpt, hit⟩ := ht
  have hm := colL_yes hi hok hpt
  obtain ⟨n, h, c⟩ := col_run hl hp htt (amt - l[i].has) l.length (Nat.le_refl _)
  have hh := has_at hl hi hpt
  refine ⟨n, by rw [hm]; exact c.run, c.st.rt, by simp only [sumOf, c.st.rt, hl, if_true, c.st.sm], ?_⟩
  rw [c.st.hs to htt, c.at_, hh]
  by_cases hn : amt - l[i].has ≤ 0
  · have := c.nd hn
    omega
  · obtain ⟨h1, h2⟩ := c.nd2 (by omega)
    rw [List.take_length, sumX_is to l i hi hit (fun j hj hji => by rw [← hit]; exact id_ne hl hi hj hji)] at h2
    omega
end Go.Proofs.Ytfkadhkgpfembaa
