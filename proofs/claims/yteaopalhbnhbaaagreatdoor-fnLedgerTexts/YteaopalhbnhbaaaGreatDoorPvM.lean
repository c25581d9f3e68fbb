/- A right ledger stays right: what a command leaves of it. -/
import Derived.Test.YteaopalhbnhbaaaGreatDoorGk
namespace Go.Proofs.YteaopalhbnhbaaaGreatDoor
open Go.ChangeShapes Go.WideShapes Go.ChangeAt Go.RowKit Go.Maps
set_option linter.unusedVariables false
/-- a right ledger -/
structure Rt (D : Led) : Prop where
  na : D.acc.length ≤ 12
  nh : D.hold.length ≤ 10
  ns : D.seen.length ≤ 40
  srt : Srt D.acc
  ac : ∀ x ∈ D.acc, nameB x.name = true ∧ curB x.cur = true ∧ (-1 ≤ x.limit ∧ x.limit ≤ 1000000000000) ∧ withinB x (heldL x.name D.hold) = true ∧ totL x.cur D.acc = 0
  hup : D.hold.Pairwise (fun a b => a.id < b.id)
  ho : ∀ h ∈ D.hold, (1 ≤ h.id ∧ h.id ≤ 1000000000) ∧ (1 ≤ h.amount ∧ h.amount ≤ 1000000000000) ∧ h.fr ≠ h.to ∧ ∃ x ∈ D.acc, ∃ y ∈ D.acc, x.name = h.fr ∧ y.name = h.to ∧ x.cur = y.cur
  sup : D.seen.Pairwise (fun a b => a.id < b.id)
  se : ∀ s ∈ D.seen, (1 ≤ s.id ∧ s.id ≤ 1000000000) ∧ (s.code = 0 ∨ (4 ≤ s.code ∧ s.code ≤ 9))
theorem idx_mem {A : List Acc} (hs : Srt A) {i : Nat} (hi : i < A.length) : idxA A A[i].name = some i :=
  idxA_some hi rfl (fun j hj e => srt_off hs j i (by omega) hi hj e)
theorem srt_inj {A : List Acc} (hs : Srt A) {i j : Nat} (hi : i < A.length) (hj : j < A.length) (e : A[i].name = A[j].name) : i = j := by
  rcases Nat.lt_trichotomy i j with h | h | h
  · exact absurd e (srt_off hs i j hi hj h)
  · exact h
  · exact absurd e.symm (srt_off hs j i hj hi h)
theorem allTo_of {f : Nat → Bool} : ∀ {n : Nat}, (∀ k, k < n → f k = true) → allTo f n = true
  | 0, _ => rfl
  | n + 1, h => allTo_step (allTo_of (fun k hk => h k (by omega))) (h n (by omega))
theorem rises_of {l : List Int} (h : l.Pairwise (· < ·)) (k : Nat) (hk : k < l.length) : risesB l k = true := by
  cases k with
  | zero => rfl
  | succ m => rw [rises_at hk]; exact decide_eq_true (List.pairwise_iff_getElem.1 h m (m + 1) (by omega) hk (by omega))
theorem rt_of {D : Led} (k : ledS D = true) : Rt D := by
  have ok := led_ok k
  have lm := led_m k
  unfold ledS at k
  simp only [Bool.and_eq_true, decide_eq_true_eq] at k
  obtain ⟨⟨⟨⟨⟨⟨k1, k2⟩, k3⟩, k4⟩, k5⟩, k6⟩, k7⟩ := k
  refine ⟨k1, k2, k3, lm.srt, fun x hx => ?_, List.pairwise_map.1 ok.en.up, fun h hh => ?_, List.pairwise_map.1 ok.up, fun s hs => ok.codes s hs⟩
  · obtain ⟨i, hi, rfl⟩ := List.mem_iff_getElem.1 hx
    have q := allTo_get k6 hi
    rw [accB_at hi] at q
    simp only [Bool.and_eq_true, decide_eq_true_eq] at q
    exact ⟨q.1.1.1.1.1, q.1.1.1.1.2, inB_iff.1 q.1.1.1.2, q.1.2, q.2⟩
  · obtain ⟨hp, hne, g1, g2⟩ := lm.prs h hh
    obtain ⟨i, hi, e⟩ := List.mem_iff_getElem.1 hh
    have q := allTo_get k5 hi
    rw [holdB_at hi, e] at q
    simp only [Bool.and_eq_true] at q
    refine ⟨inB_iff.1 q.1.1, ⟨g1, g2⟩, hne, ?_⟩
    unfold pairC at hp
    split at hp
    · rename_i i j e1 e2
      obtain ⟨hi1, n1, _⟩ := idxA_lt e1
      obtain ⟨hj1, n2, _⟩ := idxA_lt e2
      split at hp
      · rename_i q2
        rw [sameC_at hi1 hj1] at q2
        exact ⟨_, List.getElem_mem hi1, _, List.getElem_mem hj1, n1, n2, sameB_iff.1 q2⟩
      · cases hp
    · cases hp
theorem rt_to {D : Led} (r : Rt D) : ledS D = true := by
  have hu : (D.hold.map Hld.id).Pairwise (· < ·) := List.pairwise_map.2 r.hup
  have su : (D.seen.map Sn.id).Pairwise (· < ·) := List.pairwise_map.2 r.sup
  unfold ledS
  simp only [Bool.and_eq_true, decide_eq_true_eq]
  refine ⟨⟨⟨⟨⟨⟨r.na, r.nh⟩, r.ns⟩, allTo_of (fun k hk => ?_)⟩, allTo_of (fun k hk => ?_)⟩, allTo_of (fun k hk => ?_)⟩, allTo_of (fun k hk => ?_)⟩
  · rw [postB_at hk]
    have := (r.ac _ (List.getElem_mem hk)).2.2.2.1
    simp only [withinB, Bool.and_eq_true] at this
    exact this.1.1
  · obtain ⟨h1, h2, h3, x, hx, y, hy, e1, e2, e3⟩ := r.ho _ (List.getElem_mem hk)
    rw [holdB_at hk]
    simp only [Bool.and_eq_true]
    refine ⟨⟨inB_iff.2 h1, rises_of hu k (by simpa using hk)⟩, ?_⟩
    obtain ⟨i, hi, rfl⟩ := List.mem_iff_getElem.1 hx
    obtain ⟨j, hj, rfl⟩ := List.mem_iff_getElem.1 hy
    have a1 := idx_mem r.srt hi
    have a2 := idx_mem r.srt hj
    rw [e1] at a1
    rw [e2] at a2
    rw [pairB_some a1 a2 hi hj]
    simp only [Bool.and_eq_true, decide_eq_true_eq]
    exact ⟨⟨fun e => h3 (by rw [← e1, ← e2]; subst e; rfl), sameB_iff.2 e3⟩, inB_iff.2 h2⟩
  · obtain ⟨h1, h2, h3, h4, h5⟩ := r.ac _ (List.getElem_mem hk)
    rw [accB_at hk]
    simp only [Bool.and_eq_true, decide_eq_true_eq]
    refine ⟨⟨⟨⟨⟨h1, h2⟩, inB_iff.2 h3⟩, ?_⟩, h4⟩, h5⟩
    cases k with
    | zero => rfl
    | succ m => rw [rises_name hk]; exact less_iff.2 (List.pairwise_iff_getElem.1 r.srt m (m + 1) (by omega) hk (by omega))
  · obtain ⟨h1, h2⟩ := r.se _ (List.getElem_mem hk)
    rw [ansB_at hk]
    simp only [Bool.and_eq_true, Bool.or_eq_true, decide_eq_true_eq]
    exact ⟨⟨inB_iff.2 h1, rises_of su k (by simpa using hk)⟩, h2.imp id inB_iff.2⟩
theorem totL_app (cur : ByteArray) (a b : List Acc) : totL cur (a ++ b) = totL cur a + totL cur b := by
  induction a with
  | nil => simp [totL]
  | cons x l ih => simp only [List.cons_append, totL, ih]; omega
theorem totL_ins (cur : ByteArray) (l : List Acc) (x : Acc) : totL cur (insA l x) = totL cur l + (if x.cur = cur then x.posted else 0) := by
  have e := List.takeWhile_append_dropWhile (p := fun y : Acc => !ltB x.name y.name) (l := l)
  have e2 : totL cur l = totL cur (l.takeWhile (fun y : Acc => !ltB x.name y.name)) + totL cur (l.dropWhile (fun y : Acc => !ltB x.name y.name)) := by rw [← totL_app, e]
  rw [e2]
  unfold insA
  rw [totL_app]
  simp only [totL]
  omega
theorem totL_none {cur : ByteArray} {l : List Acc} (h : ∀ x ∈ l, x.cur ≠ cur) : totL cur l = 0 := by
  induction l with
  | nil => rfl
  | cons x l ih =>
    simp only [totL]
    rw [if_neg (h x (List.mem_cons_self ..)), ih (fun y hy => h y (List.mem_cons_of_mem _ hy))]
    rfl
theorem heldL_none {nm : ByteArray} {l : List Hld} (h : ∀ x ∈ l, x.fr ≠ nm) : heldL nm l = 0 := by
  induction l with
  | nil => rfl
  | cons x l ih =>
    simp only [heldL]
    rw [if_neg (h x (List.mem_cons_self ..)), ih (fun y hy => h y (List.mem_cons_of_mem _ hy))]
    rfl
theorem totL_set (cur : ByteArray) : ∀ (l : List Acc) (i : Nat) (y : Acc) (hi : i < l.length), y.cur = l[i].cur → totL cur (l.set i y) = totL cur l + (if l[i].cur = cur then y.posted - l[i].posted else 0)
  | [], i, y, hi, e => by simp at hi
  | x :: l, 0, y, hi, e => by
    simp only [List.set_cons_zero, totL, List.getElem_cons_zero] at e ⊢
    rw [e]
    split <;> omega
  | x :: l, i + 1, y, hi, e => by
    simp only [List.set_cons_succ, totL, List.getElem_cons_succ] at e ⊢
    rw [totL_set cur l i y (by simpa using hi) e]
    omega
theorem totL_setP {A : List Acc} {i : Nat} (hi : i < A.length) (cur : ByteArray) (d : Int) : totL cur (setP A i d) = totL cur A + (if A[i].cur = cur then d else 0) := by
  have e : setP A i d = A.set i (postA A[i] d) := by simp [setP, hi]
  rw [e, totL_set cur A i (postA A[i] d) hi rfl]
  simp only [postA]
  split <;> omega
theorem setPk_at {A : List Acc} {i k : Nat} (hi : i < A.length) (hk : k < A.length) (d : Int) (hk' : k < (setP A i d).length) : (setP A i d)[k] = ⟨A[k].name, A[k].cur, A[k].limit, A[k].posted + (if k = i then d else 0)⟩ := by
  have e : setP A i d = A.set i (postA A[i] d) := by simp [setP, hi]
  simp only [e, List.getElem_set]
  split
  · rename_i q
    subst q
    simp [postA]
  · rename_i q
    rw [if_neg (fun z => q z.symm)]
    simp
theorem payA_at {A : List Acc} {i j k : Nat} (hi : i < A.length) (hj : j < A.length) (hk : k < A.length) (am : Int) (hk' : k < (payA A i j am).length) : (payA A i j am)[k] = ⟨A[k].name, A[k].cur, A[k].limit, A[k].posted + (if k = i then -am else 0) + (if k = j then am else 0)⟩ := by
  have h1 : k < (setP A i (-am)).length := by rw [setP_len]; exact hk
  have h2 : j < (setP A i (-am)).length := by rw [setP_len]; exact hj
  have e1 := setPk_at h2 h1 am (by rw [setP_len]; exact h1)
  have e2 := setPk_at hi hk (-am) h1
  rw [e2] at e1
  exact e1
theorem payA_names {A : List Acc} {i j : Nat} (am : Int) : (payA A i j am).map Acc.name = A.map Acc.name := by unfold payA; rw [setP_names, setP_names]
theorem payA_tot {A : List Acc} {i j : Nat} (hi : i < A.length) (hj : j < A.length) (hc : A[i].cur = A[j].cur) (cur : ByteArray) (am : Int) : totL cur (payA A i j am) = totL cur A := by
  unfold payA
  have h2 : j < (setP A i (-am)).length := by rw [setP_len]; exact hj
  have e2 : (setP A i (-am))[j].cur = A[j].cur := by rw [setPk_at hi hj (-am) h2]
  rw [totL_setP h2, totL_setP hi, e2, hc]
  split <;> omega
theorem within_less {x : Acc} {h h' : Int} (k : withinB x h = true) (hl : h' ≤ h) : withinB x h' = true := by
  simp only [withinB, Bool.and_eq_true, Bool.or_eq_true, decide_eq_true_eq] at k ⊢
  refine ⟨⟨k.1.1, by omega⟩, ?_⟩
  rcases k.2 with q | q
  · exact .inl q
  · exact .inr (by omega)
theorem rt_pay {D : Led} (r : Rt D) {i j : Nat} (hi : i < D.acc.length) (hj : j < D.acc.length) (hij : i ≠ j) (hc : D.acc[i].cur = D.acc[j].cur) {am : Int} (h0 : 0 ≤ am)
    (hr : rangeB (payA D.acc i j am) j = true) (hk : keepsB (payA D.acc i j am) D.hold i = true) : Rt ⟨payA D.acc i j am, D.hold, D.seen⟩ := by
  have mem : ∀ y, y ∈ payA D.acc i j am → ∃ k, ∃ hk : k < D.acc.length, y = ⟨D.acc[k].name, D.acc[k].cur, D.acc[k].limit, D.acc[k].posted + (if k = i then -am else 0) + (if k = j then am else 0)⟩ := fun y hy => by
    obtain ⟨k, hk, rfl⟩ := List.mem_iff_getElem.1 hy
    have hk2 : k < D.acc.length := by rw [payA_len] at hk; exact hk
    exact ⟨k, hk2, payA_at hi hj hk2 am hk⟩
  have there : ∀ k (hk : k < D.acc.length), ∃ y ∈ payA D.acc i j am, y.name = D.acc[k].name ∧ y.cur = D.acc[k].cur := fun k hk => by
    have hk' : k < (payA D.acc i j am).length := by rw [payA_len]; exact hk
    refine ⟨_, List.getElem_mem hk', ?_, ?_⟩ <;> rw [payA_at hi hj hk am hk']
  refine ⟨by rw [payA_len]; exact r.na, r.nh, r.ns, srt_names (payA_names am).symm r.srt, fun y hy => ?_, r.hup, fun h hh => ?_, r.sup, r.se⟩
  · obtain ⟨k, hkl, rfl⟩ := mem y hy
    obtain ⟨h1, h2, h3, h4, h5⟩ := r.ac _ (List.getElem_mem hkl)
    refine ⟨h1, h2, h3, ?_, by simp only; rw [payA_tot hi hj hc]; exact h5⟩
    by_cases ki : k = i
    · subst ki
      have hk' : k < (payA D.acc k j am).length := by rw [payA_len]; exact hkl
      have e := payA_at hi hj hkl am hk'
      simp only [keepsB, List.getElem?_eq_getElem hk'] at hk
      rw [e] at hk
      exact hk
    · by_cases kj : k = j
      · subst kj
        have hk' : k < (payA D.acc i k am).length := by rw [payA_len]; exact hkl
        have e := payA_at hi hj hkl am hk'
        simp only [rangeB, List.getElem?_eq_getElem hk'] at hr
        rw [e] at hr
        simp only [if_neg ki, if_pos] at hr ⊢
        simp only [withinB, Bool.and_eq_true, Bool.or_eq_true, decide_eq_true_eq] at h4 ⊢
        exact ⟨⟨hr, h4.1.2⟩, h4.2.imp id (fun q => by omega)⟩
      · rw [if_neg ki, if_neg kj]
        simp only [Int.add_zero]
        exact h4
  · obtain ⟨h1, h2, h3, x, hx, y, hy, e1, e2, e3⟩ := r.ho h hh
    obtain ⟨a, ha, rfl⟩ := List.mem_iff_getElem.1 hx
    obtain ⟨b, hb, rfl⟩ := List.mem_iff_getElem.1 hy
    obtain ⟨x', hx', n1, c1⟩ := there a ha
    obtain ⟨y', hy', n2, c2⟩ := there b hb
    exact ⟨h1, h2, h3, x', hx', y', hy', n1.trans e1, n2.trans e2, by rw [c1, c2]; exact e3⟩
theorem rt_cut {D : Led} (r : Rt D) {k : Nat} (hk : k < D.hold.length) : Rt ⟨D.acc, cutL D.hold k, D.seen⟩ := by
  refine ⟨r.na, by have := cutL_len D.hold k hk; have := r.nh; show (cutL D.hold k).length ≤ 10; omega, r.ns, r.srt, fun x hx => ?_, ?_, fun h hh => r.ho h (cut_mem hh), r.sup, r.se⟩
  · obtain ⟨h1, h2, h3, h4, h5⟩ := r.ac x hx
    exact ⟨h1, h2, h3, within_less h4 (heldL_cut (fun y hy => by have := (r.ho y hy).2.1; omega) hk), h5⟩
  · have h := r.hup
    rw [cut_split D.hold k hk, List.pairwise_append] at h
    show (D.hold.take k ++ D.hold.drop (k + 1)).Pairwise _
    rw [List.pairwise_append]
    exact ⟨h.1, (List.pairwise_cons.1 h.2.1).2, fun a ha b hb => h.2.2 a ha b (List.mem_cons_of_mem _ hb)⟩
theorem rt_open {D : Led} (r : Rt D) {nm cu : ByteArray} {li : Int} (hn : nameB nm = true) (hc : curB cu = true) (hl : -1 ≤ li ∧ li ≤ 1000000000000) (hno : idxA D.acc nm = none) (hlen : D.acc.length < 12) : Rt ⟨insA D.acc ⟨nm, cu, li, 0⟩, D.hold, D.seen⟩ := by
  have hoff : ∀ y ∈ D.acc, y.name ≠ nm := fun y hy => by
    obtain ⟨i, hi, rfl⟩ := List.mem_iff_getElem.1 hy
    exact idxA_off hno i hi
  have mem : ∀ y, y ∈ insA D.acc ⟨nm, cu, li, 0⟩ ↔ y ∈ D.acc ∨ y = ⟨nm, cu, li, 0⟩ := fun y => by
    rw [← (perm_snoc_ins D.acc ⟨nm, cu, li, 0⟩).mem_iff, List.mem_append, List.mem_singleton]
  have tot : ∀ cur, totL cur (insA D.acc ⟨nm, cu, li, 0⟩) = totL cur D.acc := fun cur => by
    rw [totL_ins]
    simp
  refine ⟨by rw [insA_len]; omega, r.nh, r.ns, srt_ins r.srt hoff, fun x hx => ?_, r.hup, fun h hh => ?_, r.sup, r.se⟩
  · rcases (mem x).1 hx with h | rfl
    · obtain ⟨h1, h2, h3, h4, h5⟩ := r.ac x h
      exact ⟨h1, h2, h3, h4, (tot _).trans h5⟩
    · have hh : heldL nm D.hold = 0 := heldL_none (fun h hh e => by
        obtain ⟨_, _, _, x, hx, _, _, e1, _⟩ := r.ho h hh
        exact hoff x hx (e1.trans e))
      refine ⟨hn, hc, hl, ?_, ?_⟩
      · simp only [withinB, hh, Bool.and_eq_true, Bool.or_eq_true, decide_eq_true_eq, inB_iff]
        omega
      · simp only
        rw [tot]
        by_cases q : ∃ x ∈ D.acc, x.cur = cu
        · obtain ⟨x, hx, e⟩ := q
          rw [← e]
          exact (r.ac x hx).2.2.2.2
        · exact totL_none (fun x hx e => q ⟨x, hx, e⟩)
  · obtain ⟨h1, h2, h3, x, hx, y, hy, e⟩ := r.ho h hh
    exact ⟨h1, h2, h3, x, (mem x).2 (.inl hx), y, (mem y).2 (.inl hy), e⟩
theorem rt_hold {D : Led} (r : Rt D) {hd : Hld} {i j : Nat} (hi : i < D.acc.length) (hj : j < D.acc.length) (ni : D.acc[i].name = hd.fr) (nj : D.acc[j].name = hd.to) (hne : hd.fr ≠ hd.to) (hc : D.acc[i].cur = D.acc[j].cur) (hid : 1 ≤ hd.id ∧ hd.id ≤ 1000000000) (ham : 1 ≤ hd.amount ∧ hd.amount ≤ 1000000000000)
    (hno : ∀ y ∈ D.hold, y.id ≠ hd.id) (hlen : D.hold.length < 10) (hk : keepsB D.acc (insH D.hold hd) i = true) : Rt ⟨D.acc, insH D.hold hd, D.seen⟩ := by
  have mem : ∀ y, y ∈ insH D.hold hd ↔ y ∈ D.hold ∨ y = hd := fun y => by
    rw [show insH D.hold hd = D.hold.takeWhile (fun y : Hld => decide (y.id < hd.id)) ++ hd :: D.hold.dropWhile (fun y : Hld => decide (y.id < hd.id)) from rfl, (ins_perm (fun y : Hld => decide (y.id < hd.id)) D.hold hd).mem_iff, List.mem_append, List.mem_singleton]
  have len : (insH D.hold hd).length = D.hold.length + 1 := by
    have := (ins_perm (fun y : Hld => decide (y.id < hd.id)) D.hold hd).length_eq
    simpa [insH] using this
  refine ⟨r.na, by show (insH D.hold hd).length ≤ 10; omega, r.ns, r.srt, fun x hx => ?_, ins_pw Hld.id D.hold hd r.hup hno, fun h hh => ?_, r.sup, r.se⟩
  · obtain ⟨k, hkl, rfl⟩ := List.mem_iff_getElem.1 hx
    obtain ⟨h1, h2, h3, h4, h5⟩ := r.ac _ hx
    refine ⟨h1, h2, h3, ?_, h5⟩
    simp only
    by_cases q : hd.fr = D.acc[k].name
    · have ki : k = i := srt_inj r.srt hkl hi (by rw [ni]; exact q.symm)
      subst ki
      simpa [keepsB, hkl] using hk
    · rw [heldL_ins, if_neg q, Int.add_zero]
      exact h4
  · rcases (mem h).1 hh with q | rfl
    · exact r.ho h q
    · exact ⟨hid, ham, hne, _, List.getElem_mem hi, _, List.getElem_mem hj, ni, nj, hc⟩
theorem rt_see {D : Led} (r : Rt D) {id code : Int} (hid : 1 ≤ id ∧ id ≤ 1000000000) (hc : code = 0 ∨ (4 ≤ code ∧ code ≤ 9)) (hno : ∀ y ∈ D.seen, y.id ≠ id) (hlen : D.seen.length < 40) : Rt ⟨D.acc, D.hold, seeL D.seen id code⟩ := by
  have mem : ∀ y, y ∈ seeL D.seen id code ↔ y ∈ D.seen ∨ y = ⟨id, code⟩ := fun y => by
    rw [show seeL D.seen id code = D.seen.takeWhile (fun y : Sn => decide (y.id < id)) ++ ⟨id, code⟩ :: D.seen.dropWhile (fun y : Sn => decide (y.id < id)) from rfl, (ins_perm (fun y : Sn => decide (y.id < id)) D.seen ⟨id, code⟩).mem_iff, List.mem_append, List.mem_singleton]
  have len : (seeL D.seen id code).length = D.seen.length + 1 := by
    have := (ins_perm (fun y : Sn => decide (y.id < id)) D.seen ⟨id, code⟩).length_eq
    simpa [seeL] using this
  refine ⟨r.na, r.nh, by show (seeL D.seen id code).length ≤ 40; omega, r.srt, r.ac, r.hup, r.ho, ins_pw Sn.id D.seen ⟨id, code⟩ r.sup hno, fun s hs => ?_⟩
  rcases (mem s).1 hs with q | rfl
  · exact r.se s q
  · exact ⟨hid, hc⟩
theorem cmdB_parts {c : Cm} (h : c.B = true) : (1 ≤ c.id ∧ c.id ≤ 1000000000) ∧ ((c.kind = 1 ∧ nameB c.fr = true ∧ curB c.to = true ∧ -1 ≤ c.am ∧ c.am ≤ 1000000000000) ∨ ((c.kind = 2 ∨ c.kind = 3) ∧ nameB c.fr = true ∧ nameB c.to = true ∧ c.fr ≠ c.to ∧ 1 ≤ c.am ∧ c.am ≤ 1000000000000) ∨ ((c.kind = 4 ∨ c.kind = 5) ∧ 1 ≤ c.ref ∧ c.ref ≤ 1000000000)) := by
  unfold Cm.B cmdB at h
  rw [Bool.and_eq_true] at h
  refine ⟨inB_iff.1 h.1, ?_⟩
  by_cases k1 : c.kind = 1
  · rw [if_pos k1] at h
    simp only [Bool.and_eq_true] at h
    exact .inl ⟨k1, h.2.1.1.1, h.2.1.1.2, inB_iff.1 h.2.1.2⟩
  · rw [if_neg k1] at h
    by_cases k2 : c.kind = 2 ∨ c.kind = 3
    · rw [if_pos k2] at h
      simp only [Bool.and_eq_true] at h
      exact .inr (.inl ⟨k2, h.2.1.1.1.1, h.2.1.1.1.2, fun e => by have := h.2.1.1.2; rw [e] at this; simp at this, inB_iff.1 h.2.1.2⟩)
    · rw [if_neg k2] at h
      by_cases k4 : c.kind = 4 ∨ c.kind = 5
      · rw [if_pos k4] at h
        simp only [Bool.and_eq_true] at h
        exact .inr (.inr ⟨k4, inB_iff.1 h.2.2⟩)
      · rw [if_neg k4] at h
        simp at h
theorem fullB_parts {D : Led} {c : Cm} (hf : fullB D c = false) : D.seen.length ≠ 40 ∧ (c.kind = 1 → D.acc.length ≠ 12) ∧ (c.kind = 3 → D.hold.length ≠ 10 ∧ ∀ y ∈ D.hold, y.id ≠ c.id) := by
  have h3 := fun hk => fullB_hold (D := D) (c := c) hf hk
  simp only [fullB, Bool.or_eq_false_iff, Bool.and_eq_false_iff, decide_eq_false_iff_not] at hf
  refine ⟨hf.1.1, fun k => ?_, fun k => ⟨?_, h3 k⟩⟩
  · rcases hf.1.2 with q | q
    · exact absurd k q
    · exact q
  · rcases hf.2 with q | q
    · exact absurd k q
    · exact q.1
/-- what pay leaves -/
theorem pay_rt {D : Led} (r : Rt D) {i j : Nat} {fr tn : ByteArray} (e1 : idxA D.acc fr = some i) (e2 : idxA D.acc tn = some j) (hne : fr ≠ tn) (hs : sameC D.acc i j = true) {am : Int} (h0 : 0 ≤ am) :
    Rt (payM D i j am).1 ∧ ((payM D i j am).2 = 0 ∨ (payM D i j am).2 = 7 ∨ (payM D i j am).2 = 8) ∧ (payM D i j am).1.seen = D.seen ∧ (payM D i j am).1.hold = D.hold := by
  obtain ⟨hi, ni, _⟩ := idxA_lt e1
  obtain ⟨hj, nj, _⟩ := idxA_lt e2
  have hij : i ≠ j := by
    rintro rfl
    exact hne (ni.symm.trans nj)
  rw [sameC_at hi hj] at hs
  have hc := sameB_iff.1 hs
  unfold payM
  split
  · rename_i q
    rw [Bool.and_eq_true] at q
    split
    · rename_i q2
      exact ⟨rt_pay r hi hj hij hc h0 q.2 q2, .inl rfl, rfl, rfl⟩
    · exact ⟨r, .inr (.inl rfl), rfl, rfl⟩
  · exact ⟨r, .inr (.inr rfl), rfl, rfl⟩
theorem rt_do {D : Led} {c : Cm} (r : Rt D) (hB : c.B = true) (hf : fullB D c = false) : Rt (doM D c).1 ∧ ((doM D c).2 = 0 ∨ (4 ≤ (doM D c).2 ∧ (doM D c).2 ≤ 9)) ∧ (doM D c).1.seen = D.seen := by
  obtain ⟨hid, hk⟩ := cmdB_parts hB
  obtain ⟨f1, f2, f3⟩ := fullB_parts hf
  have hup : (D.hold.map Hld.id).Pairwise (· < ·) := List.pairwise_map.2 r.hup
  unfold doM
  rcases hk with ⟨k, hn, hc, hl⟩ | ⟨k, n1, n2, hne, a1, a2⟩ | ⟨k, _⟩
  · rw [if_pos k]
    unfold openM
    split
    · exact ⟨r, .inr ⟨by simp, by simp⟩, rfl⟩
    · rename_i e
      exact ⟨rt_open r hn hc hl e (by have := r.na; have := f2 k; omega), .inl rfl, rfl⟩
  · rw [if_neg (by omega), if_pos k]
    unfold moveM
    split
    · rename_i i j e1 e2
      split
      · rename_i hs
        split
        · obtain ⟨p1, p2, p3, _⟩ := pay_rt r e1 e2 hne hs (am := c.am) (by omega)
          exact ⟨p1, by omega, p3⟩
        · rename_i k2
          have k3 : c.kind = 3 := by omega
          obtain ⟨hi, ni, _⟩ := idxA_lt e1
          obtain ⟨hj, nj, _⟩ := idxA_lt e2
          rw [sameC_at hi hj] at hs
          unfold holdM
          split
          · exact ⟨r, .inr ⟨by simp, by simp⟩, rfl⟩
          · split
            · rename_i hkp
              exact ⟨rt_hold (hd := ⟨c.id, c.fr, c.to, c.am⟩) r hi hj ni nj hne (sameB_iff.1 hs) hid ⟨a1, a2⟩ (f3 k3).2 (by have := r.nh; have := (f3 k3).1; omega) hkp, .inl rfl, rfl⟩
            · exact ⟨r, .inr ⟨by simp, by simp⟩, rfl⟩
      · exact ⟨r, .inr ⟨by simp, by simp⟩, rfl⟩
    · exact ⟨r, .inr ⟨by simp, by simp⟩, rfl⟩
  · rw [if_neg (by omega), if_neg (by omega)]
    cases hfi : fi (D.hold.map Hld.id) c.ref with
    | none =>
      rw [end_none hfi]
      exact ⟨r, .inr ⟨by simp, by simp⟩, rfl⟩
    | some m =>
      obtain ⟨hml, e, hfd⟩ := fiH_some hfi
      have r2 := rt_cut r hml
      unfold endM
      rw [hfd]
      simp only
      rw [filter_cut hup hml e]
      split
      · exact ⟨r2, .inl rfl, rfl⟩
      · split
        · rename_i i j e1 e2
          obtain ⟨_, g2, hne, x, hx, y, hy, n1, n2, hcu⟩ := r.ho _ (List.getElem_mem hml)
          have hs : sameC D.acc i j = true := by
            obtain ⟨hi, ni, _⟩ := idxA_lt e1
            obtain ⟨hj, nj, _⟩ := idxA_lt e2
            obtain ⟨a, ha, rfl⟩ := List.mem_iff_getElem.1 hx
            obtain ⟨b, hb, rfl⟩ := List.mem_iff_getElem.1 hy
            obtain rfl := srt_inj r.srt ha hi (n1.trans ni.symm)
            obtain rfl := srt_inj r.srt hb hj (n2.trans nj.symm)
            rw [sameC_at ha hb]
            exact sameB_iff.2 hcu
          obtain ⟨p1, p2, p3, _⟩ := pay_rt r2 e1 e2 hne hs (am := (D.hold[m]).amount) (by omega)
          split
          · exact ⟨p1, .inl rfl, p3⟩
          · rename_i q
            exact ⟨r, by simp only; omega, rfl⟩
        · exact ⟨r, .inr ⟨by simp, by simp⟩, rfl⟩
theorem rt_appl {D : Led} {c : Cm} (h : ledS D = true) : ledS (applM D c).1 = true := by
  cases ha : admC D c with
  | some k => rw [adm_some h ha]; exact h
  | none =>
    obtain ⟨hB, hs, hf, e⟩ := adm_none h ha
    have r := rt_of h
    obtain ⟨p1, p2, p3⟩ := rt_do r hB hf
    rw [e]
    refine rt_to ?_
    have hno := seen_off (fun y hy => by have := (r.se y hy).2; omega) hs
    have z := rt_see p1 (cmdB_parts hB).1 p2 (by rw [p3]; exact hno) (by rw [p3]; have := r.ns; have := (fullB_parts hf).1; omega)
    rw [p3] at z
    exact z
end Go.Proofs.YteaopalhbnhbaaaGreatDoor
