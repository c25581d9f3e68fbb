/- A new world is right and settled, nothing is on its way, and it has two ends for each slot but the first. -/
import Derived.Test.YtilacamcedjbmaaSt
import Derived.Test.YtilacamcedjbmaaWn
namespace Go.Proofs.Ytilacamcedjbmaa
open Go.ChangeShapes Go.WideShapes Go.ChangeAt Go.RowKit
set_option linter.unusedVariables false
def e0 : En := ⟨[], 0, 0⟩
theorem e0_ok : endB e0 = true := by simp [endB, e0, inB]
def nwP (o : Slt) : PD := ⟨o.id, e0⟩
def nwD (l : List Slt) (s : Slt) : NdD := ⟨s.id, s.has, 0, 0, [], (l.filter (fun o => nbB s o)).map nwP⟩
theorem mkN_d (l : List Slt) (s : Slt) (pa : Option Addr) (pc : Nat) : (mkN l s pa pc).d = nwD l s := by
  simp only [mkN, Nd.d, nwD, peersL, List.map_map, NdD.mk.injEq, true_and]
  rfl
theorem fst_d {base : Nat} {l : List Slt} {v : Value} {L : List Nd} {x : World} (h : Fst base l l.length v L x) : L.map Nd.d = l.map (nwD l) := by
  have ln := h.len
  apply List.ext_getElem
  · simp [ln]
  · intro i h1 h2
    simp only [List.length_map] at h1 h2
    obtain ⟨pa, pc, e⟩ := h.is i h1 h2
    simp only [List.getElem_map, e, mkN_d]
theorem nw_parts {l : List Slt} (h : rightsB l = true) : (1 ≤ l.length ∧ l.length ≤ 8) ∧ (∀ x ∈ l, (1 ≤ x.id ∧ x.id ≤ 1000000000) ∧ 0 ≤ x.has ∧ x.has ≤ 1000000000000) ∧ (l.map Slt.id).Pairwise (· < ·) ∧ sumL l ≤ 1000000000000 := by
  have h' := h
  simp only [rightsB, Bool.and_eq_true, decide_eq_true_eq] at h
  obtain ⟨⟨⟨h1, h8⟩, hg⟩, hs⟩ := h
  have inc : ∀ k m (hk : k + m + 1 < l.length), (l[k]'(by omega)).id < (l[k + m + 1]).id := by
    intro k m
    induction m with
    | zero =>
      intro hk
      have h2 := hg (k + 1) hk
      rw [slotB_succ (m := k) hk] at h2
      simp only [Bool.and_eq_true, decide_eq_true_eq] at h2
      exact h2.2.1
    | succ m ih =>
      intro hk
      have h1 := ih (by omega)
      have h2 := hg (k + m + 1 + 1) hk
      rw [slotB_succ (m := k + m + 1) hk] at h2
      simp only [Bool.and_eq_true, decide_eq_true_eq] at h2
      have := h2.2.1
      show (l[k]'(by omega)).id < (l[k + m + 1 + 1]).id
      omega
  refine ⟨⟨h1, h8⟩, fun x hx => ?_, ?_, hs⟩
  · obtain ⟨i, hi, rfl⟩ := List.getElem_of_mem hx
    have h2 := hg i hi
    simp only [slotB, Bool.and_eq_true, inB, decide_eq_true_eq] at h2
    exact ⟨h2.1.1, h2.1.2⟩
  · rw [List.pairwise_iff_getElem]
    intro i j hi hj hij
    simp only [List.length_map] at hi hj
    have := inc i (j - i - 1) (by omega)
    have e : i + (j - i - 1) + 1 = j := by omega
    simp only [e] at this
    simpa using this
theorem pw_inj {l : List Slt} (h : (l.map Slt.id).Pairwise (· < ·)) {x y : Slt} (hx : x ∈ l) (hy : y ∈ l) (e : x.id = y.id) : x = y := by
  obtain ⟨i, hi, rfl⟩ := List.getElem_of_mem hx
  obtain ⟨j, hj, rfl⟩ := List.getElem_of_mem hy
  rw [List.pairwise_iff_getElem] at h
  rcases Nat.lt_trichotomy i j with q | q | q
  · have := h i j (by simpa using hi) (by simpa using hj) q
    simp only [List.getElem_map] at this
    omega
  · subst q; rfl
  · have := h j i (by simpa using hj) (by simpa using hi) q
    simp only [List.getElem_map] at this
    omega
theorem rises_pw {l : List Int} (h : l.Pairwise (· < ·)) {k : Nat} (hk : k < l.length) : risesB l k = true := by
  cases k with
  | zero => rfl
  | succ m =>
    rw [rises_at hk]
    rw [List.pairwise_iff_getElem] at h
    simpa using h m (m + 1) (by omega) hk (by omega)
theorem nwP_ids (L : List Slt) : (L.map nwP).map PD.id = L.map Slt.id := by simp [nwP, Function.comp_def]
theorem nwD_ids (l : List Slt) (L : List Slt) : (L.map (nwD l)).map NdD.id = L.map Slt.id := by simp [nwD, Function.comp_def]
theorem filter_pw {l : List Slt} (p : Slt → Bool) (h : (l.map Slt.id).Pairwise (· < ·)) : ((l.filter p).map Slt.id).Pairwise (· < ·) :=
  h.sublist (List.filter_sublist.map _)
theorem nb_self2 {l : List Slt} (h : rightsB l = true) {s : Slt} (hs : s ∈ l) : nbB s s = false := by
  obtain ⟨i, hi, rfl⟩ := List.getElem_of_mem hs
  exact nb_self h i hi
theorem nb_comm (x y : Slt) : nbB x y = nbB y x := by simp only [nbB, Bool.or_comm]
theorem nw_node {l : List Slt} (h : rightsB l = true) {s : Slt} (hs : s ∈ l) : nodeB (nwD l s) = true := by
  obtain ⟨⟨h1, h8⟩, hp, hpw, hsum⟩ := nw_parts h
  have hid := hp s hs
  have hlen : (l.filter (fun o => nbB s o)).length ≤ 8 := Nat.le_trans (List.length_filter_le _ _) h8
  have hpd : allTo (pdB s.id ((l.filter (fun o => nbB s o)).map nwP)) ((l.filter (fun o => nbB s o)).map nwP).length = true := by
    rw [allTo_iff]
    intro k hk
    have hk' : k < (l.filter (fun o => nbB s o)).length := by simpa using hk
    have hm : (l.filter (fun o => nbB s o))[k] ∈ l.filter (fun o => nbB s o) := List.getElem_mem hk'
    have hm2 := List.mem_filter.1 hm
    have hid2 := hp _ hm2.1
    have hne : ((l.filter (fun o => nbB s o))[k]).id ≠ s.id := fun e => by
      have := pw_inj hpw hm2.1 hs e
      rw [this, nb_self2 h hs] at hm2
      exact absurd hm2.2 (by simp)
    have hri := rises_pw (filter_pw (fun o => nbB s o) hpw) (k := k) (by simpa using hk')
    simp only [pdB, List.getElem?_eq_getElem hk, List.getElem_map, nwP_ids, hri]
    simp only [nwP, e0_ok, inB]
    simp [hid2.1.1, hid2.1.2, hne]
  simp only [nodeB, nwD, hpd, Bool.and_true]
  simp only [inB, allTo, List.length_nil, List.length_map]
  have h10 : s.has ≤ 10000000000000 := by omega
  simp [hid.1.1, hid.1.2, hid.2.1, h10, hlen]
theorem nw_bet {l : List Slt} (h : rightsB l = true) {s o : Slt} (hs : s ∈ l) (ho : o ∈ l) (hn : nbB s o = true) : endBet (l.map (nwD l)) o.id s.id = some e0 := by
  obtain ⟨⟨h1, h8⟩, hp, hpw, hsum⟩ := nw_parts h
  unfold endBet
  rw [nwD_ids]
  cases e1 : fi (l.map Slt.id) o.id with
  | none => exact absurd rfl (fi_none e1 o.id (List.mem_map.2 ⟨o, ho, rfl⟩))
  | some k =>
    obtain ⟨hk, ek⟩ := fi_some e1
    have hk' : k < l.length := by simpa using hk
    have eo : l[k] = o := pw_inj hpw (List.getElem_mem hk') ho (by simpa using ek)
    simp only [List.getElem?_map, List.getElem?_eq_getElem hk', Option.map_some, eo]
    have hso : s ∈ l.filter (fun x => nbB o x) := List.mem_filter.2 ⟨hs, by rw [nb_comm]; exact hn⟩
    have eid : (nwD l o).peers.map PD.id = (l.filter (fun x => nbB o x)).map Slt.id := by simp [nwD, nwP, Function.comp_def]
    rw [eid]
    cases e2 : fi ((l.filter (fun x => nbB o x)).map Slt.id) s.id with
    | none => exact absurd rfl (fi_none e2 s.id (List.mem_map.2 ⟨s, hso, rfl⟩))
    | some i =>
      obtain ⟨hi, _⟩ := fi_some e2
      have hi' : i < (l.filter (fun x => nbB o x)).length := by simpa using hi
      simp only [nwD, List.getElem?_map, List.getElem?_eq_getElem hi', Option.map_some, nwP]
theorem nw_open (D : List NdD) (own : Int) (ps : List Slt) : opnS D own (ps.map nwP) = 0 := by
  induction ps with
  | nil => rfl
  | cons p ps ih =>
    simp only [List.map_cons, opnS, ih]
    have : opnP D own (nwP p) = 0 := by
      unfold opnP
      cases endBet D (nwP p).id own with
      | none => rfl
      | some E =>
        show openOf e0 E.got = 0
        unfold openOf
        rw [if_pos e0_ok]
        rfl
    omega
theorem nw_fly (D : List NdD) (l L : List Slt) : flyS D (L.map (nwD l)) = 0 := by
  induction L with
  | nil => rfl
  | cons s L ih =>
    simp only [List.map_cons, flyS, ih]
    have := nw_open D (nwD l s).id (l.filter (fun o => nbB s o))
    show opnS D (nwD l s).id ((l.filter (fun o => nbB s o)).map nwP) + 0 = 0
    omega
theorem nw_mis (l L : List Slt) : misS (L.map (nwD l)) = -sumL L := by
  induction L with
  | nil => rfl
  | cons s L ih =>
    simp only [List.map_cons, misS, ih, sumL]
    show (0 : Int) - 0 - s.has + -sumL L = _
    omega
theorem nw_world {l : List Slt} (h : rightsB l = true) : worldB (⟨sumL l, l.map (nwD l), []⟩ : WdD) = true := by
  obtain ⟨⟨h1, h8⟩, hp, hpw, hsum⟩ := nw_parts h
  have h0 : 0 ≤ sumL l := (sumL_bd l (fun x hx => (hp x hx).2)).1
  have hA : allTo (ndB (l.map (nwD l))) (l.map (nwD l)).length = true := by
    rw [allTo_iff]
    intro k hk
    have hk' : k < l.length := by simpa using hk
    have hri := rises_pw hpw (k := k) (by simpa using hk')
    simp only [ndB, List.getElem?_eq_getElem hk, List.getElem_map, nwD_ids, hri, nw_node h (List.getElem_mem hk'), Bool.and_true]
  have hB : allTo (lnksB (l.map (nwD l))) (l.map (nwD l)).length = true := by
    rw [allTo_iff]
    intro k hk
    have hk' : k < l.length := by simpa using hk
    simp only [lnksB, List.getElem?_eq_getElem hk, List.getElem_map]
    rw [allTo_iff]
    intro j hj
    have hj' : j < (l.filter (fun o => nbB l[k] o)).length := by simpa [nwD] using hj
    have hm := List.mem_filter.1 (List.getElem_mem hj')
    simp only [lnkAt, List.getElem?_eq_getElem hj]
    have e : (nwD l l[k]).peers[j] = nwP (l.filter (fun o => nbB l[k] o))[j] := by simp [nwD]
    rw [e]
    unfold lnkB
    have hb := nw_bet h (List.getElem_mem hk') hm.1 hm.2
    show (match endBet (l.map (nwD l)) ((l.filter (fun o => nbB l[k] o))[j]).id (l[k]).id with | none => false | some E => inB (E.sent - (E.out.length : Int)) E.sent e0.got) = true
    rw [hb]
    simp [e0, inB]
  unfold worldB
  simp only [hA, hB, nw_mis, nw_fly, Bool.and_true]
  simp only [inB, allTo, List.length_nil, List.length_map]
  have hz : sumL l + -sumL l = 0 := by omega
  rw [hz]
  simp [h0, hsum, h1, h8]
theorem nw_set {l : List Slt} (h : rightsB l = true) : setB (⟨sumL l, l.map (nwD l), []⟩ : WdD) = true := by
  unfold setB
  rw [nw_world h]
  have : (l.map (nwD l)).any waitD = false := by
    rw [List.any_eq_false]
    intro n hn
    obtain ⟨s, hs, rfl⟩ := List.mem_map.1 hn
    simp only [waitD, nwD, Bool.not_eq_true]
    rw [List.any_eq_false]
    intro p hp
    obtain ⟨o, ho, rfl⟩ := List.mem_map.1 hp
    simp [opnD, nwP, e0]
  rw [this]
  simp
theorem nw_flying {l : List Slt} (h : rightsB l = true) : flyV (⟨sumL l, l.map (nwD l), []⟩ : WdD) = 0 := by
  simp only [flyV, nw_world h, if_true, nw_fly]
/-- how many ends the slots of a list have -/
def lnkN (l : List Slt) : List Slt → Nat
  | [] => 0
  | s :: r => (peersL l s).length + lnkN l r
theorem lnkN_append (l a b : List Slt) : lnkN l (a ++ b) = lnkN l a + lnkN l b := by
  induction a with
  | nil => simp [lnkN]
  | cons x xs ih => simp only [List.cons_append, lnkN, ih]; omega
theorem peersL_cnt (l : List Slt) (s : Slt) : (peersL l s).length = l.countP (fun o => nbB s o) := by
  simp [peersL, List.countP_eq_length_filter]
theorem lnkN_more (A B : List Slt) (x : Slt) : lnkN (A ++ [x]) B = lnkN A B + B.countP (fun s => nbB s x) := by
  induction B with
  | nil => simp [lnkN]
  | cons s B ih =>
    simp only [lnkN, ih, peersL_cnt, List.countP_append, List.countP_cons, List.countP_nil]
    omega
theorem one_of {A : List Slt} (h : (A.map Slt.id).Pairwise (· < ·)) {y : Int} (hy : y ∈ A.map Slt.id) : A.countP (fun s => y == s.id) = 1 := by
  induction A with
  | nil => simp at hy
  | cons a A ih =>
    simp only [List.map_cons, List.pairwise_cons] at h
    simp only [List.map_cons, List.mem_cons] at hy
    rw [List.countP_cons]
    rcases hy with rfl | hy
    · have : A.countP (fun s => a.id == s.id) = 0 := by
        rw [List.countP_eq_zero]
        intro s hs
        have := h.1 s.id (List.mem_map.2 ⟨s, hs, rfl⟩)
        simp
        omega
      simp [this]
    · have := h.1 y hy
      rw [ih h.2 hy]
      have e : (y == a.id) = false := by simp; omega
      simp [e]
theorem nw_links {l : List Slt} (h : rightsB l = true) : ∀ k, 1 ≤ k → k ≤ l.length → lnkN (l.take k) (l.take k) + 2 = 2 * k := by
  obtain ⟨⟨h1, h8⟩, hp, hpw, hsum⟩ := nw_parts h
  have hg : ∀ j (h : j < l.length), slotB (l.take j) l[j] = true := by
    simp only [rightsB, Bool.and_eq_true, decide_eq_true_eq] at h
    exact h.1.2
  intro k hk
  induction k with
  | zero => omega
  | succ k ih =>
    intro hkl
    have hlt : k < l.length := by omega
    have hself := nb_self h k hlt
    rw [take_next l k hlt, lnkN_append, lnkN_more]
    simp only [lnkN, peersL_cnt, List.countP_append, List.countP_cons, List.countP_nil, hself]
    rcases Nat.eq_zero_or_pos k with rfl | hk0
    · simp [lnkN]
    · have ih := ih hk0 (by omega)
      obtain ⟨m, rfl⟩ : ∃ m, k = m + 1 := ⟨k - 1, by omega⟩
      have h2 := hg (m + 1) hlt
      rw [slotB_succ hlt] at h2
      simp only [Bool.and_eq_true, decide_eq_true_eq] at h2
      have hup : (l[m + 1]).up ∈ (l.take (m + 1)).map Slt.id := by
        rcases posL_cases (l.take (m + 1)) (l[m + 1]).up with ⟨j, hj, _, he⟩ | ⟨hp, _⟩
        · exact List.mem_map.2 ⟨_, List.getElem_mem hj, he⟩
        · omega
      have hpt : ((l.take (m + 1)).map Slt.id).Pairwise (· < ·) := hpw.sublist ((List.take_sublist _ _).map _)
      have hone := one_of hpt hup
      have hlow : ∀ s ∈ l.take (m + 1), s.up ≠ (l[m + 1]).id := fun s hs => by
        obtain ⟨j, hj, rfl⟩ := List.getElem_of_mem hs
        have hj2 : j < m + 1 := by simp at hj; omega
        have e : (l.take (m + 1))[j] = l[j]'(by omega) := by simp
        rw [e]
        have q1 := up_lt h j (by omega)
        rw [List.pairwise_iff_getElem] at hpw
        have q2 := hpw j (m + 1) (by simp; omega) (by simpa using hlt) hj2
        simp only [List.getElem_map] at q2
        omega
      have c1 : (l.take (m + 1)).countP (fun s => nbB s l[m + 1]) = 1 := by
        refine Eq.trans ?_ hone
        apply List.countP_congr
        intro s hs
        have := hlow s hs
        simp [nbB, this]
      have c2 : (l.take (m + 1)).countP (fun s => nbB l[m + 1] s) = 1 := by
        refine Eq.trans ?_ c1
        apply List.countP_congr
        intro s hs
        rw [nb_comm]
      rw [c1, c2]
      simp only [Bool.false_eq_true, if_false]
      omega
theorem nw_links2 {l : List Slt} (h : rightsB l = true) : lnkN l l + 2 = 2 * l.length := by
  have := nw_links h l.length (nw_parts h).1.1 (Nat.le_refl _)
  rwa [List.take_length] at this
theorem lnkN_next (l : List Slt) (k : Nat) (h : k < l.length) : lnkN l (l.take (k + 1)) = lnkN l (l.take k) + (peersL l l[k]).length := by
  rw [take_next l k h, lnkN_append]; simp [lnkN]
theorem lnkN_bd (l : List Slt) (h8 : l.length ≤ 8) (k : Nat) : lnkN l (l.take k) ≤ 8 * k := by
  have : ∀ L : List Slt, lnkN l L ≤ 8 * L.length := fun L => by
    induction L with
    | nil => simp [lnkN]
    | cons s L ih => simp only [lnkN, List.length_cons]; have := peersL_len l s; omega
  have h2 := this (l.take k)
  have : (l.take k).length ≤ k := by simp; omega
  omega
end Go.Proofs.Ytilacamcedjbmaa
