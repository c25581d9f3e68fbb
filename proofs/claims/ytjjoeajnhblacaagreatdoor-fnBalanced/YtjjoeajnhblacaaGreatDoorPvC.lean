/- A hold, and what is made of it; what an account has free. -/
import Derived.Test.YtjjoeajnhblacaaGreatDoorGn
import Derived.Test.YtjjoeajnhblacaaGreatDoorOf2
namespace Go.Proofs.YtjjoeajnhblacaaGreatDoor
open Go.ChangeShapes Go.WideShapes Go.ChangeAt Go.RowKit Go.Maps
set_option linter.unusedVariables false
theorem fi_off {l : List Sn} {id : Int} (h : ∀ y ∈ l, y.id ≠ id) : fi (l.map Sn.id) id = none := by
  rw [fi, List.findIdx?_eq_none_iff]
  intro x hx
  obtain ⟨y, hy, rfl⟩ := List.mem_map.1 hx
  simpa using h y hy
theorem seenV_off {l : List Sn} {id : Int} (h : ∀ y ∈ l, y.id ≠ id) : ¬ 0 ≤ seenV l id := by rw [seenV_none (fi_off h)]; omega
theorem applM_do {D : Led} {c : Cm} (h : ledS D = true) (hB : c.B = true) (hs : ∀ y ∈ D.seen, y.id ≠ c.id) (hf : fullB D c = false) : applM D c = (⟨(doM D c).1.acc, (doM D c).1.hold, seeL D.seen c.id (doM D c).2⟩, (doM D c).2) := by
  unfold applM
  rw [if_neg (by rw [h]; simp), if_neg (by rw [hB]; simp), if_neg (seenV_off hs), if_neg (by rw [hf]; simp)]
theorem see_mem {l : List Sn} {id code : Int} {y : Sn} (h : y ∈ l) : y ∈ seeL l id code := by
  rw [← List.takeWhile_append_dropWhile (p := fun x : Sn => decide (x.id < id)) (l := l)] at h
  unfold seeL
  rcases List.mem_append.1 h with q | q
  · exact List.mem_append.2 (.inl q)
  · exact List.mem_append.2 (.inr (List.mem_cons_of_mem _ q))
theorem end_ok {n r : Int} (k : Int) (hk : k = 4 ∨ k = 5) (h1 : 1 ≤ r ∧ r ≤ 1000000000) (hn : inB 1 1000000000 n = true) : (⟨n, k, ⟨#[]⟩, ⟨#[]⟩, 0, r⟩ : Cm).B = true := by
  unfold Cm.B cmdB
  simp only [hn, Bool.true_and]
  rw [if_neg (by omega), if_neg (by omega), if_pos hk]
  simp only [Bool.and_eq_true]
  refine ⟨?_, inB_iff.2 h1⟩
  decide +kernel
theorem insH_cut {l : List Hld} {x : Hld} : cutL (insH l x) (l.takeWhile (fun y : Hld => decide (y.id < x.id))).length = l := by
  have e : ∀ (a b : List Hld) (y : Hld), cutL (a ++ y :: b) a.length = a ++ b := fun a b y => by
    unfold cutL
    rw [List.take_left]
    congr 1
    have : a.length + 1 = (a ++ [y]).length := by simp
    rw [this, show a ++ y :: b = (a ++ [y]) ++ b by simp, List.drop_left]
  unfold insH
  rw [e]
  exact List.takeWhile_append_dropWhile
theorem fi_midH {a b : List Hld} {x : Hld} (h : ∀ y ∈ a, y.id ≠ x.id) : fi ((a ++ x :: b).map Hld.id) x.id = some a.length := by
  rw [fi, List.findIdx?_eq_some_iff_getElem]
  refine ⟨by simp, by simp, fun j hj => ?_⟩
  have hj2 : j < a.length := hj
  have e : ((a ++ x :: b).map Hld.id)[j]'(by simp; omega) = a[j].id := by rw [List.getElem_map, List.getElem_append_left hj2]
  rw [e]
  simpa using h _ (List.getElem_mem hj2)
theorem payM_code {A : List Acc} {H : List Hld} {S S' : List Sn} {i j : Nat} {am : Int} : (payM ⟨A, H, S⟩ i j am).2 = (payM ⟨A, H, S'⟩ i j am).2 := by
  unfold payM
  simp only
  split
  · split <;> rfl
  · rfl
/-- a hold that is done -/
theorem held_done {D : Led} {c : Cm} (h : ledS D = true) (h0 : (applM D c).2 = 0) (hk : c.kind = 3) (hs : (applM D c).1.seen.length ≠ D.seen.length) :
    c.B = true ∧ fullB D c = false ∧ (∀ y ∈ D.seen, y.id ≠ c.id) ∧ ∃ i j, idxA D.acc c.fr = some i ∧ idxA D.acc c.to = some j ∧ sameC D.acc i j = true ∧ (applM D c).1 = ⟨D.acc, insH D.hold ⟨c.id, c.fr, c.to, c.am⟩, seeL D.seen c.id 0⟩ := by
  cases ha : admC D c with
  | some k => rw [adm_some h ha] at hs; exact absurd rfl hs
  | none =>
    obtain ⟨hB, hsn, hf, e⟩ := adm_none h ha
    refine ⟨hB, hf, seen_off (fun y hy => by have := ((rt_of h).se y hy).2; omega) hsn, ?_⟩
    rw [e] at h0 ⊢
    simp only at h0 ⊢
    rw [h0]
    have ed : doM D c = moveM D c := by unfold doM; rw [if_neg (by omega), if_pos (.inr hk)]
    rw [ed] at h0 ⊢
    unfold moveM at h0 ⊢
    cases e1 : idxA D.acc c.fr with
    | none => rw [e1] at h0; exact absurd h0 (by simp)
    | some i =>
      cases e2 : idxA D.acc c.to with
      | none => rw [e1, e2] at h0; exact absurd h0 (by simp)
      | some j =>
        rw [e1, e2] at h0
        have k2 : ¬ c.kind = 2 := by omega
        simp only [if_neg k2] at h0 ⊢
        split at h0
        · rename_i q
          rw [if_pos q]
          unfold holdM at h0 ⊢
          split at h0
          · exact absurd h0 (by simp)
          · rename_i q2
            rw [if_neg q2]
            split at h0
            · rename_i q3
              rw [if_pos q3]
              exact ⟨i, j, rfl, rfl, q, rfl⟩
            · exact absurd h0 (by simp)
        · exact absurd h0 (by simp)
/-- what FnHeld asks -/
structure HeldIs (D Y : Led) (c : Cm) : Prop where
  held : heldO Y c.fr = heldO D c.fr + c.am
  bd : 0 ≤ heldO D c.fr ∧ heldO D c.fr ≤ 10000000000000 ∧ 1 ≤ c.am ∧ c.am ≤ 1000000000000
  drop : ∃ S, applM Y ⟨999, 5, ⟨#[]⟩, ⟨#[]⟩, 0, c.id⟩ = (⟨D.acc, D.hold, S⟩, 0)
  take : ∃ g A, (∃ X, applM Y ⟨999, 4, ⟨#[]⟩, ⟨#[]⟩, 0, c.id⟩ = (X, g) ∧ (g = 0 → X.acc = A ∧ X.hold = D.hold)) ∧ ∃ X, applM D ⟨999, 2, c.fr, c.to, c.am, 0⟩ = (X, g) ∧ (g = 0 → X.acc = A)
theorem held_law {D : Led} {c : Cm} (h : ledS D = true) (h0 : (applM D c).2 = 0) (hk : c.kind = 3) (hs : (applM D c).1.seen.length ≠ D.seen.length) (h40 : (applM D c).1.seen.length ≠ 40) (h999 : ∀ y ∈ (applM D c).1.seen, y.id ≠ 999) : HeldIs D (applM D c).1 c := by
  have hY := rt_appl (c := c) h
  obtain ⟨hB, hf, hsn, i, j, e1, e2, hc, e⟩ := held_done h h0 hk hs
  obtain ⟨hid, hk3⟩ := cmdB_parts hB
  have hm : nameB c.fr = true ∧ nameB c.to = true ∧ c.fr ≠ c.to ∧ 1 ≤ c.am ∧ c.am ≤ 1000000000000 := by
    rcases hk3 with ⟨q, _⟩ | ⟨_, q⟩ | ⟨q, _⟩
    · omega
    · exact q
    · omega
  have r := rt_of h
  obtain ⟨_, _, hfh⟩ := fullB_parts hf
  have hoff := (hfh hk).2
  rw [e] at hY h40 h999 ⊢
  simp only at h40 h999
  have rY := rt_of hY
  have hs999 : ∀ y ∈ D.seen, y.id ≠ 999 := fun y hy => h999 y (see_mem hy)
  have hl40 : D.seen.length ≠ 40 := (fullB_parts hf).1
  have hbd := heldL_bd c.fr D.hold (fun x hx => by have := (r.ho x hx).2.1; omega)
  have hn9 : inB 1 1000000000 999 = true := by decide
  have hup : ((insH D.hold ⟨c.id, c.fr, c.to, c.am⟩).map Hld.id).Pairwise (· < ·) := List.pairwise_map.2 rY.hup
  have hfi : fi ((insH D.hold ⟨c.id, c.fr, c.to, c.am⟩).map Hld.id) c.id = some (D.hold.takeWhile (fun y : Hld => decide (y.id < c.id))).length :=
    fi_midH (x := ⟨c.id, c.fr, c.to, c.am⟩) (fun y hy => hoff y ((List.takeWhile_sublist _).subset hy))
  obtain ⟨hml, em, hfd⟩ := fiH_some hfi
  have hfl := filter_cut hup hml em
  rw [insH_cut (x := ⟨c.id, c.fr, c.to, c.am⟩)] at hfl
  have hel : (insH D.hold ⟨c.id, c.fr, c.to, c.am⟩)[(D.hold.takeWhile (fun y : Hld => decide (y.id < c.id))).length] = ⟨c.id, c.fr, c.to, c.am⟩ := by simp [insH]
  rw [hel] at hfd
  have i1 : (idxA D.acc c.fr).isSome = true := by rw [e1]; rfl
  refine ⟨?_, ?_, ?_, ?_⟩
  · unfold heldO
    rw [if_pos ⟨hY, i1⟩, if_pos ⟨h, i1⟩]
    simp only [heldL_ins, if_true]
  · unfold heldO
    rw [if_pos ⟨h, i1⟩]
    have := r.nh
    omega
  · have hfu : fullB ⟨D.acc, insH D.hold ⟨c.id, c.fr, c.to, c.am⟩, seeL D.seen c.id 0⟩ ⟨999, 5, ⟨#[]⟩, ⟨#[]⟩, 0, c.id⟩ = false := by simp [fullB, h40]
    rw [applM_do hY (end_ok 5 (.inr rfl) hid hn9) h999 hfu]
    have ed : doM ⟨D.acc, insH D.hold ⟨c.id, c.fr, c.to, c.am⟩, seeL D.seen c.id 0⟩ ⟨999, 5, ⟨#[]⟩, ⟨#[]⟩, 0, c.id⟩ = (⟨D.acc, D.hold, seeL D.seen c.id 0⟩, 0) := by
      unfold doM
      rw [if_neg (by simp), if_neg (by simp)]
      unfold endM
      simp only [hfd, hfl, if_true]
    rw [ed]
    exact ⟨_, rfl⟩
  · have hfu : fullB ⟨D.acc, insH D.hold ⟨c.id, c.fr, c.to, c.am⟩, seeL D.seen c.id 0⟩ ⟨999, 4, ⟨#[]⟩, ⟨#[]⟩, 0, c.id⟩ = false := by simp [fullB, h40]
    have hfp : fullB D ⟨999, 2, c.fr, c.to, c.am, 0⟩ = false := by simp [fullB, hl40]
    have hBp : (⟨999, 2, c.fr, c.to, c.am, 0⟩ : Cm).B = true := by
      unfold Cm.B cmdB
      simp only [hn9, Bool.true_and]
      rw [if_neg (by omega), if_pos (by simp)]
      have hne : (c.fr.toList == c.to.toList) = false := by
        cases q : (c.fr.toList == c.to.toList)
        · rfl
        · exact absurd (beq_bytes.1 q) hm.2.2.1
      simp [hm.1, hm.2.1, hne, inB_iff.2 hm.2.2.2]
    refine ⟨(payM D i j c.am).2, payA D.acc i j c.am, ?_, ?_⟩
    · rw [applM_do hY (end_ok 4 (.inl rfl) hid hn9) h999 hfu]
      have ed : doM ⟨D.acc, insH D.hold ⟨c.id, c.fr, c.to, c.am⟩, seeL D.seen c.id 0⟩ ⟨999, 4, ⟨#[]⟩, ⟨#[]⟩, 0, c.id⟩ =
          (if (payM ⟨D.acc, D.hold, seeL D.seen c.id 0⟩ i j c.am).2 = 0 then ((payM ⟨D.acc, D.hold, seeL D.seen c.id 0⟩ i j c.am).1, 0) else (⟨D.acc, insH D.hold ⟨c.id, c.fr, c.to, c.am⟩, seeL D.seen c.id 0⟩, (payM ⟨D.acc, D.hold, seeL D.seen c.id 0⟩ i j c.am).2)) := by
        unfold doM
        rw [if_neg (by simp), if_neg (by simp)]
        unfold endM
        simp only [hfd, hfl, e1, e2]
        rw [if_neg (by simp)]
      have ec : (payM ⟨D.acc, D.hold, seeL D.seen c.id 0⟩ i j c.am).2 = (payM D i j c.am).2 := payM_code
      rw [ed, ec]
      by_cases q : (payM D i j c.am).2 = 0
      · rw [if_pos q, payM_done (ec.trans q)]
        simp only [q]
        exact ⟨_, rfl, fun _ => ⟨rfl, rfl⟩⟩
      · rw [if_neg q]
        exact ⟨_, rfl, fun z => absurd z q⟩
    · rw [applM_do h hBp hs999 hfp]
      have ed : doM D ⟨999, 2, c.fr, c.to, c.am, 0⟩ = payM D i j c.am := by
        unfold doM
        rw [if_neg (by simp), if_pos (by simp)]
        unfold moveM
        simp only [e1, e2, hc, if_true]
      rw [ed]
      exact ⟨_, rfl, fun q => by simp only [payM_done q]⟩
/-- what FnFree asks -/
theorem free_law {D : Led} {fr tn : ByteArray} {i j : Nat} (h : ledS D = true) (e1 : idxA D.acc fr = some i) (e2 : idxA D.acc tn = some j) (hi : i < D.acc.length) (hj : j < D.acc.length) (hne : D.acc[i].name ≠ D.acc[j].name) (hc : D.acc[i].cur = D.acc[j].cur) (hl : 0 ≤ D.acc[i].limit)
    (h40 : D.seen.length ≠ 40) (h888 : ∀ y ∈ D.seen, y.id ≠ 888) (hf0 : 0 ≤ freeO D fr) :
    freeO D fr ≤ 1000000000000 ∧ (freeO D fr = 0 ∨ (applM D ⟨888, 2, fr, tn, freeO D fr, 0⟩).2 = 0 ∨ (applM D ⟨888, 2, fr, tn, freeO D fr, 0⟩).2 = 8) ∧ (freeO D fr = 1000000000000 ∨ (applM D ⟨888, 2, fr, tn, freeO D fr + 1, 0⟩).2 = 7 ∨ (applM D ⟨888, 2, fr, tn, freeO D fr + 1, 0⟩).2 = 8) := by
  have r := rt_of h
  obtain ⟨_, ni, _⟩ := idxA_lt e1
  obtain ⟨_, nj, _⟩ := idxA_lt e2
  obtain ⟨n1, _, _, hwi, _⟩ := r.ac _ (List.getElem_mem hi)
  obtain ⟨n2, _, _, _, _⟩ := r.ac _ (List.getElem_mem hj)
  have hij : i ≠ j := by rintro rfl; exact hne rfl
  have ef : freeO D fr = min 1000000000000 (D.acc[i].posted - heldL fr D.hold + D.acc[i].limit) := by
    rw [freeO_at h e1 hi]
    unfold freeX
    rw [if_neg (by omega)]
  have hs : sameC D.acc i j = true := by rw [sameC_at hi hj]; exact sameB_iff.2 hc
  rw [ni] at n1 hwi hne
  rw [nj] at n2 hne
  have key : ∀ am : Int, 1 ≤ am → am ≤ 1000000000000 → (applM D ⟨888, 2, fr, tn, am, 0⟩).2 = (payM D i j am).2 := fun am a1 a2 => by
    have hB : (⟨888, 2, fr, tn, am, 0⟩ : Cm).B = true := by
      unfold Cm.B cmdB
      rw [if_neg (by simp), if_pos (by simp)]
      have hq : (fr.toList == tn.toList) = false := by
        cases q : (fr.toList == tn.toList)
        · rfl
        · exact absurd (beq_bytes.1 q) hne
      have h8 : inB 1 1000000000 888 = true := by decide
      simp [n1, n2, hq, h8, inB_iff.2 ⟨a1, a2⟩]
    have hfp : fullB D ⟨888, 2, fr, tn, am, 0⟩ = false := by simp [fullB, h40]
    rw [applM_do h hB h888 hfp]
    have ed : doM D ⟨888, 2, fr, tn, am, 0⟩ = payM D i j am := by
      unfold doM
      rw [if_neg (by simp), if_pos (by simp)]
      unfold moveM
      simp only [e1, e2, hs, if_true]
    rw [ed]
  have hw : ∀ am : Int, keepsB (payA D.acc i j am) D.hold i = withinB ⟨fr, D.acc[i].cur, D.acc[i].limit, D.acc[i].posted - am⟩ (heldL fr D.hold) := fun am => by
    have hk' : i < (payA D.acc i j am).length := by rw [payA_len]; exact hi
    simp only [keepsB, List.getElem?_eq_getElem hk']
    rw [payA_at hi hj hi am hk']
    simp only [if_true, if_neg hij, ni]
    rw [show D.acc[i].posted + -am + 0 = D.acc[i].posted - am by omega]
  have hr : ∀ am : Int, rangeB (payA D.acc i j am) i = inB (-1000000000000) 1000000000000 (D.acc[i].posted - am) := fun am => by
    have hk' : i < (payA D.acc i j am).length := by rw [payA_len]; exact hi
    simp only [rangeB, List.getElem?_eq_getElem hk']
    rw [payA_at hi hj hi am hk']
    simp only [if_true, if_neg hij]
    rw [show D.acc[i].posted + -am + 0 = D.acc[i].posted - am by omega]
  simp only [withinB, Bool.and_eq_true, Bool.or_eq_true, decide_eq_true_eq] at hwi
  refine ⟨by omega, ?_, ?_⟩
  · by_cases z : freeO D fr = 0
    · exact .inl z
    · refine .inr ?_
      rw [key _ (by omega) (by omega)]
      unfold payM
      split
      · rename_i q
        rw [Bool.and_eq_true, hr] at q
        rw [if_pos]
        · exact .inl rfl
        · rw [hw]
          simp only [withinB, Bool.and_eq_true, Bool.or_eq_true, decide_eq_true_eq]
          exact ⟨⟨q.1, hwi.1.2⟩, .inr (by omega)⟩
      · exact .inr rfl
  · by_cases z : freeO D fr = 1000000000000
    · exact .inl z
    · refine .inr ?_
      rw [key _ (by omega) (by omega)]
      unfold payM
      split
      · rw [if_neg]
        · exact .inl rfl
        · rw [hw]
          simp only [withinB, Bool.and_eq_true, Bool.or_eq_true, decide_eq_true_eq]
          omega
      · exact .inr rfl
end Go.Proofs.YtjjoeajnhblacaaGreatDoor
