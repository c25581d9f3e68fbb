/- What a right ledger has besides; what do makes of it, in the program's words and in the model's. -/
import Derived.Test.YtjjoeajnhblacaaGreatDoorBkH
import Derived.Test.YtjjoeajnhblacaaGreatDoorBkD
import Derived.Test.YtjjoeajnhblacaaGreatDoorLAp
namespace Go.Proofs.YtjjoeajnhblacaaGreatDoor
open Go.ChangeShapes Go.WideShapes Go.ChangeAt Go.RowKit Go.Maps
set_option linter.unusedVariables false
theorem lessB_eq : ∀ (x y : List UInt8), Op.bytesLess x y = decide (x < y)
  | [], [] => rfl
  | [], _ :: _ => rfl
  | _ :: _, [] => rfl
  | a :: s, b :: t => by
    rw [Op.bytesLess, lessB_eq s t, Bool.eq_iff_iff]
    simp [List.cons_lt_cons_iff]
theorem less_iff {a b : ByteArray} : Op.bytesLess a.toList b.toList = true ↔ a.toList < b.toList := by rw [lessB_eq]; simp
theorem toList_inj {a b : ByteArray} (h : a.toList = b.toList) : a = b := sameB_iff.1 (beq_iff_eq.2 h)
theorem tri (a b : ByteArray) : a.toList < b.toList ∨ a = b ∨ b.toList < a.toList := by
  by_cases h1 : a.toList < b.toList
  · exact .inl h1
  · by_cases h2 : b.toList < a.toList
    · exact .inr (.inr h2)
    · exact .inr (.inl (toList_inj (List.le_antisymm (List.not_lt.1 h2) (List.not_lt.1 h1))))
theorem ltB_iff {a b : ByteArray} : ltB a b = true ↔ a.toList < b.toList := by
  unfold ltB
  rw [lessB_eq]
  simp only [Bool.and_eq_true, Bool.not_eq_true', decide_eq_false_iff_not, beq_eq_false_iff_ne]
  constructor
  · rintro ⟨h1, h2⟩
    rcases tri a b with h | rfl | h
    · exact h
    · exact absurd rfl h2
    · exact absurd h h1
  · intro h
    refine ⟨List.not_lt.2 (List.le_of_lt h), fun e => ?_⟩
    rw [e] at h
    exact List.lt_irrefl _ h
/-- accounts by their names, rising -/
def Srt (l : List Acc) : Prop := l.Pairwise (fun x y => x.name.toList < y.name.toList)
theorem srt_names {A B : List Acc} (h : A.map Acc.name = B.map Acc.name) (k : Srt A) : Srt B := by
  have k1 : (A.map Acc.name).Pairwise (fun x y => x.toList < y.toList) := List.pairwise_map.2 k
  rw [h] at k1
  have k2 := List.pairwise_map.1 k1
  exact k2
theorem srt_off {l : List Acc} (h : Srt l) : ∀ i j (hi : i < l.length) (hj : j < l.length), i < j → l[i].name ≠ l[j].name := fun i j hi hj hij e => by
  have := List.pairwise_iff_getElem.1 h i j hi hj hij
  rw [e] at this
  exact List.lt_irrefl _ this
theorem tw_all {X : Type} {p : X → Bool} : ∀ {l : List X}, ∀ y ∈ l.takeWhile p, p y = true
  | [], y, h => by simp at h
  | a :: l, y, h => by
    rw [List.takeWhile_cons] at h
    split at h
    · rcases List.mem_cons.1 h with rfl | h
      · assumption
      · exact tw_all y h
    · simp at h
theorem dw_head {X : Type} {p : X → Bool} : ∀ {l : List X} {y : X} {r : List X}, l.dropWhile p = y :: r → p y = false
  | [], y, r, h => by simp at h
  | a :: l, y, r, h => by
    rw [List.dropWhile_cons] at h
    split at h
    · exact dw_head h
    · rename_i q
      cases h
      simpa using q
theorem srt_ins {l : List Acc} {x : Acc} (h : Srt l) (hx : ∀ y ∈ l, y.name ≠ x.name) : Srt (insA l x) := by
  unfold insA
  have e := List.takeWhile_append_dropWhile (p := fun y : Acc => !ltB x.name y.name) (l := l)
  have h2 := h
  unfold Srt at h2
  rw [← e, List.pairwise_append] at h2
  obtain ⟨p1, p2, p3⟩ := h2
  have q1 : ∀ y ∈ l.takeWhile (fun y : Acc => !ltB x.name y.name), y.name.toList < x.name.toList := fun y hy => by
    have a1 := tw_all y hy
    have a2 : y ∈ l := by rw [← e]; exact List.mem_append_left _ hy
    rcases tri y.name x.name with t | t | t
    · exact t
    · exact absurd t (hx y a2)
    · rw [ltB_iff.2 t] at a1
      cases a1
  have q2 : ∀ y ∈ l.dropWhile (fun y : Acc => !ltB x.name y.name), x.name.toList < y.name.toList := fun y hy => by
    cases hd : l.dropWhile (fun y : Acc => !ltB x.name y.name) with
    | nil => rw [hd] at hy; cases hy
    | cons z r =>
      have a1 := dw_head hd
      have a2 : x.name.toList < z.name.toList := ltB_iff.1 (by simpa using a1)
      rw [hd] at hy p2
      rcases List.mem_cons.1 hy with rfl | hy
      · exact a2
      · exact List.lt_trans a2 ((List.pairwise_cons.1 p2).1 y hy)
  unfold Srt
  rw [List.pairwise_append]
  refine ⟨p1, List.pairwise_cons.2 ⟨q2, p2⟩, fun a ha b hb => ?_⟩
  rcases List.mem_cons.1 hb with rfl | hb
  · exact q1 a ha
  · exact p3 a ha b hb
theorem heldL_app (nm : ByteArray) (a b : List Hld) : heldL nm (a ++ b) = heldL nm a + heldL nm b := by
  induction a with
  | nil => simp [heldL]
  | cons x l ih => simp only [List.cons_append, heldL, ih]; omega
theorem heldL_ins (nm : ByteArray) (l : List Hld) (x : Hld) : heldL nm (insH l x) = heldL nm l + (if x.fr = nm then x.amount else 0) := by
  have e := List.takeWhile_append_dropWhile (p := fun y : Hld => decide (y.id < x.id)) (l := l)
  have e2 : heldL nm l = heldL nm (l.takeWhile (fun y : Hld => decide (y.id < x.id))) + heldL nm (l.dropWhile (fun y : Hld => decide (y.id < x.id))) := by rw [← heldL_app, e]
  rw [e2]
  unfold insH
  rw [heldL_app]
  simp only [heldL]
  omega
theorem heldL_pos {nm : ByteArray} {l : List Hld} (h : ∀ x ∈ l, 0 ≤ x.amount) : 0 ≤ heldL nm l := by
  induction l with
  | nil => simp [heldL]
  | cons x l ih =>
    have h1 := ih (fun y hy => h y (List.mem_cons_of_mem _ hy))
    have h2 := h x (List.mem_cons_self ..)
    simp only [heldL]
    split <;> omega
theorem cut_split {X : Type} (l : List X) (k : Nat) (hk : k < l.length) : l = l.take k ++ l[k] :: l.drop (k + 1) := by
  rw [List.getElem_cons_drop, List.take_append_drop]
theorem heldL_cut {nm : ByteArray} {l : List Hld} (h : ∀ x ∈ l, 0 ≤ x.amount) {k : Nat} (hk : k < l.length) : heldL nm (cutL l k) ≤ heldL nm l := by
  have e : heldL nm l = heldL nm (l.take k) + heldL nm (l[k] :: l.drop (k + 1)) := by rw [← heldL_app, ← cut_split l k hk]
  have h2 := h _ (List.getElem_mem hk)
  rw [e]
  unfold cutL
  rw [heldL_app]
  simp only [heldL]
  split <;> omega
theorem cut_mem {X : Type} {l : List X} {k : Nat} {x : X} (h : x ∈ cutL l k) : x ∈ l := by
  rcases List.mem_append.1 h with h | h
  · exact List.mem_of_mem_take h
  · exact List.mem_of_mem_drop h
theorem cut_back {X : Type} (l : List X) (k : Nat) (hk : k < l.length) : (cutL l k).take k ++ l[k] :: (cutL l k).drop k = l := by
  have h1 : (l.take k).length = k := by rw [List.length_take]; omega
  have e1 : (cutL l k).take k = l.take k := by unfold cutL; rw [List.take_append, h1, Nat.sub_self, List.take_zero, List.append_nil, List.take_take, Nat.min_self]
  have e2 : (cutL l k).drop k = l.drop (k + 1) := by unfold cutL; rw [List.drop_append, h1, Nat.sub_self, List.drop_zero, List.drop_eq_nil_of_le (by omega), List.nil_append]
  rw [e1, e2]
  exact (cut_split l k hk).symm
/-- what a right ledger has besides -/
structure LedM (D : Led) : Prop where
  srt : Srt D.acc
  held : ∀ x ∈ D.acc, heldL x.name D.hold ≤ 1000000000000
  prs : ∀ h ∈ D.hold, pairC D.acc h.fr h.to = none ∧ h.fr ≠ h.to ∧ 1 ≤ h.amount ∧ h.amount ≤ 1000000000000
  sx : ∀ x ∈ D.acc, SmallX x
theorem led_m {D : Led} (k : ledS D = true) : LedM D := by
  have hok := led_ok k
  unfold ledS at k
  simp only [Bool.and_eq_true, decide_eq_true_eq] at k
  obtain ⟨⟨⟨⟨⟨⟨k1, k2⟩, k3⟩, k4⟩, k5⟩, k6⟩, k7⟩ := k
  refine ⟨?_, fun x hx => ?_, fun h hh => ?_, fun x hx => ?_⟩
  · unfold Srt
    rw [List.pairwise_iff_getElem]
    intro i j hi hj hij
    induction j with
    | zero => omega
    | succ j ih =>
      have h1 := allTo_get k6 hj
      rw [accB_at hj, rises_name hj] at h1
      simp only [Bool.and_eq_true] at h1
      have h2 := less_iff.1 h1.1.1.2
      rcases Nat.lt_or_ge i j with q | q
      · exact List.lt_trans (ih (by omega) q) h2
      · obtain rfl : i = j := by omega
        exact h2
  · obtain ⟨i, hi, rfl⟩ := List.mem_iff_getElem.1 hx
    have q := allTo_get k6 hi
    rw [accB_at hi] at q
    simp only [Bool.and_eq_true, withinB, decide_eq_true_eq] at q
    exact q.1.2.1.2
  · obtain ⟨i, hi, rfl⟩ := List.mem_iff_getElem.1 hh
    have q := allTo_get k5 hi
    rw [holdB_at hi] at q
    simp only [Bool.and_eq_true] at q
    have q2 := q.2
    cases e1 : idxA D.acc (D.hold[i]).fr with
    | none => rw [pairB_none1 e1] at q2; cases q2
    | some a =>
      cases e2 : idxA D.acc (D.hold[i]).to with
      | none => rw [pairB_none2 e2] at q2; cases q2
      | some b =>
        obtain ⟨ha, na, _⟩ := idxA_lt e1
        obtain ⟨hb, nb, _⟩ := idxA_lt e2
        rw [pairB_some e1 e2 ha hb] at q2
        simp only [Bool.and_eq_true, decide_eq_true_eq] at q2
        refine ⟨?_, fun e => ?_, (inB_iff.1 q2.2).1, (inB_iff.1 q2.2).2⟩
        · unfold pairC
          rw [e1, e2]
          simp only
          rw [sameC_at ha hb, q2.1.2]
          rfl
        · rw [e, e2] at e1
          exact q2.1.1 (by cases e1; rfl)
  · exact ⟨hok.lim x hx, hok.a.2 x hx⟩
/-- the model's hold is the program's -/
theorem hold_move {D : Led} {c : Cm} (hm : LedM D) (hk : c.kind = 3) :
    moveM D c = (⟨D.acc, holdL D.acc D.hold ⟨c.id, c.fr, c.to, c.am⟩, D.seen⟩, (holdC D.acc D.hold ⟨c.id, c.fr, c.to, c.am⟩).getD 0) := by
  unfold moveM
  cases e1 : idxA D.acc c.fr with
  | none =>
    have e : holdC D.acc D.hold ⟨c.id, c.fr, c.to, c.am⟩ = some 5 := by simp [holdC, pairC, e1]
    simp [holdL, e]
  | some i =>
    cases e2 : idxA D.acc c.to with
    | none =>
      have e : holdC D.acc D.hold ⟨c.id, c.fr, c.to, c.am⟩ = some 5 := by simp [holdC, pairC, e1, e2]
      simp [holdL, e]
    | some j =>
      cases e3 : sameC D.acc i j with
      | false =>
        have e : holdC D.acc D.hold ⟨c.id, c.fr, c.to, c.am⟩ = some 6 := by simp [holdC, pairC, e1, e2, e3]
        simp [holdL, e, e3]
      | true =>
        obtain ⟨hil, eni, _⟩ := idxA_lt e1
        have hp : pairC D.acc c.fr c.to = none := by simp [pairC, e1, e2, e3]
        have hc := holdC_at (H := D.hold) (hd := ⟨c.id, c.fr, c.to, c.am⟩) hp e1 hil
        simp only [e3, if_true]
        rw [if_neg (by omega)]
        unfold holdM
        rw [heldL_ins, if_pos rfl]
        have hh : heldL (D.acc[i]).name (insH D.hold ⟨c.id, c.fr, c.to, c.am⟩) = heldL c.fr D.hold + c.am := by rw [heldL_ins, eni, if_pos rfl]
        have hkp : keepsB D.acc (insH D.hold ⟨c.id, c.fr, c.to, c.am⟩) i = withinB D.acc[i] (heldL c.fr D.hold + c.am) := by simp [keepsB, hil, hh]
        rw [hkp]
        simp only at hc
        by_cases k8 : 1000000000000 < heldL c.fr D.hold + c.am
        · rw [if_pos k8] at hc ⊢
          simp [holdL, hc]
        · rw [if_neg k8] at hc ⊢
          have hx := hm.sx _ (List.getElem_mem hil)
          have hcv : withinB D.acc[i] (heldL c.fr D.hold + c.am) = covB D.acc[i] (heldL (D.acc[i]).name D.hold) c.am := by
            obtain ⟨⟨x1, x2⟩, x3, x4⟩ := hx
            have i1 : inB (-1000000000000) 1000000000000 (D.acc[i]).posted = true := inB_iff.2 ⟨x3, x4⟩
            have i2 : decide (heldL c.fr D.hold + c.am ≤ 1000000000000) = true := decide_eq_true (by omega)
            unfold withinB covB
            rw [i1, i2, eni, Bool.true_and, Bool.true_and, Bool.eq_iff_iff]
            simp only [Bool.or_eq_true, decide_eq_true_eq]
            omega
          rw [hcv]
          cases hv : covB D.acc[i] (heldL (D.acc[i]).name D.hold) c.am
          · rw [hv] at hc
            have hc : holdC D.acc D.hold ⟨c.id, c.fr, c.to, c.am⟩ = some 7 := by rw [hc]; rfl
            simp [holdL, hc]
          · rw [hv] at hc
            have hc : holdC D.acc D.hold ⟨c.id, c.fr, c.to, c.am⟩ = none := by rw [hc]; rfl
            simp [holdL, hc]
/-- the model's post is the program's -/
theorem post_move {D : Led} {c : Cm} (hm : LedM D) (hk : c.kind = 2) (hne : c.fr ≠ c.to) :
    moveM D c = (⟨postL D.acc D.hold c.fr c.to c.am, D.hold, D.seen⟩, (postC D.acc D.hold c.fr c.to c.am).getD 0) := by
  unfold moveM
  cases e1 : idxA D.acc c.fr with
  | none =>
    have e : postC D.acc D.hold c.fr c.to c.am = some 5 := by simp [postC, pairC, e1]
    simp [postL, e]
  | some i =>
    cases e2 : idxA D.acc c.to with
    | none =>
      have e : postC D.acc D.hold c.fr c.to c.am = some 5 := by simp [postC, pairC, e1, e2]
      simp [postL, e]
    | some j =>
      cases e3 : sameC D.acc i j with
      | false =>
        have e : postC D.acc D.hold c.fr c.to c.am = some 6 := by simp [postC, pairC, e1, e2, e3]
        simp [postL, e, e3]
      | true =>
        have hp : pairC D.acc c.fr c.to = none := by simp [pairC, e1, e2, e3]
        simp only [e3, if_true]
        rw [if_pos hk]
        exact post_pay hp e1 e2 hne (fun x hx => (hm.sx x hx).1.1) hm.held
theorem fiH_none {l : List Hld} {r : Int} (h : fi (l.map Hld.id) r = none) : l.find? (fun h => h.id == r) = none := by
  rw [fi, List.findIdx?_eq_none_iff] at h
  rw [List.find?_eq_none]
  intro x hx
  have := h x.id (List.mem_map.2 ⟨x, hx, rfl⟩)
  simpa using this
theorem fiH_some {l : List Hld} {r : Int} {k : Nat} (h : fi (l.map Hld.id) r = some k) : ∃ hk : k < l.length, l[k].id = r ∧ l.find? (fun h => h.id == r) = some l[k] := by
  rw [fi, List.findIdx?_eq_some_iff_getElem] at h
  obtain ⟨h1, h2, h3⟩ := h
  have hk : k < l.length := by simpa using h1
  have e : l[k].id = r := by simpa using h2
  refine ⟨hk, e, ?_⟩
  rw [List.find?_eq_some_iff_getElem]
  refine ⟨by simpa using e, k, hk, rfl, fun j hj => ?_⟩
  have := h3 j hj
  simpa using this
theorem filter_cut {l : List Hld} {r : Int} {k : Nat} (hup : (l.map Hld.id).Pairwise (· < ·)) (hk : k < l.length) (e : l[k].id = r) : l.filter (fun h => !(h.id == r)) = cutL l k := by
  have hup2 : l.Pairwise (fun a b => a.id < b.id) := List.pairwise_map.1 hup
  have hs := cut_split l k hk
  have h3 := hup2
  rw [hs, List.pairwise_append] at h3
  obtain ⟨_, p2, p3⟩ := h3
  have a1 : ∀ y ∈ l.take k, y.id < r := fun y hy => by rw [← e]; exact p3 y hy _ (List.mem_cons_self ..)
  have a2 : ∀ y ∈ l.drop (k + 1), r < y.id := fun y hy => by rw [← e]; exact (List.pairwise_cons.1 p2).1 y hy
  have f1 : (l.take k).filter (fun h => !(h.id == r)) = l.take k := List.filter_eq_self.2 fun y hy => by have := a1 y hy; simp; omega
  have f2 : (l.drop (k + 1)).filter (fun h => !(h.id == r)) = l.drop (k + 1) := List.filter_eq_self.2 fun y hy => by have := a2 y hy; simp; omega
  have f3 : (l.take k ++ l[k] :: l.drop (k + 1)).filter (fun h => !(h.id == r)) = l.take k ++ l.drop (k + 1) := by
    rw [List.filter_append, f1, List.filter_cons_of_neg (by simp [e]), f2]
  rw [← hs] at f3
  exact f3
/-- the model's end of a hold is the program's -/
theorem end_none {D : Led} {c : Cm} (h : fi (D.hold.map Hld.id) c.ref = none) : endM D c = (D, 9) := by
  unfold endM
  rw [fiH_none h]
theorem end_drop {D : Led} {c : Cm} {k : Nat} (hup : (D.hold.map Hld.id).Pairwise (· < ·)) (h : fi (D.hold.map Hld.id) c.ref = some k) (hk : c.kind = 5) : endM D c = (⟨D.acc, cutL D.hold k, D.seen⟩, 0) := by
  obtain ⟨hkl, e, hf⟩ := fiH_some h
  unfold endM
  rw [hf]
  simp only
  rw [if_pos hk, filter_cut hup hkl e]
def takeC (A : List Acc) (H : List Hld) (k : Nat) (x : Hld) : Option Int := postC A (cutL H k) x.fr x.to x.amount
def takeA (A : List Acc) (H : List Hld) (k : Nat) (x : Hld) : List Acc := postL A (cutL H k) x.fr x.to x.amount
def takeH (A : List Acc) (H : List Hld) (k : Nat) (x : Hld) : List Hld := match takeC A H k x with
  | none => cutL H k
  | some _ => H
theorem postC_nz {A : List Acc} {H : List Hld} {fr tn : ByteArray} {am : Int} {code : Int} (h : postC A H fr tn am = some code) : 5 ≤ code ∧ code ≤ 8 := by
  cases hp : pairC A fr tn with
  | some c =>
    have e : postC A H fr tn am = some c := by simp [postC, hp]
    rw [e] at h
    cases h
    unfold pairC at hp
    split at hp
    · split at hp
      · cases hp
      · cases hp; omega
    · cases hp; omega
  | none =>
    unfold pairC at hp
    split at hp
    · rename_i i j e1 e2
      obtain ⟨hil, _, _⟩ := idxA_lt e1
      obtain ⟨hjl, _, _⟩ := idxA_lt e2
      split at hp
      · rename_i q
        have := postC_at (H := H) (am := am) (by simp [pairC, e1, e2, q]) e1 e2 hil hjl
        rw [this] at h
        repeat' split at h
        all_goals (cases h <;> omega)
      · cases hp
    · cases hp
theorem postL_no {A : List Acc} {H : List Hld} {fr tn : ByteArray} {am : Int} {code : Int} (h : postC A H fr tn am = some code) : postL A H fr tn am = A := by simp [postL, h]
theorem end_take {D : Led} {c : Cm} {k : Nat} (hm : LedM D) (hup : (D.hold.map Hld.id).Pairwise (· < ·)) (h : fi (D.hold.map Hld.id) c.ref = some k) (hk : c.kind = 4) (hkl : k < D.hold.length) :
    endM D c = (⟨takeA D.acc D.hold k D.hold[k], takeH D.acc D.hold k D.hold[k], D.seen⟩, (takeC D.acc D.hold k D.hold[k]).getD 0) := by
  obtain ⟨_, e, hf⟩ := fiH_some h
  obtain ⟨hp, hne, g1, g2⟩ := hm.prs _ (List.getElem_mem hkl)
  have hp0 := hp
  unfold pairC at hp0
  split at hp0
  · rename_i i j e1 e2
    have hpay := post_pay (L := ⟨D.acc, cutL D.hold k, D.seen⟩) (am := (D.hold[k]).amount) hp e1 e2 hne (fun x hx => (hm.sx x hx).1.1) (fun x hx => Int.le_trans (heldL_cut (fun y hy => by have := (hm.prs y hy).2.2.1; omega) hkl) (hm.held x hx))
    unfold endM
    rw [hf]
    simp only
    rw [if_neg (by omega), filter_cut hup hkl e, e1, e2]
    simp only
    rw [hpay]
    cases hc : postC D.acc (cutL D.hold k) (D.hold[k]).fr (D.hold[k]).to (D.hold[k]).amount with
    | none => simp [takeA, takeH, takeC, hc]
    | some code =>
      have := postC_nz hc
      have hc0 : ¬ code = 0 := by omega
      simp [takeA, takeH, takeC, hc, postL_no hc, hc0]
  · cases hp0
theorem perm_snoc_ins (l : List Acc) (x : Acc) : (l ++ [x]).Perm (insA l x) := (ins_perm (fun y : Acc => !ltB x.name y.name) l x).symm
theorem postL_names (A : List Acc) (H : List Hld) (fr tn : ByteArray) (am : Int) : (postL A H fr tn am).map Acc.name = A.map Acc.name := by
  unfold postL
  split
  · unfold payA
    rw [setP_names, setP_names]
  · rfl
/-- what do leaves in the book, against the model -/
structure DoIs (D : Led) (c : Cm) (o : Option Int) (A' : List Acc) (H' : List Hld) : Prop where
  acc : A'.Perm (doM D c).1.acc
  hold : H' = (doM D c).1.hold
  code : (doM D c).2 = o.getD 0
  nz : ∀ k, o = some k → 0 < k
  srt : Srt (doM D c).1.acc
theorem do_open_no {D : Led} {c : Cm} (hm : LedM D) (hk : c.kind = 1) {i : Nat} (h : idxA D.acc c.fr = some i) : DoIs D c (some 4) D.acc D.hold := by
  have e : doM D c = (D, 4) := by simp [doM, hk, openM, h]
  exact ⟨by rw [e], by rw [e], by rw [e]; rfl, fun k q => by cases q; omega, by rw [e]; exact hm.srt⟩
theorem do_open_yes {D : Led} {c : Cm} (hm : LedM D) (hk : c.kind = 1) (h : idxA D.acc c.fr = none) : DoIs D c none (D.acc ++ [⟨c.fr, c.to, c.am, 0⟩]) D.hold := by
  have e : doM D c = (⟨insA D.acc ⟨c.fr, c.to, c.am, 0⟩, D.hold, D.seen⟩, 0) := by simp [doM, hk, openM, h]
  exact ⟨by rw [e]; exact perm_snoc_ins _ _, by rw [e], by rw [e]; rfl, fun k q => (by cases q), by
    rw [e]
    refine srt_ins hm.srt (fun y hy => ?_)
    obtain ⟨i, hi, rfl⟩ := List.mem_iff_getElem.1 hy
    exact idxA_off h i hi⟩
theorem do_post {D : Led} {c : Cm} (hm : LedM D) (hk : c.kind = 2) (hne : c.fr ≠ c.to) : DoIs D c (postC D.acc D.hold c.fr c.to c.am) (postL D.acc D.hold c.fr c.to c.am) D.hold := by
  have e : doM D c = moveM D c := by simp [doM, hk]
  rw [post_move hm hk hne] at e
  exact ⟨by rw [e], by rw [e], by rw [e], fun k q => by have := postC_nz q; omega, by rw [e]; exact srt_names (postL_names ..).symm hm.srt⟩
theorem holdC_nz {A : List Acc} {H : List Hld} {hd : Hld} {code : Int} (h : holdC A H hd = some code) : 0 < code := by
  unfold holdC at h
  split at h
  · rename_i c hp
    cases h
    unfold pairC at hp
    split at hp
    · split at hp
      · cases hp
      · cases hp; omega
    · cases hp; omega
  · repeat' split at h
    all_goals (cases h <;> omega)
theorem do_hold {D : Led} {c : Cm} (hm : LedM D) (hk : c.kind = 3) : DoIs D c (holdC D.acc D.hold ⟨c.id, c.fr, c.to, c.am⟩) D.acc (holdL D.acc D.hold ⟨c.id, c.fr, c.to, c.am⟩) := by
  have e : doM D c = moveM D c := by simp [doM, hk]
  rw [hold_move hm hk] at e
  exact ⟨by rw [e], by rw [e], by rw [e], fun k q => holdC_nz q, by rw [e]; exact hm.srt⟩
theorem do_end_none {D : Led} {c : Cm} (hm : LedM D) (hk : c.kind = 4 ∨ c.kind = 5) (h : fi (D.hold.map Hld.id) c.ref = none) : DoIs D c (some 9) D.acc D.hold := by
  have e : doM D c = endM D c := by unfold doM; rw [if_neg (by omega), if_neg (by omega)]
  rw [end_none h] at e
  exact ⟨by rw [e], by rw [e], by rw [e]; rfl, fun k q => by cases q; omega, by rw [e]; exact hm.srt⟩
theorem do_drop {D : Led} {c : Cm} {k : Nat} (hm : LedM D) (hup : (D.hold.map Hld.id).Pairwise (· < ·)) (hk : c.kind = 5) (h : fi (D.hold.map Hld.id) c.ref = some k) : DoIs D c none D.acc (cutL D.hold k) := by
  have e : doM D c = endM D c := by unfold doM; rw [if_neg (by omega), if_neg (by omega)]
  rw [end_drop hup h hk] at e
  exact ⟨by rw [e], by rw [e], by rw [e]; rfl, fun k q => (by cases q), by rw [e]; exact hm.srt⟩
theorem do_take {D : Led} {c : Cm} {k : Nat} (hm : LedM D) (hup : (D.hold.map Hld.id).Pairwise (· < ·)) (hk : c.kind = 4) (h : fi (D.hold.map Hld.id) c.ref = some k) (hkl : k < D.hold.length) : DoIs D c (takeC D.acc D.hold k D.hold[k]) (takeA D.acc D.hold k D.hold[k]) (takeH D.acc D.hold k D.hold[k]) := by
  have e : doM D c = endM D c := by unfold doM; rw [if_neg (by omega), if_neg (by omega)]
  rw [end_take hm hup h hk hkl] at e
  exact ⟨by rw [e], by rw [e], by rw [e], fun k q => by have := postC_nz q; omega, by rw [e]; exact srt_names (postL_names ..).symm hm.srt⟩
end Go.Proofs.YtjjoeajnhblacaaGreatDoor
