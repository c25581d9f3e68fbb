/- What acts keep: the mathematics of FnActed and FnOnce. -/
import Derived.Test.YtkcpoibhlnjldaaBb
import Derived.Test.YtkcpoibhlnjldaaAcIC
namespace Go.Proofs.Ytkcpoibhlnjldaa
open Go.ChangeShapes Go.WideShapes Go.ChangeAt Go.RowKit
set_option linter.unusedVariables false
theorem pk_right {E : En} {n : Int} (q : pkOk E n = true) : endB (pkE E n) = true := by
 have q1 : endB E = true := by cases q1 : endB E <;> simp [pkOk, q1] at q ⊢
 have q2 : inB 1 1000000000000 n = true := by cases q2 : inB 1 1000000000000 n <;> simp [pkOk, q2] at q ⊢
 have q3 : E.out.length ≠ 8 := by intro e; simp [pkOk, e] at q
 have q4 : E.sent ≠ 1000000000 := by intro e; simp [pkOk, e] at q
 obtain ⟨h8, ⟨s0, s1⟩, ⟨g0, g1⟩, hl⟩ := endB_parts q1
 simp only [pkE, q, if_true]
 have ha : 1 ≤ n ∧ n ≤ 1000000000000 := by simpa [inB] using q2
 refine endB_yes (by simp; omega) ⟨by simp [inB]; omega, by simp [inB]; omega⟩ ?_
 intro j hj hj2
 simp only [List.length_append, List.length_cons, List.length_nil] at hj hj2 ⊢
 by_cases hjl : j < E.out.length
 ·obtain ⟨e1, e2, e3, e4⟩ := hl j hjl
  rw [List.getElem_append_left hjl]
  simp only [prcB, inB]
  simp
  omega
 ·obtain rfl : j = E.out.length := by omega
  simp only [List.getElem_append_right (Nat.le_refl _), Nat.sub_self, List.getElem_cons_zero, prcB, inB]
  simp
  omega
theorem ack_right {E : En} (q : endB E = true) (s : Int) : endB (ackE E s) = true := by
 unfold ackE
 split
 ·rename_i hok
  obtain ⟨h8, ⟨s0, s1⟩, ⟨g0, g1⟩, hl⟩ := endB_parts q
  have hs : 0 ≤ s ∧ s ≤ E.sent := by
   have : inB 0 E.sent s = true := by cases hi : inB 0 E.sent s <;> simp [ackOk, hi] at hok ⊢
   simpa [inB] using this
  have e : E.out.filter (fun p => decide (s < p.seq)) = E.out.drop (s - (E.sent - (E.out.length : Int))).toNat := filter_drop (fun j hj hd => by have := (hl j hj).1; omega) (fun j hj hd => by have := (hl j hj).1; omega)
  rw [e]
  refine endB_yes (by simp; omega) ⟨by simp [inB]; omega, by simp [inB]; omega⟩ ?_
  intro j hj hj2
  have hd : (E.out.drop (s - (E.sent - (E.out.length : Int))).toNat).length = E.out.length - (s - (E.sent - (E.out.length : Int))).toNat := by simp
  obtain ⟨e1, e2, e3, e4⟩ := hl ((s - (E.sent - (E.out.length : Int))).toNat + j) (by omega)
  rw [List.getElem_drop, hd]
  simp only [prcB, inB]
  simp
  omega
 ·rfl
theorem rcv_right {E : En} (q : endB E = true) {p : Prc} (hp : 1 ≤ p.seq ∧ p.seq ≤ 1000000000) : endB (rcvE E p) = true := by
 unfold rcvE
 split
 ·split
  ·obtain ⟨h8, ⟨s0, s1⟩, ⟨g0, g1⟩, hl⟩ := endB_parts q
   refine endB_yes h8 ⟨by simp [inB]; omega, by simp [inB]; omega⟩ ?_
   intro j hj _
   obtain ⟨e1, e2, e3, e4⟩ := hl j hj
   simp only [prcB, inB]
   simp
   omega
  ·exact q
 ·rfl
theorem rises_pair {l : List Int} : (∀ k, k < l.length → risesB l k = true) ↔ l.Pairwise (· < ·) := by
 constructor
 ·intro h
  rw [List.pairwise_iff_getElem]
  exact fun i j hi hj hij => risesB_all h i j hi hj hij
 ·intro h k hk
  rw [List.pairwise_iff_getElem] at h
  cases k with
  | zero => rfl
  | succ m => rw [rises_at hk]; exact decide_eq_true (h m (m + 1) (by omega) hk (by omega))
/-- a right node, said in another way -/
structure NdR (D : NdD) : Prop where
 id : 1 ≤ D.id ∧ D.id ≤ 1000000000
 has : 0 ≤ D.has ∧ D.has ≤ 10000000000000
 spent : 0 ≤ D.spent ∧ D.spent ≤ 1000000000000
 earned : 0 ≤ D.earned ∧ D.earned ≤ 1000000000000
 ns : D.seen.length ≤ 40
 np : D.peers.length ≤ 8
 sn : ∀ x ∈ D.seen, (1 ≤ x.id ∧ x.id ≤ 1000000000) ∧ (x.code = 0 ∨ x.code = 4 ∨ x.code = 6)
 su : (D.seen.map Sn.id).Pairwise (· < ·)
 pn : ∀ x ∈ D.peers, (1 ≤ x.id ∧ x.id ≤ 1000000000) ∧ x.id ≠ D.id ∧ endB x.E = true
 pu : (D.peers.map PD.id).Pairwise (· < ·)
theorem nodeCd_iff {c : Int} : nodeCd c = true ↔ (c = 0 ∨ c = 4 ∨ c = 6) := by
 unfold nodeCd; simp only [Bool.or_eq_true, beq_iff_eq]; constructor <;> (intro h; omega)
theorem nodeR {D : NdD} : nodeB D = true ↔ NdR D := by
 constructor
 ·intro h
  simp only [nodeB, inB, Bool.and_eq_true, decide_eq_true_eq, allTo_iff] at h
  obtain ⟨⟨⟨⟨⟨⟨⟨h1, h2⟩, h3⟩, h4⟩, h5⟩, h6⟩, h7⟩, h8⟩ := h
  refine ⟨h1, h2, h3, h4, h5, h6, fun x hx => ?_, rises_pair.1 (fun k hk => ?_), fun x hx => ?_, rises_pair.1 (fun k hk => ?_)⟩
  ·obtain ⟨i, hi, rfl⟩ := List.mem_iff_getElem.1 hx
   have := h7 i hi
   rw [snB_at hi] at this
   simp only [inB, Bool.and_eq_true, decide_eq_true_eq, nodeCd_iff] at this
   exact ⟨this.1.1, this.2⟩
  ·have hk' : k < D.seen.length := by simpa using hk
   have := h7 k hk'
   rw [snB_at hk'] at this
   simp only [Bool.and_eq_true] at this
   exact this.1.2
  ·obtain ⟨i, hi, rfl⟩ := List.mem_iff_getElem.1 hx
   have := h8 i hi
   simp only [pdB, List.getElem?_eq_getElem hi, inB, Bool.and_eq_true, decide_eq_true_eq, Bool.not_eq_true', beq_eq_false_iff_ne] at this
   exact ⟨this.1.1.1, this.1.2, this.2⟩
  ·have hk' : k < D.peers.length := by simpa using hk
   have := h8 k hk'
   simp only [pdB, List.getElem?_eq_getElem hk', Bool.and_eq_true] at this
   exact this.1.1.2
 ·intro h
  simp only [nodeB, inB, Bool.and_eq_true, decide_eq_true_eq, allTo_iff]
  refine ⟨⟨⟨⟨⟨⟨⟨h.id, h.has⟩, h.spent⟩, h.earned⟩, h.ns⟩, h.np⟩, fun k hk => ?_⟩, fun k hk => ?_⟩
  ·rw [snB_at hk]
   have a := h.sn _ (List.getElem_mem hk)
   have b := rises_pair.2 h.su k (by simpa using hk)
   simp only [inB, Bool.and_eq_true, decide_eq_true_eq, nodeCd_iff]
   exact ⟨⟨a.1, b⟩, a.2⟩
  ·have a := h.pn _ (List.getElem_mem hk)
   have b := rises_pair.2 h.pu k (by simpa using hk)
   simp only [pdB, List.getElem?_eq_getElem hk, inB, Bool.and_eq_true, decide_eq_true_eq, Bool.not_eq_true', beq_eq_false_iff_ne]
   exact ⟨⟨⟨a.1, b⟩, a.2.1⟩, a.2.2⟩
theorem see_mem {l : List Sn} {id code : Int} {y : Sn} : y ∈ seeL l id code ↔ y = ⟨id, code⟩ ∨ y ∈ l := by
 unfold seeL
 rw [List.mem_append, List.mem_cons]
 constructor
 ·rintro (h | h | h)
  ·exact .inr ((List.takeWhile_prefix _).subset h)
  ·exact .inl h
  ·exact .inr ((List.dropWhile_suffix _).subset h)
 ·rintro (h | h)
  ·exact .inr (.inl h)
  ·rw [← List.takeWhile_append_dropWhile (p := fun x : Sn => decide (x.id < id)) (l := l), List.mem_append] at h
   rcases h with h | h
   ·exact .inl h
   ·exact .inr (.inr h)
theorem see_pair {id code : Int} : ∀ {l : List Sn}, (l.map Sn.id).Pairwise (· < ·) → (∀ x ∈ l, x.id ≠ id) → ((seeL l id code).map Sn.id).Pairwise (· < ·)
 | [], _, _ => by simp [seeL]
 | x :: t, h, hn => by
  simp only [List.map_cons, List.pairwise_cons] at h
  by_cases hx : x.id < id
  ·have e : seeL (x :: t) id code = x :: seeL t id code := by simp [seeL, hx]
   rw [e]
   simp only [List.map_cons, List.pairwise_cons]
   refine ⟨fun y hy => ?_, see_pair h.2 (fun z hz => hn z (List.mem_cons_of_mem _ hz))⟩
   obtain ⟨z, hz, rfl⟩ := List.mem_map.1 hy
   rcases see_mem.1 hz with rfl | hz
   ·exact hx
   ·exact h.1 _ (List.mem_map_of_mem hz)
  ·have e : seeL (x :: t) id code = ⟨id, code⟩ :: x :: t := by simp [seeL, hx]
   rw [e]
   have hne := hn x List.mem_cons_self
   simp only [List.map_cons, List.pairwise_cons]
   refine ⟨fun y hy => ?_, h⟩
   rcases List.mem_cons.1 hy with rfl | hy
   ·omega
   ·have := h.1 _ hy; omega
theorem seen_none {l : List Sn} {id : Int} (h : ∀ x ∈ l, 0 ≤ x.code) (hv : ¬ 0 ≤ seenV l id) : ∀ x ∈ l, x.id ≠ id := by
 intro x hx e
 apply hv
 cases hf : fi (l.map Sn.id) id with
 | none =>
  exfalso
  unfold fi at hf
  rw [List.findIdx?_eq_none_iff] at hf
  have := hf x.id (List.mem_map_of_mem hx)
  simp [e] at this
 | some k =>
  obtain ⟨hk, _⟩ := fi_some hf
  have hk' : k < l.length := by simpa using hk
  rw [seenV_hit hk' hf]
  exact h _ (List.getElem_mem hk')
theorem seen_see {l : List Sn} {id code : Int} (hn : ∀ x ∈ l, x.id ≠ id) : seenV (seeL l id code) id = code := by
 cases hf : fi ((seeL l id code).map Sn.id) id with
 | none =>
  exfalso
  unfold fi at hf
  rw [List.findIdx?_eq_none_iff] at hf
  have := hf id (List.mem_map.2 ⟨⟨id, code⟩, see_mem.2 (.inl rfl), rfl⟩)
  simp at this
 | some k =>
  obtain ⟨hk, he⟩ := fi_some hf
  have hk' : k < (seeL l id code).length := by simpa using hk
  rw [seenV_hit hk' hf]
  simp only [List.getElem_map] at he
  rcases see_mem.1 (List.getElem_mem hk') with e | e
  ·rw [e]
  ·exact absurd he (hn _ e)
/-- a right node stays right under other peers' ends and another sum -/
theorem NdR.peer {D : NdD} (h : NdR D) {k : Nat} (hk : k < D.peers.length) {E : En} (hE : endB E = true) {has : Int} (hh : 0 ≤ has ∧ has ≤ 10000000000000) : NdR ⟨D.id, has, D.spent, D.earned, D.seen, D.peers.set k ⟨D.peers[k].id, E⟩⟩ := by
 refine ⟨h.id, hh, h.spent, h.earned, h.ns, by simpa using h.np, h.sn, h.su, fun x hx => ?_, ?_⟩
 ·rcases List.mem_or_eq_of_mem_set hx with q | q
  ·exact h.pn x q
  ·subst q
   have := h.pn _ (List.getElem_mem hk)
   exact ⟨this.1, this.2.1, hE⟩
 ·have e : (D.peers.set k ⟨D.peers[k].id, E⟩).map PD.id = D.peers.map PD.id := by
   rw [List.map_set]
   apply List.ext_getElem
   ·simp
   ·intro i h1 h2
    simp only [List.getElem_set, List.getElem_map]
    split
    ·rename_i q; subst q; rfl
    ·rfl
  show ((D.peers.set k ⟨D.peers[k].id, E⟩).map PD.id).Pairwise (· < ·)
  rw [e]; exact h.pu
/-- what a parcel that comes brings -/
def takenV (D : NdD) (m : Mg) : Int := if D.peers.any (fun p => (p.id == m.fr) && (m.seq == p.E.got + 1)) then m.amt else 0
/-- what an act keeps -/
structure ActR (D : NdD) (a : Ac) (r : NdD × List Mg × Int) : Prop where
 right : NdR r.1
 id : r.1.id = D.id
 fr : ∀ m ∈ r.2.1, m.fr = D.id
 none : r.2.2 ≠ 0 → r.2.1 = []
 has : r.1.has = D.has + r.1.earned - D.earned - (r.1.spent - D.spent) - (if r.2.2 = 0 ∧ a.kind = 3 then a.amt else 0) + (if r.2.2 = 0 ∧ a.kind = 4 ∧ a.msg.kind = 1 then takenV D a.msg else 0)
 spent : D.spent ≤ r.1.spent
 earned : D.earned ≤ r.1.earned
theorem ActR.same {D : NdD} {a : Ac} {c : Int} (h : NdR D) (hc : c ≠ 0) : ActR D a (D, [], c) :=
 ⟨h, rfl, fun m hm => by simp at hm, fun _ => rfl, by simp [hc], Int.le_refl _, Int.le_refl _⟩
theorem see_right {D : NdD} (h : NdR D) {id code : Int} (hid : 1 ≤ id ∧ id ≤ 1000000000) (hv : ¬ 0 ≤ seenV D.seen id) (hl : D.seen.length ≠ 40) (hc : code = 0 ∨ code = 4 ∨ code = 6) {has spent earned : Int} (h1 : 0 ≤ has ∧ has ≤ 10000000000000) (h2 : 0 ≤ spent ∧ spent ≤ 1000000000000) (h3 : 0 ≤ earned ∧ earned ≤ 1000000000000) : NdR ⟨D.id, has, spent, earned, seeL D.seen id code, D.peers⟩ := by
 have hn := seen_none (fun x hx => by have := (h.sn x hx).2; omega) hv
 refine ⟨h.id, h1, h2, h3, ?_, h.np, fun x hx => ?_, see_pair h.su hn, h.pn, h.pu⟩
 ·show (seeL D.seen id code).length ≤ 40
  rw [see_len]; have := h.ns; omega
 ·rcases see_mem.1 hx with rfl | hx
  ·exact ⟨hid, hc⟩
  ·exact h.sn x hx
theorem money_right {D : NdD} (h : NdR D) {a : Ac} (hk : a.kind = 1 ∨ a.kind = 2) (hid : 1 ≤ a.id ∧ a.id ≤ 1000000000) (ha : 1 ≤ a.amt ∧ a.amt ≤ 1000000000000) : ActR D a ((moneyM D a).1, [], (moneyM D a).2) := by
 have hs := h.has
 have hp := h.spent
 have he := h.earned
 have k3 : a.kind ≠ 3 := by omega
 have k4 : a.kind ≠ 4 := by omega
 unfold moneyM
 split
 ·rename_i q
  exact ⟨h, rfl, fun m hm => by simp at hm, fun _ => rfl, by simp [k3, k4], Int.le_refl _, Int.le_refl _⟩
 ·rename_i hv
  split
  ·exact ActR.same h (by simp)
  ·rename_i hl
   split
   ·have c : (spendM D.has D.spent a.amt).1 = 0 ∨ (spendM D.has D.spent a.amt).1 = 4 ∨ (spendM D.has D.spent a.amt).1 = 6 := by unfold spendM; split <;> (try split) <;> simp
    have b : (0 ≤ (spendM D.has D.spent a.amt).2.1 ∧ (spendM D.has D.spent a.amt).2.1 ≤ 10000000000000) ∧ (D.spent ≤ (spendM D.has D.spent a.amt).2.2 ∧ (spendM D.has D.spent a.amt).2.2 ≤ 1000000000000) ∧ (spendM D.has D.spent a.amt).2.1 = D.has - ((spendM D.has D.spent a.amt).2.2 - D.spent) := by
     unfold spendM; split
     ·simp only; omega
     ·split <;> (simp only; omega)
    refine ⟨see_right h hid hv hl c b.1 ⟨by omega, b.2.1.2⟩ he, rfl, fun m hm => by simp at hm, fun _ => rfl, ?_, b.2.1.1, Int.le_refl _⟩
    have := b.2.2
    simp only [k3, k4, and_false, false_and, if_false]
    omega
   ·have c : (earnM D.has D.earned a.amt).1 = 0 ∨ (earnM D.has D.earned a.amt).1 = 4 ∨ (earnM D.has D.earned a.amt).1 = 6 := by unfold earnM; split <;> simp
    have b : (0 ≤ (earnM D.has D.earned a.amt).2.1 ∧ (earnM D.has D.earned a.amt).2.1 ≤ 10000000000000) ∧ (D.earned ≤ (earnM D.has D.earned a.amt).2.2 ∧ (earnM D.has D.earned a.amt).2.2 ≤ 1000000000000) ∧ (earnM D.has D.earned a.amt).2.1 = D.has + ((earnM D.has D.earned a.amt).2.2 - D.earned) := by
     unfold earnM; split <;> (simp only; omega)
    refine ⟨see_right h hid hv hl c b.1 hp ⟨by omega, b.2.1.2⟩, rfl, fun m hm => by simp at hm, fun _ => rfl, ?_, Int.le_refl _, b.2.1.1⟩
    have := b.2.2
    simp only [k3, k4, and_false, false_and, if_false]
    omega
theorem fi_peer {D : NdD} {x : Int} {k : Nat} (h : fi (D.peers.map PD.id) x = some k) : ∃ hk : k < D.peers.length, D.peers[k].id = x := by
 obtain ⟨hk, he⟩ := fi_some h
 exact ⟨by simpa using hk, by simpa using he⟩
theorem taken_at {D : NdD} (h : NdR D) {m : Mg} {k : Nat} (hk : k < D.peers.length) (he : D.peers[k].id = m.fr) : takenV D m = if m.seq = D.peers[k].E.got + 1 then m.amt else 0 := by
 unfold takenV
 by_cases q : m.seq = D.peers[k].E.got + 1
 ·rw [if_pos q, if_pos]
  rw [List.any_eq_true]
  exact ⟨_, List.getElem_mem hk, by simp [he, q]⟩
 ·rw [if_neg q, if_neg]
  rw [List.any_eq_true]
  rintro ⟨p, hp, e⟩
  simp only [Bool.and_eq_true, beq_iff_eq] at e
  obtain ⟨i, hi, rfl⟩ := List.mem_iff_getElem.1 hp
  have hu := h.pu
  rw [List.pairwise_iff_getElem] at hu
  have : i = k := by
   rcases Nat.lt_trichotomy i k with g | g | g
   ·have := hu i k (by simpa using hi) (by simpa using hk) g
    simp only [List.getElem_map] at this
    rw [e.1, he] at this; omega
   ·exact g
   ·have := hu k i (by simpa using hk) (by simpa using hi) g
    simp only [List.getElem_map] at this
    rw [e.1, he] at this; omega
  subst this
  exact q e.2
theorem take_right {D : NdD} (h : NdR D) {a : Ac} (hk : a.kind = 4) (ht : takeB a.msg = true) : ActR D a (takeM D a.msg) := by
 have hs := h.has
 have k3 : a.kind ≠ 3 := by omega
 unfold takeM
 split
 ·exact ActR.same h (by simp)
 ·rename_i k hf
  obtain ⟨hkk, hid⟩ := fi_peer hf
  rw [List.getElem?_eq_getElem hkk]
  have hp := h.pn _ (List.getElem_mem hkk)
  simp only
  split
  ·rename_i m2
   split
   ·rename_i hok
    refine ⟨h.peer hkk (ack_right hp.2.2 _) hs, rfl, fun m hm => by simp at hm, fun _ => rfl, ?_, Int.le_refl _, Int.le_refl _⟩
    simp [k3, m2]
   ·exact ActR.same h (by simp)
  ·rename_i m2
   have m1 : a.msg.kind = 1 ∧ (1 ≤ a.msg.seq ∧ a.msg.seq ≤ 1000000000) ∧ (1 ≤ a.msg.amt ∧ a.msg.amt ≤ 1000000000000) := by
    simp only [takeB, inB, Bool.and_eq_true, Bool.or_eq_true, beq_iff_eq, decide_eq_true_eq] at ht
    rcases ht with q | q
    ·exact ⟨q.1.1, q.1.2, q.2⟩
    ·exact absurd q.1.1 m2
   have hok : rcvOk D.peers[k].E ⟨a.msg.seq, a.msg.amt⟩ = true := by
    simp only [rcvOk, hp.2.2, Bool.true_and, pOkB, inB]
    simp
    omega
   have hx : rcvX D.peers[k].E ⟨a.msg.seq, a.msg.amt⟩ = takenV D a.msg := by
    rw [taken_at h hkk hid]
    simp only [rcvX, hok, if_true]
   have hx0 : 0 ≤ rcvX D.peers[k].E ⟨a.msg.seq, a.msg.amt⟩ := by
    rw [rcvX, if_pos hok]; split
    ·exact Int.le_trans (by decide) m1.2.2.1
    ·exact Int.le_refl _
   split
   ·exact ActR.same h (by simp)
   ·rename_i hr
    refine ⟨h.peer hkk (rcv_right hp.2.2 m1.2.1) ⟨by omega, by omega⟩, rfl, fun m hm => ?_, fun q => absurd rfl q, ?_, Int.le_refl _, Int.le_refl _⟩
    ·simp only [List.mem_singleton] at hm; subst hm; rfl
    ·simp only [hk, m1.1, and_self, if_true, true_and]
     rw [← hx]; omega
theorem give_right {D : NdD} (h : NdR D) {a : Ac} (hk : a.kind = 3) (ha : 1 ≤ a.amt ∧ a.amt ≤ 1000000000000) : ActR D a (giveM D a.to a.amt) := by
 have hs := h.has
 have k4 : a.kind ≠ 4 := by omega
 unfold giveM
 split
 ·exact ActR.same h (by simp)
 ·rename_i k hf
  obtain ⟨hkk, hid⟩ := fi_peer hf
  rw [List.getElem?_eq_getElem hkk]
  simp only
  split
  ·exact ActR.same h (by simp)
  ·rename_i hl
   split
   ·rename_i hok
    refine ⟨h.peer hkk (pk_right hok) ⟨by omega, by omega⟩, rfl, fun m hm => ?_, fun q => absurd rfl q, ?_, Int.le_refl _, Int.le_refl _⟩
    ·simp only [List.mem_singleton] at hm; subst hm; rfl
    ·simp only [hk]
     simp
   ·exact ActR.same h (by simp)
theorem tick_right {D : NdD} (h : NdR D) {a : Ac} (hk : a.kind = 5) : ActR D a (D, tickM D, 0) := by
 refine ⟨h, rfl, fun m hm => ?_, fun q => absurd rfl q, ?_, Int.le_refl _, Int.le_refl _⟩
 ·simp only [tickM, List.mem_flatMap, List.mem_map] at hm
  obtain ⟨p, _, q, _, rfl⟩ := hm
  rfl
 ·have k3 : a.kind ≠ 3 := by omega
  have k4 : a.kind ≠ 4 := by omega
  simp only [k3, k4, and_false, false_and, if_false]
  omega
theorem act_right {D : NdD} (h : nodeB D = true) (a : Ac) : ActR D a (actM D a) := by
 have hr := nodeR.1 h
 unfold actM
 rw [if_neg (by rw [h]; decide)]
 split
 ·exact ActR.same hr (by simp)
 ·rename_i hb
  have hb : actB D.id a = true := by simpa using hb
  unfold actB at hb
  split
  ·rename_i q
   rw [if_pos q] at hb
   simp only [inB, Bool.and_eq_true, decide_eq_true_eq] at hb
   exact money_right hr q hb.1.1.1 hb.1.2
  ·rename_i q
   rw [if_neg q] at hb
   split
   ·rename_i q4
    rw [if_neg (by omega), if_pos q4] at hb
    simp only [Bool.and_eq_true] at hb
    exact take_right hr q4 hb.2
   ·rename_i q4
    split
    ·rename_i q5; exact tick_right hr q5
    ·rename_i q5
     by_cases q3 : a.kind = 3
     ·rw [if_pos q3] at hb
      simp only [inB, Bool.and_eq_true, decide_eq_true_eq] at hb
      exact give_right hr q3 hb.1.2
     ·rw [if_neg q3, if_neg q4, if_neg q5] at hb; cases hb
/-- a code of a node that is not right -/
theorem act_wrong {D : NdD} {a : Ac} (h : (actM D a).2.2 ≠ 1) : nodeB D = true := by
 cases hb : nodeB D with
 | true => rfl
 | false => exfalso; apply h; simp [actM, hb]
/-- again under the same number -/
theorem act_again {D : NdD} {a : Ac} (hk : a.kind = 1 ∨ a.kind = 2) (hc : (actM D a).2.2 = 0 ∨ (actM D a).2.2 = 4 ∨ (actM D a).2.2 = 6) :
  actM (actM D a).1 ⟨a.kind, a.id, a.to, 1, a.msg⟩ = ((actM D a).1, [], (actM D a).2.2) ∧ ((actM D a).2.2 = 0 ∨ (actM D a).1.has = D.has) := by
 have hb := act_wrong (D := D) (a := a) (by omega)
 have hr := nodeR.1 hb
 have hright := act_right hb a
 cases hf : actB D.id a with
 | false =>
  have e : (actM D a).2.2 = 2 := by simp [actM, hb, hf]
  omega
 | true =>
  have e : actM D a = ((moneyM D a).1, [], (moneyM D a).2) := by simp [actM, hb, hf, hk]
  rw [e] at hright hc ⊢
  simp only at hright hc ⊢
  have hb2 : nodeB (moneyM D a).1 = true := nodeR.2 hright.right
  have hid : (moneyM D a).1.id = D.id := hright.id
  have hf2 : actB (moneyM D a).1.id ⟨a.kind, a.id, a.to, 1, a.msg⟩ = true := by
   rw [hid]
   unfold actB at hf ⊢
   rw [if_pos hk] at hf
   rw [if_pos hk]
   simp only [inB, Bool.and_eq_true, decide_eq_true_eq] at hf ⊢
   exact ⟨⟨hf.1.1, by decide⟩, hf.2⟩
  have e2 : actM (moneyM D a).1 ⟨a.kind, a.id, a.to, 1, a.msg⟩ = ((moneyM (moneyM D a).1 ⟨a.kind, a.id, a.to, 1, a.msg⟩).1, [], (moneyM (moneyM D a).1 ⟨a.kind, a.id, a.to, 1, a.msg⟩).2) := by
   have hk' : (⟨a.kind, a.id, a.to, 1, a.msg⟩ : Ac).kind = 1 ∨ (⟨a.kind, a.id, a.to, 1, a.msg⟩ : Ac).kind = 2 := hk
   simp only [actM, hb2, hf2, hk', if_true]
   simp
  have hv : seenV (moneyM D a).1.seen a.id = (moneyM D a).2 ∧ ((moneyM D a).2 = 0 ∨ (moneyM D a).1.has = D.has) := by
   clear e2 hf2 hb2 hright e
   revert hc
   unfold moneyM
   split
   ·intro _; exact ⟨rfl, .inr rfl⟩
   ·rename_i hv
    have hn := seen_none (fun x hx => by have := (hr.sn x hx).2; omega) hv
    split
    ·intro hc; simp only at hc; omega
    ·split
     ·intro _
      refine ⟨seen_see hn, ?_⟩
      unfold spendM; split
      ·exact .inr rfl
      ·split
       ·exact .inr rfl
       ·exact .inl rfl
     ·intro _
      refine ⟨seen_see hn, ?_⟩
      unfold earnM; split
      ·exact .inr rfl
      ·exact .inl rfl
  refine ⟨?_, hv.2⟩
  rw [e2]
  have e3 : moneyM (moneyM D a).1 ⟨a.kind, a.id, a.to, 1, a.msg⟩ = ((moneyM D a).1, (moneyM D a).2) := by
   generalize hM : moneyM D a = M at hv hc ⊢
   obtain ⟨M1, M2⟩ := M
   simp only at hv hc ⊢
   unfold moneyM
   simp only
   rw [hv.1, if_pos (by omega)]
  rw [e3]
end Go.Proofs.Ytkcpoibhlnjldaa
