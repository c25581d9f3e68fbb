/- Worlds as data: who is found where, links, messages, sums. -/
import Derived.Test.YtilacamcedjbmaaLk
namespace Go.Proofs.Ytilacamcedjbmaa
open Go.ChangeShapes Go.WideShapes Go.ChangeAt Go.RowKit
set_option linter.unusedVariables false
/-- the first place of a number -/
def fi (ids : List Int) (x : Int) : Option Nat := ids.findIdx? (fun y => y == x)
def ixV : Option Nat → Int
  | none => -1
  | some k => (k : Int)
theorem fi_hit {ids : List Int} {x : Int} {k : Nat} (hk : k < ids.length) (h1 : ids[k] = x) (h2 : ∀ j (hj : j < ids.length), j < k → ids[j] ≠ x) : fi ids x = some k := by
  unfold fi
  rw [List.findIdx?_eq_some_iff_getElem]
  exact ⟨hk, by simpa using h1, fun j hj => by have := h2 j (by omega) hj; simpa using this⟩
theorem fi_miss {ids : List Int} {x : Int} (h : ∀ j (hj : j < ids.length), ids[j] ≠ x) : fi ids x = none := by
  unfold fi
  rw [List.findIdx?_eq_none_iff]
  intro y hy
  obtain ⟨j, hj, rfl⟩ := List.mem_iff_getElem.1 hy
  have := h j hj
  simpa using this
theorem fi_some {ids : List Int} {x : Int} {k : Nat} (h : fi ids x = some k) : ∃ hk : k < ids.length, ids[k] = x := by
  unfold fi at h
  rw [List.findIdx?_eq_some_iff_getElem] at h
  obtain ⟨hk, h1, _⟩ := h
  exact ⟨hk, by simpa using h1⟩
theorem fi_none {ids : List Int} {x : Int} (h : fi ids x = none) : ∀ y ∈ ids, y ≠ x := by
  unfold fi at h
  rw [List.findIdx?_eq_none_iff] at h
  intro y hy
  have := h y hy
  simpa using this
theorem ids_n (l : List Nd) : (l.map Nd.d).map NdD.id = l.map Nd.id := by simp [Nd.d]
theorem ids_p (l : List Pr) : (l.map Pr.d).map PD.id = l.map Pr.id := by simp [Pr.d]
/-- the end that one node has to another one -/
def endBet (l : List NdD) (fr to : Int) : Option En := match fi (l.map NdD.id) fr with
  | none => none
  | some k => match l[k]? with
    | none => none
    | some n => match fi (n.peers.map PD.id) to with
      | none => none
      | some i => (n.peers[i]?).map PD.E
/-- where that end lies -/
def ptrIn (n : Nd) (to : Int) : Option Addr := match n.pa, fi (n.peers.map Pr.id) to with
  | some a, some i => some ⟨a.block, a.off + i * 4 + 1, none⟩
  | _, _ => none
def ptrBet (l : List Nd) (fr to : Int) : Option Addr := match fi (l.map Nd.id) fr with
  | none => none
  | some k => match l[k]? with
    | none => none
    | some n => ptrIn n to
theorem ptrIn_miss {n : Nd} {to : Int} (h : fi (n.peers.map Pr.id) to = none) : ptrIn n to = none := by
  unfold ptrIn
  rw [h]
  cases n.pa <;> rfl
theorem ptrIn_hit {n : Nd} {to : Int} {i b off : Nat} (h : fi (n.peers.map Pr.id) to = some i) (ha : n.pa = some ⟨b, off, none⟩) : ptrIn n to = some ⟨b, off + i * 4 + 1, none⟩ := by
  unfold ptrIn
  rw [h, ha]
theorem ptrBet_miss {l : List Nd} {fr to : Int} (h : fi (l.map Nd.id) fr = none) : ptrBet l fr to = none := by unfold ptrBet; rw [h]
theorem ptrBet_hit {l : List Nd} {fr to : Int} {k : Nat} (h : fi (l.map Nd.id) fr = some k) (hk : k < l.length) : ptrBet l fr to = ptrIn l[k] to := by unfold ptrBet; rw [h]; simp only [List.getElem?_eq_getElem hk]
theorem endBet_miss {l : List Nd} {fr to : Int} (h : fi (l.map Nd.id) fr = none) : endBet (l.map Nd.d) fr to = none := by unfold endBet; rw [ids_n, h]
theorem endBet_hit {l : List Nd} {fr to : Int} {k : Nat} (h : fi (l.map Nd.id) fr = some k) (hk : k < l.length) : endBet (l.map Nd.d) fr to = (match fi ((l[k]).peers.map Pr.id) to with | none => none | some i => ((l[k]).peers[i]?).map Pr.E) := by
  unfold endBet
  rw [ids_n, h]
  simp only [List.getElem?_map, List.getElem?_eq_getElem hk, Option.map_some]
  rw [show (Nd.d l[k]).peers = (l[k]).peers.map Pr.d from rfl, ids_p]
  cases fi ((l[k]).peers.map Pr.id) to with
  | none => rfl
  | some i => simp only [List.getElem?_map, Option.map_map]; rfl
/-- an end that a node has to another one: found or not, and where it lies -/
inductive Bet (w : World) (l : List Nd) (fr to : Int) : Prop where
  | miss (h1 : ptrBet l fr to = none) (h2 : endBet (l.map Nd.d) fr to = none) : Bet w l fr to
  | hit (B O : Nat) (a : Option Addr) (cap : Nat) (E : En) (h1 : ptrBet l fr to = some ⟨B, O, none⟩) (h2 : endBet (l.map Nd.d) fr to = some E) (hb : B < w.heap.size) (c0 : w.cell? ⟨B, O, none⟩ = some (.slice a E.out.length cap)) (c1 : w.cell? ⟨B, O + 1, none⟩ = some (.int .i64 E.sent)) (c2 : w.cell? ⟨B, O + 2, none⟩ = some (.int .i64 E.got)) (hr : RowAt 2 prcCells w a E.out) (hm : ∃ n ∈ l, ∃ p ∈ n.peers, p.E = E ∧ n.id = fr ∧ p.id = to) : Bet w l fr to
theorem bet_of {w : World} {a : Option Addr} {l : List Nd} (h : NodesAt w a l) (fr to : Int) : Bet w l fr to := by
  cases e1 : fi (l.map Nd.id) fr with
  | none => exact .miss (ptrBet_miss e1) (endBet_miss e1)
  | some k =>
    obtain ⟨hk', hid⟩ := fi_some e1
    have hk : k < l.length := by simpa using hk'
    cases e2 : fi ((l[k]).peers.map Pr.id) to with
    | none => exact .miss ((ptrBet_hit e1 hk).trans (ptrIn_miss e2)) (by rw [endBet_hit e1 hk, e2])
    | some i =>
      obtain ⟨hi', hid2⟩ := fi_some e2
      have hi : i < (l[k]).peers.length := by simpa using hi'
      have hN := h.each (l[k]) (List.getElem_mem hk)
      obtain ⟨b, off, e, hb, c0, c1, c2, c3⟩ := pr_row hN.peers.row i hi
      refine .hit b (off + i * 4 + 1) ((l[k]).peers[i]).a ((l[k]).peers[i]).cap ((l[k]).peers[i]).E ((ptrBet_hit e1 hk).trans (ptrIn_hit e2 e)) ?_ hb c1 c2 c3 (hN.peers.ends _ (List.getElem_mem hi)) ⟨l[k], List.getElem_mem hk, (l[k]).peers[i], List.getElem_mem hi, rfl, by simpa using hid, by simpa using hid2⟩
      rw [endBet_hit e1 hk, e2]
      simp only [List.getElem?_eq_getElem hi, Option.map_some]
/-- a link: the other end is there and has sent what was got -/
def lnkB (l : List NdD) (own : Int) (p : PD) : Bool := match endBet l p.id own with
  | none => false
  | some E => inB (E.sent - (E.out.length : Int)) E.sent p.E.got
def lnkAt (l : List NdD) (n : NdD) (k : Nat) : Bool := match n.peers[k]? with
  | none => false
  | some p => lnkB l n.id p
def lnksB (l : List NdD) (k : Nat) : Bool := match l[k]? with
  | none => false
  | some n => allTo (lnkAt l n) n.peers.length
/-- what is on its way of a parcel or an acknowledgement -/
def flyB (E : En) (m : Mg) : Bool :=
  if m.kind == 2 then (m.amt == 0) && inB 0 E.got m.seq
  else if m.kind == 1 then inB 1 E.sent m.seq && inB 1 1000000000000 m.amt && (decide (m.seq ≤ E.sent - (E.out.length : Int)) || ((E.out[(m.seq - (E.sent - (E.out.length : Int)) - 1).toNat]?).elim false fun p => m.amt == p.amt))
  else false
def netB (l : List NdD) (ms : List Mg) (k : Nat) : Bool := match ms[k]? with
  | none => false
  | some m => match endBet l m.fr m.to with
    | none => false
    | some E => flyB E m
def ndB (l : List NdD) (k : Nat) : Bool := match l[k]? with
  | none => false
  | some n => nodeB n && risesB (l.map NdD.id) k
def misS : List NdD → Int
  | [] => 0
  | n :: l => (n.earned - n.spent - n.has) + misS l
theorem misS_append (a b : List NdD) : misS (a ++ b) = misS a + misS b := by
  induction a with
  | nil => simp [misS]
  | cons x xs ih => simp only [List.cons_append, misS, ih]; omega
def opnP (l : List NdD) (own : Int) (p : PD) : Int := match endBet l p.id own with
  | none => 0
  | some E => openOf p.E E.got
def opnS (l : List NdD) (own : Int) : List PD → Int
  | [] => 0
  | p :: ps => opnP l own p + opnS l own ps
def flyS (l : List NdD) : List NdD → Int
  | [] => 0
  | n :: ns => opnS l n.id n.peers + flyS l ns
theorem opnS_append (l : List NdD) (own : Int) (a b : List PD) : opnS l own (a ++ b) = opnS l own a + opnS l own b := by
  induction a with
  | nil => simp [opnS]
  | cons x xs ih => simp only [List.cons_append, opnS, ih]; omega
theorem flyS_append (l : List NdD) (a b : List NdD) : flyS l (a ++ b) = flyS l a + flyS l b := by
  induction a with
  | nil => simp [flyS]
  | cons x xs ih => simp only [List.cons_append, flyS, ih]; omega
theorem openOf_bd {E : En} (h : endB E = true) (g : Int) : 0 ≤ openOf E g ∧ openOf E g ≤ 8000000000000 := by
  have e : openOf E g = openL g E.out := by simp [openOf, h]
  rw [e]
  have := open_take h g E.out.length
  rwa [List.take_length] at this
theorem opnP_bd {l : List NdD} {own : Int} {p : PD} (h : endB p.E = true) : 0 ≤ opnP l own p ∧ opnP l own p ≤ 8000000000000 := by
  unfold opnP
  cases endBet l p.id own with
  | none => simp
  | some E => exact openOf_bd h _
theorem opnS_bd {l : List NdD} {own : Int} {ps : List PD} (h : ∀ p ∈ ps, endB p.E = true) : 0 ≤ opnS l own ps ∧ opnS l own ps ≤ 8000000000000 * (ps.length : Int) := by
  induction ps with
  | nil => simp [opnS]
  | cons p ps ih =>
    have h1 := opnP_bd (l := l) (own := own) (h p (by simp))
    have h2 := ih (fun q hq => h q (by simp [hq]))
    simp only [opnS, List.length_cons]
    omega
theorem flyS_bd {l : List NdD} {ns : List NdD} (h : ∀ n ∈ ns, (∀ p ∈ n.peers, endB p.E = true) ∧ n.peers.length ≤ 8) : 0 ≤ flyS l ns ∧ flyS l ns ≤ 64000000000000 * (ns.length : Int) := by
  induction ns with
  | nil => simp [flyS]
  | cons n ns ih =>
    have h0 := h n (by simp)
    have h1 := opnS_bd (l := l) (own := n.id) h0.1
    have h2 := ih (fun q hq => h q (by simp [hq]))
    simp only [flyS, List.length_cons]
    omega
structure WdD where
  start : Int
  nodes : List NdD
  net : List Mg
def worldB (D : WdD) : Bool := inB 0 1000000000000 D.start && decide (1 ≤ D.nodes.length) && decide (D.nodes.length ≤ 8) && decide (D.net.length ≤ 150) && allTo (ndB D.nodes) D.nodes.length && allTo (lnksB D.nodes) D.nodes.length && allTo (netB D.nodes D.net) D.net.length && (D.start + misS D.nodes == flyS D.nodes D.nodes)
/-- nodes that are right -/
def NdsOk (l : List Nd) : Prop := ∀ n ∈ l, nodeB n.d = true
theorem nodeB_peer {n : Nd} (h : nodeB n.d = true) : ∀ p ∈ n.peers, endB p.E = true := fun p hp => by
  simp only [nodeB, Bool.and_eq_true] at h
  obtain ⟨k, hk, rfl⟩ := List.mem_iff_getElem.1 hp
  have e := allTo_get h.2 (show k < (Nd.d n).peers.length by show k < (n.peers.map Pr.d).length; simpa using hk)
  rw [show (Nd.d n).peers = n.peers.map Pr.d from rfl, pdB_at hk] at e
  simp only [Bool.and_eq_true] at e
  exact e.2
theorem nodeB_len {n : Nd} (h : nodeB n.d = true) : n.peers.length ≤ 8 ∧ n.seen.length ≤ 40 := by
  simp only [nodeB, Bool.and_eq_true, decide_eq_true_eq] at h
  exact ⟨by have := h.1.1.2; simpa [Nd.d] using this, h.1.1.1.2⟩
theorem nodeB_nums {n : Nd} (h : nodeB n.d = true) : (0 ≤ n.has ∧ n.has ≤ 10000000000000) ∧ (0 ≤ n.spent ∧ n.spent ≤ 1000000000000) ∧ (0 ≤ n.earned ∧ n.earned ≤ 1000000000000) := by
  simp only [nodeB, Bool.and_eq_true, decide_eq_true_eq, inB] at h
  exact ⟨h.1.1.1.1.1.1.2, h.1.1.1.1.1.2, h.1.1.1.1.2⟩
theorem lnkAt_at {l : List NdD} {n : Nd} {k : Nat} (hk : k < n.peers.length) : lnkAt l n.d k = lnkB l n.id (n.peers[k]).d := by
  unfold lnkAt
  rw [show (Nd.d n).peers = n.peers.map Pr.d from rfl]
  simp only [List.getElem?_map, List.getElem?_eq_getElem hk, Option.map_some]
  rfl
theorem lnksB_at {l : List Nd} {k : Nat} (hk : k < l.length) : lnksB (l.map Nd.d) k = allTo (lnkAt (l.map Nd.d) (l[k]).d) (l[k]).peers.length := by
  unfold lnksB
  simp only [List.getElem?_map, List.getElem?_eq_getElem hk, Option.map_some]
  rw [show (Nd.d l[k]).peers.length = (l[k]).peers.length by show ((l[k]).peers.map Pr.d).length = _; simp]
theorem ndB_at {l : List Nd} {k : Nat} (hk : k < l.length) : ndB (l.map Nd.d) k = (nodeB (l[k]).d && risesB (l.map Nd.id) k) := by
  unfold ndB
  simp only [List.getElem?_map, List.getElem?_eq_getElem hk, Option.map_some, ids_n]
theorem rises_nd {l : List Nd} {m : Nat} (h : m + 1 < l.length) : risesB (l.map Nd.id) (m + 1) = decide ((l[m]).id < (l[m + 1]).id) := by
  rw [rises_at (by simpa using h)]; simp
theorem netB_at {l : List NdD} {ms : List Mg} {k : Nat} (hk : k < ms.length) : netB l ms k = (match endBet l (ms[k]).fr (ms[k]).to with | none => false | some E => flyB E ms[k]) := by
  unfold netB
  simp only [List.getElem?_eq_getElem hk]
theorem ndsOk_of {l : List Nd} (h : allTo (ndB (l.map Nd.d)) l.length = true) : NdsOk l := fun n hn => by
  obtain ⟨k, hk, rfl⟩ := List.mem_iff_getElem.1 hn
  have e := allTo_get h hk
  rw [ndB_at hk] at e
  simp only [Bool.and_eq_true] at e
  exact e.1
theorem misS_bd {l : List Nd} (h : NdsOk l) : -11000000000000 * (l.length : Int) ≤ misS (l.map Nd.d) ∧ misS (l.map Nd.d) ≤ 1000000000000 * (l.length : Int) := by
  induction l with
  | nil => simp [misS]
  | cons n l ih =>
    have h1 := nodeB_nums (h n (by simp))
    have h2 := ih (fun q hq => h q (by simp [hq]))
    have e : misS ((n :: l).map Nd.d) = (n.earned - n.spent - n.has) + misS (l.map Nd.d) := rfl
    rw [e]
    simp only [List.length_cons]
    omega
theorem ndsOk_d {l : List Nd} (h : NdsOk l) : ∀ n ∈ l.map Nd.d, (∀ p ∈ n.peers, endB p.E = true) ∧ n.peers.length ≤ 8 := fun n hn => by
  obtain ⟨x, hx, rfl⟩ := List.mem_map.1 hn
  refine ⟨fun p hp => ?_, ?_⟩
  · obtain ⟨y, hy, rfl⟩ := List.mem_map.1 (show p ∈ x.peers.map Pr.d from hp)
    exact nodeB_peer (h x hx) y hy
  · have := (nodeB_len (h x hx)).1
    show (x.peers.map Pr.d).length ≤ 8
    simpa using this
theorem NdsOk.take {l : List Nd} (h : NdsOk l) (k : Nat) : NdsOk (l.take k) := fun n hn => h n (List.mem_of_mem_take hn)
end Go.Proofs.Ytilacamcedjbmaa
