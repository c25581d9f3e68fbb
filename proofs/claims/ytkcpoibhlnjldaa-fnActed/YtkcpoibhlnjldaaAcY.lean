/- What acts keep small. -/
import Derived.Test.YtkcpoibhlnjldaaBb
import Derived.Test.YtkcpoibhlnjldaaAcS3
namespace Go.Proofs.Ytkcpoibhlnjldaa
open Go.ChangeShapes Go.WideShapes Go.ChangeAt Go.RowKit
set_option linter.unusedVariables false
/-- small, as data -/
def SmD (D : NdD) : Prop := D.seen.length ≤ 1048576 ∧ D.peers.length ≤ 1048576 ∧ ∀ p ∈ D.peers, p.E.out.length ≤ 1048576
theorem smN_d {n : Nd} : SmN n ↔ SmD n.d := by
 unfold SmN SmL SmP SmD Nd.d
 simp only [List.length_map, List.mem_map]
 constructor
 ·rintro ⟨h1, h2, h3⟩
  exact ⟨h1, h2, by rintro p ⟨q, hq, rfl⟩; exact h3 q hq⟩
 ·rintro ⟨h1, h2, h3⟩
  exact ⟨h1, h2, fun p hp => h3 p.d ⟨p, hp, rfl⟩⟩
theorem nodeB_sm {D : NdD} (h : nodeB D = true) : D.seen.length ≤ 40 ∧ D.peers.length ≤ 8 ∧ ∀ p ∈ D.peers, p.E.out.length ≤ 8 := by
 simp only [nodeB, Bool.and_eq_true] at h
 refine ⟨of_decide_eq_true h.1.1.1.2, of_decide_eq_true h.1.1.2, fun p hp => ?_⟩
 obtain ⟨i, hi, rfl⟩ := List.mem_iff_getElem.1 hp
 have h1 := allTo_get h.2 hi
 simp only [pdB, List.getElem?_eq_getElem hi, Bool.and_eq_true, endB, decide_eq_true_eq] at h1
 exact h1.2.1.1.1
theorem set_small {l : List PD} {k : Nat} {p : PD} (h : ∀ x ∈ l, x.E.out.length ≤ 8) (hp : p.E.out.length ≤ 9) : ∀ x ∈ l.set k p, x.E.out.length ≤ 1048576 := by
 intro x hx
 rcases List.mem_or_eq_of_mem_set hx with q | q
 ·have := h x q; omega
 ·rw [q]; omega
theorem ackE_len (E : En) (s : Int) : (ackE E s).out.length ≤ E.out.length := by
 unfold ackE
 split
 ·exact List.length_filter_le _ _
 ·simp
theorem rcvE_len (E : En) (p : Prc) : (rcvE E p).out.length ≤ E.out.length := by
 unfold rcvE
 split
 ·split
  ·exact Nat.le_refl _
  ·exact Nat.le_refl _
 ·simp
theorem pkE_len (E : En) (m : Int) : (pkE E m).out.length ≤ E.out.length + 1 := by
 unfold pkE
 split
 ·simp
 ·simp
theorem tickM_len (D : NdD) (h : ∀ p ∈ D.peers, p.E.out.length ≤ 8) : (tickM D).length ≤ 8 * D.peers.length := by
 unfold tickM
 have h1 : ∀ l : List PD, (∀ p ∈ l, p.E.out.length ≤ 8) → (l.flatMap (fun p => p.E.out.map (fun q => (⟨D.id, p.id, 1, q.seq, q.amt⟩ : Mg)))).length ≤ 8 * l.length := by
  intro l
  induction l with
  | nil => intro _; simp
  | cons x t ih =>
   intro hh
   have h2 := ih (fun p hp => hh p (by simp [hp]))
   have h3 := hh x (by simp)
   simp only [List.flatMap_cons, List.length_append, List.length_cons, List.length_map]
   omega
 exact h1 D.peers h
theorem actM_small {D : NdD} {a : Ac} (h : SmD D) : SmD (actM D a).1 ∧ (actM D a).2.1.length ≤ 1048576 := by
 unfold actM
 split
 ·exact ⟨⟨by simp [zeroD], by simp [zeroD], fun p hp => by simp [zeroD] at hp⟩, by simp⟩
 ·rename_i hno
  have hno : nodeB D = true := by simpa using hno
  obtain ⟨b1, b2, b3⟩ := nodeB_sm hno
  split
  ·exact ⟨h, by simp⟩
  ·split
   ·refine ⟨?_, by simp⟩
    simp only [moneyM]
    split
    ·exact h
    ·split
     ·exact h
     ·split
      ·exact ⟨by simp only [see_len]; omega, h.2⟩
      ·exact ⟨by simp only [see_len]; omega, h.2⟩
   ·split
    ·unfold takeM
     split
     ·exact ⟨h, by simp⟩
     ·split
      ·exact ⟨h, by simp⟩
      ·rename_i k p hp
       have hp8 := b3 p (List.mem_of_getElem? hp)
       have l1 := ackE_len p.E a.msg.seq
       have l2 := rcvE_len p.E ⟨a.msg.seq, a.msg.amt⟩
       split
       ·split
        ·exact ⟨⟨h.1, by rw [List.length_set]; exact h.2.1, set_small b3 (show (ackE p.E a.msg.seq).out.length ≤ 9 by omega)⟩, by simp⟩
        ·exact ⟨h, by simp⟩
       ·split
        ·exact ⟨h, by simp⟩
        ·exact ⟨⟨h.1, by rw [List.length_set]; exact h.2.1, set_small b3 (show (rcvE p.E ⟨a.msg.seq, a.msg.amt⟩).out.length ≤ 9 by omega)⟩, by simp⟩
    ·split
     ·have := tickM_len D b3
      exact ⟨h, by show (tickM D).length ≤ _; omega⟩
     ·unfold giveM
      split
      ·exact ⟨h, by simp⟩
      ·split
       ·exact ⟨h, by simp⟩
       ·rename_i k p hp
        have hp8 := b3 p (List.mem_of_getElem? hp)
        have l1 := pkE_len p.E a.amt
        split
        ·exact ⟨h, by simp⟩
        ·split
         ·exact ⟨⟨h.1, by rw [List.length_set]; exact h.2.1, set_small b3 (show (pkE p.E a.amt).out.length ≤ 9 by omega)⟩, by simp⟩
         ·exact ⟨h, by simp⟩
end Go.Proofs.Ytkcpoibhlnjldaa
