/- The contracts of the model's l6Peer, l2Seen and l6None. -/
import Derived.Test.YtkcpoibhlnjldaaAcD
namespace Go.Proofs.Ytkcpoibhlnjldaa
open Go.Value renaming int → J, slice → V
open Go.IntKind renaming i64 → Z
open Go.ChangeShapes Go.WideShapes Go.ChangeAt Go.RowKit
set_option linter.unusedVariables false
set_option maxRecDepth 100000

set_option maxHeartbeats 2000000 in
theorem l6Peer_any (n : Nd) (id : Int) (w : World) (hl : n.peers.length ≤ 1048576) (h : RowAt 4 prCells w n.pa n.peers) :
  Calls Try.prog 23 #[.agg #[J Z n.id, J Z n.has, J Z n.spent, J Z n.earned, V n.sa n.seen.length n.sc, V n.pa n.peers.length n.pc], J Z id] w fun e w' => e = .returned (J Z (ixV (fi (n.peers.map Pr.id) id))) ∧ Below w.heap.size w w' := by
 have HC : Hid _ := hide h
 clear h
 go_enter Try.func23, Try.ntmps23
 go_wp2
 go_loopw [5] (fun i wr => ∃ k : Nat, k ≤ n.peers.length ∧ i = J Z (k : Int) ∧ Below (w.heap.size + 1) (w.alloc (.cells #[J Z n.id, J Z n.has, J Z n.spent, J Z n.earned, V n.sa n.seen.length n.sc, V n.pa n.peers.length n.pc] 27)) wr ∧ Hid (∀ j (hj : j < n.peers.length), j < k → n.peers[j].id ≠ id)) (fun i wr => n.peers.length - (intOf i).toNat)
 case atStart => exact ⟨0, Nat.zero_le _, rfl, Below.refl _ _, hide (fun j _ hj => by omega)⟩
 case round =>
  obtain ⟨k, hk, rfl, HB, HN⟩ := hrel
  have x1 := boxN HB 5 _ rfl
  have hbx : w.heap.size < wr.heap.size := box_lt HB
  by_cases hlt : k < n.peers.length
  ·obtain ⟨b, off, hpa, hb, c0, _⟩ := pr_row (HC.out.below (box_old HB)) k hlt
   rw [hpa] at x1 ⊢
   have hlt' : (k : Int) < (n.peers.length : Int) := by omega
   cases hq : ((n.peers[k]).id == id)
   ·have HS : Hid (∀ j (hj : j < n.peers.length), j < k + 1 → n.peers[j].id ≠ id) := hide (fun j hj hjk => by
     rcases Nat.lt_or_ge j k with h | h
     ·exact HN.out j hj h
     ·obtain rfl : j = k := by omega
      simpa using hq)
    go_wp2
    exact ⟨⟨k + 1, by omega, by go_num, by rw [hpa] at HB; exact HB, HS⟩, by simp [intOf]; omega⟩
   ·have HE : Hid (fi (n.peers.map Pr.id) id = some k) := hide (fi_hit (by simpa using hlt) (by simpa using hq) (fun j hj hjk => by have := HN.out j (by simpa using hj) hjk; simpa using this))
    go_wp2
    go_ret
    exact ⟨by rw [HE.out]; rfl, box_old HB⟩
  ·have HE : Hid (fi (n.peers.map Pr.id) id = none) := hide (fi_miss (fun i hi => by have := HN.out i (by simpa using hi) (by have : i < n.peers.length := (by simpa using hi); omega); simpa using this))
   have hk' : ¬ (k : Int) < (n.peers.length : Int) := by omega
   go_wp2
   go_ret
   exact ⟨by rw [HE.out]; rfl, box_old HB⟩

set_option maxHeartbeats 2000000 in
theorem l2Seen_any (sa : Option Addr) (l : List Sn) (sc : Nat) (id : Int) (w : World) (hl : l.length ≤ 1048576) (h : RowAt 2 snCells w sa l) :
  Calls Try.prog 51 #[V sa l.length sc, J Z id] w fun e w' => e = .returned (J Z (seenV l id)) ∧ w' = w := by
 have HC : Hid _ := hide h
 clear h
 go_enter Try.func51, Try.ntmps51
 go_wp2
 go_loopw [5] (fun i wr => ∃ k : Nat, k ≤ l.length ∧ i = J Z (k : Int) ∧ wr = w ∧ Hid (∀ j (hj : j < l.length), j < k → l[j].id ≠ id)) (fun i wr => l.length - (intOf i).toNat)
 case atStart => exact ⟨0, Nat.zero_le _, rfl, rfl, hide (fun j _ hj => by omega)⟩
 case round =>
  obtain ⟨k, hk, rfl, rfl, HN⟩ := hrel
  by_cases hlt : k < l.length
  ·obtain ⟨b, off, hpa, hb, c0, c1⟩ := sn_row HC.out k hlt
   subst hpa
   have hlt' : (k : Int) < (l.length : Int) := by omega
   cases hq : ((l[k]).id == id)
   ·have HS : Hid (∀ j (hj : j < l.length), j < k + 1 → l[j].id ≠ id) := hide (fun j hj hjk => by
     rcases Nat.lt_or_ge j k with h | h
     ·exact HN.out j hj h
     ·obtain rfl : j = k := by omega
      simpa using hq)
    go_wp2
    exact ⟨⟨k + 1, by omega, by go_num, by trivial, HS⟩, by simp [intOf]; omega⟩
   ·have HE : Hid (fi (l.map Sn.id) id = some k) := hide (fi_hit (by simpa using hlt) (by simpa using hq) (fun j hj hjk => by have := HN.out j (by simpa using hj) hjk; simpa using this))
    go_wp2
    go_ret
    exact ⟨by rw [seenV_hit hlt HE.out]; rfl, rfl⟩
  ·have HE : Hid (fi (l.map Sn.id) id = none) := hide (fi_miss (fun i hi => by have := HN.out i (by simpa using hi) (by have : i < l.length := (by simpa using hi); omega); simpa using this))
   have hk' : ¬ (k : Int) < (l.length : Int) := by omega
   go_wp2
   go_ret
   exact ⟨by rw [seenV_miss HE.out]; rfl, rfl⟩

set_option maxHeartbeats 2000000 in
theorem l6None_any (fr to kind seq amt : Int) (w : World) :
  Calls Try.prog 50 #[.agg #[J Z fr, J Z to, J Z kind, J Z seq, J Z amt]] w fun e w' => e = .returned (.bool (noneB (⟨fr, to, kind, seq, amt⟩ : Mg))) ∧ Below w.heap.size w w' := by
 go_enter Try.func50, Try.ntmps50
 go_wp2
 all_goals (go_ret; exact ⟨by simp_all [noneB], below_alloc (Below.refl _ _) _⟩)
end Go.Proofs.Ytkcpoibhlnjldaa
