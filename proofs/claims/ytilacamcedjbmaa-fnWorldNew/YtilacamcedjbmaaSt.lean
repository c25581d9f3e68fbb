/- The contracts of Settled, of the program and of its model. -/
import Derived.Test.YtilacamcedjbmaaFl
namespace Go.Proofs.Ytilacamcedjbmaa
open Go.ChangeShapes Go.WideShapes Go.ChangeAt Go.RowKit
set_option linter.unusedVariables false
set_option maxRecDepth 100000
/-- the place of the first one that p tells, or -1 -/
def ixB {A : Type} (p : A → Bool) (l : List A) : Int := ixV (l.findIdx? p)
theorem ixB_hit {A : Type} {p : A → Bool} {l : List A} {k : Nat} (hk : k < l.length) (h1 : p l[k] = true) (h2 : ∀ j (hj : j < l.length), j < k → p l[j] = false) : ixB p l = (k : Int) := by
  have e : l.findIdx? p = some k := by
    rw [List.findIdx?_eq_some_iff_getElem]
    exact ⟨hk, h1, fun j hj => by have := h2 j (by omega) hj; simp [this]⟩
  unfold ixB; rw [e]; rfl
theorem ixB_miss {A : Type} {p : A → Bool} {l : List A} (h : ∀ j (hj : j < l.length), p l[j] = false) : ixB p l = -1 := by
  have e : l.findIdx? p = none := by
    rw [List.findIdx?_eq_none_iff]
    intro y hy
    obtain ⟨j, hj, rfl⟩ := List.mem_iff_getElem.1 hy
    exact h j hj
  unfold ixB; rw [e]; rfl
theorem ixB_any {A : Type} (p : A → Bool) (l : List A) : decide ((0 : Int) ≤ ixB p l) = l.any p := by
  cases h : l.any p with
  | false =>
    have e : ixB p l = -1 := ixB_miss (fun j hj => by
      have := List.any_eq_false.1 h l[j] (List.getElem_mem hj)
      simpa using this)
    rw [e]; rfl
  | true =>
    obtain ⟨x, hx, hp⟩ := List.any_eq_true.1 h
    unfold ixB
    cases e : l.findIdx? p with
    | none => rw [List.findIdx?_eq_none_iff] at e; rw [e x hx] at hp; cases hp
    | some k => simp [ixV]
def opnB (p : Pr) : Bool := decide (0 < p.E.out.length)
def waitB (n : Nd) : Bool := n.peers.any opnB
def opnD (p : PD) : Bool := decide (0 < p.E.out.length)
def waitD (n : NdD) : Bool := n.peers.any opnD
theorem wait_d (n : Nd) : waitD n.d = waitB n := by
  show (n.peers.map Pr.d).any opnD = n.peers.any opnB
  rw [List.any_map]; rfl
theorem waits_d (l : List Nd) : (l.map Nd.d).any waitD = l.any waitB := by
  rw [List.any_map]
  congr 1
  funext n
  exact wait_d n
def setB (D : WdD) : Bool := worldB D && decide ((D.net.length : Int) = 0) && !(D.nodes.any waitD)
set_option maxHeartbeats 1000000 in
theorem waits1_any (p : Pr) (w : World) :
    Calls Try.prog 35 #[.agg #[.int .i64 p.id, .slice p.a p.E.out.length p.cap, .int .i64 p.E.sent, .int .i64 p.E.got]] w fun e w' => e = .returned (.bool (opnB p)) ∧ Below w.heap.size w w' := by
  go_enter Try.func35, Try.ntmps35
  go_wp2
  go_ret
  exact ⟨rfl, below_alloc (Below.refl _ _) _⟩

set_option maxHeartbeats 4000000 in
theorem indexPeer_any (a : Option Addr) (l : List Pr) (cap : Nat) (w : World) (hl : l.length ≤ 1048576) (h : RowAt 4 prCells w a l) :
    Calls Try.prog 46 #[.slice a l.length cap, .func (.func 35) #[] #[]] w fun e w' => e = .returned (.int .i64 (ixB opnB l)) ∧ Below w.heap.size w w' := by
  have HC : Hid _ := hide h
  clear h
  go_enter Try.func46, Try.ntmps46
  go_wp2
  go_loopw [8] (fun i wr => ∃ k : Nat, k ≤ l.length ∧ i = .int .i64 (k : Int) ∧ Below w.heap.size w wr ∧ Hid (∀ j (hj : j < l.length), j < k → opnB l[j] = false)) (fun i wr => l.length - (intOf i).toNat)
  case atStart => exact ⟨0, Nat.zero_le _, rfl, Below.refl _ _, hide (fun j _ hj => by omega)⟩
  case round =>
    obtain ⟨k, hk, rfl, HB, HN⟩ := hrel
    by_cases hlt : k < l.length
    · obtain ⟨b, off, rfl, hb, c0, c1, c2, c3⟩ := pr_row (HC.out.below HB) k hlt
      have hlt' : (k : Int) < (l.length : Int) := by omega
      go_wp2_with fail
      refine (waits1_any l[k] _).mono ?_
      rintro e w1 ⟨rfl, hb1⟩
      have HB1 : Hid _ := hide (below_trans HB hb1)
      clear hb1
      cases hq : opnB l[k]
      · have HS : Hid (∀ j (hj : j < l.length), j < k + 1 → opnB l[j] = false) := hide (fun j hj hjk => by
          rcases Nat.lt_or_ge j k with h | h
          · exact HN.out j hj h
          · obtain rfl : j = k := by omega
            exact hq)
        go_wp2
        exact ⟨⟨k + 1, by omega, by go_num, HB1.out, HS⟩, by simp [intOf]; omega⟩
      · have HE : Hid (ixB opnB l = (k : Int)) := hide (ixB_hit hlt hq HN.out)
        go_wp2
        go_ret
        exact ⟨by rw [HE.out]; rfl, HB1.out⟩
    · have HE : Hid (ixB opnB l = -1) := hide (ixB_miss (fun i hi => HN.out i hi (by omega)))
      have hk' : ¬ (k : Int) < (l.length : Int) := by omega
      go_wp2
      go_ret
      exact ⟨by rw [HE.out]; rfl, HB⟩

set_option maxHeartbeats 2000000 in
theorem containsPeer_any (a : Option Addr) (l : List Pr) (cap : Nat) (w : World) (hl : l.length ≤ 1048576) (h : RowAt 4 prCells w a l) :
    Calls Try.prog 34 #[.slice a l.length cap, .func (.func 35) #[] #[]] w fun e w' => e = .returned (.bool (l.any opnB)) ∧ Below w.heap.size w w' := by
  have HE : Hid (decide ((0 : Int) ≤ ixB opnB l) = l.any opnB) := hide (ixB_any _ _)
  go_enter Try.func34, Try.ntmps34
  go_wp2_with fail
  refine (indexPeer_any a l cap w hl h).mono ?_
  rintro e w1 ⟨rfl, hb1⟩
  have HB : Hid _ := hide hb1
  clear hb1
  go_wp2
  go_ret
  exact ⟨by rw [← HE.out]; rfl, HB.out⟩

set_option maxHeartbeats 2000000 in
theorem waits_any (n : Nd) (w : World) (hl : n.peers.length ≤ 1048576) (h : RowAt 4 prCells w n.pa n.peers) :
    Calls Try.prog 20 #[.agg #[.int .i64 n.id, .int .i64 n.has, .int .i64 n.spent, .int .i64 n.earned, .slice n.sa n.seen.length n.sc, .slice n.pa n.peers.length n.pc]] w fun e w' => e = .returned (.bool (waitB n)) ∧ Below w.heap.size w w' := by
  have HC : Hid _ := hide h
  clear h
  go_enter Try.func20, Try.ntmps20
  go_wp2_with fail
  refine (containsPeer_any _ n.peers _ _ hl (HC.out.below (below_alloc (Below.refl _ _) _))).mono ?_
  rintro e w1 ⟨rfl, hb1⟩
  have HB : Hid (Below w.heap.size w w1) := hide (below_trans (below_alloc (Below.refl _ _) _) hb1)
  clear hb1
  go_wp2
  go_ret
  exact ⟨rfl, HB.out⟩

set_option maxHeartbeats 4000000 in
theorem indexWait_any (a : Option Addr) (l : List Nd) (cap : Nat) (w : World) (hl : l.length ≤ 1048576) (hp : ∀ n ∈ l, n.peers.length ≤ 1048576) (h : NodesAt w a l) :
    Calls Try.prog 33 #[.slice a l.length cap, .func (.func 20) #[] #[]] w fun e w' => e = .returned (.int .i64 (ixB waitB l)) ∧ Below w.heap.size w w' := by
  have HC : Hid _ := hide h
  clear h
  go_enter Try.func33, Try.ntmps33
  go_wp2
  go_loopw [8] (fun i wr => ∃ k : Nat, k ≤ l.length ∧ i = .int .i64 (k : Int) ∧ Below w.heap.size w wr ∧ Hid (∀ j (hj : j < l.length), j < k → waitB l[j] = false)) (fun i wr => l.length - (intOf i).toNat)
  case atStart => exact ⟨0, Nat.zero_le _, rfl, Below.refl _ _, hide (fun j _ hj => by omega)⟩
  case round =>
    obtain ⟨k, hk, rfl, HB, HN⟩ := hrel
    by_cases hlt : k < l.length
    · obtain ⟨b, off, rfl, hb, c0, c1, c2, c3, c4, c5⟩ := nd_row (HC.out.row.below HB) k hlt
      have hlt' : (k : Int) < (l.length : Int) := by omega
      go_wp2_with fail
      refine (waits_any l[k] _ (hp _ (List.getElem_mem hlt)) ((HC.out.each _ (List.getElem_mem hlt)).peers.row.below HB)).mono ?_
      rintro e w1 ⟨rfl, hb1⟩
      have HB1 : Hid _ := hide (below_trans HB hb1)
      clear hb1
      cases hq : waitB l[k]
      · have HS : Hid (∀ j (hj : j < l.length), j < k + 1 → waitB l[j] = false) := hide (fun j hj hjk => by
          rcases Nat.lt_or_ge j k with h | h
          · exact HN.out j hj h
          · obtain rfl : j = k := by omega
            exact hq)
        go_wp2
        exact ⟨⟨k + 1, by omega, by go_num, HB1.out, HS⟩, by simp [intOf]; omega⟩
      · have HE : Hid (ixB waitB l = (k : Int)) := hide (ixB_hit hlt hq HN.out)
        go_wp2
        go_ret
        exact ⟨by rw [HE.out]; rfl, HB1.out⟩
    · have HE : Hid (ixB waitB l = -1) := hide (ixB_miss (fun i hi => HN.out i hi (by omega)))
      have hk' : ¬ (k : Int) < (l.length : Int) := by omega
      go_wp2
      go_ret
      exact ⟨by rw [HE.out]; rfl, HB⟩

set_option maxHeartbeats 2000000 in
theorem containsWait_any (a : Option Addr) (l : List Nd) (cap : Nat) (w : World) (hl : l.length ≤ 1048576) (hp : ∀ n ∈ l, n.peers.length ≤ 1048576) (h : NodesAt w a l) :
    Calls Try.prog 19 #[.slice a l.length cap, .func (.func 20) #[] #[]] w fun e w' => e = .returned (.bool (l.any waitB)) ∧ Below w.heap.size w w' := by
  have HE : Hid (decide ((0 : Int) ≤ ixB waitB l) = l.any waitB) := hide (ixB_any _ _)
  go_enter Try.func19, Try.ntmps19
  go_wp2_with fail
  refine (indexWait_any a l cap w hl hp h).mono ?_
  rintro e w1 ⟨rfl, hb1⟩
  have HB : Hid _ := hide hb1
  clear hb1
  go_wp2
  go_ret
  exact ⟨by rw [← HE.out]; rfl, HB.out⟩

set_option maxHeartbeats 4000000 in
theorem implSettled_any (st : Int) (na : Option Addr) (l : List Nd) (nc : Nat) (ma : Option Addr) (ms : List Mg) (mc : Nat) (w : World) (hl : l.length ≤ 1048576) (hms : ms.length ≤ 1048576) (hsm : ∀ n ∈ l, SmN n) (h : NodesAt w na l) (hm : RowAt 5 mgCells w ma ms) :
    Calls Try.prog 9 #[.agg #[.int .i64 st, .slice na l.length nc, .slice ma ms.length mc]] w fun e w' => e = .returned (.bool (setB ⟨st, l.map Nd.d, ms⟩)) ∧ Below w.heap.size w w' := by
  have HL : Hid _ := hide h
  have HM : Hid _ := hide hm
  have HSm : Hid _ := hide hsm
  clear h hm hsm
  have HB0 : Hid (Below w.heap.size w (w.alloc (.cells #[.int .i64 st, .slice na l.length nc, .slice ma ms.length mc] 29))) := hide (below_alloc (Below.refl _ _) _)
  have KX0 : Hid (Blk w.heap.size [.int .i64 st, .slice na l.length nc, .slice ma ms.length mc] (w.alloc (.cells #[.int .i64 st, .slice na l.length nc, .slice ma ms.length mc] 29))) := hide Blk.new
  go_enter Try.func9, Try.ntmps9
  go_wp2_with fail
  refine (implWorldOk_any st _ l _ _ ms _ _ hl hms HSm.out (HL.out.below HB0.out) (HM.out.below HB0.out)).mono ?_
  rintro e w1 ⟨rfl, hb1⟩
  have HB1 : Hid _ := hide (below_trans HB0.out hb1)
  have x0 := (KX0.out.below hb1).c 0 _ rfl
  have x1 := (KX0.out.below hb1).c 1 _ rfl
  have x2 := (KX0.out.below hb1).c 2 _ rfl
  clear hb1
  cases q : worldB (⟨st, l.map Nd.d, ms⟩ : WdD)
  · have HR : Hid (setB (⟨st, l.map Nd.d, ms⟩ : WdD) = false) := hide (by unfold setB; rw [q]; rfl)
    go_wp2
    go_ret
    exact ⟨by rw [HR.out]; rfl, HB1.out⟩
  · cases q2 : ((ms.length : Int) == 0)
    · have HR : Hid (setB (⟨st, l.map Nd.d, ms⟩ : WdD) = false) := hide (by
        unfold setB
        rw [q, show decide (((⟨st, l.map Nd.d, ms⟩ : WdD).net.length : Int) = 0) = false from decide_eq_false (by show ¬ ((ms.length : Int) = 0); simpa using q2)]; rfl)
      go_wp2
      go_ret
      exact ⟨by rw [HR.out]; rfl, HB1.out⟩
    · have HR : Hid (setB (⟨st, l.map Nd.d, ms⟩ : WdD) = !(l.any waitB)) := hide (by
        unfold setB
        rw [q, show decide (((⟨st, l.map Nd.d, ms⟩ : WdD).net.length : Int) = 0) = true from decide_eq_true (by show ((ms.length : Int) = 0); simpa using q2), ← waits_d]; rfl)
      have HP : Hid _ := hide (worldB_parts q)
      clear q
      go_wp2_with fail
      refine (containsWait_any _ l _ _ hl (fun n hn => (HSm.out n hn).2.1) (HL.out.below HB1.out)).mono ?_
      rintro e w2 ⟨rfl, hb2⟩
      have HB2 : Hid _ := hide (below_trans HB1.out hb2)
      clear hb2
      go_wp2
      go_ret
      exact ⟨by rw [HR.out]; rfl, HB2.out⟩
end Go.Proofs.Ytilacamcedjbmaa
