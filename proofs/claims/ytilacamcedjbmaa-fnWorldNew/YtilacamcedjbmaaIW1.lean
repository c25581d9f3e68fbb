/- The contracts of the program's nodePlace, endTo, endBetween, nodesOk and flightOk. -/
import Derived.Test.YtilacamcedjbmaaINode
import Derived.Test.YtilacamcedjbmaaWData
namespace Go.Proofs.Ytilacamcedjbmaa
open Go.ChangeShapes Go.WideShapes Go.ChangeAt Go.RowKit
set_option linter.unusedVariables false
set_option maxRecDepth 100000
set_option maxHeartbeats 2000000 in
theorem indexNode_any (a : Option Addr) (l : List Nd) (cap : Nat) (q : Nat) (id : Int) (w : World) (hl : l.length ≤ 1048576) (h : RowAt 6 ndCells w a l) (hq : q < w.heap.size) (hc : w.cell? ⟨q, 0, none⟩ = some (.int .i64 id)) :
    Calls Try.prog 33 #[.slice a l.length cap, .func (.func 57) #[] #[.pointer (some ⟨q, 0, none⟩)]] w fun e w' => e = .returned (.int .i64 (ixV (fi (l.map Nd.id) id))) ∧ Below w.heap.size w w' := by
  have HC : Hid _ := hide h
  have HQ : Hid _ := hide hc
  clear h hc
  go_enter Try.func33, Try.ntmps33
  go_wp2
  go_loopw [8] (fun i wr => ∃ k : Nat, k ≤ l.length ∧ i = .int .i64 (k : Int) ∧ Below w.heap.size w wr ∧ Hid (∀ j (hj : j < l.length), j < k → l[j].id ≠ id)) (fun i wr => l.length - (intOf i).toNat)
  case atStart => exact ⟨0, Nat.zero_le _, rfl, Below.refl _ _, hide (fun j _ hj => by omega)⟩
  case round =>
    obtain ⟨k, hk, rfl, HB, HN⟩ := hrel
    by_cases hlt : k < l.length
    · obtain ⟨b, off, rfl, hb, c0, c1, c2, c3, c4, c5⟩ := nd_row (HC.out.below HB) k hlt
      have hqc : wr.cell? ⟨q, 0, none⟩ = some (.int .i64 id) := (HB.cell hq).trans HQ.out
      have hq2 : q < wr.heap.size := Nat.lt_of_lt_of_le hq HB.size
      cases hq : ((l[k]).id == id)
      · have HS : Hid (∀ j (hj : j < l.length), j < k + 1 → l[j].id ≠ id) := hide (fun j hj hjk => by
          rcases Nat.lt_or_ge j k with h | h
          · exact HN.out j hj h
          · obtain rfl : j = k := by omega
            simpa using hq)
        go_wp2_with (go_in)
        exact ⟨⟨k + 1, by omega, by go_num, below_alloc HB _, HS⟩, by simp [intOf]; omega⟩
      · have HE : Hid (fi (l.map Nd.id) id = some k) := hide (fi_hit (by simpa using hlt) (by simpa using hq) (fun j hj hjk => by have := HN.out j (by simpa using hj) hjk; simpa using this))
        go_wp2_with (go_in)
        go_ret
        exact ⟨by rw [HE.out]; rfl, below_alloc HB _⟩
    · have HE : Hid (fi (l.map Nd.id) id = none) := hide (fi_miss (fun i hi => by have := HN.out i (by simpa using hi) (by have : i < l.length := (by simpa using hi); omega); simpa using this))
      go_wp2
      go_ret
      exact ⟨by rw [HE.out]; rfl, HB⟩
set_option maxHeartbeats 1000000 in
theorem nodePlace_any (a : Option Addr) (l : List Nd) (cap : Nat) (id : Int) (w : World) (hl : l.length ≤ 1048576) (h : RowAt 6 ndCells w a l) :
    Calls Try.prog 48 #[.slice a l.length cap, .int .i64 id] w fun e w' => e = .returned (.int .i64 (ixV (fi (l.map Nd.id) id))) ∧ Below w.heap.size w w' := by
  have HC : Hid _ := hide h
  clear h
  have hmf : ∀ (fn : Fn) (first cap : Array Value) (w : World), (Instr.makeFunc fn first cap).run Try.prog w = .ok (.func fn first cap) w := fun _ _ _ _ => rfl
  have HB : Hid _ := hide (below_alloc (Below.refl w.heap.size w) (.cells #[.int .i64 id] 2))
  go_enter Try.func48, Try.ntmps48
  go_wp2_with fail
  refine (indexNode_any a l cap w.heap.size id _ hl (HC.out.below HB.out) (by simp) (by simp)).mono ?_
  rintro e w2 ⟨rfl, hb2⟩
  have HB2 : Hid _ := hide (below_trans HB.out hb2)
  clear hb2
  go_wp2
  go_ret
  exact ⟨rfl, HB2.out⟩
set_option maxHeartbeats 2000000 in
theorem endTo_any (B O : Nat) (n : Nd) (to : Int) (w : World) (hl : n.peers.length ≤ 1048576) (hB : B < w.heap.size) (hc : w.cell? ⟨B, O + 5, none⟩ = some (.slice n.pa n.peers.length n.pc)) (h : RowAt 4 prCells w n.pa n.peers) :
    Calls Try.prog 49 #[.pointer (some ⟨B, O, none⟩), .int .i64 to] w fun e w' => e = .returned (.pointer (ptrIn n to)) ∧ Below w.heap.size w w' := by
  have HC : Hid _ := hide h
  have HQ : Hid _ := hide hc
  clear h
  go_enter Try.func49, Try.ntmps49
  go_wp2
  go_loopw [12] (fun i wr => ∃ k : Nat, k ≤ n.peers.length ∧ i = .int .i64 (k : Int) ∧ Below w.heap.size w wr ∧ Hid (∀ j (hj : j < n.peers.length), j < k → n.peers[j].id ≠ to)) (fun i wr => n.peers.length - (intOf i).toNat)
  case atStart => exact ⟨0, Nat.zero_le _, rfl, Below.refl _ _, hide (fun j _ hj => by omega)⟩
  case round =>
    obtain ⟨k, hk, rfl, HB, HN⟩ := hrel
    have hcr : wr.cell? ⟨B, O + 5, none⟩ = some (.slice n.pa n.peers.length n.pc) := (HB.cell hB).trans HQ.out
    have hB2 : B < wr.heap.size := Nat.lt_of_lt_of_le hB HB.size
    clear hc
    by_cases hlt : k < n.peers.length
    · obtain ⟨b, off, hpa, hb, c0, c1, c2, c3⟩ := pr_row (HC.out.below HB) k hlt
      rw [hpa] at hcr ⊢
      have hlt' : (k : Int) < (n.peers.length : Int) := by omega
      cases hq : ((n.peers[k]).id == to)
      · have HS : Hid (∀ j (hj : j < n.peers.length), j < k + 1 → n.peers[j].id ≠ to) := hide (fun j hj hjk => by
          rcases Nat.lt_or_ge j k with h | h
          · exact HN.out j hj h
          · obtain rfl : j = k := by omega
            simpa using hq)
        go_wp2
        exact ⟨⟨k + 1, by omega, by go_num, below_alloc HB _, HS⟩, by simp [intOf]; omega⟩
      · have HE : Hid (ptrIn n to = some ⟨b, off + k * 4 + 1, none⟩) := hide (ptrIn_hit (fi_hit (by simpa using hlt) (by simpa using hq) (fun j hj hjk => by have := HN.out j (by simpa using hj) hjk; simpa using this)) hpa)
        go_wp2
        go_ret
        exact ⟨by rw [HE.out]; rfl, below_alloc HB _⟩
    · have HE : Hid (ptrIn n to = none) := hide (ptrIn_miss (fi_miss (fun i hi => by have := HN.out i (by simpa using hi) (by have : i < n.peers.length := (by simpa using hi); omega); simpa using this)))
      have hk' : ¬ (k : Int) < (n.peers.length : Int) := by omega
      go_wp2
      go_ret
      exact ⟨by rw [HE.out]; rfl, HB⟩
set_option maxHeartbeats 2000000 in
theorem endBetween_any (a : Option Addr) (l : List Nd) (cap : Nat) (fr to : Int) (w : World) (hl : l.length ≤ 1048576) (hp : ∀ n ∈ l, n.peers.length ≤ 1048576) (h : NodesAt w a l) :
    Calls Try.prog 37 #[.slice a l.length cap, .int .i64 fr, .int .i64 to] w fun e w' => e = .returned (.pointer (ptrBet l fr to)) ∧ Below w.heap.size w w' := by
  have HC : Hid _ := hide h
  clear h
  cases e1 : fi (l.map Nd.id) fr with
  | none =>
    have HE : Hid (ptrBet l fr to = none) := hide (ptrBet_miss e1)
    go_enter Try.func37, Try.ntmps37
    go_wp2_with fail
    refine (nodePlace_any a l cap fr w hl HC.out.row).mono ?_
    rw [e1]
    rintro e w1 ⟨rfl, hb1⟩
    have HB : Hid _ := hide hb1
    clear hb1
    have hi : ixV none = -1 := rfl
    go_wp2
    go_ret
    exact ⟨by rw [HE.out]; rfl, HB.out⟩
  | some k =>
    obtain ⟨hk', _⟩ := fi_some e1
    have hk : k < l.length := by simpa using hk'
    have HE : Hid (ptrBet l fr to = ptrIn l[k] to) := hide (ptrBet_hit e1 hk)
    go_enter Try.func37, Try.ntmps37
    go_wp2_with fail
    refine (nodePlace_any a l cap fr w hl HC.out.row).mono ?_
    rw [e1]
    rintro e w1 ⟨rfl, hb1⟩
    have HB : Hid _ := hide hb1
    clear hb1
    have hi : ixV (some k) = (k : Int) := rfl
    obtain ⟨b, off, rfl, hb, c0, c1, c2, c3, c4, c5⟩ := nd_row (HC.out.row.below HB.out) k hk
    have hlt' : (k : Int) < (l.length : Int) := by omega
    go_wp2_with fail
    refine (endTo_any b (off + k * 6) l[k] to w1 (hp _ (List.getElem_mem hk)) hb c5 ((HC.out.each _ (List.getElem_mem hk)).peers.row.below HB.out)).mono ?_
    rintro e w2 ⟨rfl, hb2⟩
    have HB2 : Hid _ := hide (below_trans HB.out hb2)
    clear hb2
    go_wp2
    go_ret
    exact ⟨by rw [HE.out]; rfl, HB2.out⟩
end Go.Proofs.Ytilacamcedjbmaa
