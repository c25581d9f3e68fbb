/- The contracts of the program's seenOk, peersOk and NodeOk. -/
import Derived.Test.YtilacamcedjbmaaLk
namespace Go.Proofs.Ytilacamcedjbmaa
open Go.ChangeShapes Go.WideShapes Go.ChangeAt Go.RowKit
set_option linter.unusedVariables false
/-- a block as it was laid, whatever came behind it -/
theorem boxN {w x : World} {cur : Array Value} {T : TypeId} (h : Below (w.heap.size + 1) (w.alloc (.cells cur T)) x) (j : Nat) (v : Value) (hj : cur[j]? = some v) : x.cell? ⟨w.heap.size, j, none⟩ = some v :=
  (h.cell (by show w.heap.size < w.heap.size + 1; omega)).trans ((World.cell?_alloc_at _ _ _ _ rfl).trans hj)
theorem boxFree {w x : World} {cur : Array Value} {T : TypeId} (h : Below (w.heap.size + 1) (w.alloc (.cells cur T)) x) (j : Nat) : x.frozen? ⟨w.heap.size, j, none⟩ = false :=
  (h.frozen (by show w.heap.size < w.heap.size + 1; omega)).trans (frozen_of_block (cur := cur) (e := T) (by show (w.heap.push _)[w.heap.size]? = _; simp) j)
theorem later_newN {wr : World} {cur : Array Value} {T : TypeId} (j : Nat) (v : Value) (hj : cur[j]? = some v) : ∀ x : Later (wr.alloc (.cells cur T)), x.w.cell? ⟨wr.heap.size, j, none⟩ = some v :=
  fun x => (x.below.cell (show wr.heap.size < (wr.alloc (.cells cur T)).heap.size by simp)).trans ((World.cell?_alloc_at _ _ _ _ rfl).trans hj)
theorem wrap_pred {k m : Nat} (h : k = m + 1) (hk : k ≤ 1048576) : IntKind.i64.wrap ((k : Int) - 1) = (m : Int) := by
  rw [show (k : Int) - 1 = (m : Int) by omega]; simp only [IntKind.wrap, IntKind.signed, IntKind.bits]; simp; omega
set_option maxHeartbeats 1000000 in
theorem nodeCode_any (c : Int) (w : World) :
    Calls Try.prog 54 #[.int .i64 c] w fun e w' => e = .returned (.bool (nodeCd c)) ∧ w' = w := by
  cases q0 : (c == 0) <;> cases q1 : (c == 4) <;> cases q2 : (c == 6) <;>
  · have HR : Hid (nodeCd c = _) := hide (by unfold nodeCd; rw [q0, q1, q2])
    go_enter Try.func54, Try.ntmps54
    go_wp2
    go_ret
    exact ⟨by rw [HR.out]; rfl, rfl⟩
set_option maxHeartbeats 4000000 in
theorem seenOk_any (a : Option Addr) (l : List Sn) (cap : Nat) (w : World) (hl : l.length ≤ 40) (h : RowAt 2 snCells w a l) :
    Calls Try.prog 53 #[.slice a l.length cap, .func (.func 54) #[] #[]] w fun e w' => e = .returned (.bool (allTo (snB nodeCd l) l.length)) ∧ Below w.heap.size w w' := by
  have HL : Hid _ := hide h
  clear h
  go_enter Try.func53, Try.ntmps53
  go_wp2
  go_loopw [9] (fun i wr => ∃ k : Nat, k ≤ l.length ∧ i = .int .i64 (k : Int) ∧ Below w.heap.size w wr ∧ Hid (allTo (snB nodeCd l) k = true)) (fun i wr => l.length - (intOf i).toNat)
  case atStart => exact ⟨0, Nat.zero_le _, rfl, Below.refl _ _, hide rfl⟩
  case round =>
    obtain ⟨k, hk, rfl, HB, HS⟩ := hrel
    by_cases hlt : k < l.length
    · obtain ⟨b, off, rfl, hb, c0, c1⟩ := sn_row (HL.out.below HB) k hlt
      have hlt' : (k : Int) < (l.length : Int) := by omega
      by_cases hz : k = 0
      · have hri : Hid (risesB (l.map Sn.id) k = true) := hide (by rw [hz]; rfl)
        have hz' : decide ((0 : Int) < (k : Int)) = false := by simp; omega
        have hz'' : decide (0 < k) = false := by simp; omega
        clear hz
        cases q1 : inB 1 1000000000 (l[k]).id
        · have HR : Hid (allTo (snB nodeCd l) l.length = false) := hide (by rw [allTo_false hlt (by rw [snB_at hlt, q1]; rfl)])
          go_wp2_with (fail)
          go_quiet (fail)
          go_wp2_with (first | (go_at_call 41; refine (numberOk_any _ _).mono ?_; rintro e w' ⟨rfl, rfl⟩) | (go_at_call 54; refine (nodeCode_any _ _).mono ?_; rintro e w' ⟨rfl, rfl⟩))
          go_ret
          exact ⟨by rw [HR.out]; rfl, below_drewN (below_alloc HB _) _⟩
        · cases q3 : nodeCd (l[k]).code
          · have HR : Hid (allTo (snB nodeCd l) l.length = false) := hide (by rw [allTo_false hlt (by rw [snB_at hlt, q1, hri.out, q3]; rfl)])
            go_wp2_with (fail)
            go_quiet (fail)
            go_wp2_with (first | (go_at_call 41; refine (numberOk_any _ _).mono ?_; rintro e w' ⟨rfl, rfl⟩) | (go_at_call 54; refine (nodeCode_any _ _).mono ?_; rintro e w' ⟨rfl, rfl⟩))
            go_ret
            exact ⟨by rw [HR.out]; rfl, below_drewN (below_alloc HB _) _⟩
          · have HS2 : Hid (allTo (snB nodeCd l) (k + 1) = true) := hide (allTo_step HS.out (by rw [snB_at hlt, q1, hri.out, q3]; rfl))
            go_wp2_with (fail)
            go_quiet (fail)
            go_wp2_with (first | (go_at_call 41; refine (numberOk_any _ _).mono ?_; rintro e w' ⟨rfl, rfl⟩) | (go_at_call 54; refine (nodeCode_any _ _).mono ?_; rintro e w' ⟨rfl, rfl⟩))
            exact ⟨⟨_, by omega, by go_num, below_drewN (below_alloc HB _) _, HS2⟩, by simp [intOf]; omega⟩
      · obtain ⟨m, hm⟩ : ∃ m, k = m + 1 := ⟨k - 1, by omega⟩
        have hm3 : m < l.length := by omega
        obtain ⟨b', off', heq, _, p0, _⟩ := sn_row (HL.out.below HB) m hm3
        simp only [Option.some.injEq, Addr.mk.injEq, and_true] at heq
        obtain ⟨rfl, rfl⟩ := heq
        have hz' : (0 : Int) < (k : Int) := by omega
        have hm1 : IntKind.i64.wrap ((k : Int) - 1) = (m : Int) := wrap_pred hm (by omega)
        have hm2 : (m : Int) < (l.length : Int) := by omega
        have hz'' : 0 < k := by omega
        have hrs : risesB (l.map Sn.id) k = decide ((l[m]).id < (l[k]).id) := by subst hm; exact rises_sn hlt
        by_cases q2 : (l[m]).id < (l[k]).id
        · have hri : Hid (risesB (l.map Sn.id) k = true) := hide (by rw [hrs]; simpa using q2)
          have q2' : decide ((l[k]).id ≤ (l[m]).id) = false := by simp; omega
          clear hrs hm hz
          cases q1 : inB 1 1000000000 (l[k]).id
          · have HR : Hid (allTo (snB nodeCd l) l.length = false) := hide (by rw [allTo_false hlt (by rw [snB_at hlt, q1]; rfl)])
            go_wp2_with (fail)
            go_quiet (fail)
            go_wp2_with (first | (go_at_call 41; refine (numberOk_any _ _).mono ?_; rintro e w' ⟨rfl, rfl⟩) | (go_at_call 54; refine (nodeCode_any _ _).mono ?_; rintro e w' ⟨rfl, rfl⟩))
            go_ret
            exact ⟨by rw [HR.out]; rfl, below_drewN (below_alloc HB _) _⟩
          · cases q3 : nodeCd (l[k]).code
            · have HR : Hid (allTo (snB nodeCd l) l.length = false) := hide (by rw [allTo_false hlt (by rw [snB_at hlt, q1, hri.out, q3]; rfl)])
              go_wp2_with (fail)
              go_quiet (fail)
              go_wp2_with (first | (go_at_call 41; refine (numberOk_any _ _).mono ?_; rintro e w' ⟨rfl, rfl⟩) | (go_at_call 54; refine (nodeCode_any _ _).mono ?_; rintro e w' ⟨rfl, rfl⟩))
              go_ret
              exact ⟨by rw [HR.out]; rfl, below_drewN (below_alloc HB _) _⟩
            · have HS2 : Hid (allTo (snB nodeCd l) (k + 1) = true) := hide (allTo_step HS.out (by rw [snB_at hlt, q1, hri.out, q3]; rfl))
              go_wp2_with (fail)
              go_quiet (fail)
              go_wp2_with (first | (go_at_call 41; refine (numberOk_any _ _).mono ?_; rintro e w' ⟨rfl, rfl⟩) | (go_at_call 54; refine (nodeCode_any _ _).mono ?_; rintro e w' ⟨rfl, rfl⟩))
              exact ⟨⟨_, by omega, by go_num, below_drewN (below_alloc HB _) _, HS2⟩, by simp [intOf]; omega⟩
        · have q2' : (l[k]).id ≤ (l[m]).id := by omega
          have HR : Hid (allTo (snB nodeCd l) l.length = false) := hide (by rw [allTo_false hlt (by rw [snB_at hlt, hrs, decide_eq_false q2]; simp)])
          clear hrs hm hz
          go_wp2_with (fail)
          go_quiet (fail)
          go_wp2
          go_ret
          exact ⟨by rw [HR.out]; rfl, below_drewN (below_alloc HB _) _⟩
    · have hk' : ¬ (k : Int) < (l.length : Int) := by omega
      have HR : Hid (allTo (snB nodeCd l) l.length = true) := hide (by
        have hs := HS.out
        rw [show k = l.length by omega] at hs
        exact hs)
      go_wp2
      go_ret
      exact ⟨by rw [HR.out]; rfl, HB⟩
set_option maxHeartbeats 8000000 in
theorem peersOk_any (own : Int) (a : Option Addr) (l : List Pr) (cap : Nat) (w : World) (hl : l.length ≤ 8) (hsm : ∀ p ∈ l, p.E.out.length ≤ 1048576) (h : PeersAt w a l) :
    Calls Try.prog 55 #[.int .i64 own, .slice a l.length cap] w fun e w' => e = .returned (.bool (allTo (pdB own (l.map Pr.d)) l.length)) ∧ Below w.heap.size w w' := by
  have HL : Hid _ := hide h
  clear h
  go_enter Try.func55, Try.ntmps55
  go_wp2
  go_loopw [9] (fun i wr => ∃ k : Nat, k ≤ l.length ∧ i = .int .i64 (k : Int) ∧ Below w.heap.size w wr ∧ Hid (allTo (pdB own (l.map Pr.d)) k = true)) (fun i wr => l.length - (intOf i).toNat)
  case atStart => exact ⟨0, Nat.zero_le _, rfl, Below.refl _ _, hide rfl⟩
  case round =>
    obtain ⟨k, hk, rfl, HB, HS⟩ := hrel
    by_cases hlt : k < l.length
    · obtain ⟨b, off, rfl, hb, c0, c1, c2, c3⟩ := pr_row (HL.out.row.below HB) k hlt
      have hlt' : (k : Int) < (l.length : Int) := by omega
      have HRow : Hid _ := hide ((HL.out.ends (l[k]) (List.getElem_mem hlt)).below HB)
      have HSm : Hid _ := hide (hsm (l[k]) (List.getElem_mem hlt))
      by_cases hz : k = 0
      · have hri : Hid (risesB (l.map Pr.id) k = true) := hide (by rw [hz]; rfl)
        have hz' : decide ((0 : Int) < (k : Int)) = false := by simp; omega
        have hz'' : decide (0 < k) = false := by simp; omega
        clear hz
        cases q1 : inB 1 1000000000 (l[k]).id
        · have HR : Hid (allTo (pdB own (l.map Pr.d)) l.length = false) := hide (by rw [allTo_false hlt (by rw [pdB_at hlt, q1]; rfl)])
          go_wp2_with (fail)
          go_quiet (fail)
          go_wp2_with (first | (go_at_call 41; refine (numberOk_any _ _).mono ?_; rintro e w' ⟨rfl, rfl⟩))
          go_ret
          exact ⟨by rw [HR.out]; rfl, below_drewN (below_alloc HB _) _⟩
        · cases q3 : ((l[k]).id == own)
          · go_wp2_with (fail)
            go_quiet (fail)
            go_wp2_with (first | (go_at_call 41; refine (numberOk_any _ _).mono ?_; rintro e w' ⟨rfl, rfl⟩) | fail)
            refine (implEndOk_any _ _ _ _ _ _ HSm.out (HRow.out.below (below_drewN (below_alloc (Below.refl _ _) _) _))).mono ?_
            rintro e w2 ⟨rfl, hb2⟩
            have HB2 : Hid (Below w.heap.size w w2) := hide (below_trans (below_drewN (below_alloc HB _) _) hb2)
            clear hb2
            cases q4 : endB (l[k]).E
            · have HR : Hid (allTo (pdB own (l.map Pr.d)) l.length = false) := hide (by rw [allTo_false hlt (by rw [pdB_at hlt, q1, hri.out, q3, q4]; rfl)])
              go_wp2
              go_ret
              exact ⟨by rw [HR.out]; rfl, HB2.out⟩
            · have HS2 : Hid (allTo (pdB own (l.map Pr.d)) (k + 1) = true) := hide (allTo_step HS.out (by rw [pdB_at hlt, q1, hri.out, q3, q4]; rfl))
              go_wp2
              exact ⟨⟨_, by omega, by go_num, HB2.out, HS2⟩, by simp [intOf]; omega⟩
          · have HR : Hid (allTo (pdB own (l.map Pr.d)) l.length = false) := hide (by rw [allTo_false hlt (by rw [pdB_at hlt, q3]; simp)])
            go_wp2_with (fail)
            go_quiet (fail)
            go_wp2_with (first | (go_at_call 41; refine (numberOk_any _ _).mono ?_; rintro e w' ⟨rfl, rfl⟩))
            go_ret
            exact ⟨by rw [HR.out]; rfl, below_drewN (below_alloc HB _) _⟩
      · obtain ⟨m, hm⟩ : ∃ m, k = m + 1 := ⟨k - 1, by omega⟩
        have hm3 : m < l.length := by omega
        obtain ⟨b', off', heq, _, p0, _⟩ := pr_row (HL.out.row.below HB) m hm3
        simp only [Option.some.injEq, Addr.mk.injEq, and_true] at heq
        obtain ⟨rfl, rfl⟩ := heq
        have hz' : (0 : Int) < (k : Int) := by omega
        have hm1 : IntKind.i64.wrap ((k : Int) - 1) = (m : Int) := wrap_pred hm (by omega)
        have hm2 : (m : Int) < (l.length : Int) := by omega
        have hz'' : 0 < k := by omega
        have hrs : risesB (l.map Pr.id) k = decide ((l[m]).id < (l[k]).id) := by subst hm; exact rises_pr hlt
        by_cases q2 : (l[m]).id < (l[k]).id
        · have hri : Hid (risesB (l.map Pr.id) k = true) := hide (by rw [hrs]; simpa using q2)
          have q2' : decide ((l[k]).id ≤ (l[m]).id) = false := by simp; omega
          clear hrs hm hz
          cases q1 : inB 1 1000000000 (l[k]).id
          · have HR : Hid (allTo (pdB own (l.map Pr.d)) l.length = false) := hide (by rw [allTo_false hlt (by rw [pdB_at hlt, q1]; rfl)])
            go_wp2_with (fail)
            go_quiet (fail)
            go_wp2_with (first | (go_at_call 41; refine (numberOk_any _ _).mono ?_; rintro e w' ⟨rfl, rfl⟩))
            go_ret
            exact ⟨by rw [HR.out]; rfl, below_drewN (below_alloc HB _) _⟩
          · cases q3 : ((l[k]).id == own)
            · go_wp2_with (fail)
              go_quiet (fail)
              go_wp2_with (first | (go_at_call 41; refine (numberOk_any _ _).mono ?_; rintro e w' ⟨rfl, rfl⟩) | fail)
              refine (implEndOk_any _ _ _ _ _ _ HSm.out (HRow.out.below (below_drewN (below_alloc (Below.refl _ _) _) _))).mono ?_
              rintro e w2 ⟨rfl, hb2⟩
              have HB2 : Hid (Below w.heap.size w w2) := hide (below_trans (below_drewN (below_alloc HB _) _) hb2)
              clear hb2
              cases q4 : endB (l[k]).E
              · have HR : Hid (allTo (pdB own (l.map Pr.d)) l.length = false) := hide (by rw [allTo_false hlt (by rw [pdB_at hlt, q1, hri.out, q3, q4]; rfl)])
                go_wp2
                go_ret
                exact ⟨by rw [HR.out]; rfl, HB2.out⟩
              · have HS2 : Hid (allTo (pdB own (l.map Pr.d)) (k + 1) = true) := hide (allTo_step HS.out (by rw [pdB_at hlt, q1, hri.out, q3, q4]; rfl))
                go_wp2
                exact ⟨⟨_, by omega, by go_num, HB2.out, HS2⟩, by simp [intOf]; omega⟩
            · have HR : Hid (allTo (pdB own (l.map Pr.d)) l.length = false) := hide (by rw [allTo_false hlt (by rw [pdB_at hlt, q3]; simp)])
              go_wp2_with (fail)
              go_quiet (fail)
              go_wp2_with (first | (go_at_call 41; refine (numberOk_any _ _).mono ?_; rintro e w' ⟨rfl, rfl⟩))
              go_ret
              exact ⟨by rw [HR.out]; rfl, below_drewN (below_alloc HB _) _⟩
        · have q2' : (l[k]).id ≤ (l[m]).id := by omega
          have HR : Hid (allTo (pdB own (l.map Pr.d)) l.length = false) := hide (by rw [allTo_false hlt (by rw [pdB_at hlt, hrs, decide_eq_false q2]; simp)])
          clear hrs hm hz
          go_wp2_with (fail)
          go_quiet (fail)
          go_wp2
          go_ret
          exact ⟨by rw [HR.out]; rfl, below_drewN (below_alloc HB _) _⟩
    · have hk' : ¬ (k : Int) < (l.length : Int) := by omega
      have HR : Hid (allTo (pdB own (l.map Pr.d)) l.length = true) := hide (by
        have hs := HS.out
        rw [show k = l.length by omega] at hs
        exact hs)
      go_wp2
      go_ret
      exact ⟨by rw [HR.out]; rfl, HB⟩
set_option maxRecDepth 100000 in
set_option maxHeartbeats 8000000 in
theorem implNodeOk_any (id has spent earned : Int) (sa : Option Addr) (seen : List Sn) (sc : Nat) (pa : Option Addr) (peers : List Pr) (pc : Nat) (w : World) (hs : seen.length ≤ 1048576) (hp : peers.length ≤ 1048576) (hsm : ∀ p ∈ peers, p.E.out.length ≤ 1048576) (h1 : RowAt 2 snCells w sa seen) (h2 : PeersAt w pa peers) :
    Calls Try.prog 43 #[.agg #[.int .i64 id, .int .i64 has, .int .i64 spent, .int .i64 earned, .slice sa seen.length sc, .slice pa peers.length pc]] w fun e w' => e = .returned (.bool (nodeB ⟨id, has, spent, earned, seen, peers.map Pr.d⟩)) ∧ Below w.heap.size w w' := by
  have H1 : Hid _ := hide h1
  have H2 : Hid _ := hide h2
  clear h1 h2
  cases q1 : inB 1 1000000000 id
  · have HR : Hid (nodeB (⟨id, has, spent, earned, seen, peers.map Pr.d⟩ : NdD) = false) := hide (by simp [nodeB, q1])
    have hs0 : (0 : Int) ≤ (seen.length : Int) := by omega
    go_enter Try.func43, Try.ntmps43
    go_wp2_with (first | (go_at_call 41; refine (numberOk_any _ _).mono ?_; rintro e w' ⟨rfl, hw'⟩; have hw'' := hw'.symm; subst hw'') | (go_at_call 24; refine (within_any _ _ _ _).mono ?_; rintro e w' ⟨rfl, hw'⟩; have hw'' := hw'.symm; subst hw''))
    go_ret
    exact ⟨by rw [HR.out]; rfl, below_alloc (Below.refl _ _) _⟩
  · skip
    cases q2 : inB 0 10000000000000 has
    · have HR : Hid (nodeB (⟨id, has, spent, earned, seen, peers.map Pr.d⟩ : NdD) = false) := hide (by simp [nodeB, q2])
      have hs0 : (0 : Int) ≤ (seen.length : Int) := by omega
      go_enter Try.func43, Try.ntmps43
      go_wp2_with (first | (go_at_call 41; refine (numberOk_any _ _).mono ?_; rintro e w' ⟨rfl, hw'⟩; have hw'' := hw'.symm; subst hw'') | (go_at_call 24; refine (within_any _ _ _ _).mono ?_; rintro e w' ⟨rfl, hw'⟩; have hw'' := hw'.symm; subst hw''))
      go_ret
      exact ⟨by rw [HR.out]; rfl, below_alloc (Below.refl _ _) _⟩
    · skip
      cases q3 : inB 0 1000000000000 spent
      · have HR : Hid (nodeB (⟨id, has, spent, earned, seen, peers.map Pr.d⟩ : NdD) = false) := hide (by simp [nodeB, q3])
        have hs0 : (0 : Int) ≤ (seen.length : Int) := by omega
        go_enter Try.func43, Try.ntmps43
        go_wp2_with (first | (go_at_call 41; refine (numberOk_any _ _).mono ?_; rintro e w' ⟨rfl, hw'⟩; have hw'' := hw'.symm; subst hw'') | (go_at_call 24; refine (within_any _ _ _ _).mono ?_; rintro e w' ⟨rfl, hw'⟩; have hw'' := hw'.symm; subst hw''))
        go_ret
        exact ⟨by rw [HR.out]; rfl, below_alloc (Below.refl _ _) _⟩
      · skip
        cases q4 : inB 0 1000000000000 earned
        · have HR : Hid (nodeB (⟨id, has, spent, earned, seen, peers.map Pr.d⟩ : NdD) = false) := hide (by simp [nodeB, q4])
          have hs0 : (0 : Int) ≤ (seen.length : Int) := by omega
          go_enter Try.func43, Try.ntmps43
          go_wp2_with (first | (go_at_call 41; refine (numberOk_any _ _).mono ?_; rintro e w' ⟨rfl, hw'⟩; have hw'' := hw'.symm; subst hw'') | (go_at_call 24; refine (within_any _ _ _ _).mono ?_; rintro e w' ⟨rfl, hw'⟩; have hw'' := hw'.symm; subst hw''))
          go_ret
          exact ⟨by rw [HR.out]; rfl, below_alloc (Below.refl _ _) _⟩
        · skip
          by_cases g1 : seen.length ≤ 40
          · by_cases g2 : peers.length ≤ 8
            · have a1 : ¬ (40 : Int) < (seen.length : Int) := by omega
              have a2 : ¬ (8 : Int) < (peers.length : Int) := by omega
              have HN : Hid (nodeB (⟨id, has, spent, earned, seen, peers.map Pr.d⟩ : NdD) = (allTo (snB nodeCd seen) seen.length && allTo (pdB id (peers.map Pr.d)) peers.length)) := hide (by simp [nodeB, q1, q2, q3, q4, g1, g2])
              have HB0 : Hid (Below w.heap.size w (w.alloc (.cells #[.int .i64 id, .int .i64 has, .int .i64 spent, .int .i64 earned, .slice sa seen.length sc, .slice pa peers.length pc] 35))) := hide (below_alloc (Below.refl _ _) _)
              go_enter Try.func43, Try.ntmps43
              go_wp2_with (first | (go_at_call 41; refine (numberOk_any _ _).mono ?_; rintro e w' ⟨rfl, hw'⟩; have hw'' := hw'.symm; subst hw'') | (go_at_call 24; refine (within_any _ _ _ _).mono ?_; rintro e w' ⟨rfl, hw'⟩; have hw'' := hw'.symm; subst hw'') | fail)
              refine (seenOk_any _ seen _ _ g1 (H1.out.below HB0.out)).mono ?_
              rintro e w1 ⟨rfl, hb1⟩
              have c0 := boxN (hb1.mono (by simp)) 0 _ rfl
              have c5 := boxN (hb1.mono (by simp)) 5 _ rfl
              have HB1 : Hid (Below w.heap.size w w1) := hide (below_trans HB0.out hb1)
              clear hb1
              cases r1 : allTo (snB nodeCd seen) seen.length
              · have HR : Hid (nodeB (⟨id, has, spent, earned, seen, peers.map Pr.d⟩ : NdD) = false) := hide (by rw [HN.out, r1]; rfl)
                go_wp2
                go_ret
                exact ⟨by rw [HR.out]; rfl, HB1.out⟩
              · have HR : Hid (nodeB (⟨id, has, spent, earned, seen, peers.map Pr.d⟩ : NdD) = allTo (pdB id (peers.map Pr.d)) peers.length) := hide (by rw [HN.out, r1]; rfl)
                go_wp2_with fail
                refine (peersOk_any _ _ peers _ _ g2 hsm (H2.out.below HB1.out)).mono ?_
                rintro e w2 ⟨rfl, hb2⟩
                have HB2 : Hid (Below w.heap.size w w2) := hide (below_trans HB1.out hb2)
                clear hb2
                go_wp2
                go_ret
                exact ⟨by rw [HR.out]; rfl, HB2.out⟩
            · have HR : Hid (nodeB (⟨id, has, spent, earned, seen, peers.map Pr.d⟩ : NdD) = false) := hide (by simp [nodeB, g2])
              have a1 : ¬ (40 : Int) < (seen.length : Int) := by omega
              have a2 : (8 : Int) < (peers.length : Int) := by omega
              go_enter Try.func43, Try.ntmps43
              go_wp2_with (first | (go_at_call 41; refine (numberOk_any _ _).mono ?_; rintro e w' ⟨rfl, hw'⟩; have hw'' := hw'.symm; subst hw'') | (go_at_call 24; refine (within_any _ _ _ _).mono ?_; rintro e w' ⟨rfl, hw'⟩; have hw'' := hw'.symm; subst hw''))
              go_ret
              exact ⟨by rw [HR.out]; rfl, below_alloc (Below.refl _ _) _⟩
          · have HR : Hid (nodeB (⟨id, has, spent, earned, seen, peers.map Pr.d⟩ : NdD) = false) := hide (by simp [nodeB, g1])
            have a1 : (40 : Int) < (seen.length : Int) := by omega
            go_enter Try.func43, Try.ntmps43
            go_wp2_with (first | (go_at_call 41; refine (numberOk_any _ _).mono ?_; rintro e w' ⟨rfl, hw'⟩; have hw'' := hw'.symm; subst hw'') | (go_at_call 24; refine (within_any _ _ _ _).mono ?_; rintro e w' ⟨rfl, hw'⟩; have hw'' := hw'.symm; subst hw''))
            go_ret
            exact ⟨by rw [HR.out]; rfl, below_alloc (Below.refl _ _) _⟩
end Go.Proofs.Ytilacamcedjbmaa
