/- The contracts of the program's nodesOk and flightOk. -/
import Derived.Test.YtilacamcedjbmaaIW1
namespace Go.Proofs.Ytilacamcedjbmaa
open Go.ChangeShapes Go.WideShapes Go.ChangeAt Go.RowKit
set_option linter.unusedVariables false
structure Blk (g : Nat) (cur : List Value) (x : World) : Prop where
  lt : g < x.heap.size
  c : ∀ j v, cur[j]? = some v → x.cell? ⟨g, j, none⟩ = some v
  f : ∀ j, x.frozen? ⟨g, j, none⟩ = false
theorem Blk.new {w : World} {cur : List Value} {T : TypeId} : Blk w.heap.size cur (w.alloc (.cells cur.toArray T)) :=
  ⟨by simp, fun j v hj => boxN (T := T) (Below.refl _ _) j v (by simpa using hj), fun j => boxFree (cur := cur.toArray) (T := T) (Below.refl _ _) j⟩
theorem Blk.below {g : Nat} {cur : List Value} {x y : World} (h : Blk g cur x) (b : Below x.heap.size x y) : Blk g cur y :=
  ⟨Nat.lt_of_lt_of_le h.lt b.size, fun j v hj => (b.cell h.lt).trans (h.c j v hj), fun j => (b.frozen h.lt).trans (h.f j)⟩
theorem Blk.alloc {g : Nat} {cur : List Value} {x : World} (h : Blk g cur x) (o : Obj) : Blk g cur (x.alloc o) := h.below (below_alloc (Below.refl _ _) _)
theorem Blk.set {g : Nat} {cur : List Value} {x : World} (h : Blk g cur x) (o : Nat) (v : Value) (ho : o < cur.length) : Blk g (cur.set o v) (x.setCell ⟨g, o, none⟩ v) :=
  ⟨by rw [size_setCell]; exact h.lt, fun j u hj => by
    by_cases e : o = j
    · subst e
      rw [List.getElem?_set_self (by simpa using ho)] at hj
      cases hj
      exact cell_set_same (h.c o cur[o] (List.getElem?_eq_getElem ho))
    · rw [List.getElem?_set_ne e] at hj
      rw [cell_set_other (.inr e)]
      exact h.c j u hj, fun j => by rw [frozen_set]; exact h.f j⟩
theorem Blk.other {g g' : Nat} {cur : List Value} {x : World} (h : Blk g cur x) (o : Nat) (v : Value) (hg : g' ≠ g) : Blk g cur (x.setCell ⟨g', o, none⟩ v) :=
  ⟨by rw [size_setCell]; exact h.lt, fun j u hj => by rw [cell_set_other (.inl hg)]; exact h.c j u hj, fun j => by rw [frozen_set]; exact h.f j⟩

def SmP (l : List Pr) : Prop := ∀ p ∈ l, p.E.out.length ≤ 1048576
def SmL (l : List Pr) : Prop := l.length ≤ 1048576 ∧ SmP l
def SmN (n : Nd) : Prop := n.seen.length ≤ 1048576 ∧ SmL n.peers
set_option maxRecDepth 100000
set_option maxHeartbeats 8000000 in
theorem nodesOk_any (a : Option Addr) (l : List Nd) (cap : Nat) (w : World) (hl : l.length ≤ 8) (hsm : ∀ n ∈ l, SmN n) (h : NodesAt w a l) :
    Calls Try.prog 29 #[.slice a l.length cap] w fun e w' => e = .returned (.bool (allTo (ndB (l.map Nd.d)) l.length)) ∧ Below w.heap.size w w' := by
  have HL : Hid _ := hide h
  clear h
  go_enter Try.func29, Try.ntmps29
  go_wp2
  go_loopw [7] (fun i wr => ∃ k : Nat, k ≤ l.length ∧ i = .int .i64 (k : Int) ∧ Below w.heap.size w wr ∧ Hid (allTo (ndB (l.map Nd.d)) k = true)) (fun i wr => l.length - (intOf i).toNat)
  case atStart => exact ⟨0, Nat.zero_le _, rfl, Below.refl _ _, hide rfl⟩
  case round =>
    obtain ⟨k, hk, rfl, HB, HS⟩ := hrel
    by_cases hlt : k < l.length
    · obtain ⟨b, off, rfl, hb, c0, c1, c2, c3, c4, c5⟩ := nd_row (HL.out.row.below HB) k hlt
      have hlt' : (k : Int) < (l.length : Int) := by omega
      have HA : Hid (NodeAt (wr.alloc (.cells #[.int .i64 (l[k]).id, .int .i64 (l[k]).has, .int .i64 (l[k]).spent, .int .i64 (l[k]).earned, .slice (l[k]).sa (l[k]).seen.length (l[k]).sc, .slice (l[k]).pa (l[k]).peers.length (l[k]).pc] 35)) l[k]) := hide (((HL.out.each _ (List.getElem_mem hlt)).below HB).below (below_alloc (Below.refl _ _) _))
      have HSm : Hid _ := hide (hsm _ (List.getElem_mem hlt))
      have HNB : Hid (ndB (l.map Nd.d) k = (nodeB (⟨(l[k]).id, (l[k]).has, (l[k]).spent, (l[k]).earned, (l[k]).seen, (l[k]).peers.map Pr.d⟩ : NdD) && risesB (l.map Nd.id) k)) := hide (ndB_at hlt)
      have hne : Nonempty (Later (wr.alloc (.cells #[.int .i64 (l[k]).id, .int .i64 (l[k]).has, .int .i64 (l[k]).spent, .int .i64 (l[k]).earned, .slice (l[k]).sa (l[k]).seen.length (l[k]).sc, .slice (l[k]).pa (l[k]).peers.length (l[k]).pc] 35))) := later_there _
      have s0' := later_newN (wr := wr) (cur := #[.int .i64 (l[k]).id, .int .i64 (l[k]).has, .int .i64 (l[k]).spent, .int .i64 (l[k]).earned, .slice (l[k]).sa (l[k]).seen.length (l[k]).sc, .slice (l[k]).pa (l[k]).peers.length (l[k]).pc]) (T := 35) 0 _ rfl
      have s1' := later_newN (wr := wr) (cur := #[.int .i64 (l[k]).id, .int .i64 (l[k]).has, .int .i64 (l[k]).spent, .int .i64 (l[k]).earned, .slice (l[k]).sa (l[k]).seen.length (l[k]).sc, .slice (l[k]).pa (l[k]).peers.length (l[k]).pc]) (T := 35) 1 _ rfl
      have s2' := later_newN (wr := wr) (cur := #[.int .i64 (l[k]).id, .int .i64 (l[k]).has, .int .i64 (l[k]).spent, .int .i64 (l[k]).earned, .slice (l[k]).sa (l[k]).seen.length (l[k]).sc, .slice (l[k]).pa (l[k]).peers.length (l[k]).pc]) (T := 35) 2 _ rfl
      have s3' := later_newN (wr := wr) (cur := #[.int .i64 (l[k]).id, .int .i64 (l[k]).has, .int .i64 (l[k]).spent, .int .i64 (l[k]).earned, .slice (l[k]).sa (l[k]).seen.length (l[k]).sc, .slice (l[k]).pa (l[k]).peers.length (l[k]).pc]) (T := 35) 3 _ rfl
      have s4' := later_newN (wr := wr) (cur := #[.int .i64 (l[k]).id, .int .i64 (l[k]).has, .int .i64 (l[k]).spent, .int .i64 (l[k]).earned, .slice (l[k]).sa (l[k]).seen.length (l[k]).sc, .slice (l[k]).pa (l[k]).peers.length (l[k]).pc]) (T := 35) 4 _ rfl
      have s5' := later_newN (wr := wr) (cur := #[.int .i64 (l[k]).id, .int .i64 (l[k]).has, .int .i64 (l[k]).spent, .int .i64 (l[k]).earned, .slice (l[k]).sa (l[k]).seen.length (l[k]).sc, .slice (l[k]).pa (l[k]).peers.length (l[k]).pc]) (T := 35) 5 _ rfl
      by_cases hz : k = 0
      · have hri : Hid (risesB (l.map Nd.id) k = true) := hide (by rw [hz]; rfl)
        have hz' : decide ((0 : Int) < (k : Int)) = false := by simp; omega
        have hz'' : decide (0 < k) = false := by simp; omega
        clear hz
        cases q1 : nodeB (⟨(l[k]).id, (l[k]).has, (l[k]).spent, (l[k]).earned, (l[k]).seen, (l[k]).peers.map Pr.d⟩ : NdD)
        · have HR : Hid (allTo (ndB (l.map Nd.d)) l.length = false) := hide (allTo_false hlt (by rw [HNB.out, q1]; rfl))
          go_wp2_with fail
          refine wp_region_later (wr.alloc (.cells #[.int .i64 (l[k]).id, .int .i64 (l[k]).has, .int .i64 (l[k]).spent, .int .i64 (l[k]).earned, .slice (l[k]).sa (l[k]).seen.length (l[k]).sc, .slice (l[k]).pa (l[k]).peers.length (l[k]).pc] 35)) (by kernel_rfl) (by kernel_rfl) ((Below.refl _ _).drew) ?_
          repeat (go_big_quiet_step (first | (go_at_call 43; exact later_of (implNodeOk_any _ _ _ _ _ (l[k]).seen _ _ (l[k]).peers _ _ HSm.out.1 HSm.out.2.1 HSm.out.2.2 (HA.out.seen.below (Later.below _)) (HA.out.peers.below (Later.below _))))))
          refine wpQuiet_nil ?_
          intro _ hw'
          obtain ⟨nx, rfl⟩ := hw'
          go_wp2
          go_ret
          exact ⟨by rw [HR.out]; rfl, below_trans (below_alloc HB _) nx.below⟩
        · have HS2 : Hid (allTo (ndB (l.map Nd.d)) (k + 1) = true) := hide (allTo_step HS.out (by rw [HNB.out, q1, hri.out]; rfl))
          go_wp2_with fail
          refine wp_region_later (wr.alloc (.cells #[.int .i64 (l[k]).id, .int .i64 (l[k]).has, .int .i64 (l[k]).spent, .int .i64 (l[k]).earned, .slice (l[k]).sa (l[k]).seen.length (l[k]).sc, .slice (l[k]).pa (l[k]).peers.length (l[k]).pc] 35)) (by kernel_rfl) (by kernel_rfl) ((Below.refl _ _).drew) ?_
          repeat (go_big_quiet_step (first | (go_at_call 43; exact later_of (implNodeOk_any _ _ _ _ _ (l[k]).seen _ _ (l[k]).peers _ _ HSm.out.1 HSm.out.2.1 HSm.out.2.2 (HA.out.seen.below (Later.below _)) (HA.out.peers.below (Later.below _))))))
          refine wpQuiet_nil ?_
          intro _ hw'
          obtain ⟨nx, rfl⟩ := hw'
          go_wp2
          exact ⟨⟨k + 1, by omega, by go_num, below_trans (below_alloc HB _) nx.below, HS2⟩, by simp [intOf]; omega⟩
      · obtain ⟨m, hm⟩ : ∃ m, k = m + 1 := ⟨k - 1, by omega⟩
        have hm3 : m < l.length := by omega
        obtain ⟨b', off', heq, hb', p0, _⟩ := nd_row (HL.out.row.below HB) m hm3
        simp only [Option.some.injEq, Addr.mk.injEq, and_true] at heq
        obtain ⟨rfl, rfl⟩ := heq
        have p0' := later_old (o := .cells #[.int .i64 (l[k]).id, .int .i64 (l[k]).has, .int .i64 (l[k]).spent, .int .i64 (l[k]).earned, .slice (l[k]).sa (l[k]).seen.length (l[k]).sc, .slice (l[k]).pa (l[k]).peers.length (l[k]).pc] 35) hb' p0
        have hz' : (0 : Int) < (k : Int) := by omega
        have hm1 : IntKind.i64.wrap ((k : Int) - 1) = (m : Int) := wrap_pred hm (by omega)
        have hm2 : (m : Int) < (l.length : Int) := by omega
        have hz'' : 0 < k := by omega
        have hrs : risesB (l.map Nd.id) k = decide ((l[m]).id < (l[k]).id) := by subst hm; exact rises_nd hlt
        by_cases q2 : (l[m]).id < (l[k]).id
        · have hri : Hid (risesB (l.map Nd.id) k = true) := hide (by rw [hrs]; simpa using q2)
          have q2' : decide ((l[k]).id ≤ (l[m]).id) = false := by simp; omega
          clear hrs hm hz
          cases q1 : nodeB (⟨(l[k]).id, (l[k]).has, (l[k]).spent, (l[k]).earned, (l[k]).seen, (l[k]).peers.map Pr.d⟩ : NdD)
          · have HR : Hid (allTo (ndB (l.map Nd.d)) l.length = false) := hide (allTo_false hlt (by rw [HNB.out, q1]; rfl))
            go_wp2_with fail
            refine wp_region_later (wr.alloc (.cells #[.int .i64 (l[k]).id, .int .i64 (l[k]).has, .int .i64 (l[k]).spent, .int .i64 (l[k]).earned, .slice (l[k]).sa (l[k]).seen.length (l[k]).sc, .slice (l[k]).pa (l[k]).peers.length (l[k]).pc] 35)) (by kernel_rfl) (by kernel_rfl) ((Below.refl _ _).drew) ?_
            repeat (go_big_quiet_step (first | (go_at_call 43; exact later_of (implNodeOk_any _ _ _ _ _ (l[k]).seen _ _ (l[k]).peers _ _ HSm.out.1 HSm.out.2.1 HSm.out.2.2 (HA.out.seen.below (Later.below _)) (HA.out.peers.below (Later.below _))))))
            refine wpQuiet_nil ?_
            intro _ hw'
            obtain ⟨nx, rfl⟩ := hw'
            go_wp2
            go_ret
            exact ⟨by rw [HR.out]; rfl, below_trans (below_alloc HB _) nx.below⟩
          · have HS2 : Hid (allTo (ndB (l.map Nd.d)) (k + 1) = true) := hide (allTo_step HS.out (by rw [HNB.out, q1, hri.out]; rfl))
            go_wp2_with fail
            refine wp_region_later (wr.alloc (.cells #[.int .i64 (l[k]).id, .int .i64 (l[k]).has, .int .i64 (l[k]).spent, .int .i64 (l[k]).earned, .slice (l[k]).sa (l[k]).seen.length (l[k]).sc, .slice (l[k]).pa (l[k]).peers.length (l[k]).pc] 35)) (by kernel_rfl) (by kernel_rfl) ((Below.refl _ _).drew) ?_
            repeat (go_big_quiet_step (first | (go_at_call 43; exact later_of (implNodeOk_any _ _ _ _ _ (l[k]).seen _ _ (l[k]).peers _ _ HSm.out.1 HSm.out.2.1 HSm.out.2.2 (HA.out.seen.below (Later.below _)) (HA.out.peers.below (Later.below _))))))
            refine wpQuiet_nil ?_
            intro _ hw'
            obtain ⟨nx, rfl⟩ := hw'
            go_wp2
            exact ⟨⟨k + 1, by omega, by go_num, below_trans (below_alloc HB _) nx.below, HS2⟩, by simp [intOf]; omega⟩
        · have q2' : (l[k]).id ≤ (l[m]).id := by omega
          have HR : Hid (allTo (ndB (l.map Nd.d)) l.length = false) := hide (allTo_false hlt (by rw [HNB.out, hrs, decide_eq_false q2]; simp))
          clear hrs hm hz
          go_wp2_with fail
          refine wp_region_later (wr.alloc (.cells #[.int .i64 (l[k]).id, .int .i64 (l[k]).has, .int .i64 (l[k]).spent, .int .i64 (l[k]).earned, .slice (l[k]).sa (l[k]).seen.length (l[k]).sc, .slice (l[k]).pa (l[k]).peers.length (l[k]).pc] 35)) (by kernel_rfl) (by kernel_rfl) ((Below.refl _ _).drew) ?_
          repeat (go_big_quiet_step (first | (go_at_call 43; exact later_of (implNodeOk_any _ _ _ _ _ (l[k]).seen _ _ (l[k]).peers _ _ HSm.out.1 HSm.out.2.1 HSm.out.2.2 (HA.out.seen.below (Later.below _)) (HA.out.peers.below (Later.below _))))))
          refine wpQuiet_nil ?_
          intro _ hw'
          obtain ⟨nx, rfl⟩ := hw'
          go_wp2
          go_ret
          exact ⟨by rw [HR.out]; rfl, below_trans (below_alloc HB _) nx.below⟩
    · have hk' : ¬ (k : Int) < (l.length : Int) := by omega
      have HR : Hid (allTo (ndB (l.map Nd.d)) l.length = true) := hide (by
        have hs := HS.out
        rw [show k = l.length by omega] at hs
        exact hs)
      go_wp2
      go_ret
      exact ⟨by rw [HR.out]; rfl, HB⟩
theorem wrap_id {n : Int} (h0 : -9223372036854775808 ≤ n) (h1 : n ≤ 9223372036854775807) : IntKind.i64.wrap n = n := by
  simp only [IntKind.wrap, IntKind.signed, IntKind.bits]; simp; omega
set_option maxHeartbeats 8000000 in
theorem flightOk_any (a : Option Addr) (cap : Nat) (E : En) (m : Mg) (w : World) (hE : endB E = true) (h : RowAt 2 prcCells w a E.out) :
    Calls Try.prog 45 #[.agg #[.slice a E.out.length cap, .int .i64 E.sent, .int .i64 E.got], .agg #[.int .i64 m.fr, .int .i64 m.to, .int .i64 m.kind, .int .i64 m.seq, .int .i64 m.amt]] w fun e w' => e = .returned (.bool (flyB E m)) ∧ Below w.heap.size w w' := by
  have HC : Hid _ := hide h
  have HE : Hid _ := hide hE
  obtain ⟨h8, ⟨hs0, hs1⟩, ⟨hg0, hg1⟩, hpr⟩ := endB_parts hE
  have HP : Hid _ := hide hpr
  clear h hE hpr
  have HB2 : Hid (Below w.heap.size w ((w.alloc (.cells #[.slice a E.out.length cap, .int .i64 E.sent, .int .i64 E.got] 48)).alloc (.cells #[.int .i64 m.fr, .int .i64 m.to, .int .i64 m.kind, .int .i64 m.seq, .int .i64 m.amt] 76))) := hide (below_alloc (below_alloc (Below.refl _ _) _) _)
  cases q1 : (m.kind == 2)
  · cases q2 : (m.kind == 1)
    · have HR : Hid (flyB E m = false) := hide (by simp only [flyB, q1, q2]; rfl)
      go_enter Try.func45, Try.ntmps45
      go_wp2
      go_ret
      exact ⟨by rw [HR.out]; rfl, HB2.out⟩
    · cases q3 : inB 1 E.sent m.seq
      · have HR : Hid (flyB E m = false) := hide (by simp only [flyB, q1, q2, q3]; rfl)
        go_enter Try.func45, Try.ntmps45
        go_wp2_with (first | (go_at_call 24; refine (within_any _ _ _ _).mono ?_; rintro e w' ⟨rfl, hw'⟩; have hw'' := hw'.symm; subst hw''))
        go_ret
        exact ⟨by rw [HR.out]; rfl, HB2.out⟩
      · cases q4 : inB 1 1000000000000 m.amt
        · have HR : Hid (flyB E m = false) := hide (by simp only [flyB, q1, q2, q3, q4]; rfl)
          go_enter Try.func45, Try.ntmps45
          go_wp2_with (first | (go_at_call 24; refine (within_any _ _ _ _).mono ?_; rintro e w' ⟨rfl, hw'⟩; have hw'' := hw'.symm; subst hw''))
          go_ret
          exact ⟨by rw [HR.out]; rfl, HB2.out⟩
        · have HN : Hid (flyB E m = (decide (m.seq ≤ E.sent - (E.out.length : Int)) || ((E.out[(m.seq - (E.sent - (E.out.length : Int)) - 1).toNat]?).elim false fun p => m.amt == p.amt))) := hide (by simp only [flyB, q1, q2, q3, q4]; rfl)
          have hq3 : 1 ≤ m.seq ∧ m.seq ≤ E.sent := by simpa only [inB, decide_eq_true_eq] using q3
          have KE : Hid (Blk w.heap.size [.slice a E.out.length cap, .int .i64 E.sent, .int .i64 E.got] ((w.alloc (.cells #[.slice a E.out.length cap, .int .i64 E.sent, .int .i64 E.got] 48)).alloc (.cells #[.int .i64 m.fr, .int .i64 m.to, .int .i64 m.kind, .int .i64 m.seq, .int .i64 m.amt] 76))) := hide (Blk.new.alloc _)
          have KM : Hid (Blk (w.heap.size + 1) [.int .i64 m.fr, .int .i64 m.to, .int .i64 m.kind, .int .i64 m.seq, .int .i64 m.amt] ((w.alloc (.cells #[.slice a E.out.length cap, .int .i64 E.sent, .int .i64 E.got] 48)).alloc (.cells #[.int .i64 m.fr, .int .i64 m.to, .int .i64 m.kind, .int .i64 m.seq, .int .i64 m.amt] 76))) := hide (by have e : (w.alloc (.cells #[.slice a E.out.length cap, .int .i64 E.sent, .int .i64 E.got] 48)).heap.size = w.heap.size + 1 := (by simp); rw [← e]; exact Blk.new)
          go_enter Try.func45, Try.ntmps45
          go_wp2_with (first | (go_at_call 24; refine (within_any _ _ _ _).mono ?_; rintro e w' ⟨rfl, hw'⟩; have hw'' := hw'.symm; subst hw'') | fail)
          refine (aheadOfOut_any (.bool true) _ _ _ _ _ _ h8 (And.intro hs0 hs1)).mono ?_
          rintro e w1 ⟨rfl, hb1⟩
          have HB1 : Hid _ := hide (below_trans HB2.out hb1)
          have x0 := (KE.out.below hb1).c 0 _ rfl
          have m3 := (KM.out.below hb1).c 3 _ rfl
          have m4 := (KM.out.below hb1).c 4 _ rfl
          clear hb1
          obtain ⟨A, hA⟩ : ∃ A, A = E.sent - (E.out.length : Int) := ⟨_, rfl⟩
          rw [← hA] at HN ⊢
          have HA : Hid _ := hide hA
          have hA0 : -8 ≤ A ∧ A ≤ 1000000000 := by omega
          have hA1 : E.sent = A + (E.out.length : Int) := by omega
          have HA1 : Hid _ := hide hA1
          clear hA hA1
          by_cases q5 : m.seq ≤ A
          · have HR : Hid (flyB E m = true) := hide (by rw [HN.out, decide_eq_true q5]; rfl)
            go_wp2_with fail
            go_quiet (fail)
            go_wp2
            go_ret
            exact ⟨by rw [HR.out]; rfl, below_drewN HB1.out _⟩
          · have q5' : decide (m.seq ≤ A) = false := decide_eq_false q5
            obtain ⟨j, hj⟩ : ∃ j : Nat, m.seq - A - 1 = (j : Int) := ⟨(m.seq - A - 1).toNat, by omega⟩
            have hjl : j < E.out.length := by have := HA1.out; omega
            have hjl' : (j : Int) < (E.out.length : Int) := by omega
            obtain ⟨b, off, rfl, hb, d0, d1⟩ := prc_row (HC.out.below HB1.out) j hjl
            have hw1 : IntKind.i64.wrap (m.seq - A) = m.seq - A := wrap_id (by omega) (by omega)
            have hw2 : IntKind.i64.wrap (m.seq - A - 1) = (j : Int) := by rw [hj]; exact wrap_id (by omega) (by omega)
            have HR : Hid (flyB E m = (m.amt == (E.out[j]).amt)) := hide (by rw [HN.out, q5', hj, Int.toNat_natCast, List.getElem?_eq_getElem hjl]; rfl)
            cases q6 : (m.amt == (E.out[j]).amt)
            · rw [q6] at HR
              go_wp2_with fail
              go_quiet (fail)
              go_wp2
              go_ret
              exact ⟨by rw [HR.out]; rfl, below_drewN HB1.out _⟩
            · rw [q6] at HR
              go_wp2_with fail
              go_quiet (fail)
              go_wp2
              go_ret
              exact ⟨by rw [HR.out]; rfl, below_drewN HB1.out _⟩
  · cases q2 : (m.amt == 0)
    · have HR : Hid (flyB E m = false) := hide (by simp only [flyB, q1, q2]; rfl)
      go_enter Try.func45, Try.ntmps45
      go_wp2_with (first | (go_at_call 24; refine (within_any _ _ _ _).mono ?_; rintro e w' ⟨rfl, hw'⟩; have hw'' := hw'.symm; subst hw''))
      go_ret
      exact ⟨by rw [HR.out]; rfl, HB2.out⟩
    · have HR : Hid (flyB E m = inB 0 E.got m.seq) := hide (by simp only [flyB, q1, q2]; rfl)
      go_enter Try.func45, Try.ntmps45
      go_wp2_with (first | (go_at_call 24; refine (within_any _ _ _ _).mono ?_; rintro e w' ⟨rfl, hw'⟩; have hw'' := hw'.symm; subst hw''))
      go_ret
      exact ⟨by rw [HR.out]; rfl, HB2.out⟩
end Go.Proofs.Ytilacamcedjbmaa
