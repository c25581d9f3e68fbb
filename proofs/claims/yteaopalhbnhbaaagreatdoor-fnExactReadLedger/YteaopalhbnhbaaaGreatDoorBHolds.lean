/- The contract of the book's holdsOk. -/
import Derived.Test.YteaopalhbnhbaaaGreatDoorBPair2
namespace Go.Proofs.YteaopalhbnhbaaaGreatDoor
open Go.ChangeShapes Go.WideShapes Go.ChangeAt Go.RowKit Go.Maps
set_option linter.unusedVariables false
set_option maxRecDepth 100000
/-- two accounts that are there, of one currency -/
def pairI (L : Led) (fr tn : ByteArray) : Bool := match idxA L.acc fr, idxA L.acc tn with
  | some i, some j => (match L.acc[i]?, L.acc[j]? with
    | some p, some q => sameB p.cur q.cur
    | _, _ => false)
  | _, _ => false
theorem idxA_of {l : List Acc} (hd : Apart l) {i : Nat} (hi : i < l.length) : idxA l l[i].name = some i := idxA_some hi rfl (fun j hj => hd j i (by omega) hi hj)
theorem pairI_at {L : Led} (hd : Apart L.acc) {i j : Nat} (hi : i < L.acc.length) (hj : j < L.acc.length) {fr tn : ByteArray} (h1 : L.acc[i].name = fr) (h2 : L.acc[j].name = tn) : pairI L fr tn = sameB L.acc[i].cur L.acc[j].cur := by
  subst h1 h2
  simp [pairI, idxA_of hd hi, idxA_of hd hj, List.getElem?_eq_getElem hi, List.getElem?_eq_getElem hj]
theorem pairI_no {L : Led} {fr tn : ByteArray} (h : (∀ i (hi : i < L.acc.length), L.acc[i].name ≠ fr) ∨ ∀ i (hi : i < L.acc.length), L.acc[i].name ≠ tn) : pairI L fr tn = false := by
  rcases h with h | h
  · simp [pairI, idxA_none h]
  · unfold pairI; rw [idxA_none h]; cases idxA L.acc fr <;> rfl
theorem pairEnd_yes {L : Led} {fr tn : ByteArray} {g : Value} {w : World} {e : Ending} {w' : World} (hd : Apart L.acc) (h : PairEnd L fr tn g w e w') (hy : pairI L fr tn = true) :
    ∃ p r, e = .returned (.tuple #[.pointer (some ⟨p, 0, none⟩), .pointer (some ⟨r, 0, none⟩), .nilIface]) ∧ Below w.heap.size w w' := by
  obtain ⟨hb, ⟨i, j, hi, hj, p, r, _, _, _, _, _, he⟩ | ⟨hn, _⟩ | ⟨i, j, hi, hj, h1, h2, h3, _⟩⟩ := h
  · exact ⟨p, r, he, hb⟩
  · rw [pairI_no hn] at hy; cases hy
  · rw [pairI_at hd hi hj h1 h2] at hy; exact absurd (sameB_iff.1 hy) h3
theorem pairEnd_non {L : Led} {fr tn : ByteArray} {g : Value} {w : World} {e : Ending} {w' : World} (hd : Apart L.acc) (h : PairEnd L fr tn g w e w') (hy : pairI L fr tn = false) :
    ∃ n, e = .returned (.tuple #[.pointer none, .pointer none, .iface 139 (.pointer (some ⟨n, 0, none⟩))]) ∧ Below w.heap.size w w' := by
  obtain ⟨hb, ⟨i, j, hi, hj, p, r, h1, h2, h3, _, _, he⟩ | ⟨hn, n, _, _, _, _, he⟩ | ⟨i, j, hi, hj, h1, h2, h3, n, _, _, _, _, he⟩⟩ := h
  · rw [pairI_at hd hi hj h1 h2, sameB_iff.2 h3] at hy; cases hy
  · exact ⟨n, he, hb⟩
  · exact ⟨n, he, hb⟩
/-- what the program asks of a hold -/
def hldI (L : Led) (k : Nat) : Bool := match L.hold[k]? with
  | none => true
  | some x => risesB (L.hold.map Hld.id) k && inB 1 1000000000 x.id && inB 1 1000000000000 x.amount && !sameB x.fr x.to && pairI L x.fr x.to
theorem hldI_at {L : Led} {k : Nat} (h : k < L.hold.length) : hldI L k = (risesB (L.hold.map Hld.id) k && inB 1 1000000000 (L.hold[k]).id && inB 1 1000000000000 (L.hold[k]).amount && !sameB (L.hold[k]).fr (L.hold[k]).to && pairI L (L.hold[k]).fr (L.hold[k]).to) := by
  simp [hldI, List.getElem?_eq_getElem h]
set_option maxHeartbeats 8000000 in
theorem holdsOk_any (q : Nat) (L : Led) (t : TypeId) (v : Value) (w : World) (hl : L.hold.length ≤ 10) (hd : Apart L.acc) (hB : BookAt w q L) (hg : w.cell? ⟨1, 0, none⟩ = some (.iface t v)) :
    Calls Tryz.prog 31 #[.pointer (some ⟨q, 0, none⟩)] w fun e w' => e = .returned (.bool (allTo (hldI L) L.hold.length)) ∧ Below w.heap.size w w' := by
  have HBk : Hid _ := hide hB
  have HG : Hid _ := hide hg
  have HD : Hid _ := hide hd
  obtain ⟨hq, m, h, s, ch, cs, c0, c1, c2, hh, ha, hm⟩ := hB
  have HL : Hid _ := hide hh
  clear hh ha hm c0 c2 hg hd
  go_enter Tryz.func31, Tryz.ntmps31
  go_wp2
  go_loopw [13] (fun i wr => ∃ k : Nat, k ≤ L.hold.length ∧ i = .int .i64 (k : Int) ∧ Below w.heap.size w wr ∧ Hid (allTo (hldI L) k = true)) (fun i wr => L.hold.length - (intOf i).toNat)
  case atStart => exact ⟨0, Nat.zero_le _, rfl, Below.refl _ _, hide rfl⟩
  case round =>
    obtain ⟨k, hk, rfl, HB, HS⟩ := hrel
    by_cases hlt : k < L.hold.length
    · obtain ⟨b, off, rfl, hb, d0, d1, d2, d3, s1, s2, _, _⟩ := (HL.out.below HB) k hlt
      have hlt' : (k : Int) < (L.hold.length : Int) := by omega
      have hqr : q < wr.heap.size := by have := HB.size; omega
      have c1' : wr.cell? ⟨q, 1, none⟩ = some (.slice (some ⟨b, off, none⟩) L.hold.length ch) := (HB.cell hq).trans c1
      by_cases hz : k = 0
      · have hri : Hid (risesB (L.hold.map Hld.id) k = true) := hide (by rw [hz]; rfl)
        have hz' : decide ((0 : Int) < (k : Int)) = false := by simp; omega
        have hz'' : decide (0 < k) = false := by simp; omega
        clear hz
        cases q1 : inB 1 1000000000 (L.hold[k]).id
        · have HR : Hid (allTo (hldI L) L.hold.length = false) := hide (by rw [allTo_false hlt (by rw [hldI_at hlt, hri.out, q1]; simp)])
          go_wp2_with (fail)
          go_quiet (fail)
          go_wp2_with (first | (go_at_call 71; refine (numberOk_any _ _).mono ?_; rintro e w' ⟨rfl, rfl⟩) | (go_at_call 70; refine (within_any _ _ _ _).mono ?_; rintro e w' ⟨rfl, rfl⟩))
          go_ret
          exact ⟨by rw [HR.out]; rfl, below_drewN (below_alloc HB _) _⟩
        ·
          cases q2 : inB 1 1000000000000 (L.hold[k]).amount
          · have HR : Hid (allTo (hldI L) L.hold.length = false) := hide (by rw [allTo_false hlt (by rw [hldI_at hlt, hri.out, q1, q2]; simp)])
            go_wp2_with (fail)
            go_quiet (fail)
            go_wp2_with (first | (go_at_call 71; refine (numberOk_any _ _).mono ?_; rintro e w' ⟨rfl, rfl⟩) | (go_at_call 70; refine (within_any _ _ _ _).mono ?_; rintro e w' ⟨rfl, rfl⟩))
            go_ret
            exact ⟨by rw [HR.out]; rfl, below_drewN (below_alloc HB _) _⟩
          ·
            cases q4 : ((L.hold[k]).fr.toList == (L.hold[k]).to.toList)
            ·
              cases q5 : pairI L (L.hold[k]).fr (L.hold[k]).to
              · have HR : Hid (allTo (hldI L) L.hold.length = false) := hide (by rw [allTo_false hlt (by rw [hldI_at hlt, q5]; simp)])
                go_wp2_with (fail)
                go_quiet (fail)
                go_wp2_with (first | (go_at_call 71; refine (numberOk_any _ _).mono ?_; rintro e w' ⟨rfl, rfl⟩) | (go_at_call 70; refine (within_any _ _ _ _).mono ?_; rintro e w' ⟨rfl, rfl⟩) | (go_at_call 74; refine (pair_any q L _ _ t v _ s1 s2 (HBk.out.below (below_drewN (below_alloc HB _) _)) (below_keeps (below_drewN (below_alloc HB _) _) _ _ HG.out)).mono ?_; intro e w1 hpe; obtain ⟨nn, rfl, hbn⟩ := pairEnd_non HD.out hpe q5; have HBn : Hid _ := hide (below_trans (below_drewN (below_alloc HB _) _) hbn); clear hbn; clear hpe))
                go_ret
                exact ⟨by rw [HR.out]; rfl, HBn.out⟩
              · have HS2 : Hid (allTo (hldI L) (k + 1) = true) := hide (allTo_step HS.out (by rw [hldI_at hlt, hri.out, q1, q2, q5]; unfold sameB; rw [q4]; rfl))
                go_wp2_with (fail)
                go_quiet (fail)
                go_wp2_with (first | (go_at_call 71; refine (numberOk_any _ _).mono ?_; rintro e w' ⟨rfl, rfl⟩) | (go_at_call 70; refine (within_any _ _ _ _).mono ?_; rintro e w' ⟨rfl, rfl⟩) | (go_at_call 74; refine (pair_any q L _ _ t v _ s1 s2 (HBk.out.below (below_drewN (below_alloc HB _) _)) (below_keeps (below_drewN (below_alloc HB _) _) _ _ HG.out)).mono ?_; intro e w1 hpe; obtain ⟨p, r, rfl, hbn⟩ := pairEnd_yes HD.out hpe q5; have HBn : Hid _ := hide (below_trans (below_drewN (below_alloc HB _) _) hbn); clear hbn; clear hpe))
                exact ⟨⟨_, by omega, by go_num, HBn.out, HS2⟩, by simp [intOf]; omega⟩
            · have HR : Hid (allTo (hldI L) L.hold.length = false) := hide (by rw [allTo_false hlt (by rw [hldI_at hlt]; unfold sameB; rw [q4]; simp)])
              go_wp2_with (fail)
              go_quiet (fail)
              go_wp2_with (first | (go_at_call 71; refine (numberOk_any _ _).mono ?_; rintro e w' ⟨rfl, rfl⟩) | (go_at_call 70; refine (within_any _ _ _ _).mono ?_; rintro e w' ⟨rfl, rfl⟩))
              go_ret
              exact ⟨by rw [HR.out]; rfl, below_drewN (below_alloc HB _) _⟩
      · obtain ⟨n, hm⟩ : ∃ n, k = n + 1 := ⟨k - 1, by omega⟩
        have hm3 : n < L.hold.length := by omega
        obtain ⟨b', off', heq, _, p0, _, _, _, _⟩ := (HL.out.below HB) n hm3
        simp only [Option.some.injEq, Addr.mk.injEq, and_true] at heq
        obtain ⟨rfl, rfl⟩ := heq
        have hz' : (0 : Int) < (k : Int) := by omega
        have hm1 : IntKind.i64.wrap ((k : Int) - 1) = (n : Int) := by rw [show (k : Int) - 1 = (n : Int) by omega]; simp only [IntKind.wrap, IntKind.signed, IntKind.bits]; simp; omega
        have hm2 : (n : Int) < (L.hold.length : Int) := by omega
        have hz'' : 0 < k := by omega
        have hrs : risesB (L.hold.map Hld.id) k = decide ((L.hold[n]).id < (L.hold[k]).id) := by subst hm; exact rises_hold hlt
        by_cases q0 : (L.hold[n]).id < (L.hold[k]).id
        · have hri : Hid (risesB (L.hold.map Hld.id) k = true) := hide (by rw [hrs]; simpa using q0)
          have q0' : decide ((L.hold[k]).id ≤ (L.hold[n]).id) = false := by simp; omega
          clear hrs hm hz
          cases q1 : inB 1 1000000000 (L.hold[k]).id
          · have HR : Hid (allTo (hldI L) L.hold.length = false) := hide (by rw [allTo_false hlt (by rw [hldI_at hlt, hri.out, q1]; simp)])
            go_wp2_with (fail)
            go_quiet (fail)
            go_wp2_with (first | (go_at_call 71; refine (numberOk_any _ _).mono ?_; rintro e w' ⟨rfl, rfl⟩) | (go_at_call 70; refine (within_any _ _ _ _).mono ?_; rintro e w' ⟨rfl, rfl⟩))
            go_ret
            exact ⟨by rw [HR.out]; rfl, below_drewN (below_alloc HB _) _⟩
          ·
            cases q2 : inB 1 1000000000000 (L.hold[k]).amount
            · have HR : Hid (allTo (hldI L) L.hold.length = false) := hide (by rw [allTo_false hlt (by rw [hldI_at hlt, hri.out, q1, q2]; simp)])
              go_wp2_with (fail)
              go_quiet (fail)
              go_wp2_with (first | (go_at_call 71; refine (numberOk_any _ _).mono ?_; rintro e w' ⟨rfl, rfl⟩) | (go_at_call 70; refine (within_any _ _ _ _).mono ?_; rintro e w' ⟨rfl, rfl⟩))
              go_ret
              exact ⟨by rw [HR.out]; rfl, below_drewN (below_alloc HB _) _⟩
            ·
              cases q4 : ((L.hold[k]).fr.toList == (L.hold[k]).to.toList)
              ·
                cases q5 : pairI L (L.hold[k]).fr (L.hold[k]).to
                · have HR : Hid (allTo (hldI L) L.hold.length = false) := hide (by rw [allTo_false hlt (by rw [hldI_at hlt, q5]; simp)])
                  go_wp2_with (fail)
                  go_quiet (fail)
                  go_wp2_with (first | (go_at_call 71; refine (numberOk_any _ _).mono ?_; rintro e w' ⟨rfl, rfl⟩) | (go_at_call 70; refine (within_any _ _ _ _).mono ?_; rintro e w' ⟨rfl, rfl⟩) | (go_at_call 74; refine (pair_any q L _ _ t v _ s1 s2 (HBk.out.below (below_drewN (below_alloc HB _) _)) (below_keeps (below_drewN (below_alloc HB _) _) _ _ HG.out)).mono ?_; intro e w1 hpe; obtain ⟨nn, rfl, hbn⟩ := pairEnd_non HD.out hpe q5; have HBn : Hid _ := hide (below_trans (below_drewN (below_alloc HB _) _) hbn); clear hbn; clear hpe))
                  go_ret
                  exact ⟨by rw [HR.out]; rfl, HBn.out⟩
                · have HS2 : Hid (allTo (hldI L) (k + 1) = true) := hide (allTo_step HS.out (by rw [hldI_at hlt, hri.out, q1, q2, q5]; unfold sameB; rw [q4]; rfl))
                  go_wp2_with (fail)
                  go_quiet (fail)
                  go_wp2_with (first | (go_at_call 71; refine (numberOk_any _ _).mono ?_; rintro e w' ⟨rfl, rfl⟩) | (go_at_call 70; refine (within_any _ _ _ _).mono ?_; rintro e w' ⟨rfl, rfl⟩) | (go_at_call 74; refine (pair_any q L _ _ t v _ s1 s2 (HBk.out.below (below_drewN (below_alloc HB _) _)) (below_keeps (below_drewN (below_alloc HB _) _) _ _ HG.out)).mono ?_; intro e w1 hpe; obtain ⟨p, r, rfl, hbn⟩ := pairEnd_yes HD.out hpe q5; have HBn : Hid _ := hide (below_trans (below_drewN (below_alloc HB _) _) hbn); clear hbn; clear hpe))
                  exact ⟨⟨_, by omega, by go_num, HBn.out, HS2⟩, by simp [intOf]; omega⟩
              · have HR : Hid (allTo (hldI L) L.hold.length = false) := hide (by rw [allTo_false hlt (by rw [hldI_at hlt]; unfold sameB; rw [q4]; simp)])
                go_wp2_with (fail)
                go_quiet (fail)
                go_wp2_with (first | (go_at_call 71; refine (numberOk_any _ _).mono ?_; rintro e w' ⟨rfl, rfl⟩) | (go_at_call 70; refine (within_any _ _ _ _).mono ?_; rintro e w' ⟨rfl, rfl⟩))
                go_ret
                exact ⟨by rw [HR.out]; rfl, below_drewN (below_alloc HB _) _⟩
        · have q0' : (L.hold[k]).id ≤ (L.hold[n]).id := by omega
          have HR : Hid (allTo (hldI L) L.hold.length = false) := hide (by rw [allTo_false hlt (by rw [hldI_at hlt, hrs, decide_eq_false q0]; simp)])
          clear hrs hm hz
          go_wp2_with (fail)
          go_quiet (fail)
          go_wp2_with (first | (go_at_call 71; refine (numberOk_any _ _).mono ?_; rintro e w' ⟨rfl, rfl⟩) | (go_at_call 70; refine (within_any _ _ _ _).mono ?_; rintro e w' ⟨rfl, rfl⟩))
          go_ret
          exact ⟨by rw [HR.out]; rfl, below_drewN (below_alloc HB _) _⟩
    · have hk' : ¬ (k : Int) < (L.hold.length : Int) := by omega
      have HR : Hid (allTo (hldI L) L.hold.length = true) := hide (by
        have hs := HS.out
        rw [show k = L.hold.length by omega] at hs
        exact hs)
      go_wp2
      go_ret
      exact ⟨by rw [HR.out]; rfl, HB⟩
end Go.Proofs.YteaopalhbnhbaaaGreatDoor
