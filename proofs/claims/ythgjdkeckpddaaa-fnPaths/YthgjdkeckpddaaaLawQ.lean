/- The walk of the law FnPaths. -/
import Derived.Test.YthgjdkeckpddaaaDrp
import Derived.Test.YthgjdkeckpddaaaPaM
import Derived.Test.YthgjdkeckpddaaaIPath2
namespace Go.Proofs.Ythgjdkeckpddaaa
open Go.ChangeShapes Go.WideShapes Go.ChangeAt Go.RowKit
set_option linter.unusedVariables false
theorem big_any (a : Option Addr) (len cap : Nat) (w : World) : Calls Try.prog 4 #[.slice a len cap] w fun e w' => e = .returned (.bool (decide (1048576 < (len : Int)))) ∧ w' = w := by
  go_enter Try.func4, Try.ntmps4
  go_wp2
  go_ret
  exact ⟨rfl, rfl⟩
theorem wrapI (x : Int) (h0 : -9223372036854775808 ≤ x) (h1 : x ≤ 9223372036854775807) : IntKind.i64.wrap x = x := by
  simp only [IntKind.wrap, IntKind.signed, IntKind.bits]; simp; omega
theorem path_len (l : List Slt) (p q : Int) (hp : p ≤ 7) (hq : q ≤ 7) : (pathL l p q).length ≤ 100 := by
  unfold pathL
  split
  · unfold wayL
    have := wayF_len l (p.toNat + q.toNat) p q
    omega
  · simp
theorem path_rev (l : List Slt) (p q : Int) : pathL l q p = (pathL l p q).reverse := by
  unfold pathL
  by_cases h : rightsB l = true ∧ 0 ≤ posL l p ∧ 0 ≤ posL l q
  · rw [if_pos h, if_pos ⟨h.1, h.2.2, h.2.1⟩]
    unfold wayL
    rw [way_rev h.1 _ p q (InL.of h.2.1) (InL.of h.2.2) (Nat.le_refl _), Nat.add_comm]
  · rw [if_neg h, if_neg (fun k => h ⟨k.1, k.2.2, k.2.1⟩)]; rfl
theorem path_ok (l : List Slt) (p q : Int) (h : pathL l p q ≠ []) : WayOk l p q (pathL l p q) := by
  unfold pathL at h ⊢
  by_cases k : rightsB l = true ∧ 0 ≤ posL l p ∧ 0 ≤ posL l q
  · rw [if_pos k] at h ⊢
    exact way_ok k.1 _ p q (InL.of k.2.1) (InL.of k.2.2) (Nat.le_refl _)
  · rw [if_neg k] at h
    exact absurd rfl h
/-- the slot that makes a step near -/
theorem near_at {l : List Slt} {x y : Int} (h : Near l x y) : ∃ j, ∃ hj : j < l.length, (l[j].id = y ∧ l[j].up = x) ∨ (l[j].id = x ∧ l[j].up = y) := by
  rcases h with ⟨⟨i, hi, hp, he⟩, hu⟩ | ⟨⟨i, hi, hp, he⟩, hu⟩
  · exact ⟨i, hi, .inr ⟨he, by rw [← upL_at hi hp]; exact hu⟩⟩
  · exact ⟨i, hi, .inl ⟨he, by rw [← upL_at hi hp]; exact hu⟩⟩
theorem rev_at' {M : List Int} {k : Nat} (hk : k < M.length) (h : M.length - 1 - k < M.reverse.length) : M.reverse[M.length - 1 - k] = M[k] := by
  rw [List.getElem_reverse]
  congr 1
  omega
set_option maxRecDepth 100000 in
set_option maxHeartbeats 6000000 in
theorem walkPaths (a : Option Addr) (len cap : Nat) (w : World) (h : IsCode w a len) :
    Calls Try.prog 3 #[.slice a len cap] w fun e w' => YesEnd w e w' := by
  have HC : Hid _ := hide h
  clear h
  by_cases hbig : 1048576 < (len : Int)
  · have hd : decide (1048576 < (len : Int)) = true := by simp; omega
    go_enter Try.func3, Try.ntmps3
    go_wp2_with fail
    refine (big_any _ _ _ _).mono ?_
    rintro e w1 ⟨rfl, hw1⟩
    have hw1' := hw1.symm
    subst hw1'
    go_wp2
    go_ret
    exact ⟨rfl, Below.refl _ _⟩
  · have hd : decide (1048576 < (len : Int)) = false := by simp; omega
    go_enter Try.func3, Try.ntmps3
    go_wp2_with fail
    refine (big_any _ _ _ _).mono ?_
    rintro e w1 ⟨rfl, hw1⟩
    have hw1' := hw1.symm
    subst hw1'
    go_wp2_with fail
    refine (drawPath_any a len cap w HC.out).mono ?_
    rintro e w2 ⟨l, g, gc, p, q, hl7, hgc, hp7, hq7, rfl, hs2, hb2⟩
    have HX2 : Hid _ := hide hb2
    have HS2 : Hid _ := hide hs2
    have HML : Hid ((pathL l p q).length ≤ 100) := hide (path_len l p q hp7.2 hq7.2)
    have HRV : Hid (pathL l q p = (pathL l p q).reverse) := hide (path_rev l p q)
    have HOK : Hid (pathL l p q ≠ [] → WayOk l p q (pathL l p q)) := hide (path_ok l p q)
    have HIM : Hid (∀ (x : World), SlotAt x (some ⟨g, 0, none⟩) l → Calls Try.prog 6 #[.slice (some ⟨g, 0, none⟩) l.length gc, .int .i64 p, .int .i64 q] x fun e w' => RowEnd (pathL l p q) x e w') := hide (fun x hx => implPathOf_any _ l _ p q x (by omega) hgc hx)
    have HIR : Hid (∀ (x : World), SlotAt x (some ⟨g, 0, none⟩) l → Calls Try.prog 6 #[.slice (some ⟨g, 0, none⟩) l.length gc, .int .i64 q, .int .i64 p] x fun e w' => RowEnd (pathL l p q).reverse x e w') := hide (fun x hx => by have := implPathOf_any (some ⟨g, 0, none⟩) l gc q p x (by omega) hgc hx; rwa [HRV.out] at this)
    have HSM : Hid (∀ (x : World), SlotAt x (some ⟨g, 0, none⟩) l → Calls Try.prog 8 #[.slice (some ⟨g, 0, none⟩) l.length gc, .int .i64 p, .int .i64 q] x fun e w' => RowEnd (pathL l p q) x e w') := hide (fun x hx => specPathOf_any _ l _ p q x (by omega) hgc hx)
    have hl7' : (l.length : Int) ≤ 7 := by omega
    clear hs2 hb2 HC HRV
    generalize pathL l p q = M at *
    go_wp2_with fail
    refine (HIM.out w2 HS2.out).mono ?_
    rintro e w3 ⟨hb3, v3, rfl, g3, a3, c3, hg3, rfl, ho3⟩
    have HX3 : Hid _ := hide (below_trans HX2.out hb3)
    have HS3 : Hid _ := hide (HS2.out.below hb3)
    have HP3 : Hid _ := hide ho3.rows
    clear hb3 hg3 ho3 HX2 HS2
    go_wp2_with fail
    refine (HIR.out w3 HS3.out).mono ?_
    rintro e w4 ⟨hb4, v4, rfl, g4, a4, c4, hg4, rfl, ho4⟩
    have HX4 : Hid _ := hide (below_trans HX3.out hb4)
    have HS4 : Hid _ := hide (HS3.out.below hb4)
    have HP4 : Hid _ := hide (HP3.out.below hb4)
    have HQ4 : Hid _ := hide ho4.rows
    clear hb4 hg4 ho4 HX3 HS3 HP3
    go_wp2_with fail
    refine (HSM.out w4 HS4.out).mono ?_
    rintro e w5 ⟨hb5, v5, rfl, g5, a5, c5, hg5, rfl, ho5⟩
    have HX5 : Hid _ := hide (below_trans HX4.out hb5)
    have HS5 : Hid _ := hide (HS4.out.below hb5)
    have HP5 : Hid _ := hide (HP4.out.below hb5)
    have HQ5 : Hid _ := hide (HQ4.out.below hb5)
    have HT5 : Hid _ := hide ho5.rows
    clear hb5 hg5 ho5 HX4 HS4 HP4 HQ4
    have hm100 := HML.out
    have hm100' : (M.length : Int) ≤ 100 := by omega
    have hrl : M.reverse.length = M.length := List.length_reverse
    have HRL : Hid _ := hide hrl
    clear hrl
    go_wp2_with fail
    refine (sameInts_any _ _ M _ _ w5 (by omega) HP5.out HT5.out).mono ?_
    rintro e w6 ⟨rfl, hb6⟩
    have HX6 : Hid _ := hide (below_trans HX5.out hb6)
    have HS6 : Hid _ := hide (HS5.out.below hb6)
    have HP6 : Hid _ := hide (HP5.out.below hb6)
    have HQ6 : Hid _ := hide (HQ5.out.below hb6)
    clear hb6 HX5 HS5 HP5 HQ5 HT5
    have hnn : ((M.length : Int) != (M.length : Int)) = false := by simp
    have hnn2 : ((M.length : Int) == (M.length : Int)) = true := by simp
    by_cases hM : M = []
    · subst hM
      go_wp2_with fail
      refine (HSM.out w6 HS6.out).mono ?_
      rintro e w7 ⟨hb7, v7, rfl, g7, a7, c7, hg7, rfl, ho7⟩
      have HX7 : Hid _ := hide (below_trans HX6.out hb7)
      have HP7 : Hid _ := hide (HP6.out.below hb7)
      have HT7 : Hid _ := hide ho7.rows
      clear hb7 hg7 ho7
      go_wp2_with fail
      refine (sameInts_any _ _ [] _ _ w7 (by simp) HP7.out HT7.out).mono ?_
      rintro e w8 ⟨rfl, hb8⟩
      have HX8 : Hid _ := hide (below_trans HX7.out hb8)
      clear hb8
      go_wp2
      go_ret
      exact ⟨rfl, HX8.out⟩
    · have HW : Hid _ := hide (HOK.out hM)
      have m0 : 0 < M.length := List.length_pos_iff.2 hM
      have m0' : (0 : Int) < (M.length : Int) := by omega
      have hz : ((M.length : Int) == 0) = false := by simp; exact hM
      have hz2 : (M.length == 0) = false := by simp; exact hM
      clear hM HIM HIR HSM HOK
      go_wp2
      go_loopw [8] (fun i wr => ∃ k : Nat, k ≤ M.length ∧ i = .int .i64 (k : Int) ∧ Hid (Below w6.heap.size w6 wr)) (fun i wr => M.length - (intOf i).toNat)
      case atStart => exact ⟨0, Nat.zero_le _, rfl, hide (Below.refl _ _)⟩
      case round =>
        obtain ⟨k, hk, rfl, HB⟩ := hrel
        by_cases hlt : k < M.length
        · have hlt' : (k : Int) < (M.length : Int) := by omega
          obtain ⟨b, off, rfl, hb, d0⟩ := int_row (HP6.out.below HB.out) k hlt
          have hj : M.length - 1 - k < M.reverse.length := by rw [HRL.out]; omega
          obtain ⟨b2, off2, rfl, hc, e0⟩ := int_row (HQ6.out.below HB.out) (M.length - 1 - k) hj
          rw [rev_at' hlt hj] at e0
          have hw1 : IntKind.i64.wrap ((M.length : Int) - 1) = (M.length : Int) - 1 := wrapI _ (by omega) (by omega)
          have hw2 : IntKind.i64.wrap ((M.length : Int) - 1 - (k : Int)) = ((M.length - 1 - k : Nat) : Int) := by rw [wrapI _ (by omega) (by omega)]; omega
          have hj2 : ((M.length - 1 - k : Nat) : Int) < (M.length : Int) := by omega
          have hq0 : (M[k] != M[k]) = false := by simp
          go_wp2_with fail
          go_quiet (fail)
          clear hw1 hw2 hj2 e0
          have HB1 : Hid _ := hide (below_drewN HB.out nq)
          generalize wr.drewN nq = wq at *
          go_wp2
          go_loopw [9] (fun i wr => ∃ c : Nat, c ≤ k ∧ i = .int .i64 (c : Int) ∧ Hid (Below w6.heap.size w6 wr)) (fun i wr => k - (intOf i).toNat)
          case atStart => exact ⟨0, Nat.zero_le _, rfl, HB1⟩
          case round =>
            rename World => wz
            clear HB HB1 d0
            obtain ⟨c, hck, rfl, HBz⟩ := hrel
            obtain ⟨bk, offk, heqk, _, dk⟩ := int_row (HP6.out.below HBz.out) k hlt
            simp only [Option.some.injEq, Addr.mk.injEq, and_true] at heqk
            obtain ⟨rfl, rfl⟩ := heqk
            by_cases hc2 : c < k
            · have hc2' : (c : Int) < (k : Int) := by omega
              have hcm : (c : Int) < (M.length : Int) := by omega
              obtain ⟨bc, offc, heqc, _, dc⟩ := int_row (HP6.out.below HBz.out) c (by omega)
              simp only [Option.some.injEq, Addr.mk.injEq, and_true] at heqc
              obtain ⟨rfl, rfl⟩ := heqc
              have hne : (M[c] == M[k]) = false := by
                simp only [beq_eq_false_iff_ne]
                exact List.pairwise_iff_getElem.1 HW.out.nodup c k (by omega) hlt hc2
              go_wp2_with fail
              go_quiet (fail)
              go_wp2
              exact ⟨⟨c + 1, by omega, by go_num, hide (below_drewN HBz.out _)⟩, by simp [intOf]; omega⟩
            · have hc2' : ¬ (c : Int) < (k : Int) := by omega
              by_cases hk0 : k = 0
              · have hkz : ((k : Int) == 0) = true := by simp; exact hk0
                go_wp2
                exact ⟨⟨k + 1, by omega, by go_num, HBz⟩, by simp [intOf]; omega⟩
              · have hkz : ((k : Int) == 0) = false := by simp; exact hk0
                have hkz2 : (k == 0) = false := by simp; exact hk0
                have HWT : Hid _ := hide (near_at (HW.out.near (k - 1) M[k - 1] M[k] (List.getElem?_eq_getElem (by omega)) (by rw [show k - 1 + 1 = k by omega]; exact List.getElem?_eq_getElem hlt)))
                go_wp2
                go_loopw [10, 11] (fun n i wr => ∃ (t : Nat) (nb : Bool), t ≤ l.length ∧ n = .bool nb ∧ i = .int .i64 (t : Int) ∧ Hid (∀ j (hj : j < l.length), j < t → ((l[j].id = M[k] ∧ l[j].up = M[k - 1]) ∨ (l[j].id = M[k - 1] ∧ l[j].up = M[k])) → nb = true) ∧ Hid (Below w6.heap.size w6 wr)) (fun n i wr => l.length - (intOf i).toNat)
                case atStart => exact ⟨0, false, Nat.zero_le _, rfl, rfl, hide (fun j _ hj => by omega), HBz⟩
                case round =>
                  rename World => wv
                  clear HBz dk
                  obtain ⟨t, nb, htl, rfl, rfl, HN, HBv⟩ := hrel
                  by_cases htl2 : t < l.length
                  · have htl2' : (t : Int) < (l.length : Int) := by omega
                    cases nb
                    · obtain ⟨bs, offs, heqs, _, s0, s1, s2, _⟩ := (HS6.out.below HBv.out) t htl2
                      simp only [Option.some.injEq, Addr.mk.injEq, and_true] at heqs
                      obtain ⟨rfl, rfl⟩ := heqs
                      simp only [Nat.zero_add] at s0 s1 s2
                      obtain ⟨bk, offk, heqk, _, dk⟩ := int_row (HP6.out.below HBv.out) k hlt
                      simp only [Option.some.injEq, Addr.mk.injEq, and_true] at heqk
                      obtain ⟨rfl, rfl⟩ := heqk
                      obtain ⟨bm, offm, heqm, _, dm⟩ := int_row (HP6.out.below HBv.out) (k - 1) (by omega)
                      simp only [Option.some.injEq, Addr.mk.injEq, and_true] at heqm
                      obtain ⟨rfl, rfl⟩ := heqm
                      have hw3 : IntKind.i64.wrap ((k : Int) - 1) = ((k - 1 : Nat) : Int) := by rw [wrapI _ (by omega) (by omega)]; omega
                      have hk1 : ((k - 1 : Nat) : Int) < (M.length : Int) := by omega
                      have HNX : Hid (∀ v : Bool, (((l[t].id = M[k] ∧ l[t].up = M[k - 1]) ∨ (l[t].id = M[k - 1] ∧ l[t].up = M[k])) → v = true) → ∀ j (hj : j < l.length), j < t + 1 → ((l[j].id = M[k] ∧ l[j].up = M[k - 1]) ∨ (l[j].id = M[k - 1] ∧ l[j].up = M[k])) → v = true) := hide (fun v hv j hj hjt hg => by
                        rcases Nat.lt_or_ge j t with h | h
                        · have := HN.out j hj h hg; cases this
                        · obtain rfl : j = t := by omega
                          exact hv hg)
                      clear HN HWT s2
                      generalize l[t].id = x0 at *
                      generalize l[t].up = x1 at *
                      generalize M[k] = y0 at *
                      generalize M[k - 1] = y1 at *
                      cases c1 : (x0 == y0) <;> cases c2 : (x1 == y1) <;> cases c3 : (x0 == y1) <;> cases c4 : (x1 == y0)
                      all_goals
                        go_wp2_with fail
                        go_quiet (fail)
                        go_wp2
                        refine ⟨⟨t + 1, _, by omega, rfl, by go_num, hide (HNX.out _ ?_), hide (below_drewN HBv.out _)⟩, by simp [intOf]; omega⟩
                        rintro (⟨e1, e2⟩ | ⟨e1, e2⟩)
                        · subst e1 e2; first | rfl | (exfalso; simp at c1 c2)
                        · subst e1 e2; first | rfl | (exfalso; simp at c3 c4)
                    · clear HN HWT
                      go_wp2_with fail
                      go_quiet (fail)
                      go_wp2
                      exact ⟨⟨t + 1, true, by omega, rfl, by go_num, hide (fun _ _ _ _ => rfl), hide (below_drewN HBv.out _)⟩, by simp [intOf]; omega⟩
                  · have htl2' : ¬ (t : Int) < (l.length : Int) := by omega
                    have hnb : nb = true := by
                      obtain ⟨j, hj, hg⟩ := HWT.out
                      exact HN.out j hj (by omega) hg
                    subst hnb
                    go_wp2
                    exact ⟨⟨k + 1, by omega, by go_num, HBv⟩, by simp [intOf]; omega⟩
        · have hlt' : ¬ (k : Int) < (M.length : Int) := by omega
          obtain ⟨b, off, rfl, hb, d0⟩ := int_row (HP6.out.below HB.out) 0 m0
          obtain ⟨b2, off2, heq2, _, d1⟩ := int_row (HP6.out.below HB.out) (M.length - 1) (by omega)
          simp only [Option.some.injEq, Addr.mk.injEq, and_true] at heq2
          obtain ⟨rfl, rfl⟩ := heq2
          have hw1 : ((M.length : Int) - 1) = ((M.length - 1 : Nat) : Int) := by omega
          have hf : M[0] = p := by
            have := HW.out.first
            rw [List.head?_eq_getElem?, List.getElem?_eq_getElem m0] at this
            simpa using this
          have hla : M[M.length - 1] = q := by
            have := HW.out.last
            rw [List.getLast?_eq_getElem?, List.getElem?_eq_getElem (show M.length - 1 < M.length by omega)] at this
            simpa using this
          rw [hf] at d0
          rw [hla] at d1
          rw [Nat.add_zero] at d0
          have HXE : Hid _ := hide (below_trans HX6.out HB.out)
          have zp : (p == p) = true := by simp
          have zq : (q == q) = true := by simp
          by_cases hpq : p = q
          · have l1 : M.length = 1 := HW.out.one.2 hpq
            have zl : ((M.length : Int) == 1) = true := by simp; omega
            have zl2 : (M.length == 1) = true := by simp; exact l1
            have ze : (p == q) = true := by simp; exact hpq
            go_wp2
            go_ret
            exact ⟨rfl, HXE.out⟩
          · have l1 : ¬ M.length = 1 := fun e => hpq (HW.out.one.1 e)
            have zl : ((M.length : Int) == 1) = false := by simp; omega
            have zl2 : (M.length == 1) = false := by simp; exact l1
            have ze : (p == q) = false := by simp; exact hpq
            go_wp2
            go_ret
            exact ⟨rfl, HXE.out⟩
end Go.Proofs.Ythgjdkeckpddaaa
