/- The contract of the model's Moved. -/
import Derived.Test.YtlpgpfpmjdolmaaIMov
namespace Go.Proofs.Ytlpgpfpmjdolmaa
open Go.ChangeShapes Go.WideShapes Go.ChangeAt Go.RowKit
set_option linter.unusedVariables false
theorem nb_ids {l : List Slt} {f t : Int} {i j : Nat} (hi : i < l.length) (hj : j < l.length) (hf : l[i].id = f) (ht : l[j].id = t) : nbB l[i] l[j] = !(l[i].up != t && l[j].up != f) := by
  subst hf ht
  simp only [nbB, bne]
  cases (l[i].up == l[j].id) <;> cases (l[j].up == l[i].id) <;> rfl
set_option maxRecDepth 100000 in
set_option maxHeartbeats 8000000 in
theorem l4Moved_any (a : Option Addr) (l : List Slt) (cap : Nat) (f t amt : Int) (w : World) (hl : l.length ≤ 1048576) (hcap : l.length ≤ cap) (q : rightsB l = true) (h : SlotAt w a l) :
    Calls Try.prog 22 #[.slice a l.length cap, .agg #[.int .i64 f, .int .i64 t, .int .i64 amt]] w fun e w' => RowFlag 3 sltCells (movL l f t amt) (movOk l f t amt) w e w' := by
  have HC : Hid _ := hide h
  have HQ : Hid _ := hide q
  have h8 : l.length ≤ 8 := (rightsB_small q).1
  clear h
  have HB0 : Hid _ := hide (below_alloc (Below.refl w.heap.size w) (.cells #[.int .i64 f, .int .i64 t, .int .i64 amt] 26))
  have hx := cell_new3 (Below.refl (w.alloc (.cells #[.int .i64 f, .int .i64 t, .int .i64 amt] 26)).heap.size _)
  go_enter Try.func22, Try.ntmps22
  go_wp2_with (first | (go_at_call 30; refine (l4Find_any _ l _ _ _ hl (HC.out.below HB0.out)).mono ?_; rintro e w' ⟨rfl, hw'⟩; have hw'' := hw'.symm; subst hw'') | fail)
  have HB2 : Hid (Below w.heap.size w (w.alloc (.cells #[.int .i64 f, .int .i64 t, .int .i64 amt] 26))) := HB0
  generalize w.alloc (.cells #[.int .i64 f, .int .i64 t, .int .i64 amt] 26) = w2 at *
  obtain ⟨z0, z1, z2⟩ := hx
  have HC2 : Hid _ := hide (HC.out.below HB2.out)
  clear HB0
  have hne : Nonempty (Later w2) := later_there _
  rcases posL_cases l f with ⟨i, hi, hp, hfi⟩ | ⟨hp, hn⟩
  · rcases posL_cases l t with ⟨j, hj, hp2, htj⟩ | ⟨hp2, hn2⟩
    · have HM : Hid _ := hide (movOk_at (amt := amt) q hi hj hp hp2)
      have HY : Hid _ := hide (fun h => movL_yes (l := l) (f := f) (t := t) (amt := amt) h hp hp2)
      have HNS : Hid _ := hide (nb_self q i hi)
      have HNB : Hid _ := hide (nb_ids hi hj hfi htj)
      rw [hp, hp2]
      have hi' : (i : Int) < (l.length : Int) := by omega
      have hj' : (j : Int) < (l.length : Int) := by omega
      have n1 : decide ((i : Int) < 0) = false := by simp
      have n2 : decide ((j : Int) < 0) = false := by simp
      obtain ⟨b, off, rfl, hb, c0, c1, c2, _⟩ := HC2.out i hi
      obtain ⟨b', off', heq, _, d0, d1, d2, _⟩ := HC2.out j hj
      simp only [Option.some.injEq, Addr.mk.injEq, and_true] at heq
      obtain ⟨rfl, rfl⟩ := heq
      have c0' := later_cell c0
      have c1' := later_cell c1
      have c2' := later_cell c2
      have d0' := later_cell d0
      have d1' := later_cell d1
      have d2' := later_cell d2
      have z0' := later_cell z0
      have z1' := later_cell z1
      have z2' := later_cell z2
      clear hp hp2 c0 c1 c2 d0 d1 d2 z0 z1 hfi htj q
      by_cases hij : i = j
      · have HR : Hid (movOk l f t amt = false) := hide (by subst hij; rw [HM.out, HNS.out]; rfl)
        have e1 : ((i : Int) == (j : Int)) = true := by simp [hij]
        have e2 : (i == j) = true := by simp [hij]
        clear hij
        go_wp2_with fail
        refine wp_region_later w2 (by kernel_rfl) (by kernel_rfl) ((Below.refl _ _).drew) ?_
        repeat (go_big_quiet_step (first | (go_at_call 29; exact later_same (l1In_any _ _ _ _))))
        refine wpQuiet_nil ?_
        intro _ hw'
        obtain ⟨ny, rfl⟩ := hw'
        go_wp2
        go_ret2
        rw [movL_no HR.out, HR.out]
        exact RowFlag.no (below_trans HB2.out ny.below)
      · have HIJ : Hid _ := hide hij
        have e1 : ((i : Int) == (j : Int)) = false := by simp; omega
        have e2 : (i == j) = false := by simp; omega
        clear hij
        cases q1 : (l[i].up != t)
        · have HQ1 : Hid (nbB l[i] l[j] = true) := hide (by rw [HNB.out, q1]; rfl)
          cases q2 : inB 1 (l[i]).has amt
          · have HR : Hid (movOk l f t amt = false) := hide (by rw [HM.out, HQ1.out, q2]; rfl)
            go_wp2_with fail
            refine wp_region_later w2 (by kernel_rfl) (by kernel_rfl) ((Below.refl _ _).drew) ?_
            repeat (go_big_quiet_step (first | (go_at_call 29; exact later_same (l1In_any _ _ _ _))))
            refine wpQuiet_nil ?_
            intro _ hw'
            obtain ⟨ny, rfl⟩ := hw'
            go_wp2
            go_ret2
            rw [movL_no HR.out, HR.out]
            exact RowFlag.no (below_trans HB2.out ny.below)
          · have HR : Hid (movOk l f t amt = true) := hide (by rw [HM.out, HQ1.out, q2]; rfl)
            have HQ2 : Hid _ := hide q2
            go_wp2_with fail
            refine wp_region_later w2 (by kernel_rfl) (by kernel_rfl) ((Below.refl _ _).drew) ?_
            repeat (go_big_quiet_step (first | (go_at_call 29; exact later_same (l1In_any _ _ _ _))))
            refine wpQuiet_nil ?_
            intro _ hw'
            obtain ⟨ny, rfl⟩ := hw'
            have HB3 : Hid _ := hide (below_trans HB2.out ny.below)
            have HC3 : Hid _ := hide (HC.out.below HB3.out)
            have v2 := z2' ny
            clear c0' c1' c2' d0' d1' d2' z0' z1' z2' z2 hne
            generalize ny.w = w3 at *
            obtain ⟨i0, hinfo, hz0, hz1, hz2⟩ := info_parts info51
            have u30 : Try.prog.underlying 24 = some (.slice 39) := by kernel_rfl
            have HN : Hid _ := hide (HC3.out.row.news sltLen (by decide))
            go_wp2_with (first | (at_builtin; refine Shut2.mk ?_) | fail)
            refine Shut2.mk' ?_
            refine wpList_append_own_at _ rfl _ _ 24 rfl w3.heap.size 39 i0 _ 3 24 u30 hinfo hz0 hz1 hz2 rfl (by decide) _ 0 [] rfl ?own ⟨b, off, none⟩ l.length cap (l.flatMap sltCells) rfl (flat_len sltCells 3 sltLen l) ?news (slt_one l) (by unfold maxLen; omega) (by omega) ?base ?_
            case own => exact World.ownsRow_made w3 #[] 0 (Nat.le_refl _) (by unfold maxLen; omega) rfl
            case news => exact fun j u hj => (World.grownBy_alloc w3 _ none).cell (HN.out j u hj) (by simp)
            case base => simp
            intro v' w4 hown' hgrow hnil hloc
            have hb4 : Below w3.heap.size w3 w4 := below_grown hgrow (below_alloc (Below.refl _ _) _) (fun j hj => by cases hj; exact Nat.le_refl _)
            rw [List.nil_append, Nat.zero_add] at hown'
            obtain ⟨g, ga, gcap, hg, rfl, ho4⟩ := own_of_row sltLen hown'
            clear hown' hgrow hnil hloc HN hinfo hz0 hz1 hz2
            have HB4 : Hid _ := hide (below_trans HB3.out hb4)
            have h0 : 0 < l.length := by omega
            obtain ⟨rfl, hfz⟩ := ho4.own h0
            have HO4 : Hid _ := hide ho4
            have x2 := below_keeps hb4 _ _ v2
            have hgw : w.heap.size < g := by have := cell_lt v2; simp at this; omega
            obtain ⟨bb, oo, heq, hbb, k0, k1, k2⟩ := slt_row ho4.rows i hi
            simp only [Option.some.injEq, Addr.mk.injEq, and_true] at heq
            obtain ⟨rfl, rfl⟩ := heq
            have hz := hfz (i * 3 + 2)
            rw [Nat.zero_add] at k2
            obtain ⟨s0, s1⟩ := (rightsB_small HQ.out).2 l[i] (List.getElem_mem hi)
            obtain ⟨t0, t1⟩ := (rightsB_small HQ.out).2 l[j] (List.getElem_mem hj)
            have qq : 1 ≤ amt ∧ amt ≤ (l[i]).has := by simpa only [inB, decide_eq_true_eq] using HQ2.out
            obtain ⟨u0, u1⟩ := qq
            have HO5 : Hid _ := hide (OwnRow.addHas (u := (l[i]).has - amt) ho4 hi (d := -amt) (by omega))
            clear k0 k1 ho4 hb4 v2 HB3 HC3 hfz q2
            go_wp2_with fail
            go_region
            obtain ⟨w5, hw5⟩ : ∃ w5, w5 = (w4.setCell ⟨g, i * 3 + 2, none⟩ (.int .i64 ((l[i]).has - amt))).drew := ⟨_, rfl⟩
            rw [← hw5]
            have ho6 : OwnRow 3 sltCells w5 g (some ⟨g, 0, none⟩) gcap (addHas l i (-amt)) := by rw [hw5]; exact HO5.out.below ((Below.refl _ _).drew)
            have HB5 : Hid (Below w.heap.size w w5) := hide (by rw [hw5]; exact (HB4.out.setCell (by show w.heap.size ≤ g; omega) _).drew)
            have x2' : w5.cell? ⟨w.heap.size, 2, none⟩ = some (.int .i64 amt) := by
              rw [hw5]
              exact (cell_set_other (.inl (by omega))).trans x2
            have hjl : j < (addHas l i (-amt)).length := by rw [addHas_len]; exact hj
            obtain ⟨bb, oo, heq, hbb5, k0, k1, k2'⟩ := slt_row ho6.rows j hjl
            simp only [Option.some.injEq, Addr.mk.injEq, and_true] at heq
            obtain ⟨rfl, rfl⟩ := heq
            have hz5 := (ho6.own (by rw [addHas_len]; exact h0)).2 (j * 3 + 2)
            rw [Nat.zero_add, addHas_get l i (-amt) j hjl hj, if_neg HIJ.out] at k2'
            have HO7 : Hid _ := hide (OwnRow.addHas (u := (l[j]).has + amt) ho6 hjl (d := amt) (by rw [addHas_get l i (-amt) j hjl hj, if_neg HIJ.out]))
            clear hw5 x2 k2 hz hbb HO5 HO4 HB4 ho6 k0 k1 hjl
            go_wp2_with fail
            go_region
            go_wp2
            go_ret2
            rw [HY.out HR.out, HR.out]
            exact ⟨(HB5.out.setCell (by show w.heap.size ≤ g; omega) _).drew, _, rfl, g, some ⟨g, 0, none⟩, gcap, by omega, by simp [addHas_len], HO7.out.below ((Below.refl _ _).drew)⟩
        · cases q3 : (l[j].up != f)
          · have HQ1 : Hid (nbB l[i] l[j] = true) := hide (by rw [HNB.out, q1, q3]; rfl)
            cases q2 : inB 1 (l[i]).has amt
            · have HR : Hid (movOk l f t amt = false) := hide (by rw [HM.out, HQ1.out, q2]; rfl)
              go_wp2_with fail
              refine wp_region_later w2 (by kernel_rfl) (by kernel_rfl) ((Below.refl _ _).drew) ?_
              repeat (go_big_quiet_step (first | (go_at_call 29; exact later_same (l1In_any _ _ _ _))))
              refine wpQuiet_nil ?_
              intro _ hw'
              obtain ⟨ny, rfl⟩ := hw'
              go_wp2
              go_ret2
              rw [movL_no HR.out, HR.out]
              exact RowFlag.no (below_trans HB2.out ny.below)
            · have HR : Hid (movOk l f t amt = true) := hide (by rw [HM.out, HQ1.out, q2]; rfl)
              have HQ2 : Hid _ := hide q2
              go_wp2_with fail
              refine wp_region_later w2 (by kernel_rfl) (by kernel_rfl) ((Below.refl _ _).drew) ?_
              repeat (go_big_quiet_step (first | (go_at_call 29; exact later_same (l1In_any _ _ _ _))))
              refine wpQuiet_nil ?_
              intro _ hw'
              obtain ⟨ny, rfl⟩ := hw'
              have HB3 : Hid _ := hide (below_trans HB2.out ny.below)
              have HC3 : Hid _ := hide (HC.out.below HB3.out)
              have v2 := z2' ny
              clear c0' c1' c2' d0' d1' d2' z0' z1' z2' z2 hne
              generalize ny.w = w3 at *
              obtain ⟨i0, hinfo, hz0, hz1, hz2⟩ := info_parts info51
              have u30 : Try.prog.underlying 24 = some (.slice 39) := by kernel_rfl
              have HN : Hid _ := hide (HC3.out.row.news sltLen (by decide))
              go_wp2_with (first | (at_builtin; refine Shut2.mk ?_) | fail)
              refine Shut2.mk' ?_
              refine wpList_append_own_at _ rfl _ _ 24 rfl w3.heap.size 39 i0 _ 3 24 u30 hinfo hz0 hz1 hz2 rfl (by decide) _ 0 [] rfl ?own ⟨b, off, none⟩ l.length cap (l.flatMap sltCells) rfl (flat_len sltCells 3 sltLen l) ?news (slt_one l) (by unfold maxLen; omega) (by omega) ?base ?_
              case own => exact World.ownsRow_made w3 #[] 0 (Nat.le_refl _) (by unfold maxLen; omega) rfl
              case news => exact fun j u hj => (World.grownBy_alloc w3 _ none).cell (HN.out j u hj) (by simp)
              case base => simp
              intro v' w4 hown' hgrow hnil hloc
              have hb4 : Below w3.heap.size w3 w4 := below_grown hgrow (below_alloc (Below.refl _ _) _) (fun j hj => by cases hj; exact Nat.le_refl _)
              rw [List.nil_append, Nat.zero_add] at hown'
              obtain ⟨g, ga, gcap, hg, rfl, ho4⟩ := own_of_row sltLen hown'
              clear hown' hgrow hnil hloc HN hinfo hz0 hz1 hz2
              have HB4 : Hid _ := hide (below_trans HB3.out hb4)
              have h0 : 0 < l.length := by omega
              obtain ⟨rfl, hfz⟩ := ho4.own h0
              have HO4 : Hid _ := hide ho4
              have x2 := below_keeps hb4 _ _ v2
              have hgw : w.heap.size < g := by have := cell_lt v2; simp at this; omega
              obtain ⟨bb, oo, heq, hbb, k0, k1, k2⟩ := slt_row ho4.rows i hi
              simp only [Option.some.injEq, Addr.mk.injEq, and_true] at heq
              obtain ⟨rfl, rfl⟩ := heq
              have hz := hfz (i * 3 + 2)
              rw [Nat.zero_add] at k2
              obtain ⟨s0, s1⟩ := (rightsB_small HQ.out).2 l[i] (List.getElem_mem hi)
              obtain ⟨t0, t1⟩ := (rightsB_small HQ.out).2 l[j] (List.getElem_mem hj)
              have qq : 1 ≤ amt ∧ amt ≤ (l[i]).has := by simpa only [inB, decide_eq_true_eq] using HQ2.out
              obtain ⟨u0, u1⟩ := qq
              have HO5 : Hid _ := hide (OwnRow.addHas (u := (l[i]).has - amt) ho4 hi (d := -amt) (by omega))
              clear k0 k1 ho4 hb4 v2 HB3 HC3 hfz q2
              go_wp2_with fail
              go_region
              obtain ⟨w5, hw5⟩ : ∃ w5, w5 = (w4.setCell ⟨g, i * 3 + 2, none⟩ (.int .i64 ((l[i]).has - amt))).drew := ⟨_, rfl⟩
              rw [← hw5]
              have ho6 : OwnRow 3 sltCells w5 g (some ⟨g, 0, none⟩) gcap (addHas l i (-amt)) := by rw [hw5]; exact HO5.out.below ((Below.refl _ _).drew)
              have HB5 : Hid (Below w.heap.size w w5) := hide (by rw [hw5]; exact (HB4.out.setCell (by show w.heap.size ≤ g; omega) _).drew)
              have x2' : w5.cell? ⟨w.heap.size, 2, none⟩ = some (.int .i64 amt) := by
                rw [hw5]
                exact (cell_set_other (.inl (by omega))).trans x2
              have hjl : j < (addHas l i (-amt)).length := by rw [addHas_len]; exact hj
              obtain ⟨bb, oo, heq, hbb5, k0, k1, k2'⟩ := slt_row ho6.rows j hjl
              simp only [Option.some.injEq, Addr.mk.injEq, and_true] at heq
              obtain ⟨rfl, rfl⟩ := heq
              have hz5 := (ho6.own (by rw [addHas_len]; exact h0)).2 (j * 3 + 2)
              rw [Nat.zero_add, addHas_get l i (-amt) j hjl hj, if_neg HIJ.out] at k2'
              have HO7 : Hid _ := hide (OwnRow.addHas (u := (l[j]).has + amt) ho6 hjl (d := amt) (by rw [addHas_get l i (-amt) j hjl hj, if_neg HIJ.out]))
              clear hw5 x2 k2 hz hbb HO5 HO4 HB4 ho6 k0 k1 hjl
              go_wp2_with fail
              go_region
              go_wp2
              go_ret2
              rw [HY.out HR.out, HR.out]
              exact ⟨(HB5.out.setCell (by show w.heap.size ≤ g; omega) _).drew, _, rfl, g, some ⟨g, 0, none⟩, gcap, by omega, by simp [addHas_len], HO7.out.below ((Below.refl _ _).drew)⟩
          · have HQ1 : Hid (nbB l[i] l[j] = false) := hide (by rw [HNB.out, q1, q3]; rfl)
            have HR : Hid (movOk l f t amt = false) := hide (by rw [HM.out, HQ1.out]; rfl)
            go_wp2_with fail
            refine wp_region_later w2 (by kernel_rfl) (by kernel_rfl) ((Below.refl _ _).drew) ?_
            repeat (go_big_quiet_step (first | (go_at_call 29; exact later_same (l1In_any _ _ _ _))))
            refine wpQuiet_nil ?_
            intro _ hw'
            obtain ⟨ny, rfl⟩ := hw'
            go_wp2
            go_ret2
            rw [movL_no HR.out, HR.out]
            exact RowFlag.no (below_trans HB2.out ny.below)
    · have HR : Hid (movOk l f t amt = false) := hide (movOk_none2 hp2)
      rw [hp, hp2]
      have n1 : decide ((i : Int) < 0) = false := by simp
      clear hp hp2 hn2 hfi
      go_wp2_with fail
      refine wp_region_later w2 (by kernel_rfl) (by kernel_rfl) ((Below.refl _ _).drew) ?_
      repeat (go_big_quiet_step (fail))
      refine wpQuiet_nil ?_
      intro _ hw'
      obtain ⟨ny, rfl⟩ := hw'
      go_wp2
      go_ret2
      rw [movL_no HR.out, HR.out]
      exact RowFlag.no (below_trans HB2.out ny.below)
  · have HR : Hid (movOk l f t amt = false) := hide (movOk_none1 hp)
    rw [hp]
    clear hp hn
    go_wp2_with fail
    refine wp_region_later w2 (by kernel_rfl) (by kernel_rfl) ((Below.refl _ _).drew) ?_
    repeat (go_big_quiet_step (fail))
    refine wpQuiet_nil ?_
    intro _ hw'
    obtain ⟨ny, rfl⟩ := hw'
    go_wp2
    go_ret2
    rw [movL_no HR.out, HR.out]
    exact RowFlag.no (below_trans HB2.out ny.below)
set_option maxHeartbeats 1000000 in
theorem specMoved_any (a : Option Addr) (l : List Slt) (cap : Nat) (f t amt : Int) (w : World) (hl : l.length ≤ 1048576) (hcap : l.length ≤ cap) (h : SlotAt w a l) :
    Calls Try.prog 7 #[.slice a l.length cap, .agg #[.int .i64 f, .int .i64 t, .int .i64 amt]] w fun e w' => RowFlag 3 sltCells (movL l f t amt) (movOk l f t amt) w e w' := by
  have HC : Hid _ := hide h
  clear h
  have HB0 : Hid _ := hide (below_alloc (Below.refl w.heap.size w) (.cells #[.int .i64 f, .int .i64 t, .int .i64 amt] 26))
  go_enter Try.func7, Try.ntmps7
  go_wp2_with fail
  refine (specRightsOk_any a l cap _ hl hcap (HC.out.below HB0.out)).mono ?_
  rintro e w1 ⟨rfl, hb1⟩
  have HB1 : Hid _ := hide (below_trans HB0.out hb1)
  obtain ⟨x0, x1, x2⟩ := cell_new3 hb1
  clear hb1
  cases q : rightsB l
  · have HR : Hid (movOk l f t amt = false) := hide (movOk_wrong q)
    go_wp2
    go_ret2
    rw [movL_no HR.out, HR.out]
    exact RowFlag.no HB1.out
  · go_wp2_with fail
    refine (l4Moved_any a l cap f t amt w1 hl hcap q (HC.out.below HB1.out)).mono ?_
    rintro e w2 ⟨hb2, v, rfl, hn⟩
    have HN : Hid _ := hide hn
    have HB2 : Hid _ := hide (below_trans HB1.out hb2)
    clear hn hb2
    go_wp2
    go_ret2
    obtain ⟨g, ga, gcap, hg, e, ho⟩ := HN.out
    exact ⟨HB2.out, _, rfl, g, ga, gcap, Nat.le_trans HB1.out.size hg, e, ho⟩
end Go.Proofs.Ytlpgpfpmjdolmaa
