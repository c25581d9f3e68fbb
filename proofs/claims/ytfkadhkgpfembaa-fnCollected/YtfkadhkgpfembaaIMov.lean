/- The contract of the program's Moved. -/
import Derived.Test.YtfkadhkgpfembaaMov
namespace Go.Proofs.Ytfkadhkgpfembaa
open Go.ChangeShapes Go.WideShapes Go.ChangeAt Go.RowKit
set_option linter.unusedVariables false
/-- a row and a flag -/
def RowFlag {A : Type} (sz : Nat) (f : A → List Value) (l : List A) (b : Bool) (w : World) (e : Ending) (w' : World) : Prop := Below w.heap.size w w' ∧ ∃ v, e = .returned (.tuple #[v, .bool b]) ∧ NewRow sz f l w v w'
theorem RowFlag.no {A : Type} {sz : Nat} {f : A → List Value} {w w' : World} (h : Below w.heap.size w w') : RowFlag sz f ([] : List A) false w (.returned (.tuple #[.slice none 0 0, .bool false])) w' := ⟨h, _, rfl, w.heap.size, none, 0, Nat.le_refl _, rfl, OwnRow.nil⟩
theorem cell_new3 {w w1 : World} {v0 v1 v2 : Value} {T : TypeId} (h : Below (w.alloc (.cells #[v0, v1, v2] T)).heap.size (w.alloc (.cells #[v0, v1, v2] T)) w1) : w1.cell? ⟨w.heap.size, 0, none⟩ = some v0 ∧ w1.cell? ⟨w.heap.size, 1, none⟩ = some v1 ∧ w1.cell? ⟨w.heap.size, 2, none⟩ = some v2 := by
  have h1 : w.heap.size < (w.alloc (.cells #[v0, v1, v2] T)).heap.size := by simp
  exact ⟨(h.cell h1).trans (World.cell?_alloc_at _ _ _ _ rfl), (h.cell h1).trans (World.cell?_alloc_at _ _ _ _ rfl), (h.cell h1).trans (World.cell?_alloc_at _ _ _ _ rfl)⟩
theorem later_cell {W : World} {p : Addr} {v : Value} (h : W.cell? p = some v) : ∀ y : Later W, y.w.cell? p = some v := fun y => (y.below.cell (cell_lt h)).trans h
set_option maxRecDepth 100000 in
set_option maxHeartbeats 8000000 in
theorem implMoved_any (a : Option Addr) (l : List Slt) (cap : Nat) (f t amt : Int) (w : World) (hl : l.length ≤ 1048576) (hcap : l.length ≤ cap) (ia : I64 amt) (h : SlotAt w a l) :
    Calls Try.prog 11 #[.slice a l.length cap, .agg #[.int .i64 f, .int .i64 t, .int .i64 amt]] w fun e w' => RowFlag 3 sltCells (movL l f t amt) (movOk l f t amt) w e w' := by
  have HC : Hid _ := hide h
  clear h
  have HA : Hid _ := hide ia
  clear ia
  have HB0 : Hid _ := hide (below_alloc (Below.refl w.heap.size w) (.cells #[.int .i64 f, .int .i64 t, .int .i64 amt] 34))
  go_enter Try.func11, Try.ntmps11
  go_wp2_with fail
  refine (implRightsOk_any a l cap _ hl hcap (HC.out.below HB0.out)).mono ?_
  rintro e w1 ⟨rfl, hb1⟩
  have HB1 : Hid _ := hide (below_trans HB0.out hb1)
  obtain ⟨x0, x1, x2⟩ := cell_new3 hb1
  clear hb1
  cases q : rightsB l
  · have HR : Hid (movOk l f t amt = false) := hide (movOk_wrong q)
    go_wp2
    go_ret2
    rw [movL_no HR.out, HR.out]
    exact RowFlag.no HB1.out
  · have HC1 : Hid _ := hide (HC.out.below HB1.out)
    have h8 : l.length ≤ 8 := (rightsB_small q).1
    have y0 := later_cell x0
    have y1 := later_cell x1
    have y2 := later_cell x2
    have hne : Nonempty (Later w1) := later_there _
    go_wp2_with fail
    refine wp_region_later w1 (by kernel_rfl) (by kernel_rfl) ((Below.refl _ _).drew) ?_
    repeat (go_big_quiet_step (first | (go_at_call 19; exact later_of (slotPlace_any _ l _ _ _ hl (HC1.out.below (Later.below _))))))
    refine wpQuiet_nil ?_
    intro _ hw'
    obtain ⟨nx, rfl⟩ := hw'
    have HB2 : Hid _ := hide (below_trans HB1.out nx.below)
    have HC2 : Hid _ := hide (HC.out.below HB2.out)
    have z0 := y0 nx
    have z1 := y1 nx
    have z2 := y2 nx
    clear y0 y1 y2 x0 x1 x2 hne HC1 HB1
    generalize nx.w = w2 at *
    clear nx
    have hne : Nonempty (Later w2) := later_there _
    rcases posL_cases l f with ⟨i, hi, hp, hfi⟩ | ⟨hp, hn⟩
    · rcases posL_cases l t with ⟨j, hj, hp2, htj⟩ | ⟨hp2, hn2⟩
      · have HM : Hid _ := hide (movOk_at (amt := amt) q hi hj hp hp2)
        have HY : Hid _ := hide (fun h => movL_yes (l := l) (f := f) (t := t) (amt := amt) h hp hp2)
        have HNS : Hid _ := hide (nb_self q i hi)
        rw [hp, hp2]
        have hi' : (i : Int) < (l.length : Int) := by omega
        have hj' : (j : Int) < (l.length : Int) := by omega
        have n1 : decide ((i : Int) < 0) = false := by simp
        have n2 : decide ((j : Int) < 0) = false := by simp
        obtain ⟨b, off, rfl, hb, c0, c1, c2, _⟩ := HC2.out i hi
        obtain ⟨b', off', heq, _, d0, d1, d2, _⟩ := HC2.out j hj
        simp only [Option.some.injEq, Addr.mk.injEq, and_true] at heq
        obtain ⟨rfl, rfl⟩ := heq
        have c0' := later_cell c0
        have c1' := later_cell c1
        have c2' := later_cell c2
        have d0' := later_cell d0
        have d1' := later_cell d1
        have d2' := later_cell d2
        have z0' := later_cell z0
        have z1' := later_cell z1
        have z2' := later_cell z2
        clear hp hp2 c0 c1 c2 d0 d1 d2 z0 z1 hfi htj
        cases q1 : nbB l[i] l[j]
        · have HR : Hid (movOk l f t amt = false) := hide (by rw [HM.out, q1]; rfl)
          go_wp2_with fail
          refine wp_region_later w2 (by kernel_rfl) (by kernel_rfl) ((Below.refl _ _).drew) ?_
          repeat (go_big_quiet_step (first | (go_at_call 27; exact later_of (neighbours_any l[i] l[j] _)) | (go_at_call 20; exact later_same (within_any _ _ _ _))))
          refine wpQuiet_nil ?_
          intro _ hw'
          obtain ⟨ny, rfl⟩ := hw'
          go_wp2
          go_ret2
          rw [movL_no HR.out, HR.out]
          exact RowFlag.no (below_trans HB2.out ny.below)
        · cases q2 : inB 1 (l[i]).has amt
          · have HR : Hid (movOk l f t amt = false) := hide (by rw [HM.out, q1, q2]; rfl)
            go_wp2_with fail
            refine wp_region_later w2 (by kernel_rfl) (by kernel_rfl) ((Below.refl _ _).drew) ?_
            repeat (go_big_quiet_step (first | (go_at_call 27; exact later_of (neighbours_any l[i] l[j] _)) | (go_at_call 20; exact later_same (within_any _ _ _ _))))
            refine wpQuiet_nil ?_
            intro _ hw'
            obtain ⟨ny, rfl⟩ := hw'
            go_wp2
            go_ret2
            rw [movL_no HR.out, HR.out]
            exact RowFlag.no (below_trans HB2.out ny.below)
          · have HR : Hid (movOk l f t amt = true) := hide (by rw [HM.out, q1, q2]; rfl)
            have HQ2 : Hid _ := hide q2
            have HIJ : Hid (i ≠ j) := hide (fun e => by subst e; rw [HNS.out] at q1; cases q1)
            go_wp2_with fail
            refine wp_region_later w2 (by kernel_rfl) (by kernel_rfl) ((Below.refl _ _).drew) ?_
            repeat (go_big_quiet_step (first | (go_at_call 27; exact later_of (neighbours_any l[i] l[j] _)) | (go_at_call 20; exact later_same (within_any _ _ _ _))))
            refine wpQuiet_nil ?_
            intro _ hw'
            obtain ⟨ny, rfl⟩ := hw'
            have HB3 : Hid _ := hide (below_trans HB2.out ny.below)
            have HC3 : Hid _ := hide (HC.out.below HB3.out)
            have v2 := z2' ny
            clear c0' c1' c2' d0' d1' d2' z0' z1' z2' z2 hne
            generalize ny.w = w3 at *
            go_wp2_with fail
            refine (clone_any b off l cap w3 hl HC3.out.row).mono ?_
            rintro e w4 ⟨hb4, v, rfl, g, ga, gcap, hg, rfl, ho4⟩
            have HB4 : Hid _ := hide (below_trans HB3.out hb4)
            have h0 : 0 < l.length := by omega
            obtain ⟨rfl, hfz⟩ := ho4.own h0
            have HO4 : Hid _ := hide ho4
            have x2 := below_keeps hb4 _ _ v2
            have hgw : w.heap.size < g := by have := cell_lt v2; simp at this; omega
            obtain ⟨bb, oo, heq, hbb, k0, k1, k2⟩ := slt_row ho4.rows i hi
            simp only [Option.some.injEq, Addr.mk.injEq, and_true] at heq
            obtain ⟨rfl, rfl⟩ := heq
            have hz := hfz (i * 3 + 2)
            rw [Nat.zero_add] at k2
            obtain ⟨s0, s1⟩ := (rightsB_small q).2 l[i] (List.getElem_mem hi)
            obtain ⟨t0, t1⟩ := (rightsB_small q).2 l[j] (List.getElem_mem hj)
            have qq : 1 ≤ amt ∧ amt ≤ (l[i]).has := by simpa only [inB, decide_eq_true_eq] using HQ2.out
            obtain ⟨u0, u1⟩ := qq
            have HO5 : Hid _ := hide (OwnRow.addHas (u := (l[i]).has - amt) ho4 hi (d := -amt) (by omega))
            clear k0 k1 ho4 hb4 v2 HB3 HC3 hfz q2
            go_wp2_with fail
            go_region
            obtain ⟨w5, hw5⟩ : ∃ w5, w5 = (w4.setCell ⟨g, i * 3 + 2, none⟩ (.int .i64 ((l[i]).has - amt))).drew := ⟨_, rfl⟩
            rw [← hw5]
            have ho6 : OwnRow 3 sltCells w5 g (some ⟨g, 0, none⟩) gcap (addHas l i (-amt)) := by rw [hw5]; exact HO5.out.below ((Below.refl _ _).drew)
            have HB5 : Hid (Below w.heap.size w w5) := hide (by rw [hw5]; exact (HB4.out.setCell (by show w.heap.size ≤ g; omega) _).drew)
            have x2' : w5.cell? ⟨w.heap.size, 2, none⟩ = some (.int .i64 amt) := by
              rw [hw5]
              exact (cell_set_other (.inl (by omega))).trans x2
            have hjl : j < (addHas l i (-amt)).length := by rw [addHas_len]; exact hj
            obtain ⟨bb, oo, heq, hbb5, k0, k1, k2'⟩ := slt_row ho6.rows j hjl
            simp only [Option.some.injEq, Addr.mk.injEq, and_true] at heq
            obtain ⟨rfl, rfl⟩ := heq
            have hz5 := (ho6.own (by rw [addHas_len]; exact h0)).2 (j * 3 + 2)
            rw [Nat.zero_add, addHas_get l i (-amt) j hjl hj, if_neg HIJ.out] at k2'
            have HO7 : Hid _ := hide (OwnRow.addHas (u := (l[j]).has + amt) ho6 hjl (d := amt) (by rw [addHas_get l i (-amt) j hjl hj, if_neg HIJ.out]))
            clear hw5 x2 k2 hz hbb HO5 HO4 HB4 ho6 k0 k1 hjl
            go_wp2_with fail
            go_region
            go_wp2
            go_ret2
            rw [HY.out HR.out, HR.out]
            exact ⟨(HB5.out.setCell (by show w.heap.size ≤ g; omega) _).drew, _, rfl, g, some ⟨g, 0, none⟩, gcap, by omega, by simp [addHas_len], HO7.out.below ((Below.refl _ _).drew)⟩
      · have HR : Hid (movOk l f t amt = false) := hide (movOk_none2 hp2)
        rw [hp, hp2]
        have n1 : decide ((i : Int) < 0) = false := by simp
        clear hp hp2 hn2 hfi
        go_wp2_with fail
        refine wp_region_later w2 (by kernel_rfl) (by kernel_rfl) ((Below.refl _ _).drew) ?_
        repeat (go_big_quiet_step (fail))
        refine wpQuiet_nil ?_
        intro _ hw'
        obtain ⟨ny, rfl⟩ := hw'
        go_wp2
        go_ret2
        rw [movL_no HR.out, HR.out]
        exact RowFlag.no (below_trans HB2.out ny.below)
    · have HR : Hid (movOk l f t amt = false) := hide (movOk_none1 hp)
      rw [hp]
      clear hp hn
      go_wp2_with fail
      refine wp_region_later w2 (by kernel_rfl) (by kernel_rfl) ((Below.refl _ _).drew) ?_
      repeat (go_big_quiet_step (fail))
      refine wpQuiet_nil ?_
      intro _ hw'
      obtain ⟨ny, rfl⟩ := hw'
      go_wp2
      go_ret2
      rw [movL_no HR.out, HR.out]
      exact RowFlag.no (below_trans HB2.out ny.below)
end Go.Proofs.Ytfkadhkgpfembaa
