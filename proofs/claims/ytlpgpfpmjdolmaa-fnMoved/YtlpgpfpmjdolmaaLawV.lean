/- The walk of the law FnMoved. -/
import Derived.Test.YtlpgpfpmjdolmaaDm
import Derived.Test.YtlpgpfpmjdolmaaMvM
import Derived.Test.YtlpgpfpmjdolmaaIMov
import Derived.Test.YtlpgpfpmjdolmaaSMov
namespace Go.Proofs.Ytlpgpfpmjdolmaa
open Go.ChangeShapes Go.WideShapes Go.ChangeAt Go.RowKit
set_option linter.unusedVariables false
theorem big_any (a : Option Addr) (len cap : Nat) (w : World) : Calls Try.prog 4 #[.slice a len cap] w fun e w' => e = .returned (.bool (decide (1048576 < (len : Int)))) ∧ w' = w := by
  go_enter Try.func4, Try.ntmps4
  go_wp2
  go_ret
  exact ⟨rfl, rfl⟩
theorem beq_int (n : Int) : (n == n) = true := by simp
set_option maxHeartbeats 2000000 in
theorem sameSlots_any (a c : Option Addr) (l : List Slt) (ca cc : Nat) (w : World) (hn : l.length ≤ 1048576) (h : RowAt 3 sltCells w a l) (h' : RowAt 3 sltCells w c l) :
    Calls Try.prog 8 #[.slice a l.length ca, .slice c l.length cc] w fun e w' => YesEnd w e w' := by
  have HL : Hid _ := hide h
  have HL' : Hid _ := hide h'
  clear h h'
  have hln : ((l.length : Int) != (l.length : Int)) = false := by simp
  go_enter Try.func8, Try.ntmps8
  go_wp2
  go_loopw [5] (fun i wr => ∃ k : Nat, k ≤ l.length ∧ i = .int .i64 (k : Int) ∧ Below w.heap.size w wr) (fun i wr => l.length - (intOf i).toNat)
  case atStart => exact ⟨0, Nat.zero_le _, rfl, Below.refl _ _⟩
  case round =>
    obtain ⟨k, hk, rfl, HB⟩ := hrel
    by_cases hlt : k < l.length
    · obtain ⟨b, off, rfl, hb, d0, d1, d2⟩ := slt_row (HL.out.below HB) k hlt
      obtain ⟨b2, off2, rfl, hc, e0, e1, e2⟩ := slt_row (HL'.out.below HB) k hlt
      have hlt' : (k : Int) < (l.length : Int) := by omega
      generalize l[k].id = p0 at *
      generalize l[k].up = p1 at *
      generalize l[k].has = p2 at *
      have z0 : (p0 == p0) = true := by simp
      have z1 : (p1 == p1) = true := by simp
      have z2 : (p2 == p2) = true := by simp
      go_wp2_with fail
      go_quiet (fail)
      go_wp2
      exact ⟨⟨k + 1, by omega, by go_num, below_drewN HB _⟩, by simp [intOf]; omega⟩
    · have hk' : ¬ (k : Int) < (l.length : Int) := by omega
      go_wp2
      go_ret
      exact ⟨rfl, HB⟩
theorem mv_cells {w w1 : World} {f t a : Int} {T : TypeId} (h : Below (w.alloc (.cells #[.int .i64 f, .int .i64 t, .int .i64 a] T)).heap.size (w.alloc (.cells #[.int .i64 f, .int .i64 t, .int .i64 a] T)) w1) : w1.cell? ⟨w.heap.size, 0, none⟩ = some (.int .i64 f) ∧ w1.cell? ⟨w.heap.size, 1, none⟩ = some (.int .i64 t) ∧ w1.cell? ⟨w.heap.size, 2, none⟩ = some (.int .i64 a) := cell_new3 h
set_option maxRecDepth 100000 in
set_option maxHeartbeats 3000000 in
theorem walkMoved (a : Option Addr) (len cap : Nat) (w : World) (h : IsCode w a len) :
    Calls Try.prog 3 #[.slice a len cap] w fun e w' => YesEnd w e w' := by
  have HC : Hid _ := hide h
  clear h
  by_cases hbig : 1048576 < (len : Int)
  · have hd : decide (1048576 < (len : Int)) = true := by simp; omega
    go_enter Try.func3, Try.ntmps3
    go_wp2_with fail
    refine (big_any _ _ _ _).mono ?_
    rintro e w1 ⟨rfl, hw1⟩
    have hw1' := hw1.symm
    subst hw1'
    go_wp2
    go_ret
    exact ⟨rfl, Below.refl _ _⟩
  · have hd : decide (1048576 < (len : Int)) = false := by simp; omega
    go_enter Try.func3, Try.ntmps3
    go_wp2_with fail
    refine (big_any _ _ _ _).mono ?_
    rintro e w1 ⟨rfl, hw1⟩
    have hw1' := hw1.symm
    subst hw1'
    go_wp2_with fail
    refine (drawMoved_any a len cap w HC.out).mono ?_
    rintro e w2 ⟨l, g, gc, f, t, am, hl7, ia, hgc, hp, rfl, hs2, hb2⟩
    have HX2 : Hid (Below w.heap.size w (w2.alloc (.cells #[.int .i64 f, .int .i64 t, .int .i64 am] 26))) := hide (below_alloc hb2 _)
    have HS2 : Hid (SlotAt (w2.alloc (.cells #[.int .i64 f, .int .i64 t, .int .i64 am] 26)) (some ⟨g, 0, none⟩) l) := hide (hs2.below (below_alloc (Below.refl _ _) _))
    have HP : Hid _ := hide hp
    have HIA : Hid _ := hide ia
    clear hs2 hb2 hp HC
    go_wp2_with fail
    refine (implMoved_any (some ⟨g, 0, none⟩) l gc f t am _ (by omega) hgc HIA.out HS2.out).mono ?_
    rintro e w3 ⟨hb3, v3, rfl, g3, a3, c3, hg3, rfl, ho3⟩
    have HB3 : Hid _ := hide hb3
    have HR3 : Hid _ := hide ho3
    obtain ⟨m0, m1, m2⟩ := mv_cells hb3
    have HS3 : Hid _ := hide (HS2.out.below hb3)
    clear hb3 hg3 ho3
    go_wp2_with fail
    refine (specMoved_any (some ⟨g, 0, none⟩) l gc f t am _ (by omega) hgc HS3.out).mono ?_
    rintro e w4 ⟨hb4, v4, rfl, g4, a4, c4, hg4, rfl, ho4⟩
    have HB4 : Hid _ := hide (below_trans HB3.out hb4)
    have HR4 : Hid _ := hide (HR3.out.below hb4)
    have HQ4 : Hid _ := hide ho4
    have HS4 : Hid _ := hide (HS3.out.below hb4)
    clear hb4 hg4 ho4 HB3 HR3 HS3 m0 m1 m2
    obtain ⟨m0, m1, m2⟩ := mv_cells HB4.out
    cases hok : movOk l f t am
    · have HN : Hid (movL l f t am = []) := hide (movL_no hok)
      rw [HN.out] at HR4 HQ4 ⊢
      have HX4 : Hid _ := hide (below_trans HX2.out HB4.out)
      clear HN HB4 HX2 HS2 HS4 m0 m1 m2
      go_wp2_with fail
      refine (sameSlots_any a3 a4 [] c3 c4 w4 (by simp) HR4.out.rows HQ4.out.rows).mono ?_
      rintro e w5 ⟨rfl, hb5⟩
      have HX5 : Hid _ := hide (below_trans HX4.out hb5)
      have HR5 : Hid _ := hide (HR4.out.rows.below hb5)
      have HQ5 : Hid _ := hide (HQ4.out.rows.below hb5)
      clear hb5 HX4 HR4 HQ4
      go_wp2_with fail
      refine (sameSlots_any a3 a4 [] c3 c4 w5 (by simp) HR5.out HQ5.out).mono ?_
      rintro e w6 ⟨rfl, hb6⟩
      have HX6 : Hid _ := hide (below_trans HX5.out hb6)
      clear hb6
      go_wp2
      go_ret
      exact ⟨rfl, HX6.out⟩
    · have HK : Hid _ := hide (back hok HP.out)
      generalize movL l f t am = n at *
      have n8 : n.length ≤ 8 := HK.out.small
      have HX4 : Hid _ := hide (below_trans HX2.out HB4.out)
      clear HX2 HS2 hok
      go_wp2_with fail
      refine (sameSlots_any a3 a4 n c3 c4 w4 (by omega) HR4.out.rows HQ4.out.rows).mono ?_
      rintro e w5 ⟨rfl, hb5⟩
      have HB5 : Hid _ := hide (below_trans HB4.out hb5)
      have HX5 : Hid _ := hide (below_trans HX4.out hb5)
      have HR5 : Hid _ := hide (HR4.out.below hb5)
      have HS5 : Hid _ := hide (HS4.out.below hb5)
      clear hb5 HX4 HR4 HQ4 HS4 HB4 m0 m1 m2
      obtain ⟨m0, m1, m2⟩ := mv_cells HB5.out
      have HT5 : Hid (SlotAt w5 a3 n) := hide (slot_of_row HR5.out.rows HK.out.parts)
      have hc3 : n.length ≤ c3 := HR5.out.room
      go_wp2_with fail
      refine (implMoved_any a3 n c3 t f am w5 (by omega) hc3 HIA.out HT5.out).mono ?_
      rw [HK.out.same, HK.out.ok]
      rintro e w6 ⟨hb6, v6, rfl, g6, a6, c6, hg6, rfl, ho6⟩
      have HB6 : Hid _ := hide (below_trans HB5.out hb6)
      have HX6 : Hid _ := hide (below_trans HX5.out hb6)
      have HT6 : Hid _ := hide (HT5.out.below hb6)
      have HS6 : Hid _ := hide (HS5.out.below hb6)
      have HW6 : Hid _ := hide ho6.rows
      clear hb6 hg6 ho6 HB5 HX5 HR5 HS5 HT5 m0 m1 m2
      obtain ⟨m0, m1, m2⟩ := mv_cells HB6.out
      have y0 := later_cell m0
      have y1 := later_cell m1
      have y2 := later_cell m2
      obtain ⟨am1, am2⟩ := HK.out.amts
      have ew1 : IntKind.i64.wrap (hasOf l t + am) = hasOf l t + am := wrapI _ (by have := HK.out.bdT; omega) (by have := HK.out.bdT; omega)
      have ew2 : IntKind.i64.wrap (hasOf l f - am) = hasOf l f - am := wrapI _ (by have := HK.out.bdF; omega) (by have := HK.out.bdF; omega)
      have hq1 : (sumOf n == sumOf l) = true := by rw [HK.out.sum]; simp
      have hq2 : (hasOf n t == hasOf l t + am) = true := by rw [HK.out.hasT]; simp
      have hq3 : (hasOf n f == hasOf l f - am) = true := by rw [HK.out.hasF]; simp
      have HRO : Hid (∀ y : Later w6, Calls Try.prog 11 #[.slice a3 n.length c3] y.w fun e w'' => e = .returned (.bool true) ∧ ∃ z : Later w6, w'' = z.w) := hide (fun y => by
        have := implRightsOk_any a3 n c3 y.w (by omega) hc3 (HT6.out.below y.below)
        rw [HK.out.rights] at this
        exact later_of this)
      have HCE : Hid (∀ y : Later w6, Calls Try.prog 8 #[.slice a6 l.length c6, .slice (some ⟨g, 0, none⟩) l.length gc] y.w fun e w'' => e = .returned (.bool true) ∧ ∃ z : Later w6, w'' = z.w) := hide (fun y => later_of (sameSlots_any a6 (some ⟨g, 0, none⟩) l c6 gc y.w (by omega) (HW6.out.below y.below) (HS6.out.row.below y.below)))
      have HSN : Hid (∀ y : Later w6, Calls Try.prog 9 #[.slice a3 n.length c3] y.w fun e w'' => e = .returned (.int .i64 (sumOf n)) ∧ ∃ z : Later w6, w'' = z.w) := hide (fun y => later_of (implSumOf_any a3 n c3 y.w (by omega) hc3 (HT6.out.below y.below)))
      have HSL : Hid (∀ y : Later w6, Calls Try.prog 9 #[.slice (some ⟨g, 0, none⟩) l.length gc] y.w fun e w'' => e = .returned (.int .i64 (sumOf l)) ∧ ∃ z : Later w6, w'' = z.w) := hide (fun y => later_of (implSumOf_any (some ⟨g, 0, none⟩) l gc y.w (by omega) hgc (HS6.out.below y.below)))
      have HHN : Hid (∀ (i : Int) (y : Later w6), Calls Try.prog 10 #[.slice a3 n.length c3, .int .i64 i] y.w fun e w'' => e = .returned (.int .i64 (hasOf n i)) ∧ ∃ z : Later w6, w'' = z.w) := hide (fun i y => later_of (implHasOf_any a3 n c3 i y.w (by omega) hc3 (HT6.out.below y.below)))
      have HHL : Hid (∀ (i : Int) (y : Later w6), Calls Try.prog 10 #[.slice (some ⟨g, 0, none⟩) l.length gc, .int .i64 i] y.w fun e w'' => e = .returned (.int .i64 (hasOf l i)) ∧ ∃ z : Later w6, w'' = z.w) := hide (fun i y => later_of (implHasOf_any (some ⟨g, 0, none⟩) l gc i y.w (by omega) hgc (HS6.out.below y.below)))
      clear HW6 HS6 HT6 HP HIA
      have hne : Nonempty (Later w6) := later_there _
      clear m0 m1 m2
      go_wp2_with fail
      refine wp_region_later w6 (by kernel_rfl) (by kernel_rfl) ((Below.refl _ _).drew) ?_
      repeat (go_big_quiet_step (first
        | (go_at_call 8; with_reducible exact HCE.out _)
        | (go_at_call 9; with_reducible exact HSN.out _)
        | (go_at_call 9; with_reducible exact HSL.out _)
        | (go_at_call 10; with_reducible exact HHN.out _ _)
        | (go_at_call 10; with_reducible exact HHL.out _ _)
        | (go_at_call 11; with_reducible exact HRO.out _)))
      refine wpQuiet_nil ?_
      intro _ hw'
      obtain ⟨nx, rfl⟩ := hw'
      have HX7 : Hid _ := hide (below_trans HX6.out nx.below)
      go_wp2
      go_ret
      exact ⟨rfl, HX7.out⟩
end Go.Proofs.Ytlpgpfpmjdolmaa
