/- The walks of the laws FnExactRightsOk, FnExactSumOf, FnExactHasOf. -/
import Derived.Test.YthlkhdhheikadaaOf
import Derived.Test.YthlkhdhheikadaaTo
namespace Go.Proofs.Ythlkhdhheikadaa
open Go.ChangeShapes Go.WideShapes Go.ChangeAt Go.RowKit
set_option linter.unusedVariables false
theorem bne_bool (b : Bool) : (b != b) = false := by simp
theorem bne_int (n : Int) : (n != n) = false := by simp
set_option maxRecDepth 100000 in
set_option maxHeartbeats 4000000 in
theorem walkRightsOk (a : Option Addr) (l : List Slt) (ca : Nat) (w : World) (hl : SlotAt w a l) (m1 : l.length ≤ maxLen) :
    Calls Try.prog 3 #[.slice a l.length ca] w fun e w' => YesEnd w e w' := by
  have HL : Hid _ := hide hl
  clear hl
  go_enter Try.func3, Try.ntmps3
  go_wp2_with fail
  refine (szSlotS_any _ l _ _ _ m1 (by omega)).mono ?_
  rintro e w1 ⟨hw1, r, rfl, hr1, hr⟩
  have hw1' := hw1.symm
  subst hw1'
  by_cases q : r < 0
  · go_wp2
    go_ret
    exact ⟨rfl, Below.refl _ _⟩
  · have n1 : l.length ≤ 1048576 := by have := hr (by omega); omega
    clear hr
    go_wp2_with fail
    refine (toSlotS_any _ l _ _ n1 HL.out).mono ?_
    rintro e w2 ⟨hb2, g2, hg2, rfl, ho2, hl2⟩
    have HB2 : Hid _ := hide hb2
    have HL2 : Hid _ := hide hl2
    clear hb2 hl2 ho2 hg2
    go_wp2_with fail
    refine (specRightsOk_any _ l _ _ n1 (Nat.le_refl _) HL2.out).mono ?_
    rintro e w3 ⟨rfl, hb3⟩
    have HB3 : Hid _ := hide (below_trans HB2.out hb3)
    clear hb3 HL2 HB2
    go_wp2_with fail
    refine (toSlotS_any _ l _ _ n1 (HL.out.below HB3.out)).mono ?_
    rintro e w4 ⟨hb4, g4, hg4, rfl, ho4, hl4⟩
    have HB4 : Hid _ := hide (below_trans HB3.out hb4)
    have HL4 : Hid _ := hide hl4
    clear hb4 hl4 ho4 hg4 HB3
    go_wp2_with fail
    refine (implRightsOk_any _ l _ _ n1 (Nat.le_refl _) HL4.out).mono ?_
    rintro e w5 ⟨rfl, hb5⟩
    have HB5 : Hid _ := hide (below_trans HB4.out hb5)
    have HL5 : Hid _ := hide (HL4.out.below hb5)
    clear hb5 HL4 HB4
    have hbn := bne_bool (rightsB l)
    go_wp2_with fail
    refine (toSlotS_any _ l _ _ n1 (HL.out.below HB5.out)).mono ?_
    rintro e w6 ⟨hb6, g6, hg6, rfl, ho6, hl6⟩
    have HB6 : Hid _ := hide (below_trans HB5.out hb6)
    have HL6 : Hid _ := hide hl6
    have HL56 : Hid _ := hide (HL5.out.below hb6)
    clear hb6 hl6 ho6 hg6 HB5 HL5
    go_wp2_with fail
    refine (eqSlotS_any _ _ l _ _ _ n1 HL56.out.row HL6.out.row).mono ?_
    rintro e w7 ⟨rfl, hb7⟩
    have HB7 : Hid _ := hide (below_trans HB6.out hb7)
    clear hb7
    go_wp2
    go_ret
    exact ⟨rfl, HB7.out⟩
set_option maxRecDepth 100000 in
set_option maxHeartbeats 4000000 in
theorem walkSumOf (a : Option Addr) (l : List Slt) (ca : Nat) (w : World) (hl : SlotAt w a l) (m1 : l.length ≤ maxLen) :
    Calls Try.prog 4 #[.slice a l.length ca] w fun e w' => YesEnd w e w' := by
  have HL : Hid _ := hide hl
  clear hl
  go_enter Try.func4, Try.ntmps4
  go_wp2_with fail
  refine (szSlotS_any _ l _ _ _ m1 (by omega)).mono ?_
  rintro e w1 ⟨hw1, r, rfl, hr1, hr⟩
  have hw1' := hw1.symm
  subst hw1'
  by_cases q : r < 0
  · go_wp2
    go_ret
    exact ⟨rfl, Below.refl _ _⟩
  · have n1 : l.length ≤ 1048576 := by have := hr (by omega); omega
    clear hr
    go_wp2_with fail
    refine (toSlotS_any _ l _ _ n1 HL.out).mono ?_
    rintro e w2 ⟨hb2, g2, hg2, rfl, ho2, hl2⟩
    have HB2 : Hid _ := hide hb2
    have HL2 : Hid _ := hide hl2
    clear hb2 hl2 ho2 hg2
    go_wp2_with fail
    refine (specSumOf_any _ l _ _ n1 (Nat.le_refl _) HL2.out).mono ?_
    rintro e w3 ⟨rfl, hb3⟩
    have HB3 : Hid _ := hide (below_trans HB2.out hb3)
    clear hb3 HL2 HB2
    go_wp2_with fail
    refine (toSlotS_any _ l _ _ n1 (HL.out.below HB3.out)).mono ?_
    rintro e w4 ⟨hb4, g4, hg4, rfl, ho4, hl4⟩
    have HB4 : Hid _ := hide (below_trans HB3.out hb4)
    have HL4 : Hid _ := hide hl4
    clear hb4 hl4 ho4 hg4 HB3
    go_wp2_with fail
    refine (implSumOf_any _ l _ _ n1 (Nat.le_refl _) HL4.out).mono ?_
    rintro e w5 ⟨rfl, hb5⟩
    have HB5 : Hid _ := hide (below_trans HB4.out hb5)
    have HL5 : Hid _ := hide (HL4.out.below hb5)
    clear hb5 HL4 HB4
    have hbn := bne_int (sumOf l)
    go_wp2_with fail
    refine (toSlotS_any _ l _ _ n1 (HL.out.below HB5.out)).mono ?_
    rintro e w6 ⟨hb6, g6, hg6, rfl, ho6, hl6⟩
    have HB6 : Hid _ := hide (below_trans HB5.out hb6)
    have HL6 : Hid _ := hide hl6
    have HL56 : Hid _ := hide (HL5.out.below hb6)
    clear hb6 hl6 ho6 hg6 HB5 HL5
    go_wp2_with fail
    refine (eqSlotS_any _ _ l _ _ _ n1 HL56.out.row HL6.out.row).mono ?_
    rintro e w7 ⟨rfl, hb7⟩
    have HB7 : Hid _ := hide (below_trans HB6.out hb7)
    clear hb7
    go_wp2
    go_ret
    exact ⟨rfl, HB7.out⟩
set_option maxRecDepth 100000 in
set_option maxHeartbeats 4000000 in
theorem walkHasOf (a : Option Addr) (l : List Slt) (ca : Nat) (id : Int) (w : World) (hl : SlotAt w a l) (m1 : l.length ≤ maxLen) :
    Calls Try.prog 5 #[.slice a l.length ca, .int .i64 id] w fun e w' => YesEnd w e w' := by
  have HL : Hid _ := hide hl
  clear hl
  go_enter Try.func5, Try.ntmps5
  go_wp2_with fail
  refine (szSlotS_any _ l _ _ _ m1 (by omega)).mono ?_
  rintro e w1 ⟨hw1, r, rfl, hr1, hr⟩
  have hw1' := hw1.symm
  subst hw1'
  by_cases q : r < 0
  · go_wp2
    go_ret
    exact ⟨rfl, Below.refl _ _⟩
  · have n1 : l.length ≤ 1048576 := by have := hr (by omega); omega
    clear hr
    go_wp2_with fail
    refine (toSlotS_any _ l _ _ n1 HL.out).mono ?_
    rintro e w2 ⟨hb2, g2, hg2, rfl, ho2, hl2⟩
    have HB2 : Hid _ := hide hb2
    have HL2 : Hid _ := hide hl2
    clear hb2 hl2 ho2 hg2
    go_wp2_with fail
    refine (specHasOf_any _ l _ id _ n1 (Nat.le_refl _) HL2.out).mono ?_
    rintro e w3 ⟨rfl, hb3⟩
    have HB3 : Hid _ := hide (below_trans HB2.out hb3)
    clear hb3 HL2 HB2
    go_wp2_with fail
    refine (toSlotS_any _ l _ _ n1 (HL.out.below HB3.out)).mono ?_
    rintro e w4 ⟨hb4, g4, hg4, rfl, ho4, hl4⟩
    have HB4 : Hid _ := hide (below_trans HB3.out hb4)
    have HL4 : Hid _ := hide hl4
    clear hb4 hl4 ho4 hg4 HB3
    go_wp2_with fail
    refine (implHasOf_any _ l _ id _ n1 (Nat.le_refl _) HL4.out).mono ?_
    rintro e w5 ⟨rfl, hb5⟩
    have HB5 : Hid _ := hide (below_trans HB4.out hb5)
    have HL5 : Hid _ := hide (HL4.out.below hb5)
    clear hb5 HL4 HB4
    have hbn := bne_int (hasOf l id)
    go_wp2_with fail
    refine (toSlotS_any _ l _ _ n1 (HL.out.below HB5.out)).mono ?_
    rintro e w6 ⟨hb6, g6, hg6, rfl, ho6, hl6⟩
    have HB6 : Hid _ := hide (below_trans HB5.out hb6)
    have HL6 : Hid _ := hide hl6
    have HL56 : Hid _ := hide (HL5.out.below hb6)
    clear hb6 hl6 ho6 hg6 HB5 HL5
    go_wp2_with fail
    refine (eqSlotS_any _ _ l _ _ _ n1 HL56.out.row HL6.out.row).mono ?_
    rintro e w7 ⟨rfl, hb7⟩
    have HB7 : Hid _ := hide (below_trans HB6.out hb7)
    clear hb7
    go_wp2
    go_ret
    exact ⟨rfl, HB7.out⟩
end Go.Proofs.Ythlkhdhheikadaa
