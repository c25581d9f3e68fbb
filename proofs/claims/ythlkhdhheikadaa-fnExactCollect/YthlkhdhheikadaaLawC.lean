/- The walk of the law FnExactCollect. -/
import Derived.Test.YthlkhdhheikadaaSCol
import Derived.Test.YthlkhdhheikadaaLawM
namespace Go.Proofs.Ythlkhdhheikadaa
open Go.ChangeShapes Go.WideShapes Go.ChangeAt Go.RowKit
set_option linter.unusedVariables false
theorem col_len (l : List Slt) (to amt : Int) : (colL l to amt).length ≤ 20000000000 := by
  unfold colL
  split
  · rename_i h
    have hq : rightsB l = true := by simp only [colOk, Bool.and_eq_true] at h; exact h.1.1
    have hp : 0 ≤ posL l to := by simp only [colOk, Bool.and_eq_true, decide_eq_true_eq] at h; exact h.1.2
    split
    · have := colK_len hq (InL.of hp) (amt - (by assumption : Slt).has) l.length (Nat.le_refl _)
      have := (rightsB_small hq).1
      omega
    · simp
  · simp
set_option maxRecDepth 100000 in
set_option maxHeartbeats 8000000 in
theorem walkCollect (a : Option Addr) (l : List Slt) (ca : Nat) (p q : Int) (w : World) (hl : SlotAt w a l) (m1 : l.length ≤ maxLen) :
    Calls Try.prog 8 #[.slice a l.length ca, .int .i64 p, .int .i64 q] w fun e w' => YesEnd w e w' := by
  have HL : Hid _ := hide hl
  clear hl
  go_enter Try.func8, Try.ntmps8
  go_wp2_with fail
  refine (szSlotS_any _ l _ _ _ m1 (by omega)).mono ?_
  rintro e w1 ⟨hw1, r, rfl, hr1, hr⟩
  have hw1' := hw1.symm
  subst hw1'
  by_cases qr : r < 0
  · go_wp2
    go_ret
    exact ⟨rfl, Below.refl _ _⟩
  · have n1 : l.length ≤ 1048576 := by have := hr (by omega); omega
    clear hr
    have HM1 : Hid ((colL l p q).length ≤ 20000000000) := hide (col_len l p q)
    have HSM : Hid (∀ (g : Nat) (x : World), SlotAt x (some ⟨g, 0, none⟩) l → Calls Try.prog 28 #[.slice (some ⟨g, 0, none⟩) l.length l.length, .int .i64 p, .int .i64 q] x fun e w' => RowFlag 3 sltCells (colL l p q) (colOk l p q) x e w') := hide (fun g x hx => specCollect_any _ l _ p q x n1 (Nat.le_refl _) hx)
    have HIM : Hid (∀ (g : Nat) (x : World), SlotAt x (some ⟨g, 0, none⟩) l → Calls Try.prog 29 #[.slice (some ⟨g, 0, none⟩) l.length l.length, .int .i64 p, .int .i64 q] x fun e w' => RowFlag 3 sltCells (colL l p q) (colOk l p q) x e w') := hide (fun g x hx => implCollect_any _ l _ p q x n1 (Nat.le_refl _) hx)
    generalize colL l p q = M at *
    generalize colOk l p q = B at *
    have hbB := bne_bool B
    go_wp2_with fail
    refine (toSlotS_any _ l _ w n1 HL.out).mono ?_
    rintro e w2 ⟨hb2, g2, hg2, rfl, ho2, hl2⟩
    have HB2 : Hid _ := hide hb2
    have HL2 : Hid _ := hide hl2
    clear hb2 hg2 ho2 hl2
    go_wp2_with fail
    refine (HSM.out g2 w2 HL2.out).mono ?_
    rintro e w4 ⟨hb4, v4, rfl, g4, a4, c4, hg4, rfl, ho4⟩
    have HX4 : Hid _ := hide (below_trans HB2.out hb4)
    have HS4 : Hid _ := hide ho4.rows
    clear hb4 hg4 ho4 HB2 HL2
    go_wp2_with fail
    refine (toSlotS_any _ l _ w4 n1 (HL.out.below HX4.out)).mono ?_
    rintro e w6 ⟨hb5, g5, ⟨hg5, hgl5⟩, rfl, ho5, hl5⟩
    have HX6 : Hid _ := hide (below_trans HX4.out hb5)
    have HD6 : Hid _ := hide hb5
    have HO6 : Hid _ := hide ho5
    have HL6 : Hid _ := hide hl5
    have HG5 : Hid _ := hide (And.intro hg5 hgl5)
    clear hb5 ho5 hl5 hg5 hgl5
    go_wp2_with fail
    refine (HIM.out g5 w6 HL6.out).mono ?_
    rintro e w7 ⟨hb7, v7, rfl, g7, a7, c7, hg7, rfl, ho7⟩
    have HX7 : Hid _ := hide (below_trans HX6.out hb7)
    have HD7 : Hid _ := hide (below_trans HD6.out hb7)
    have HO7 : Hid _ := hide (HO6.out.below hb7)
    have HG7 : Hid _ := hide hg7
    have HR7 : Hid _ := hide ho7
    clear hb7 hg7 ho7 HX6 HD6 HO6 HL6
    have hm := HM1.out
    go_wp2_with fail
    refine (eqMoveS_any _ _ M _ _ w7 HM1.out HR7.out.rows (HS4.out.below HD7.out)).mono ?_
    rintro e w8 ⟨rfl, hb8⟩
    have HX8 : Hid _ := hide (below_trans HX7.out hb8)
    have HD8 : Hid _ := hide (below_trans HD7.out hb8)
    have HO8 : Hid _ := hide (HO7.out.below hb8)
    have HR8 : Hid _ := hide (HR7.out.below hb8)
    clear hb8 HX7 HD7 HO7 HR7
    go_wp2_with fail
    refine (toSlotS_any _ l _ w8 n1 (HL.out.below HX8.out)).mono ?_
    rintro e w9 ⟨hb9, g9, hg9, rfl, ho9, hl9⟩
    have HX9 : Hid _ := hide (below_trans HX8.out hb9)
    have HD9 : Hid _ := hide (below_trans HD8.out hb9)
    have HO9 : Hid _ := hide (HO8.out.below hb9)
    have HR9 : Hid _ := hide (HR8.out.below hb9)
    have HL9 : Hid _ := hide hl9
    clear hb9 HX8 HD8 HO8 HR8 hg9 ho9 hl9
    go_wp2_with fail
    refine (eqSlotS_any _ _ l _ _ w9 n1 HO9.out.rows HL9.out.row).mono ?_
    rintro e w10 ⟨rfl, hb10⟩
    have HX10 : Hid _ := hide (below_trans HX9.out hb10)
    have HD10 : Hid _ := hide (below_trans HD9.out hb10)
    have HO10 : Hid _ := hide (HO9.out.below hb10)
    have HR10 : Hid _ := hide (HR9.out.below hb10)
    clear hb10 HX9 HD9 HO9 HR9 HL9
    go_wp2_with fail
    refine (markSlotS_any _ l _ g5 1 w10 n1 (by omega) HO10.out).mono ?_
    rintro e w11 ⟨rfl, ht11, ho11⟩
    have HX11 : Hid _ := hide (HX10.out.trans (ht11.below (Nat.le_trans HX4.out.size HG5.out.1)))
    have HD11 : Hid _ := hide (HD10.out.trans (ht11.below HG5.out.1))
    have HR11 : Hid _ := hide (HR10.out.turned ht11 (fun _ => by have := HG5.out.2; have := HG7.out; omega))
    clear ht11 ho11 HX10 HD10 HO10 HR10
    have k1 : ¬ (1 : Int) + 3 * (l.length : Int) < 0 := by omega
    go_wp2_with fail
    refine (eqMoveS_any _ _ M _ _ w11 HM1.out HR11.out.rows (HS4.out.below HD11.out)).mono ?_
    rintro e w12 ⟨rfl, hb12⟩
    have HX12 : Hid _ := hide (below_trans HX11.out hb12)
    have HD12 : Hid _ := hide (below_trans HD11.out hb12)
    have HR12 : Hid _ := hide (HR11.out.below hb12)
    clear hb12 HX11 HD11 HR11
    go_wp2_with fail
    refine (markMoveS_any _ M _ g7 1 w12 HM1.out (by omega) HR12.out).mono ?_
    rintro e w13 ⟨rfl, ht13, ho13⟩
    have HX13 : Hid _ := hide (HX12.out.trans (ht13.below (by have := HX4.out.size; have := HG5.out.1; have := HG5.out.2; have := HG7.out; omega)))
    have HD13 : Hid _ := hide (HD12.out.trans (ht13.below (by have := HG5.out.1; have := HG5.out.2; have := HG7.out; omega)))
    have HR13 : Hid _ := hide ho13
    clear ht13 ho13 HX12 HD12 HR12
    have k2 : ¬ (1 : Int) + 3 * (M.length : Int) < 0 := by omega
    have k3 := bne_int ((1 : Int) + 3 * (M.length : Int))
    go_wp2_with fail
    refine (heldMoveS_any _ M.length _ 1 w13 HM1.out (by omega) HR13.out.rows).mono ?_
    rintro e w14 ⟨rfl, hw14⟩
    have hw14' := hw14.symm
    subst hw14'
    go_wp2_with fail
    refine (toSlotS_any _ l _ w13 n1 (HL.out.below HX13.out)).mono ?_
    rintro e w15 ⟨hb15, g15, hg15, rfl, ho15, hl15⟩
    have HL15 : Hid _ := hide hl15
    have B15 : Hid _ := hide hb15
    clear hb15 hg15 ho15 hl15
    go_wp2_with fail
    refine (HIM.out g15 w15 HL15.out).mono ?_
    rintro e w17 ⟨hb17, v17, rfl, g17, a17, c17, hg17, rfl, ho17⟩
    have b17 := below_trans B15.out hb17
    have HX17 : Hid _ := hide (below_trans HX13.out b17)
    have HD17 : Hid _ := hide (HD13.out.trans (b17.mono HD13.out.size))
    have HR17 : Hid _ := hide (HR13.out.below b17)
    have HN17 : Hid _ := hide ho17.rows
    clear hb17 hg17 ho17 b17 B15 HL15
    go_wp2_with fail
    refine (eqMoveS_any _ _ M _ _ w17 HM1.out HN17.out (HS4.out.below HD17.out)).mono ?_
    rintro e w18 ⟨rfl, hb18⟩
    have HX18 : Hid _ := hide (below_trans HX17.out hb18)
    have HR18 : Hid _ := hide (HR17.out.below hb18)
    clear hb18 HX17 HR17 HD17
    go_wp2_with fail
    refine (heldMoveS_any _ M.length _ 1 w18 HM1.out (by omega) HR18.out.rows).mono ?_
    rintro e w19 ⟨rfl, hw19⟩
    have hw19' := hw19.symm
    subst hw19'
    go_wp2
    go_ret
    exact ⟨rfl, HX18.out⟩
end Go.Proofs.Ythlkhdhheikadaa
