/- The walk of the law Whole. -/
import Derived.Test.YtpfghmghlklhgaaWLaw
import Derived.Test.YtpfghmghlklhgaaWhole
namespace Go.Proofs.Ytpfghmghlklhgaa
open Go.ChangeShapes Go.WideShapes Go.ChangeAt Go.RowKit
set_option linter.unusedVariables false
set_option maxRecDepth 100000
set_option maxHeartbeats 8000000 in
theorem walkWhole (st : Int) (na : Option Addr) (l : List Nd) (nc : Nat) (ma : Option Addr) (ms : List Mg) (mc : Nat) (w : World) (hin : WorldIn w na l ma ms) :
    Calls Try.prog 6 #[.agg #[.int .i64 st, .slice na l.length nc, .slice ma ms.length mc]] w fun e w' => YesEnd w e w' := by
  have HL : Hid _ := hide hin.1
  have HG : Hid _ := hide hin.2.1
  have HIN : Hid _ := hide hin
  clear hin
  have KX0 : Hid (Blk w.heap.size [.int .i64 st, .slice na l.length nc, .slice ma ms.length mc] (w.alloc (.cells #[.int .i64 st, .slice na l.length nc, .slice ma ms.length mc] 38))) := hide Blk.new
  have HX0 : Hid (Below w.heap.size w (w.alloc (.cells #[.int .i64 st, .slice na l.length nc, .slice ma ms.length mc] 38))) := hide (below_alloc (Below.refl _ _) _)
  go_enter Try.func6, Try.ntmps6
  go_wp2_with fail
  refine (szWorld_any st _ l _ _ ms _ _ _ ⟨HIN.out.2.2.1, HIN.out.2.2.2.1, HIN.out.2.2.2.2⟩ (by omega) (HL.out.below HX0.out)).mono ?_
  rintro e w1 ⟨hb1, r, rfl, hr1, hr2, hr⟩
  have HX1 : Hid _ := hide (below_trans HX0.out hb1)
  have KX1 : Hid _ := hide (KX0.out.below hb1)
  have HR : Hid _ := hide hr
  clear hb1 HX0 KX0 hr
  by_cases q : r < 0
  · go_wp2
    go_ret
    exact ⟨rfl, HX1.out⟩
  · have HM : Hid (SmW l ms) := hide (HR.out (by omega))
    clear HR
    have x0 := KX1.out.c 0 _ rfl
    have x1 := KX1.out.c 1 _ rfl
    have x2 := KX1.out.c 2 _ rfl
    go_wp2_with fail
    refine (toWorld_any st _ l _ _ ms _ _ HM.out (HL.out.below HX1.out) (HG.out.below HX1.out)).mono ?_
    rintro e w2 ⟨hb2, g2, h2, l2, rfl, hd2, hn2, hm2⟩
    have HX2 : Hid _ := hide (below_trans HX1.out hb2)
    have KX2 : Hid _ := hide (KX1.out.below hb2)
    have HI2 : Hid _ := hide (specWhole_any st (some ⟨g2, 0, none⟩) l2 l.length (some ⟨h2, 0, none⟩) ms ms.length w2 (smNs_same hd2 HM.out.1).1 HM.out.2 (smNs_same hd2 HM.out.1).2 hn2 hm2)
    rw [samen_len hd2, hd2] at HI2
    clear hb2 hn2 hm2 hd2 HX1 KX1 x0 x1 x2
    go_wp2_with fail
    refine HI2.out.mono ?_
    rintro e w3 ⟨rfl, hb3⟩
    have HX3 : Hid _ := hide (below_trans HX2.out hb3)
    have KX3 : Hid _ := hide (KX2.out.below hb3)
    clear hb3 HI2 HX2 KX2
    have x0 := KX3.out.c 0 _ rfl
    have x1 := KX3.out.c 1 _ rfl
    have x2 := KX3.out.c 2 _ rfl
    go_wp2_with fail
    refine (toWorld_any st _ l _ _ ms _ _ HM.out (HL.out.below HX3.out) (HG.out.below HX3.out)).mono ?_
    rintro e w4 ⟨hb4, g4, h4, l4, rfl, hd4, hn4, hm4⟩
    have HX4 : Hid _ := hide (below_trans HX3.out hb4)
    have KX4 : Hid _ := hide (KX3.out.below hb4)
    have HL4 : Hid _ := hide (And.intro hn4 hm4)
    have HD4 : Hid _ := hide hd4
    clear hb4 hn4 hm4 hd4 HX3 KX3 x0 x1 x2
    have KY4 : Hid (Blk w4.heap.size [.int .i64 st, .slice (some ⟨g4, 0, none⟩) l.length l.length, .slice (some ⟨h4, 0, none⟩) ms.length ms.length] (w4.alloc (.cells #[.int .i64 st, .slice (some ⟨g4, 0, none⟩) l.length l.length, .slice (some ⟨h4, 0, none⟩) ms.length ms.length] 44))) := hide Blk.new
    have HY4 : Hid (Below w4.heap.size w4 (w4.alloc (.cells #[.int .i64 st, .slice (some ⟨g4, 0, none⟩) l.length l.length, .slice (some ⟨h4, 0, none⟩) ms.length ms.length] 44))) := hide (below_alloc (Below.refl _ _) _)
    go_wp2_with fail
    have HI : Hid _ := hide (implWhole_any st (some ⟨g4, 0, none⟩) l4 l.length (some ⟨h4, 0, none⟩) ms ms.length (w4.alloc (.cells #[.int .i64 st, .slice (some ⟨g4, 0, none⟩) l.length l.length, .slice (some ⟨h4, 0, none⟩) ms.length ms.length] 44)) (smNs_same HD4.out HM.out.1).1 HM.out.2 (smNs_same HD4.out HM.out.1).2 (HL4.out.1.below HY4.out) (HL4.out.2.below HY4.out))
    rw [samen_len HD4.out, HD4.out] at HI
    refine HI.out.mono ?_
    rintro e w6 ⟨rfl, hb6⟩
    have b46 := below_trans HY4.out hb6
    have HX6 : Hid _ := hide (below_trans HX4.out b46)
    have KX6 : Hid _ := hide (KX4.out.below b46)
    have KY6 : Hid _ := hide (KY4.out.below hb6)
    have HL6 : Hid _ := hide (And.intro (HL4.out.1.below b46) (HL4.out.2.below b46))
    clear hb6 b46 HY4 HX4 HL4 KX4 KY4 HI
    have hbn := bne_bool (worldB ⟨st, l.map Nd.d, ms⟩)
    go_wp2_with fail
    go_region_held (fun x => x.cell? ⟨w4.heap.size, 0, none⟩ = some (.int .i64 st) ∧ x.cell? ⟨w4.heap.size, 1, none⟩ = some (.slice (some ⟨g4, 0, none⟩) l.length l.length) ∧ x.cell? ⟨w4.heap.size, 2, none⟩ = some (.slice (some ⟨h4, 0, none⟩) ms.length ms.length) ∧ x.cell? ⟨w.heap.size, 0, none⟩ = some (.int .i64 st) ∧ x.cell? ⟨w.heap.size, 1, none⟩ = some (.slice na l.length nc) ∧ x.cell? ⟨w.heap.size, 2, none⟩ = some (.slice ma ms.length mc) ∧ Hid (Below w6.heap.size w6 x))
      (first | assumption | exact S6w.of KY6.out KX6.out (Below.refl _ _).drew | exact S6w.on (by assumption) (by assumption))
      (first
        | (go_at_call 15; refine (toWorld_any st _ l _ _ ms _ _ HM.out (HL.out.below (below_trans HX6.out (S6w.old (by assumption : S6w w4.heap.size w.heap.size (.int .i64 st) (.slice (some ⟨g4, 0, none⟩) l.length l.length) (.slice (some ⟨h4, 0, none⟩) ms.length ms.length) (.int .i64 st) (.slice na l.length nc) (.slice ma ms.length mc) w6 _)))) (HG.out.below (below_trans HX6.out (S6w.old (by assumption : S6w w4.heap.size w.heap.size (.int .i64 st) (.slice (some ⟨g4, 0, none⟩) l.length l.length) (.slice (some ⟨h4, 0, none⟩) ms.length ms.length) (.int .i64 st) (.slice na l.length nc) (.slice ma ms.length mc) w6 _))))).mono ?_; rintro e w7 ⟨hb7, g7, h7, l7, rfl, hd7, hn7, hm7⟩)
        | (go_at_call 17; refine (eqWorld4 st l l4 l7 ms HM.out HD4.out hd7 _ _ _ _ _ _ _ _ _ (HL6.out.1.below (S6w.old (by assumption : S6w w4.heap.size w.heap.size (.int .i64 st) (.slice (some ⟨g4, 0, none⟩) l.length l.length) (.slice (some ⟨h4, 0, none⟩) ms.length ms.length) (.int .i64 st) (.slice na l.length nc) (.slice ma ms.length mc) w6 _))) hn7 (HL6.out.2.below (S6w.old (by assumption : S6w w4.heap.size w.heap.size (.int .i64 st) (.slice (some ⟨g4, 0, none⟩) l.length l.length) (.slice (some ⟨h4, 0, none⟩) ms.length ms.length) (.int .i64 st) (.slice na l.length nc) (.slice ma ms.length mc) w6 _))) hm7).mono ?_; rintro e w8 ⟨rfl, hb8⟩))
    have HE : Hid (Below w.heap.size w w8) := hide (below_trans HX6.out (S6w.old (by assumption : S6w w4.heap.size w.heap.size (.int .i64 st) (.slice (some ⟨g4, 0, none⟩) l.length l.length) (.slice (some ⟨h4, 0, none⟩) ms.length ms.length) (.int .i64 st) (.slice na l.length nc) (.slice ma ms.length mc) w6 w8)))
    clear hb7 hn7 hm7 hd7 hb8
    go_wp2
    go_ret
    exact ⟨rfl, HE.out⟩
end Go.Proofs.Ytpfghmghlklhgaa
