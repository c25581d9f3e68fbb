/- The walk of the law FnExactReceived. -/
import Derived.Test.YtjiiihmpcancbaaSRcv2
import Derived.Test.YtjiiihmpcancbaaChg
import Derived.Test.YtjiiihmpcancbaaLaw1
namespace Go.Proofs.Ytjiiihmpcancbaa
open Go.ChangeShapes Go.WideShapes Go.ChangeAt Go.RowKit
set_option linter.unusedVariables false
theorem rcvE_len (l : List Prc) (sent got ps pa : Int) : (rcvE ⟨l, sent, got⟩ ⟨ps, pa⟩).out.length ≤ l.length := by
  unfold rcvE
  split
  · split <;> simp
  · simp
theorem Cells3.three {B : Nat} {v0 v1 v2 : Value} {x : World} (h : Cells3 B v0 v1 v2 x) : x.cell? ⟨B, 0, none⟩ = some v0 ∧ x.cell? ⟨B, 1, none⟩ = some v1 ∧ x.cell? ⟨B, 2, none⟩ = some v2 := ⟨h.c0, h.c1, h.c2⟩
theorem Boxes.three {w x : World} {v0 : Value} {sent got ps pa : Int} (h : Boxes w v0 sent got ps pa x) : x.cell? ⟨w.heap.size, 0, none⟩ = some v0 ∧ x.cell? ⟨w.heap.size, 1, none⟩ = some (.int .i64 sent) ∧ x.cell? ⟨w.heap.size, 2, none⟩ = some (.int .i64 got) := ⟨h.e0, h.e1, h.e2⟩
set_option maxRecDepth 100000 in
set_option maxHeartbeats 40000000 in
theorem walkReceived (a : Option Addr) (l : List Prc) (ca : Nat) (sent got ps pa : Int) (w : World) (hl : RowAt 2 prcCells w a l) (m1 : l.length ≤ maxLen) :
    Calls Try.prog 5 #[.agg #[.slice a l.length ca, .int .i64 sent, .int .i64 got], .agg #[.int .i64 ps, .int .i64 pa]] w fun e w' => YesEnd w e w' := by
  have HL : Hid _ := hide hl
  clear hl
  have HX0 : Hid _ := hide (boxes_start w (.slice a l.length ca) sent got ps pa)
  go_enter Try.func5, Try.ntmps5
  go_wp2_with fail
  refine (szEnd_any _ l.length _ _ _ _ _ m1 (by omega)).mono ?_
  rintro e w1 ⟨hb1, r, rfl, hr1, hr⟩
  have HX1 : Hid _ := hide (HX0.out.next hb1)
  clear hb1 HX0
  by_cases q : r < 0
  · go_wp2
    go_ret
    exact ⟨rfl, HX1.out.old⟩
  · have n1 : l.length ≤ 1048576 := by have := hr (by omega); omega
    clear hr
    have HEL : Hid ((rcvE ⟨l, sent, got⟩ ⟨ps, pa⟩).out.length ≤ 1048576) := hide (Nat.le_trans (rcvE_len _ _ _ _ _) n1)
    have HSM : Hid (∀ (g : Nat) (x : World), RowAt 2 prcCells x (some ⟨g, 0, none⟩) l → Calls Try.prog 18 #[.agg #[.slice (some ⟨g, 0, none⟩) l.length l.length, .int .i64 sent, .int .i64 got], .agg #[.int .i64 ps, .int .i64 pa]] x fun e w' => EndTwo (rcvE ⟨l, sent, got⟩ ⟨ps, pa⟩) (rcvX ⟨l, sent, got⟩ ⟨ps, pa⟩) (rcvY ⟨l, sent, got⟩ ⟨ps, pa⟩) x e w') := hide (fun g x hx => specReceived_any g 0 l _ _ _ _ _ _ n1 hx)
    have HIM : Hid (∀ (g : Nat) (x : World), RowAt 2 prcCells x (some ⟨g, 0, none⟩) l → Calls Try.prog 20 #[.agg #[.slice (some ⟨g, 0, none⟩) l.length l.length, .int .i64 sent, .int .i64 got], .agg #[.int .i64 ps, .int .i64 pa]] x fun e w' => EndTwo (rcvE ⟨l, sent, got⟩ ⟨ps, pa⟩) (rcvX ⟨l, sent, got⟩ ⟨ps, pa⟩) (rcvY ⟨l, sent, got⟩ ⟨ps, pa⟩) x e w') := hide (fun g x hx => implReceived_any _ l _ _ _ _ _ _ n1 hx)
    generalize rcvE ⟨l, sent, got⟩ ⟨ps, pa⟩ = E at *
    generalize rcvX ⟨l, sent, got⟩ ⟨ps, pa⟩ = X at *
    generalize rcvY ⟨l, sent, got⟩ ⟨ps, pa⟩ = Y at *
    go_wp2_with fail
    have LW : Hid (w.heap.size + 2 ≤ w1.heap.size) := hide HX1.out.lt
    go_cut [6, 7, 8] (fun s6 s7 s8 wx => Hid (Mid E X Y w (.slice a l.length ca) sent got ps pa w1 s6 s7 s8 wx))
    case first =>
      go_region_held (fun x => x.cell? ⟨w.heap.size, 0, none⟩ = some (.slice a l.length ca) ∧ x.cell? ⟨w.heap.size, 1, none⟩ = some (.int .i64 sent) ∧ x.cell? ⟨w.heap.size, 2, none⟩ = some (.int .i64 got) ∧ x.cell? ⟨w.heap.size + 1, 0, none⟩ = some (.int .i64 ps) ∧ x.cell? ⟨w.heap.size + 1, 1, none⟩ = some (.int .i64 pa) ∧ Hid (Boxes w (.slice a l.length ca) sent got ps pa x ∧ Below w1.heap.size w1 x))
        (first | assumption | exact SB.of (HX1.out.next ((Below.refl _ _).drew)) ((Below.refl _ _).drew) | exact SB.on (by assumption) (by assumption) | exact SB.on (by assumption) (below_alloc (Below.refl _ _) _) | exact SB.on (by assumption) ((below_alloc (Below.refl _ _) _).drew) | exact SB.of (HX4.out.1.next (below_alloc (Below.refl _ _) _)) (below_alloc HX4.out.2 _) | exact SB.set (by assumption) (by first | exact L2.out | exact L3.out | exact Nat.le_refl _) LW.out)
        (first
          | (go_at_call 10; refine (toEnd_any _ l _ _ _ _ n1 (HL.out.below (by assumption : SB w (.slice a l.length ca) sent got ps pa w1 _).2.2.2.2.2.out.1.old)).mono ?_; rintro e w2 ⟨hb2, g2, rfl, ⟨hg2, hgl2⟩, ho2⟩; have L2 : Hid (w1.heap.size ≤ w2.heap.size) := hide (below_trans (by assumption : SB w (.slice a l.length ca) sent got ps pa w1 _).2.2.2.2.2.out.2 hb2).size)
          | (go_at_call 19; refine (toParcel_any _ _ _).mono ?_; rintro e w3 ⟨rfl, hb3⟩; have L3 : Hid (w1.heap.size ≤ w3.heap.size) := hide (below_trans (by assumption : SB w (.slice a l.length ca) sent got ps pa w1 _).2.2.2.2.2.out.2 hb3).size)
          | (go_at_call 18; refine (HSM.out g2 _ (by first | exact ho2.rows.below hb3 | exact (ho2.rows.below (below_alloc (Below.refl _ _) _)).below hb3 | exact (ho2.rows.below hb3).below (below_alloc (Below.refl _ _) _))).mono ?_; rintro e w4 ⟨hb4, v4, rfl, g4, a4, c4, hg4, rfl, ho4⟩; have HX4 : Hid (Boxes w (.slice a l.length ca) sent got ps pa w4 ∧ Below w1.heap.size w1 w4) := hide ((by assumption : SB w (.slice a l.length ca) sent got ps pa w1 _).on hb4).2.2.2.2.2.out; have HG4 : Hid (w1.heap.size ≤ g4) := hide (Nat.le_trans (by assumption : SB w (.slice a l.length ca) sent got ps pa w1 _).2.2.2.2.2.out.2.size hg4); (first | (have KF : ResMid w3.heap.size w4 := res_new hb4) | (have KF : ResMid w2.heap.size w4 := (res_new hb3).next hb4) | (have KF : ResMid w1.heap.size w4 := ((res_new_drew hb2).next hb3).next hb4) | skip); try (obtain ⟨⟨t0, r0⟩, ⟨t1, r1⟩, ⟨t2, r2⟩⟩ := And.intro (KF.c 0 (by omega)) (And.intro (KF.c 1 (by omega)) (KF.c 2 (by omega)))); try (have f0 := KF.f 0; have f1 := KF.f 1; have f2 := KF.f 2)))
      all_goals (go_wp2_with fail; go_meet)
      all_goals first
        | exact hide (mid_alloc HX4.out HG4.out ho4)
        | exact hide (mid_set HX4.out L3.out LW.out (Nat.lt_of_lt_of_le (by simp) hg4) KF ho4)
        | exact hide (mid_set HX4.out L2.out LW.out (Nat.lt_of_lt_of_le (Nat.lt_of_lt_of_le (by simp) hb3.size) hg4) KF ho4)
        | exact hide (mid_set HX4.out (Nat.le_refl _) LW.out (Nat.lt_of_lt_of_le (Nat.lt_of_lt_of_le (Nat.lt_of_lt_of_le (by simp) hb2.size) hb3.size) hg4) KF ho4)
    case rest =>
    rename World => w5
    obtain ⟨B6, a6, c6, g6, rfl, rfl, rfl, hbox, hkept, hlow⟩ := hcut.out
    have HX5 : Hid _ := hide hbox
    have HK6 : Hid _ := hide hkept
    clear hcut hbox hkept hlow HX1 HSM LW
    obtain ⟨x0, x1, x2⟩ := HX5.out.three
    go_wp2_with fail
    refine (toEnd_any _ l _ _ _ w5 n1 (HL.out.below HX5.out.old)).mono ?_
    rintro e w6 ⟨hb6, gx, rfl, ⟨hgx, hgxl⟩, ho6⟩
    clear x0 x1 x2
    obtain ⟨w7, hw7⟩ : ∃ w7, w7 = w6.alloc (.cells #[.slice (some ⟨gx, 0, none⟩) l.length l.length, .int .i64 sent, .int .i64 got] 29) := ⟨_, rfl⟩
    have b67 : Below w6.heap.size w6 w7 := by rw [hw7]; exact below_alloc (Below.refl _ _) _
    have HX7 : Hid _ := hide ((HX5.out.next hb6).next b67)
    have HK7 : Hid _ := hide ((HK6.out.on hb6).on b67)
    have HO7 : Hid _ := hide (ho6.below b67)
    have HC7 : Hid (Cells3 w6.heap.size (.slice (some ⟨gx, 0, none⟩) l.length l.length) (.int .i64 sent) (.int .i64 got) w7) := hide (by rw [hw7]; exact ⟨by simp, World.cell?_alloc_at _ _ _ _ rfl, World.cell?_alloc_at _ _ _ _ rfl, World.cell?_alloc_at _ _ _ _ rfl⟩)
    have HS7 : Hid (w7.heap.size = w6.heap.size + 1) := hide (by rw [hw7]; simp)
    have HG7 : Hid (w5.heap.size ≤ gx ∧ gx < w6.heap.size) := hide ⟨hgx, hgxl⟩
    have HB6 : Hid (B6 < w5.heap.size ∧ (0 < E.out.length → g6 < w5.heap.size)) := hide ⟨HK6.out.cells.lt, fun h0 => HK6.out.own.lt h0⟩
    have HW7 : Hid (w6.alloc (.cells #[.slice (some ⟨gx, 0, none⟩) l.length l.length, .int .i64 sent, .int .i64 got] 29) = w7) := hide hw7.symm
    have LX5 : Hid (w.heap.size + 2 ≤ w5.heap.size) := hide HX5.out.lt
    have HA6 : Hid (0 < E.out.length → a6 = some ⟨g6, 0, none⟩) := hide (fun h0 => (HK6.out.own.own h0).1)
    clear hb6 hgx hgxl ho6 hw7 b67 HX5 HK6
    go_wp2_with fail
    rw [HW7.out]
    clear HW7
    have LW : Hid (w.heap.size + 2 ≤ w7.heap.size) := hide HX7.out.lt
    go_cut [10, 11, 12] (fun s6 s7 s8 wx => Hid (Mid E X Y w (.slice a l.length ca) sent got ps pa w7 s6 s7 s8 wx))
    case first =>
      go_region_held (fun x => x.cell? ⟨w6.heap.size, 0, none⟩ = some (.slice (some ⟨gx, 0, none⟩) l.length l.length) ∧ x.cell? ⟨w6.heap.size, 1, none⟩ = some (.int .i64 sent) ∧ x.cell? ⟨w6.heap.size, 2, none⟩ = some (.int .i64 got) ∧ x.cell? ⟨w.heap.size + 1, 0, none⟩ = some (.int .i64 ps) ∧ x.cell? ⟨w.heap.size + 1, 1, none⟩ = some (.int .i64 pa) ∧ Hid (Boxes w (.slice a l.length ca) sent got ps pa x ∧ Below w7.heap.size w7 x))
        (first | assumption | exact SP.of (HX7.out.next ((Below.refl _ _).drew)) HC7.out ((Below.refl _ _).drew) | exact SP.on HC7.out (by assumption) (by assumption) | exact SP.on HC7.out (by assumption) (below_alloc (Below.refl _ _) _) | exact SP.on HC7.out (by assumption) ((below_alloc (Below.refl _ _) _).drew) | exact SP.of (HX4.out.1.next (below_alloc (Below.refl _ _) _)) HC7.out (below_alloc HX4.out.2 _) | exact SP.set HC7.out (by assumption) (by first | exact L3.out | exact Nat.le_refl _) LW.out)
        (first
          | (go_at_call 19; refine (toParcel_any _ _ _).mono ?_; rintro e w3 ⟨rfl, hb3⟩; have L3 : Hid (w7.heap.size ≤ w3.heap.size) := hide (below_trans (by assumption : SP w (.slice a l.length ca) sent got ps pa w7 w6.heap.size (.slice (some ⟨gx, 0, none⟩) l.length l.length) (.int .i64 sent) (.int .i64 got) _).2.2.2.2.2.out.2 hb3).size)
          | (go_at_call 20; refine (HIM.out gx _ (HO7.out.rows.below (by assumption : SP w (.slice a l.length ca) sent got ps pa w7 w6.heap.size (.slice (some ⟨gx, 0, none⟩) l.length l.length) (.int .i64 sent) (.int .i64 got) _).2.2.2.2.2.out.2)).mono ?_; rintro e w4 ⟨hb4, v4, rfl, g4, a4, c4, hg4, rfl, ho4⟩; have HX4 : Hid (Boxes w (.slice a l.length ca) sent got ps pa w4 ∧ Below w7.heap.size w7 w4) := hide (SP.on HC7.out (by assumption : SP w (.slice a l.length ca) sent got ps pa w7 w6.heap.size (.slice (some ⟨gx, 0, none⟩) l.length l.length) (.int .i64 sent) (.int .i64 got) _) hb4).2.2.2.2.2.out; have HG4 : Hid (w7.heap.size ≤ g4) := hide (Nat.le_trans (by assumption : SP w (.slice a l.length ca) sent got ps pa w7 w6.heap.size (.slice (some ⟨gx, 0, none⟩) l.length l.length) (.int .i64 sent) (.int .i64 got) _).2.2.2.2.2.out.2.size hg4); (first | (have KF : ResMid w3.heap.size w4 := res_new hb4) | (have KF : ResMid w7.heap.size w4 := (res_new_drew hb3).next hb4) | skip); try (obtain ⟨⟨t0, r0⟩, ⟨t1, r1⟩, ⟨t2, r2⟩⟩ := And.intro (KF.c 0 (by omega)) (And.intro (KF.c 1 (by omega)) (KF.c 2 (by omega)))); try (have f0 := KF.f 0; have f1 := KF.f 1; have f2 := KF.f 2)))
      all_goals (go_wp2_with fail; go_meet)
      all_goals first
        | exact hide (mid_alloc HX4.out HG4.out ho4)
        | exact hide (mid_set HX4.out L3.out LW.out (Nat.lt_of_lt_of_le (by simp) hg4) KF ho4)
        | exact hide (mid_set HX4.out (Nat.le_refl _) LW.out (Nat.lt_of_lt_of_le (Nat.lt_of_lt_of_le (by simp) hb3.size) hg4) KF ho4)
    case rest =>
    rename World => w8
    obtain ⟨B10, a10, c10, g10, rfl, rfl, rfl, hbox, hkept, hlow⟩ := hcut.out
    have HX8 : Hid _ := hide hbox
    have HK8 : Hid _ := hide (HK7.out.on hlow)
    have HO8 : Hid _ := hide (HO7.out.below hlow)
    have HC8 : Hid _ := hide (HC7.out.on hlow)
    have HR8 : Hid _ := hide hkept
    clear hcut hbox hkept hlow HX7 HK7 HO7 HC7 LW
    have hbX := bne_int X
    have hbY := bne_int Y
    have hm := HEL.out
    obtain ⟨x0, x1, x2⟩ := HR8.out.cells.three
    obtain ⟨y0, y1, y2⟩ := HK8.out.cells.three
    go_wp2_with fail
    refine (eqEnd_any _ _ E.out _ _ _ _ w8 HEL.out HR8.out.own.rows HK8.out.own.rows).mono ?_
    rintro e w11 ⟨rfl, hb11⟩
    have HX11 : Hid _ := hide (HX8.out.next hb11)
    have HK11 : Hid _ := hide (HK8.out.on hb11)
    have HO11 : Hid _ := hide (HO8.out.below hb11)
    have HC11 : Hid _ := hide (HC8.out.on hb11)
    have HR11 : Hid _ := hide (HR8.out.on hb11)
    clear hb11 HX8 HK8 HO8 HC8 HR8 x0 x1 x2 y0 y1 y2
    go_wp2_with fail
    go_region_held (fun x => x.cell? ⟨w6.heap.size, 0, none⟩ = some (.slice (some ⟨gx, 0, none⟩) l.length l.length) ∧ x.cell? ⟨w6.heap.size, 1, none⟩ = some (.int .i64 sent) ∧ x.cell? ⟨w6.heap.size, 2, none⟩ = some (.int .i64 got) ∧ x.cell? ⟨w.heap.size, 0, none⟩ = some (.slice a l.length ca) ∧ x.cell? ⟨w.heap.size, 1, none⟩ = some (.int .i64 sent) ∧ x.cell? ⟨w.heap.size, 2, none⟩ = some (.int .i64 got) ∧ Hid (Below w11.heap.size w11 x))
      (first | assumption | exact S6.of HC11.out.three HX11.out.three (Below.refl _ _).drew | exact S6.on (by assumption) (by assumption))
      (first
        | (go_at_call 10; refine (toEnd_any _ l _ _ _ _ n1 (HL.out.below (HX11.out.next (by assumption : S6 w6.heap.size w.heap.size (.slice (some ⟨gx, 0, none⟩) l.length l.length) (.int .i64 sent) (.int .i64 got) (.slice a l.length ca) (.int .i64 sent) (.int .i64 got) w11 _).2.2.2.2.2.2.out).old)).mono ?_; rintro e w12 ⟨hb12, g12, rfl, hg12, ho12⟩)
        | (go_at_call 12; refine (eqEnd_any _ _ l _ _ _ _ _ n1 (HO11.out.rows.below (by assumption : S6 w6.heap.size w.heap.size (.slice (some ⟨gx, 0, none⟩) l.length l.length) (.int .i64 sent) (.int .i64 got) (.slice a l.length ca) (.int .i64 sent) (.int .i64 got) w11 _).2.2.2.2.2.2.out) ho12.rows).mono ?_; rintro e w13 ⟨rfl, hb13⟩))
    have b13 := (by assumption : S6 w6.heap.size w.heap.size (.slice (some ⟨gx, 0, none⟩) l.length l.length) (.int .i64 sent) (.int .i64 got) (.slice a l.length ca) (.int .i64 sent) (.int .i64 got) w11 w13).2.2.2.2.2.2.out
    have HX13 : Hid _ := hide (HX11.out.next b13)
    have HK13 : Hid _ := hide (HK11.out.on b13)
    have HO13 : Hid _ := hide (HO11.out.below b13)
    have HC13 : Hid _ := hide (HC11.out.on b13)
    have HR13 : Hid _ := hide (HR11.out.on b13)
    clear hb12 hg12 ho12 hb13 b13 HX11 HK11 HO11 HC11 HR11
    obtain ⟨x0, x1, x2⟩ := HC13.out.three
    go_wp2_with fail
    refine (markEnd_any _ l _ gx _ _ 1 w13 n1 (by omega) HO13.out).mono ?_
    rintro e w14 ⟨rfl, _, hk14⟩
    have HCH : Hid (Chg gx w13 w14) := hide hk14
    have HX14 : Hid _ := hide (HX13.out.on (B := gx) (by have := HG7.out; have := HK13.out.lo1; have := HB6.out.1; have := HX13.out.lt; have := LX5.out; omega) (HCH.out.below (Nat.le_refl _) (by have := HO13.out.rows; have := HG7.out.2; have := HC13.out.lt; omega)))
    have HK14 : Hid (Cells3 B6 (.slice a6 E.out.length c6) (.int .i64 E.sent) (.int .i64 E.got) w14 ∧ RowAt 2 prcCells w14 a6 E.out) := hide ⟨HK13.out.cells.chg HCH.out (by have := HG7.out.1; have := HB6.out.1; omega), chg_row HK13.out.own.rows HCH.out (fun b off h0 e => by
      rw [(HK13.out.own.own h0).1] at e
      simp only [Option.some.injEq, Addr.mk.injEq, and_true] at e
      have := HB6.out.2 h0; have := HG7.out.1; omega)⟩
    have HR14 : Hid (Kept1 E B10 a10 c10 g10 w7.heap.size w14) := hide ⟨HR13.out.lo1, HR13.out.lo2, HR13.out.ne, HR13.out.cells.chg HCH.out (by have := HR13.out.lo1; have := HG7.out.2; have := HS7.out; omega), chg_own HR13.out.own HCH.out (fun _ => by have := HR13.out.lo2; have := HG7.out.2; have := HS7.out; omega)⟩
    clear hk14 HCH HX13 HK13 HO13 HC13 HR13 x0 x1 x2
    have k1 : ¬ (1 : Int) + 2 * (l.length : Int) < 0 := by omega
    obtain ⟨x0, x1, x2⟩ := HR14.out.cells.three
    obtain ⟨y0, y1, y2⟩ := HK14.out.1.three
    go_wp2_with fail
    refine (eqEnd_any _ _ E.out _ _ _ _ w14 HEL.out HR14.out.own.rows HK14.out.2).mono ?_
    rintro e w15 ⟨rfl, hb15⟩
    have HX15 : Hid _ := hide (HX14.out.next hb15)
    have HK15 : Hid _ := hide (And.intro (HK14.out.1.on hb15) (HK14.out.2.below hb15))
    have HR15 : Hid _ := hide (HR14.out.on hb15)
    clear hb15 HX14 HK14 HR14 x0 x1 x2 y0 y1 y2
    obtain ⟨x0, x1, x2⟩ := HR15.out.cells.three
    go_wp2_with fail
    refine (markEnd_any _ E.out _ g10 _ _ 1 w15 HEL.out (by omega) HR15.out.own).mono ?_
    rintro e w16 ⟨rfl, ho16, hk16⟩
    have HCH : Hid (Chg g10 w15 w16) := hide hk16
    have HX16 : Hid _ := hide (HX15.out.on (B := w.heap.size + 2) (Nat.le_refl _) (HCH.out.below (by have := HR15.out.lo2; have := HS7.out; have := HG7.out; have := LX5.out; omega) HX15.out.lt))
    have HK16 : Hid (Cells3 B6 (.slice a6 E.out.length c6) (.int .i64 E.sent) (.int .i64 E.got) w16 ∧ RowAt 2 prcCells w16 a6 E.out) := hide ⟨HK15.out.1.chg HCH.out (by have := HR15.out.lo2; have := HS7.out; have := HG7.out; have := HB6.out.1; omega), chg_row HK15.out.2 HCH.out (fun b off h0 e => by
      have h6 := HA6.out h0
      rw [h6] at e
      simp only [Option.some.injEq, Addr.mk.injEq, and_true] at e
      have := HB6.out.2 h0; have := HR15.out.lo2; have := HS7.out; have := HG7.out; omega)⟩
    have HR16 : Hid (Cells3 B10 (.slice a10 E.out.length c10) (.int .i64 E.sent) (.int .i64 E.got) w16 ∧ OwnRow 2 prcCells w16 g10 a10 c10 (markL 1 E.out.length)) := hide ⟨HR15.out.cells.chg HCH.out HR15.out.ne, ho16⟩
    clear hk16 ho16 HCH HX15 HK15 HR15 x0 x1 x2
    have k2 : ¬ (1 : Int) + 2 * (E.out.length : Int) < 0 := by omega
    have k3 := bne_int ((1 : Int) + 2 * (E.out.length : Int))
    obtain ⟨x0, x1, x2⟩ := HR16.out.1.three
    go_wp2_with fail
    refine (heldEnd_any _ E.out.length _ _ _ 1 w16 HEL.out (by omega) HR16.out.2.rows).mono ?_
    rintro e w17 ⟨rfl, hb17⟩
    have HX17 : Hid _ := hide (HX16.out.next hb17)
    have HK17 : Hid _ := hide (And.intro (HK16.out.1.on hb17) (HK16.out.2.below hb17))
    have HR17 : Hid _ := hide (And.intro (HR16.out.1.on hb17) (HR16.out.2.below hb17))
    clear hb17 HX16 HK16 HR16 x0 x1 x2
    go_wp2_with fail
    have LW : Hid (w.heap.size + 2 ≤ w17.heap.size) := hide HX17.out.lt
    go_cut [16, 17, 18] (fun s6 s7 s8 wx => Hid (Mid E X Y w (.slice a l.length ca) sent got ps pa w17 s6 s7 s8 wx))
    case first =>
      go_region_held (fun x => x.cell? ⟨w.heap.size, 0, none⟩ = some (.slice a l.length ca) ∧ x.cell? ⟨w.heap.size, 1, none⟩ = some (.int .i64 sent) ∧ x.cell? ⟨w.heap.size, 2, none⟩ = some (.int .i64 got) ∧ x.cell? ⟨w.heap.size + 1, 0, none⟩ = some (.int .i64 ps) ∧ x.cell? ⟨w.heap.size + 1, 1, none⟩ = some (.int .i64 pa) ∧ Hid (Boxes w (.slice a l.length ca) sent got ps pa x ∧ Below w17.heap.size w17 x))
        (first | assumption | exact SB.of (HX17.out.next ((Below.refl _ _).drew)) ((Below.refl _ _).drew) | exact SB.on (by assumption) (by assumption) | exact SB.on (by assumption) (below_alloc (Below.refl _ _) _) | exact SB.on (by assumption) ((below_alloc (Below.refl _ _) _).drew) | exact SB.of (HX4.out.1.next (below_alloc (Below.refl _ _) _)) (below_alloc HX4.out.2 _) | exact SB.set (by assumption) (by first | exact L2.out | exact L3.out | exact Nat.le_refl _) LW.out)
        (first
          | (go_at_call 10; refine (toEnd_any _ l _ _ _ _ n1 (HL.out.below (by assumption : SB w (.slice a l.length ca) sent got ps pa w17 _).2.2.2.2.2.out.1.old)).mono ?_; rintro e w2 ⟨hb2, g2, rfl, ⟨hg2, hgl2⟩, ho2⟩; have L2 : Hid (w17.heap.size ≤ w2.heap.size) := hide (below_trans (by assumption : SB w (.slice a l.length ca) sent got ps pa w17 _).2.2.2.2.2.out.2 hb2).size)
          | (go_at_call 19; refine (toParcel_any _ _ _).mono ?_; rintro e w3 ⟨rfl, hb3⟩; have L3 : Hid (w17.heap.size ≤ w3.heap.size) := hide (below_trans (by assumption : SB w (.slice a l.length ca) sent got ps pa w17 _).2.2.2.2.2.out.2 hb3).size)
          | (go_at_call 20; refine (HIM.out g2 _ (by first | exact ho2.rows.below hb3 | exact (ho2.rows.below (below_alloc (Below.refl _ _) _)).below hb3 | exact (ho2.rows.below hb3).below (below_alloc (Below.refl _ _) _))).mono ?_; rintro e w4 ⟨hb4, v4, rfl, g4, a4, c4, hg4, rfl, ho4⟩; have HX4 : Hid (Boxes w (.slice a l.length ca) sent got ps pa w4 ∧ Below w17.heap.size w17 w4) := hide ((by assumption : SB w (.slice a l.length ca) sent got ps pa w17 _).on hb4).2.2.2.2.2.out; have HG4 : Hid (w17.heap.size ≤ g4) := hide (Nat.le_trans (by assumption : SB w (.slice a l.length ca) sent got ps pa w17 _).2.2.2.2.2.out.2.size hg4); (first | (have KF : ResMid w3.heap.size w4 := res_new hb4) | (have KF : ResMid w2.heap.size w4 := (res_new hb3).next hb4) | (have KF : ResMid w17.heap.size w4 := ((res_new_drew hb2).next hb3).next hb4) | skip); try (obtain ⟨⟨t0, r0⟩, ⟨t1, r1⟩, ⟨t2, r2⟩⟩ := And.intro (KF.c 0 (by omega)) (And.intro (KF.c 1 (by omega)) (KF.c 2 (by omega)))); try (have f0 := KF.f 0; have f1 := KF.f 1; have f2 := KF.f 2)))
      all_goals (go_wp2_with fail; go_meet)
      all_goals first
        | exact hide (mid_alloc HX4.out HG4.out ho4)
        | exact hide (mid_set HX4.out L3.out LW.out (Nat.lt_of_lt_of_le (by simp) hg4) KF ho4)
        | exact hide (mid_set HX4.out L2.out LW.out (Nat.lt_of_lt_of_le (Nat.lt_of_lt_of_le (by simp) hb3.size) hg4) KF ho4)
        | exact hide (mid_set HX4.out (Nat.le_refl _) LW.out (Nat.lt_of_lt_of_le (Nat.lt_of_lt_of_le (Nat.lt_of_lt_of_le (by simp) hb2.size) hb3.size) hg4) KF ho4)
    case rest =>
    rename World => w18
    obtain ⟨B16, a16, c16, g16, rfl, rfl, rfl, hbox, hkept, hlow⟩ := hcut.out
    have HX18 : Hid _ := hide hbox
    have HN18 : Hid _ := hide hkept
    have HK18 : Hid _ := hide (And.intro (HK17.out.1.on hlow) (HK17.out.2.below hlow))
    have HR18 : Hid _ := hide (And.intro (HR17.out.1.on hlow) (HR17.out.2.below hlow))
    clear hcut hbox hkept hlow HX17 HK17 HR17 LW
    obtain ⟨x0, x1, x2⟩ := HN18.out.cells.three
    obtain ⟨y0, y1, y2⟩ := HK18.out.1.three
    go_wp2_with fail
    refine (eqEnd_any _ _ E.out _ _ _ _ w18 HEL.out HN18.out.own.rows HK18.out.2).mono ?_
    rintro e w19 ⟨rfl, hb19⟩
    have HX19 : Hid _ := hide (HX18.out.next hb19)
    have HR19 : Hid _ := hide (And.intro (HR18.out.1.on hb19) (HR18.out.2.below hb19))
    clear hb19 HX18 HN18 HK18 HR18 x0 x1 x2 y0 y1 y2
    obtain ⟨x0, x1, x2⟩ := HR19.out.1.three
    go_wp2_with fail
    refine (heldEnd_any _ E.out.length _ _ _ 1 w19 HEL.out (by omega) HR19.out.2.rows).mono ?_
    rintro e w20 ⟨rfl, hb20⟩
    have HX20 : Hid _ := hide (HX19.out.next hb20)
    clear hb20
    go_wp2
    go_ret
    exact ⟨rfl, HX20.out.old⟩
end Go.Proofs.Ytjiiihmpcancbaa
