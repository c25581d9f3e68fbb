/- The walk of the law FnExactPacked. -/
import Derived.Test.YtjiiihmpcancbaaSPk2
import Derived.Test.YtjiiihmpcancbaaChg
import Derived.Test.YtjiiihmpcancbaaLaw1
namespace Go.Proofs.Ytjiiihmpcancbaa
open Go.ChangeShapes Go.WideShapes Go.ChangeAt Go.RowKit
set_option linter.unusedVariables false
theorem pkE_len (l : List Prc) (sent got amt : Int) (h : l.length ≤ 1048576) : (pkE ⟨l, sent, got⟩ amt).out.length ≤ 1048576 := by
  unfold pkE
  cases q : pkOk ⟨l, sent, got⟩ amt
  · simp
  · have h8 : l.length ≠ 8 := by intro e; simp [pkOk, e] at q
    have q1 : endB ⟨l, sent, got⟩ = true := by cases q1 : endB ⟨l, sent, got⟩ <;> simp [pkOk, q1] at q ⊢
    have := (endB_parts q1).1
    simp only [if_true, List.length_append, List.length_cons, List.length_nil]
    simp only at this
    omega
theorem cells3_all {B : Nat} {v0 v1 v2 : Value} {x : World} (h : Cells3 B v0 v1 v2 x) : x.cell? ⟨B, 0, none⟩ = some v0 ∧ x.cell? ⟨B, 1, none⟩ = some v1 ∧ x.cell? ⟨B, 2, none⟩ = some v2 := ⟨h.c0, h.c1, h.c2⟩
/-- a block of two cells -/
structure Cells2 (B : Nat) (v0 v1 : Value) (x : World) : Prop where
  lt : B < x.heap.size
  c0 : x.cell? ⟨B, 0, none⟩ = some v0
  c1 : x.cell? ⟨B, 1, none⟩ = some v1
theorem Cells2.on {B : Nat} {v0 v1 : Value} {x y : World} (h : Cells2 B v0 v1 x) (b : Below x.heap.size x y) : Cells2 B v0 v1 y :=
  ⟨Nat.lt_of_lt_of_le h.lt b.size, (b.cell h.lt).trans h.c0, (b.cell h.lt).trans h.c1⟩
theorem Cells2.chg {B g : Nat} {v0 v1 : Value} {x y : World} (h : Cells2 B v0 v1 x) (k : Chg g x y) (hne : B ≠ g) : Cells2 B v0 v1 y := by
  obtain ⟨z, b, t⟩ := k
  have h' := h.on b
  exact ⟨by rw [t.size]; exact h'.lt, (t.cell hne).trans h'.c0, (t.cell hne).trans h'.c1⟩
theorem cells2_alloc (x : World) (v0 v1 : Value) (T : TypeId) {n : Nat} (hn : n = x.heap.size) : Cells2 n v0 v1 (x.alloc (.cells #[v0, v1] T)) := by
  subst hn
  exact ⟨by simp, World.cell?_alloc_at _ _ _ _ rfl, World.cell?_alloc_at _ _ _ _ rfl⟩
theorem cells2_two {B : Nat} {v0 v1 : Value} {x : World} (h : Cells2 B v0 v1 x) : x.cell? ⟨B, 0, none⟩ = some v0 ∧ x.cell? ⟨B, 1, none⟩ = some v1 := ⟨h.c0, h.c1⟩
set_option maxRecDepth 100000 in
set_option maxHeartbeats 40000000 in
theorem walkPacked (a : Option Addr) (l : List Prc) (ca : Nat) (sent got s : Int) (w : World) (hl : RowAt 2 prcCells w a l) (m1 : l.length ≤ maxLen) :
    Calls Try.prog 4 #[.agg #[.slice a l.length ca, .int .i64 sent, .int .i64 got], .int .i64 s] w fun e w' => YesEnd w e w' := by
  have HL : Hid _ := hide hl
  clear hl
  have HX0 : Hid (Below (w.heap.size + 1) (w.alloc (.cells #[.slice a l.length ca, .int .i64 sent, .int .i64 got] 24)) (w.alloc (.cells #[.slice a l.length ca, .int .i64 sent, .int .i64 got] 24))) := hide (Below.refl _ _)
  go_enter Try.func4, Try.ntmps4
  go_wp2_with fail
  refine (szEnd_any _ l.length _ _ _ _ _ m1 (by omega)).mono ?_
  rintro e w1 ⟨hb1, r, rfl, hr1, hr⟩
  have HX1 : Hid _ := hide (box_on HX0.out hb1)
  clear hb1 HX0
  by_cases q : r < 0
  · go_wp2
    go_ret
    exact ⟨rfl, box_old HX1.out⟩
  · have n1 : l.length ≤ 1048576 := by have := hr (by omega); omega
    clear hr
    have HEL : Hid ((pkE ⟨l, sent, got⟩ s).out.length ≤ 1048576) := hide (pkE_len _ _ _ _ n1)
    have HSM : Hid (∀ (g : Nat) (x : World), RowAt 2 prcCells x (some ⟨g, 0, none⟩) l → Calls Try.prog 13 #[.agg #[.slice (some ⟨g, 0, none⟩) l.length l.length, .int .i64 sent, .int .i64 got], .int .i64 s] x fun e w' => EndPrc (pkE ⟨l, sent, got⟩ s) (pkP ⟨l, sent, got⟩ s) (pkOk ⟨l, sent, got⟩ s) x e w') := hide (fun g x hx => specPacked_any _ _ l _ _ _ _ _ n1 hx)
    have HIM : Hid (∀ (g : Nat) (x : World), RowAt 2 prcCells x (some ⟨g, 0, none⟩) l → Calls Try.prog 14 #[.agg #[.slice (some ⟨g, 0, none⟩) l.length l.length, .int .i64 sent, .int .i64 got], .int .i64 s] x fun e w' => EndPrc (pkE ⟨l, sent, got⟩ s) (pkP ⟨l, sent, got⟩ s) (pkOk ⟨l, sent, got⟩ s) x e w') := hide (fun g x hx => implPacked_any _ l _ _ _ _ _ n1 hx)
    generalize pkE ⟨l, sent, got⟩ s = E at *
    generalize pkP ⟨l, sent, got⟩ s = p at *
    generalize pkOk ⟨l, sent, got⟩ s = F at *
    obtain ⟨x0, x1, x2⟩ := box3 HX1.out
    go_wp2_with fail
    refine (toEnd_any _ l _ _ _ w1 n1 (HL.out.below (box_old HX1.out))).mono ?_
    rintro e w2 ⟨hb2, g2, rfl, hg2, ho2⟩
    have HX2 : Hid _ := hide (box_on HX1.out hb2)
    have HO2 : Hid _ := hide ho2
    have LW2 : Hid (w.heap.size + 1 ≤ w2.heap.size) := hide (box_lt HX2.out)
    clear hb2 hg2 ho2 HX1 x0 x1 x2
    go_wp2_with fail
    refine (HSM.out g2 w2 HO2.out.rows).mono ?_
    rintro e w3 ⟨hb3, v3, rfl, g3, a6, c6, hg3, rfl, ho3⟩
    obtain ⟨w5a, hw5a⟩ : ∃ w5a, w5a = w3.alloc (.cells #[.slice a6 E.out.length c6, .int .i64 E.sent, .int .i64 E.got] 29) := ⟨_, rfl⟩
    obtain ⟨w5, hw5⟩ : ∃ w5, w5 = w5a.alloc (.cells #[.int .i64 p.seq, .int .i64 p.amt] 34) := ⟨_, rfl⟩
    have ba5 : Below w5a.heap.size w5a w5 := by rw [hw5]; exact below_alloc (Below.refl _ _) _
    have sa5 : w5a.heap.size = w3.heap.size + 1 := by rw [hw5a]; simp
    have b35 : Below w3.heap.size w3 w5 := below_trans (by rw [hw5a]; exact below_alloc (Below.refl _ _) _) ba5
    have HP5 : Hid (Cells2 (w3.heap.size + 1) (.int .i64 p.seq) (.int .i64 p.amt) w5) := hide (by rw [hw5]; exact cells2_alloc _ _ _ _ sa5.symm)
    have HX5 : Hid _ := hide (box_on (box_on HX2.out hb3) b35)
    obtain ⟨g6, hk⟩ := kept_alloc (E := E) hg3 hb3.size ho3 (own_lt_or ho3)
    have HK5 : Hid (Kept1 E w3.heap.size a6 c6 g6 w2.heap.size w5) := hide ((by rw [hw5a]; exact hk : Kept1 E w3.heap.size a6 c6 g6 w2.heap.size w5a).on ba5)
    have HW5 : Hid ((w3.alloc (.cells #[.slice a6 E.out.length c6, .int .i64 E.sent, .int .i64 E.got] 29)).alloc (.cells #[.int .i64 p.seq, .int .i64 p.amt] 34) = w5) := hide (by rw [hw5, hw5a])
    have LX5 : Hid (w.heap.size + 1 ≤ w5.heap.size) := hide (box_lt HX5.out)
    have HB5 : Hid (w3.heap.size + 1 < w5.heap.size) := hide HP5.out.lt
    clear hb3 hg3 ho3 hk hw5 hw5a ba5 sa5 b35 HX2 HO2
    have x0 := (box3 HX5.out).1
    have x1 := (box3 HX5.out).2.1
    have x2 := (box3 HX5.out).2.2
    rw [← HW5.out] at x0 x1 x2
    have lt3 : w.heap.size < w3.heap.size := by
      have := HK5.out.lo1; have := LX5.out
      have := HX5.out.size
      have h2 : w.heap.size + 1 ≤ w2.heap.size := LW2.out
      omega
    go_wp2_with fail
    rw [HW5.out]
    rw [HW5.out] at x0 x1 x2
    refine (toEnd_any _ l _ _ _ w5 n1 (HL.out.below (box_old HX5.out))).mono ?_
    rintro e w6 ⟨hb6, gx, rfl, ⟨hgx, hgxl⟩, ho6⟩
    clear x0 x1 x2 lt3
    obtain ⟨w7, hw7⟩ : ∃ w7, w7 = w6.alloc (.cells #[.slice (some ⟨gx, 0, none⟩) l.length l.length, .int .i64 sent, .int .i64 got] 29) := ⟨_, rfl⟩
    have b67 : Below w6.heap.size w6 w7 := by rw [hw7]; exact below_alloc (Below.refl _ _) _
    have HX7 : Hid _ := hide (box_on (box_on HX5.out hb6) b67)
    have HK7 : Hid _ := hide ((HK5.out.on hb6).on b67)
    have HP7 : Hid _ := hide ((HP5.out.on hb6).on b67)
    have HO7 : Hid _ := hide (ho6.below b67)
    have HC7 : Hid (Cells3 w6.heap.size (.slice (some ⟨gx, 0, none⟩) l.length l.length) (.int .i64 sent) (.int .i64 got) w7) := hide (by rw [hw7]; exact ⟨by simp, World.cell?_alloc_at _ _ _ _ rfl, World.cell?_alloc_at _ _ _ _ rfl, World.cell?_alloc_at _ _ _ _ rfl⟩)
    have HS7 : Hid (w7.heap.size = w6.heap.size + 1) := hide (by rw [hw7]; simp)
    have HG7 : Hid (w5.heap.size ≤ gx ∧ gx < w6.heap.size) := hide ⟨hgx, hgxl⟩
    have HB6 : Hid (w3.heap.size < w5.heap.size ∧ (0 < E.out.length → g6 < w5.heap.size)) := hide ⟨HK5.out.cells.lt, fun h0 => HK5.out.own.lt h0⟩
    have HW7 : Hid (w6.alloc (.cells #[.slice (some ⟨gx, 0, none⟩) l.length l.length, .int .i64 sent, .int .i64 got] 29) = w7) := hide hw7.symm
    have HA6 : Hid (0 < E.out.length → a6 = some ⟨g6, 0, none⟩) := hide (fun h0 => (HK5.out.own.own h0).1)
    clear hb6 hgx hgxl ho6 hw7 b67 HX5 HK5 HP5
    go_wp2_with fail
    rw [HW7.out]
    clear HW7
    refine (HIM.out gx w7 HO7.out.rows).mono ?_
    rintro e w8 ⟨hb8, v8, rfl, g8, a10, c10, hg8, rfl, ho8⟩
    obtain ⟨w9a, hw9a⟩ : ∃ w9a, w9a = w8.alloc (.cells #[.slice a10 E.out.length c10, .int .i64 E.sent, .int .i64 E.got] 29) := ⟨_, rfl⟩
    obtain ⟨w9, hw9⟩ : ∃ w9, w9 = w9a.alloc (.cells #[.int .i64 p.seq, .int .i64 p.amt] 34) := ⟨_, rfl⟩
    have ba9 : Below w9a.heap.size w9a w9 := by rw [hw9]; exact below_alloc (Below.refl _ _) _
    have sa9 : w9a.heap.size = w8.heap.size + 1 := by rw [hw9a]; simp
    have b89 : Below w8.heap.size w8 w9 := below_trans (by rw [hw9a]; exact below_alloc (Below.refl _ _) _) ba9
    have HP9 : Hid (Cells2 (w8.heap.size + 1) (.int .i64 p.seq) (.int .i64 p.amt) w9) := hide (by rw [hw9]; exact cells2_alloc _ _ _ _ sa9.symm)
    have b79 : Below w7.heap.size w7 w9 := below_trans hb8 b89
    obtain ⟨g10, hk⟩ := kept_alloc (E := E) hg8 hb8.size ho8 (own_lt_or ho8)
    have HR9 : Hid (Kept1 E w8.heap.size a10 c10 g10 w7.heap.size w9) := hide ((by rw [hw9a]; exact hk : Kept1 E w8.heap.size a10 c10 g10 w7.heap.size w9a).on ba9)
    have HW9 : Hid ((w8.alloc (.cells #[.slice a10 E.out.length c10, .int .i64 E.sent, .int .i64 E.got] 29)).alloc (.cells #[.int .i64 p.seq, .int .i64 p.amt] 34) = w9) := hide (by rw [hw9, hw9a])
    have HX9 : Hid _ := hide (box_on HX7.out b79)
    have HK9 : Hid _ := hide (HK7.out.on b79)
    have HO9 : Hid _ := hide (HO7.out.below b79)
    have HC9 : Hid _ := hide (HC7.out.on b79)
    have lt8 : w3.heap.size < w8.heap.size := Nat.lt_of_lt_of_le (HK7.out.cells.lt) hb8.size
    have HP9b : Hid _ := hide (HP7.out.on b79)
    clear hb8 hg8 ho8 hk hw9 hw9a ba9 sa9 b89 b79 HX7 HK7 HO7 HC7 HP7
    have hbF := bne_bool F
    have hm := HEL.out
    obtain ⟨x0, x1, x2⟩ := cells3_all HR9.out.cells
    obtain ⟨y0, y1, y2⟩ := cells3_all HK9.out.cells
    rw [← HW9.out] at x0 x1 x2 y0 y1 y2
    go_wp2_with fail
    rw [HW9.out]
    clear x0 x1 x2 y0 y1 y2 lt8 HW9
    refine (eqEnd_any _ _ E.out _ _ _ _ w9 HEL.out HR9.out.own.rows HK9.out.own.rows).mono ?_
    rintro e w10 ⟨rfl, hb10⟩
    obtain ⟨z0, z1⟩ := cells2_two (HP9.out.on hb10)
    obtain ⟨z2, z3⟩ := cells2_two (HP9b.out.on hb10)
    go_wp2_with fail
    clear z0 z1 z2 z3
    refine (eqParcel_any p.seq p.amt w10).mono ?_
    rintro e w11 ⟨rfl, hb11'⟩
    have hb11 := below_trans hb10 hb11'
    clear hb10 hb11'
    have HP11 : Hid (Cells2 (w3.heap.size + 1) (.int .i64 p.seq) (.int .i64 p.amt) w11 ∧ Cells2 (w8.heap.size + 1) (.int .i64 p.seq) (.int .i64 p.amt) w11) := hide ⟨HP9b.out.on hb11, HP9.out.on hb11⟩
    clear HP9 HP9b
    have HX11 : Hid _ := hide (box_on HX9.out hb11)
    have HK11 : Hid _ := hide (HK9.out.on hb11)
    have HO11 : Hid _ := hide (HO9.out.below hb11)
    have HC11 : Hid _ := hide (HC9.out.on hb11)
    have HR11 : Hid _ := hide (HR9.out.on hb11)
    clear hb11 HX9 HK9 HO9 HC9 HR9
    go_wp2_with fail
    go_region_held (fun x => x.cell? ⟨w6.heap.size, 0, none⟩ = some (.slice (some ⟨gx, 0, none⟩) l.length l.length) ∧ x.cell? ⟨w6.heap.size, 1, none⟩ = some (.int .i64 sent) ∧ x.cell? ⟨w6.heap.size, 2, none⟩ = some (.int .i64 got) ∧ x.cell? ⟨w.heap.size, 0, none⟩ = some (.slice a l.length ca) ∧ x.cell? ⟨w.heap.size, 1, none⟩ = some (.int .i64 sent) ∧ x.cell? ⟨w.heap.size, 2, none⟩ = some (.int .i64 got) ∧ Hid (Below w11.heap.size w11 x))
      (first | assumption | exact S6.of (cells3_all HC11.out) (box3 HX11.out) (Below.refl _ _).drew | exact S6.on (by assumption) (by assumption))
      (first
        | (go_at_call 10; refine (toEnd_any _ l _ _ _ _ n1 (HL.out.below (box_old (box_on HX11.out (by assumption : S6 w6.heap.size w.heap.size (.slice (some ⟨gx, 0, none⟩) l.length l.length) (.int .i64 sent) (.int .i64 got) (.slice a l.length ca) (.int .i64 sent) (.int .i64 got) w11 _).2.2.2.2.2.2.out)))).mono ?_; rintro e w12 ⟨hb12, g12, rfl, hg12, ho12⟩)
        | (go_at_call 12; refine (eqEnd_any _ _ l _ _ _ _ _ n1 (HO11.out.rows.below (by assumption : S6 w6.heap.size w.heap.size (.slice (some ⟨gx, 0, none⟩) l.length l.length) (.int .i64 sent) (.int .i64 got) (.slice a l.length ca) (.int .i64 sent) (.int .i64 got) w11 _).2.2.2.2.2.2.out) ho12.rows).mono ?_; rintro e w13 ⟨rfl, hb13⟩))
    have b13 := (by assumption : S6 w6.heap.size w.heap.size (.slice (some ⟨gx, 0, none⟩) l.length l.length) (.int .i64 sent) (.int .i64 got) (.slice a l.length ca) (.int .i64 sent) (.int .i64 got) w11 w13).2.2.2.2.2.2.out
    have HX13 : Hid _ := hide (box_on HX11.out b13)
    have HK13 : Hid _ := hide (HK11.out.on b13)
    have HO13 : Hid _ := hide (HO11.out.below b13)
    have HC13 : Hid _ := hide (HC11.out.on b13)
    have HR13 : Hid _ := hide (HR11.out.on b13)
    have HP13 : Hid _ := hide (And.intro (HP11.out.1.on b13) (HP11.out.2.on b13))
    clear hb12 hg12 ho12 hb13 b13 HX11 HK11 HO11 HC11 HR11 HP11
    obtain ⟨x0, x1, x2⟩ := cells3_all HC13.out
    go_wp2_with fail
    refine (markEnd_any _ l _ gx _ _ 1 w13 n1 (by omega) HO13.out).mono ?_
    rintro e w14 ⟨rfl, _, hk14⟩
    have HCH : Hid (Chg gx w13 w14) := hide hk14
    have HX14 : Hid _ := hide (HX13.out.trans (HCH.out.below (by have := HG7.out; have := LX5.out; omega) (box_lt HX13.out)))
    have HK14 : Hid (Cells3 w3.heap.size (.slice a6 E.out.length c6) (.int .i64 E.sent) (.int .i64 E.got) w14 ∧ RowAt 2 prcCells w14 a6 E.out) := hide ⟨HK13.out.cells.chg HCH.out (by have := HG7.out.1; have := HB6.out.1; omega), chg_row HK13.out.own.rows HCH.out (fun b off h0 e => by
      rw [HA6.out h0] at e
      simp only [Option.some.injEq, Addr.mk.injEq, and_true] at e
      have := HB6.out.2 h0; have := HG7.out.1; omega)⟩
    have HR14 : Hid (Kept1 E w8.heap.size a10 c10 g10 w7.heap.size w14) := hide ⟨HR13.out.lo1, HR13.out.lo2, HR13.out.ne, HR13.out.cells.chg HCH.out (by have := HR13.out.lo1; have := HG7.out.2; have := HS7.out; omega), chg_own HR13.out.own HCH.out (fun _ => by have := HR13.out.lo2; have := HG7.out.2; have := HS7.out; omega)⟩
    have HP14 : Hid _ := hide (And.intro (HP13.out.1.chg HCH.out (by have := HG7.out.1; have := HB5.out; omega)) (HP13.out.2.chg HCH.out (by have := HR13.out.lo1; have := HG7.out.2; have := HS7.out; omega)))
    clear hk14 HCH HX13 HK13 HO13 HC13 HR13 HP13 x0 x1 x2
    have k1 : ¬ (1 : Int) + 2 * (l.length : Int) < 0 := by omega
    obtain ⟨x0, x1, x2⟩ := cells3_all HR14.out.cells
    obtain ⟨y0, y1, y2⟩ := cells3_all HK14.out.1
    go_wp2_with fail
    refine (eqEnd_any _ _ E.out _ _ _ _ w14 HEL.out HR14.out.own.rows HK14.out.2).mono ?_
    rintro e w15' ⟨rfl, hb15'⟩
    clear x0 x1 x2 y0 y1 y2
    obtain ⟨z0, z1⟩ := cells2_two (HP14.out.1.on hb15')
    obtain ⟨z2, z3⟩ := cells2_two (HP14.out.2.on hb15')
    go_wp2_with fail
    clear z0 z1 z2 z3
    refine (eqParcel_any p.seq p.amt w15').mono ?_
    rintro e w15 ⟨rfl, hb15''⟩
    have hb15 := below_trans hb15' hb15''
    clear hb15' hb15''
    have HP15 : Hid _ := hide (And.intro (HP14.out.1.on hb15) (HP14.out.2.on hb15))
    clear HP14
    have HX15 : Hid _ := hide (box_on HX14.out hb15)
    have HK15 : Hid _ := hide (And.intro (HK14.out.1.on hb15) (HK14.out.2.below hb15))
    have HR15 : Hid _ := hide (HR14.out.on hb15)
    clear hb15 HX14 HK14 HR14
    obtain ⟨x0, x1, x2⟩ := cells3_all HR15.out.cells
    go_wp2_with fail
    refine (markEnd_any _ E.out _ g10 _ _ 1 w15 HEL.out (by omega) HR15.out.own).mono ?_
    rintro e w16 ⟨rfl, ho16, hk16⟩
    have HCH : Hid (Chg g10 w15 w16) := hide hk16
    have HX16 : Hid _ := hide (HX15.out.trans (HCH.out.below (by have := HR15.out.lo2; have := HS7.out; have := HG7.out; have := LX5.out; omega) (box_lt HX15.out)))
    have HK16 : Hid (Cells3 w3.heap.size (.slice a6 E.out.length c6) (.int .i64 E.sent) (.int .i64 E.got) w16 ∧ RowAt 2 prcCells w16 a6 E.out) := hide ⟨HK15.out.1.chg HCH.out (by have := HR15.out.lo2; have := HS7.out; have := HG7.out; have := HB6.out.1; omega), chg_row HK15.out.2 HCH.out (fun b off h0 e => by
      rw [HA6.out h0] at e
      simp only [Option.some.injEq, Addr.mk.injEq, and_true] at e
      have := HB6.out.2 h0; have := HR15.out.lo2; have := HS7.out; have := HG7.out; omega)⟩
    have HR16 : Hid (Cells3 w8.heap.size (.slice a10 E.out.length c10) (.int .i64 E.sent) (.int .i64 E.got) w16 ∧ OwnRow 2 prcCells w16 g10 a10 c10 (markL 1 E.out.length)) := hide ⟨HR15.out.cells.chg HCH.out HR15.out.ne, ho16⟩
    have HP16 : Hid _ := hide (HP15.out.1.chg HCH.out (by have := HR15.out.lo2; have := HS7.out; have := HG7.out; have := HB5.out; omega))
    clear hk16 ho16 HCH HX15 HK15 HR15 HP15 x0 x1 x2
    have k2 : ¬ (1 : Int) + 2 * (E.out.length : Int) < 0 := by omega
    have k3 := bne_int ((1 : Int) + 2 * (E.out.length : Int))
    obtain ⟨x0, x1, x2⟩ := cells3_all HR16.out.1
    go_wp2_with fail
    refine (heldEnd_any _ E.out.length _ _ _ 1 w16 HEL.out (by omega) HR16.out.2.rows).mono ?_
    rintro e w17 ⟨rfl, hb17⟩
    have HX17 : Hid _ := hide (box_on HX16.out hb17)
    have HK17 : Hid _ := hide (And.intro (HK16.out.1.on hb17) (HK16.out.2.below hb17))
    have HR17 : Hid _ := hide (And.intro (HR16.out.1.on hb17) (HR16.out.2.below hb17))
    have HP17 : Hid _ := hide (HP16.out.on hb17)
    clear hb17 HX16 HK16 HR16 x0 x1 x2
    obtain ⟨x0, x1, x2⟩ := box3 HX17.out
    go_wp2_with fail
    refine (toEnd_any _ l _ _ _ w17 n1 (HL.out.below (box_old HX17.out))).mono ?_
    rintro e w18 ⟨hb18, g18, rfl, hg18, ho18⟩
    have HO18 : Hid _ := hide ho18
    have B18 : Hid _ := hide hb18
    clear hb18 hg18 ho18 x0 x1 x2
    go_wp2_with fail
    refine (HIM.out g18 w18 HO18.out.rows).mono ?_
    rintro e w19 ⟨hb19, v19, rfl, g19, a19, c19, hg19, rfl, ho19⟩
    obtain ⟨w20a, hw20a⟩ : ∃ w20a, w20a = w19.alloc (.cells #[.slice a19 E.out.length c19, .int .i64 E.sent, .int .i64 E.got] 29) := ⟨_, rfl⟩
    obtain ⟨w20, hw20⟩ : ∃ w20, w20 = w20a.alloc (.cells #[.int .i64 p.seq, .int .i64 p.amt] 34) := ⟨_, rfl⟩
    have ba20 : Below w20a.heap.size w20a w20 := by rw [hw20]; exact below_alloc (Below.refl _ _) _
    have sa20 : w20a.heap.size = w19.heap.size + 1 := by rw [hw20a]; simp
    have b20 : Below w19.heap.size w19 w20 := below_trans (by rw [hw20a]; exact below_alloc (Below.refl _ _) _) ba20
    have HP20 : Hid (Cells2 (w19.heap.size + 1) (.int .i64 p.seq) (.int .i64 p.amt) w20) := hide (by rw [hw20]; exact cells2_alloc _ _ _ _ sa20.symm)
    have b1720 : Below w17.heap.size w17 w20 := below_trans (below_trans B18.out hb19) b20
    obtain ⟨g20, hk⟩ := kept_alloc (E := E) hg19 hb19.size ho19 (own_lt_or ho19)
    have HN20 : Hid (Kept1 E w19.heap.size a19 c19 g20 w18.heap.size w20) := hide ((by rw [hw20a]; exact hk : Kept1 E w19.heap.size a19 c19 g20 w18.heap.size w20a).on ba20)
    have HW20 : Hid ((w19.alloc (.cells #[.slice a19 E.out.length c19, .int .i64 E.sent, .int .i64 E.got] 29)).alloc (.cells #[.int .i64 p.seq, .int .i64 p.amt] 34) = w20) := hide (by rw [hw20, hw20a])
    have HX20 : Hid _ := hide (box_on HX17.out b1720)
    have HK20 : Hid _ := hide (And.intro (HK17.out.1.on b1720) (HK17.out.2.below b1720))
    have HR20 : Hid _ := hide (And.intro (HR17.out.1.on b1720) (HR17.out.2.below b1720))
    have lt19 : w3.heap.size < w19.heap.size := Nat.lt_of_lt_of_le HK17.out.1.lt (below_trans B18.out hb19).size
    have HP20b : Hid _ := hide (HP17.out.on b1720)
    clear hb19 hg19 ho19 hk hw20 hw20a ba20 sa20 b20 b1720 HX17 HK17 HR17
    obtain ⟨x0, x1, x2⟩ := cells3_all HN20.out.cells
    obtain ⟨y0, y1, y2⟩ := cells3_all HK20.out.1
    rw [← HW20.out] at x0 x1 x2 y0 y1 y2
    go_wp2_with fail
    rw [HW20.out]
    clear x0 x1 x2 y0 y1 y2 lt19 HW20
    refine (eqEnd_any _ _ E.out _ _ _ _ w20 HEL.out HN20.out.own.rows HK20.out.2).mono ?_
    rintro e w21' ⟨rfl, hb21'⟩
    obtain ⟨z0, z1⟩ := cells2_two (HP20.out.on hb21')
    obtain ⟨z2, z3⟩ := cells2_two (HP20b.out.on hb21')
    go_wp2_with fail
    clear z0 z1 z2 z3
    refine (eqParcel_any p.seq p.amt w21').mono ?_
    rintro e w21 ⟨rfl, hb21''⟩
    have hb21 := below_trans hb21' hb21''
    clear hb21' hb21''
    have HX21 : Hid _ := hide (box_on HX20.out hb21)
    have HR21 : Hid _ := hide (And.intro (HR20.out.1.on hb21) (HR20.out.2.below hb21))
    clear hb21 HX20 HN20 HK20 HR20
    obtain ⟨x0, x1, x2⟩ := cells3_all HR21.out.1
    go_wp2_with fail
    refine (heldEnd_any _ E.out.length _ _ _ 1 w21 HEL.out (by omega) HR21.out.2.rows).mono ?_
    rintro e w22 ⟨rfl, hb22⟩
    have HX22 : Hid _ := hide (box_on HX21.out hb22)
    clear hb22
    go_wp2
    go_ret
    exact ⟨rfl, box_old HX22.out⟩
end Go.Proofs.Ytjiiihmpcancbaa
