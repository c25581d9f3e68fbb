/- The walk of the law FnExactMoved. -/
import Derived.Test.YthlkhdhheikadaaSMov
import Derived.Test.YthlkhdhheikadaaLaw1
import Derived.Deep.RegionHeld
namespace Go.Proofs.Ythlkhdhheikadaa
open Go.ChangeShapes Go.WideShapes Go.ChangeAt Go.RowKit
set_option linter.unusedVariables false
theorem movL_len (l : List Slt) (f t amt : Int) : (movL l f t amt).length ≤ l.length := by
  unfold movL
  split
  · simp [addHas_len]
  · simp
theorem box_on {w a b : World} {o : Obj} (h : Below (w.heap.size + 1) (w.alloc o) a) (k : Below a.heap.size a b) : Below (w.heap.size + 1) (w.alloc o) b :=
  h.trans (k.mono (by have := h.size; simpa using this))
theorem box_old {w wr : World} {o : Obj} (h : Below (w.heap.size + 1) (w.alloc o) wr) : Below w.heap.size w wr :=
  (below_alloc (Below.refl _ _) o).trans (h.mono (by omega))
theorem box_lt {w wr : World} {o : Obj} (h : Below (w.heap.size + 1) (w.alloc o) wr) : w.heap.size + 1 ≤ wr.heap.size := by have := h.size; simpa using this
theorem box3 {w x : World} {v0 v1 v2 : Value} {T : TypeId} (h : Below (w.heap.size + 1) (w.alloc (.cells #[v0, v1, v2] T)) x) : x.cell? ⟨w.heap.size, 0, none⟩ = some v0 ∧ x.cell? ⟨w.heap.size, 1, none⟩ = some v1 ∧ x.cell? ⟨w.heap.size, 2, none⟩ = some v2 :=
  cell_new3 (by simpa using h)
def S3 (B : Nat) (p0 p1 p2 : Value) (W0 x : World) : Prop := x.cell? ⟨B, 0, none⟩ = some p0 ∧ x.cell? ⟨B, 1, none⟩ = some p1 ∧ x.cell? ⟨B, 2, none⟩ = some p2 ∧ Hid (Below W0.heap.size W0 x)
theorem S3.of {B : Nat} {p0 p1 p2 : Value} {W0 x : World} (h : W0.cell? ⟨B, 0, none⟩ = some p0 ∧ W0.cell? ⟨B, 1, none⟩ = some p1 ∧ W0.cell? ⟨B, 2, none⟩ = some p2) (b : Below W0.heap.size W0 x) : S3 B p0 p1 p2 W0 x :=
  ⟨below_keeps b _ _ h.1, below_keeps b _ _ h.2.1, below_keeps b _ _ h.2.2, hide b⟩
theorem S3.on {B : Nat} {p0 p1 p2 : Value} {W0 x y : World} (h : S3 B p0 p1 p2 W0 x) (b : Below x.heap.size x y) : S3 B p0 p1 p2 W0 y :=
  ⟨below_keeps b _ _ h.1, below_keeps b _ _ h.2.1, below_keeps b _ _ h.2.2.1, hide (below_trans h.2.2.2.out b)⟩
set_option maxRecDepth 100000 in
set_option maxHeartbeats 8000000 in
theorem walkMoved (a : Option Addr) (l : List Slt) (ca : Nat) (f t amt : Int) (w : World) (hl : SlotAt w a l) (m1 : l.length ≤ maxLen) (ia : I64 amt) :
    Calls Try.prog 6 #[.slice a l.length ca, .agg #[.int .i64 f, .int .i64 t, .int .i64 amt]] w fun e w' => YesEnd w e w' := by
  have HL : Hid _ := hide hl
  have HI : Hid _ := hide ia
  clear hl ia
  have HX0 : Hid (Below (w.heap.size + 1) (w.alloc (.cells #[.int .i64 f, .int .i64 t, .int .i64 amt] 33)) (w.alloc (.cells #[.int .i64 f, .int .i64 t, .int .i64 amt] 33))) := hide (Below.refl _ _)
  go_enter Try.func6, Try.ntmps6
  go_wp2_with fail
  refine (szSlotS_any _ l _ _ _ m1 (by omega)).mono ?_
  rintro e w1 ⟨hw1, r, rfl, hr1, hr⟩
  have hw1' := hw1.symm
  subst hw1'
  have HX1 : Hid (Below (w.heap.size + 1) (w.alloc (.cells #[.int .i64 f, .int .i64 t, .int .i64 amt] 33)) (w.alloc (.cells #[.int .i64 f, .int .i64 t, .int .i64 amt] 33))) := HX0
  by_cases q : r < 0
  · go_wp2
    go_ret
    exact ⟨rfl, box_old HX0.out⟩
  · have n1 : l.length ≤ 1048576 := by have := hr (by omega); omega
    clear hr
    have HM1 : Hid ((movL l f t amt).length ≤ 1048576) := hide (Nat.le_trans (movL_len _ _ _ _) n1)
    obtain ⟨w1, hw1⟩ : ∃ w1, w1 = w.alloc (.cells #[.int .i64 f, .int .i64 t, .int .i64 amt] 33) := ⟨_, rfl⟩
    rw [← hw1]
    have HX1 : Hid (Below (w.heap.size + 1) (w.alloc (.cells #[.int .i64 f, .int .i64 t, .int .i64 amt] 33)) w1) := hide (by rw [hw1]; exact Below.refl _ _)
    clear hw1 HX0
    have HC1 : Hid _ := hide (box3 HX1.out)
    go_wp2_with fail
    go_region_held (fun x => x.cell? ⟨w.heap.size, 0, none⟩ = some (.int .i64 f) ∧ x.cell? ⟨w.heap.size, 1, none⟩ = some (.int .i64 t) ∧ x.cell? ⟨w.heap.size, 2, none⟩ = some (.int .i64 amt) ∧ Hid (Below w1.heap.size w1 x))
      (first | assumption | exact S3.of HC1.out (Below.refl _ _).drew | exact S3.on (by assumption) (by assumption))
      (first
        | (go_at_call 11; refine (toSlotS_any _ l _ _ n1 (HL.out.below (below_trans (box_old HX1.out) (by assumption : S3 w.heap.size (.int .i64 f) (.int .i64 t) (.int .i64 amt) w1 _).2.2.2.out))).mono ?_; rintro e w2 ⟨hb2, g2, hg2, rfl, ho2, hl2⟩)
        | (go_at_call 19; refine (toMove_any _ _ _ _).mono ?_; rintro e w3 ⟨rfl, hb3⟩)
        | (go_at_call 18; refine (specMoved_any _ l _ _ _ _ _ n1 (Nat.le_refl _) (hl2.below hb3)).mono ?_; rintro e w4 ⟨hb4, v4, rfl, g4, a4, c4, hg4, rfl, ho4⟩))
    have HX4 : Hid _ := hide (box_on HX1.out (by assumption : S3 w.heap.size (.int .i64 f) (.int .i64 t) (.int .i64 amt) w1 w4).2.2.2.out)
    have HS4 : Hid _ := hide ho4.rows
    clear hb2 hg2 ho2 hl2 hb3 hb4 hg4 ho4 HC1 HX1
    have HME : Hid _ := hide (movL_len l f t amt)
    go_wp2_with fail
    refine (toSlotS_any _ l _ w4 n1 (HL.out.below (box_old HX4.out))).mono ?_
    rintro e w5 ⟨hb5, g5, ⟨hg5, hgl5⟩, rfl, ho5, hl5⟩
    have HX5 : Hid _ := hide (box_on HX4.out hb5)
    have HD5 : Hid _ := hide hb5
    have HO5 : Hid _ := hide ho5
    have HL5 : Hid _ := hide hl5
    have HG5 : Hid _ := hide (And.intro hg5 hgl5)
    clear hb5 ho5 hl5 hg5 hgl5
    obtain ⟨x0, x1, x2⟩ := box3 HX5.out
    go_wp2_with fail
    refine (toMove_any _ _ _ w5).mono ?_
    rintro e w6 ⟨rfl, hb6⟩
    have HX6 : Hid _ := hide (box_on HX5.out hb6)
    have HD6 : Hid _ := hide (below_trans HD5.out hb6)
    have HO6 : Hid _ := hide (HO5.out.below hb6)
    have HL6 : Hid _ := hide (HL5.out.below hb6)
    have HW6 : Hid _ := hide hb6.size
    clear hb6 x0 x1 x2 HX5 HD5 HO5 HL5
    go_wp2_with fail
    refine (implMoved_any _ l _ f t amt w6 n1 (Nat.le_refl _) HI.out HL6.out).mono ?_
    rintro e w7 ⟨hb7, v7, rfl, g7, a7, c7, hg7, rfl, ho7⟩
    have HX7 : Hid _ := hide (box_on HX6.out hb7)
    have HD7 : Hid _ := hide (below_trans HD6.out hb7)
    have HO7 : Hid _ := hide (HO6.out.below hb7)
    have HG7 : Hid _ := hide hg7
    have HR7 : Hid _ := hide ho7
    clear hb7 hg7 ho7 HX6 HD6 HO6 HL6
    have HIM : Hid (∀ (g : Nat) (x : World) (_ : True), SlotAt x (some ⟨g, 0, none⟩) l → Calls Try.prog 20 #[.slice (some ⟨g, 0, none⟩) l.length l.length, .agg #[.int .i64 f, .int .i64 t, .int .i64 amt]] x fun e w' => RowFlag 3 sltCells (movL l f t amt) (movOk l f t amt) x e w') := hide (fun g x _ hx => implMoved_any _ l _ f t amt x n1 (Nat.le_refl _) HI.out hx)
    generalize movL l f t amt = M at *
    generalize movOk l f t amt = B at *
    have hbB := bne_bool B
    have hm := HM1.out
    go_wp2_with fail
    refine (eqSlotS_any _ _ M _ _ w7 HM1.out HR7.out.rows (HS4.out.below HD7.out)).mono ?_
    rintro e w8 ⟨rfl, hb8⟩
    have HX8 : Hid _ := hide (box_on HX7.out hb8)
    have HD8 : Hid _ := hide (below_trans HD7.out hb8)
    have HO8 : Hid _ := hide (HO7.out.below hb8)
    have HR8 : Hid _ := hide (HR7.out.below hb8)
    clear hb8 HX7 HD7 HO7 HR7
    go_wp2_with fail
    refine (toSlotS_any _ l _ w8 n1 (HL.out.below (box_old HX8.out))).mono ?_
    rintro e w9 ⟨hb9, g9, hg9, rfl, ho9, hl9⟩
    have HX9 : Hid _ := hide (box_on HX8.out hb9)
    have HD9 : Hid _ := hide (below_trans HD8.out hb9)
    have HO9 : Hid _ := hide (HO8.out.below hb9)
    have HR9 : Hid _ := hide (HR8.out.below hb9)
    have HL9 : Hid _ := hide hl9
    clear hb9 HX8 HD8 HO8 HR8 hg9 ho9 hl9
    go_wp2_with fail
    refine (eqSlotS_any _ _ l _ _ w9 n1 HO9.out.rows HL9.out.row).mono ?_
    rintro e w10 ⟨rfl, hb10⟩
    have HX10 : Hid _ := hide (box_on HX9.out hb10)
    have HD10 : Hid _ := hide (below_trans HD9.out hb10)
    have HO10 : Hid _ := hide (HO9.out.below hb10)
    have HR10 : Hid _ := hide (HR9.out.below hb10)
    clear hb10 HX9 HD9 HO9 HR9 HL9
    go_wp2_with fail
    refine (markSlotS_any _ l _ g5 1 w10 n1 (by omega) HO10.out).mono ?_
    rintro e w11 ⟨rfl, ht11, ho11⟩
    have HX11 : Hid _ := hide (HX10.out.trans (ht11.below (Nat.le_trans (box_lt HX4.out) HG5.out.1)))
    have HD11 : Hid _ := hide (HD10.out.trans (ht11.below HG5.out.1))
    have HR11 : Hid _ := hide (HR10.out.turned ht11 (fun _ => by have := HG5.out.2; have := HW6.out; have := HG7.out; omega))
    clear ht11 ho11 HX10 HD10 HO10 HR10
    have k1 : ¬ (1 : Int) + 3 * (l.length : Int) < 0 := by omega
    go_wp2_with fail
    refine (eqSlotS_any _ _ M _ _ w11 HM1.out HR11.out.rows (HS4.out.below HD11.out)).mono ?_
    rintro e w12 ⟨rfl, hb12⟩
    have HX12 : Hid _ := hide (box_on HX11.out hb12)
    have HD12 : Hid _ := hide (below_trans HD11.out hb12)
    have HR12 : Hid _ := hide (HR11.out.below hb12)
    clear hb12 HX11 HD11 HR11
    go_wp2_with fail
    refine (markSlotS_any _ M _ g7 1 w12 HM1.out (by omega) HR12.out).mono ?_
    rintro e w13 ⟨rfl, ht13, ho13⟩
    have HX13 : Hid _ := hide (HX12.out.trans (ht13.below (by have := box_lt HX4.out; have := HG5.out.1; have := HG5.out.2; have := HW6.out; have := HG7.out; omega)))
    have HD13 : Hid _ := hide (HD12.out.trans (ht13.below (by have := HG5.out.1; have := HG5.out.2; have := HW6.out; have := HG7.out; omega)))
    have HR13 : Hid _ := hide ho13
    clear ht13 ho13 HX12 HD12 HR12
    have k2 : ¬ (1 : Int) + 3 * (M.length : Int) < 0 := by omega
    have k3 := bne_int ((1 : Int) + 3 * (M.length : Int))
    go_wp2_with fail
    refine (heldSlotS_any _ M.length _ 1 w13 HM1.out (by omega) HR13.out.rows).mono ?_
    rintro e w14 ⟨rfl, hw14⟩
    have hw14' := hw14.symm
    subst hw14'
    have HC13 : Hid _ := hide (box3 HX13.out)
    go_wp2_with fail
    go_region_held (fun x => x.cell? ⟨w.heap.size, 0, none⟩ = some (.int .i64 f) ∧ x.cell? ⟨w.heap.size, 1, none⟩ = some (.int .i64 t) ∧ x.cell? ⟨w.heap.size, 2, none⟩ = some (.int .i64 amt) ∧ Hid (Below w13.heap.size w13 x))
      (first | assumption | exact S3.of HC13.out (Below.refl _ _).drew | exact S3.on (by assumption) (by assumption))
      (first
        | (go_at_call 11; refine (toSlotS_any _ l _ _ n1 (HL.out.below (below_trans (box_old HX13.out) (by assumption : S3 w.heap.size (.int .i64 f) (.int .i64 t) (.int .i64 amt) w13 _).2.2.2.out))).mono ?_; rintro e w15 ⟨hb15, g15, hg15, rfl, ho15, hl15⟩)
        | (go_at_call 19; refine (toMove_any _ _ _ _).mono ?_; rintro e w16 ⟨rfl, hb16⟩)
        | (go_at_call 20; refine (HIM.out _ _ trivial (hl15.below hb16)).mono ?_; rintro e w17 ⟨hb17, v17, rfl, g17, a17, c17, hg17, rfl, ho17⟩))
    have HB17 : Hid _ := hide ((by assumption : S3 w.heap.size (.int .i64 f) (.int .i64 t) (.int .i64 amt) w13 w17).2.2.2.out)
    have HX17 : Hid _ := hide (box_on HX13.out HB17.out)
    have HD17 : Hid _ := hide (HD13.out.trans (HB17.out.mono HD13.out.size))
    have HR17 : Hid _ := hide (HR13.out.below HB17.out)
    have HN17 : Hid _ := hide ho17.rows
    clear hb15 hg15 ho15 hl15 hb16 hb17 hg17 ho17 HB17 HC13
    go_wp2_with fail
    refine (eqSlotS_any _ _ M _ _ w17 HM1.out HN17.out (HS4.out.below HD17.out)).mono ?_
    rintro e w18 ⟨rfl, hb18⟩
    have HX18 : Hid _ := hide (box_on HX17.out hb18)
    have HR18 : Hid _ := hide (HR17.out.below hb18)
    clear hb18 HX17 HR17 HD17
    go_wp2_with fail
    refine (heldSlotS_any _ M.length _ 1 w18 HM1.out (by omega) HR18.out.rows).mono ?_
    rintro e w19 ⟨rfl, hw19⟩
    have hw19' := hw19.symm
    subst hw19'
    go_wp2
    go_ret
    exact ⟨rfl, box_old HX18.out⟩
end Go.Proofs.Ythlkhdhheikadaa
