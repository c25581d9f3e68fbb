/- The walk of the law FnExactCrash. -/
import Derived.Test.YtacbcmgpknhgdaaGreatDkC6
import Derived.Test.YtacbcmgpknhgdaaGreatDkCA
import Derived.Test.YtacbcmgpknhgdaaGreatDkC3
import Derived.Test.YtacbcmgpknhgdaaGreatDkO
import Derived.Test.YtacbcmgpknhgdaaGreatDkP5
namespace Go.Proofs.YtacbcmgpknhgdaaGreat
open Go.ChangeShapes Go.WideShapes Go.ChangeAt Go.RowKit
set_option linter.unusedVariables false
set_option maxRecDepth 100000
theorem smD_crs (live safe : List Fl) (ops : List Dp) (keep : List Int) (torn : Int) : SmD (crsL live safe ops keep torn) (crsL live safe ops keep torn) [] := by
  have h : Sms SmF1 (crsL live safe ops keep torn) := by
    cases q : crsB live safe ops keep torn
    · rw [crs_no q]
      exact ⟨by simp, fun x hx => by simp at hx⟩
    · have e : crsL live safe ops keep torn = goL safe (crsO ops keep torn) := by simp [crsL, q]
      have hf : filesB (goL safe (crsO ops keep torn)) = true := by
        simp only [crsB, Bool.and_eq_true] at q
        exact q.2
      rw [e]
      exact ⟨by have := (filesB_parts hf).1; omega, fun f hm => by have := filesB_small hf f hm; exact ⟨by omega, by omega⟩⟩
  exact ⟨h, h, by simp, fun x hx => by simp at hx⟩
theorem DiskK.ownR {b : Bool} {L S : List Fl} {O : List Dp} {w w' : World} {e : Ending} (h : DiskK b L S O w e w') : DiskKE b L S O w e w' := by
  obtain ⟨hb, v1, v2, v3, rfl, hr⟩ := h
  obtain ⟨a1, a2, a3, c1, c2, c3, g1, g2, g3, rfl, rfl, rfl, R⟩ := hr.ownR (hi := w'.heap.size) ⟨fun g hg => (hr.r1.lt g hg).2, fun g hg => (hr.r2.lt g hg).2, fun g hg => (hr.r3.lt g hg).2⟩
  exact ⟨hb, a1, a2, a3, c1, c2, c3, g1, g2, g3, rfl, R⟩
theorem Chq.chr {p : Prop} {g : Nat} {w w' : World} (h : Chq p g w w') : Chr g (g + 1) w w' := ⟨h.os, h.tape, h.output, h.size, fun k hk q => h.block k hk (fun _ => by omega)⟩
theorem Chr.rowB {A : Type} {sz : Nat} {f : A → List Value} {lo hi : Nat} {x y : World} (h : Chr lo hi x y) {g : Nat} {a : Option Addr} {cap : Nat} {l : List A} (o : OwnRow sz f x g a cap l) (hd : g < lo ∨ hi ≤ g) : OwnRow sz f y g a cap l := o.keepB (fun p => h.block g (o.lt p) hd)
set_option maxHeartbeats 8000000 in
theorem walkCrash (la sa oa : Option Addr) (lc sc oc : Nat) (live safe : List Fl) (ops : List Dp) (ka : Option Addr) (kc : Nat) (keep : List Int) (torn : Int) (w : World) (hkm : keep.length ≤ maxLen) (hn : LimD live safe ops) (h : DkAt w la sa oa live safe ops) (hp : RowAt 1 i64Cells w ka keep) :
    Calls Tryz.prog 4 #[.agg #[.slice la live.length lc, .slice sa safe.length sc, .slice oa ops.length oc], .slice ka keep.length kc, .int .i64 torn] w fun e w' => YesEnd w e w' := by
  have HL : Hid _ := hide h
  have HN : Hid _ := hide hn
  have HP : Hid _ := hide hp
  clear h hn hp
  have KX0 : Hid (Blk w.heap.size [.slice la live.length lc, .slice sa safe.length sc, .slice oa ops.length oc] (w.alloc (.cells #[.slice la live.length lc, .slice sa safe.length sc, .slice oa ops.length oc] 25))) := hide Blk.new
  have HX0 : Hid (Below w.heap.size w (w.alloc (.cells #[.slice la live.length lc, .slice sa safe.length sc, .slice oa ops.length oc] 25))) := hide (below_alloc (Below.refl _ _) _)
  unfold maxLen at hkm
  by_cases n1 : (1048576 : Int) < (keep.length : Int)
  · go_enter Tryz.func4, Tryz.ntmps4
    go_wp2
    go_ret
    exact ⟨rfl, HX0.out⟩
  have hk0 : keep.length ≤ 1048576 := by omega
  go_enter Tryz.func4, Tryz.ntmps4
  go_wp2_with fail
  refine (szDisk_any _ _ _ _ _ _ live safe ops _ _ HN.out (by omega) (HL.out.below HX0.out)).mono ?_
  rintro e w1 ⟨hb1, r, rfl, hr1, hr2, hr⟩
  have HX1 : Hid _ := hide (below_trans HX0.out hb1)
  have KX1 : Hid _ := hide (KX0.out.below hb1)
  have HR : Hid _ := hide hr
  clear hb1 HX0 KX0 hr
  by_cases q : r < 0
  · go_wp2
    go_ret
    exact ⟨rfl, HX1.out⟩
  · have HM : Hid (SmD live safe ops) := hide (HR.out (by omega))
    clear HR
    have hall : ∃ (L S : List Fl) (O : List Dp) (cv : Bool), SmD L S O ∧
        (∀ (g h k p : Nat) (x : World), OwnD g h k live safe ops x → RowAt 1 i64Cells x (some ⟨p, 0, none⟩) keep → Calls Tryz.prog 15 #[.agg #[.slice (some ⟨g, 0, none⟩) live.length live.length, .slice (some ⟨h, 0, none⟩) safe.length safe.length, .slice (some ⟨k, 0, none⟩) ops.length ops.length], .slice (some ⟨p, 0, none⟩) keep.length keep.length, .int .i64 torn] x fun e w' => DiskKE cv L S O x e w') ∧
        (∀ (g h k p : Nat) (x : World), OwnD g h k live safe ops x → RowAt 1 i64Cells x (some ⟨p, 0, none⟩) keep → Calls Tryz.prog 17 #[.agg #[.slice (some ⟨g, 0, none⟩) live.length live.length, .slice (some ⟨h, 0, none⟩) safe.length safe.length, .slice (some ⟨k, 0, none⟩) ops.length ops.length], .slice (some ⟨p, 0, none⟩) keep.length keep.length, .int .i64 torn] x fun e w' => DiskKE cv L S O x e w') :=
      ⟨_, _, _, _, smD_crs live safe ops keep torn, fun g h k p x d r => (specCrash_any _ _ _ _ _ _ _ _ live safe ops keep torn x HM.out hk0 (fun q => by cases q) (fun q => by cases q) (fun q => by cases q) d.at r).mono (fun e w' z => z.ownR), fun g h k p x d r => implCrash_any _ _ _ _ _ _ _ _ live safe ops keep torn x HM.out hk0 d.at r⟩
    obtain ⟨L, S, O, cv, hml, hsm, him⟩ := hall
    have hcc : (cv != cv) = false := by simp
    have hcd : (cv == cv) = true := by simp
    have HML : Hid _ := hide hml
    have HSM : Hid _ := hide hsm
    have HIM : Hid _ := hide him
    clear hml hsm him
    have x0 := KX1.out.c 0 _ rfl
    have x1 := KX1.out.c 1 _ rfl
    have x2 := KX1.out.c 2 _ rfl
    go_wp2_with fail
    refine (toDisk_any _ _ _ _ _ _ live safe ops _ HM.out (HL.out.below HX1.out)).mono ?_
    rintro e w2 ⟨hb2, g2, h2, k2, rfl, _, hd2⟩
    have HX2 : Hid _ := hide (below_trans HX1.out hb2)
    have KX2 : Hid _ := hide (KX1.out.below hb2)
    have D2 : Hid _ := hide hd2
    clear hb2 hd2 HX1 KX1 x0 x1 x2
    go_wp2_with fail
    refine (toInt64S_any ka keep kc _ hk0 (HP.out.below HX2.out)).mono ?_
    rintro e w2b ⟨hb2, p2, rfl, hp2⟩
    have HI2 : Hid _ := hide (HSM.out g2 h2 k2 p2 w2b (D2.out.below hb2) hp2.2.rows)
    have HX2b : Hid _ := hide (below_trans HX2.out hb2)
    have KX2b : Hid _ := hide (KX2.out.below hb2)
    clear hb2 hp2 D2 HX2 KX2
    go_wp2_with fail
    refine HI2.out.mono ?_
    intro e w3 hE
    obtain ⟨hb3, a1, a2, a3, ac1, ac2, ac3, ag1, ag2, ag3, rfl, hr3⟩ := hE
    have bn3 : Below w3.heap.size w3 (w3.alloc (.cells #[.slice a1 L.length ac1, .slice a2 S.length ac2, .slice a3 O.length ac3] 33)) := below_alloc (Below.refl _ _) _
    have hX : Below w.heap.size w (w3.alloc (.cells #[.slice a1 L.length ac1, .slice a2 S.length ac2, .slice a3 O.length ac3] 33)) := below_trans (below_trans HX2b.out hb3) bn3
    have HX4 : Hid _ := hide hX
    have KX4 : Hid _ := hide ((KX2b.out.below hb3).below bn3)
    have R4 : Hid _ := hide (hr3.below bn3)
    have K4 : Hid (Blk w3.heap.size [.slice a1 L.length ac1, .slice a2 S.length ac2, .slice a3 O.length ac3] (w3.alloc (.cells #[.slice a1 L.length ac1, .slice a2 S.length ac2, .slice a3 O.length ac3] 33))) := hide Blk.new
    have N4 : Hid (w.heap.size ≤ w2b.heap.size ∧ w2b.heap.size ≤ w3.heap.size ∧ w3.heap.size < (w3.alloc (.cells #[.slice a1 L.length ac1, .slice a2 S.length ac2, .slice a3 O.length ac3] 33)).heap.size) := hide ⟨HX2b.out.size, hb3.size, by simp⟩
    clear hb3 HI2 HX2b KX2b hr3 bn3 hX
    have x0 := KX4.out.c 0 _ rfl
    have x1 := KX4.out.c 1 _ rfl
    have x2 := KX4.out.c 2 _ rfl
    go_wp2_with fail
    obtain ⟨w4, hw4⟩ : ∃ w4, w4 = w3.alloc (.cells #[.slice a1 L.length ac1, .slice a2 S.length ac2, .slice a3 O.length ac3] 33) := ⟨_, rfl⟩
    rw [← hw4] at HX4 KX4 R4 K4 N4 x0 x1 x2 ⊢
    clear hw4
    refine (toDisk_any _ _ _ _ _ _ live safe ops _ HM.out (HL.out.below HX4.out)).mono ?_
    rintro e w5 ⟨hb5, g5, h5, k5, rfl, hlo5, hd5⟩
    have bn5 : Below w5.heap.size w5 (w5.alloc (.cells #[.slice (some ⟨g5, 0, none⟩) live.length live.length, .slice (some ⟨h5, 0, none⟩) safe.length safe.length, .slice (some ⟨k5, 0, none⟩) ops.length ops.length] 33)) := below_alloc (Below.refl _ _) _
    have b45 := below_trans hb5 bn5
    have HX6 : Hid _ := hide (below_trans HX4.out b45)
    have KX6 : Hid _ := hide (KX4.out.below b45)
    have R46 : Hid _ := hide (R4.out.below b45)
    have K46 : Hid _ := hide (K4.out.below b45)
    have D5 : Hid _ := hide (hd5.below bn5)
    have R5 : Hid _ := hide ((hd5.r hlo5).below bn5)
    have K5 : Hid (Blk w5.heap.size [.slice (some ⟨g5, 0, none⟩) live.length live.length, .slice (some ⟨h5, 0, none⟩) safe.length safe.length, .slice (some ⟨k5, 0, none⟩) ops.length ops.length] (w5.alloc (.cells #[.slice (some ⟨g5, 0, none⟩) live.length live.length, .slice (some ⟨h5, 0, none⟩) safe.length safe.length, .slice (some ⟨k5, 0, none⟩) ops.length ops.length] 33))) := hide Blk.new
    have N5 : Hid (w4.heap.size ≤ w5.heap.size ∧ w5.heap.size < (w5.alloc (.cells #[.slice (some ⟨g5, 0, none⟩) live.length live.length, .slice (some ⟨h5, 0, none⟩) safe.length safe.length, .slice (some ⟨k5, 0, none⟩) ops.length ops.length] 33)).heap.size) := hide ⟨hb5.size, by simp⟩
    clear hb5 hd5 hlo5 bn5 b45 HX4 KX4 R4 K4 x0 x1 x2
    go_wp2_with fail
    obtain ⟨w6, hw6⟩ : ∃ w6, w6 = w5.alloc (.cells #[.slice (some ⟨g5, 0, none⟩) live.length live.length, .slice (some ⟨h5, 0, none⟩) safe.length safe.length, .slice (some ⟨k5, 0, none⟩) ops.length ops.length] 33) := ⟨_, rfl⟩
    rw [← hw6] at HX6 KX6 R46 K46 D5 R5 K5 N5 ⊢
    clear hw6
    refine (toInt64S_any ka keep kc _ hk0 (HP.out.below HX6.out)).mono ?_
    rintro e w6b ⟨hb6b, gp, rfl, hp6⟩
    have HX6b : Hid _ := hide (below_trans HX6.out hb6b)
    have KX6b : Hid _ := hide (KX6.out.below hb6b)
    have R46b : Hid _ := hide (R46.out.below hb6b)
    have K46b : Hid _ := hide (K46.out.below hb6b)
    have D5b : Hid _ := hide (D5.out.below hb6b)
    have R5b : Hid _ := hide (R5.out.below hb6b)
    have K5b : Hid _ := hide (K5.out.below hb6b)
    have P6b : Hid _ := hide hp6.2
    have N6b : Hid (w6.heap.size ≤ gp ∧ gp < w6b.heap.size) := hide hp6.1
    clear hb6b hp6 HX6 KX6 R46 K46 D5 R5 K5
    have y0 := K5b.out.c 0 _ rfl
    have y1 := K5b.out.c 1 _ rfl
    have y2 := K5b.out.c 2 _ rfl
    go_wp2_with fail
    refine (HIM.out g5 h5 k5 gp w6b D5b.out P6b.out.rows).mono ?_
    intro e w7 hE
    obtain ⟨hb7, b1, b2, b3, bc1, bc2, bc3, bg1, bg2, bg3, rfl, hr7⟩ := hE
    have bn7 : Below w7.heap.size w7 (w7.alloc (.cells #[.slice b1 L.length bc1, .slice b2 S.length bc2, .slice b3 O.length bc3] 33)) := below_alloc (Below.refl _ _) _
    have b67 := below_trans hb7 bn7
    have HX8 : Hid _ := hide (below_trans HX6b.out b67)
    have KX8 : Hid _ := hide (KX6b.out.below b67)
    have R48 : Hid _ := hide (R46b.out.below b67)
    have K48 : Hid _ := hide (K46b.out.below b67)
    have R58 : Hid _ := hide (R5b.out.below b67)
    have K58 : Hid _ := hide (K5b.out.below b67)
    have R6 : Hid _ := hide (hr7.below bn7)
    have K6 : Hid (Blk w7.heap.size [.slice b1 L.length bc1, .slice b2 S.length bc2, .slice b3 O.length bc3] (w7.alloc (.cells #[.slice b1 L.length bc1, .slice b2 S.length bc2, .slice b3 O.length bc3] 33))) := hide Blk.new
    have N7 : Hid (w6.heap.size ≤ w6b.heap.size ∧ w6b.heap.size ≤ w7.heap.size) := hide ⟨by have := N6b.out; omega, hb7.size⟩
    have P68 : Hid _ := hide (P6b.out.below b67)
    clear hb7 hr7 bn7 b67 HX6b KX6b R46b K46b D5b R5b K5b P6b y0 y1 y2
    have s0 := K48.out.c 0 _ rfl
    have s1 := K48.out.c 1 _ rfl
    have s2 := K48.out.c 2 _ rfl
    go_wp2_with fail
    obtain ⟨w8, hw8⟩ : ∃ w8, w8 = w7.alloc (.cells #[.slice b1 L.length bc1, .slice b2 S.length bc2, .slice b3 O.length bc3] 33) := ⟨_, rfl⟩
    rw [← hw8] at HX8 KX8 R48 K48 R58 K58 R6 K6 P68 s0 s1 s2 ⊢
    clear hw8
    refine (eqDisk_any _ _ _ _ _ _ _ _ _ _ _ _ L S O _ HML.out R6.out.at R48.out.at).mono ?_
    rintro e w9 ⟨rfl, hb9⟩
    have HX9 : Hid _ := hide (below_trans HX8.out hb9)
    have KX9 : Hid _ := hide (KX8.out.below hb9)
    have R49 : Hid _ := hide (R48.out.below hb9)
    have K49 : Hid _ := hide (K48.out.below hb9)
    have R59 : Hid _ := hide (R58.out.below hb9)
    have K59 : Hid _ := hide (K58.out.below hb9)
    have R69 : Hid _ := hide (R6.out.below hb9)
    have K69 : Hid _ := hide (K6.out.below hb9)
    have P69 : Hid _ := hide (P68.out.below hb9)
    clear P68 hb9 HX8 KX8 R48 K48 R58 K58 R6 K6 s0 s1 s2
    go_wp2_with fail
    go_region_held3 (fun x => x.cell? ⟨w5.heap.size, 0, none⟩ = some (.slice (some ⟨g5, 0, none⟩) live.length live.length) ∧ x.cell? ⟨w5.heap.size, 1, none⟩ = some (.slice (some ⟨h5, 0, none⟩) safe.length safe.length) ∧ x.cell? ⟨w5.heap.size, 2, none⟩ = some (.slice (some ⟨k5, 0, none⟩) ops.length ops.length) ∧ x.cell? ⟨w.heap.size, 0, none⟩ = some (.slice la live.length lc) ∧ x.cell? ⟨w.heap.size, 1, none⟩ = some (.slice sa safe.length sc) ∧ x.cell? ⟨w.heap.size, 2, none⟩ = some (.slice oa ops.length oc) ∧ Hid (Below w9.heap.size w9 x))
      (first | with_reducible exact S6d.of K59.out KX9.out (Below.refl _ _).drew | with_reducible exact S6d.on (by assumption) (by assumption) | with_reducible assumption)
      (first
        | (go_at_call 9; refine (toDisk_any _ _ _ _ _ _ live safe ops _ HM.out (HL.out.below (below_trans HX9.out (S6d.old (by assumption : S6d w5.heap.size w.heap.size (.slice (some ⟨g5, 0, none⟩) live.length live.length) (.slice (some ⟨h5, 0, none⟩) safe.length safe.length) (.slice (some ⟨k5, 0, none⟩) ops.length ops.length) (.slice la live.length lc) (.slice sa safe.length sc) (.slice oa ops.length oc) w9 _))))).mono ?_; rintro e wt ⟨hbt, gt, ht, kt, rfl, _, hdt⟩)
        | (go_at_call 12; refine (eqDisk_any _ _ _ _ _ _ _ _ _ _ _ _ live safe ops _ HM.out (R59.out.at.below (S6d.old (by assumption : S6d w5.heap.size w.heap.size (.slice (some ⟨g5, 0, none⟩) live.length live.length) (.slice (some ⟨h5, 0, none⟩) safe.length safe.length) (.slice (some ⟨k5, 0, none⟩) ops.length ops.length) (.slice la live.length lc) (.slice sa safe.length sc) (.slice oa ops.length oc) w9 _))) hdt.at).mono ?_; rintro e w10 ⟨rfl, hb10⟩))
    have hB : Below w9.heap.size w9 w10 := S6d.old (by assumption : S6d w5.heap.size w.heap.size (.slice (some ⟨g5, 0, none⟩) live.length live.length) (.slice (some ⟨h5, 0, none⟩) safe.length safe.length) (.slice (some ⟨k5, 0, none⟩) ops.length ops.length) (.slice la live.length lc) (.slice sa safe.length sc) (.slice oa ops.length oc) w9 w10)
    have HX10 : Hid _ := hide (below_trans HX9.out hB)
    have KX10 : Hid _ := hide (KX9.out.below hB)
    have R410 : Hid _ := hide (R49.out.below hB)
    have K410 : Hid _ := hide (K49.out.below hB)
    have R510 : Hid _ := hide (R59.out.below hB)
    have K510 : Hid _ := hide (K59.out.below hB)
    have R610 : Hid _ := hide (R69.out.below hB)
    have K610 : Hid _ := hide (K69.out.below hB)
    have P610 : Hid _ := hide (P69.out.below hB)
    clear P69 hB hbt hdt hb10 HX9 KX9 R49 K49 R59 K59 R69 K69
    go_wp2_with fail
    refine (toInt64S_any ka keep kc _ hk0 (HP.out.below HX10.out)).mono ?_
    rintro e w10b ⟨hb10, pt, rfl, hpt⟩
    have PT : Hid _ := hide (And.intro (P610.out.below hb10) hpt.2)
    have HB10 : Hid _ := hide hb10
    clear hb10 hpt
    go_wp2_with fail
    refine (eqInt64S_any _ _ keep _ _ w10b hk0 PT.out.1.rows PT.out.2.rows).mono ?_
    rintro e w10c ⟨rfl, hb10c⟩
    have hBc : Below w10.heap.size w10 w10c := below_trans HB10.out hb10c
    replace HX10 : Hid _ := hide (below_trans HX10.out hBc)
    replace KX10 : Hid _ := hide (KX10.out.below hBc)
    replace R410 : Hid _ := hide (R410.out.below hBc)
    replace K410 : Hid _ := hide (K410.out.below hBc)
    replace R510 : Hid _ := hide (R510.out.below hBc)
    replace K510 : Hid _ := hide (K510.out.below hBc)
    replace R610 : Hid _ := hide (R610.out.below hBc)
    replace K610 : Hid _ := hide (K610.out.below hBc)
    replace P610 : Hid _ := hide (P610.out.below hBc)
    clear hBc hb10c HB10 PT
    have f0 := K510.out.c 0 _ rfl
    have f1 := K510.out.c 1 _ rfl
    have f2 := K510.out.c 2 _ rfl
    go_wp2_with fail
    refine (markDisk_any _ _ 1 _ _ _ _ _ _ _ _ _ live safe ops _ HM.out.1.1 HM.out.2.1.1 HM.out.2.2.1 (by omega) (by omega) R510.out).mono ?_
    rintro e w11 ⟨rfl, hc11, _⟩
    have HX11 : Hid (Below w.heap.size w w11) := hide (HX10.out.trans (hc11.low (by have := N4.out; omega) HX10.out.size))
    have KX11 : Hid _ := hide (hc11.blk KX10.out (.inl (by have := N4.out; omega)))
    have R411 : Hid _ := hide (hc11.keep R410.out (.inl (by have := N4.out; omega)))
    have K411 : Hid _ := hide (hc11.blk K410.out (.inl (by have := N4.out; omega)))
    have R611 : Hid _ := hide (hc11.keep R610.out (.inr (by have := N5.out; have := N7.out; omega)))
    have K611 : Hid _ := hide (hc11.blk K610.out (.inr (by have := N5.out; have := N7.out; omega)))
    have P611 : Hid _ := hide (hc11.rowB P610.out (.inr (by have := N5.out; have := N6b.out; omega)))
    have HQ : Hid (0 ≤ 1 + 2 * live.length + 2 * safe.length + 4 * ops.length ∧ 1 + 2 * live.length + 2 * safe.length + 4 * ops.length ≤ 10000000) := hide (by have := HM.out.1.1; have := HM.out.2.1.1; have := HM.out.2.2.1; omega)
    clear hc11 HX10 KX10 R410 K410 R510 K510 R610 K610 f0 f1 f2
    generalize 1 + 2 * live.length + 2 * safe.length + 4 * ops.length = m1 at *
    have hq1 : (m1 : Int) ≤ 10000000 := by have := HQ.out; omega
    go_wp2_with fail
    refine (markInt64S_any _ keep _ gp (m1 : Int) w11 hk0 (by omega) P611.out).mono ?_
    rintro e w11b ⟨rfl, hq, _⟩
    have hc := hq.chr
    replace HX11 : Hid (Below w.heap.size w w11b) := hide (HX11.out.trans (hc.low (by have := N4.out; have := N5.out; have := N6b.out; omega) HX11.out.size))
    replace KX11 : Hid _ := hide (hc.blk KX11.out (.inl (by have := N4.out; have := N5.out; have := N6b.out; omega)))
    replace R411 : Hid _ := hide (hc.keep R411.out (.inl (by have := N4.out; have := N5.out; have := N6b.out; omega)))
    replace K411 : Hid _ := hide (hc.blk K411.out (.inl (by have := N4.out; have := N5.out; have := N6b.out; omega)))
    replace R611 : Hid _ := hide (hc.keep R611.out (.inr (by have := N6b.out; omega)))
    replace K611 : Hid _ := hide (hc.blk K611.out (.inr (by have := N6b.out; have := N7.out; omega)))
    clear hc hq P611 P610
    have j1 : ¬ ((m1 : Int) + (keep.length : Int) < 0) := by omega
    have s0 := K411.out.c 0 _ rfl
    have s1 := K411.out.c 1 _ rfl
    have s2 := K411.out.c 2 _ rfl
    have p0 := K611.out.c 0 _ rfl
    have p1 := K611.out.c 1 _ rfl
    have p2 := K611.out.c 2 _ rfl
    go_wp2_with fail
    refine (eqDisk_any _ _ _ _ _ _ _ _ _ _ _ _ L S O _ HML.out R611.out.at R411.out.at).mono ?_
    rintro e w12 ⟨rfl, hb12⟩
    have HX12 : Hid _ := hide (below_trans HX11.out hb12)
    have KX12 : Hid _ := hide (KX11.out.below hb12)
    have R412 : Hid _ := hide (R411.out.below hb12)
    have K412 : Hid _ := hide (K411.out.below hb12)
    have R612 : Hid _ := hide (R611.out.below hb12)
    have K612 : Hid _ := hide (K611.out.below hb12)
    clear hb12 HX11 KX11 R411 K411 R611 K611 s0 s1 s2 p0 p1 p2
    have p0 := K612.out.c 0 _ rfl
    have p1 := K612.out.c 1 _ rfl
    have p2 := K612.out.c 2 _ rfl
    go_wp2_with fail
    refine (markDisk_any _ _ 1 _ _ _ _ _ _ _ _ _ L S O _ HML.out.1.1 HML.out.2.1.1 HML.out.2.2.1 (by omega) (by omega) R612.out).mono ?_
    rintro e w13 ⟨rfl, hc13, hr13⟩
    have HX13 : Hid (Below w.heap.size w w13) := hide (HX12.out.trans (hc13.low (by have := N4.out; have := N5.out; have := N7.out; have := N6b.out; omega) HX12.out.size))
    have KX13 : Hid _ := hide (hc13.blk KX12.out (.inl (by have := N4.out; have := N5.out; have := N6b.out; omega)))
    have R413 : Hid _ := hide (hc13.keep R412.out (.inl (by have := N4.out; have := N5.out; have := N6b.out; omega)))
    have K413 : Hid _ := hide (hc13.blk K412.out (.inl (by have := N4.out; have := N5.out; have := N6b.out; omega)))
    have K613 : Hid _ := hide (hc13.blk K612.out (.inr (Nat.le_refl _)))
    have R613 : Hid _ := hide hr13.at
    have HQ2 : Hid (1 + 2 * L.length + 2 * S.length + 4 * O.length ≤ 10000000) := hide (by have := HML.out.1.1; have := HML.out.2.1.1; have := HML.out.2.2.1; omega)
    clear hc13 hr13 HX12 KX12 R412 K412 R612 K612 p0 p1 p2
    have HH : Hid (∀ x : World, DkAt x b1 b2 b3 (fmarkL 1 L.length) (fmarkL (1 + 2 * L.length) S.length) (omarkL (1 + 2 * L.length + 2 * S.length) O.length) → Calls Tryz.prog 14 #[.agg #[.slice b1 L.length bc1, .slice b2 S.length bc2, .slice b3 O.length bc3], .int .i64 1] x fun e w' => HeldEnd (1 + 2 * L.length + 2 * S.length + 4 * O.length) x e w') := hide (fun x hx => heldDisk_any 1 b1 b2 b3 bc1 bc2 bc3 L.length S.length O.length x HML.out.1.1 HML.out.2.1.1 HML.out.2.2.1 (by omega) (by omega) hx)
    generalize 1 + 2 * L.length + 2 * S.length + 4 * O.length = m2 at *
    have j2 : ¬ ((m2 : Int) < 0) := by omega
    have j3 : ((m2 : Int) != (m2 : Int)) = false := by simp
    have p0 := K613.out.c 0 _ rfl
    have p1 := K613.out.c 1 _ rfl
    have p2 := K613.out.c 2 _ rfl
    go_wp2_with fail
    refine (HH.out w13 R613.out).mono ?_
    rintro e w14 ⟨rfl, hb14⟩
    have HX14 : Hid _ := hide (below_trans HX13.out hb14)
    have KX14 : Hid _ := hide (KX13.out.below hb14)
    have R414 : Hid _ := hide (R413.out.below hb14)
    have K414 : Hid _ := hide (K413.out.below hb14)
    have R614 : Hid _ := hide (R613.out.below hb14)
    have K614 : Hid _ := hide (K613.out.below hb14)
    clear hb14 HX13 KX13 R413 K413 R613 K613 p0 p1 p2
    have x0 := KX14.out.c 0 _ rfl
    have x1 := KX14.out.c 1 _ rfl
    have x2 := KX14.out.c 2 _ rfl
    go_wp2_with fail
    refine (toDisk_any _ _ _ _ _ _ live safe ops _ HM.out (HL.out.below HX14.out)).mono ?_
    rintro e w15 ⟨hb15, g7, h7, k7, rfl, _, hd15⟩
    have HX15 : Hid _ := hide (below_trans HX14.out hb15)
    have R415 : Hid _ := hide (R414.out.below hb15)
    have K415 : Hid _ := hide (K414.out.below hb15)
    have R615 : Hid _ := hide (R614.out.below hb15)
    have K615 : Hid _ := hide (K614.out.below hb15)
    have D15 : Hid _ := hide hd15
    clear hb15 hd15 HX14 KX14 R414 K414 R614 K614 x0 x1 x2
    go_wp2_with fail
    refine (toInt64S_any ka keep kc _ hk0 (HP.out.below HX15.out)).mono ?_
    rintro e w15b ⟨hb15, p7, rfl, hp15⟩
    have HI15 : Hid _ := hide (HIM.out g7 h7 k7 p7 w15b (D15.out.below hb15) hp15.2.rows)
    replace HX15 : Hid _ := hide (below_trans HX15.out hb15)
    replace R415 : Hid _ := hide (R415.out.below hb15)
    replace K415 : Hid _ := hide (K415.out.below hb15)
    replace R615 : Hid _ := hide (R615.out.below hb15)
    replace K615 : Hid _ := hide (K615.out.below hb15)
    clear hb15 hp15 D15
    go_wp2_with fail
    refine HI15.out.mono ?_
    intro e w16 hE
    obtain ⟨hb16, d1, d2, d3, dc1, dc2, dc3, dg1, dg2, dg3, rfl, hr16⟩ := hE
    have bn16 : Below w16.heap.size w16 (w16.alloc (.cells #[.slice d1 L.length dc1, .slice d2 S.length dc2, .slice d3 O.length dc3] 33)) := below_alloc (Below.refl _ _) _
    have b16 := below_trans hb16 bn16
    have HX17 : Hid _ := hide (below_trans HX15.out b16)
    have R417 : Hid _ := hide (R415.out.below b16)
    have K417 : Hid _ := hide (K415.out.below b16)
    have R617 : Hid _ := hide (R615.out.below b16)
    have K617 : Hid _ := hide (K615.out.below b16)
    have R10 : Hid _ := hide (hr16.below bn16)
    clear hb16 bn16 b16 hr16 HI15 HX15 R415 K415 R615 K615
    have s0 := K417.out.c 0 _ rfl
    have s1 := K417.out.c 1 _ rfl
    have s2 := K417.out.c 2 _ rfl
    go_wp2_with fail
    obtain ⟨w17, hw17⟩ : ∃ w17, w17 = w16.alloc (.cells #[.slice d1 L.length dc1, .slice d2 S.length dc2, .slice d3 O.length dc3] 33) := ⟨_, rfl⟩
    rw [← hw17] at HX17 R417 K417 R617 K617 R10 s0 s1 s2 ⊢
    clear hw17
    refine (eqDisk_any _ _ _ _ _ _ _ _ _ _ _ _ L S O _ HML.out R10.out.at R417.out.at).mono ?_
    rintro e w18 ⟨rfl, hb18⟩
    have HX18 : Hid _ := hide (below_trans HX17.out hb18)
    have R618 : Hid _ := hide (R617.out.below hb18)
    have K618 : Hid _ := hide (K617.out.below hb18)
    clear hb18 HX17 R417 K417 R617 K617 R10 s0 s1 s2
    have p0 := K618.out.c 0 _ rfl
    have p1 := K618.out.c 1 _ rfl
    have p2 := K618.out.c 2 _ rfl
    go_wp2_with fail
    refine (HH.out w18 R618.out).mono ?_
    rintro e w19 ⟨rfl, hb19⟩
    have HE : Hid (Below w.heap.size w w19) := hide (below_trans HX18.out hb19)
    clear hb19 p0 p1 p2
    go_wp2
    go_ret
    exact ⟨rfl, HE.out⟩
end Go.Proofs.YtacbcmgpknhgdaaGreat
