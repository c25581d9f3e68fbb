/- The drawn disk with a name and data. -/
import Derived.Test.YtiilkkdbifhojaaGreatDrD3
namespace Go.Proofs.YtiilkkdbifhojaaGreat
open Go.ChangeShapes Go.WideShapes Go.ChangeAt Go.RowKit
set_option linter.unusedVariables false
set_option maxRecDepth 100000
structure RpSt (w : World) (D : Nat) (x : World) : Prop where
  bel : Below w.heap.size w x
  rd : Rd (w.heap.size + 1) x
  r1 : Blk w.heap.size [.slice none 0 0, .slice none 0 0, .slice none 0 0] x
  ds : DkIn D (fun g => w.heap.size + 1 < g ∧ g ≠ D) x
  lt : w.heap.size + 1 < D
theorem RpSt.apart {w : World} {D : Nat} {x y : World} (h : RpSt w D x) (k : Apart (w.heap.size + 1) x y) (hr : Rd (w.heap.size + 1) y) : RpSt w D y := by
  have l := h.lt
  have lD : D < x.heap.size := by obtain ⟨_, _, _, _, _, _, _, _, _, h1, _⟩ := h.ds; exact h1.lt
  exact ⟨below_apart h.bel (by omega) k, hr, h.r1.apart k (by omega), h.ds.off k.size (fun g hg hx => k.block g hx (by omega)) (k.block D lD (by omega)), l⟩
theorem RpSt.below {w : World} {D : Nat} {x y : World} (h : RpSt w D x) (k : Below x.heap.size x y) : RpSt w D y := h.apart (apart_of k) (h.rd.on k)
/-- what was drawn -/
def DrawnRp (w : World) (e : Ending) (w' : World) : Prop := Below w.heap.size w w' ∧ ∃ (a1 a2 a3 : Option Addr) (c1 c2 c3 : Nat) (L S : List Fl) (O : List Dp) (nm da : ByteArray), e = .returned (.tuple #[.agg #[.slice a1 L.length c1, .slice a2 S.length c2, .slice a3 O.length c3], .string nm, .string da]) ∧ DkAt w' a1 a2 a3 L S O ∧ SmD L S O ∧ ((a1 = none → c1 = 0) ∧ (a2 = none → c2 = 0) ∧ (a3 = none → c3 = 0)) ∧ nm.size ≤ 1000 ∧ da.size ≤ 100
theorem drawnRp_end {w x : World} {D : Nat} {a1 a2 a3 : Option Addr} {c1 c2 c3 : Nat} {L S : List Fl} {O : List Dp} {nm da : ByteArray} (h : RpSt w D x) (h2 : DkAt x a1 a2 a3 L S O) (h3 : SmD L S O) (h4 : (a1 = none → c1 = 0) ∧ (a2 = none → c2 = 0) ∧ (a3 = none → c3 = 0)) (h5 : DkOff (fun g => w.heap.size + 1 < g ∧ g ≠ D) a1 a2 a3 L S O) (hn : nm.size ≤ 1000) (hd : da.size ≤ 100) : DrawnRp w (.returned (.tuple #[.agg #[.slice a1 L.length c1, .slice a2 S.length c2, .slice a3 O.length c3], .string nm, .string da])) (((x.setCell ⟨w.heap.size, 0, none⟩ (.slice a1 L.length c1)).setCell ⟨w.heap.size, 1, none⟩ (.slice a2 S.length c2)).setCell ⟨w.heap.size, 2, none⟩ (.slice a3 O.length c3)) := by
  have b1 := h.bel.setCell (p := ⟨w.heap.size, 0, none⟩) (Nat.le_refl _) (.slice a1 L.length c1)
  have b2 := b1.setCell (p := ⟨w.heap.size, 1, none⟩) (Nat.le_refl _) (.slice a2 S.length c2)
  have b3 := b2.setCell (p := ⟨w.heap.size, 2, none⟩) (Nat.le_refl _) (.slice a3 O.length c3)
  exact ⟨b3, a1, a2, a3, c1, c2, c3, L, S, O, nm, da, rfl, h2.off h5 (by simp) (fun g hg _ => by rw [set_block _ _ (by omega), set_block _ _ (by omega), set_block _ _ (by omega)]), h3, h4, hn, hd⟩
set_option maxHeartbeats 16000000 in
theorem drawReplace_any (a : Option Addr) (len cap : Nat) (w : World) (h : IsCode w a len) : Calls Tryz.prog 5 #[.slice a len cap] w fun e w' => DrawnRp w e w' := by
  have H : Hid _ := hide h
  clear h
  obtain ⟨w0, hw0⟩ : ∃ w0, w0 = w.alloc (.cells #[.slice none 0 0, .slice none 0 0, .slice none 0 0] 27) := ⟨_, rfl⟩
  have HW0 : Hid (w.alloc (.cells #[.slice none 0 0, .slice none 0 0, .slice none 0 0] 27) = w0) := hide hw0.symm
  have B0 : Hid (Below w.heap.size w w0) := hide (by rw [hw0]; exact below_alloc (Below.refl _ _) _)
  have K1 : Hid (Blk w.heap.size [.slice none 0 0, .slice none 0 0, .slice none 0 0] w0) := hide (by rw [hw0]; exact Blk.new)
  have S0 : Hid (w0.heap.size = w.heap.size + 1) := hide (by rw [hw0]; simp)
  clear hw0
  go_enter Tryz.func5, Tryz.ntmps5
  go_wp2_with fail
  rw [HW0.out]
  refine (l1Open_any a len cap w0).mono ?_
  rintro e w1 ⟨rfl, hw1⟩
  rw [S0.out]
  have R1 : Hid (Rd (w.heap.size + 1) w1) := hide (by rw [hw1, ← S0.out]; exact rd_open (H.out.below B0.out))
  have b1 : Below w0.heap.size w0 w1 := by rw [hw1]; exact below_alloc (Below.refl _ _) _
  have B1 : Hid _ := hide (below_trans B0.out b1)
  have K11 : Hid _ := hide (K1.out.below b1)
  clear hw1 b1 K1 B0 HW0 H
  go_wp2_with fail
  refine (disk_any (w.heap.size + 1) w1 R1.out).mono ?_
  rintro e w2 ⟨⟨a1, a2, a3, c1, c2, c3, L, S, O, rfl, hat, hsm, n1, n2, n3, hhi⟩, hr2, ha2⟩
  have lw2 := hr2.lt
  obtain ⟨w3, hw3⟩ : ∃ w3, w3 = w2.alloc (.cells #[.slice a1 L.length c1, .slice a2 S.length c2, .slice a3 O.length c3] 27) := ⟨_, rfl⟩
  have b23 : Below w2.heap.size w2 w3 := by rw [hw3]; exact below_alloc (Below.refl _ _) _
  have HW3 : Hid (w2.alloc (.cells #[.slice a1 L.length c1, .slice a2 S.length c2, .slice a3 O.length c3] 27) = w3) := hide hw3.symm
  have ST : Hid (RpSt w w2.heap.size w3) := hide ⟨below_trans (below_apart B1.out (by omega) ha2) b23, hr2.on b23, (K11.out.apart ha2 (by omega)).below b23, ⟨a1, a2, a3, c1, c2, c3, L, S, O, by rw [hw3]; exact Blk.new, hat.below b23, hsm, ⟨n1, n2, n3⟩, hat.lt.and (DkOff.of (m := w.heap.size + 2) (fun ad q => hhi ad q) (p := fun g => w.heap.size + 1 < g) (fun g hg => by omega)) (fun g h1 h2 => ⟨h2, by omega⟩)⟩, lw2⟩
  clear hw3 b23 hat hsm n1 n2 n3 hhi hr2 ha2 K11 B1 R1 lw2
  go_upto_region 3 with fail
  rw [HW3.out]
  clear HW3
  generalize w2.heap.size = D at *
  have hlt := ST.out.rd.lt
  go_wp2_with fail
  refine (below_any (w.heap.size + 1) 4 _ (ST.out.rd.kept ((Kept.refl _).alloc _ _)) (by omega)).mono ?_
  rintro e w4 ⟨⟨r, r0, r2, r1, rfl⟩, hr4, ha4⟩
  obtain ⟨n, rfl⟩ : ∃ n : Nat, r = (n : Int) := ⟨r.toNat, by omega⟩
  have r3 : (n : Int) < 4 := by omega
  obtain ⟨nm, hnm, hcell⟩ := tab_str (cs := [⟨#[98, 97, 115, 101]⟩, ⟨#[108, 111, 103]⟩, ⟨#[98, 97, 115, 101]⟩, ⟨#[]⟩]) hlt ha4 (by decide) n (by simp; omega)
  have ST4 : Hid _ := hide ((ST.out.below (below_alloc (Below.refl _ _) _)).apart ha4 hr4)
  clear r2 hr4 ha4 ST hlt
  go_wp2_with fail
  refine (once_any (w.heap.size + 1) 12 _ ST4.out.rd (by omega) (by omega)).mono ?_
  rintro e w5 ⟨⟨b, rfl⟩, hr5, ha5⟩
  have ST5 : Hid _ := hide (ST4.out.apart ha5 hr5)
  clear hr5 ha5 ST4 hcell
  cases b
  · have hn1 : nm.size ≤ 1000 := by omega
    obtain ⟨a1, a2, a3, c1, c2, c3, L, S, O, hD9, hat9, hsm9, hcp9, hof9⟩ := ST5.out.ds
    have XD3 : Hid (w5.drew.cell? ⟨D, 0, none⟩ = some (.slice a1 L.length c1) ∧ w5.drew.cell? ⟨D, 1, none⟩ = some (.slice a2 S.length c2) ∧ w5.drew.cell? ⟨D, 2, none⟩ = some (.slice a3 O.length c3)) := hide ⟨hD9.c 0 _ rfl, hD9.c 1 _ rfl, hD9.c 2 _ rfl⟩
    have HDD : Hid _ := hide (And.intro hat9 (And.intro hsm9 (And.intro hcp9 hof9)))
    have STd : Hid (RpSt w D w5.drew) := hide (ST5.out.below (Below.refl _ _).drew)
    have HK9 : Hid (Blk D [.slice a1 L.length c1, .slice a2 S.length c2, .slice a3 O.length c3] w5.drew) := hide (hD9.below (Below.refl _ _).drew)
    have LD : Hid (w.heap.size + 1 < D ∧ D < w5.heap.size) := hide ⟨ST5.out.lt, hD9.lt⟩
    clear hD9 hat9 hsm9 hcp9 hof9
    go_wp2_with fail
    go_region_held3 (fun x => x.cell? ⟨D, 0, none⟩ = some (.slice a1 L.length c1) ∧ x.cell? ⟨D, 1, none⟩ = some (.slice a2 S.length c2) ∧ x.cell? ⟨D, 2, none⟩ = some (.slice a3 O.length c3))
      (first | with_reducible exact XD3.out | with_reducible assumption)
      (first | (go_at_call 15; refine (text_any (w.heap.size + 1) _ STd.out.rd).mono ?_; rintro e w9 ⟨⟨da, hda, rfl⟩, hr9, ha9⟩; have XS : w9.cell? ⟨D, 0, none⟩ = some (.slice a1 L.length c1) ∧ w9.cell? ⟨D, 1, none⟩ = some (.slice a2 S.length c2) ∧ w9.cell? ⟨D, 2, none⟩ = some (.slice a3 O.length c3) := ⟨by rw [ha9.cell (by show D < w5.heap.size; exact LD.out.2) (by have := LD.out.1; omega)]; exact XD3.out.1, by rw [ha9.cell (by show D < w5.heap.size; exact LD.out.2) (by have := LD.out.1; omega)]; exact XD3.out.2.1, by rw [ha9.cell (by show D < w5.heap.size; exact LD.out.2) (by have := LD.out.1; omega)]; exact XD3.out.2.2⟩; have ST9 : Hid _ := hide (STd.out.apart ha9 hr9); have KR := ST9.out.r1; have r0 := KR.c 0 _ rfl; have r1 := KR.c 1 _ rfl; have r2 := KR.c 2 _ rfl; have rf0 := KR.f 0; have rf1 := KR.f 1; have rf2 := KR.f 2; have KD9 := HK9.out.apart ha9 (by have := LD.out.1; omega); have KT := ((KD9.other 0 (.slice a1 L.length c1) (show w.heap.size ≠ D by have := LD.out.1; omega)).other 1 (.slice a2 S.length c2) (show w.heap.size ≠ D by have := LD.out.1; omega)).other 2 (.slice a3 O.length c3) (show w.heap.size ≠ D by have := LD.out.1; omega); have XT := And.intro (KT.c 0 _ rfl) (And.intro (KT.c 1 _ rfl) (KT.c 2 _ rfl)); clear KD9 KT; have AT9 : Hid _ := hide ((HDD.out.1.below (Below.refl _ _).drew).off HDD.out.2.2.2 ha9.size (fun g hg hx => ha9.block g hx (by omega)))))
    have HE : Hid (DrawnRp w (.returned (.tuple #[.agg #[.slice a1 L.length c1, .slice a2 S.length c2, .slice a3 O.length c3], .string nm, .string da])) (((w9.setCell ⟨w.heap.size, 0, none⟩ (.slice a1 L.length c1)).setCell ⟨w.heap.size, 1, none⟩ (.slice a2 S.length c2)).setCell ⟨w.heap.size, 2, none⟩ (.slice a3 O.length c3))) := hide (drawnRp_end ST9.out AT9.out HDD.out.2.1 HDD.out.2.2.1 HDD.out.2.2.2 hn1 hda)
    have HS : Hid (∃ Y, (((w9.setCell ⟨w.heap.size, 0, none⟩ (.slice a1 L.length c1)).setCell ⟨w.heap.size, 1, none⟩ (.slice a2 S.length c2)).setCell ⟨w.heap.size, 2, none⟩ (.slice a3 O.length c3)) = Y ∧ Blk w.heap.size [.slice a1 L.length c1, .slice a2 S.length c2, .slice a3 O.length c3] Y) := hide ⟨_, rfl, ((ST9.out.r1.set 0 _ (by simp)).set 1 _ (by simp)).set 2 _ (by simp)⟩
    obtain ⟨Y, hY, kY⟩ := HS.out
    have HKY : Hid _ := hide kY
    clear XS XT kY
    rename _ ∧ _ ∧ _ => hHd
    clear hHd r0 r1 r2 rf0 rf1 rf2
    rw [hY] at HE ⊢
    have z0 := HKY.out.c 0 _ rfl
    have z1 := HKY.out.c 1 _ rfl
    have z2 := HKY.out.c 2 _ rfl
    clear hY
    go_wp2
    exact bodyPost_ret (v := .tuple #[.agg #[.slice a1 L.length c1, .slice a2 S.length c2, .slice a3 O.length c3], .string nm, .string da]) (by simp [results, Tryz.results5, go_sem, z0, z1, z2]) rfl HE.out
  · go_wp2_with fail
    refine (below_any (w.heap.size + 1) 4 _ ST5.out.rd (by omega)).mono ?_
    rintro e w6 ⟨⟨q, q0, q2, q1, rfl⟩, hr6, ha6⟩
    have ST6 : Hid _ := hide (ST5.out.apart ha6 hr6)
    clear hr6 ha6 ST5
    obtain ⟨m, rfl⟩ : ∃ m : Nat, q = (m : Int) := ⟨q.toNat, by omega⟩
    have hm9 : m < 4 := by omega
    obtain ⟨n9, hn9, hn8⟩ : ∃ n9 : Nat, n9 ≤ 95 + m ∧ 95 + m ≤ n9 := ⟨95 + m, Nat.le_refl _, Nat.le_refl _⟩
    obtain ⟨j0, hj0, hy0, hy1, hy2⟩ := info_parts infoB
    go_wp2_with (first | (at_make; refine Shut2.mk ?_) | fail)
    refine Shut2.mk' ?_
    refine wpList_make_row _ rfl _ _ 22 rfl 5 j0 _ huB hj0 hy0 hy1 rfl .i64 .i64 n9 (by show Value.int .i64 (95 + (m : Int)) = Value.int .i64 (n9 : Int); congr 1; omega) (by show Value.int .i64 (95 + (m : Int)) = Value.int .i64 (n9 : Int); congr 1; omega) (by rw [hy2]; omega) (by omega) ?_
    have hcv := big_str w6 n9
    obtain ⟨big, hbig⟩ : ∃ big, big = strOfNums (List.replicate n9 0) := ⟨_, rfl⟩
    rw [← hbig] at hcv
    have hn1 : big.size ≤ 1000 := by rw [hbig, strOfNums_size]; simp; omega
    obtain ⟨w7, hw7⟩ : ∃ w7, w7 = w6.alloc (.cells (madeCells #[.int .u8 0] n9) 5) := ⟨_, rfl⟩
    have ST7 : Hid (RpSt w D w7) := hide (by rw [hw7]; exact ST6.out.below (below_alloc (Below.refl _ _) _))
    rw [← hw7] at hcv ⊢
    clear hbig hw7 ST6
    go_upto_region 6 with fail
    clear hcv
    obtain ⟨a1, a2, a3, c1, c2, c3, L, S, O, hD9, hat9, hsm9, hcp9, hof9⟩ := ST7.out.ds
    have XD3 : Hid (w7.drew.cell? ⟨D, 0, none⟩ = some (.slice a1 L.length c1) ∧ w7.drew.cell? ⟨D, 1, none⟩ = some (.slice a2 S.length c2) ∧ w7.drew.cell? ⟨D, 2, none⟩ = some (.slice a3 O.length c3)) := hide ⟨hD9.c 0 _ rfl, hD9.c 1 _ rfl, hD9.c 2 _ rfl⟩
    have HDD : Hid _ := hide (And.intro hat9 (And.intro hsm9 (And.intro hcp9 hof9)))
    have STd : Hid (RpSt w D w7.drew) := hide (ST7.out.below (Below.refl _ _).drew)
    have HK9 : Hid (Blk D [.slice a1 L.length c1, .slice a2 S.length c2, .slice a3 O.length c3] w7.drew) := hide (hD9.below (Below.refl _ _).drew)
    have LD : Hid (w.heap.size + 1 < D ∧ D < w7.heap.size) := hide ⟨ST7.out.lt, hD9.lt⟩
    clear hD9 hat9 hsm9 hcp9 hof9
    go_wp2_with fail
    go_region_held3 (fun x => x.cell? ⟨D, 0, none⟩ = some (.slice a1 L.length c1) ∧ x.cell? ⟨D, 1, none⟩ = some (.slice a2 S.length c2) ∧ x.cell? ⟨D, 2, none⟩ = some (.slice a3 O.length c3))
      (first | with_reducible exact XD3.out | with_reducible assumption)
      (first | (go_at_call 15; refine (text_any (w.heap.size + 1) _ STd.out.rd).mono ?_; rintro e w9 ⟨⟨da, hda, rfl⟩, hr9, ha9⟩; have XS : w9.cell? ⟨D, 0, none⟩ = some (.slice a1 L.length c1) ∧ w9.cell? ⟨D, 1, none⟩ = some (.slice a2 S.length c2) ∧ w9.cell? ⟨D, 2, none⟩ = some (.slice a3 O.length c3) := ⟨by rw [ha9.cell (by show D < w7.heap.size; exact LD.out.2) (by have := LD.out.1; omega)]; exact XD3.out.1, by rw [ha9.cell (by show D < w7.heap.size; exact LD.out.2) (by have := LD.out.1; omega)]; exact XD3.out.2.1, by rw [ha9.cell (by show D < w7.heap.size; exact LD.out.2) (by have := LD.out.1; omega)]; exact XD3.out.2.2⟩; have ST9 : Hid _ := hide (STd.out.apart ha9 hr9); have KR := ST9.out.r1; have r0 := KR.c 0 _ rfl; have r1 := KR.c 1 _ rfl; have r2 := KR.c 2 _ rfl; have rf0 := KR.f 0; have rf1 := KR.f 1; have rf2 := KR.f 2; have KD9 := HK9.out.apart ha9 (by have := LD.out.1; omega); have KT := ((KD9.other 0 (.slice a1 L.length c1) (show w.heap.size ≠ D by have := LD.out.1; omega)).other 1 (.slice a2 S.length c2) (show w.heap.size ≠ D by have := LD.out.1; omega)).other 2 (.slice a3 O.length c3) (show w.heap.size ≠ D by have := LD.out.1; omega); have XT := And.intro (KT.c 0 _ rfl) (And.intro (KT.c 1 _ rfl) (KT.c 2 _ rfl)); clear KD9 KT; have AT9 : Hid _ := hide ((HDD.out.1.below (Below.refl _ _).drew).off HDD.out.2.2.2 ha9.size (fun g hg hx => ha9.block g hx (by omega)))))
    have HE : Hid (DrawnRp w (.returned (.tuple #[.agg #[.slice a1 L.length c1, .slice a2 S.length c2, .slice a3 O.length c3], .string big, .string da])) (((w9.setCell ⟨w.heap.size, 0, none⟩ (.slice a1 L.length c1)).setCell ⟨w.heap.size, 1, none⟩ (.slice a2 S.length c2)).setCell ⟨w.heap.size, 2, none⟩ (.slice a3 O.length c3))) := hide (drawnRp_end ST9.out AT9.out HDD.out.2.1 HDD.out.2.2.1 HDD.out.2.2.2 hn1 hda)
    have HS : Hid (∃ Y, (((w9.setCell ⟨w.heap.size, 0, none⟩ (.slice a1 L.length c1)).setCell ⟨w.heap.size, 1, none⟩ (.slice a2 S.length c2)).setCell ⟨w.heap.size, 2, none⟩ (.slice a3 O.length c3)) = Y ∧ Blk w.heap.size [.slice a1 L.length c1, .slice a2 S.length c2, .slice a3 O.length c3] Y) := hide ⟨_, rfl, ((ST9.out.r1.set 0 _ (by simp)).set 1 _ (by simp)).set 2 _ (by simp)⟩
    obtain ⟨Y, hY, kY⟩ := HS.out
    have HKY : Hid _ := hide kY
    clear XS XT kY
    rename _ ∧ _ ∧ _ => hHd
    clear hHd r0 r1 r2 rf0 rf1 rf2
    rw [hY] at HE ⊢
    have z0 := HKY.out.c 0 _ rfl
    have z1 := HKY.out.c 1 _ rfl
    have z2 := HKY.out.c 2 _ rfl
    clear hY
    go_wp2
    exact bodyPost_ret (v := .tuple #[.agg #[.slice a1 L.length c1, .slice a2 S.length c2, .slice a3 O.length c3], .string big, .string da]) (by simp [results, Tryz.results5, go_sem, z0, z1, z2]) rfl HE.out
end Go.Proofs.YtiilkkdbifhojaaGreat
