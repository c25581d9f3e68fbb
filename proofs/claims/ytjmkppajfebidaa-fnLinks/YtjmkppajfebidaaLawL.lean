/- The walk of the law FnLinks. -/
import Derived.Test.YtjmkppajfebidaaDrP
import Derived.Test.YtjmkppajfebidaaLk
import Derived.Test.YtjmkppajfebidaaSRcv2
import Derived.Test.YtjmkppajfebidaaSPk2
import Derived.Test.YtjmkppajfebidaaAck
import Derived.Test.YtjmkppajfebidaaRcv
namespace Go.Proofs.Ytjmkppajfebidaa
open Go.ChangeShapes Go.WideShapes Go.ChangeAt Go.RowKit
set_option linter.unusedVariables false
theorem big_any (a : Option Addr) (len cap : Nat) (w : World) : Calls Try.prog 4 #[.slice a len cap] w fun e w' => e = .returned (.bool (decide (1048576 < (len : Int)))) ∧ w' = w := by
  go_enter Try.func4, Try.ntmps4
  go_wp2
  go_ret
  exact ⟨rfl, rfl⟩
theorem lst_cell {w : World} {base vb vc : Nat} {m : Int} (h : w.ownsRow base 30 2 (.slice (some ⟨vb, 0, none⟩) (par m 6).length vc) (par m 6).length ((par m 6).flatMap prcCells)) (c : Nat) (hc : c < 6) : w.cell? ⟨vb, c * 2, none⟩ = some (.int .i64 ((c : Int) + 1)) ∧ w.cell? ⟨vb, c * 2 + 1, none⟩ = some (.int .i64 (m + (c : Int) + 1)) := by
  have hl := par_len m 6
  have k0 := h.cellAt (c * 2) (by omega)
  have k1 := h.cellAt (c * 2 + 1) (by omega)
  have e0 := flat_get prcCells 2 prcLen (par m 6) c (by omega) 0 (by omega)
  have e1 := flat_get prcCells 2 prcLen (par m 6) c (by omega) 1 (by omega)
  rw [par_get] at e0 e1
  rw [Nat.add_zero] at e0
  rw [k0, k1, e0, e1]
  exact ⟨rfl, rfl⟩
structure Cells2 (B : Nat) (v0 v1 : Value) (x : World) : Prop where
  lt : B < x.heap.size
  c0 : x.cell? ⟨B, 0, none⟩ = some v0
  c1 : x.cell? ⟨B, 1, none⟩ = some v1
theorem Cells2.on {B : Nat} {v0 v1 : Value} {x y : World} (h : Cells2 B v0 v1 x) (b : Below x.heap.size x y) : Cells2 B v0 v1 y :=
  ⟨Nat.lt_of_lt_of_le h.lt b.size, (b.cell h.lt).trans h.c0, (b.cell h.lt).trans h.c1⟩
set_option maxRecDepth 100000 in
set_option maxHeartbeats 8000000 in
theorem walkLinks (a : Option Addr) (len cap : Nat) (w : World) (h : IsCode w a len) :
    Calls Try.prog 3 #[.slice a len cap] w fun e w' => YesEnd w e w' := by
  have HC : Hid _ := hide h
  clear h
  by_cases hbig : 1048576 < (len : Int)
  · have hd : decide (1048576 < (len : Int)) = true := by simp; omega
    go_enter Try.func3, Try.ntmps3
    go_wp2_with fail
    refine (big_any _ _ _ _).mono ?_
    rintro e w1 ⟨rfl, hw1⟩
    have hw1' := hw1.symm
    subst hw1'
    go_wp2
    go_ret
    exact ⟨rfl, Below.refl _ _⟩
  · have hd : decide (1048576 < (len : Int)) = false := by simp; omega
    go_enter Try.func3, Try.ntmps3
    go_wp2_with fail
    refine (big_any _ _ _ _).mono ?_
    rintro e w1 ⟨rfl, hw1⟩
    have hw1' := hw1.symm
    subst hw1'
    go_wp2_with fail
    refine (drawPacked_any a len cap w HC.out).mono ?_
    rintro e w2 ⟨E, ea, ec, n, rfl, h8, hs, hg, ⟨n0, n1⟩, hn0, hrow, hb2⟩
    obtain ⟨x, hx⟩ : ∃ x, x = w2.alloc (.cells #[.slice ea E.out.length ec, .int .i64 E.sent, .int .i64 E.got] 26) := ⟨_, rfl⟩
    have HX : Hid (w2.alloc (.cells #[.slice ea E.out.length ec, .int .i64 E.sent, .int .i64 E.got] 26) = x) := hide hx.symm
    have HBx : Hid (Below w.heap.size w x) := hide (below_trans hb2 (by rw [hx]; exact below_alloc (Below.refl _ _) _))
    have HS : Hid (w2.heap.size + 1 = x.heap.size) := hide (by rw [hx]; simp)
    clear hx hrow hb2
    have HL0 : Hid _ := hide (lk_start HBx.out)
    clear HBx
    obtain ⟨x3, hx3⟩ : ∃ x3, x3 = ((x.alloc (.cells #[.slice none 0 0, .int .i64 0, .int .i64 0] 26)).alloc (.cells #[.slice none 0 0, .int .i64 0, .int .i64 0] 26)).alloc (.cells #[] 30) := ⟨_, rfl⟩
    have HX3 : Hid (((x.alloc (.cells #[.slice none 0 0, .int .i64 0, .int .i64 0] 26)).alloc (.cells #[.slice none 0 0, .int .i64 0, .int .i64 0] 26)).alloc (.cells #[] 30) = x3) := hide hx3.symm
    have hl0 := HL0.out
    rw [HX3.out] at hl0
    clear HL0
    have HL0 : Hid _ := hide hl0
    clear hl0 hx3
    go_wp2
    rw [HX.out, HX3.out]
    rw [HS.out]
    have hm0 : -999 ≤ n.tmod 1000 := by have := Int.lt_tmod_of_pos n (show (0 : Int) < 1000 by omega); omega
    have hm1 : n.tmod 1000 ≤ 999 := by have := Int.tmod_lt_of_pos n (show (0 : Int) < 1000 by omega); omega
    obtain ⟨i0, hi0, hz0, hz1, hz2⟩ := info_parts info34
    have hu27 : Try.prog.underlying 24 = some (.slice 30) := by kernel_rfl
    have HIP : Hid (∀ (F : En) (fa : Option Addr) (fc : Nat) (q : Int) (y : World), F.out.length ≤ 1048576 → RowAt 2 prcCells y fa F.out → Calls Try.prog 6 #[.agg #[.slice fa F.out.length fc, .int .i64 F.sent, .int .i64 F.got], .int .i64 q] y fun e w' => EndPrc (pkE F q) (pkP F q) (pkOk F q) y e w') := hide (fun F fa fc q y h1 h2 => implPacked_any fa F.out fc F.sent F.got q y h1 h2)
    have HSP : Hid (∀ (F : En) (fa : Option Addr) (fc : Nat) (q : Int) (y : World), F.out.length ≤ 1048576 → (fa = none → fc = 0) → RowAt 2 prcCells y fa F.out → Calls Try.prog 7 #[.agg #[.slice fa F.out.length fc, .int .i64 F.sent, .int .i64 F.got], .int .i64 q] y fun e w' => EndPrc (pkE F q) (pkP F q) (pkOk F q) y e w') := hide (fun F fa fc q y h1 h3 h2 => specPacked_any fa F.out fc F.sent F.got q y h1 h3 h2)
    go_loopw [7, 8] (fun v i wr => ∃ (k : Nat) (aa : Option Addr) (ac ga : Nat), k ≤ 6 ∧ (k = 0 ∨ 0 ≤ n.tmod 1000) ∧ i = .int .i64 (k : Int) ∧ Hid (Lk w x.heap.size (x.heap.size + 1) (EA (n.tmod 1000) k) aa ac ga (EB 0) none 0 v (par (n.tmod 1000) k) wr)) (fun v i wr => 6 - (intOf i).toNat)
    case atStart => exact ⟨0, none, 0, _, by omega, .inl rfl, rfl, HL0⟩
    case round =>
      clear HL0
      obtain ⟨k, aa, ac, ga, hk6, hkm, rfl, HL⟩ := hrel
      obtain ⟨va, vc, rfl⟩ := row_shape HL.out.lst
      by_cases hk : k < 6
      · have hk' : (k : Int) < 6 := by omega
        have a0 := HL.out.vA.c0
        have a1 := HL.out.vA.c1
        have a2 := HL.out.vA.c2
        go_wp2_with fail
        refine (HIP.out (EA (n.tmod 1000) k) aa ac (n.tmod 1000 + (k : Int) + 1) wr (by simp [EA, par_len]; omega) HL.out.row.rows).mono ?_
        rintro e w4 ⟨hb4, v4, rfl, g4, fa, fc, hg4, rfl, ho4⟩
        by_cases hpos : 0 ≤ n.tmod 1000
        · have hpk := EA_pack hpos hm1 hk
          rw [hpk.2.1] at ho4
          rw [hpk.1, hpk.2.1, hpk.2.2]
          have HPK : Hid _ := hide hpk
          clear hpk
          obtain ⟨w5, hw5⟩ : ∃ w5, w5 = w4.alloc (.cells #[.slice fa (EA (n.tmod 1000) (k + 1)).out.length fc, .int .i64 (EA (n.tmod 1000) (k + 1)).sent, .int .i64 (EA (n.tmod 1000) (k + 1)).got] 26) := ⟨_, rfl⟩
          obtain ⟨w6, hw6⟩ : ∃ w6, w6 = w5.alloc (.cells #[.int .i64 ((k : Int) + 1), .int .i64 (n.tmod 1000 + (k : Int) + 1)] 30) := ⟨_, rfl⟩
          have HW6 : Hid ((w4.alloc (.cells #[.slice fa (EA (n.tmod 1000) (k + 1)).out.length fc, .int .i64 (EA (n.tmod 1000) (k + 1)).sent, .int .i64 (EA (n.tmod 1000) (k + 1)).got] 26)).alloc (.cells #[.int .i64 ((k : Int) + 1), .int .i64 (n.tmod 1000 + (k : Int) + 1)] 30) = w6) := hide (by rw [hw6, hw5])
          have s5 : w5.heap.size = w4.heap.size + 1 := by rw [hw5]; simp
          have b56 : Below w5.heap.size w5 w6 := by rw [hw6]; exact below_alloc (Below.refl _ _) _
          have b46 : Below w4.heap.size w4 w6 := below_trans (by rw [hw5]; exact below_alloc (Below.refl _ _) _) b56
          have b6 := below_trans hb4 b46
          have HF6 : Hid (Var w4.heap.size (EA (n.tmod 1000) (k + 1)) fa fc w6) := hide ((by rw [hw5]; exact ⟨by simp, World.cell?_alloc_at _ _ _ _ rfl, World.cell?_alloc_at _ _ _ _ rfl, World.cell?_alloc_at _ _ _ _ rfl, frozen_of_block (heap_alloc_new _ _)⟩ : Var w4.heap.size (EA (n.tmod 1000) (k + 1)) fa fc w5).keep b56.size (b56.block _ (by omega)))
          have HP6 : Hid (Cells2 (w4.heap.size + 1) (.int .i64 ((k : Int) + 1)) (.int .i64 (n.tmod 1000 + (k : Int) + 1)) w6) := hide (by rw [hw6, ← s5]; exact ⟨by simp, World.cell?_alloc_at _ _ _ _ rfl, World.cell?_alloc_at _ _ _ _ rfl⟩)
          have HO6 : Hid (OwnRow 2 prcCells w6 g4 fa fc (EA (n.tmod 1000) (k + 1)).out) := hide (ho4.below b46)
          have HL6 : Hid _ := hide (HL.out.below b6)
          have HG6 : Hid (wr.heap.size ≤ g4) := hide hg4
          have HZ6 : Hid (wr.heap.size ≤ w4.heap.size) := hide hb4.size
          have HZr : Hid _ := hide HL.out
          clear hw5 hw6 s5 b56 b46 b6 hb4 hg4 ho4 HL a0 a1 a2
          have a0 := HL6.out.vA.c0
          have a1 := HL6.out.vA.c1
          have a2 := HL6.out.vA.c2
          rw [← HW6.out] at a0 a1 a2
          go_wp2_with fail
          rw [HW6.out]
          clear a0 a1 a2 HW6
          refine (HSP.out (EA (n.tmod 1000) k) aa ac (n.tmod 1000 + (k : Int) + 1) w6 (by simp [EA, par_len]; omega) HL6.out.row.nocap HL6.out.row.rows).mono ?_
          rintro e w7 ⟨hb7, v7, rfl, g7, ya, yc, hg7, rfl, ho7⟩
          rw [HPK.out.1, HPK.out.2.1, HPK.out.2.2]
          clear HPK
          obtain ⟨w8, hw8⟩ : ∃ w8, w8 = (w7.alloc (.cells #[.slice ya (EA (n.tmod 1000) (k + 1)).out.length yc, .int .i64 (EA (n.tmod 1000) (k + 1)).sent, .int .i64 (EA (n.tmod 1000) (k + 1)).got] 26)).alloc (.cells #[.int .i64 ((k : Int) + 1), .int .i64 (n.tmod 1000 + (k : Int) + 1)] 30) := ⟨_, rfl⟩
          have HW8 : Hid ((w7.alloc (.cells #[.slice ya (EA (n.tmod 1000) (k + 1)).out.length yc, .int .i64 (EA (n.tmod 1000) (k + 1)).sent, .int .i64 (EA (n.tmod 1000) (k + 1)).got] 26)).alloc (.cells #[.int .i64 ((k : Int) + 1), .int .i64 (n.tmod 1000 + (k : Int) + 1)] 30) = w8) := hide hw8.symm
          have b8 : Below w6.heap.size w6 w8 := below_trans hb7 (by rw [hw8]; exact below_trans (below_alloc (Below.refl _ _) _) (below_alloc (Below.refl _ _) _))
          have HF8 : Hid _ := hide (HF6.out.keep b8.size (b8.block _ HF6.out.lt))
          have HP8 : Hid _ := hide (HP6.out.on b8)
          have HO8 : Hid _ := hide (HO6.out.below b8)
          have HL8 : Hid _ := hide (HL6.out.below b8)
          have hz9 := HZ6.out
          have hltA := HZr.out.vA.lt
          have hltB := HZr.out.vB.lt
          have nk1 : w4.heap.size ≠ x.heap.size := by omega
          have nk2 : w4.heap.size + 1 ≠ x.heap.size := by omega
          have HL9 : Hid _ := hide (HL8.out.setA (A2 := EA (n.tmod 1000) (k + 1)) (a2 := fa) (c2 := fc) (g2 := g4) (by have := HL8.out.loA; have := HG6.out; omega) (fun _ => ⟨by have := HG6.out; omega, by have := HG6.out; omega, fun e => by have := (HZr.out.lst.lt _ e).2; have := HG6.out; omega⟩) HO8.out)
          clear hb7 hg7 ho7 hw8 b8 HF6 HP6 HO6 HL6 HZ6 HG6 HZr HO8 hz9 hltA hltB
          have a0 := HL8.out.vA.c0
          have a1 := HL8.out.vA.c1
          have a2 := HL8.out.vA.c2
          have f0 := HL8.out.vA.fz 0
          have f1 := HL8.out.vA.fz 1
          have f2 := HL8.out.vA.fz 2
          have e0 := HF8.out.c0
          have e1 := HF8.out.c1
          have e2 := HF8.out.c2
          have p0 := HP8.out.c0
          have p1 := HP8.out.c1
          obtain ⟨y9, hy9⟩ : ∃ y9, y9 = ((w8.setCell ⟨x.heap.size, 0, none⟩ (.slice fa (EA (n.tmod 1000) (k + 1)).out.length fc)).setCell ⟨x.heap.size, 1, none⟩ (.int .i64 (EA (n.tmod 1000) (k + 1)).sent)).setCell ⟨x.heap.size, 2, none⟩ (.int .i64 (EA (n.tmod 1000) (k + 1)).got) := ⟨_, rfl⟩
          have HY9 : Hid (((w8.setCell ⟨x.heap.size, 0, none⟩ (.slice fa (EA (n.tmod 1000) (k + 1)).out.length fc)).setCell ⟨x.heap.size, 1, none⟩ (.int .i64 (EA (n.tmod 1000) (k + 1)).sent)).setCell ⟨x.heap.size, 2, none⟩ (.int .i64 (EA (n.tmod 1000) (k + 1)).got) = y9) := hide hy9.symm
          have hl9 := HL9.out
          rw [HY9.out] at hl9
          clear HL9 hy9
          have HL9 : Hid _ := hide hl9
          have sz9 : Hid (w8.heap.size = y9.heap.size) := hide (by rw [← HY9.out]; simp [World.setCell])
          clear hl9
          rw [← HW8.out] at a0 a1 a2 f0 f1 f2 e0 e1 e2 p0 p1
          go_wp2_with (first | (at_builtin; refine Shut2.mk ?_) | fail)
          refine Shut2.mk' ?_
          rw [HW8.out, HY9.out]
          have hsz9 : w7.heap.size + 1 + 1 = y9.heap.size := by rw [← sz9.out, ← HW8.out]; simp
          refine wpList_append_own_at _ rfl _ _ 24 rfl w.heap.size 30 i0 _ 2 16 hu27 hi0 hz0 hz1 hz2 rfl (by decide) (.slice va (par (n.tmod 1000) k).length vc) (par (n.tmod 1000) k).length ((par (n.tmod 1000) k).flatMap prcCells) rfl ?own ⟨w7.heap.size + 1 + 1, 0, none⟩ 1 1 [.int .i64 ((k : Int) + 1), .int .i64 (n.tmod 1000 + (k : Int) + 1)] rfl rfl ?news (by simp [Value.oneCell']) (by rw [par_len]; unfold maxLen; omega) (by rw [par_len]; omega) ?base ?_
          case own => exact (HL9.out.below (below_alloc (Below.refl _ _) _)).lst
          case news =>
            rw [hsz9]
            exact news2 (World.cell?_alloc_at _ _ _ _ rfl) (World.cell?_alloc_at _ _ _ _ rfl)
          case base => have := HL9.out.bel.size; simp; omega
          intro v10 w10 ho10 hg10 _ hl10
          have HL10 : Hid (Lk w x.heap.size (x.heap.size + 1) (EA (n.tmod 1000) (k + 1)) fa fc g4 (EB 0) none 0 v10 (par (n.tmod 1000) (k + 1)) w10) := hide ((HL9.out.below (below_alloc (Below.refl _ _) _)).grow hg10 (by
            rw [par_succ, List.flatMap_append]
            simpa [prcCells] using ho10) hl10)
          clear ho10 hg10 hl10 HL9 HL8 a0 a1 a2 f0 f1 f2 e0 e1 e2 p0 p1 HF8 HP8 sz9 hsz9 HY9 HW8
          go_wp2
          exact ⟨⟨k + 1, fa, fc, g4, by omega, .inr hpos, by go_num, HL10⟩, by simp [intOf]; omega⟩
        · have hno : pkOk (EA (n.tmod 1000) k) (n.tmod 1000 + (k : Int) + 1) = false := pk_small (by omega)
          have HNO : Hid _ := hide hno
          rw [hno]
          clear hno hpos hkm
          generalize pkE (EA (n.tmod 1000) k) (n.tmod 1000 + (k : Int) + 1) = Z at *
          generalize pkP (EA (n.tmod 1000) k) (n.tmod 1000 + (k : Int) + 1) = zp at *
          obtain ⟨w6, hw6⟩ : ∃ w6, w6 = (w4.alloc (.cells #[.slice fa Z.out.length fc, .int .i64 Z.sent, .int .i64 Z.got] 26)).alloc (.cells #[.int .i64 zp.seq, .int .i64 zp.amt] 30) := ⟨_, rfl⟩
          have HW6 : Hid ((w4.alloc (.cells #[.slice fa Z.out.length fc, .int .i64 Z.sent, .int .i64 Z.got] 26)).alloc (.cells #[.int .i64 zp.seq, .int .i64 zp.amt] 30) = w6) := hide hw6.symm
          have HL6 : Hid _ := hide (HL.out.below (y := w6) (below_trans hb4 (by rw [hw6]; exact below_trans (below_alloc (Below.refl _ _) _) (below_alloc (Below.refl _ _) _))))
          clear hw6 hb4 hg4 ho4 HL a0 a1 a2
          have a0 := HL6.out.vA.c0
          have a1 := HL6.out.vA.c1
          have a2 := HL6.out.vA.c2
          rw [← HW6.out] at a0 a1 a2
          go_wp2_with fail
          rw [HW6.out]
          clear a0 a1 a2 HW6
          refine (HSP.out (EA (n.tmod 1000) k) aa ac (n.tmod 1000 + (k : Int) + 1) w6 (by simp [EA, par_len]; omega) HL6.out.row.nocap HL6.out.row.rows).mono ?_
          rintro e w7 ⟨hb7, v7, rfl, g7, ya, yc, hg7, rfl, ho7⟩
          rw [HNO.out]
          have HX7 : Hid _ := hide (below_trans HL6.out.bel hb7)
          clear hb7 hg7 ho7 HL6 HNO
          go_wp2
          go_ret
          exact ⟨rfl, below_alloc (below_alloc HX7.out _) _⟩
      · obtain rfl : k = 6 := by omega
        have hpos : 0 ≤ n.tmod 1000 := by omega
        have hk' : ¬ ((6 : Nat) : Int) < 6 := by omega
        have hl := HL.out
        rw [← EC_zero hpos hm1] at hl
        clear HL
        have HL : Hid _ := hide hl
        clear hl HIP HSP hk hkm
        have HIR : Hid (∀ (F : En) (fa : Option Addr) (fc : Nat) (ps pa : Int) (y : World), F.out.length ≤ 1048576 → RowAt 2 prcCells y fa F.out → Calls Try.prog 8 #[.agg #[.slice fa F.out.length fc, .int .i64 F.sent, .int .i64 F.got], .agg #[.int .i64 ps, .int .i64 pa]] y fun e w' => EndTwo (rcvE F ⟨ps, pa⟩) (rcvX F ⟨ps, pa⟩) (rcvY F ⟨ps, pa⟩) y e w') := hide (fun F fa fc ps pa y h1 h2 => implReceived_any fa F.out fc F.sent F.got ps pa y h1 h2)
        have HSR : Hid (∀ (F : En) (fa : Option Addr) (fc : Nat) (ps pa : Int) (y : World), F.out.length ≤ 1048576 → (fa = none → fc = 0) → RowAt 2 prcCells y fa F.out → Calls Try.prog 9 #[.agg #[.slice fa F.out.length fc, .int .i64 F.sent, .int .i64 F.got], .agg #[.int .i64 ps, .int .i64 pa]] y fun e w' => EndTwo (rcvE F ⟨ps, pa⟩) (rcvX F ⟨ps, pa⟩) (rcvY F ⟨ps, pa⟩) y e w') := hide (fun F fa fc ps pa y h1 h3 h2 => specReceived_any fa F.out fc F.sent F.got ps pa y h1 h3 h2)
        have HIK : Hid (∀ (F : En) (fa : Option Addr) (fc : Nat) (q : Int) (y : World), F.out.length ≤ 1048576 → RowAt 2 prcCells y fa F.out → Calls Try.prog 10 #[.agg #[.slice fa F.out.length fc, .int .i64 F.sent, .int .i64 F.got], .int .i64 q] y fun e w' => EndFlag (ackE F q) (ackOk F q) y e w') := hide (fun F fa fc q y h1 h2 => implAcked_any fa F.out fc F.sent F.got q y h1 h2)
        generalize n.tmod 1000 = m at *
        go_wp2
        go_loopw [16, 17] (fun t i wr => ∃ (j g d : Nat) (aa : Option Addr) (ac ga : Nat) (ba : Option Addr) (bc : Nat), j ≤ 60 ∧ j ≤ len ∧ g ≤ 6 ∧ d ≤ g ∧ t = .int .i64 (preS m g) ∧ i = .int .i64 (j : Int) ∧ Hid (Lk w x.heap.size (x.heap.size + 1) (EC m d) aa ac ga (EB g) ba bc (.slice va (par m 6).length vc) (par m 6) wr)) (fun t i wr => 60 - (intOf i).toNat)
        case atStart => exact ⟨0, 0, 0, aa, ac, ga, none, 0, by omega, by omega, by omega, by omega, rfl, rfl, HL⟩
        case round =>
          clear HL
          obtain ⟨j, g, d, aa, ac, ga, ba, bc, hj6, hjl, hg6, hdg, rfl, rfl, HL⟩ := hrel
          by_cases hj : j < len ∧ j < 60
          · obtain ⟨hj1, hj2⟩ := hj
            have hj1' : (j : Int) < (len : Int) := by omega
            have hj2' : (j : Int) < 60 := by omega
            obtain ⟨cb, coff, rfl, hcb, z, z0, z1, hz0⟩ := HC.out.2 j hj1
            have hz := (HL.out.bel.cell (p := ⟨cb, coff + j, none⟩) hcb).trans hz0
            clear hz0
            obtain ⟨vb, rfl⟩ : ∃ vb, va = some ⟨vb, 0, none⟩ := by
              obtain ⟨gg, cap', e, _⟩ := HL.out.lst.form (by rw [par_len]; omega)
              simp only [Value.slice.injEq] at e
              exact ⟨gg, e.1⟩
            obtain ⟨c, hzc⟩ : ∃ c : Nat, z % 6 = (c : Int) := ⟨(z % 6).toNat, by omega⟩
            have hc6 : c < 6 := by omega
            have hcl : (c : Int) < ((par m 6).length : Int) := by rw [par_len]; omega
            obtain ⟨d0, d1⟩ := lst_cell HL.out.lst c hc6
            have hz' := hz
            have b0 := HL.out.vB.c0
            have b1 := HL.out.vB.c1
            have b2 := HL.out.vB.c2
            obtain ⟨w4, hw4⟩ : ∃ w4, w4 = wr.alloc (.cells #[.int .i64 ((c : Int) + 1), .int .i64 (m + (c : Int) + 1)] 30) := ⟨_, rfl⟩
            have HW4 : Hid (wr.alloc (.cells #[.int .i64 ((c : Int) + 1), .int .i64 (m + (c : Int) + 1)] 30) = w4) := hide hw4.symm
            have hb4 : Below wr.heap.size wr w4 := by rw [hw4]; exact below_alloc (Below.refl _ _) _
            have HP4 : Hid (Cells2 wr.heap.size (.int .i64 ((c : Int) + 1)) (.int .i64 (m + (c : Int) + 1)) w4) := hide (by rw [hw4]; exact ⟨by simp, World.cell?_alloc_at _ _ _ _ rfl, World.cell?_alloc_at _ _ _ _ rfl⟩)
            have HL4 : Hid _ := hide (HL.out.below hb4)
            have HZ4 : Hid _ := hide ((below_keeps hb4 _ _ hz))
            have hltb : x.heap.size + 1 < wr.heap.size := HL.out.vB.lt
            clear hw4 hb4 HL hz'
            go_wp2_with fail
            rw [HW4.out]
            clear b0 b1 b2 d0 d1 hz HW4
            refine (HIR.out (EB g) ba bc ((c : Int) + 1) (m + (c : Int) + 1) w4 (by simp [EB]) HL4.out.rowB).mono ?_
            rintro e w5 ⟨hb5, v5, rfl, g5, fa, fc, hg5, rfl, ho5⟩
            have hcs := EB_rcv hpos hm1 hg6 hc6
            have hrn : (rcvE (EB g) ⟨(c : Int) + 1, m + (c : Int) + 1⟩).out = [] := by rcases hcs with ⟨_, h, _⟩ | ⟨h, _⟩ <;> rw [h] <;> rfl
            have HCS : Hid _ := hide hcs
            have HRN : Hid _ := hide hrn
            clear hcs hrn
            have HFN : Hid (fa = none → fc = 0) := hide ho5.nocap
            generalize hF : rcvE (EB g) ⟨(c : Int) + 1, m + (c : Int) + 1⟩ = F at *
            generalize hX : rcvX (EB g) ⟨(c : Int) + 1, m + (c : Int) + 1⟩ = X at *
            generalize hY : rcvY (EB g) ⟨(c : Int) + 1, m + (c : Int) + 1⟩ = Y at *
            have HEQ : Hid _ := hide (And.intro hF (And.intro hX hY))
            clear hF hX hY
            obtain ⟨w6, hw6⟩ : ∃ w6, w6 = w5.alloc (.cells #[.slice fa F.out.length fc, .int .i64 F.sent, .int .i64 F.got] 26) := ⟨_, rfl⟩
            have HW6 : Hid (w5.alloc (.cells #[.slice fa F.out.length fc, .int .i64 F.sent, .int .i64 F.got] 26) = w6) := hide hw6.symm
            have b56 : Below w5.heap.size w5 w6 := by rw [hw6]; exact below_alloc (Below.refl _ _) _
            have b6 := below_trans hb5 b56
            have HF6 : Hid (Var w5.heap.size F fa fc w6) := hide (by rw [hw6]; exact ⟨by simp, World.cell?_alloc_at _ _ _ _ rfl, World.cell?_alloc_at _ _ _ _ rfl, World.cell?_alloc_at _ _ _ _ rfl, frozen_of_block (heap_alloc_new _ _)⟩)
            have HP6 : Hid _ := hide (HP4.out.on b6)
            have HL6 : Hid _ := hide (HL4.out.below b6)
            have HZ6 : Hid _ := hide (below_keeps b6 _ _ HZ4.out)
            have HS6 : Hid (wr.heap.size < w5.heap.size) := hide (Nat.lt_of_lt_of_le HP4.out.lt hb5.size)
            clear hw6 b56 b6 hb5 hg5 ho5 HP4 HL4 HZ4
            have b0 := HL6.out.vB.c0
            have b1 := HL6.out.vB.c1
            have b2 := HL6.out.vB.c2
            have p0 := HP6.out.c0
            have p1 := HP6.out.c1
            rw [← HW6.out] at b0 b1 b2 p0 p1
            go_wp2_with fail
            rw [HW6.out]
            clear b0 b1 b2 p0 p1 HW6
            refine (HSR.out (EB g) ba bc ((c : Int) + 1) (m + (c : Int) + 1) w6 (by simp [EB]) HL6.out.nB HL6.out.rowB).mono ?_
            rw [HEQ.out.1, HEQ.out.2.1, HEQ.out.2.2]
            rintro e w7 ⟨hb7, v7, rfl, g7, ya, yc, hg7, rfl, ho7⟩
            obtain ⟨w8, hw8⟩ : ∃ w8, w8 = w7.alloc (.cells #[.slice ya F.out.length yc, .int .i64 F.sent, .int .i64 F.got] 26) := ⟨_, rfl⟩
            have HW8 : Hid (w7.alloc (.cells #[.slice ya F.out.length yc, .int .i64 F.sent, .int .i64 F.got] 26) = w8) := hide hw8.symm
            have b8 : Below w6.heap.size w6 w8 := below_trans hb7 (by rw [hw8]; exact below_alloc (Below.refl _ _) _)
            have HF8 : Hid _ := hide (HF6.out.keep b8.size (b8.block _ HF6.out.lt))
            have HL8 : Hid _ := hide (HL6.out.below b8)
            have HZ8 : Hid _ := hide (below_keeps b8 _ _ HZ6.out)
            clear hb7 hg7 ho7 hw8 b8 HF6 HP6 HL6 HZ6
            have HL9 : Hid _ := hide (HL8.out.setB (b2 := F) (a2 := fa) (c2 := fc) HRN.out HFN.out)
            have b0 := HL8.out.vB.c0
            have b1 := HL8.out.vB.c1
            have b2 := HL8.out.vB.c2
            have f0 := HL8.out.vB.fz 0
            have f1 := HL8.out.vB.fz 1
            have f2 := HL8.out.vB.fz 2
            have e0 := HF8.out.c0
            have e1 := HF8.out.c1
            have e2 := HF8.out.c2
            have nk1 : w5.heap.size ≠ x.heap.size + 1 := by have := HS6.out; omega
            have nk3 : cb ≠ x.heap.size + 1 := by have := HL8.out.loB; omega
            have hz8 := HZ8.out
            have hxx : (X != X) = false := by simp
            have hyy : (Y != Y) = false := by simp
            have hbd := preS_bd hpos hm1 g hg6
            have hX0 : 0 ≤ X ∧ X ≤ 1005 := by rcases HCS.out with ⟨_, _, h, _⟩ | ⟨_, h, _⟩ <;> rw [h] <;> omega
            rw [← HW8.out] at b0 b1 b2 f0 f1 f2 e0 e1 e2 hz8
            obtain ⟨y9, hy9⟩ : ∃ y9, y9 = ((w8.setCell ⟨x.heap.size + 1, 0, none⟩ (.slice fa F.out.length fc)).setCell ⟨x.heap.size + 1, 1, none⟩ (.int .i64 F.sent)).setCell ⟨x.heap.size + 1, 2, none⟩ (.int .i64 F.got) := ⟨_, rfl⟩
            have HY9 : Hid (((w8.setCell ⟨x.heap.size + 1, 0, none⟩ (.slice fa F.out.length fc)).setCell ⟨x.heap.size + 1, 1, none⟩ (.int .i64 F.sent)).setCell ⟨x.heap.size + 1, 2, none⟩ (.int .i64 F.got) = y9) := hide hy9.symm
            have hl9 := HL9.out
            rw [HY9.out] at hl9
            clear HL9 hy9
            have HL9 : Hid _ := hide hl9
            clear hl9
            have HNEW : Hid (∃ g' : Nat, g' ≤ 6 ∧ d ≤ g' ∧ F = EB g' ∧ preS m g + X = preS m g' ∧ Y = (g' : Int)) := hide (by
              rcases HCS.out with ⟨hcg, h1, h2, h3⟩ | ⟨h1, h2, h3⟩
              · exact ⟨g + 1, by omega, by omega, h1, by rw [h2]; simp [preS], by rw [h3]; simp⟩
              · exact ⟨g, by omega, by omega, h1, by rw [h2]; simp, by rw [h3]⟩)
            cases q7 : (z % 7 == 0)
            · go_wp2_with fail
              rw [HW8.out, HY9.out]
              obtain ⟨g', hg1, hg2, hFg, hsum, hYg⟩ := HNEW.out
              have hl9 := HL9.out
              rw [hFg] at hl9
              exact ⟨⟨j + 1, g', d, aa, ac, ga, fa, fc, by omega, by omega, hg1, hg2, by rw [hsum], by go_num, hide hl9⟩, by simp [intOf]; omega⟩
            · have a0 := HL9.out.vA.c0
              have a1 := HL9.out.vA.c1
              have a2 := HL9.out.vA.c2
              rw [← HY9.out, ← HW8.out] at a0 a1 a2
              go_wp2_with fail
              rw [HW8.out, HY9.out]
              clear a0 a1 a2 b0 b1 b2 f0 f1 f2 e0 e1 e2 hz8 HW8 HY9 HL8 HF8 HZ8
              obtain ⟨g', hg1, hg2, hFg, hsum, hYg⟩ := HNEW.out
              have hl9 := HL9.out
              rw [hFg] at hl9
              clear HL9
              have HL9 : Hid _ := hide hl9
              have hkk := EC_ack hpos hm1 hg2 hg1
              have hln : (EC m d).out.length ≤ 6 := EC_len hpos hm1 (by omega)
              have hik := HIK.out (EC m d) aa ac (g' : Int) y9 (by omega) hl9.row.rows
              rw [hkk.1, hkk.2] at hik
              have HSUM : Hid _ := hide hsum
              rw [hYg]
              clear hkk hl9 hsum hFg HNEW HCS HEQ hX0 HRN hYg
              refine hik.mono ?_
              clear hik
              rintro e w10 ⟨hb10, v10, rfl, g10, ka, kc, hg10, rfl, ho10⟩
              obtain ⟨w11, hw11⟩ : ∃ w11, w11 = w10.alloc (.cells #[.slice ka (EC m g').out.length kc, .int .i64 (EC m g').sent, .int .i64 (EC m g').got] 26) := ⟨_, rfl⟩
              have HW11 : Hid (w10.alloc (.cells #[.slice ka (EC m g').out.length kc, .int .i64 (EC m g').sent, .int .i64 (EC m g').got] 26) = w11) := hide hw11.symm
              have b1011 : Below w10.heap.size w10 w11 := by rw [hw11]; exact below_alloc (Below.refl _ _) _
              have b11 := below_trans hb10 b1011
              have HF11 : Hid (Var w10.heap.size (EC m g') ka kc w11) := hide (by rw [hw11]; exact ⟨by simp, World.cell?_alloc_at _ _ _ _ rfl, World.cell?_alloc_at _ _ _ _ rfl, World.cell?_alloc_at _ _ _ _ rfl, frozen_of_block (heap_alloc_new _ _)⟩)
              have HL11 : Hid _ := hide (HL9.out.below b11)
              have nk5 : w10.heap.size ≠ x.heap.size := by have := HL9.out.vA.lt; have := hb10.size; omega
              have hsz9 := hb10.size
              have HL12 : Hid _ := hide (HL11.out.setA (A2 := EC m g') (a2 := ka) (c2 := kc) (g2 := g10) (by have := HL9.out.bel.size; omega) (fun _ => ⟨by have := HL9.out.vA.lt; omega, by have := HL9.out.vB.lt; omega, fun e => by have := (HL9.out.lst.lt _ e).2; omega⟩) (ho10.below b1011))
              clear hb10 hg10 ho10 hw11 b1011 b11 hsz9
              have a0 := HL11.out.vA.c0
              have a1 := HL11.out.vA.c1
              have a2 := HL11.out.vA.c2
              have f0 := HL11.out.vA.fz 0
              have f1 := HL11.out.vA.fz 1
              have f2 := HL11.out.vA.fz 2
              have e0 := HF11.out.c0
              have e1 := HF11.out.c1
              have e2 := HF11.out.c2
              rw [← HW11.out] at a0 a1 a2 f0 f1 f2 e0 e1 e2
              go_wp2_with fail
              rw [HW11.out]
              exact ⟨⟨j + 1, g', g', ka, kc, g10, fa, fc, by omega, by omega, hg1, Nat.le_refl _, by rw [HSUM.out], by go_num, HL12⟩, by simp [intOf]; omega⟩
          · have hpg : Hid _ := hide (preS_bd hpos hm1 g hg6)
            obtain ⟨vb, rfl⟩ : ∃ vb, va = some ⟨vb, 0, none⟩ := by
              obtain ⟨gg, cap', e, _⟩ := HL.out.lst.form (by rw [par_len]; omega)
              simp only [Value.slice.injEq] at e
              exact ⟨gg, e.1⟩
            clear HIR HSR HIK
            by_cases h1 : (j : Int) < (len : Int)
            · have h2 : ¬ (j : Int) < 60 := by omega
              go_wp2
              go_loopw [27, 28] (fun t i wq => ∃ (q : Nat), q ≤ g ∧ t = .int .i64 (preS m q) ∧ i = .int .i64 (q : Int) ∧ Hid (Lk w x.heap.size (x.heap.size + 1) (EC m d) aa ac ga (EB g) ba bc (.slice (some ⟨vb, 0, none⟩) (par m 6).length vc) (par m 6) wq)) (fun t i wq => 6 - (intOf i).toNat)
              case atStart => exact ⟨0, by omega, rfl, rfl, HL⟩
              case round =>
                clear HL
                obtain ⟨q, hq, rfl, rfl, HL⟩ := hrel
                have b2 := HL.out.vB.c2
                have b2' : World.cell? _ ⟨x.heap.size + 1, 2, none⟩ = some (Value.int .i64 (g : Int)) := b2
                clear b2
                by_cases hqg : q < g
                · have hqg' : (q : Int) < (g : Int) := by omega
                  have hql : (q : Int) < ((par m 6).length : Int) := by rw [par_len]; omega
                  obtain ⟨d0, d1⟩ := lst_cell HL.out.lst q (by omega)
                  have hbd := preS_bd hpos hm1 q (by omega)
                  go_wp2
                  exact ⟨⟨q + 1, by omega, by simp [preS], by go_num, HL⟩, by simp [intOf]; omega⟩
                · obtain rfl : q = g := by omega
                  have hqg' : ¬ (q : Int) < (q : Int) := by omega
                  go_wp2
                  go_loopw [29, 30] (fun t i wp => ∃ (p : Nat), p ≤ 6 ∧ t = .int .i64 (preS m p) ∧ i = .int .i64 (p : Int) ∧ Hid (Lk w x.heap.size (x.heap.size + 1) (EC m d) aa ac ga (EB q) ba bc (.slice (some ⟨vb, 0, none⟩) (par m 6).length vc) (par m 6) wp)) (fun t i wp => 6 - (intOf i).toNat)
                  case atStart => exact ⟨0, by omega, rfl, rfl, HL⟩
                  case round =>
                    clear HL b2'
                    obtain ⟨p, hp, rfl, rfl, HL⟩ := hrel
                    by_cases hp6 : p < 6
                    · have hpl : (p : Int) < ((par m 6).length : Int) := by rw [par_len]; omega
                      obtain ⟨d0, d1⟩ := lst_cell HL.out.lst p hp6
                      have hbd := preS_bd hpos hm1 p (by omega)
                      go_wp2
                      exact ⟨⟨p + 1, by omega, by simp [preS], by go_num, HL⟩, by simp [intOf]; omega⟩
                    · obtain rfl : p = 6 := by omega
                      have hpl : ¬ ((6 : Nat) : Int) < ((par m 6).length : Int) := by rw [par_len]; omega
                      have ho := EC_open hpos hm1 hdg hg6
                      have hE1 := EC_right hpos hm1 (show d ≤ 6 by omega)
                      have hE2 := EB_right hg6
                      have hln : (EC m d).out.length ≤ 6 := EC_len hpos hm1 (by omega)
                      have hbd := preS_bd hpos hm1 6 (by omega)
                      have hbq := preS_bd hpos hm1 q hg6
                      obtain ⟨O, hO⟩ : ∃ O, O = openOf (EC m d) (q : Int) := ⟨_, rfl⟩
                      have hO1 : preS m q + O = preS m 6 := by rw [hO, ho]; omega
                      have hob : 0 ≤ O + 10000 ∧ O ≤ 10000 := by omega
                      have hs1 : (preS m q == preS m q) = true := by simp
                      have hs2 : (preS m q + O == preS m 6) = true := by rw [hO1]; simp
                      have HIO : Hid (∀ y, RowAt 2 prcCells y aa (EC m d).out → Calls Try.prog 11 #[.agg #[.slice aa (EC m d).out.length ac, .int .i64 (EC m d).sent, .int .i64 (EC m d).got], .int .i64 (q : Int)] y fun e w' => e = .returned (.int .i64 O) ∧ Below y.heap.size y w') := hide (fun y hy => by rw [hO]; exact implOpenOf_any aa (EC m d).out ac (EC m d).sent (EC m d).got (q : Int) y (by omega) hy)
                      have HIE : Hid (∀ y, RowAt 2 prcCells y aa (EC m d).out → Calls Try.prog 12 #[.agg #[.slice aa (EC m d).out.length ac, .int .i64 (EC m d).sent, .int .i64 (EC m d).got]] y fun e w' => e = .returned (.bool true) ∧ Below y.heap.size y w') := hide (fun y hy => by have := implEndOk_any aa (EC m d).out ac (EC m d).sent (EC m d).got y (by omega) hy; rwa [show endB ⟨(EC m d).out, (EC m d).sent, (EC m d).got⟩ = true from hE1] at this)
                      have HIB : Hid (∀ y, Calls Try.prog 12 #[.agg #[.slice ba (EB q).out.length bc, .int .i64 (EB q).sent, .int .i64 (EB q).got]] y fun e w' => e = .returned (.bool true) ∧ Below y.heap.size y w') := hide (fun y => by have := implEndOk_any ba (EB q).out bc (EB q).sent (EB q).got y (by simp [EB]) RowAt.nil; rwa [show endB ⟨(EB q).out, (EB q).sent, (EB q).got⟩ = true from hE2] at this)
                      clear ho hE1 hE2 hO hO1
                      have a0 := HL.out.vA.c0
                      have a1 := HL.out.vA.c1
                      have a2 := HL.out.vA.c2
                      have b2 : World.cell? _ ⟨x.heap.size + 1, 2, none⟩ = some (Value.int .i64 (q : Int)) := HL.out.vB.c2
                      go_wp2_with fail
                      refine (HIO.out _ HL.out.row.rows).mono ?_
                      rintro e u1 ⟨rfl, hu1⟩
                      have HM1 : Hid _ := hide (HL.out.below hu1)
                      clear hu1 HL a0 a1 a2 b2 HIO
                      have a0 := HM1.out.vA.c0
                      have a1 := HM1.out.vA.c1
                      have a2 := HM1.out.vA.c2
                      go_wp2_with fail
                      refine (HIE.out _ HM1.out.row.rows).mono ?_
                      rintro e u2 ⟨rfl, hu2⟩
                      have HM2 : Hid _ := hide (HM1.out.below hu2)
                      clear hu2 HM1 a0 a1 a2 HIE
                      have b0 := HM2.out.vB.c0
                      have b1 := HM2.out.vB.c1
                      have b2 := HM2.out.vB.c2
                      go_wp2_with fail
                      refine (HIB.out u2).mono ?_
                      rintro e u3 ⟨rfl, hu3⟩
                      have HX3' : Hid _ := hide (below_trans HM2.out.bel hu3)
                      clear hu3
                      go_wp2
                      go_ret
                      exact ⟨rfl, HX3'.out⟩
            · go_wp2
              go_loopw [27, 28] (fun t i wq => ∃ (q : Nat), q ≤ g ∧ t = .int .i64 (preS m q) ∧ i = .int .i64 (q : Int) ∧ Hid (Lk w x.heap.size (x.heap.size + 1) (EC m d) aa ac ga (EB g) ba bc (.slice (some ⟨vb, 0, none⟩) (par m 6).length vc) (par m 6) wq)) (fun t i wq => 6 - (intOf i).toNat)
              case atStart => exact ⟨0, by omega, rfl, rfl, HL⟩
              case round =>
                clear HL
                obtain ⟨q, hq, rfl, rfl, HL⟩ := hrel
                have b2 := HL.out.vB.c2
                have b2' : World.cell? _ ⟨x.heap.size + 1, 2, none⟩ = some (Value.int .i64 (g : Int)) := b2
                clear b2
                by_cases hqg : q < g
                · have hqg' : (q : Int) < (g : Int) := by omega
                  have hql : (q : Int) < ((par m 6).length : Int) := by rw [par_len]; omega
                  obtain ⟨d0, d1⟩ := lst_cell HL.out.lst q (by omega)
                  have hbd := preS_bd hpos hm1 q (by omega)
                  go_wp2
                  exact ⟨⟨q + 1, by omega, by simp [preS], by go_num, HL⟩, by simp [intOf]; omega⟩
                · obtain rfl : q = g := by omega
                  have hqg' : ¬ (q : Int) < (q : Int) := by omega
                  go_wp2
                  go_loopw [29, 30] (fun t i wp => ∃ (p : Nat), p ≤ 6 ∧ t = .int .i64 (preS m p) ∧ i = .int .i64 (p : Int) ∧ Hid (Lk w x.heap.size (x.heap.size + 1) (EC m d) aa ac ga (EB q) ba bc (.slice (some ⟨vb, 0, none⟩) (par m 6).length vc) (par m 6) wp)) (fun t i wp => 6 - (intOf i).toNat)
                  case atStart => exact ⟨0, by omega, rfl, rfl, HL⟩
                  case round =>
                    clear HL b2'
                    obtain ⟨p, hp, rfl, rfl, HL⟩ := hrel
                    by_cases hp6 : p < 6
                    · have hpl : (p : Int) < ((par m 6).length : Int) := by rw [par_len]; omega
                      obtain ⟨d0, d1⟩ := lst_cell HL.out.lst p hp6
                      have hbd := preS_bd hpos hm1 p (by omega)
                      go_wp2
                      exact ⟨⟨p + 1, by omega, by simp [preS], by go_num, HL⟩, by simp [intOf]; omega⟩
                    · obtain rfl : p = 6 := by omega
                      have hpl : ¬ ((6 : Nat) : Int) < ((par m 6).length : Int) := by rw [par_len]; omega
                      have ho := EC_open hpos hm1 hdg hg6
                      have hE1 := EC_right hpos hm1 (show d ≤ 6 by omega)
                      have hE2 := EB_right hg6
                      have hln : (EC m d).out.length ≤ 6 := EC_len hpos hm1 (by omega)
                      have hbd := preS_bd hpos hm1 6 (by omega)
                      have hbq := preS_bd hpos hm1 q hg6
                      obtain ⟨O, hO⟩ : ∃ O, O = openOf (EC m d) (q : Int) := ⟨_, rfl⟩
                      have hO1 : preS m q + O = preS m 6 := by rw [hO, ho]; omega
                      have hob : 0 ≤ O + 10000 ∧ O ≤ 10000 := by omega
                      have hs1 : (preS m q == preS m q) = true := by simp
                      have hs2 : (preS m q + O == preS m 6) = true := by rw [hO1]; simp
                      have HIO : Hid (∀ y, RowAt 2 prcCells y aa (EC m d).out → Calls Try.prog 11 #[.agg #[.slice aa (EC m d).out.length ac, .int .i64 (EC m d).sent, .int .i64 (EC m d).got], .int .i64 (q : Int)] y fun e w' => e = .returned (.int .i64 O) ∧ Below y.heap.size y w') := hide (fun y hy => by rw [hO]; exact implOpenOf_any aa (EC m d).out ac (EC m d).sent (EC m d).got (q : Int) y (by omega) hy)
                      have HIE : Hid (∀ y, RowAt 2 prcCells y aa (EC m d).out → Calls Try.prog 12 #[.agg #[.slice aa (EC m d).out.length ac, .int .i64 (EC m d).sent, .int .i64 (EC m d).got]] y fun e w' => e = .returned (.bool true) ∧ Below y.heap.size y w') := hide (fun y hy => by have := implEndOk_any aa (EC m d).out ac (EC m d).sent (EC m d).got y (by omega) hy; rwa [show endB ⟨(EC m d).out, (EC m d).sent, (EC m d).got⟩ = true from hE1] at this)
                      have HIB : Hid (∀ y, Calls Try.prog 12 #[.agg #[.slice ba (EB q).out.length bc, .int .i64 (EB q).sent, .int .i64 (EB q).got]] y fun e w' => e = .returned (.bool true) ∧ Below y.heap.size y w') := hide (fun y => by have := implEndOk_any ba (EB q).out bc (EB q).sent (EB q).got y (by simp [EB]) RowAt.nil; rwa [show endB ⟨(EB q).out, (EB q).sent, (EB q).got⟩ = true from hE2] at this)
                      clear ho hE1 hE2 hO hO1
                      have a0 := HL.out.vA.c0
                      have a1 := HL.out.vA.c1
                      have a2 := HL.out.vA.c2
                      have b2 : World.cell? _ ⟨x.heap.size + 1, 2, none⟩ = some (Value.int .i64 (q : Int)) := HL.out.vB.c2
                      go_wp2_with fail
                      refine (HIO.out _ HL.out.row.rows).mono ?_
                      rintro e u1 ⟨rfl, hu1⟩
                      have HM1 : Hid _ := hide (HL.out.below hu1)
                      clear hu1 HL a0 a1 a2 b2 HIO
                      have a0 := HM1.out.vA.c0
                      have a1 := HM1.out.vA.c1
                      have a2 := HM1.out.vA.c2
                      go_wp2_with fail
                      refine (HIE.out _ HM1.out.row.rows).mono ?_
                      rintro e u2 ⟨rfl, hu2⟩
                      have HM2 : Hid _ := hide (HM1.out.below hu2)
                      clear hu2 HM1 a0 a1 a2 HIE
                      have b0 := HM2.out.vB.c0
                      have b1 := HM2.out.vB.c1
                      have b2 := HM2.out.vB.c2
                      go_wp2_with fail
                      refine (HIB.out u2).mono ?_
                      rintro e u3 ⟨rfl, hu3⟩
                      have HX3' : Hid _ := hide (below_trans HM2.out.bel hu3)
                      clear hu3
                      go_wp2
                      go_ret
                      exact ⟨rfl, HX3'.out⟩
end Go.Proofs.Ytjmkppajfebidaa
