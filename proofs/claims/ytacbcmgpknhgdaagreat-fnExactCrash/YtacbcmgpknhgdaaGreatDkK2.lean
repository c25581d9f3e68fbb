/- The contracts of the laws' markDOpS, heldFileS, heldDOpS. -/
import Derived.Test.YtacbcmgpknhgdaaGreatDkK1
namespace Go.Proofs.YtacbcmgpknhgdaaGreat
open Go.ChangeShapes Go.WideShapes Go.ChangeAt Go.RowKit
set_option linter.unusedVariables false
set_option maxRecDepth 100000
def markDOpSEnd (q : Nat) (g : Nat) (a : Option Addr) (cap n : Nat) (w : World) (e : Ending) (w' : World) : Prop := e = .returned (.int .i64 ((q + 4 * n : Nat) : Int)) ∧ Chq (0 < n) g w w' ∧ OwnRow 4 dpCells w' g a cap (omarkL q n)
set_option maxHeartbeats 8000000 in
theorem markDOpS_any (a : Option Addr) (l : List Dp) (cap g : Nat) (q : Nat) (w : World) (hn : l.length ≤ 10000000) (q0 : 0 < q) (q1 : q ≤ 100000000) (h : OwnRow 4 dpCells w g a cap l) :
    Calls Tryz.prog 36 #[.slice a l.length cap, .int .i64 (q : Int)] w fun e w' => markDOpSEnd q g a cap l.length w e w' := by
  have HL : Hid _ := hide h
  clear h
  by_cases h0 : 0 < l.length
  · have HO : Hid _ := hide (mid_of_own dpLen (by decide) (cells := fun i => ((omarkL q l.length)[i]?).elim [] dpCells) HL.out h0)
    obtain ⟨rfl, _⟩ := HL.out.own h0
    go_enter Tryz.func36, Tryz.ntmps36
    go_wp2
    go_loopw [1, 5] (fun s i wr => ∃ k : Nat, k ≤ l.length ∧ i = .int .i64 (k : Int) ∧ s = .int .i64 ((q + 4 * k : Nat) : Int) ∧ Hid (Chq (0 < l.length) g w wr) ∧ Hid (RowMid g l.length 4 (fun i => ((omarkL q l.length)[i]?).elim [] dpCells) k wr)) (fun s i wr => l.length - (intOf i).toNat)
    case atStart => exact ⟨0, Nat.zero_le _, rfl, by simp, hide (Chq.refl _ _ _), HO⟩
    case round =>
      obtain ⟨k, hk, rfl, rfl, HT, HM⟩ := hrel
      by_cases hlt : k < l.length
      · have hlt' : (k : Int) < (l.length : Int) := by omega
        have HQK : Hid (0 < q + 4 * k ∧ q + 4 * k ≤ 900000000) := hide (by omega)
        have hqk : ((q + 4 * k : Nat) : Int) ≤ 900000000 := by omega
        have HAT : Hid _ := hide (omarkL_at q l.length k hlt)
        generalize hqe : q + 4 * k = qk at *
        have HQE : Hid _ := hide hqe
        clear hqe
        have HP0 : Hid _ := hide HM.out.put
        have HT0 : Hid _ := hide HT.out
        clear HM HT
        have HQ0 : Hid _ := hide HP0.out
        have HU0 : Hid _ := hide HT0.out
        clear HP0 HT0
        obtain ⟨v0, f0⟩ := HQ0.out.there (k * 4) (by omega)
        have z0 := HQ0.out.free (k * 4)
        have HP1 : Hid _ := hide (HQ0.out.set hlt (by decide) (v := .int .i64 ((qk : Nat) : Int)) (by rw [HAT.out]; simp [dpCells]) (o := k * 4) (by omega))
        have HT1 : Hid _ := hide (HU0.out.setCell h0 (o := k * 4) (.int .i64 ((qk : Nat) : Int)))
        clear HQ0 HU0
        have HMT1 : Hid (Calls Tryz.prog 64 #[.int .i64 ((qk : Int) + 1)] (wr.setCell ⟨g, k * 4, none⟩ (.int .i64 ((qk : Nat) : Int))) fun e w' => e = .returned (.string (mkT (qk + 1))) ∧ Below (wr.setCell ⟨g, k * 4, none⟩ (.int .i64 ((qk : Nat) : Int))).heap.size (wr.setCell ⟨g, k * 4, none⟩ (.int .i64 ((qk : Nat) : Int))) w') := hide (by
          have := markText_any (qk + 1) (wr.setCell ⟨g, k * 4, none⟩ (.int .i64 ((qk : Nat) : Int))) (by have := HQK.out; omega) (by have := HQK.out; omega)
          simpa using this)
        go_wp2_with fail
        refine HMT1.out.mono ?_
        rintro e x1 ⟨rfl, hb1⟩
        have HQ1 : Hid _ := hide (HP1.out.below hb1)
        have HU1 : Hid _ := hide (HT1.out.on hb1)
        clear hb1 HP1 HT1
        obtain ⟨v1, f1⟩ := HQ1.out.there (k * 4 + 1) (by omega)
        have z1 := HQ1.out.free (k * 4 + 1)
        have HP2 : Hid _ := hide (HQ1.out.set hlt (by decide) (v := .string (mkT (qk + 1))) (by rw [HAT.out]; simp [dpCells]) (o := k * 4 + 1) (by omega))
        have HT2 : Hid _ := hide (HU1.out.setCell h0 (o := k * 4 + 1) (.string (mkT (qk + 1))))
        clear HQ1 HU1
        have HMT2 : Hid (Calls Tryz.prog 64 #[.int .i64 ((qk : Int) + 2)] (x1.setCell ⟨g, k * 4 + 1, none⟩ (.string (mkT (qk + 1)))) fun e w' => e = .returned (.string (mkT (qk + 2))) ∧ Below (x1.setCell ⟨g, k * 4 + 1, none⟩ (.string (mkT (qk + 1)))).heap.size (x1.setCell ⟨g, k * 4 + 1, none⟩ (.string (mkT (qk + 1)))) w') := hide (by
          have := markText_any (qk + 2) (x1.setCell ⟨g, k * 4 + 1, none⟩ (.string (mkT (qk + 1)))) (by have := HQK.out; omega) (by have := HQK.out; omega)
          simpa using this)
        go_wp2_with fail
        refine HMT2.out.mono ?_
        rintro e x2 ⟨rfl, hb2⟩
        have HQ2 : Hid _ := hide (HP2.out.below hb2)
        have HU2 : Hid _ := hide (HT2.out.on hb2)
        clear hb2 HP2 HT2
        obtain ⟨v2, f2⟩ := HQ2.out.there (k * 4 + 2) (by omega)
        have z2 := HQ2.out.free (k * 4 + 2)
        have HP3 : Hid _ := hide (HQ2.out.set hlt (by decide) (v := .string (mkT (qk + 2))) (by rw [HAT.out]; simp [dpCells]) (o := k * 4 + 2) (by omega))
        have HT3 : Hid _ := hide (HU2.out.setCell h0 (o := k * 4 + 2) (.string (mkT (qk + 2))))
        clear HQ2 HU2
        have HMT3 : Hid (Calls Tryz.prog 64 #[.int .i64 ((qk : Int) + 3)] (x2.setCell ⟨g, k * 4 + 2, none⟩ (.string (mkT (qk + 2)))) fun e w' => e = .returned (.string (mkT (qk + 3))) ∧ Below (x2.setCell ⟨g, k * 4 + 2, none⟩ (.string (mkT (qk + 2)))).heap.size (x2.setCell ⟨g, k * 4 + 2, none⟩ (.string (mkT (qk + 2)))) w') := hide (by
          have := markText_any (qk + 3) (x2.setCell ⟨g, k * 4 + 2, none⟩ (.string (mkT (qk + 2)))) (by have := HQK.out; omega) (by have := HQK.out; omega)
          simpa using this)
        go_wp2_with fail
        refine HMT3.out.mono ?_
        rintro e x3 ⟨rfl, hb3⟩
        have HQ3 : Hid _ := hide (HP3.out.below hb3)
        have HU3 : Hid _ := hide (HT3.out.on hb3)
        clear hb3 HP3 HT3
        obtain ⟨v3, f3⟩ := HQ3.out.there (k * 4 + 3) (by omega)
        have z3 := HQ3.out.free (k * 4 + 3)
        have HP4 : Hid _ := hide (HQ3.out.set hlt (by decide) (v := .string (mkT (qk + 3))) (by rw [HAT.out]; simp [dpCells]) (o := k * 4 + 3) (by omega))
        have HT4 : Hid _ := hide (HU3.out.setCell h0 (o := k * 4 + 3) (.string (mkT (qk + 3))))
        clear HQ3 HU3
        have HW : Hid _ := hide HP4.out.whole
        clear HP4
        go_wp2
        exact ⟨⟨k + 1, by omega, by go_num, by have := HQE.out; go_num, HT4, HW⟩, by simp [intOf]; omega⟩
      · have hk' : ¬ (k : Int) < (l.length : Int) := by omega
        have HE : Hid (markDOpSEnd q g (some ⟨g, 0, none⟩) cap l.length w (.returned (.int .i64 ((q + 4 * k : Nat) : Int))) wr) := hide (by
          have M := HM.out
          have ek : k = l.length := by omega
          rw [ek] at M ⊢
          have O := own_of_mid (l := omarkL q l.length) dpLen (by rw [omarkL_len]; exact M) (cap := cap) (by rw [omarkL_len]; exact HL.out.room)
          exact ⟨rfl, HT.out, O⟩)
        generalize ((q + 4 * k : Nat) : Int) = qk at *
        go_wp2
        go_ret
        exact HE.out
  · have hz : l = [] := List.eq_nil_of_length_eq_zero (by omega)
    subst hz
    go_enter Tryz.func36, Tryz.ntmps36
    go_wp2
    go_loopw [1, 5] (fun s i wr => s = .int .i64 (q : Int) ∧ i = .int .i64 0 ∧ wr = w) (fun s i wr => 0)
    case atStart => exact ⟨rfl, rfl, rfl⟩
    case round =>
      obtain ⟨rfl, rfl, hw⟩ := hrel
      subst hw
      go_wp2
      go_ret
      exact ⟨by simp, Chq.refl _ _ _, by have := HL.out; simpa [omarkL] using this⟩

def HeldEnd (r : Nat) (w : World) (e : Ending) (w' : World) : Prop := e = .returned (.int .i64 ((r : Nat) : Int)) ∧ Below w.heap.size w w'
theorem fmark_row {q n : Nat} {a : Option Addr} {w : World} (h : RowAt 2 flCells w a (fmarkL q n)) (i : Nat) (hi : i < n) : ∃ b off, a = some ⟨b, off, none⟩ ∧ b < w.heap.size ∧ w.cell? ⟨b, off + i * 2, none⟩ = some (.string (mkT (q + 2 * i))) ∧ w.cell? ⟨b, off + i * 2 + 1, none⟩ = some (.string (mkT (q + 2 * i + 1))) := by
  obtain ⟨b, off, e, hb, c0, c1⟩ := fl_row h i (by rw [fmarkL_len]; exact hi)
  rw [fmarkL_get] at c0 c1
  exact ⟨b, off, e, hb, c0, c1⟩
theorem omark_row {q n : Nat} {a : Option Addr} {w : World} (h : RowAt 4 dpCells w a (omarkL q n)) (i : Nat) (hi : i < n) : ∃ b off, a = some ⟨b, off, none⟩ ∧ b < w.heap.size ∧ w.cell? ⟨b, off + i * 4, none⟩ = some (.int .i64 ((q + 4 * i : Nat) : Int)) ∧ w.cell? ⟨b, off + i * 4 + 1, none⟩ = some (.string (mkT (q + 4 * i + 1))) ∧ w.cell? ⟨b, off + i * 4 + 2, none⟩ = some (.string (mkT (q + 4 * i + 2))) ∧ w.cell? ⟨b, off + i * 4 + 3, none⟩ = some (.string (mkT (q + 4 * i + 3))) := by
  obtain ⟨b, off, e, hb, c0, c1, c2, c3⟩ := dp_row h i (by rw [omarkL_len]; exact hi)
  rw [omarkL_get] at c0 c1 c2 c3
  exact ⟨b, off, e, hb, c0, c1, c2, c3⟩
set_option maxHeartbeats 8000000 in
theorem heldFileS_any (a : Option Addr) (n cap : Nat) (q : Nat) (w : World) (hn : n ≤ 10000000) (q0 : 0 < q) (q1 : q ≤ 100000000) (h : RowAt 2 flCells w a (fmarkL q n)) :
    Calls Tryz.prog 37 #[.slice a n cap, .int .i64 (q : Int)] w fun e w' => HeldEnd (q + 2 * n) w e w' := by
  have HL : Hid _ := hide h
  clear h
  go_enter Tryz.func37, Tryz.ntmps37
  go_wp2
  go_loopw [1, 5] (fun s i wr => ∃ k : Nat, k ≤ n ∧ i = .int .i64 (k : Int) ∧ s = .int .i64 ((q + 2 * k : Nat) : Int) ∧ Hid (Below w.heap.size w wr)) (fun s i wr => n - (intOf i).toNat)
  case atStart => exact ⟨0, Nat.zero_le _, rfl, by simp, hide (Below.refl _ _)⟩
  case round =>
    obtain ⟨k, hk, rfl, rfl, HB⟩ := hrel
    by_cases hlt : k < n
    · have hlt' : (k : Int) < (n : Int) := by omega
      obtain ⟨b, off, rfl, hb, d0, d1⟩ := fmark_row (HL.out.below HB.out) k hlt
      have HQK : Hid (0 < q + 2 * k ∧ q + 2 * k ≤ 900000000) := hide (by omega)
      have hqk : ((q + 2 * k : Nat) : Int) ≤ 900000000 := by omega
      generalize hqe : q + 2 * k = qk at *
      have HQE : Hid _ := hide hqe
      clear hqe hb
      have HMT0 : Hid (∀ y : Later wr, Calls Tryz.prog 64 #[.int .i64 ((qk : Nat) : Int)] y.w fun e w' => e = .returned (.string (mkT qk)) ∧ Below y.w.heap.size y.w w') := hide (fun y => by
        have := markText_any qk y.w (by have := HQK.out; omega) (by have := HQK.out; omega)
        simpa using this)
      have hcell0 := later_cell d0
      have hne0 : Nonempty (Later wr) := later_there _
      go_wp2_with fail
      refine wp_region_later wr (by kernel_rfl) (by kernel_rfl) ((Below.refl _ _).drew) ?_
      repeat (go_big_quiet_step (first | (go_at_call 64; exact later_of (HMT0.out _))))
      refine wpQuiet_nil ?_
      intro _ hw'
      obtain ⟨nx0, rfl⟩ := hw'
      obtain ⟨x0, hx0⟩ : ∃ x, x = nx0.w := ⟨_, rfl⟩
      have hb0 : Below wr.heap.size wr x0 := hx0 ▸ nx0.below
      rw [← hx0]
      clear HMT0 hcell0 hne0 hx0
      have HB0 : Hid _ := hide (below_trans HB.out hb0)
      replace d1 := below_keeps hb0 _ _ d1
      clear hb0 nx0
      have HMT1 : Hid (∀ y : Later x0, Calls Tryz.prog 64 #[.int .i64 ((qk : Int) + 1)] y.w fun e w' => e = .returned (.string (mkT (qk + 1))) ∧ Below y.w.heap.size y.w w') := hide (fun y => by
        have := markText_any (qk + 1) y.w (by have := HQK.out; omega) (by have := HQK.out; omega)
        simpa using this)
      have hcell1 := later_cell d1
      have hne1 : Nonempty (Later x0) := later_there _
      go_wp2_with fail
      refine wp_region_later x0 (by kernel_rfl) (by kernel_rfl) ((Below.refl _ _).drew) ?_
      repeat (go_big_quiet_step (first | (go_at_call 64; exact later_of (HMT1.out _))))
      refine wpQuiet_nil ?_
      intro _ hw'
      obtain ⟨nx1, rfl⟩ := hw'
      obtain ⟨x1, hx1⟩ : ∃ x, x = nx1.w := ⟨_, rfl⟩
      have hb1 : Below x0.heap.size x0 x1 := hx1 ▸ nx1.below
      rw [← hx1]
      clear HMT1 hcell1 hne1 hx1
      have HB1 : Hid _ := hide (below_trans HB0.out hb1)
      clear hb1 nx1
      go_wp2
      exact ⟨⟨k + 1, by omega, by go_num, by have := HQE.out; go_num, HB1⟩, by simp [intOf]; omega⟩
    · have hk' : ¬ (k : Int) < (n : Int) := by omega
      have HE : Hid (HeldEnd (q + 2 * n) w (.returned (.int .i64 ((q + 2 * k : Nat) : Int))) wr) := hide ⟨by rw [show k = n by omega], HB.out⟩
      generalize ((q + 2 * k : Nat) : Int) = qk at *
      go_wp2
      go_ret
      exact HE.out
set_option maxHeartbeats 8000000 in
theorem heldDOpS_any (a : Option Addr) (n cap : Nat) (q : Nat) (w : World) (hn : n ≤ 10000000) (q0 : 0 < q) (q1 : q ≤ 100000000) (h : RowAt 4 dpCells w a (omarkL q n)) :
    Calls Tryz.prog 38 #[.slice a n cap, .int .i64 (q : Int)] w fun e w' => HeldEnd (q + 4 * n) w e w' := by
  have HL : Hid _ := hide h
  clear h
  go_enter Tryz.func38, Tryz.ntmps38
  go_wp2
  go_loopw [1, 5] (fun s i wr => ∃ k : Nat, k ≤ n ∧ i = .int .i64 (k : Int) ∧ s = .int .i64 ((q + 4 * k : Nat) : Int) ∧ Hid (Below w.heap.size w wr)) (fun s i wr => n - (intOf i).toNat)
  case atStart => exact ⟨0, Nat.zero_le _, rfl, by simp, hide (Below.refl _ _)⟩
  case round =>
    obtain ⟨k, hk, rfl, rfl, HB⟩ := hrel
    by_cases hlt : k < n
    · have hlt' : (k : Int) < (n : Int) := by omega
      obtain ⟨b, off, rfl, hb, d0, d1, d2, d3⟩ := omark_row (HL.out.below HB.out) k hlt
      have HQK : Hid (0 < q + 4 * k ∧ q + 4 * k ≤ 900000000) := hide (by omega)
      have hqk : ((q + 4 * k : Nat) : Int) ≤ 900000000 := by omega
      generalize hqe : q + 4 * k = qk at *
      have HQE : Hid _ := hide hqe
      clear hqe hb
      have HMT1 : Hid (∀ y : Later wr, Calls Tryz.prog 64 #[.int .i64 ((qk : Int) + 1)] y.w fun e w' => e = .returned (.string (mkT (qk + 1))) ∧ Below y.w.heap.size y.w w') := hide (fun y => by
        have := markText_any (qk + 1) y.w (by have := HQK.out; omega) (by have := HQK.out; omega)
        simpa using this)
      have hcell1 := later_cell d1
      have hne1 : Nonempty (Later wr) := later_there _
      go_wp2_with fail
      refine wp_region_later wr (by kernel_rfl) (by kernel_rfl) ((Below.refl _ _).drew) ?_
      repeat (go_big_quiet_step (first | (go_at_call 64; exact later_of (HMT1.out _))))
      refine wpQuiet_nil ?_
      intro _ hw'
      obtain ⟨nx1, rfl⟩ := hw'
      obtain ⟨x1, hx1⟩ : ∃ x, x = nx1.w := ⟨_, rfl⟩
      have hb1 : Below wr.heap.size wr x1 := hx1 ▸ nx1.below
      rw [← hx1]
      clear HMT1 hcell1 hne1 hx1
      have HB1 : Hid _ := hide (below_trans HB.out hb1)
      replace d2 := below_keeps hb1 _ _ d2
      replace d3 := below_keeps hb1 _ _ d3
      clear hb1 nx1
      have HMT2 : Hid (∀ y : Later x1, Calls Tryz.prog 64 #[.int .i64 ((qk : Int) + 2)] y.w fun e w' => e = .returned (.string (mkT (qk + 2))) ∧ Below y.w.heap.size y.w w') := hide (fun y => by
        have := markText_any (qk + 2) y.w (by have := HQK.out; omega) (by have := HQK.out; omega)
        simpa using this)
      have hcell2 := later_cell d2
      have hne2 : Nonempty (Later x1) := later_there _
      go_wp2_with fail
      refine wp_region_later x1 (by kernel_rfl) (by kernel_rfl) ((Below.refl _ _).drew) ?_
      repeat (go_big_quiet_step (first | (go_at_call 64; exact later_of (HMT2.out _))))
      refine wpQuiet_nil ?_
      intro _ hw'
      obtain ⟨nx2, rfl⟩ := hw'
      obtain ⟨x2, hx2⟩ : ∃ x, x = nx2.w := ⟨_, rfl⟩
      have hb2 : Below x1.heap.size x1 x2 := hx2 ▸ nx2.below
      rw [← hx2]
      clear HMT2 hcell2 hne2 hx2
      have HB2 : Hid _ := hide (below_trans HB1.out hb2)
      replace d3 := below_keeps hb2 _ _ d3
      clear hb2 nx2
      have HMT3 : Hid (∀ y : Later x2, Calls Tryz.prog 64 #[.int .i64 ((qk : Int) + 3)] y.w fun e w' => e = .returned (.string (mkT (qk + 3))) ∧ Below y.w.heap.size y.w w') := hide (fun y => by
        have := markText_any (qk + 3) y.w (by have := HQK.out; omega) (by have := HQK.out; omega)
        simpa using this)
      have hcell3 := later_cell d3
      have hne3 : Nonempty (Later x2) := later_there _
      go_wp2_with fail
      refine wp_region_later x2 (by kernel_rfl) (by kernel_rfl) ((Below.refl _ _).drew) ?_
      repeat (go_big_quiet_step (first | (go_at_call 64; exact later_of (HMT3.out _))))
      refine wpQuiet_nil ?_
      intro _ hw'
      obtain ⟨nx3, rfl⟩ := hw'
      obtain ⟨x3, hx3⟩ : ∃ x, x = nx3.w := ⟨_, rfl⟩
      have hb3 : Below x2.heap.size x2 x3 := hx3 ▸ nx3.below
      rw [← hx3]
      clear HMT3 hcell3 hne3 hx3
      have HB3 : Hid _ := hide (below_trans HB2.out hb3)
      clear hb3 nx3
      go_wp2
      exact ⟨⟨k + 1, by omega, by go_num, by have := HQE.out; go_num, HB3⟩, by simp [intOf]; omega⟩
    · have hk' : ¬ (k : Int) < (n : Int) := by omega
      have HE : Hid (HeldEnd (q + 4 * n) w (.returned (.int .i64 ((q + 4 * k : Nat) : Int))) wr) := hide ⟨by rw [show k = n by omega], HB.out⟩
      generalize ((q + 4 * k : Nat) : Int) = qk at *
      go_wp2
      go_ret
      exact HE.out
end Go.Proofs.YtacbcmgpknhgdaaGreat
