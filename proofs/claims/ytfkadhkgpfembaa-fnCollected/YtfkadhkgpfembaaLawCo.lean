/- The walk of the law FnCollected. -/
import Derived.Test.YtfkadhkgpfembaaColM
import Derived.Test.YtfkadhkgpfembaaSCol
import Derived.Test.YtfkadhkgpfembaaDrC
import Derived.Test.YtfkadhkgpfembaaSOk
import Derived.Deep.QuietTactic
import Derived.BigQuiet
namespace Go.Proofs.Ytfkadhkgpfembaa
open Go.ChangeShapes Go.WideShapes Go.ChangeAt Go.RowKit
set_option linter.unusedVariables false
theorem big_any (a : Option Addr) (len cap : Nat) (w : World) : Calls Try.prog 4 #[.slice a len cap] w fun e w' => e = .returned (.bool (decide (1048576 < (len : Int)))) ∧ w' = w := by
  go_enter Try.func4, Try.ntmps4
  go_wp2
  go_ret
  exact ⟨rfl, rfl⟩
theorem run_step {l ms nf n : List Slt} {k : Nat} (h : runM l ms = some nf) (hk : k < ms.length) (hn : runM l (ms.take k) = some n) : movOk n ms[k].id ms[k].up ms[k].has = true ∧ runM l (ms.take (k + 1)) = some (movL n ms[k].id ms[k].up ms[k].has) := by
  have e : ms = ms.take k ++ ms[k] :: ms.drop (k + 1) := by rw [← List.drop_eq_getElem_cons hk, List.take_append_drop]
  rw [e, runM_append, hn] at h
  simp only [Option.bind_some, runM] at h
  have hok : movOk n ms[k].id ms[k].up ms[k].has = true := by
    cases q : movOk n ms[k].id ms[k].up ms[k].has with
    | true => rfl
    | false => rw [q] at h; simp at h
  refine ⟨hok, ?_⟩
  rw [take_next ms k hk, runM_append, hn]
  simp only [Option.bind_some, runM, hok, if_true]
theorem colL_len {l : List Slt} {to amt : Int} : (colL l to amt).length ≤ 20000000000 := by
  cases hok : colOk l to amt
  · rw [colL_no hok]; simp
  · have hl : rightsB l = true := by cases e : rightsB l <;> simp [colOk, e] at hok ⊢
    have hpos : 0 ≤ posL l to := by
      by_cases h : 0 ≤ posL l to
      · exact h
      · simp [colOk, h] at hok
    have ht : InL l to := by
      rcases inL_or l to with h | h
      · exact h
      · omega
    have htt := ht
    obtain ⟨i, hi, hpt, hit⟩ := ht
    rw [colL_yes hi hok hpt]
    have h1 := colK_len hl htt (amt - l[i].has) l.length (Nat.le_refl _)
    have h2 := (rightsB_small hl).1
    have h3 : l.length * 2000000001 ≤ 8 * 2000000001 := Nat.mul_le_mul_right _ h2
    omega
def YesC (w : World) (e : Ending) (w' : World) : Prop := e = .returned (.bool true) ∧ Below w.heap.size w w'
theorem mov_row {w : World} {a : Option Addr} {ms : List Slt} (h : RowAt 3 sltCells w a ms) (k : Nat) (hk : k < ms.length) : ∃ b off, a = some ⟨b, off, none⟩ ∧ w.cell? ⟨b, off + k * 3, none⟩ = some (.int .i64 ms[k].id) ∧ w.cell? ⟨b, off + k * 3 + 1, none⟩ = some (.int .i64 ms[k].up) ∧ w.cell? ⟨b, off + k * 3 + 2, none⟩ = some (.int .i64 ms[k].has) := by
  obtain ⟨b, off, e, _, hc⟩ := h k hk
  exact ⟨b, off, e, hc 0 _ rfl, hc 1 _ rfl, hc 2 _ rfl⟩
set_option maxRecDepth 100000 in
set_option maxHeartbeats 8000000 in
theorem walkCollected (a : Option Addr) (len cap : Nat) (w : World) (h : IsCode w a len) :
    Calls Try.prog 3 #[.slice a len cap] w fun e w' => YesC w e w' := by
  have HC : Hid _ := hide h
  clear h
  by_cases hbig : 1048576 < (len : Int)
  · have hd : decide (1048576 < (len : Int)) = true := by simp; omega
    go_enter Try.func3, Try.ntmps3
    go_wp2_with fail
    refine (big_any _ _ _ _).mono ?_
    rintro e w1 ⟨rfl, hw1⟩
    have hw1' := hw1.symm
    subst hw1'
    go_wp2
    go_ret
    exact ⟨rfl, Below.refl _ _⟩
  · have hd : decide (1048576 < (len : Int)) = false := by simp; omega
    go_enter Try.func3, Try.ntmps3
    go_wp2_with fail
    refine (big_any _ _ _ _).mono ?_
    rintro e w1 ⟨rfl, hw1⟩
    have hw1' := hw1.symm
    subst hw1'
    go_wp2_with fail
    refine (drawCollect_any a len cap w HC.out).mono ?_
    rintro e w2 ⟨l, g, gc, to, amt, h1, h7, hp, hgc, it, ia, rfl, hrow, hb2⟩
    have HP : Hid _ := hide hp
    have HX2 : Hid _ := hide hb2
    have HS2 : Hid (SlotAt w2 (some ⟨g, 0, none⟩) l) := hide (slot_of_row hrow hp)
    clear hp hrow hb2 it ia
    go_wp2_with fail
    refine (implCollect_any (some ⟨g, 0, none⟩) l gc to amt w2 (by omega) hgc HS2.out).mono ?_
    rintro e w3 ⟨hb3, v3, rfl, g3, a3, c3, hg3, rfl, ho3⟩
    have HX3 : Hid _ := hide (below_trans HX2.out hb3)
    have HS3 : Hid _ := hide (HS2.out.below hb3)
    have HM3 : Hid _ := hide ho3.rows
    clear hb3 hg3 ho3 HX2 HS2
    go_wp2_with fail
    refine (specCollect_any (some ⟨g, 0, none⟩) l gc to amt w3 (by omega) hgc HS3.out).mono ?_
    rintro e w4 ⟨hb4, v4, rfl, g4, a4, c4, hg4, rfl, ho4⟩
    have HX4 : Hid _ := hide (below_trans HX3.out hb4)
    have HS4 : Hid _ := hide (HS3.out.below hb4)
    have HM4 : Hid _ := hide (HM3.out.below hb4)
    have HQ4 : Hid _ := hide ho4.rows
    clear hb4 hg4 ho4 HX3 HS3 HM3
    have hml : (colL l to amt).length ≤ 20000000000 := colL_len
    have HALL : Hid (colOk l to amt = true → ∃ n, runM l (colL l to amt) = some n ∧ rightsB n = true ∧ sumOf n = sumOf l ∧ hasOf n to = max amt (hasOf l to)) := hide (fun q => col_all HP.out q)
    have HNO : Hid (colOk l to amt = false → rightsB l = true → 0 ≤ hasOf l to → amt < 0 ∨ sumOf l < amt) := hide (fun q hr hh => by
      have hpos : 0 ≤ posL l to := by
        rcases inL_or l to with ⟨i, hi, hpt, _⟩ | h
        · omega
        · exfalso
          have : hasOf l to = -1 := by
            simp only [hasOf, hr, if_true]
            rcases posL_cases l to with ⟨i, hi, hpt, _⟩ | ⟨_, hn⟩
            · omega
            · rw [find_none hn]
          omega
      have hin : inB 0 (sumL l) amt = false := by cases e : inB 0 (sumL l) amt <;> simp [colOk, hr, hpos, e] at q ⊢
      simp only [sumOf, hr, if_true]
      have : ¬ (0 ≤ amt ∧ amt ≤ sumL l) := by simpa [inB] using hin
      omega)
    have HNR : Hid (rightsB l = false → hasOf l to = -1) := hide (fun q => by simp [hasOf, q])
    have HBD : Hid ((-1 ≤ hasOf l to ∧ hasOf l to ≤ 1000000000000) ∧ -1 ≤ sumOf l ∧ sumOf l ≤ 1000000000000) := hide (by
      cases hr : rightsB l with
      | false => simp [hasOf, sumOf, hr]
      | true =>
        have hsm := rightsB_small hr
        have hr' := hr
        simp only [rightsB, Bool.and_eq_true, decide_eq_true_eq] at hr'
        have := sumL_bd l hsm.2
        refine ⟨?_, by simp only [sumOf, hr, if_true]; omega, by simp only [sumOf, hr, if_true]; exact hr'.2⟩
        rcases posL_cases l to with ⟨i, hi, hpt, _⟩ | ⟨_, hn⟩
        · rw [has_at hr hi hpt]; have := hsm.2 l[i] (List.getElem_mem hi); omega
        · simp only [hasOf, hr, if_true, find_none hn]; omega)
    have hfl : (colOk l to amt != colOk l to amt) = false := by simp
    have hfl2 : (colOk l to amt == colOk l to amt) = true := by simp
    generalize colL l to amt = ms at *
    generalize colOk l to amt = F at *
    have hln : ((ms.length : Int) != (ms.length : Int)) = false := by simp
    have hln2 : ((ms.length : Int) == (ms.length : Int)) = true := by simp
    have hsr := specRightsOk_any (some ⟨g, 0, none⟩) l gc w4 (by omega) hgc HS4.out
    have HHL : Hid (∀ y, SlotAt y (some ⟨g, 0, none⟩) l → Calls Try.prog 9 #[.slice (some ⟨g, 0, none⟩) l.length gc, .int .i64 to] y fun e w' => e = .returned (.int .i64 (hasOf l to)) ∧ Below y.heap.size y w') := hide (fun y hy => implHasOf_any (some ⟨g, 0, none⟩) l gc to y (by omega) hgc hy)
    have HSL : Hid (∀ y, SlotAt y (some ⟨g, 0, none⟩) l → Calls Try.prog 10 #[.slice (some ⟨g, 0, none⟩) l.length gc] y fun e w' => e = .returned (.int .i64 (sumOf l)) ∧ Below y.heap.size y w') := hide (fun y hy => implSumOf_any (some ⟨g, 0, none⟩) l gc y (by omega) hgc hy)
    have HSR : Hid _ := hide hsr
    clear hsr
    go_wp2_with fail
    refine HSR.out.mono ?_
    rintro e w5 ⟨rfl, hb5⟩
    have HX5 : Hid _ := hide (below_trans HX4.out hb5)
    have HS5 : Hid _ := hide (HS4.out.below hb5)
    have HM5 : Hid _ := hide (HM4.out.below hb5)
    have HQ5 : Hid _ := hide (HQ4.out.below hb5)
    clear hb5 HX4 HS4 HM4 HQ4 HSR
    cases hr : rightsB l
    · go_wp2
      go_ret
      exact ⟨rfl, HX5.out⟩
    · have HR : Hid _ := hide hr
      clear hr
      go_wp2_with fail
      refine (HHL.out w5 HS5.out).mono ?_
      rintro e w6 ⟨rfl, hb6⟩
      have HX6 : Hid _ := hide (below_trans HX5.out hb6)
      have HS6 : Hid _ := hide (HS5.out.below hb6)
      have HM6 : Hid _ := hide (HM5.out.below hb6)
      have HQ6 : Hid _ := hide (HQ5.out.below hb6)
      clear hb6 HX5 HS5 HM5 HQ5
      have hbd := HBD.out
      by_cases hneg : hasOf l to < 0
      · go_wp2
        go_ret
        exact ⟨rfl, HX6.out⟩
      · cases F
        · have hno := HNO.out rfl HR.out (by omega)
          by_cases ham : amt < 0
          · go_wp2
            go_ret
            exact ⟨rfl, HX6.out⟩
          · have hsum : sumOf l < amt := by omega
            go_wp2_with fail
            refine (HSL.out w6 HS6.out).mono ?_
            rintro e w7 ⟨rfl, hb7⟩
            have HX7 : Hid _ := hide (below_trans HX6.out hb7)
            clear hb7
            go_wp2
            go_ret
            exact ⟨rfl, HX7.out⟩
        · obtain ⟨nf, hrun, hrf, hsf, hhf⟩ := HALL.out rfl
          have HRUN : Hid _ := hide hrun
          have HFIN : Hid (sumOf nf = sumOf l ∧ hasOf nf to = max amt (hasOf l to)) := hide ⟨hsf, hhf⟩
          clear hrun hrf hsf hhf HALL HNO HNR hbd
          go_wp2
          go_loopw [10, 11] (fun v i wr => ∃ (k : Nat) (n : List Slt) (na : Option Addr) (nc : Nat), k ≤ ms.length ∧ n.length ≤ 8 ∧ n.length ≤ nc ∧ v = .slice na n.length nc ∧ i = .int .i64 (k : Int) ∧ Hid (runM l (ms.take k) = some n) ∧ Hid (SlotAt wr na n) ∧ Hid (Below w6.heap.size w6 wr)) (fun v i wr => ms.length - (intOf i).toNat)
          case atStart => exact ⟨0, l, some ⟨g, 0, none⟩, gc, by omega, by omega, hgc, rfl, rfl, hide rfl, HS6, hide (Below.refl _ _)⟩
          case round =>
            obtain ⟨k, n, na, nc, hk, hn8, hnc, rfl, rfl, HK, HN, HB⟩ := hrel
            by_cases hlt : k < ms.length
            · have hlt' : (k : Int) < (ms.length : Int) := by omega
              obtain ⟨b1, o1, rfl, d0, d1, d2⟩ := mov_row (HM6.out.below HB.out) k hlt
              obtain ⟨b2, o2, rfl, e0, e1, e2⟩ := mov_row (HQ6.out.below HB.out) k hlt
              have hst := run_step HRUN.out hlt HK.out
              have hparts := HN.out.parts
              have HBK : Hid _ := hide (back hst.1 hparts)
              have HST : Hid _ := hide hst.2
              have HMV : Hid (∀ y, SlotAt y na n → Calls Try.prog 11 #[.slice na n.length nc, .agg #[.int .i64 ms[k].id, .int .i64 ms[k].up, .int .i64 ms[k].has]] y fun e w' => RowFlag 3 sltCells (movL n ms[k].id ms[k].up ms[k].has) true y e w') := hide (fun y hy => by
                have := implMoved_any na n nc ms[k].id ms[k].up ms[k].has y (by omega) hnc (by have := HBK.out.amts; unfold I64; omega) hy
                rwa [hst.1] at this)
              clear hst hparts
              generalize ms[k].id = m0 at *
              generalize ms[k].up = m1 at *
              generalize ms[k].has = m2 at *
              have z0 : (m0 == m0) = true := by simp
              have z1 : (m1 == m1) = true := by simp
              have z2 : (m2 == m2) = true := by simp
              go_wp2_with fail
              go_quiet (fail)
              go_wp2_with fail
              refine (HMV.out _ (HN.out.below (below_drewN (Below.refl _ _) _))).mono ?_
              rintro e w8 ⟨hb8, v8, rfl, g8, a8, c8, hg8, rfl, ho8⟩
              have HB8 : Hid (Below w6.heap.size w6 w8) := hide (below_trans (below_drewN HB.out _) hb8)
              have HN8 : Hid _ := hide (slot_of_row ho8.rows HBK.out.parts)
              have hs8 := HBK.out.small
              have hr8 := ho8.room
              clear hb8 hg8 ho8 HMV HBK HB HN HK
              generalize movL n m0 m1 m2 = n2 at *
              go_wp2
              exact ⟨⟨k + 1, n2, a8, c8, by omega, hs8, hr8, rfl, by go_num, HST, HN8, HB8⟩, by simp [intOf]; omega⟩
            · have hlt' : ¬ (k : Int) < (ms.length : Int) := by omega
              have hnf : n = nf := by
                have h1 := HK.out
                rw [List.take_of_length_le (by omega), HRUN.out] at h1
                exact (Option.some.inj h1).symm
              have hfin := HFIN.out
              rw [← hnf] at hfin
              have HF : Hid _ := hide hfin
              clear hnf hfin HFIN HRUN HK
              have HX7 : Hid (Below w.heap.size w wr) := hide (below_trans HX6.out HB.out)
              have HS7 : Hid _ := hide (HS6.out.below HB.out)
              have hbd := HBD.out
              have hs1 : (sumOf l == sumOf l) = true := by simp
              have HHN : Hid (∀ y, SlotAt y na n → Calls Try.prog 9 #[.slice na n.length nc, .int .i64 to] y fun e w' => e = .returned (.int .i64 (max amt (hasOf l to))) ∧ Below y.heap.size y w') := hide (fun y hy => by
                have := implHasOf_any na n nc to y (by omega) hnc hy
                rwa [HF.out.2] at this)
              have HSN : Hid (∀ y, SlotAt y na n → Calls Try.prog 10 #[.slice na n.length nc] y fun e w' => e = .returned (.int .i64 (sumOf l)) ∧ Below y.heap.size y w') := hide (fun y hy => by
                have := implSumOf_any na n nc y (by omega) hnc hy
                rwa [HF.out.1] at this)
              obtain ⟨mx, hmx⟩ : ∃ mx, mx = max amt (hasOf l to) := ⟨_, rfl⟩
              have hmx2 : (mx == if amt < hasOf l to then hasOf l to else amt) = true := by
                simp only [beq_iff_eq]
                split <;> omega
              have hmx3 : (mx == if hasOf l to > amt then hasOf l to else amt) = true := hmx2
              rw [← hmx] at HHN
              by_cases hgt : amt < hasOf l to
              · have hq : (mx == hasOf l to) = true := by simp; omega
                clear hmx2 hmx3
                have HMX : Hid _ := hide hmx
                clear hmx
                go_wp2_with fail
                refine (HHN.out _ HN.out).mono ?_
                rintro e u1 ⟨rfl, hu1⟩
                have HN1 : Hid _ := hide (HN.out.below hu1)
                have HL1 : Hid _ := hide (HS7.out.below hu1)
                have HX8 : Hid _ := hide (below_trans HX7.out hu1)
                clear hu1 HHN
                go_wp2_with fail
                refine (HHL.out _ HL1.out).mono ?_
                rintro e u2 ⟨rfl, hu2⟩
                have HN2 : Hid _ := hide (HN1.out.below hu2)
                have HL2 : Hid _ := hide (HL1.out.below hu2)
                have HX9 : Hid _ := hide (below_trans HX8.out hu2)
                clear hu2 HHL HN1 HL1 HX8
                go_wp2_with fail
                refine (HSN.out _ HN2.out).mono ?_
                rintro e u3 ⟨rfl, hu3⟩
                have HL3 : Hid _ := hide (HL2.out.below hu3)
                have HX10 : Hid _ := hide (below_trans HX9.out hu3)
                clear hu3 HN2 HL2 HX9
                go_wp2_with fail
                refine (HSL.out _ HL3.out).mono ?_
                rintro e u4 ⟨rfl, hu4⟩
                have HX11 : Hid _ := hide (below_trans HX10.out hu4)
                clear hu4
                go_wp2
                go_ret
                exact ⟨rfl, HX11.out⟩
              · have hq : (mx == amt) = true := by simp; omega
                clear hmx2 hmx3
                have HMX : Hid _ := hide hmx
                clear hmx
                go_wp2_with fail
                refine (HHN.out _ HN.out).mono ?_
                rintro e u1 ⟨rfl, hu1⟩
                have HN1 : Hid _ := hide (HN.out.below hu1)
                have HL1 : Hid _ := hide (HS7.out.below hu1)
                have HX8 : Hid _ := hide (below_trans HX7.out hu1)
                clear hu1 HHN
                go_wp2_with fail
                refine (HHL.out _ HL1.out).mono ?_
                rintro e u2 ⟨rfl, hu2⟩
                have HN2 : Hid _ := hide (HN1.out.below hu2)
                have HL2 : Hid _ := hide (HL1.out.below hu2)
                have HX9 : Hid _ := hide (below_trans HX8.out hu2)
                clear hu2 HHL HN1 HL1 HX8
                go_wp2_with fail
                refine (HSN.out _ HN2.out).mono ?_
                rintro e u3 ⟨rfl, hu3⟩
                have HL3 : Hid _ := hide (HL2.out.below hu3)
                have HX10 : Hid _ := hide (below_trans HX9.out hu3)
                clear hu3 HN2 HL2 HX9
                go_wp2_with fail
                refine (HSL.out _ HL3.out).mono ?_
                rintro e u4 ⟨rfl, hu4⟩
                have HX11 : Hid _ := hide (below_trans HX10.out hu4)
                clear hu4
                go_wp2
                go_ret
                exact ⟨rfl, HX11.out⟩
end Go.Proofs.Ytfkadhkgpfembaa
