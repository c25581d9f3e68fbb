/- The walk of the law FnReplaced. -/
import Derived.Test.YtiilkkdbifhojaaGreatRpM
import Derived.Test.YtiilkkdbifhojaaGreatDrD4
import Derived.Test.YtiilkkdbifhojaaGreatBg
namespace Go.Proofs.YtiilkkdbifhojaaGreat
open Go.ChangeShapes Go.WideShapes Go.ChangeAt Go.RowKit
set_option linter.unusedVariables false
set_option maxRecDepth 100000
theorem infoN : (Tryz.prog.info? 2).map (fun i => (i.zero, i.size, i.bytes)) = some (some (.int .i64 0), 1, 8) := by kernel_rfl
theorem huN : Tryz.prog.underlying 35 = some (.slice 2) := by kernel_rfl
theorem rest_disk {M : List Fl} (h : filesB M = true) : diskB ⟨M, M, []⟩ = true := by simp [diskB, h, runL, isRun]
theorem sync_files (L S : List Fl) (O : List Dp) : filesB (syncL L S O) = true := by
  cases h : diskB ⟨L, S, O⟩ with
  | true => rw [show syncL L S O = L by simp [syncL, h]]; exact (diskB_parts h).1
  | false => rw [show syncL L S O = [] by simp [syncL, h]]; decide
theorem crs_files {L S : List Fl} {O : List Dp} {kl : List Int} {t : Int} (h : crsB L S O kl t = true) : filesB (crsL L S O kl t) = true := by
  have h1 := h
  simp only [crsB, Bool.and_eq_true] at h1
  simp only [crsL, h, cond_true]
  exact h1.2
/-- of the first k ops, what is kept -/
def KpN (k : Nat) (kl : List Int) : Prop := (k = 0 ∧ kl = []) ∨ (k = 1 ∧ (kl = [] ∨ kl = [0])) ∨ (k = 2 ∧ Kp kl)
theorem kp_skip {k : Nat} {kl : List Int} (h : KpN k kl) (hk : k < 2) : KpN (k + 1) kl := by
  rcases h with ⟨rfl, rfl⟩ | ⟨rfl, rfl | rfl⟩ | ⟨rfl, _⟩
  · exact .inr (.inl ⟨rfl, .inl rfl⟩)
  · exact .inr (.inr ⟨rfl, .inl rfl⟩)
  · exact .inr (.inr ⟨rfl, .inr (.inl rfl)⟩)
  · omega
theorem kp_take {k : Nat} {kl : List Int} (h : KpN k kl) (hk : k < 2) : KpN (k + 1) (kl ++ [(k : Int)]) := by
  rcases h with ⟨rfl, rfl⟩ | ⟨rfl, rfl | rfl⟩ | ⟨rfl, _⟩
  · exact .inr (.inl ⟨rfl, .inr rfl⟩)
  · exact .inr (.inr ⟨rfl, .inr (.inr (.inl rfl))⟩)
  · exact .inr (.inr ⟨rfl, .inr (.inr (.inr rfl))⟩)
  · omega
theorem kp_len {k : Nat} {kl : List Int} (h : KpN k kl) : kl.length ≤ 2 := by
  rcases h with ⟨_, rfl⟩ | ⟨_, rfl | rfl⟩ | ⟨_, rfl | rfl | rfl | rfl⟩ <;> simp
/-- what the law carries on: the synced disk and the one behind Replace -/
structure RlSt (D A : Nat) (vd va : List Value) (m1 m2 m3 b1 b2 b3 : Option Addr) (M : List Fl) (AL AS : List Fl) (AO : List Dp) (x : World) : Prop where
  kd : Blk D vd x
  ka : Blk A va x
  rd : DkAt x m1 m2 m3 M M []
  ra : DkAt x b1 b2 b3 AL AS AO
theorem RlSt.below {D A : Nat} {vd va : List Value} {m1 m2 m3 b1 b2 b3 : Option Addr} {M : List Fl} {AL AS : List Fl} {AO : List Dp} {x y : World} (h : RlSt D A vd va m1 m2 m3 b1 b2 b3 M AL AS AO x) (b : Below x.heap.size x y) : RlSt D A vd va m1 m2 m3 b1 b2 b3 M AL AS AO y := ⟨h.kd.below b, h.ka.below b, h.rd.below b, h.ra.below b⟩
set_option maxHeartbeats 16000000 in
theorem walkReplaced (a : Option Addr) (len cap : Nat) (w : World) (h : IsCode w a len) : Calls Tryz.prog 3 #[.slice a len cap] w fun e w' => YesEnd w e w' := by
  have H : Hid _ := hide h
  clear h
  go_enter Tryz.func3, Tryz.ntmps3
  go_wp2_with fail
  refine (big_any a len cap w).mono ?_
  rintro e w' ⟨rfl, hw'⟩
  rw [hw']
  clear hw' w'
  by_cases hbig : (1048576 : Int) < (len : Int)
  · go_wp2
    go_ret
    exact ⟨rfl, Below.refl _ _⟩
  · go_wp2_with fail
    refine (drawReplace_any a len cap w H.out).mono ?_
    rintro e w1 ⟨hb1, a1, a2, a3, c1, c2, c3, L, S, O, nm, da, rfl, hat, hsm, hcp, hnm, hda⟩
    obtain ⟨w2, hw2⟩ : ∃ w2, w2 = w1.alloc (.cells #[.slice a1 L.length c1, .slice a2 S.length c2, .slice a3 O.length c3] 27) := ⟨_, rfl⟩
    have b12 : Below w1.heap.size w1 w2 := by rw [hw2]; exact below_alloc (Below.refl _ _) _
    have KD : Hid (Blk w1.heap.size [.slice a1 L.length c1, .slice a2 S.length c2, .slice a3 O.length c3] w2) := hide (by rw [hw2]; exact Blk.new)
    have HX : Hid _ := hide (below_trans hb1 b12)
    have HW : Hid (w1.alloc (.cells #[.slice a1 L.length c1, .slice a2 S.length c2, .slice a3 O.length c3] 27) = w2) := hide hw2.symm
    have HSY : Hid _ := hide (implSync_any a1 a2 a3 c1 c2 c3 L S O w2 hsm hcp.1 (hat.below b12))
    have HFM : Hid _ := hide (sync_files L S O)
    have HL1 : Hid (w.heap.size ≤ w1.heap.size) := hide hb1.size
    clear hw2 b12 hb1 hat hsm hcp
    go_upto_region 4 with fail
    rw [HW.out]
    clear HW
    have d0 := KD.out.c 0 _ rfl
    have d1 := KD.out.c 1 _ rfl
    have d2 := KD.out.c 2 _ rfl
    have f0 := KD.out.f 0
    have f1 := KD.out.f 1
    have f2 := KD.out.f 2
    go_wp2_with fail
    refine HSY.out.mono ?_
    generalize syncL L S O = M at *
    rintro e x3 ⟨hb3, m1, m2, m3, n1, n2, n3, ga, gb, gc, rfl, hcp3, R3⟩
    have kd3 := KD.out.below hb3
    have l12 := KD.out.lt
    obtain ⟨y3, hy3⟩ : ∃ y3, y3 = (((x3.setCell ⟨w1.heap.size, 0, none⟩ (.slice m1 M.length n1)).setCell ⟨w1.heap.size, 1, none⟩ (.slice m2 M.length n2)).setCell ⟨w1.heap.size, 2, none⟩ (.slice m3 0 n3)) := ⟨_, rfl⟩
    have KM : Hid (Blk w1.heap.size [.slice m1 M.length n1, .slice m2 M.length n2, .slice m3 0 n3] y3) := hide (by rw [hy3]; exact ((kd3.set 0 _ (by simp)).set 1 _ (by simp)).set 2 _ (by simp))
    have RM : Hid (DkAt y3 m1 m2 m3 M M []) := hide (R3.move (Nat.le_refl _) (fun g hg => by rw [hy3, set_block _ _ (by omega), set_block _ _ (by omega), set_block _ _ (by omega)])).at
    have HY3 : Hid ((((x3.setCell ⟨w1.heap.size, 0, none⟩ (.slice m1 M.length n1)).setCell ⟨w1.heap.size, 1, none⟩ (.slice m2 M.length n2)).setCell ⟨w1.heap.size, 2, none⟩ (.slice m3 0 n3)) = y3) := hide hy3.symm
    replace HX : Hid (Below w.heap.size w y3) := hide (by
      have b0 := below_trans HX.out hb3
      have b1 := b0.setCell (p := ⟨w1.heap.size, 0, none⟩) HL1.out (.slice m1 M.length n1)
      have b2 := b1.setCell (p := ⟨w1.heap.size, 1, none⟩) HL1.out (.slice m2 M.length n2)
      have b3 := b2.setCell (p := ⟨w1.heap.size, 2, none⟩) HL1.out (.slice m3 0 n3)
      rw [hy3]; exact b3)
    have HCM : Hid ((m1 = none → n1 = 0) ∧ (m2 = none → n2 = 0) ∧ (m3 = none → n3 = 0)) := hide hcp3
    have kc0 := kd3.c 0 _ rfl
    have kc1 := kd3.c 1 _ rfl
    have kc2 := kd3.c 2 _ rfl
    have kf0 := kd3.f 0
    have kf1 := kd3.f 1
    have kf2 := kd3.f 2
    have HDM : Hid (diskB ⟨M, M, []⟩ = true) := hide (rest_disk HFM.out)
    have HSM : Hid (SmD M M []) := hide (smD_of HDM.out)
    clear hy3 hb3 R3 kd3 KD hcp3 d0 d1 d2 f0 f1 f2 HSY l12
    go_upto_region 5 with fail
    rw [HY3.out]
    clear HY3 kc0 kc1 kc2 kf0 kf1 kf2
    have d0 := KM.out.c 0 _ rfl
    have d1 := KM.out.c 1 _ rfl
    have d2 := KM.out.c 2 _ rfl
    have hnm2 : nm.size ≤ 1048576 := by omega
    have hda2 : da.size ≤ 1048576 := by omega
    go_wp2_with fail
    refine (implReplace_any m1 m2 m3 n1 n2 n3 M M [] nm da y3 HSM.out hnm2 hda2 HCM.out.1 HCM.out.2.1 HCM.out.2.2 RM.out).mono ?_
    rintro e x4 ⟨hb4, v1, v2, v3, rfl, hr4⟩
    obtain ⟨b1, b2, b3, e1, e2, e3, rfl, rfl, rfl, hat4, -⟩ := rowsD_at hr4
    have HRF : Hid (repC M M [] nm da = 0 → (fndS M (fresh nm)).2 = false → RepF M nm da) := hide (fun q r => rep_of HDM.out q r)
    have HSP : Hid (∀ y, DkAt y m1 m2 m3 M M [] → Calls Tryz.prog 8 #[.agg #[.slice m1 M.length n1, .slice m2 M.length n2, .slice m3 0 n3], .string nm, .string da] y fun e w' => DiskC (repC M M [] nm da) (repL M M [] nm da) (repS M M [] nm da) (repO M M [] nm da) y e w') := hide (fun y hy => specReplace_any m1 m2 m3 n1 n2 n3 M M [] nm da y HSM.out hnm2 hda2 HCM.out.1 HCM.out.2.1 HCM.out.2.2 hy)
    have HEA : Hid (∀ AL AS AO, repL M M [] nm da = AL → repS M M [] nm da = AS → repO M M [] nm da = AO → RepF M nm da → AL = putL M nm da ∧ AS = M ∧ AO = [oApp nm da, oRen nm]) := hide (fun AL AS AO q1 q2 q3 r => ⟨q1.symm.trans r.l, q2.symm.trans r.s, q3.symm.trans r.o⟩)
    generalize hAL : repL M M [] nm da = AL at *
    generalize hAS : repS M M [] nm da = AS at *
    generalize hAO : repO M M [] nm da = AO at *
    generalize repC M M [] nm da = cv at *
    have HEQ : Hid (RepF M nm da → AL = putL M nm da ∧ AS = M ∧ AO = [oApp nm da, oRen nm]) := hide (fun r => HEA.out AL AS AO rfl rfl rfl r)
    clear HEA
    obtain ⟨y4, hy4⟩ : ∃ y4, y4 = x4.alloc (.cells #[.slice b1 AL.length e1, .slice b2 AS.length e2, .slice b3 AO.length e3] 27) := ⟨_, rfl⟩
    have HY4 : Hid (x4.alloc (.cells #[.slice b1 AL.length e1, .slice b2 AS.length e2, .slice b3 AO.length e3] 27) = y4) := hide hy4.symm
    have bxy : Below x4.heap.size x4 y4 := by rw [hy4]; exact below_alloc (Below.refl _ _) _
    have b34 := below_trans hb4 bxy
    have ST4 : Hid (RlSt w1.heap.size x4.heap.size [.slice m1 M.length n1, .slice m2 M.length n2, .slice m3 0 n3] [.slice b1 AL.length e1, .slice b2 AS.length e2, .slice b3 AO.length e3] m1 m2 m3 b1 b2 b3 M AL AS AO y4) := hide ⟨KM.out.below b34, by rw [hy4]; exact Blk.new, RM.out.below b34, hat4.below bxy⟩
    replace HX : Hid (Below w.heap.size w y4) := hide (below_trans HX.out b34)
    clear hy4 bxy b34 hb4 hr4 hat4 KM RM d0 d1 d2
    go_upto_region 6 with fail
    rw [HY4.out]
    clear HY4
    have d0 := ST4.out.kd.c 0 _ rfl
    have d1 := ST4.out.kd.c 1 _ rfl
    have d2 := ST4.out.kd.c 2 _ rfl
    have g0 := ST4.out.ka.c 0 _ rfl
    have g1 := ST4.out.ka.c 1 _ rfl
    have g2 := ST4.out.ka.c 2 _ rfl
    go_wp2_with fail
    refine (HSP.out y4 ST4.out.rd).mono ?_
    rintro e x5 ⟨hb5, v1, v2, v3, rfl, hr5⟩
    obtain ⟨q1, q2, q3, f1, f2, f3, rfl, rfl, rfl, -⟩ := rowsD_at hr5
    obtain ⟨y5, hy5⟩ : ∃ y5, y5 = x5.alloc (.cells #[.slice q1 AL.length f1, .slice q2 AS.length f2, .slice q3 AO.length f3] 27) := ⟨_, rfl⟩
    have HY5 : Hid (x5.alloc (.cells #[.slice q1 AL.length f1, .slice q2 AS.length f2, .slice q3 AO.length f3] 27) = y5) := hide hy5.symm
    have b45 : Below y4.heap.size y4 y5 := below_trans hb5 (by rw [hy5]; exact below_alloc (Below.refl _ _) _)
    have ST5 : Hid _ := hide (ST4.out.below b45)
    replace HX : Hid (Below w.heap.size w y5) := hide (below_trans HX.out b45)
    clear hy5 b45 hb5 hr5 ST4 HSP
    clear d0 d1 d2 g0 g1 g2
    go_upto_region 7 with fail
    rw [HY5.out]
    clear HY5
    have hcc : (cv != cv) = false := by simp
    have hce : (cv == cv) = true := by simp
    have d0 := ST5.out.kd.c 0 _ rfl
    have d1 := ST5.out.kd.c 1 _ rfl
    have d2 := ST5.out.kd.c 2 _ rfl
    have g0 := ST5.out.ka.c 0 _ rfl
    have g1 := ST5.out.ka.c 1 _ rfl
    have g2 := ST5.out.ka.c 2 _ rfl
    by_cases hc : cv = 0
    · have HRG : Hid ((fndS M (fresh nm)).2 = false → RepF M nm da) := hide (HRF.out hc)
      clear HRF
      subst hc
      clear hcc hce
      have HFD : Hid (∀ n y, DkAt y m1 m2 m3 M M [] → Calls Tryz.prog 9 #[.agg #[.slice m1 M.length n1, .slice m2 M.length n2, .slice m3 0 n3], .string n] y fun e w' => e = .returned (.tuple #[.string (fndS M n).1, .bool (fndS M n).2]) ∧ Below y.heap.size y w') := hide (fun n y hy => by have h9 := implReadFile_any m1 m2 m3 n1 n2 n3 M M [] n y HSM.out hy; rw [rd_disk HDM.out] at h9; exact h9)
      have HFE : Hid (nm ++ ⟨#[46, 110, 101, 119]⟩ = fresh nm) := hide rfl
      go_wp2_with fail
      rw [HFE.out]
      refine (HFD.out (fresh nm) y5 ST5.out.rd).mono ?_
      rintro e x6 ⟨rfl, hb6⟩
      replace HX : Hid (Below w.heap.size w x6) := hide (below_trans HX.out hb6)
      have ST6 : Hid _ := hide (ST5.out.below hb6)
      clear hb6 ST5
      clear d0 d1 d2 g0 g1 g2
      have d0 := ST6.out.kd.c 0 _ rfl
      have d1 := ST6.out.kd.c 1 _ rfl
      have d2 := ST6.out.kd.c 2 _ rfl
      have g0 := ST6.out.ka.c 0 _ rfl
      have g1 := ST6.out.ka.c 1 _ rfl
      have g2 := ST6.out.ka.c 2 _ rfl
      cases hth : (fndS M (fresh nm)).2
      · have HRP : Hid (RepF M nm da) := hide (HRG.out hth)
        have HTH : Hid _ := hide hth
        obtain ⟨eL, eS, eO⟩ := HEQ.out HRP.out
        have HEL : Hid _ := hide (And.intro eL (And.intro eS eO))
        have hA2 : AO.length = 2 := by rw [eO]; rfl
        have HSA : Hid (SmD AL AS AO) := hide (by rw [eL, eS, eO]; exact smD_of HRP.out.dk)
        have HFN : Hid (fndS AL nm = (da, true)) := hide (by rw [eL]; exact fnd_in (srt_putL (filesB_srt HFM.out) _ _) ((mem_putL (filesB_srt HFM.out)).2 (.inl rfl)))
        have HRA : Hid (∀ y, DkAt y b1 b2 b3 AL AS AO → Calls Tryz.prog 9 #[.agg #[.slice b1 AL.length e1, .slice b2 AS.length e2, .slice b3 2 e3], .string nm] y fun e w' => e = .returned (.tuple #[.string da, .bool true]) ∧ Below y.heap.size y w') := hide (fun y hy => by
          have h9 := implReadFile_any b1 b2 b3 e1 e2 e3 AL AS AO nm y HSA.out hy
          have hd9 : diskB ⟨AL, AS, AO⟩ = true := by rw [eL, eS, eO]; exact HRP.out.dk
          rw [rd_disk hd9, HFN.out, hA2] at h9
          exact h9)
        clear hth eL eS eO HRG HEQ
        rw [hA2] at ST6 g2 ⊢
        have HA2 : Hid _ := hide hA2
        clear hA2
        generalize (fndS M (fresh nm)).1 = zz at *
        go_wp2_with fail
        refine (HFD.out nm x6 ST6.out.rd).mono ?_
        rintro e x7 ⟨rfl, hb7⟩
        replace HX : Hid (Below w.heap.size w x7) := hide (below_trans HX.out hb7)
        have ST7 : Hid _ := hide (ST6.out.below hb7)
        clear hb7 ST6
        clear d0 d1 d2 g0 g1 g2
        have d0 := ST7.out.kd.c 0 _ rfl
        have d1 := ST7.out.kd.c 1 _ rfl
        have d2 := ST7.out.kd.c 2 _ rfl
        have g0 := ST7.out.ka.c 0 _ rfl
        have g1 := ST7.out.ka.c 1 _ rfl
        have g2 := ST7.out.ka.c 2 _ rfl
        go_wp2
        go_loopw [14, 15] (fun v i wr => ∃ (k : Nat) (kl : List Int), k ≤ 2 ∧ i = .int .i64 (k : Int) ∧ Hid (KpN k kl) ∧ Hid (Below x7.heap.size x7 wr) ∧ Hid (wr.ownsRow x7.heap.size 2 1 v kl.length (kl.flatMap i64Cells))) (fun v i wr => 2 - (intOf i).toNat)
        case atStart => exact ⟨0, [], by omega, rfl, hide (.inl ⟨rfl, rfl⟩), hide (below_alloc (Below.refl _ _) _), hide (by simpa using World.ownsRow_made (e := 2) (size := 1) x7 #[] 0 (Nat.le_refl _) (by unfold maxLen; omega) rfl)⟩
        case round =>
          obtain ⟨k, kl, hk, rfl, HK, HB, HO⟩ := hrel
          obtain ⟨va, vc, rfl⟩ := row_shape HO.out
          have STr : Hid _ := hide (ST7.out.below HB.out)
          clear d0 d1 d2 g0 g1 g2
          have d0 := STr.out.kd.c 0 _ rfl
          have d1 := STr.out.kd.c 1 _ rfl
          have d2 := STr.out.kd.c 2 _ rfl
          have g0 := STr.out.ka.c 0 _ rfl
          have g1 := STr.out.ka.c 1 _ rfl
          have g2 := STr.out.ka.c 2 _ rfl
          by_cases hlt : k < 2
          · have hlt' : (k : Int) < 2 := by omega
            have hkl : kl.length ≤ 2 := kp_len HK.out
            have HKS : Hid _ := hide (kp_skip HK.out hlt)
            have HKT : Hid _ := hide (kp_take HK.out hlt)
            obtain ⟨j0, hj0, hz0, hz1, hz2⟩ := info_parts infoN
            by_cases hl0 : 0 < len
            · have hl0' : (0 : Int) < (len : Int) := by omega
              have hjl : k % len < len := Nat.mod_lt _ hl0
              have hjm : (k : Int) % (len : Int) = ((k % len : Nat) : Int) := by omega
              have hjl' : ((k % len : Nat) : Int) < (len : Int) := by omega
              obtain ⟨cb, coff, rfl, hcb, z, zl, zh, hz⟩ := (H.out.below (below_trans HX.out HB.out)).2 (k % len) hjl
              generalize k % len = jj at *
              have hk8 : (k : Int) % 8 = (k : Int) := by omega
              go_wp2_with (first | (at_builtin; refine Shut2.mk ?_) | fail)
              · refine Shut2.mk' ?_
                refine wpList_append_own_at _ rfl _ _ 35 rfl x7.heap.size 2 j0 _ 1 8 huN hj0 hz0 hz1 hz2 rfl (by decide) (.slice va kl.length vc) kl.length (kl.flatMap i64Cells) rfl ?own ⟨wr.heap.size, 0, none⟩ 1 1 [.int .i64 (k : Int)] rfl rfl ?news (by simp [Value.oneCell']) (by unfold maxLen; omega) (by omega) ?base ?_
                case own => exact own_keep HO.out (below_alloc (Below.refl _ _) _)
                case news => exact news1 (World.cell?_alloc_at _ _ _ _ rfl)
                case base => have := HB.out.size; simp; omega
                intro v6 w6 ho6 hg6 _ _
                have HO6 : Hid (w6.ownsRow x7.heap.size 2 1 v6 (kl ++ [(k : Int)]).length ((kl ++ [(k : Int)]).flatMap i64Cells)) := hide (by
                  rw [List.flatMap_append, List.length_append]
                  simpa [i64Cells] using ho6)
                have HB6 : Hid (Below x7.heap.size x7 w6) := hide ((below_alloc HB.out _).grown hg6 (by have := HB.out.size; simp; omega) (fun j hj => own_base HO.out j hj))
                clear ho6 hg6
                go_wp2
                exact ⟨⟨k + 1, kl ++ [(k : Int)], by omega, by go_num, HKT, HB6, HO6⟩, by simp [intOf]; omega⟩
              · exact ⟨⟨k + 1, kl, by omega, by go_num, HKS, HB, HO⟩, by simp [intOf]; omega⟩
            · have hl0' : ¬ (0 : Int) < (len : Int) := by omega
              go_wp2
              exact ⟨⟨k + 1, kl, by omega, by go_num, HKS, HB, HO⟩, by simp [intOf]; omega⟩
          · have hlt' : ¬ (k : Int) < 2 := by omega
            have HKP : Hid (Kp kl) := hide (by
              rcases HK.out with ⟨q, _⟩ | ⟨q, _⟩ | ⟨_, q⟩
              · omega
              · omega
              · exact q)
            have hkl : kl.length ≤ 2 := kp_len HK.out
            have HRW : Hid (RowAt 1 i64Cells wr va kl) := hide (by
              obtain ⟨g, a9, cap9, _, e9, o9⟩ := own_of_row i64Len (l := kl) HO.out
              simp only [Value.slice.injEq] at e9
              rw [e9.1]; exact o9.rows)
            have hm4 : (len : Int) % 4 = ((len % 4 : Nat) : Int) := by omega
            have HCR : Hid (∀ tt : Nat, crsB AL AS AO kl (tt : Int) = true ∧ (fndS (crsL AL AS AO kl (tt : Int)) nm = fndS M nm ∨ fndS (crsL AL AS AO kl (tt : Int)) nm = (da, true))) := hide (fun tt => by
              rw [HEL.out.1, HEL.out.2.1, HEL.out.2.2]
              exact rep_crash HFM.out HTH.out HRP.out HKP.out)
            have hall : ∃ CL : List Fl, filesB CL = true ∧ (fndS CL nm = fndS M nm ∨ fndS CL nm = (da, true)) ∧ Calls Tryz.prog 10 #[.agg #[.slice b1 AL.length e1, .slice b2 AS.length e2, .slice b3 2 e3], .slice va kl.length vc, .int .i64 ((len % 4 : Nat) : Int)] wr fun e w' => DiskKE true CL CL [] wr e w' := by
              obtain ⟨k1, k2⟩ := HCR.out (len % 4)
              have h9 := implCrash_any b1 b2 b3 va e1 e2 e3 vc AL AS AO kl ((len % 4 : Nat) : Int) wr HSA.out (by omega) STr.out.ra HRW.out
              rw [HA2.out, k1] at h9
              exact ⟨_, crs_files k1, k2, h9⟩
            obtain ⟨CL, hCL, hfn, hcr⟩ := hall
            have HDC : Hid (diskB ⟨CL, CL, []⟩ = true) := hide (rest_disk hCL)
            have HCC : Hid _ := hide hcr
            have HFN : Hid _ := hide hfn
            replace HX : Hid (Below w.heap.size w wr) := hide (below_trans HX.out HB.out)
            clear hCL hfn hcr HCR HRW HO HB HK ST7 H
            generalize len % 4 = tt at *
            go_wp2_with fail
            refine HCC.out.mono ?_
            rintro e x8 ⟨hb8, p1, p2, p3, h1, h2, h3, ga8, gb8, gc8, rfl, R8⟩
            obtain ⟨y8, hy8⟩ : ∃ y8, y8 = x8.alloc (.cells #[.slice p1 CL.length h1, .slice p2 CL.length h2, .slice p3 0 h3] 27) := ⟨_, rfl⟩
            have HY8 : Hid (x8.alloc (.cells #[.slice p1 CL.length h1, .slice p2 CL.length h2, .slice p3 0 h3] 27) = y8) := hide hy8.symm
            have bxy : Below x8.heap.size x8 y8 := by rw [hy8]; exact below_alloc (Below.refl _ _) _
            have b78 := below_trans hb8 bxy
            have ST8 : Hid _ := hide (STr.out.below b78)
            have KB8 : Hid (Blk x8.heap.size [.slice p1 CL.length h1, .slice p2 CL.length h2, .slice p3 0 h3] y8) := hide (by rw [hy8]; exact Blk.new)
            have RB8 : Hid (DkAt y8 p1 p2 p3 CL CL []) := hide (R8.at.below bxy)
            replace HX : Hid (Below w.heap.size w y8) := hide (below_trans HX.out b78)
            clear hy8 bxy b78 hb8 R8 STr HCC d0 d1 d2 g0 g1 g2
            go_upto_region 20 with fail
            rw [HY8.out]
            clear HY8
            have t0 := KB8.out.c 0 _ rfl
            have t1 := KB8.out.c 1 _ rfl
            have t2 := KB8.out.c 2 _ rfl
            have d0 := ST8.out.kd.c 0 _ rfl
            have d1 := ST8.out.kd.c 1 _ rfl
            have d2 := ST8.out.kd.c 2 _ rfl
            have g0 := ST8.out.ka.c 0 _ rfl
            have g1 := ST8.out.ka.c 1 _ rfl
            have g2 := ST8.out.ka.c 2 _ rfl
            have HRC : Hid (Calls Tryz.prog 9 #[.agg #[.slice p1 CL.length h1, .slice p2 CL.length h2, .slice p3 0 h3], .string nm] y8 fun e w' => e = .returned (.tuple #[.string (fndS CL nm).1, .bool (fndS CL nm).2]) ∧ Below y8.heap.size y8 w') := hide (by
              have h9 := implReadFile_any p1 p2 p3 h1 h2 h3 CL CL [] nm y8 (smD_of HDC.out) RB8.out
              rw [rd_disk HDC.out] at h9
              exact h9)
            go_wp2_with fail
            refine HRC.out.mono ?_
            rintro e x9 ⟨rfl, hb9⟩
            replace HX : Hid (Below w.heap.size w x9) := hide (below_trans HX.out hb9)
            have ST9 : Hid _ := hide (ST8.out.below hb9)
            clear hb9 ST8 t0 t1 t2 HRC KB8 RB8 d0 d1 d2 g0 g1 g2
            have d0 := ST9.out.kd.c 0 _ rfl
            have d1 := ST9.out.kd.c 1 _ rfl
            have d2 := ST9.out.kd.c 2 _ rfl
            have g0 := ST9.out.ka.c 0 _ rfl
            have g1 := ST9.out.ka.c 1 _ rfl
            have g2 := ST9.out.ka.c 2 _ rfl
            go_wp2_with fail
            refine (HRA.out x9 ST9.out.ra).mono ?_
            rintro e x10 ⟨rfl, hb10⟩
            replace HX : Hid (Below w.heap.size w x10) := hide (below_trans HX.out hb10)
            clear hb10 ST9 d0 d1 d2 g0 g1 g2
            rcases HFN.out with hfn | hfn
            · rw [hfn]
              clear hfn
              generalize (fndS M nm).2 = was at *
              generalize (fndS M nm).1 = old at *
              have hbb : (was == was) = true := by simp
              go_wp2
              go_ret
              exact ⟨rfl, HX.out⟩
            · rw [hfn]
              clear hfn
              generalize (fndS M nm).2 = was at *
              generalize (fndS M nm).1 = old at *
              cases was
              · go_wp2
                go_ret
                exact ⟨rfl, HX.out⟩
              · cases ho : (da.toList == old.toList)
                · go_wp2
                  go_ret
                  exact ⟨rfl, HX.out⟩
                · go_wp2
                  go_ret
                  exact ⟨rfl, HX.out⟩
      · go_wp2
        go_ret
        exact ⟨rfl, HX.out⟩
    · have hc1 : (cv != 0) = true := by simpa using hc
      clear hc
      go_wp2
      go_ret
      exact ⟨rfl, HX.out⟩
end Go.Proofs.YtiilkkdbifhojaaGreat
