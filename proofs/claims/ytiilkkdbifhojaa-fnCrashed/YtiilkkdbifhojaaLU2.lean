/- The walk of the law FnCrashed. -/
import Derived.Test.YtiilkkdbifhojaaLU1
import Derived.Test.YtiilkkdbifhojaaDkCA
import Derived.Test.YtiilkkdbifhojaaDkYI
namespace Go.Proofs.Ytiilkkdbifhojaa
open Go.ChangeShapes Go.WideShapes Go.ChangeAt Go.RowKit
set_option linter.unusedVariables false
set_option maxRecDepth 100000
theorem infoN : (Try.prog.info? 2).map (fun i => (i.zero, i.size, i.bytes)) = some (some (.int .i64 0), 1, 8) := by kernel_rfl
theorem huN : Try.prog.underlying 30 = some (.slice 2) := by kernel_rfl
theorem i64_one (l : List Int) : ∀ u ∈ l.flatMap i64Cells, u.oneCell' = true := fun u hu => by
  obtain ⟨x, _, hx⟩ := List.mem_flatMap.1 hu
  simp only [i64Cells, List.mem_cons, List.not_mem_nil, or_false] at hx
  rw [hx]; rfl
set_option maxHeartbeats 16000000 in
theorem walkCrashed (a : Option Addr) (len cap : Nat) (w : World) (h : IsCode w a len) : Calls Try.prog 3 #[.slice a len cap] w fun e w' => YesEnd w e w' := by
  have H : Hid _ := hide h
  clear h
  go_enter Try.func3, Try.ntmps3
  go_wp2_with fail
  refine (big_any a len cap w).mono ?_
  rintro e w' ⟨rfl, hw'⟩
  rw [hw']
  clear hw' w'
  by_cases hbig : (1048576 : Int) < (len : Int)
  · go_wp2
    go_ret
    exact ⟨rfl, Below.refl _ _⟩
  · go_wp2_with fail
    refine (drawDiskOk_any a len cap w H.out).mono ?_
    rintro e w1 ⟨hb1, a1, a2, a3, c1, c2, c3, L, S, O, rfl, hat, hsm, n1, n2, n3⟩
    obtain ⟨w2, hw2⟩ : ∃ w2, w2 = w1.alloc (.cells #[.slice a1 L.length c1, .slice a2 S.length c2, .slice a3 O.length c3] 27) := ⟨_, rfl⟩
    have b12 : Below w1.heap.size w1 w2 := by rw [hw2]; exact below_alloc (Below.refl _ _) _
    have KD : Hid (Blk w1.heap.size [.slice a1 L.length c1, .slice a2 S.length c2, .slice a3 O.length c3] w2) := hide (by rw [hw2]; exact Blk.new)
    have HX : Hid _ := hide (below_trans hb1 b12)
    have HAT : Hid _ := hide (hat.below b12)
    have HSM : Hid _ := hide hsm
    have HN : Hid ((a1 = none → c1 = 0) ∧ (a2 = none → c2 = 0) ∧ (a3 = none → c3 = 0)) := hide ⟨n1, n2, n3⟩
    have HW : Hid (w1.alloc (.cells #[.slice a1 L.length c1, .slice a2 S.length c2, .slice a3 O.length c3] 27) = w2) := hide hw2.symm
    have hO2 : O.length ≤ 1048576 := hsm.2.2.1
    clear hw2 b12 hb1 hat hsm n1 n2 n3 H
    go_upto_region 4 with fail
    rw [HW.out]
    have d0 := later_cell (KD.out.c 0 _ rfl)
    have d1 := later_cell (KD.out.c 1 _ rfl)
    have d2 := later_cell (KD.out.c 2 _ rfl)
    have hne : Nonempty (Later w2) := later_there _
    have HIM : Hid (∀ y : Later w2, Calls Try.prog 7 #[.agg #[.slice a1 L.length c1, .slice a2 S.length c2, .slice a3 O.length c3]] y.w fun e w'' => e = .returned (.bool (diskB ⟨L, S, O⟩)) ∧ ∃ z : Later w2, w'' = z.w) := hide (fun y => later_of (implDiskOk_any a1 a2 a3 c1 c2 c3 L S O y.w HSM.out.1.1 HSM.out.2.1.1 HSM.out.2.2.1 HSM.out.1.f HSM.out.2.1.f HSM.out.2.2.2 (HAT.out.below y.below).r1 (HAT.out.below y.below).r2 (HAT.out.below y.below).r3))
    have HSP : Hid (∀ y : Later w2, Calls Try.prog 8 #[.agg #[.slice a1 L.length c1, .slice a2 S.length c2, .slice a3 O.length c3]] y.w fun e w'' => e = .returned (.bool (diskB ⟨L, S, O⟩)) ∧ ∃ z : Later w2, w'' = z.w) := hide (fun y => later_of (specDiskOk_any a1 a2 a3 c1 c2 c3 L S O y.w HSM.out.1.1 HSM.out.2.1.1 HSM.out.2.2.1 HSM.out.1.f HSM.out.2.1.f HSM.out.2.2.2 HN.out.2.1 (HAT.out.below y.below).r1 (HAT.out.below y.below).r2 (HAT.out.below y.below).r3))
    refine wp_region_later w2 (by kernel_rfl) (by kernel_rfl) ((Below.refl _ _).drew) ?_
    repeat (go_big_quiet_step (first | (go_at_call 7; with_reducible exact HIM.out _) | (go_at_call 8; with_reducible exact HSP.out _)))
    refine wpQuiet_nil ?_
    intro _ hw'
    obtain ⟨nx, rfl⟩ := hw'
    obtain ⟨x, hx⟩ : ∃ x, x = nx.w := ⟨_, rfl⟩
    have hbx : Below w2.heap.size w2 x := hx ▸ nx.below
    rw [← hx]
    have KD3 : Hid _ := hide (KD.out.below hbx)
    have HX3 : Hid _ := hide (below_trans HX.out hbx)
    have AT3 : Hid _ := hide (HAT.out.below hbx)
    have hq : (diskB ⟨L, S, O⟩ != diskB ⟨L, S, O⟩) = false := by simp
    have HC1 : Hid _ := hide (crsB_all L S O)
    have HC2 : Hid _ := hide (crsB_nil L S O)
    clear hx hbx nx d0 d1 d2 hne HIM HSP KD HX HAT HW
    go_wp2
    go_loopw [4, 5] (fun v i wr => ∃ k : Nat, k ≤ O.length ∧ i = .int .i64 (k : Int) ∧ Hid (Below x.heap.size x wr) ∧ Hid (wr.ownsRow x.heap.size 2 1 v k (((allK O.length).take k).flatMap i64Cells))) (fun v i wr => O.length - (intOf i).toNat)
    case atStart => exact ⟨0, Nat.zero_le _, rfl, hide (below_alloc (Below.refl _ _) _), hide (by simpa using World.ownsRow_made (e := 2) (size := 1) x #[] 0 (Nat.le_refl _) (by unfold maxLen; omega) rfl)⟩
    case round =>
      obtain ⟨k, hk, rfl, HB, HO⟩ := hrel
      obtain ⟨va, vc, rfl⟩ := row_shape HO.out
      have KDr : Hid _ := hide (KD3.out.below HB.out)
      have y0 := KDr.out.c 0 _ rfl
      have y1 := KDr.out.c 1 _ rfl
      have y2 := KDr.out.c 2 _ rfl
      by_cases hlt : k < O.length
      · have hlt' : (k : Int) < (O.length : Int) := by omega
        obtain ⟨j0, hj0, hz0, hz1, hz2⟩ := info_parts infoN
        have HNX : Hid _ := hide (allK_next O.length k hlt)
        go_wp2_with (first | (at_builtin; refine Shut2.mk ?_) | fail)
        refine Shut2.mk' ?_
        refine wpList_append_own_at _ rfl _ _ 30 rfl x.heap.size 2 j0 _ 1 8 huN hj0 hz0 hz1 hz2 rfl (by decide) (.slice va k vc) k (((allK O.length).take k).flatMap i64Cells) rfl ?own ⟨wr.heap.size, 0, none⟩ 1 1 [.int .i64 (k : Int)] rfl rfl ?news (by simp [Value.oneCell']) (by unfold maxLen; omega) (by omega) ?base ?_
        case own => exact own_keep HO.out (below_alloc (Below.refl _ _) _)
        case news => exact news1 (World.cell?_alloc_at _ _ _ _ rfl)
        case base => have := HB.out.size; simp; omega
        intro v6 w6 ho6 hg6 _ _
        have HO6 : Hid (w6.ownsRow x.heap.size 2 1 v6 (k + 1) (((allK O.length).take (k + 1)).flatMap i64Cells)) := hide (by
          rw [HNX.out, List.flatMap_append]
          simpa [i64Cells] using ho6)
        have HB6 : Hid (Below x.heap.size x w6) := hide ((below_alloc HB.out _).grown hg6 (by have := HB.out.size; simp; omega) (fun j hj => own_base HO.out j hj))
        clear ho6 hg6
        go_wp2
        exact ⟨⟨k + 1, by omega, by go_num, HB6, HO6⟩, by simp [intOf]; omega⟩
      · have hlt' : ¬ (k : Int) < (O.length : Int) := by omega
        have ek : k = O.length := by omega
        subst ek
        have HRW : Hid (RowAt 1 i64Cells wr va (allK O.length)) := hide (by
          have h9 := HO.out
          rw [List.take_of_length_le (by rw [allK_len]; exact Nat.le_refl _)] at h9
          obtain ⟨g, a9, cap9, _, e9, o9⟩ := own_of_row i64Len (l := allK O.length) (by rw [allK_len]; exact h9)
          simp only [Value.slice.injEq] at e9
          rw [e9.1]; exact o9.rows)
        have ATr : Hid _ := hide (AT3.out.below HB.out)
        have HXr : Hid _ := hide (below_trans HX3.out HB.out)
        have HIC : Hid _ := hide (implCrash_any a1 a2 a3 va c1 c2 c3 vc L S O (allK O.length) 1099511627776 wr HSM.out (by rw [allK_len]; exact hO2) ATr.out HRW.out)
        have LA : Hid _ := hide (allK_len O.length)
        rw [LA.out, HC1.out.1, HC1.out.2] at HIC
        have HIN : Hid (∀ y, Below wr.heap.size wr y → Calls Try.prog 9 #[.agg #[.slice a1 L.length c1, .slice a2 S.length c2, .slice a3 O.length c3], .slice none 0 0, .int .i64 0] y fun e w' => DiskKE (diskB ⟨L, S, O⟩) (bif diskB ⟨L, S, O⟩ then S else []) (bif diskB ⟨L, S, O⟩ then S else []) [] y e w') := hide (fun y hy => by
          have h9 := implCrash_any a1 a2 a3 none c1 c2 c3 0 L S O [] 0 y HSM.out (by simp) (ATr.out.below hy) RowAt.nil
          rw [HC2.out.1, HC2.out.2] at h9
          exact h9)
        have HID : Hid (∀ y, Below wr.heap.size wr y → Calls Try.prog 7 #[.agg #[.slice a1 L.length c1, .slice a2 S.length c2, .slice a3 O.length c3]] y fun e w' => e = .returned (.bool (diskB ⟨L, S, O⟩)) ∧ Below y.heap.size y w') := hide (fun y hy => implDiskOk_any a1 a2 a3 c1 c2 c3 L S O y HSM.out.1.1 HSM.out.2.1.1 HSM.out.2.2.1 HSM.out.1.f HSM.out.2.1.f HSM.out.2.2.2 (ATr.out.below hy).r1 (ATr.out.below hy).r2 (ATr.out.below hy).r3)
        have HSY : Hid (∀ y, Below wr.heap.size wr y → Calls Try.prog 10 #[.agg #[.slice a1 L.length c1, .slice a2 S.length c2, .slice a3 O.length c3]] y fun e w' => DiskEnd (syncL L S O) (syncL L S O) [] y e w') := hide (fun y hy => implSync_any a1 a2 a3 c1 c2 c3 L S O y HSM.out HN.out.1 (ATr.out.below hy))
        have HLS : Hid (syncL L S O = bif diskB ⟨L, S, O⟩ then L else []) := hide rfl
        have HSZ : Hid (L.length ≤ 1048576 ∧ S.length ≤ 1048576) := hide ⟨HSM.out.1.1, HSM.out.2.1.1⟩
        clear HO HRW HC1 HC2 HB KD3 HX3 AT3 LA hlt hlt'
        cases hB : diskB ⟨L, S, O⟩
        · rw [hB] at HIC HIN HID HLS
          have HBB : Hid _ := hide hB
          clear hB hq
          simp only [cond_false] at HIC HIN HLS
          go_wp2_with fail
          refine (HIC.out).mono ?_
          rintro e x4 ⟨hb4, q41, q42, q43, k41, k42, k43, ga4, gb4, gc4, rfl, R4⟩
          obtain ⟨y4, hy4⟩ : ∃ y, y = x4.alloc (.cells #[.slice q41 0 k41, .slice q42 0 k42, .slice q43 0 k43] 27) := ⟨_, rfl⟩
          have hc4 : Below x4.heap.size x4 y4 := by rw [hy4]; exact below_alloc (Below.refl _ _) _
          have BY4 : Hid (Below wr.heap.size wr y4) := hide (below_trans (Below.refl _ _) (below_trans hb4 hc4))
          have KA4 : Hid (Blk x4.heap.size [.slice q41 0 k41, .slice q42 0 k42, .slice q43 0 k43] y4) := hide (by rw [hy4]; exact Blk.new)
          have RA4 : Hid _ := hide (And.intro (R4.o1.rows.below hc4) (R4.o2.rows.below hc4))
          have HY4 : Hid (x4.alloc (.cells #[.slice q41 0 k41, .slice q42 0 k42, .slice q43 0 k43] 27) = y4) := hide hy4.symm
          have kd := KDr.out.below (below_trans hb4 hc4)
          have d0 := kd.c 0 _ rfl
          have d1 := kd.c 1 _ rfl
          have d2 := kd.c 2 _ rfl
          have HKD4 : Hid _ := hide kd
          clear hy4 hc4 hb4 R4 kd y0 y1 y2 HIC
          go_upto_region 12 with fail
          rw [HY4.out]
          go_wp2_with fail
          refine (HIN.out y4 BY4.out).mono ?_
          rintro e x5 ⟨hb5, q51, q52, q53, k51, k52, k53, ga5, gb5, gc5, rfl, R5⟩
          obtain ⟨y5, hy5⟩ : ∃ y, y = x5.alloc (.cells #[.slice q51 0 k51, .slice q52 0 k52, .slice q53 0 k53] 27) := ⟨_, rfl⟩
          have hc5 : Below x5.heap.size x5 y5 := by rw [hy5]; exact below_alloc (Below.refl _ _) _
          have BY5 : Hid (Below wr.heap.size wr y5) := hide (below_trans (BY4.out) (below_trans hb5 hc5))
          have KA5 : Hid (Blk x5.heap.size [.slice q51 0 k51, .slice q52 0 k52, .slice q53 0 k53] y5) := hide (by rw [hy5]; exact Blk.new)
          have RA5 : Hid _ := hide (And.intro (R5.o1.rows.below hc5) (R5.o2.rows.below hc5))
          have HY5 : Hid (x5.alloc (.cells #[.slice q51 0 k51, .slice q52 0 k52, .slice q53 0 k53] 27) = y5) := hide hy5.symm
          have b45 := below_trans hb5 hc5
          have KA5a : Hid _ := hide (KA4.out.below b45)
          have RA5a : Hid _ := hide (And.intro (RA4.out.1.below b45) (RA4.out.2.below b45))
          have HKD5 : Hid _ := hide (HKD4.out.below b45)
          have e0 := HKD5.out.c 0 _ rfl
          have e1 := HKD5.out.c 1 _ rfl
          have e2 := HKD5.out.c 2 _ rfl
          clear hy5 hc5 hb5 R5 b45 d0 d1 d2 KA4 RA4 HKD4 BY4 HIN HY4
          go_upto_region 13 with fail
          rw [HY5.out]
          go_wp2_with fail
          refine (HID.out y5 BY5.out).mono ?_
          rintro e x6 ⟨rfl, hb6⟩
          have BY6 : Hid _ := hide (below_trans BY5.out hb6)
          have KA6 : Hid _ := hide (KA5a.out.below hb6)
          have KB6 : Hid _ := hide (KA5.out.below hb6)
          have RA6 : Hid _ := hide (And.intro (RA5a.out.1.below hb6) (RA5a.out.2.below hb6))
          have RB6 : Hid _ := hide (And.intro (RA5.out.1.below hb6) (RA5.out.2.below hb6))
          have HKD6 : Hid _ := hide (HKD5.out.below hb6)
          have HE6 : Hid (Below w.heap.size w x6) := hide (below_trans HXr.out BY6.out)
          have g0 := KA6.out.c 0 _ rfl
          have g1 := KA6.out.c 1 _ rfl
          have g2 := KA6.out.c 2 _ rfl
          have h0 := KB6.out.c 0 _ rfl
          have h1 := KB6.out.c 1 _ rfl
          have h2 := KB6.out.c 2 _ rfl
          have d0 := HKD6.out.c 0 _ rfl
          have d1 := HKD6.out.c 1 _ rfl
          have d2 := HKD6.out.c 2 _ rfl
          clear hb6 KA5a KA5 RA5a RA5 HKD5 e0 e1 e2 BY5 HY5 HID
          go_wp2
          go_ret
          exact ⟨rfl, HE6.out⟩
        · rw [hB] at HIC HIN HID HLS
          have HBB : Hid _ := hide hB
          clear hB hq
          simp only [cond_true] at HIC HIN HLS
          go_wp2_with fail
          refine (HIC.out).mono ?_
          rintro e x4 ⟨hb4, q41, q42, q43, k41, k42, k43, ga4, gb4, gc4, rfl, R4⟩
          obtain ⟨y4, hy4⟩ : ∃ y, y = x4.alloc (.cells #[.slice q41 L.length k41, .slice q42 L.length k42, .slice q43 0 k43] 27) := ⟨_, rfl⟩
          have hc4 : Below x4.heap.size x4 y4 := by rw [hy4]; exact below_alloc (Below.refl _ _) _
          have BY4 : Hid (Below wr.heap.size wr y4) := hide (below_trans (Below.refl _ _) (below_trans hb4 hc4))
          have KA4 : Hid (Blk x4.heap.size [.slice q41 L.length k41, .slice q42 L.length k42, .slice q43 0 k43] y4) := hide (by rw [hy4]; exact Blk.new)
          have RA4 : Hid _ := hide (And.intro (R4.o1.rows.below hc4) (R4.o2.rows.below hc4))
          have HY4 : Hid (x4.alloc (.cells #[.slice q41 L.length k41, .slice q42 L.length k42, .slice q43 0 k43] 27) = y4) := hide hy4.symm
          have kd := KDr.out.below (below_trans hb4 hc4)
          have d0 := kd.c 0 _ rfl
          have d1 := kd.c 1 _ rfl
          have d2 := kd.c 2 _ rfl
          have HKD4 : Hid _ := hide kd
          clear hy4 hc4 hb4 R4 kd y0 y1 y2 HIC
          go_upto_region 12 with fail
          rw [HY4.out]
          go_wp2_with fail
          refine (HIN.out y4 BY4.out).mono ?_
          rintro e x5 ⟨hb5, q51, q52, q53, k51, k52, k53, ga5, gb5, gc5, rfl, R5⟩
          obtain ⟨y5, hy5⟩ : ∃ y, y = x5.alloc (.cells #[.slice q51 S.length k51, .slice q52 S.length k52, .slice q53 0 k53] 27) := ⟨_, rfl⟩
          have hc5 : Below x5.heap.size x5 y5 := by rw [hy5]; exact below_alloc (Below.refl _ _) _
          have BY5 : Hid (Below wr.heap.size wr y5) := hide (below_trans (BY4.out) (below_trans hb5 hc5))
          have KA5 : Hid (Blk x5.heap.size [.slice q51 S.length k51, .slice q52 S.length k52, .slice q53 0 k53] y5) := hide (by rw [hy5]; exact Blk.new)
          have RA5 : Hid _ := hide (And.intro (R5.o1.rows.below hc5) (R5.o2.rows.below hc5))
          have HY5 : Hid (x5.alloc (.cells #[.slice q51 S.length k51, .slice q52 S.length k52, .slice q53 0 k53] 27) = y5) := hide hy5.symm
          have b45 := below_trans hb5 hc5
          have KA5a : Hid _ := hide (KA4.out.below b45)
          have RA5a : Hid _ := hide (And.intro (RA4.out.1.below b45) (RA4.out.2.below b45))
          have HKD5 : Hid _ := hide (HKD4.out.below b45)
          have e0 := HKD5.out.c 0 _ rfl
          have e1 := HKD5.out.c 1 _ rfl
          have e2 := HKD5.out.c 2 _ rfl
          clear hy5 hc5 hb5 R5 b45 d0 d1 d2 KA4 RA4 HKD4 BY4 HIN HY4
          go_upto_region 13 with fail
          rw [HY5.out]
          go_wp2_with fail
          refine (HID.out y5 BY5.out).mono ?_
          rintro e x6 ⟨rfl, hb6⟩
          have BY6 : Hid _ := hide (below_trans BY5.out hb6)
          have KA6 : Hid _ := hide (KA5a.out.below hb6)
          have KB6 : Hid _ := hide (KA5.out.below hb6)
          have RA6 : Hid _ := hide (And.intro (RA5a.out.1.below hb6) (RA5a.out.2.below hb6))
          have RB6 : Hid _ := hide (And.intro (RA5.out.1.below hb6) (RA5.out.2.below hb6))
          have HKD6 : Hid _ := hide (HKD5.out.below hb6)
          have HE6 : Hid (Below w.heap.size w x6) := hide (below_trans HXr.out BY6.out)
          have g0 := KA6.out.c 0 _ rfl
          have g1 := KA6.out.c 1 _ rfl
          have g2 := KA6.out.c 2 _ rfl
          have h0 := KB6.out.c 0 _ rfl
          have h1 := KB6.out.c 1 _ rfl
          have h2 := KB6.out.c 2 _ rfl
          have d0 := HKD6.out.c 0 _ rfl
          have d1 := HKD6.out.c 1 _ rfl
          have d2 := HKD6.out.c 2 _ rfl
          clear hb6 KA5a KA5 RA5a RA5 HKD5 e0 e1 e2 BY5 HY5 HID
          go_wp2_with fail
          refine (HSY.out x6 BY6.out).mono ?_
          rw [HLS.out]
          rintro e x7 ⟨hb7, s1, s2, s3, r1, r2, r3, ga7, gb7, gc7, rfl, -, R7⟩
          obtain ⟨y7, hy7⟩ : ∃ y, y = x7.alloc (.cells #[.slice s1 L.length r1, .slice s2 L.length r2, .slice s3 0 r3] 27) := ⟨_, rfl⟩
          have hc7 : Below x7.heap.size x7 y7 := by rw [hy7]; exact below_alloc (Below.refl _ _) _
          have b67 := below_trans hb7 hc7
          have KC7 : Hid (Blk x7.heap.size [.slice s1 L.length r1, .slice s2 L.length r2, .slice s3 0 r3] y7) := hide (by rw [hy7]; exact Blk.new)
          have HY7 : Hid (x7.alloc (.cells #[.slice s1 L.length r1, .slice s2 L.length r2, .slice s3 0 r3] 27) = y7) := hide hy7.symm
          have KA7 : Hid _ := hide (KA6.out.below b67)
          have KB7 : Hid _ := hide (KB6.out.below b67)
          have KD7 : Hid _ := hide (HKD6.out.below b67)
          have RA7 : Hid _ := hide (And.intro (RA6.out.1.below b67) (RA6.out.2.below b67))
          have RB7 : Hid _ := hide (And.intro (RB6.out.1.below b67) (RB6.out.2.below b67))
          have RC7 : Hid _ := hide (R7.o2.rows.below hc7)
          have RD7 : Hid _ := hide (ATr.out.below (below_trans BY6.out b67))
          have HE7 : Hid (Below w.heap.size w y7) := hide (below_trans HE6.out b67)
          clear hy7 hc7 b67 hb7 R7 KA6 KB6 HKD6 RA6 RB6 HE6 BY6 HSY g0 g1 g2 h0 h1 h2 d0 d1 d2
          have g0 := KA7.out.c 0 _ rfl
          have g1 := KA7.out.c 1 _ rfl
          have g2 := KA7.out.c 2 _ rfl
          have h0 := KB7.out.c 0 _ rfl
          have h1 := KB7.out.c 1 _ rfl
          have h2 := KB7.out.c 2 _ rfl
          have d0 := KD7.out.c 0 _ rfl
          have d1 := KD7.out.c 1 _ rfl
          have d2 := KD7.out.c 2 _ rfl
          go_upto_region 18 with fail
          rw [HY7.out]
          go_wp2_with fail
          refine (sameFiles_any q41 a1 L L k41 c1 y7 HSZ.out.1 HSZ.out.1 (RA7.out.1) (RD7.out.r1)).mono ?_
          rintro e x8 ⟨rfl, hb8⟩
          have Bx8 : Hid (Below y7.heap.size y7 x8) := hide (hb8)
          have KAx := KA7.out.below Bx8.out
          have KBx := KB7.out.below Bx8.out
          have KCx := KC7.out.below Bx8.out
          have KDx := KD7.out.below Bx8.out
          have eqt8 : decide (L = L) = true := by simp
          have g0 := KAx.c 0 _ rfl
          have g1 := KAx.c 1 _ rfl
          have g2 := KAx.c 2 _ rfl
          have h0 := KBx.c 0 _ rfl
          have h1 := KBx.c 1 _ rfl
          have h2 := KBx.c 2 _ rfl
          have d0 := KDx.c 0 _ rfl
          have d1 := KDx.c 1 _ rfl
          have d2 := KDx.c 2 _ rfl
          have t0 := KCx.c 0 _ rfl
          have t1 := KCx.c 1 _ rfl
          have t2 := KCx.c 2 _ rfl
          clear hb8 KAx KBx KCx KDx
          rw [eqt8]
          clear eqt8
          go_wp2_with fail
          refine (sameFiles_any q42 a1 L L k42 c1 x8 HSZ.out.1 HSZ.out.1 (RA7.out.2.below Bx8.out) (RD7.out.r1.below Bx8.out)).mono ?_
          rintro e x9 ⟨rfl, hb9⟩
          have Bx9 : Hid (Below y7.heap.size y7 x9) := hide (below_trans Bx8.out hb9)
          have KAx := KA7.out.below Bx9.out
          have KBx := KB7.out.below Bx9.out
          have KCx := KC7.out.below Bx9.out
          have KDx := KD7.out.below Bx9.out
          have eqt9 : decide (L = L) = true := by simp
          have g0 := KAx.c 0 _ rfl
          have g1 := KAx.c 1 _ rfl
          have g2 := KAx.c 2 _ rfl
          have h0 := KBx.c 0 _ rfl
          have h1 := KBx.c 1 _ rfl
          have h2 := KBx.c 2 _ rfl
          have d0 := KDx.c 0 _ rfl
          have d1 := KDx.c 1 _ rfl
          have d2 := KDx.c 2 _ rfl
          have t0 := KCx.c 0 _ rfl
          have t1 := KCx.c 1 _ rfl
          have t2 := KCx.c 2 _ rfl
          clear hb9 KAx KBx KCx KDx
          rw [eqt9]
          clear eqt9
          go_wp2_with fail
          refine (sameFiles_any q51 a2 S S k51 c2 x9 HSZ.out.2 HSZ.out.2 (RB7.out.1.below Bx9.out) (RD7.out.r2.below Bx9.out)).mono ?_
          rintro e x10 ⟨rfl, hb10⟩
          have Bx10 : Hid (Below y7.heap.size y7 x10) := hide (below_trans Bx9.out hb10)
          have KAx := KA7.out.below Bx10.out
          have KBx := KB7.out.below Bx10.out
          have KCx := KC7.out.below Bx10.out
          have KDx := KD7.out.below Bx10.out
          have eqt10 : decide (S = S) = true := by simp
          have g0 := KAx.c 0 _ rfl
          have g1 := KAx.c 1 _ rfl
          have g2 := KAx.c 2 _ rfl
          have h0 := KBx.c 0 _ rfl
          have h1 := KBx.c 1 _ rfl
          have h2 := KBx.c 2 _ rfl
          have d0 := KDx.c 0 _ rfl
          have d1 := KDx.c 1 _ rfl
          have d2 := KDx.c 2 _ rfl
          have t0 := KCx.c 0 _ rfl
          have t1 := KCx.c 1 _ rfl
          have t2 := KCx.c 2 _ rfl
          clear hb10 KAx KBx KCx KDx
          rw [eqt10]
          clear eqt10
          go_wp2_with fail
          refine (sameFiles_any s2 a1 L L r2 c1 x10 HSZ.out.1 HSZ.out.1 (RC7.out.below Bx10.out) (RD7.out.r1.below Bx10.out)).mono ?_
          rintro e x11 ⟨rfl, hb11⟩
          have Bx11 : Hid (Below y7.heap.size y7 x11) := hide (below_trans Bx10.out hb11)
          have KAx := KA7.out.below Bx11.out
          have KBx := KB7.out.below Bx11.out
          have KCx := KC7.out.below Bx11.out
          have KDx := KD7.out.below Bx11.out
          have eqt11 : decide (L = L) = true := by simp
          have g0 := KAx.c 0 _ rfl
          have g1 := KAx.c 1 _ rfl
          have g2 := KAx.c 2 _ rfl
          have h0 := KBx.c 0 _ rfl
          have h1 := KBx.c 1 _ rfl
          have h2 := KBx.c 2 _ rfl
          have d0 := KDx.c 0 _ rfl
          have d1 := KDx.c 1 _ rfl
          have d2 := KDx.c 2 _ rfl
          have t0 := KCx.c 0 _ rfl
          have t1 := KCx.c 1 _ rfl
          have t2 := KCx.c 2 _ rfl
          clear hb11 KAx KBx KCx KDx
          rw [eqt11]
          clear eqt11
          go_wp2
          go_ret
          exact ⟨rfl, below_trans HE7.out Bx11.out⟩
end Go.Proofs.Ytiilkkdbifhojaa
