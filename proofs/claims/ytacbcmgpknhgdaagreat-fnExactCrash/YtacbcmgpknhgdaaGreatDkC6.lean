/- The model's Crash. -/
import Derived.Test.YtacbcmgpknhgdaaGreatDkC7
import Derived.Test.YtacbcmgpknhgdaaGreatDkQ1
namespace Go.Proofs.YtacbcmgpknhgdaaGreat
open Go.ChangeShapes Go.WideShapes Go.ChangeAt Go.RowKit
set_option linter.unusedVariables false
set_option maxRecDepth 100000
set_option pp.maxSteps 1000000
set_option pp.deepTerms true
def DiskK (b : Bool) (L S : List Fl) (O : List Dp) (w : World) (e : Ending) (w' : World) : Prop := Below w.heap.size w w' ∧ ∃ v1 v2 v3, e = .returned (.tuple #[.agg #[v1, v2, v3], .bool b]) ∧ RowsD w.heap.size L S O v1 v2 v3 w'
theorem kzero {w y : World} {b : Bool} (hy : Below w.heap.size w y) :
    DiskK b [] [] [] w (.returned (.tuple #[.agg #[.slice none 0 0, .slice none 0 0, .slice none 0 0], .bool b])) (((y.setCell ⟨w.heap.size + 1, 0, none⟩ (.slice none 0 0)).setCell ⟨w.heap.size + 1, 1, none⟩ (.slice none 0 0)).setCell ⟨w.heap.size + 1, 2, none⟩ (.slice none 0 0)) :=
  ⟨((hy.setCell (p := ⟨w.heap.size + 1, 0, none⟩) (by show w.heap.size ≤ w.heap.size + 1; omega) _).setCell (p := ⟨w.heap.size + 1, 1, none⟩) (by show w.heap.size ≤ w.heap.size + 1; omega) _).setCell (p := ⟨w.heap.size + 1, 2, none⟩) (by show w.heap.size ≤ w.heap.size + 1; omega) _, _, _, _, rfl, ⟨⟨by simp, .inl ⟨rfl, rfl⟩⟩, ⟨by simp, .inl ⟨rfl, rfl⟩⟩, ⟨by simp, .inl ⟨rfl, rfl⟩⟩, fun g hg => (by cases hg), fun g hg => (by cases hg), fun g hg => (by cases hg)⟩⟩
/-- what holds in the midst of the region that takes an operation out -/
structure CrF (s k n b off b2 off2 len kc oc m : Nat) (wp : World) (o : Dp) (l0 l1 l2 l3 l4 l5 l6 l7 l8 l9 : Bool) (u11 u63 u64 u65 u66 u67 u68 u69 u70 : Value) (x : World) : Prop where
  bel : Below wp.heap.size wp x
  sz : l8 = false → x.heap.size = wp.heap.size
  al : l8 = true → u11 = .pointer (some ⟨wp.heap.size, 0, none⟩)
  az : l8 = true → l9 = false → Blk wp.heap.size [.int .i64 0, .string ⟨#[]⟩, .string ⟨#[]⟩, .string ⟨#[]⟩] x
  d9 : l9 = true → l8 = true
  fin : l9 = true → Blk wp.heap.size [.int .i64 o.kind, .string o.nm, .string o.tn, .string o.da] x
  p63 : l0 = true → u63 = .pointer (some ⟨s, 2, none⟩)
  p64 : l1 = true → u64 = .slice (some ⟨b2, off2, none⟩) m oc
  p65 : l2 = true → u65 = .slice (some ⟨b, off, none⟩) len kc
  p66 : l3 = true → u66 = .int .i64 (k : Int)
  p67 : l4 = true → u67 = .pointer (some ⟨b, off + k, none⟩)
  p68 : l5 = true → u68 = .int .i64 (n : Int)
  p69 : l6 = true → u69 = .pointer (some ⟨b2, off2 + n * 4, none⟩)
  p70 : l7 = true → u70 = .agg #[.int .i64 o.kind, .string o.nm, .string o.tn, .string o.da]
theorem CrF.st8 {s k n b off b2 off2 len kc oc m : Nat} {wp : World} {o : Dp} {l0 l1 l2 l3 l4 l5 l6 l7 l9 : Bool} {u11 u63 u64 u65 u66 u67 u68 u69 u70 : Value} {x : World} (h : CrF s k n b off b2 off2 len kc oc m wp o l0 l1 l2 l3 l4 l5 l6 l7 false l9 u11 u63 u64 u65 u66 u67 u68 u69 u70 x) : CrF s k n b off b2 off2 len kc oc m wp o l0 l1 l2 l3 l4 l5 l6 l7 true l9 (.pointer (some ⟨x.heap.size, 0, none⟩)) u63 u64 u65 u66 u67 u68 u69 u70 (x.alloc (.cells #[.int .i64 0, .string ⟨#[]⟩, .string ⟨#[]⟩, .string ⟨#[]⟩] 37)) := by
  have e := h.sz rfl
  have n9 : l9 = true → False := fun q => by have := h.d9 q; cases this
  exact { h with
    bel := below_trans h.bel (below_alloc (Below.refl _ _) _)
    sz := fun q => by cases q
    al := fun _ => by rw [e]
    az := fun _ _ => by rw [← e]; exact Blk.new
    d9 := fun _ => rfl
    fin := fun q => (n9 q).elim }
theorem CrF.st9 {s k n b off b2 off2 len kc oc m : Nat} {wp : World} {o : Dp} {u11 u63 u64 u65 u66 u67 u68 u69 u70 : Value} {x : World} (h : CrF s k n b off b2 off2 len kc oc m wp o true true true true true true true true true false u11 u63 u64 u65 u66 u67 u68 u69 u70 x) : CrF s k n b off b2 off2 len kc oc m wp o true true true true true true true true true true u11 u63 u64 u65 u66 u67 u68 u69 u70 ((((x.setCell ⟨wp.heap.size, 0, none⟩ (.int .i64 o.kind)).setCell ⟨wp.heap.size, 1, none⟩ (.string o.nm)).setCell ⟨wp.heap.size, 2, none⟩ (.string o.tn)).setCell ⟨wp.heap.size, 3, none⟩ (.string o.da)) := by
  have R := h.az rfl rfl
  exact { h with
    bel := (((h.bel.setCell (p := ⟨wp.heap.size, 0, none⟩) (Nat.le_refl _) _).setCell (p := ⟨wp.heap.size, 1, none⟩) (Nat.le_refl _) _).setCell (p := ⟨wp.heap.size, 2, none⟩) (Nat.le_refl _) _).setCell (p := ⟨wp.heap.size, 3, none⟩) (Nat.le_refl _) _
    sz := fun q => by cases q
    az := fun _ q => by cases q
    d9 := fun _ => rfl
    fin := fun _ => (((R.set 0 _ (by simp)).set 1 _ (by simp)).set 2 _ (by simp)).set 3 _ (by simp) }
set_option maxHeartbeats 16000000 in
theorem specCrash_any (la sa oa ka : Option Addr) (lc sc oc kc : Nat) (live safe : List Fl) (ops : List Dp) (keep : List Int) (torn : Int) (w : World) (hm : SmD live safe ops) (hk0 : keep.length ≤ 1048576) (hc1 : la = none → lc = 0) (hc2 : sa = none → sc = 0) (hc3 : oa = none → oc = 0) (h : DkAt w la sa oa live safe ops) (hp : RowAt 1 i64Cells w ka keep) :
    Calls Tryz.prog 15 #[.agg #[.slice la live.length lc, .slice sa safe.length sc, .slice oa ops.length oc], .slice ka keep.length kc, .int .i64 torn] w fun e w' => DiskK (crsB live safe ops keep torn) (crsL live safe ops keep torn) (crsL live safe ops keep torn) [] w e w' := by
  have HL : Hid _ := hide h
  have HP : Hid _ := hide hp
  have HM : Hid _ := hide hm
  have HC : Hid ((la = none → lc = 0) ∧ (sa = none → sc = 0) ∧ (oa = none → oc = 0)) := hide ⟨hc1, hc2, hc3⟩
  have HZ : Hid (live.length ≤ 1048576 ∧ safe.length ≤ 1048576 ∧ ops.length ≤ 1048576) := hide ⟨hm.1.1, hm.2.1.1, hm.2.2.1⟩
  clear h hm hp hc1 hc2 hc3
  obtain ⟨w0, hwa⟩ : ∃ wa, wa = ((w.alloc (.cells #[.slice la live.length lc, .slice sa safe.length sc, .slice oa ops.length oc] 33)).alloc (.cells #[.slice none 0 0, .slice none 0 0, .slice none 0 0] 33)) := ⟨_, rfl⟩
  have HW : Hid (((w.alloc (.cells #[.slice la live.length lc, .slice sa safe.length sc, .slice oa ops.length oc] 33)).alloc (.cells #[.slice none 0 0, .slice none 0 0, .slice none 0 0] 33)) = w0) := hide hwa.symm
  have KX0 : Hid (Blk w.heap.size [.slice la live.length lc, .slice sa safe.length sc, .slice oa ops.length oc] w0) := hide (by rw [hwa]; exact Blk.new.alloc _)
  have KR0 : Hid (Blk (w.heap.size + 1) [.slice none 0 0, .slice none 0 0, .slice none 0 0] w0) := hide (by rw [hwa]; exact (by simpa using Blk.new (w := w.alloc (.cells #[.slice la live.length lc, .slice sa safe.length sc, .slice oa ops.length oc] 33)) (cur := [.slice none 0 0, .slice none 0 0, .slice none 0 0]) (T := 33)))
  have HX0 : Hid (Below w.heap.size w w0 ∧ w.heap.size + 2 ≤ w0.heap.size) := hide ⟨by rw [hwa]; exact below_alloc (below_alloc (Below.refl _ _) _) _, by rw [hwa]; simp⟩
  clear hwa
  go_enter Tryz.func15, Tryz.ntmps15
  go_wp2_with fail
  rw [HW.out]
  have hd0 := HL.out.below HX0.out.1
  refine (specDiskOk_any la sa oa lc sc oc live safe ops w0 HM.out.1.1 HM.out.2.1.1 HM.out.2.2.1 HM.out.1.f HM.out.2.1.f HM.out.2.2.2 HC.out.2.1 hd0.r1 hd0.r2 hd0.r3).mono ?_
  rintro e w1 ⟨rfl, hb1⟩
  clear hd0
  have HX1 : Hid (Below w.heap.size w w1 ∧ w.heap.size + 2 ≤ w1.heap.size) := hide ⟨below_trans HX0.out.1 hb1, Nat.le_trans HX0.out.2 hb1.size⟩
  have KX1 : Hid _ := hide (KX0.out.below hb1)
  have KR1 : Hid _ := hide (KR0.out.below hb1)
  clear hb1 KX0 KR0 HX0
  cases hB : diskB ⟨live, safe, ops⟩
  · have e1 : crsB live safe ops keep torn = false := by simp [crsB, hB]
    have e2 := crs_no e1
    have HE : Hid (DiskK (crsB live safe ops keep torn) (crsL live safe ops keep torn) (crsL live safe ops keep torn) [] w (.returned (.tuple #[.agg #[.slice none 0 0, .slice none 0 0, .slice none 0 0], .bool false])) (((w1.setCell ⟨w.heap.size + 1, 0, none⟩ (.slice none 0 0)).setCell ⟨w.heap.size + 1, 1, none⟩ (.slice none 0 0)).setCell ⟨w.heap.size + 1, 2, none⟩ (.slice none 0 0))) := hide (by
      rw [e1, e2]
      exact kzero HX1.out.1)
    have HS : Hid (∃ Y, (((w1.setCell ⟨w.heap.size + 1, 0, none⟩ (.slice none 0 0)).setCell ⟨w.heap.size + 1, 1, none⟩ (.slice none 0 0)).setCell ⟨w.heap.size + 1, 2, none⟩ (.slice none 0 0)) = Y ∧ Blk (w.heap.size + 1) [.slice none 0 0, .slice none 0 0, .slice none 0 0] Y) := hide ⟨_, rfl, (((KR1.out).set 0 (.slice none 0 0) (by simp)).set 1 (.slice none 0 0) (by simp)).set 2 (.slice none 0 0) (by simp)⟩
    have y0 := (KR1.out).c 0 _ rfl
    have y1 := (KR1.out).c 1 _ rfl
    have y2 := (KR1.out).c 2 _ rfl
    have f0 := (KR1.out).f 0
    have f1 := (KR1.out).f 1
    have f2 := (KR1.out).f 2
    go_wp2
    obtain ⟨Y, hY, kY⟩ := HS.out
    rw [hY] at HE ⊢
    have z0 := kY.c 0 _ rfl
    have z1 := kY.c 1 _ rfl
    have z2 := kY.c 2 _ rfl
    exact bodyPost_ret (v := .tuple #[.agg #[.slice none 0 0, .slice none 0 0, .slice none 0 0], .bool false]) (by simp [results, Tryz.results15, go_sem, z0, z1, z2]) rfl HE.out
  · by_cases ht : torn < 0
    · have e1 : crsB live safe ops keep torn = false := by simp [crsB, show ¬ 0 ≤ torn by omega]
      have e2 := crs_no e1
      have HE : Hid (DiskK (crsB live safe ops keep torn) (crsL live safe ops keep torn) (crsL live safe ops keep torn) [] w (.returned (.tuple #[.agg #[.slice none 0 0, .slice none 0 0, .slice none 0 0], .bool false])) (((w1.setCell ⟨w.heap.size + 1, 0, none⟩ (.slice none 0 0)).setCell ⟨w.heap.size + 1, 1, none⟩ (.slice none 0 0)).setCell ⟨w.heap.size + 1, 2, none⟩ (.slice none 0 0))) := hide (by
        rw [e1, e2]
        exact kzero HX1.out.1)
      have HS : Hid (∃ Y, (((w1.setCell ⟨w.heap.size + 1, 0, none⟩ (.slice none 0 0)).setCell ⟨w.heap.size + 1, 1, none⟩ (.slice none 0 0)).setCell ⟨w.heap.size + 1, 2, none⟩ (.slice none 0 0)) = Y ∧ Blk (w.heap.size + 1) [.slice none 0 0, .slice none 0 0, .slice none 0 0] Y) := hide ⟨_, rfl, (((KR1.out).set 0 (.slice none 0 0) (by simp)).set 1 (.slice none 0 0) (by simp)).set 2 (.slice none 0 0) (by simp)⟩
      have y0 := (KR1.out).c 0 _ rfl
      have y1 := (KR1.out).c 1 _ rfl
      have y2 := (KR1.out).c 2 _ rfl
      have f0 := (KR1.out).f 0
      have f1 := (KR1.out).f 1
      have f2 := (KR1.out).f 2
      go_wp2
      obtain ⟨Y, hY, kY⟩ := HS.out
      rw [hY] at HE ⊢
      have z0 := kY.c 0 _ rfl
      have z1 := kY.c 1 _ rfl
      have z2 := kY.c 2 _ rfl
      exact bodyPost_ret (v := .tuple #[.agg #[.slice none 0 0, .slice none 0 0, .slice none 0 0], .bool false]) (by simp [results, Tryz.results15, go_sem, z0, z1, z2]) rfl HE.out
    · have HB : Hid _ := hide hB
      have HOL : Hid (ops.length ≤ 200) := hide (diskB_parts hB).2.2
      have ho2 : ops.length ≤ 1048576 := HZ.out.2.2
      have hw1 := wrap_less ho2
      clear hB
      go_wp2
      go_loopw [8] (fun i wr => ∃ k : Nat, k ≤ keep.length ∧ i = .int .i64 (k : Int) ∧ Hid (allTo (plB keep ops.length) k = true) ∧ Hid (Below w.heap.size w wr ∧ w.heap.size + 2 ≤ wr.heap.size) ∧ Hid (Blk w.heap.size [.slice la live.length lc, .slice sa safe.length sc, .slice oa ops.length oc] wr) ∧ Hid (Blk (w.heap.size + 1) [.slice none 0 0, .slice none 0 0, .slice none 0 0] wr)) (fun i wr => keep.length - (intOf i).toNat)
      case atStart => exact ⟨0, Nat.zero_le _, rfl, hide rfl, HX1, KX1, KR1⟩
      case round =>
        clear HX1 KX1 KR1
        obtain ⟨k, hk, rfl, HG, HX, KX, KR⟩ := hrel
        by_cases hlt : k < keep.length
        · have hlt' : (k : Int) < (keep.length : Int) := by omega
          obtain ⟨b, off, rfl, hb, c0⟩ := pl_row (HP.out.below HX.out.1) k hlt
          have d0 := later_cell c0
          have d1 := later_cell (KX.out.c 2 _ rfl)
          have hne : Nonempty (Later wr) := later_there _
          by_cases hz : k = 0
          · have hz' : ¬ (0 : Int) < (k : Int) := by omega
            have hzd : decide (0 < k) = false := decide_eq_false (by omega)
            cases q : inB 0 ((ops.length : Int) - 1) keep[k]
            · have HR : Hid (placesB keep ops.length = false) := hide (places_no hlt (by subst hz; rw [pl_zero hlt]; exact q))
              clear hz
              go_wp2_with fail
              refine wp_region_later wr (by kernel_rfl) (by kernel_rfl) ((Below.refl _ _).drew) ?_
              repeat (go_big_quiet_step (first | (go_at_call 39; exact later_val q (later_same (l1In_any _ _ _ _)))))
              refine wpQuiet_nil ?_
              intro _ hw'
              obtain ⟨nx, rfl⟩ := hw'
              obtain ⟨xw, hxw⟩ : ∃ xw, xw = nx.w := ⟨_, rfl⟩
              have hbx : Below wr.heap.size wr xw := hxw ▸ nx.below
              rw [← hxw]
              clear hxw d0 d1 hne
              have e1 : crsB live safe ops keep torn = false := by simp [crsB, HR.out]
              have e2 := crs_no e1
              have HE : Hid (DiskK (crsB live safe ops keep torn) (crsL live safe ops keep torn) (crsL live safe ops keep torn) [] w (.returned (.tuple #[.agg #[.slice none 0 0, .slice none 0 0, .slice none 0 0], .bool false])) (((xw.setCell ⟨w.heap.size + 1, 0, none⟩ (.slice none 0 0)).setCell ⟨w.heap.size + 1, 1, none⟩ (.slice none 0 0)).setCell ⟨w.heap.size + 1, 2, none⟩ (.slice none 0 0))) := hide (by
                rw [e1, e2]
                exact kzero (below_trans HX.out.1 hbx))
              have HS : Hid (∃ Y, (((xw.setCell ⟨w.heap.size + 1, 0, none⟩ (.slice none 0 0)).setCell ⟨w.heap.size + 1, 1, none⟩ (.slice none 0 0)).setCell ⟨w.heap.size + 1, 2, none⟩ (.slice none 0 0)) = Y ∧ Blk (w.heap.size + 1) [.slice none 0 0, .slice none 0 0, .slice none 0 0] Y) := hide ⟨_, rfl, ((((KR.out.below hbx)).set 0 (.slice none 0 0) (by simp)).set 1 (.slice none 0 0) (by simp)).set 2 (.slice none 0 0) (by simp)⟩
              have y0 := ((KR.out.below hbx)).c 0 _ rfl
              have y1 := ((KR.out.below hbx)).c 1 _ rfl
              have y2 := ((KR.out.below hbx)).c 2 _ rfl
              have f0 := ((KR.out.below hbx)).f 0
              have f1 := ((KR.out.below hbx)).f 1
              have f2 := ((KR.out.below hbx)).f 2
              go_wp2
              obtain ⟨Y, hY, kY⟩ := HS.out
              rw [hY] at HE ⊢
              have z0 := kY.c 0 _ rfl
              have z1 := kY.c 1 _ rfl
              have z2 := kY.c 2 _ rfl
              exact bodyPost_ret (v := .tuple #[.agg #[.slice none 0 0, .slice none 0 0, .slice none 0 0], .bool false]) (by simp [results, Tryz.results15, go_sem, z0, z1, z2]) rfl HE.out
            · have HG2 : Hid (allTo (plB keep ops.length) (k + 1) = true) := hide (allTo_step HG.out (by subst hz; rw [pl_zero hlt]; exact q))
              clear hz
              go_wp2_with fail
              refine wp_region_later wr (by kernel_rfl) (by kernel_rfl) ((Below.refl _ _).drew) ?_
              repeat (go_big_quiet_step (first | (go_at_call 39; exact later_val q (later_same (l1In_any _ _ _ _)))))
              refine wpQuiet_nil ?_
              intro _ hw'
              obtain ⟨nx, rfl⟩ := hw'
              obtain ⟨xw, hxw⟩ : ∃ xw, xw = nx.w := ⟨_, rfl⟩
              have hbx : Below wr.heap.size wr xw := hxw ▸ nx.below
              rw [← hxw]
              clear hxw d0 d1 hne
              have HX2 : Hid (Below w.heap.size w xw ∧ w.heap.size + 2 ≤ xw.heap.size) := hide ⟨below_trans HX.out.1 hbx, Nat.le_trans HX.out.2 hbx.size⟩
              have KX2 : Hid _ := hide (KX.out.below hbx)
              have KR2 : Hid _ := hide (KR.out.below hbx)
              clear hbx nx
              go_wp2
              exact ⟨⟨k + 1, by omega, by go_num, HG2, HX2, KX2, KR2⟩, by simp [intOf]; omega⟩
          · obtain ⟨m, hmk⟩ : ∃ m, k = m + 1 := ⟨k - 1, by omega⟩
            have hm3 : m < keep.length := by omega
            obtain ⟨b', off', heq, hb', p0⟩ := pl_row (HP.out.below HX.out.1) m hm3
            simp only [Option.some.injEq, Addr.mk.injEq, and_true] at heq
            obtain ⟨rfl, rfl⟩ := heq
            have d2 := later_cell p0
            have hz' : (0 : Int) < (k : Int) := by omega
            have hzd : decide (0 < k) = true := decide_eq_true (by omega)
            have hm1 : IntKind.i64.wrap ((k : Int) - 1) = (m : Int) := wrap_pred hmk (by omega)
            have hm2 : (m : Int) < (keep.length : Int) := by omega
            have hpl : plB keep ops.length k = (inB 0 ((ops.length : Int) - 1) keep[k] && decide (keep[m] < keep[k])) := by subst hmk; exact pl_succ hlt
            by_cases q2 : keep[m] < keep[k]
            · have q3 : ¬ keep[k] ≤ keep[m] := by omega
              cases q : inB 0 ((ops.length : Int) - 1) keep[k]
              · have HR : Hid (placesB keep ops.length = false) := hide (places_no hlt (by rw [hpl, q]; rfl))
                clear hz hmk hpl
                go_wp2_with fail
                refine wp_region_later wr (by kernel_rfl) (by kernel_rfl) ((Below.refl _ _).drew) ?_
                repeat (go_big_quiet_step (first | (go_at_call 39; exact later_val q (later_same (l1In_any _ _ _ _)))))
                refine wpQuiet_nil ?_
                intro _ hw'
                obtain ⟨nx, rfl⟩ := hw'
                obtain ⟨xw, hxw⟩ : ∃ xw, xw = nx.w := ⟨_, rfl⟩
                have hbx : Below wr.heap.size wr xw := hxw ▸ nx.below
                rw [← hxw]
                clear hxw d0 d1 hne
                have e1 : crsB live safe ops keep torn = false := by simp [crsB, HR.out]
                have e2 := crs_no e1
                have HE : Hid (DiskK (crsB live safe ops keep torn) (crsL live safe ops keep torn) (crsL live safe ops keep torn) [] w (.returned (.tuple #[.agg #[.slice none 0 0, .slice none 0 0, .slice none 0 0], .bool false])) (((xw.setCell ⟨w.heap.size + 1, 0, none⟩ (.slice none 0 0)).setCell ⟨w.heap.size + 1, 1, none⟩ (.slice none 0 0)).setCell ⟨w.heap.size + 1, 2, none⟩ (.slice none 0 0))) := hide (by
                  rw [e1, e2]
                  exact kzero (below_trans HX.out.1 hbx))
                have HS : Hid (∃ Y, (((xw.setCell ⟨w.heap.size + 1, 0, none⟩ (.slice none 0 0)).setCell ⟨w.heap.size + 1, 1, none⟩ (.slice none 0 0)).setCell ⟨w.heap.size + 1, 2, none⟩ (.slice none 0 0)) = Y ∧ Blk (w.heap.size + 1) [.slice none 0 0, .slice none 0 0, .slice none 0 0] Y) := hide ⟨_, rfl, ((((KR.out.below hbx)).set 0 (.slice none 0 0) (by simp)).set 1 (.slice none 0 0) (by simp)).set 2 (.slice none 0 0) (by simp)⟩
                have y0 := ((KR.out.below hbx)).c 0 _ rfl
                have y1 := ((KR.out.below hbx)).c 1 _ rfl
                have y2 := ((KR.out.below hbx)).c 2 _ rfl
                have f0 := ((KR.out.below hbx)).f 0
                have f1 := ((KR.out.below hbx)).f 1
                have f2 := ((KR.out.below hbx)).f 2
                go_wp2
                obtain ⟨Y, hY, kY⟩ := HS.out
                rw [hY] at HE ⊢
                have z0 := kY.c 0 _ rfl
                have z1 := kY.c 1 _ rfl
                have z2 := kY.c 2 _ rfl
                exact bodyPost_ret (v := .tuple #[.agg #[.slice none 0 0, .slice none 0 0, .slice none 0 0], .bool false]) (by simp [results, Tryz.results15, go_sem, z0, z1, z2]) rfl HE.out
              · have HG2 : Hid (allTo (plB keep ops.length) (k + 1) = true) := hide (allTo_step HG.out (by rw [hpl, q, decide_eq_true q2]; rfl))
                clear hz hmk hpl
                go_wp2_with fail
                refine wp_region_later wr (by kernel_rfl) (by kernel_rfl) ((Below.refl _ _).drew) ?_
                repeat (go_big_quiet_step (first | (go_at_call 39; exact later_val q (later_same (l1In_any _ _ _ _)))))
                refine wpQuiet_nil ?_
                intro _ hw'
                obtain ⟨nx, rfl⟩ := hw'
                obtain ⟨xw, hxw⟩ : ∃ xw, xw = nx.w := ⟨_, rfl⟩
                have hbx : Below wr.heap.size wr xw := hxw ▸ nx.below
                rw [← hxw]
                clear hxw d0 d1 hne
                have HX2 : Hid (Below w.heap.size w xw ∧ w.heap.size + 2 ≤ xw.heap.size) := hide ⟨below_trans HX.out.1 hbx, Nat.le_trans HX.out.2 hbx.size⟩
                have KX2 : Hid _ := hide (KX.out.below hbx)
                have KR2 : Hid _ := hide (KR.out.below hbx)
                clear hbx nx
                go_wp2
                exact ⟨⟨k + 1, by omega, by go_num, HG2, HX2, KX2, KR2⟩, by simp [intOf]; omega⟩
            · have q3 : keep[k] ≤ keep[m] := by omega
              have HR : Hid (placesB keep ops.length = false) := hide (places_no hlt (by rw [hpl, decide_eq_false q2, Bool.and_false]))
              clear hz hmk hpl
              cases q : inB 0 ((ops.length : Int) - 1) keep[k]
              · skip
                go_wp2_with fail
                refine wp_region_later wr (by kernel_rfl) (by kernel_rfl) ((Below.refl _ _).drew) ?_
                repeat (go_big_quiet_step (first | (go_at_call 39; exact later_val q (later_same (l1In_any _ _ _ _)))))
                refine wpQuiet_nil ?_
                intro _ hw'
                obtain ⟨nx, rfl⟩ := hw'
                obtain ⟨xw, hxw⟩ : ∃ xw, xw = nx.w := ⟨_, rfl⟩
                have hbx : Below wr.heap.size wr xw := hxw ▸ nx.below
                rw [← hxw]
                clear hxw d0 d1 hne
                have e1 : crsB live safe ops keep torn = false := by simp [crsB, HR.out]
                have e2 := crs_no e1
                have HE : Hid (DiskK (crsB live safe ops keep torn) (crsL live safe ops keep torn) (crsL live safe ops keep torn) [] w (.returned (.tuple #[.agg #[.slice none 0 0, .slice none 0 0, .slice none 0 0], .bool false])) (((xw.setCell ⟨w.heap.size + 1, 0, none⟩ (.slice none 0 0)).setCell ⟨w.heap.size + 1, 1, none⟩ (.slice none 0 0)).setCell ⟨w.heap.size + 1, 2, none⟩ (.slice none 0 0))) := hide (by
                  rw [e1, e2]
                  exact kzero (below_trans HX.out.1 hbx))
                have HS : Hid (∃ Y, (((xw.setCell ⟨w.heap.size + 1, 0, none⟩ (.slice none 0 0)).setCell ⟨w.heap.size + 1, 1, none⟩ (.slice none 0 0)).setCell ⟨w.heap.size + 1, 2, none⟩ (.slice none 0 0)) = Y ∧ Blk (w.heap.size + 1) [.slice none 0 0, .slice none 0 0, .slice none 0 0] Y) := hide ⟨_, rfl, ((((KR.out.below hbx)).set 0 (.slice none 0 0) (by simp)).set 1 (.slice none 0 0) (by simp)).set 2 (.slice none 0 0) (by simp)⟩
                have y0 := ((KR.out.below hbx)).c 0 _ rfl
                have y1 := ((KR.out.below hbx)).c 1 _ rfl
                have y2 := ((KR.out.below hbx)).c 2 _ rfl
                have f0 := ((KR.out.below hbx)).f 0
                have f1 := ((KR.out.below hbx)).f 1
                have f2 := ((KR.out.below hbx)).f 2
                go_wp2
                obtain ⟨Y, hY, kY⟩ := HS.out
                rw [hY] at HE ⊢
                have z0 := kY.c 0 _ rfl
                have z1 := kY.c 1 _ rfl
                have z2 := kY.c 2 _ rfl
                exact bodyPost_ret (v := .tuple #[.agg #[.slice none 0 0, .slice none 0 0, .slice none 0 0], .bool false]) (by simp [results, Tryz.results15, go_sem, z0, z1, z2]) rfl HE.out
              · skip
                go_wp2_with fail
                refine wp_region_later wr (by kernel_rfl) (by kernel_rfl) ((Below.refl _ _).drew) ?_
                repeat (go_big_quiet_step (first | (go_at_call 39; exact later_val q (later_same (l1In_any _ _ _ _)))))
                refine wpQuiet_nil ?_
                intro _ hw'
                obtain ⟨nx, rfl⟩ := hw'
                obtain ⟨xw, hxw⟩ : ∃ xw, xw = nx.w := ⟨_, rfl⟩
                have hbx : Below wr.heap.size wr xw := hxw ▸ nx.below
                rw [← hxw]
                clear hxw d0 d1 hne
                have e1 : crsB live safe ops keep torn = false := by simp [crsB, HR.out]
                have e2 := crs_no e1
                have HE : Hid (DiskK (crsB live safe ops keep torn) (crsL live safe ops keep torn) (crsL live safe ops keep torn) [] w (.returned (.tuple #[.agg #[.slice none 0 0, .slice none 0 0, .slice none 0 0], .bool false])) (((xw.setCell ⟨w.heap.size + 1, 0, none⟩ (.slice none 0 0)).setCell ⟨w.heap.size + 1, 1, none⟩ (.slice none 0 0)).setCell ⟨w.heap.size + 1, 2, none⟩ (.slice none 0 0))) := hide (by
                  rw [e1, e2]
                  exact kzero (below_trans HX.out.1 hbx))
                have HS : Hid (∃ Y, (((xw.setCell ⟨w.heap.size + 1, 0, none⟩ (.slice none 0 0)).setCell ⟨w.heap.size + 1, 1, none⟩ (.slice none 0 0)).setCell ⟨w.heap.size + 1, 2, none⟩ (.slice none 0 0)) = Y ∧ Blk (w.heap.size + 1) [.slice none 0 0, .slice none 0 0, .slice none 0 0] Y) := hide ⟨_, rfl, ((((KR.out.below hbx)).set 0 (.slice none 0 0) (by simp)).set 1 (.slice none 0 0) (by simp)).set 2 (.slice none 0 0) (by simp)⟩
                have y0 := ((KR.out.below hbx)).c 0 _ rfl
                have y1 := ((KR.out.below hbx)).c 1 _ rfl
                have y2 := ((KR.out.below hbx)).c 2 _ rfl
                have f0 := ((KR.out.below hbx)).f 0
                have f1 := ((KR.out.below hbx)).f 1
                have f2 := ((KR.out.below hbx)).f 2
                go_wp2
                obtain ⟨Y, hY, kY⟩ := HS.out
                rw [hY] at HE ⊢
                have z0 := kY.c 0 _ rfl
                have z1 := kY.c 1 _ rfl
                have z2 := kY.c 2 _ rfl
                exact bodyPost_ret (v := .tuple #[.agg #[.slice none 0 0, .slice none 0 0, .slice none 0 0], .bool false]) (by simp [results, Tryz.results15, go_sem, z0, z1, z2]) rfl HE.out
        · have hk' : ¬ (k : Int) < (keep.length : Int) := by omega
          have HPL : Hid (placesB keep ops.length = true) := hide (by
            have h1 := HG.out
            rw [show k = keep.length by omega] at h1
            exact h1)
          obtain ⟨i0, hi0, hz0, hz1, hz2⟩ := info_parts infoF
          have hu := huF
          have HF : Hid (filesB safe = true) := hide (diskB_parts HB.out).2.1
          have hs60 : safe.length ≤ 60 := (filesB_parts HF.out).1
          have bw : Below wr.heap.size wr (wr.alloc (.cells #[] 85)) := below_alloc (Below.refl _ _) _
          have x1 := (KX.out.below bw).c 1 _ rfl
          have HN : Hid _ := hide (HL.out.r2.news_any flLen (by decide))
          have HBW : Hid _ := hide bw
          clear HG bw
          go_wp2_with (first | (at_builtin; refine Shut2.mk ?_) | fail)
          refine Shut2.mk' ?_
          refine wpList_append_any rfl _ _ 30 rfl wr.heap.size 85 i0 _ 2 32 hu hi0 hz0 hz1 hz2 rfl (by decide) (.slice (some ⟨wr.heap.size, 0, none⟩) 0 0) 0 [] rfl (World.ownsRow_made wr #[] 0 (Nat.le_refl _) (by unfold maxLen; omega) rfl) sa safe.length sc (safe.flatMap flCells) rfl (flat_len flCells 2 flLen safe) (fun e => ⟨row_none HL.out.r2 e, HC.out.2.1 e⟩) (fun ad had j u hj => below_keeps (below_trans HX.out.1 HBW.out) _ _ (HN.out ad had j u hj)) (fl_one safe) (by unfold maxLen; omega) (by omega) HBW.out.size ?_
          intro v2 w2 ho2 hg2 _
          rw [Nat.zero_add, List.nil_append] at ho2
          have hb2 : Below wr.heap.size wr w2 := below_grown hg2 HBW.out (fun j hj => by cases hj; exact Nat.le_refl _)
          have HX2 : Hid (Below w.heap.size w w2 ∧ w.heap.size + 2 ≤ wr.heap.size ∧ wr.heap.size ≤ w2.heap.size) := hide ⟨below_trans HX.out.1 hb2, HX.out.2, hb2.size⟩
          have KX2 : Hid _ := hide (KX.out.below hb2)
          have KR2 : Hid _ := hide (KR.out.below hb2)
          have HO2 : Hid (w2.ownsRow wr.heap.size 85 2 v2 (goL safe ((crsO ops keep torn).take 0)).length ((goL safe ((crsO ops keep torn).take 0)).flatMap flCells)) := hide (by simpa [goL] using ho2)
          have ek : k = keep.length := by omega
          clear ho2 hg2 hb2 HX KX KR x1 HBW HN hk' hk hlt
          subst ek
          generalize wr.heap.size = B at *
          go_wp2
          go_loopw [9, 10] (fun nv i wr => ∃ k : Nat, k ≤ keep.length ∧ i = .int .i64 (k : Int) ∧ Hid (Below w.heap.size w wr ∧ w.heap.size + 2 ≤ B ∧ B ≤ wr.heap.size) ∧ Hid (Blk w.heap.size [.slice la live.length lc, .slice sa safe.length sc, .slice oa ops.length oc] wr) ∧ Hid (Blk (w.heap.size + 1) [.slice none 0 0, .slice none 0 0, .slice none 0 0] wr) ∧ Hid (wr.ownsRow B 85 2 nv (goL safe ((crsO ops keep torn).take k)).length ((goL safe ((crsO ops keep torn).take k)).flatMap flCells))) (fun nv i wr => keep.length - (intOf i).toNat)
          case atStart => exact ⟨0, Nat.zero_le _, rfl, HX2, KX2, KR2, HO2⟩
          case round =>
            clear HX2 KX2 KR2 HO2
            obtain ⟨k, hk, rfl, HX, KX, KR, HO⟩ := hrel
            by_cases hlt : k < keep.length
            · have hlt' : (k : Int) < (keep.length : Int) := by omega
              obtain ⟨b, off, rfl, hb, c0⟩ := pl_row (HP.out.below HX.out.1) k hlt
              obtain ⟨n, hn, hno⟩ := pl_in HPL.out hlt
              have hno' : (n : Int) < (ops.length : Int) := by omega
              obtain ⟨b2, off2, rfl, hb2, q0, q1, q2, q3⟩ := dp_row (HL.out.r3.below HX.out.1) n hno
              rw [hn] at c0
              have HC0 : Hid _ := hide (And.intro c0 (And.intro q0 (And.intro q1 (And.intro q2 q3))))
              have HNN : Hid _ := hide hn
              clear c0 q0 q1 q2 q3 hn hb hb2
              go_wp2_with fail
              rename_i hK0
              refine wp_region_inv (by kernel_rfl) (fun L act x => ∃ l0 l1 l2 l3 l4 l5 l6 l7 l8 l9 : Bool, ∃ u11 u63 u64 u65 u66 u67 u68 u69 u70 : Value, L = #[l0, l1, l2, l3, l4, l5, l6, l7, l8, l9] ∧ act = { tmps := #[Value.agg #[Value.slice la live.length lc, Value.slice sa safe.length sc, Value.slice (some { block := b2, off := off2 }) ops.length oc], Value.slice (some { block := b, off := off }) keep.length kc, Value.int IntKind.i64 torn, Value.pointer (some { block := w.heap.size, off := 0 }), undef, undef, Value.pointer (some { block := w.heap.size + 1, off := 0 }), u7, Value.int IntKind.i64 ↑keep.length, u9, Value.int IntKind.i64 ↑k, u11, Value.agg #[Value.slice la live.length lc, Value.slice sa safe.length sc, Value.slice (some { block := b2, off := off2 }) ops.length oc], Value.bool true, Value.bool false, Value.bool false, Value.int IntKind.i64 torn, Value.bool (decide (torn < 0)), Value.bool (decide (torn < 0)), undef, Value.int IntKind.i64 ↑keep.length, Value.slice (some { block := b, off := off }) keep.length kc, Value.int IntKind.i64 ↑keep.length, Value.bool false, u24, u25, u26, u27, u28, u29, u30, u31, u32, u33, u34, u35, u36, u37, u38, u39, u40, u41, u42, u43, u44, u45, u46, u47, u48, u49, u50, u51, u52, Value.slice (some { block := B, off := 0 }) 0 0, Value.pointer (some { block := w.heap.size, off := 1 }), Value.slice sa safe.length sc, v2, Value.int IntKind.i64 ↑k, Value.slice (some { block := b, off := off }) keep.length kc, Value.int IntKind.i64 ↑keep.length, Value.bool true, u61, u62, u63, u64, u65, u66, u67, u68, u69, u70, u71, u72, u73, u74, u75, u76, u77, u78, u79, u80, u81, u82, u83, u84, u85, u86, u87, u88, u89, u90, u91, u92, u93, u94, u95, u96, u97, u98, undef, undef, undef, undef, undef, undef, undef, undef, undef], defers := [] } ∧ CrF w.heap.size k n b off b2 off2 keep.length kc oc ops.length wr ops[n] l0 l1 l2 l3 l4 l5 l6 l7 l8 l9 u11 u63 u64 u65 u66 u67 u68 u69 u70 x) ?_ ?_ ?_
              rotate_left 2
              · exact ⟨false, false, false, false, false, false, false, false, false, false, (u11), (u63), (u64), (u65), (u66), (u67), (u68), (u69), (u70), rfl, rfl, ⟨(Below.refl _ _).drew, fun _ => rfl, fun q => (by cases q), fun q => (by cases q), fun q => (by cases q), fun q => (by cases q), fun q => (by cases q), fun q => (by cases q), fun q => (by cases q), fun q => (by cases q), fun q => (by cases q), fun q => (by cases q), fun q => (by cases q), fun q => (by cases q)⟩⟩
              · rintro L act x i ⟨l0, l1, l2, l3, l4, l5, l6, l7, l8, l9, u11, u63, u64, u65, u66, u67, u68, u69, u70, rfl, rfl, h⟩ hi K hK
                have hi15 : i < 10 := by
                  obtain ⟨_, o, ho, _⟩ := mem_ready.1 hi
                  exact (Array.getElem?_eq_some_iff.1 ho).1
                have hl := (mem_ready.1 hi).1
                obtain rfl | rfl | rfl | rfl | rfl | rfl | rfl | rfl | rfl | rfl := (by omega : i = 0 ∨ i = 1 ∨ i = 2 ∨ i = 3 ∨ i = 4 ∨ i = 5 ∨ i = 6 ∨ i = 7 ∨ i = 8 ∨ i = 9)
                · have e : l0 = false := hl
                  subst e
                  refine wpOp_run (v := .pointer (some ⟨w.heap.size, 2, none⟩)) (w' := x) (by rfl) (by rfl) ?_ (hK _ _ ⟨true, l1, l2, l3, l4, l5, l6, l7, l8, l9, u11, (.pointer (some ⟨w.heap.size, 2, none⟩)), u64, u65, u66, u67, u68, u69, u70, rfl, rfl, { h with p63 := fun _ => rfl }⟩)
                  go_simp
                · have e : l1 = false := hl
                  subst e
                  have d0 : l0 = true := ready_on hi 0 (by kernel_rfl)
                  subst d0
                  have kx := KX.out.below h.bel
                  have x2 := kx.c 2 _ rfl
                  refine wpOp_run (v := .slice (some ⟨b2, off2, none⟩) ops.length oc) (w' := x) (by rfl) (by rfl) ?_ (hK _ _ ⟨true, true, l2, l3, l4, l5, l6, l7, l8, l9, u11, u63, (.slice (some ⟨b2, off2, none⟩) ops.length oc), u65, u66, u67, u68, u69, u70, rfl, rfl, { h with p64 := fun _ => rfl }⟩)
                  rw [h.p63 rfl]
                  go_simp
                · have e : l2 = false := hl
                  subst e
                  refine wpOp_run (v := .slice (some ⟨b, off, none⟩) keep.length kc) (w' := x) (by rfl) (by rfl) ?_ (hK _ _ ⟨l0, l1, true, l3, l4, l5, l6, l7, l8, l9, u11, u63, u64, (.slice (some ⟨b, off, none⟩) keep.length kc), u66, u67, u68, u69, u70, rfl, rfl, { h with p65 := fun _ => rfl }⟩)
                  go_simp
                · have e : l3 = false := hl
                  subst e
                  refine wpOp_run (v := .int .i64 (k : Int)) (w' := x) (by rfl) (by rfl) ?_ (hK _ _ ⟨l0, l1, l2, true, l4, l5, l6, l7, l8, l9, u11, u63, u64, u65, (.int .i64 (k : Int)), u67, u68, u69, u70, rfl, rfl, { h with p66 := fun _ => rfl }⟩)
                  go_simp
                · have e : l4 = false := hl
                  subst e
                  have d2 : l2 = true := ready_on hi 2 (by kernel_rfl)
                  subst d2
                  have d3 : l3 = true := ready_on hi 3 (by kernel_rfl)
                  subst d3
                  refine wpOp_run (v := .pointer (some ⟨b, off + k, none⟩)) (w' := x) (by rfl) (by rfl) ?_ (hK _ _ ⟨l0, l1, true, true, true, l5, l6, l7, l8, l9, u11, u63, u64, u65, u66, (.pointer (some ⟨b, off + k, none⟩)), u68, u69, u70, rfl, rfl, { h with p67 := fun _ => rfl }⟩)
                  rw [h.p65 rfl, h.p66 rfl]
                  go_simp
                · have e : l5 = false := hl
                  subst e
                  have d4 : l4 = true := ready_on hi 4 (by kernel_rfl)
                  subst d4
                  have c0 := below_keeps h.bel _ _ HC0.out.1
                  refine wpOp_run (v := .int .i64 (n : Int)) (w' := x) (by rfl) (by rfl) ?_ (hK _ _ ⟨l0, l1, l2, l3, true, true, l6, l7, l8, l9, u11, u63, u64, u65, u66, u67, (.int .i64 (n : Int)), u69, u70, rfl, rfl, { h with p68 := fun _ => rfl }⟩)
                  rw [h.p67 rfl]
                  go_simp
                · have e : l6 = false := hl
                  subst e
                  have d1 : l1 = true := ready_on hi 1 (by kernel_rfl)
                  subst d1
                  have d5 : l5 = true := ready_on hi 5 (by kernel_rfl)
                  subst d5
                  refine wpOp_run (v := .pointer (some ⟨b2, off2 + n * 4, none⟩)) (w' := x) (by rfl) (by rfl) ?_ (hK _ _ ⟨l0, true, l2, l3, l4, true, true, l7, l8, l9, u11, u63, u64, u65, u66, u67, u68, (.pointer (some ⟨b2, off2 + n * 4, none⟩)), u70, rfl, rfl, { h with p69 := fun _ => rfl }⟩)
                  rw [h.p64 rfl, h.p68 rfl]
                  go_simp
                · have e : l7 = false := hl
                  subst e
                  have d6 : l6 = true := ready_on hi 6 (by kernel_rfl)
                  subst d6
                  have c0 := below_keeps h.bel _ _ HC0.out.2.1
                  have c1 := below_keeps h.bel _ _ HC0.out.2.2.1
                  have c2 := below_keeps h.bel _ _ HC0.out.2.2.2.1
                  have c3 := below_keeps h.bel _ _ HC0.out.2.2.2.2
                  refine wpOp_run (v := .agg #[.int .i64 (ops[n]).kind, .string (ops[n]).nm, .string (ops[n]).tn, .string (ops[n]).da]) (w' := x) (by rfl) (by rfl) ?_ (hK _ _ ⟨l0, l1, l2, l3, l4, l5, true, true, l8, l9, u11, u63, u64, u65, u66, u67, u68, u69, (.agg #[.int .i64 (ops[n]).kind, .string (ops[n]).nm, .string (ops[n]).tn, .string (ops[n]).da]), rfl, rfl, { h with p70 := fun _ => rfl }⟩)
                  rw [h.p69 rfl]
                  go_simp
                · have e : l8 = false := hl
                  subst e
                  refine wpOp_run (v := .pointer (some ⟨x.heap.size, 0, none⟩)) (w' := x.alloc (.cells #[.int .i64 0, .string ⟨#[]⟩, .string ⟨#[]⟩, .string ⟨#[]⟩] 37)) (by rfl) (by rfl) ?_ (hK _ _ ⟨l0, l1, l2, l3, l4, l5, l6, l7, true, l9, (.pointer (some ⟨x.heap.size, 0, none⟩)), u63, u64, u65, u66, u67, u68, u69, u70, rfl, rfl, h.st8⟩)
                  go_simp
                · have e : l9 = false := hl
                  subst e
                  have d0 : l0 = true := ready_on hi 0 (by kernel_rfl)
                  subst d0
                  have d1 : l1 = true := ready_on hi 1 (by kernel_rfl)
                  subst d1
                  have d2 : l2 = true := ready_on hi 2 (by kernel_rfl)
                  subst d2
                  have d3 : l3 = true := ready_on hi 3 (by kernel_rfl)
                  subst d3
                  have d4 : l4 = true := ready_on hi 4 (by kernel_rfl)
                  subst d4
                  have d5 : l5 = true := ready_on hi 5 (by kernel_rfl)
                  subst d5
                  have d6 : l6 = true := ready_on hi 6 (by kernel_rfl)
                  subst d6
                  have d7 : l7 = true := ready_on hi 7 (by kernel_rfl)
                  subst d7
                  have d8 : l8 = true := ready_on hi 8 (by kernel_rfl)
                  subst d8
                  have R := h.az rfl rfl
                  have r0 := R.c 0 _ rfl
                  have f0 := R.f 0
                  have r1 := R.c 1 _ rfl
                  have f1 := R.f 1
                  have r2 := R.c 2 _ rfl
                  have f2 := R.f 2
                  have r3 := R.c 3 _ rfl
                  have f3 := R.f 3
                  refine wpOp_skip (w' := ((((x.setCell ⟨wr.heap.size, 0, none⟩ (.int .i64 (ops[n]).kind)).setCell ⟨wr.heap.size, 1, none⟩ (.string (ops[n]).nm)).setCell ⟨wr.heap.size, 2, none⟩ (.string (ops[n]).tn)).setCell ⟨wr.heap.size, 3, none⟩ (.string (ops[n]).da))) (by rfl) (by rfl) ?_ (hK _ _ ⟨true, true, true, true, true, true, true, true, true, true, u11, u63, u64, u65, u66, u67, u68, u69, u70, rfl, rfl, h.st9⟩)
                  rw [h.al rfl, h.p70 rfl]
                  go_simp
              · rintro L act x ⟨l0, l1, l2, l3, l4, l5, l6, l7, l8, l9, u11, u63, u64, u65, u66, u67, u68, u69, u70, rfl, rfl, h⟩ hr
                have hall := ready_all hr rfl (by decide)
                have t0 : l0 = true := hall 0 (by decide)
                have t1 : l1 = true := hall 1 (by decide)
                have t2 : l2 = true := hall 2 (by decide)
                have t3 : l3 = true := hall 3 (by decide)
                have t4 : l4 = true := hall 4 (by decide)
                have t5 : l5 = true := hall 5 (by decide)
                have t6 : l6 = true := hall 6 (by decide)
                have t7 : l7 = true := hall 7 (by decide)
                have t8 : l8 = true := hall 8 (by decide)
                have t9 : l9 = true := hall 9 (by decide)
                subst t0 t1 t2 t3 t4 t5 t6 t7 t8 t9
                clear hall hr
                have hbx := h.bel
                have KP : Hid _ := hide (h.fin rfl)
                have eu := h.al rfl
                subst eu
                have HBX : Hid _ := hide hbx
                have HNN2 := HNN.out
                have HLN : Hid (k < (crsO ops keep torn).length) := hide (by rw [crs_len]; exact hlt)
                obtain ⟨na, nc, rfl, hrow, hnn⟩ := own_read HO.out
                have HNC : Hid _ := hide hnn
                have HRW : Hid (∀ y, Below wr.heap.size wr y → RowAt 2 flCells y na (goL safe ((crsO ops keep torn).take k))) := hide (fun y hy => hrow.below hy)
                have HST : Hid (∀ (y : World) (v : Value) (o' : Dp), Below wr.heap.size wr y → (crsO ops keep torn)[k]? = some o' → y.ownsRow B 85 2 v (doL (goL safe ((crsO ops keep torn).take k)) o').1.length ((doL (goL safe ((crsO ops keep torn).take k)) o').1.flatMap flCells) → Hid (Below w.heap.size w y ∧ w.heap.size + 2 ≤ B ∧ B ≤ y.heap.size) ∧ Hid (Blk w.heap.size [.slice la live.length lc, .slice sa safe.length sc, .slice (some ⟨b2, off2, none⟩) ops.length oc] y) ∧ Hid (Blk (w.heap.size + 1) [.slice none 0 0, .slice none 0 0, .slice none 0 0] y) ∧ Hid (y.ownsRow B 85 2 v (goL safe ((crsO ops keep torn).take (k + 1))).length ((goL safe ((crsO ops keep torn).take (k + 1))).flatMap flCells))) := hide (fun y v o' hy ho' hw => ⟨hide ⟨below_trans HX.out.1 hy, HX.out.2.1, Nat.le_trans HX.out.2.2 hy.size⟩, hide (KX.out.below hy), hide (KR.out.below hy), hide (by
                  have e : goL safe ((crsO ops keep torn).take (k + 1)) = (doL (goL safe ((crsO ops keep torn).take k)) o').1 := by
                    rw [goL_next _ _ k HLN.out]
                    rw [List.getElem?_eq_getElem HLN.out] at ho'
                    simp only [Option.some.injEq] at ho'
                    rw [ho']
                  rw [e]; exact hw)⟩)
                have HBB : Hid (B ≤ wr.heap.size) := hide HX.out.2.2
                have HBD : Hid _ := hide (goL_bd (filesB_srt HF.out) (filesB_parts HF.out).2.2 hs60 (crsO ops keep torn) (fun o ho => (crs_small HB.out HPL.out o ho).2) k (Nat.le_of_lt HLN.out))
                have HNM : Hid _ := hide (goL_nms (crsO ops keep torn) (fun f hf => filesB_nms HF.out f hf) (fun o ho => (crs_small HB.out HPL.out o ho).1) k (Nat.le_of_lt HLN.out))
                have HKL : Hid (keep.length ≤ 200) := hide (Nat.le_trans (places_len HPL.out) HOL.out)
                have HSG : Hid (SmG (goL safe ((crsO ops keep torn).take k))) := hide (fun f hf => by
                  have h1 := HNM.out f hf
                  have h2 := datL_mem hf
                  have h3 := HBD.out.2.2
                  have h4 := HKL.out
                  simp only [nmB, inB, decide_eq_true_eq] at h1
                  exact ⟨by omega, by omega⟩)
                have HG4 : Hid ((goL safe ((crsO ops keep torn).take k)).length ≤ 400) := hide (by have := HBD.out.2.1; have := HKL.out; omega)
                have HAT : Hid _ := hide (crs_at (torn := torn) hlt HNN2 hno)
                have HSO : Hid (SmO ops[n]) := hide (HM.out.2.2.2 _ (List.getElem_mem hno))
                have k0 := KP.out.c 0 _ rfl
                have k1 := KP.out.c 1 _ rfl
                have k2 := KP.out.c 2 _ rfl
                have k3 := KP.out.c 3 _ rfl
                have f3 := KP.out.f 3
                have HN0 : Hid (n < ops.length) := hide hno
                have HS6 : Hid (safe.length ≤ 60) := hide hs60
                have hw2 := wrap_less hk0
                clear h hbx HX KX KR HO HC0 hrow hnn HBD HNM HLN HNN2 HNN hs60 hno'
                generalize (goL safe ((crsO ops keep torn).take k)) = Gk at *
                generalize ops[n] = op at *
                by_cases hla : k + 1 = keep.length
                · have hl1 : ((k : Int) == (keep.length : Int) - 1) = true := by simp; omega
                  have hl2 : (k : Int) = (keep.length : Int) - 1 := by omega
                  by_cases hki : op.kind = 1
                  · by_cases hto : torn < (op.da.size : Int)
                    · have HSO2 : Hid (SmO { op with da := op.da.extract 0 torn.toNat }) := hide ⟨HSO.out.1, HSO.out.2.1, by have := HSO.out.2.2; simp; omega⟩
                      have HB5 : Hid (Below wr.heap.size wr (x.setCell ⟨wr.heap.size, 3, none⟩ (.string (op.da.extract 0 torn.toNat)))) := hide (HBX.out.setCell (p := ⟨wr.heap.size, 3, none⟩) (Nat.le_refl _) _)
                      have HLA : Hid _ := hide hla
                      have HL2 : Hid _ := hide hl2
                      have HKI : Hid _ := hide hki
                      have hkb : (op.kind == 1) = true := by simpa using hki
                      have ht0 : 0 ≤ torn := by omega
                      have ht1 : torn ≤ (op.da.size : Int) := by omega
                      clear hla hl2 hki
                      refine hK0 _ _ ?_
                      go_wp2_with fail
                      refine (l8Do_any na Gk nc { op with da := op.da.extract 0 torn.toNat } _ HG4.out HNC.out HSG.out HSO2.out (HRW.out _ HB5.out)).mono ?_
                      rintro e x2 ⟨hb4, v4, rfl, ho4⟩
                      obtain ⟨HX4, KX4, KR4, HO4⟩ := HST.out x2 v4 { op with da := op.da.extract 0 torn.toNat } (below_trans HB5.out hb4) (HAT.out.trans (by rw [if_pos HLA.out, tornO, if_pos ⟨HKI.out, hto⟩])) (own_mono ho4 (Nat.le_trans HBB.out (HB5.out).size))
                      clear hb4 ho4 k0 k1 k2 k3 f3 HST HRW HAT
                      generalize (doL Gk { op with da := op.da.extract 0 torn.toNat }).2 = db at *
                      go_wp2
                      exact ⟨⟨k + 1, by omega, by go_num, HX4, KX4, KR4, HO4⟩, by simp [intOf]; omega⟩
                    · have hkb : (op.kind == 1) = true := by simpa using hki
                      have HKI : Hid _ := hide hki
                      have HLA : Hid _ := hide hla
                      have HL2 : Hid _ := hide hl2
                      clear hki hla hl2
                      refine hK0 _ _ ?_
                      go_wp2_with fail
                      refine (l8Do_any na Gk nc op x HG4.out HNC.out HSG.out HSO.out (HRW.out _ HBX.out)).mono ?_
                      rintro e x2 ⟨hb4, v4, rfl, ho4⟩
                      obtain ⟨HX4, KX4, KR4, HO4⟩ := HST.out x2 v4 op (below_trans HBX.out hb4) (HAT.out.trans (by rw [if_pos HLA.out, tornO, if_neg (fun z => by have := z.2; omega)])) (own_mono ho4 (Nat.le_trans HBB.out (HBX.out).size))
                      clear hb4 ho4 k0 k1 k2 k3 f3 HST HRW HAT
                      generalize (doL Gk op).2 = db at *
                      go_wp2
                      exact ⟨⟨k + 1, by omega, by go_num, HX4, KX4, KR4, HO4⟩, by simp [intOf]; omega⟩
                  · have hkb : (op.kind == 1) = false := by simpa using hki
                    have HKI : Hid _ := hide hki
                    have HLA : Hid _ := hide hla
                    have HL2 : Hid _ := hide hl2
                    clear hki hla hl2
                    refine hK0 _ _ ?_
                    go_wp2_with fail
                    refine (l8Do_any na Gk nc op x HG4.out HNC.out HSG.out HSO.out (HRW.out _ HBX.out)).mono ?_
                    rintro e x2 ⟨hb4, v4, rfl, ho4⟩
                    obtain ⟨HX4, KX4, KR4, HO4⟩ := HST.out x2 v4 op (below_trans HBX.out hb4) (HAT.out.trans (by rw [if_pos HLA.out]; simp [tornO, HKI.out])) (own_mono ho4 (Nat.le_trans HBB.out (HBX.out).size))
                    clear hb4 ho4 k0 k1 k2 k3 f3 HST HRW HAT
                    generalize (doL Gk op).2 = db at *
                    go_wp2
                    exact ⟨⟨k + 1, by omega, by go_num, HX4, KX4, KR4, HO4⟩, by simp [intOf]; omega⟩
                · have hl1 : ((k : Int) == (keep.length : Int) - 1) = false := by simp; omega
                  have HLA : Hid _ := hide hla
                  clear hla
                  refine hK0 _ _ ?_
                  go_wp2_with fail
                  refine (l8Do_any na Gk nc op x HG4.out HNC.out HSG.out HSO.out (HRW.out _ HBX.out)).mono ?_
                  rintro e x2 ⟨hb4, v4, rfl, ho4⟩
                  obtain ⟨HX4, KX4, KR4, HO4⟩ := HST.out x2 v4 op (below_trans HBX.out hb4) (HAT.out.trans (by rw [if_neg HLA.out])) (own_mono ho4 (Nat.le_trans HBB.out (HBX.out).size))
                  clear hb4 ho4 k0 k1 k2 k3 f3 HST HRW HAT
                  generalize (doL Gk op).2 = db at *
                  go_wp2
                  exact ⟨⟨k + 1, by omega, by go_num, HX4, KX4, KR4, HO4⟩, by simp [intOf]; omega⟩
            · have hlt' : ¬ (k : Int) < (keep.length : Int) := by omega
              have ek : k = keep.length := by omega
              subst ek
              have eT : (crsO ops keep torn).take keep.length = crsO ops keep torn := List.take_of_length_le (by rw [crs_len]; exact Nat.le_refl _)
              rw [eT] at HO
              have HBD : Hid _ := hide (goL_bd (filesB_srt HF.out) (filesB_parts HF.out).2.2 hs60 (crsO ops keep torn) (fun o ho => (crs_small HB.out HPL.out o ho).2) keep.length (by rw [crs_len]; exact Nat.le_refl _))
              have HNM : Hid _ := hide (goL_nms (crsO ops keep torn) (fun f hf => filesB_nms HF.out f hf) (fun o ho => (crs_small HB.out HPL.out o ho).1) keep.length (by rw [crs_len]; exact Nat.le_refl _))
              rw [eT] at HBD HNM
              have HKL : Hid (keep.length ≤ 200) := hide (Nat.le_trans (places_len HPL.out) HOL.out)
              have HSG : Hid (SmG (goL safe (crsO ops keep torn))) := hide (fun f hf => by
                have h1 := HNM.out f hf
                have h2 := datL_mem hf
                have h3 := HBD.out.2.2
                have h4 := HKL.out
                simp only [nmB, inB, decide_eq_true_eq] at h1
                exact ⟨by omega, by omega⟩)
              have hG4 : (goL safe (crsO ops keep torn)).length ≤ 400 := by have := HBD.out.2.1; have := HKL.out; omega
              have HC1 : Hid (∀ b, filesB (goL safe (crsO ops keep torn)) = b → crsB live safe ops keep torn = b) := hide (fun b q => by simp [crsB, HB.out, HPL.out, q, show 0 ≤ torn by omega])
              have HC2 : Hid (filesB (goL safe (crsO ops keep torn)) = true → crsL live safe ops keep torn = goL safe (crsO ops keep torn)) := hide (fun q => by simp [crsL, HC1.out true q])
              have HC3 : Hid (filesB (goL safe (crsO ops keep torn)) = false → crsL live safe ops keep torn = []) := hide (fun q => crs_no (HC1.out false q))
              obtain ⟨na, nc, rfl, hrow, hnn⟩ := own_read HO.out
              have HRW : Hid _ := hide hrow
              have HNC : Hid _ := hide hnn
              clear hrow hnn eT HBD HNM hs60
              generalize goL safe (crsO ops keep torn) = G at *
              go_wp2_with fail
              refine (l8Files_any na G nc wr (by omega) HSG.out HRW.out).mono ?_
              rintro e x1 ⟨rfl, hb1⟩
              have HX1 : Hid (Below w.heap.size w x1 ∧ w.heap.size + 2 ≤ B ∧ B ≤ x1.heap.size) := hide ⟨below_trans HX.out.1 hb1, HX.out.2.1, Nat.le_trans HX.out.2.2 hb1.size⟩
              have KR1 : Hid _ := hide (KR.out.below hb1)
              have HO1 : Hid _ := hide (own_keep HO.out hb1)
              have HRW1 : Hid _ := hide (HRW.out.below hb1)
              clear hb1 HX KX KR HO HRW
              cases hff : filesB G
              · have e1 : crsB live safe ops keep torn = false := HC1.out false hff
                have e2 := HC3.out hff
                have HE : Hid (DiskK (crsB live safe ops keep torn) (crsL live safe ops keep torn) (crsL live safe ops keep torn) [] w (.returned (.tuple #[.agg #[.slice none 0 0, .slice none 0 0, .slice none 0 0], .bool false])) (((x1.setCell ⟨w.heap.size + 1, 0, none⟩ (.slice none 0 0)).setCell ⟨w.heap.size + 1, 1, none⟩ (.slice none 0 0)).setCell ⟨w.heap.size + 1, 2, none⟩ (.slice none 0 0))) := hide (by
                  rw [e1, e2]
                  exact kzero (HX1.out.1))
                have HS : Hid (∃ Y, (((x1.setCell ⟨w.heap.size + 1, 0, none⟩ (.slice none 0 0)).setCell ⟨w.heap.size + 1, 1, none⟩ (.slice none 0 0)).setCell ⟨w.heap.size + 1, 2, none⟩ (.slice none 0 0)) = Y ∧ Blk (w.heap.size + 1) [.slice none 0 0, .slice none 0 0, .slice none 0 0] Y) := hide ⟨_, rfl, (((KR1.out).set 0 (.slice none 0 0) (by simp)).set 1 (.slice none 0 0) (by simp)).set 2 (.slice none 0 0) (by simp)⟩
                have y0 := (KR1.out).c 0 _ rfl
                have y1 := (KR1.out).c 1 _ rfl
                have y2 := (KR1.out).c 2 _ rfl
                have f0 := (KR1.out).f 0
                have f1 := (KR1.out).f 1
                have f2 := (KR1.out).f 2
                clear e1 e2
                go_wp2
                obtain ⟨Y, hY, kY⟩ := HS.out
                rw [hY] at HE ⊢
                have z0 := kY.c 0 _ rfl
                have z1 := kY.c 1 _ rfl
                have z2 := kY.c 2 _ rfl
                exact bodyPost_ret (v := .tuple #[.agg #[.slice none 0 0, .slice none 0 0, .slice none 0 0], .bool false]) (by simp [results, Tryz.results15, go_sem, z0, z1, z2]) rfl HE.out
              · have HCC : Hid _ := hide (And.intro (HC1.out true hff) (HC2.out hff))
                have bw : Below x1.heap.size x1 (x1.alloc (.cells #[] 85)) := below_alloc (Below.refl _ _) _
                have HBW : Hid _ := hide bw
                have HN : Hid _ := hide ((HRW1.out.below bw).news_any flLen (by decide))
                have HZZ : Hid (na = none → G.length = 0 ∧ nc = 0) := hide (fun e => ⟨row_none HRW1.out e, HNC.out e⟩)
                clear hff bw
                go_wp2_with (first | (at_builtin; refine Shut2.mk ?_) | fail)
                refine Shut2.mk' ?_
                refine wpList_append_any rfl _ _ 30 rfl x1.heap.size 85 i0 _ 2 32 hu hi0 hz0 hz1 hz2 rfl (by decide) (.slice (some ⟨x1.heap.size, 0, none⟩) 0 0) 0 [] rfl (World.ownsRow_made x1 #[] 0 (Nat.le_refl _) (by unfold maxLen; omega) rfl) na G.length nc (G.flatMap flCells) rfl (flat_len flCells 2 flLen G) HZZ.out (fun ad had j u hj => HN.out ad had j u hj) (fl_one G) (by unfold maxLen; omega) (by omega) HBW.out.size ?_
                intro v6 w6 ho6 hg6 _
                rw [Nat.zero_add, List.nil_append] at ho6
                have hb6 : Below x1.heap.size x1 w6 := below_grown hg6 HBW.out (fun j hj => by cases hj; exact Nat.le_refl _)
                have KR6 : Hid _ := hide (KR1.out.below hb6)
                have HE : Hid (DiskK (crsB live safe ops keep torn) (crsL live safe ops keep torn) (crsL live safe ops keep torn) [] w (.returned (.tuple #[.agg #[.slice na G.length nc, v6, .slice none 0 0], .bool true])) (((w6.setCell ⟨w.heap.size + 1, 0, none⟩ (.slice na G.length nc)).setCell ⟨w.heap.size + 1, 1, none⟩ (v6)).setCell ⟨w.heap.size + 1, 2, none⟩ (.slice none 0 0))) := hide (by
                  rw [HCC.out.1, HCC.out.2]
                  have l1 := HX1.out.2.1
                  have l2 := HX1.out.2.2
                  have R : RowsD B G G [] (.slice na G.length nc) v6 (.slice none 0 0) w6 := ⟨own_keep HO1.out hb6, own_mono ho6 l2, ⟨by simp, .inl ⟨rfl, rfl⟩⟩, (fun g hg hg' => by
                    have h1 := (HO1.out.lt g hg).2
                    have h2 := (ho6.lt g hg').1
                    omega), fun g hg hg' => (by cases hg'), fun g hg hg' => (by cases hg')⟩
                  exact ⟨(((below_trans HX1.out.1 hb6).setCell (p := ⟨w.heap.size + 1, 0, none⟩) (by show w.heap.size ≤ w.heap.size + 1; omega) _).setCell (p := ⟨w.heap.size + 1, 1, none⟩) (by show w.heap.size ≤ w.heap.size + 1; omega) _).setCell (p := ⟨w.heap.size + 1, 2, none⟩) (by show w.heap.size ≤ w.heap.size + 1; omega) _, _, _, _, rfl, (((R.set (by omega)).set (by omega)).set (by omega)).mono (by omega)⟩)
                have HS : Hid (∃ Y, (((w6.setCell ⟨w.heap.size + 1, 0, none⟩ (.slice na G.length nc)).setCell ⟨w.heap.size + 1, 1, none⟩ (v6)).setCell ⟨w.heap.size + 1, 2, none⟩ (.slice none 0 0)) = Y ∧ Blk (w.heap.size + 1) [.slice na G.length nc, v6, .slice none 0 0] Y) := hide ⟨_, rfl, (((KR6.out).set 0 (.slice na G.length nc) (by simp)).set 1 (v6) (by simp)).set 2 (.slice none 0 0) (by simp)⟩
                have y0 := KR6.out.c 0 _ rfl
                have y1 := KR6.out.c 1 _ rfl
                have y2 := KR6.out.c 2 _ rfl
                have f0 := KR6.out.f 0
                have f1 := KR6.out.f 1
                have f2 := KR6.out.f 2
                obtain ⟨qa, qc, rfl⟩ := row_shape ho6
                clear ho6 hg6 hb6
                go_wp2
                obtain ⟨Y, hY, kY⟩ := HS.out
                rw [hY] at HE ⊢
                have z0 := kY.c 0 _ rfl
                have z1 := kY.c 1 _ rfl
                have z2 := kY.c 2 _ rfl
                exact bodyPost_ret (v := .tuple #[.agg #[.slice na G.length nc, .slice qa G.length qc, .slice none 0 0], .bool true]) (by simp [results, Tryz.results15, go_sem, z0, z1, z2]) rfl HE.out
end Go.Proofs.YtacbcmgpknhgdaaGreat
