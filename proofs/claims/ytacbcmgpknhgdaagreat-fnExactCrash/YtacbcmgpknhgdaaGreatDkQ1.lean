/- Replace as data; the model's Replace. -/
import Derived.Test.YtacbcmgpknhgdaaGreatDkR0
namespace Go.Proofs.YtacbcmgpknhgdaaGreat
open Go.ChangeShapes Go.WideShapes Go.ChangeAt Go.RowKit
set_option linter.unusedVariables false
set_option maxRecDepth 100000
def fresh (nm : ByteArray) : ByteArray := nm ++ ⟨#[46, 110, 101, 119]⟩
def oRem (nm : ByteArray) : Dp := ⟨3, fresh nm, ⟨#[]⟩, ⟨#[]⟩⟩
def oApp (nm da : ByteArray) : Dp := ⟨1, fresh nm, ⟨#[]⟩, da⟩
def oRen (nm : ByteArray) : Dp := ⟨2, fresh nm, nm, ⟨#[]⟩⟩
def rOps (live : List Fl) (nm da : ByteArray) : List Dp := (if (fndS live (fresh nm)).2 then [oRem nm] else []) ++ [oApp nm da, oRen nm]
def actR : List Fl → List Dp → List Dp → List Fl × List Dp × Int
  | l, os, [] => (l, os, 0)
  | l, os, o :: t => if actC l os o = 0 then actR (actL l os o) (actO l os o) t else (l, os, actC l os o)
theorem actR_no {l : List Fl} {os t : List Dp} {o : Dp} (h : ¬ actC l os o = 0) : (actR l os (o :: t)).2.2 = actC l os o := by simp [actR, h]
theorem actR_yes {l : List Fl} {os t : List Dp} {o : Dp} (h : actC l os o = 0) : actR l os (o :: t) = actR (actL l os o) (actO l os o) t := by simp [actR, h]
def repC (live safe : List Fl) (ops : List Dp) (nm da : ByteArray) : Int := bif diskB ⟨live, safe, ops⟩ then (actR live ops (rOps live nm da)).2.2 else 1
def repL (live safe : List Fl) (ops : List Dp) (nm da : ByteArray) : List Fl := bif diskB ⟨live, safe, ops⟩ then (if (actR live ops (rOps live nm da)).2.2 = 0 then (actR live ops (rOps live nm da)).1 else live) else []
def repS (live safe : List Fl) (ops : List Dp) (nm da : ByteArray) : List Fl := bif diskB ⟨live, safe, ops⟩ then safe else []
def repO (live safe : List Fl) (ops : List Dp) (nm da : ByteArray) : List Dp := bif diskB ⟨live, safe, ops⟩ then (if (actR live ops (rOps live nm da)).2.2 = 0 then (actR live ops (rOps live nm da)).2.1 else ops) else []
theorem rep_no {live safe : List Fl} {ops : List Dp} {nm da : ByteArray} (h : diskB ⟨live, safe, ops⟩ = false) : repC live safe ops nm da = 1 ∧ repL live safe ops nm da = [] ∧ repS live safe ops nm da = [] ∧ repO live safe ops nm da = [] := by simp [repC, repL, repS, repO, h]
theorem rep_bad {live safe : List Fl} {ops : List Dp} {nm da : ByteArray} {c : Int} (h : diskB ⟨live, safe, ops⟩ = true) (hc : (actR live ops (rOps live nm da)).2.2 = c) (hn : ¬ c = 0) : repC live safe ops nm da = c ∧ repL live safe ops nm da = live ∧ repS live safe ops nm da = safe ∧ repO live safe ops nm da = ops := by
  subst hc
  simp [repC, repL, repS, repO, h, hn]
theorem rep_good {live safe : List Fl} {ops O : List Dp} {L : List Fl} {nm da : ByteArray} (h : diskB ⟨live, safe, ops⟩ = true) (hc : actR live ops (rOps live nm da) = (L, O, 0)) : repC live safe ops nm da = 0 ∧ repL live safe ops nm da = L ∧ repS live safe ops nm da = safe ∧ repO live safe ops nm da = O := by simp [repC, repL, repS, repO, h, hc]
theorem fresh_size (nm : ByteArray) : (fresh nm).size = nm.size + 4 := by simp [fresh, ByteArray.size_append]; rfl
theorem sm_rem {nm : ByteArray} (h : nm.size ≤ 1048576) : SmO (oRem nm) := ⟨by show (fresh nm).size ≤ _; rw [fresh_size]; omega, by show (0 : Nat) ≤ _; omega, by show (0 : Nat) ≤ _; omega⟩
theorem sm_app {nm da : ByteArray} (h : nm.size ≤ 1048576) (hd : da.size ≤ 1048576) : SmO (oApp nm da) := ⟨by show (fresh nm).size ≤ _; rw [fresh_size]; omega, by show (0 : Nat) ≤ _; omega, by show da.size ≤ _; omega⟩
theorem sm_ren {nm : ByteArray} (h : nm.size ≤ 1048576) : SmO (oRen nm) := ⟨by show (fresh nm).size ≤ _; rw [fresh_size]; omega, by show nm.size ≤ _; omega, by show (0 : Nat) ≤ _; omega⟩
theorem act_files {live : List Fl} {ops : List Dp} {o : Dp} (hf : filesB live = true) (hc : actC live ops o = 0) : filesB (actL live ops o) = true ∧ (actO live ops o).length = ops.length + 1 := by
  rw [(act_yes hc).1, (act_yes hc).2]
  rcases did_act (ops := ops) (o := o) hf with ⟨_, a⟩ | ⟨_, a⟩ | ⟨_, a⟩ | ⟨_, _, _, f⟩
  · rw [a] at hc; cases hc
  · rw [a] at hc; cases hc
  · rw [a] at hc; cases hc
  · exact ⟨f, by simp⟩
theorem at_has {l : List Fl} {nm : ByteArray} : decide (0 ≤ ixV (atL l nm)) = (fndS l nm).2 := by
  unfold fndS
  cases h : atL l nm with
  | none => simp [ixV]
  | some k => simp [ixV]
theorem disk_end2 {w y : World} {base : Nat} {c : Int} {L S : List Fl} {O : List Dp} {u1 u2 u3 : Value} (hy : Below w.heap.size w y) (hs : w.heap.size + 2 ≤ base) (h : RowsD base L S O u1 u2 u3 y) :
    DiskC c L S O w (.returned (.tuple #[.agg #[u1, u2, u3], .int .i64 c])) (((y.setCell ⟨w.heap.size + 1, 0, none⟩ (u1)).setCell ⟨w.heap.size + 1, 1, none⟩ (u2)).setCell ⟨w.heap.size + 1, 2, none⟩ (u3)) :=
  ⟨((hy.setCell (p := ⟨w.heap.size + 1, 0, none⟩) (by show w.heap.size ≤ w.heap.size + 1; omega) _).setCell (p := ⟨w.heap.size + 1, 1, none⟩) (by show w.heap.size ≤ w.heap.size + 1; omega) _).setCell (p := ⟨w.heap.size + 1, 2, none⟩) (by show w.heap.size ≤ w.heap.size + 1; omega) _, u1, u2, u3, rfl, (((h.set (by omega)).set (by omega)).set (by omega)).mono (by omega)⟩
theorem disk_zero2 {w y : World} {c : Int} (hy : Below w.heap.size w y) :
    DiskC c [] [] [] w (.returned (.tuple #[.agg #[.slice none 0 0, .slice none 0 0, .slice none 0 0], .int .i64 c])) (((y.setCell ⟨w.heap.size + 1, 0, none⟩ (.slice none 0 0)).setCell ⟨w.heap.size + 1, 1, none⟩ (.slice none 0 0)).setCell ⟨w.heap.size + 1, 2, none⟩ (.slice none 0 0)) :=
  ⟨((hy.setCell (p := ⟨w.heap.size + 1, 0, none⟩) (by show w.heap.size ≤ w.heap.size + 1; omega) _).setCell (p := ⟨w.heap.size + 1, 1, none⟩) (by show w.heap.size ≤ w.heap.size + 1; omega) _).setCell (p := ⟨w.heap.size + 1, 2, none⟩) (by show w.heap.size ≤ w.heap.size + 1; omega) _, _, _, _, rfl, ⟨⟨by simp, .inl ⟨rfl, rfl⟩⟩, ⟨by simp, .inl ⟨rfl, rfl⟩⟩, ⟨by simp, .inl ⟨rfl, rfl⟩⟩, fun g hg => (by cases hg), fun g hg => (by cases hg), fun g hg => (by cases hg)⟩⟩
theorem dkAt_caps {base : Nat} {L S : List Fl} {O : List Dp} {a1 a2 a3 : Option Addr} {n1 n2 n3 c1 c2 c3 : Nat} {x : World} (h : RowsD base L S O (.slice a1 n1 c1) (.slice a2 n2 c2) (.slice a3 n3 c3) x) : (a1 = none → c1 = 0) ∧ (a2 = none → c2 = 0) ∧ (a3 = none → c3 = 0) := ⟨nil_cap h.r1, nil_cap h.r2, nil_cap h.r3⟩
set_option maxHeartbeats 16000000 in
theorem specReplace_any (la sa oa : Option Addr) (lc sc oc : Nat) (live safe : List Fl) (ops : List Dp) (nm da : ByteArray) (w : World) (hm : SmD live safe ops) (hnm : nm.size ≤ 1048576) (hda : da.size ≤ 1048576) (hc1 : la = none → lc = 0) (hc2 : sa = none → sc = 0) (hc3 : oa = none → oc = 0) (h : DkAt w la sa oa live safe ops) :
    Calls Tryz.prog 20 #[.agg #[.slice la live.length lc, .slice sa safe.length sc, .slice oa ops.length oc], .string nm, .string da] w fun e w' => DiskC (repC live safe ops nm da) (repL live safe ops nm da) (repS live safe ops nm da) (repO live safe ops nm da) w e w' := by
  have HL : Hid _ := hide h
  have HM : Hid _ := hide hm
  have HNM : Hid _ := hide (And.intro hnm hda)
  have HC : Hid ((la = none → lc = 0) ∧ (sa = none → sc = 0) ∧ (oa = none → oc = 0)) := hide ⟨hc1, hc2, hc3⟩
  have HZ : Hid (live.length ≤ 1048576 ∧ safe.length ≤ 1048576 ∧ ops.length ≤ 1048576) := hide ⟨hm.1.1, hm.2.1.1, hm.2.2.1⟩
  clear h hm hnm hda hc1 hc2 hc3
  obtain ⟨w0, hwa⟩ : ∃ wa, wa = ((w.alloc (.cells #[.slice la live.length lc, .slice sa safe.length sc, .slice oa ops.length oc] 33)).alloc (.cells #[.slice none 0 0, .slice none 0 0, .slice none 0 0] 33)) := ⟨_, rfl⟩
  have HW : Hid (((w.alloc (.cells #[.slice la live.length lc, .slice sa safe.length sc, .slice oa ops.length oc] 33)).alloc (.cells #[.slice none 0 0, .slice none 0 0, .slice none 0 0] 33)) = w0) := hide hwa.symm
  have KX0 : Hid (Blk w.heap.size [.slice la live.length lc, .slice sa safe.length sc, .slice oa ops.length oc] w0) := hide (by rw [hwa]; exact Blk.new.alloc _)
  have KR0 : Hid (Blk (w.heap.size + 1) [.slice none 0 0, .slice none 0 0, .slice none 0 0] w0) := hide (by rw [hwa]; exact (by simpa using Blk.new (w := w.alloc (.cells #[.slice la live.length lc, .slice sa safe.length sc, .slice oa ops.length oc] 33)) (cur := [.slice none 0 0, .slice none 0 0, .slice none 0 0]) (T := 33)))
  have HX0 : Hid (Below w.heap.size w w0 ∧ w.heap.size + 2 ≤ w0.heap.size) := hide ⟨by rw [hwa]; exact below_alloc (below_alloc (Below.refl _ _) _) _, by rw [hwa]; simp⟩
  clear hwa
  go_enter Tryz.func20, Tryz.ntmps20
  go_wp2_with fail
  rw [HW.out]
  have hd0 := HL.out.below HX0.out.1
  refine (specDiskOk_any la sa oa lc sc oc live safe ops w0 HM.out.1.1 HM.out.2.1.1 HM.out.2.2.1 HM.out.1.f HM.out.2.1.f HM.out.2.2.2 HC.out.2.1 hd0.r1 hd0.r2 hd0.r3).mono ?_
  rintro e w1 ⟨rfl, hb1⟩
  clear hd0
  have HX1 : Hid (Below w.heap.size w w1 ∧ w.heap.size + 2 ≤ w1.heap.size) := hide ⟨below_trans HX0.out.1 hb1, Nat.le_trans HX0.out.2 hb1.size⟩
  have KX1 : Hid _ := hide (KX0.out.below hb1)
  have KR1 : Hid _ := hide (KR0.out.below hb1)
  clear hb1 KX0 KR0 HX0
  have x0 := KX1.out.c 0 _ rfl
  have x1 := KX1.out.c 1 _ rfl
  have x2 := KX1.out.c 2 _ rfl
  cases hB : diskB ⟨live, safe, ops⟩
  · obtain ⟨e1, e2, e3, e4⟩ := rep_no (nm := nm) (da := da) hB
    have HE : Hid (DiskC (repC live safe ops nm da) (repL live safe ops nm da) (repS live safe ops nm da) (repO live safe ops nm da) w (.returned (.tuple #[.agg #[.slice none 0 0, .slice none 0 0, .slice none 0 0], .int .i64 1])) (((w1.setCell ⟨w.heap.size + 1, 0, none⟩ (.slice none 0 0)).setCell ⟨w.heap.size + 1, 1, none⟩ (.slice none 0 0)).setCell ⟨w.heap.size + 1, 2, none⟩ (.slice none 0 0))) := hide (by
        rw [e1, e2, e3, e4]
        exact disk_zero2 HX1.out.1)
    have HS : Hid (∃ Y, (((w1.setCell ⟨w.heap.size + 1, 0, none⟩ (.slice none 0 0)).setCell ⟨w.heap.size + 1, 1, none⟩ (.slice none 0 0)).setCell ⟨w.heap.size + 1, 2, none⟩ (.slice none 0 0)) = Y ∧ Blk (w.heap.size + 1) [.slice none 0 0, .slice none 0 0, .slice none 0 0] Y) := hide ⟨_, rfl, (((KR1.out).set 0 (.slice none 0 0) (by simp)).set 1 (.slice none 0 0) (by simp)).set 2 (.slice none 0 0) (by simp)⟩
    have y0 := (KR1.out).c 0 _ rfl
    have y1 := (KR1.out).c 1 _ rfl
    have y2 := (KR1.out).c 2 _ rfl
    have f0 := (KR1.out).f 0
    have f1 := (KR1.out).f 1
    have f2 := (KR1.out).f 2
    go_wp2
    obtain ⟨Y, hY, kY⟩ := HS.out
    rw [hY] at HE ⊢
    have z0 := kY.c 0 _ rfl
    have z1 := kY.c 1 _ rfl
    have z2 := kY.c 2 _ rfl
    exact bodyPost_ret (v := .tuple #[.agg #[.slice none 0 0, .slice none 0 0, .slice none 0 0], .int .i64 1]) (by simp [results, Tryz.results20, go_sem, z0, z1, z2]) rfl HE.out
  · obtain ⟨q1, q2, q3⟩ := diskB_parts hB
    have HFA : Hid _ := hide q1
    have HNA : Hid (ops.length ≤ 200) := hide q3
    have HB : Hid _ := hide hB
    have bw : Below w1.heap.size w1 (w1.alloc (.cells #[.slice la live.length lc, .slice sa safe.length sc, .slice oa ops.length oc] 33)) := below_alloc (Below.refl _ _) _
    have HXA : Hid (Below w.heap.size w (w1.alloc (.cells #[.slice la live.length lc, .slice sa safe.length sc, .slice oa ops.length oc] 33)) ∧ w.heap.size + 2 ≤ w1.heap.size ∧ w1.heap.size < (w1.alloc (.cells #[.slice la live.length lc, .slice sa safe.length sc, .slice oa ops.length oc] 33)).heap.size) := hide ⟨below_trans HX1.out.1 bw, HX1.out.2, by simp⟩
    have KXA : Hid _ := hide (KX1.out.below bw)
    have KRA : Hid _ := hide (KR1.out.below bw)
    have K8A : Hid (Blk w1.heap.size [.slice la live.length lc, .slice sa safe.length sc, .slice oa ops.length oc] (w1.alloc (.cells #[.slice la live.length lc, .slice sa safe.length sc, .slice oa ops.length oc] 33))) := hide Blk.new
    have HCA := HC
    clear bw KX1 KR1 HX1 q1 q2 q3 hB
    have xa0 := KXA.out.c 0 _ rfl
    have hnm := HNM.out.1
    go_wp2_with fail
    obtain ⟨wA, hwA⟩ : ∃ wA, wA = (w1.alloc (.cells #[.slice la live.length lc, .slice sa safe.length sc, .slice oa ops.length oc] 33)) := ⟨_, rfl⟩
    rw [← hwA] at HXA KXA KRA K8A xa0 ⊢
    clear hwA hnm
    have HDA : Hid (DkAt wA la sa oa live safe ops) := hide (HL.out.below HXA.out.1)
    refine (l8At_any la live lc (fresh nm) wA HZ.out.1 HDA.out.r1).mono ?_
    rintro e wq ⟨rfl, hwq⟩
    rw [hwq]
    clear hwq wq
    have hix := at_has (l := live) (nm := fresh nm)
    cases hh : (fndS live (fresh nm)).2
    · have HRA : Hid (actR live ops (rOps live nm da) = actR live ops [oApp nm da, oRen nm]) := hide (by simp [rOps, hh])
      have hi2 : ¬ 0 ≤ ixV (atL live (fresh nm)) := by rw [hh] at hix; simpa using hix
      clear hix hh x0 x1 x2 xa0
      generalize ixV (atL live (fresh nm)) = ix at *
      have y0 := K8A.out.c 0 _ rfl
      have y1 := K8A.out.c 1 _ rfl
      have y2 := K8A.out.c 2 _ rfl
      go_wp2_with fail
      refine (l8Act_any la sa oa lc sc oc live safe ops (oApp nm da) wA HFA.out HZ.out.2.1 (by have := HNA.out; omega) (sm_app HNM.out.1 HNM.out.2) HCA.out.1 HCA.out.2.1 HCA.out.2.2 HDA.out).mono ?_
      rintro e wn1 ⟨hb, v1, v2, v3, rfl, hrow⟩
      obtain ⟨a11, c11, a21, c21, a31, c31, rfl, rfl, rfl⟩ := hrow.open
      have hfl := fun q => act_files (live := live) (ops := ops) (o := oApp nm da) HFA.out q
      have hry := fun q => actR_yes (l := live) (os := ops) (t := [oRen nm]) (o := oApp nm da) q
      have hrn := fun q => actR_no (l := live) (os := ops) (t := [oRen nm]) (o := oApp nm da) q
      generalize actL live ops (oApp nm da) = L1 at *
      generalize actO live ops (oApp nm da) = O1 at *
      have hk := K8A.out.below hb
      have hx := KXA.out.below hb
      have hr := KRA.out.below hb
      have n1 := HXA.out.2.1
      have n2 := HXA.out.2.2
      have n3 := hb.size
      have z0 := hk.c 0 _ rfl
      have z1 := hk.c 1 _ rfl
      have z2 := hk.c 2 _ rfl
      have f0 := hk.f 0
      have f1 := hk.f 1
      have f2 := hk.f 2
      have K8y1 : Hid (Blk w1.heap.size [.slice a11 L1.length c11, .slice a21 safe.length c21, .slice a31 O1.length c31] (((wn1.setCell ⟨w1.heap.size, 0, none⟩ (.slice a11 L1.length c11)).setCell ⟨w1.heap.size, 1, none⟩ (.slice a21 safe.length c21)).setCell ⟨w1.heap.size, 2, none⟩ (.slice a31 O1.length c31))) := hide (((hk.set 0 (.slice a11 L1.length c11) (by simp)).set 1 (.slice a21 safe.length c21) (by simp)).set 2 (.slice a31 O1.length c31) (by simp))
      have KXy1 : Hid (Blk w.heap.size [.slice la live.length lc, .slice sa safe.length sc, .slice oa ops.length oc] (((wn1.setCell ⟨w1.heap.size, 0, none⟩ (.slice a11 L1.length c11)).setCell ⟨w1.heap.size, 1, none⟩ (.slice a21 safe.length c21)).setCell ⟨w1.heap.size, 2, none⟩ (.slice a31 O1.length c31))) := hide (((hx.other 0 _ (by omega)).other 1 _ (by omega)).other 2 _ (by omega))
      have KRy1 : Hid (Blk (w.heap.size + 1) [.slice none 0 0, .slice none 0 0, .slice none 0 0] (((wn1.setCell ⟨w1.heap.size, 0, none⟩ (.slice a11 L1.length c11)).setCell ⟨w1.heap.size, 1, none⟩ (.slice a21 safe.length c21)).setCell ⟨w1.heap.size, 2, none⟩ (.slice a31 O1.length c31))) := hide (((hr.other 0 _ (by omega)).other 1 _ (by omega)).other 2 _ (by omega))
      have HXy1 : Hid (Below w.heap.size w (((wn1.setCell ⟨w1.heap.size, 0, none⟩ (.slice a11 L1.length c11)).setCell ⟨w1.heap.size, 1, none⟩ (.slice a21 safe.length c21)).setCell ⟨w1.heap.size, 2, none⟩ (.slice a31 O1.length c31)) ∧ w.heap.size + 2 ≤ w1.heap.size ∧ w1.heap.size < (((wn1.setCell ⟨w1.heap.size, 0, none⟩ (.slice a11 L1.length c11)).setCell ⟨w1.heap.size, 1, none⟩ (.slice a21 safe.length c21)).setCell ⟨w1.heap.size, 2, none⟩ (.slice a31 O1.length c31)).heap.size) := hide ⟨(((below_trans HXA.out.1 hb).setCell (p := ⟨w1.heap.size, 0, none⟩) (by show w.heap.size ≤ w1.heap.size; omega) _).setCell (p := ⟨w1.heap.size, 1, none⟩) (by show w.heap.size ≤ w1.heap.size; omega) _).setCell (p := ⟨w1.heap.size, 2, none⟩) (by show w.heap.size ≤ w1.heap.size; omega) _, n1, by rw [size_setCell, size_setCell, size_setCell]; omega⟩
      have HDy1 : Hid (DkAt (((wn1.setCell ⟨w1.heap.size, 0, none⟩ (.slice a11 L1.length c11)).setCell ⟨w1.heap.size, 1, none⟩ (.slice a21 safe.length c21)).setCell ⟨w1.heap.size, 2, none⟩ (.slice a31 O1.length c31)) a11 a21 a31 L1 safe O1) := hide (((hrow.set n2).set n2).set n2).at
      have HCy1 : Hid ((a11 = none → c11 = 0) ∧ (a21 = none → c21 = 0) ∧ (a31 = none → c31 = 0)) := hide (dkAt_caps hrow)
      have HFL : Hid _ := hide hfl
      have HRY : Hid _ := hide hry
      have HRN : Hid _ := hide hrn
      clear hk hx hr n1 n2 n3 hb hrow hfl hry hrn y0 y1 y2
      have k0 := K8y1.out.c 0 _ rfl
      have k1 := K8y1.out.c 1 _ rfl
      have k2 := K8y1.out.c 2 _ rfl
      have x0 := KXy1.out.c 0 _ rfl
      have x1 := KXy1.out.c 1 _ rfl
      have x2 := KXy1.out.c 2 _ rfl
      by_cases hc : actC live ops (oApp nm da) = 0
      · rw [hc]
        have HFz1 : Hid _ := hide (HFL.out hc).1
        have HNz1 : Hid (O1.length ≤ 212) := hide (by have := (HFL.out hc).2; have := HNA.out; omega)
        have HRz1 : Hid _ := hide (HRA.out.trans (HRY.out hc))
        clear HFL HRY HRN hc
        go_wp2_with fail
        obtain ⟨wz1, hwy⟩ : ∃ wy, wy = (((wn1.setCell ⟨w1.heap.size, 0, none⟩ (.slice a11 L1.length c11)).setCell ⟨w1.heap.size, 1, none⟩ (.slice a21 safe.length c21)).setCell ⟨w1.heap.size, 2, none⟩ (.slice a31 O1.length c31)) := ⟨_, rfl⟩
        rw [← hwy] at K8y1 KXy1 KRy1 HXy1 HDy1 k0 k1 k2 x0 x1 x2 ⊢
        clear hwy z0 z1 z2 f0 f1 f2
        have K8z1 : Hid _ := hide K8y1.out
        have KXz1 : Hid _ := hide KXy1.out
        have KRz1 : Hid _ := hide KRy1.out
        have HXz1 : Hid _ := hide HXy1.out
        have HDz1 : Hid _ := hide HDy1.out
        have HCz1 : Hid _ := hide HCy1.out
        clear x0 x1 x2 K8y1 KXy1 KRy1 HXy1 HDy1 HCy1
        refine (l8Act_any a11 a21 a31 c11 c21 c31 L1 safe O1 (oRen nm) wz1 HFz1.out HZ.out.2.1 (by have := HNz1.out; omega) (sm_ren HNM.out.1) HCz1.out.1 HCz1.out.2.1 HCz1.out.2.2 HDz1.out).mono ?_
        rintro e wn2 ⟨hb, v1, v2, v3, rfl, hrow⟩
        obtain ⟨a12, c12, a22, c22, a32, c32, rfl, rfl, rfl⟩ := hrow.open
        have hfl := fun q => act_files (live := L1) (ops := O1) (o := oRen nm) HFz1.out q
        have hry := fun q => actR_yes (l := L1) (os := O1) (t := []) (o := oRen nm) q
        have hrn := fun q => actR_no (l := L1) (os := O1) (t := []) (o := oRen nm) q
        generalize actL L1 O1 (oRen nm) = L2 at *
        generalize actO L1 O1 (oRen nm) = O2 at *
        have hk := K8z1.out.below hb
        have hx := KXz1.out.below hb
        have hr := KRz1.out.below hb
        have n1 := HXz1.out.2.1
        have n2 := HXz1.out.2.2
        have n3 := hb.size
        have z0 := hk.c 0 _ rfl
        have z1 := hk.c 1 _ rfl
        have z2 := hk.c 2 _ rfl
        have f0 := hk.f 0
        have f1 := hk.f 1
        have f2 := hk.f 2
        have K8y2 : Hid (Blk w1.heap.size [.slice a12 L2.length c12, .slice a22 safe.length c22, .slice a32 O2.length c32] (((wn2.setCell ⟨w1.heap.size, 0, none⟩ (.slice a12 L2.length c12)).setCell ⟨w1.heap.size, 1, none⟩ (.slice a22 safe.length c22)).setCell ⟨w1.heap.size, 2, none⟩ (.slice a32 O2.length c32))) := hide (((hk.set 0 (.slice a12 L2.length c12) (by simp)).set 1 (.slice a22 safe.length c22) (by simp)).set 2 (.slice a32 O2.length c32) (by simp))
        have KXy2 : Hid (Blk w.heap.size [.slice la live.length lc, .slice sa safe.length sc, .slice oa ops.length oc] (((wn2.setCell ⟨w1.heap.size, 0, none⟩ (.slice a12 L2.length c12)).setCell ⟨w1.heap.size, 1, none⟩ (.slice a22 safe.length c22)).setCell ⟨w1.heap.size, 2, none⟩ (.slice a32 O2.length c32))) := hide (((hx.other 0 _ (by omega)).other 1 _ (by omega)).other 2 _ (by omega))
        have KRy2 : Hid (Blk (w.heap.size + 1) [.slice none 0 0, .slice none 0 0, .slice none 0 0] (((wn2.setCell ⟨w1.heap.size, 0, none⟩ (.slice a12 L2.length c12)).setCell ⟨w1.heap.size, 1, none⟩ (.slice a22 safe.length c22)).setCell ⟨w1.heap.size, 2, none⟩ (.slice a32 O2.length c32))) := hide (((hr.other 0 _ (by omega)).other 1 _ (by omega)).other 2 _ (by omega))
        have HXy2 : Hid (Below w.heap.size w (((wn2.setCell ⟨w1.heap.size, 0, none⟩ (.slice a12 L2.length c12)).setCell ⟨w1.heap.size, 1, none⟩ (.slice a22 safe.length c22)).setCell ⟨w1.heap.size, 2, none⟩ (.slice a32 O2.length c32)) ∧ w.heap.size + 2 ≤ w1.heap.size ∧ w1.heap.size < (((wn2.setCell ⟨w1.heap.size, 0, none⟩ (.slice a12 L2.length c12)).setCell ⟨w1.heap.size, 1, none⟩ (.slice a22 safe.length c22)).setCell ⟨w1.heap.size, 2, none⟩ (.slice a32 O2.length c32)).heap.size) := hide ⟨(((below_trans HXz1.out.1 hb).setCell (p := ⟨w1.heap.size, 0, none⟩) (by show w.heap.size ≤ w1.heap.size; omega) _).setCell (p := ⟨w1.heap.size, 1, none⟩) (by show w.heap.size ≤ w1.heap.size; omega) _).setCell (p := ⟨w1.heap.size, 2, none⟩) (by show w.heap.size ≤ w1.heap.size; omega) _, n1, by rw [size_setCell, size_setCell, size_setCell]; omega⟩
        have HDy2 : Hid (DkAt (((wn2.setCell ⟨w1.heap.size, 0, none⟩ (.slice a12 L2.length c12)).setCell ⟨w1.heap.size, 1, none⟩ (.slice a22 safe.length c22)).setCell ⟨w1.heap.size, 2, none⟩ (.slice a32 O2.length c32)) a12 a22 a32 L2 safe O2) := hide (((hrow.set n2).set n2).set n2).at
        have HCy2 : Hid ((a12 = none → c12 = 0) ∧ (a22 = none → c22 = 0) ∧ (a32 = none → c32 = 0)) := hide (dkAt_caps hrow)
        have HFL : Hid _ := hide hfl
        have HRY : Hid _ := hide hry
        have HRN : Hid _ := hide hrn
        clear hk hx hr n1 n2 n3 hb hrow hfl hry hrn k0 k1 k2
        have k0 := K8y2.out.c 0 _ rfl
        have k1 := K8y2.out.c 1 _ rfl
        have k2 := K8y2.out.c 2 _ rfl
        have x0 := KXy2.out.c 0 _ rfl
        have x1 := KXy2.out.c 1 _ rfl
        have x2 := KXy2.out.c 2 _ rfl
        by_cases hc : actC L1 O1 (oRen nm) = 0
        · rw [hc]
          have HG : Hid (actR live ops (rOps live nm da) = (L2, O2, 0)) := hide (by rw [HRz1.out, HRY.out hc]; rfl)
          have HNN : Hid (L2.length ≤ 1048576 ∧ O2.length ≤ 1048576) := hide ⟨by have := (filesB_parts (HFL.out hc).1).1; omega, by have := (HFL.out hc).2; have := HNz1.out; omega⟩
          clear HFL HRY HRN hc
          go_wp2_with fail
          obtain ⟨we2, hwy⟩ : ∃ wy, wy = (((wn2.setCell ⟨w1.heap.size, 0, none⟩ (.slice a12 L2.length c12)).setCell ⟨w1.heap.size, 1, none⟩ (.slice a22 safe.length c22)).setCell ⟨w1.heap.size, 2, none⟩ (.slice a32 O2.length c32)) := ⟨_, rfl⟩
          rw [← hwy] at K8y2 KXy2 KRy2 HXy2 HDy2 k0 k1 k2 x0 x1 x2 ⊢
          clear hwy z0 z1 z2 f0 f1 f2
          refine (l8Copy_any a12 a22 a32 c12 c22 c32 L2 safe O2 we2 HNN.out.1 HZ.out.2.1 HNN.out.2 HCy2.out.1 HCy2.out.2.1 HCy2.out.2.2 HDy2.out).mono ?_
          rintro e wc ⟨hbc, v1, v2, v3, rfl, hrow⟩
          obtain ⟨d1, e1, d2, e2, d3, e3, rfl, rfl, rfl⟩ := hrow.open
          obtain ⟨q1, q2, q3, q4⟩ := rep_good HB.out HG.out
          have KRc := KRy2.out.below hbc
          have n1 := HXy2.out
          have HE : Hid (DiskC (repC live safe ops nm da) (repL live safe ops nm da) (repS live safe ops nm da) (repO live safe ops nm da) w (.returned (.tuple #[.agg #[.slice d1 L2.length e1, .slice d2 safe.length e2, .slice d3 O2.length e3], .int .i64 0])) (((wc.setCell ⟨w.heap.size + 1, 0, none⟩ (.slice d1 L2.length e1)).setCell ⟨w.heap.size + 1, 1, none⟩ (.slice d2 safe.length e2)).setCell ⟨w.heap.size + 1, 2, none⟩ (.slice d3 O2.length e3))) := hide (by
              rw [q1, q2, q3, q4]
              exact disk_end2 (below_trans HXy2.out.1 hbc) (by omega) hrow)
          have HS : Hid (∃ Y, (((wc.setCell ⟨w.heap.size + 1, 0, none⟩ (.slice d1 L2.length e1)).setCell ⟨w.heap.size + 1, 1, none⟩ (.slice d2 safe.length e2)).setCell ⟨w.heap.size + 1, 2, none⟩ (.slice d3 O2.length e3)) = Y ∧ Blk (w.heap.size + 1) [.slice d1 L2.length e1, .slice d2 safe.length e2, .slice d3 O2.length e3] Y) := hide ⟨_, rfl, (((KRc).set 0 (.slice d1 L2.length e1) (by simp)).set 1 (.slice d2 safe.length e2) (by simp)).set 2 (.slice d3 O2.length e3) (by simp)⟩
          have y0 := (KRc).c 0 _ rfl
          have y1 := (KRc).c 1 _ rfl
          have y2 := (KRc).c 2 _ rfl
          have f0 := (KRc).f 0
          have f1 := (KRc).f 1
          have f2 := (KRc).f 2
          clear KRc hbc hrow n1
          go_wp2
          obtain ⟨Y, hY, kY⟩ := HS.out
          rw [hY] at HE ⊢
          have z0 := kY.c 0 _ rfl
          have z1 := kY.c 1 _ rfl
          have z2 := kY.c 2 _ rfl
          exact bodyPost_ret (v := .tuple #[.agg #[.slice d1 L2.length e1, .slice d2 safe.length e2, .slice d3 O2.length e3], .int .i64 0]) (by simp [results, Tryz.results20, go_sem, z0, z1, z2]) rfl HE.out
        · have HG : Hid _ := hide (rep_bad HB.out ((congrArg (fun p => p.2.2) HRz1.out).trans (HRN.out hc)) hc)
          have hce : (actC L1 O1 (oRen nm) == 0) = false := by simpa using hc
          have hcn : (actC L1 O1 (oRen nm) != 0) = true := by simpa using hc
          clear hc HFL HRY HRN
          generalize actC L1 O1 (oRen nm) = cc at *
          go_wp2_with fail
          obtain ⟨wf2, hwy⟩ : ∃ wy, wy = (((wn2.setCell ⟨w1.heap.size, 0, none⟩ (.slice a12 L2.length c12)).setCell ⟨w1.heap.size, 1, none⟩ (.slice a22 safe.length c22)).setCell ⟨w1.heap.size, 2, none⟩ (.slice a32 O2.length c32)) := ⟨_, rfl⟩
          rw [← hwy] at K8y2 KXy2 KRy2 HXy2 HDy2 k0 k1 k2 x0 x1 x2 ⊢
          clear hwy z0 z1 z2 f0 f1 f2
          refine (l8Copy_any la sa oa lc sc oc live safe ops wf2 HZ.out.1 HZ.out.2.1 HZ.out.2.2 HC.out.1 HC.out.2.1 HC.out.2.2 (HL.out.below HXy2.out.1)).mono ?_
          rintro e wc ⟨hbc, v1, v2, v3, rfl, hrow⟩
          obtain ⟨d1, e1, d2, e2, d3, e3, rfl, rfl, rfl⟩ := hrow.open
          obtain ⟨q1, q2, q3, q4⟩ := HG.out
          have KRc := KRy2.out.below hbc
          have n1 := HXy2.out
          have HE : Hid (DiskC (repC live safe ops nm da) (repL live safe ops nm da) (repS live safe ops nm da) (repO live safe ops nm da) w (.returned (.tuple #[.agg #[.slice d1 live.length e1, .slice d2 safe.length e2, .slice d3 ops.length e3], .int .i64 cc])) (((wc.setCell ⟨w.heap.size + 1, 0, none⟩ (.slice d1 live.length e1)).setCell ⟨w.heap.size + 1, 1, none⟩ (.slice d2 safe.length e2)).setCell ⟨w.heap.size + 1, 2, none⟩ (.slice d3 ops.length e3))) := hide (by
              rw [q1, q2, q3, q4]
              exact disk_end2 (below_trans HXy2.out.1 hbc) (by omega) hrow)
          have HS : Hid (∃ Y, (((wc.setCell ⟨w.heap.size + 1, 0, none⟩ (.slice d1 live.length e1)).setCell ⟨w.heap.size + 1, 1, none⟩ (.slice d2 safe.length e2)).setCell ⟨w.heap.size + 1, 2, none⟩ (.slice d3 ops.length e3)) = Y ∧ Blk (w.heap.size + 1) [.slice d1 live.length e1, .slice d2 safe.length e2, .slice d3 ops.length e3] Y) := hide ⟨_, rfl, (((KRc).set 0 (.slice d1 live.length e1) (by simp)).set 1 (.slice d2 safe.length e2) (by simp)).set 2 (.slice d3 ops.length e3) (by simp)⟩
          have y0 := (KRc).c 0 _ rfl
          have y1 := (KRc).c 1 _ rfl
          have y2 := (KRc).c 2 _ rfl
          have f0 := (KRc).f 0
          have f1 := (KRc).f 1
          have f2 := (KRc).f 2
          clear KRc hbc hrow n1 q1 q2 q3 q4 HG
          go_wp2
          obtain ⟨Y, hY, kY⟩ := HS.out
          rw [hY] at HE ⊢
          have z0 := kY.c 0 _ rfl
          have z1 := kY.c 1 _ rfl
          have z2 := kY.c 2 _ rfl
          exact bodyPost_ret (v := .tuple #[.agg #[.slice d1 live.length e1, .slice d2 safe.length e2, .slice d3 ops.length e3], .int .i64 cc]) (by simp [results, Tryz.results20, go_sem, z0, z1, z2]) rfl HE.out
      · have HG : Hid _ := hide (rep_bad HB.out ((congrArg (fun p => p.2.2) HRA.out).trans (HRN.out hc)) hc)
        have hce : (actC live ops (oApp nm da) == 0) = false := by simpa using hc
        have hcn : (actC live ops (oApp nm da) != 0) = true := by simpa using hc
        clear hc HFL HRY HRN
        generalize actC live ops (oApp nm da) = cc at *
        go_wp2_with fail
        obtain ⟨wf1, hwy⟩ : ∃ wy, wy = (((wn1.setCell ⟨w1.heap.size, 0, none⟩ (.slice a11 L1.length c11)).setCell ⟨w1.heap.size, 1, none⟩ (.slice a21 safe.length c21)).setCell ⟨w1.heap.size, 2, none⟩ (.slice a31 O1.length c31)) := ⟨_, rfl⟩
        rw [← hwy] at K8y1 KXy1 KRy1 HXy1 HDy1 k0 k1 k2 x0 x1 x2 ⊢
        clear hwy z0 z1 z2 f0 f1 f2
        refine (l8Copy_any la sa oa lc sc oc live safe ops wf1 HZ.out.1 HZ.out.2.1 HZ.out.2.2 HC.out.1 HC.out.2.1 HC.out.2.2 (HL.out.below HXy1.out.1)).mono ?_
        rintro e wc ⟨hbc, v1, v2, v3, rfl, hrow⟩
        obtain ⟨d1, e1, d2, e2, d3, e3, rfl, rfl, rfl⟩ := hrow.open
        obtain ⟨q1, q2, q3, q4⟩ := HG.out
        have KRc := KRy1.out.below hbc
        have n1 := HXy1.out
        have HE : Hid (DiskC (repC live safe ops nm da) (repL live safe ops nm da) (repS live safe ops nm da) (repO live safe ops nm da) w (.returned (.tuple #[.agg #[.slice d1 live.length e1, .slice d2 safe.length e2, .slice d3 ops.length e3], .int .i64 cc])) (((wc.setCell ⟨w.heap.size + 1, 0, none⟩ (.slice d1 live.length e1)).setCell ⟨w.heap.size + 1, 1, none⟩ (.slice d2 safe.length e2)).setCell ⟨w.heap.size + 1, 2, none⟩ (.slice d3 ops.length e3))) := hide (by
            rw [q1, q2, q3, q4]
            exact disk_end2 (below_trans HXy1.out.1 hbc) (by omega) hrow)
        have HS : Hid (∃ Y, (((wc.setCell ⟨w.heap.size + 1, 0, none⟩ (.slice d1 live.length e1)).setCell ⟨w.heap.size + 1, 1, none⟩ (.slice d2 safe.length e2)).setCell ⟨w.heap.size + 1, 2, none⟩ (.slice d3 ops.length e3)) = Y ∧ Blk (w.heap.size + 1) [.slice d1 live.length e1, .slice d2 safe.length e2, .slice d3 ops.length e3] Y) := hide ⟨_, rfl, (((KRc).set 0 (.slice d1 live.length e1) (by simp)).set 1 (.slice d2 safe.length e2) (by simp)).set 2 (.slice d3 ops.length e3) (by simp)⟩
        have y0 := (KRc).c 0 _ rfl
        have y1 := (KRc).c 1 _ rfl
        have y2 := (KRc).c 2 _ rfl
        have f0 := (KRc).f 0
        have f1 := (KRc).f 1
        have f2 := (KRc).f 2
        clear KRc hbc hrow n1 q1 q2 q3 q4 HG
        go_wp2
        obtain ⟨Y, hY, kY⟩ := HS.out
        rw [hY] at HE ⊢
        have z0 := kY.c 0 _ rfl
        have z1 := kY.c 1 _ rfl
        have z2 := kY.c 2 _ rfl
        exact bodyPost_ret (v := .tuple #[.agg #[.slice d1 live.length e1, .slice d2 safe.length e2, .slice d3 ops.length e3], .int .i64 cc]) (by simp [results, Tryz.results20, go_sem, z0, z1, z2]) rfl HE.out
    · have HRA : Hid (actR live ops (rOps live nm da) = actR live ops [oRem nm, oApp nm da, oRen nm]) := hide (by simp [rOps, hh])
      have hi2 : 0 ≤ ixV (atL live (fresh nm)) := by rw [hh] at hix; simpa using hix
      clear hix hh x0 x1 x2 xa0
      generalize ixV (atL live (fresh nm)) = ix at *
      have y0 := K8A.out.c 0 _ rfl
      have y1 := K8A.out.c 1 _ rfl
      have y2 := K8A.out.c 2 _ rfl
      go_wp2_with fail
      refine (l8Act_any la sa oa lc sc oc live safe ops (oRem nm) wA HFA.out HZ.out.2.1 (by have := HNA.out; omega) (sm_rem HNM.out.1) HCA.out.1 HCA.out.2.1 HCA.out.2.2 HDA.out).mono ?_
      rintro e wn3 ⟨hb, v1, v2, v3, rfl, hrow⟩
      obtain ⟨a13, c13, a23, c23, a33, c33, rfl, rfl, rfl⟩ := hrow.open
      have hfl := fun q => act_files (live := live) (ops := ops) (o := oRem nm) HFA.out q
      have hry := fun q => actR_yes (l := live) (os := ops) (t := [oApp nm da, oRen nm]) (o := oRem nm) q
      have hrn := fun q => actR_no (l := live) (os := ops) (t := [oApp nm da, oRen nm]) (o := oRem nm) q
      generalize actL live ops (oRem nm) = L3 at *
      generalize actO live ops (oRem nm) = O3 at *
      have hk := K8A.out.below hb
      have hx := KXA.out.below hb
      have hr := KRA.out.below hb
      have n1 := HXA.out.2.1
      have n2 := HXA.out.2.2
      have n3 := hb.size
      have z0 := hk.c 0 _ rfl
      have z1 := hk.c 1 _ rfl
      have z2 := hk.c 2 _ rfl
      have f0 := hk.f 0
      have f1 := hk.f 1
      have f2 := hk.f 2
      have K8y3 : Hid (Blk w1.heap.size [.slice a13 L3.length c13, .slice a23 safe.length c23, .slice a33 O3.length c33] (((wn3.setCell ⟨w1.heap.size, 0, none⟩ (.slice a13 L3.length c13)).setCell ⟨w1.heap.size, 1, none⟩ (.slice a23 safe.length c23)).setCell ⟨w1.heap.size, 2, none⟩ (.slice a33 O3.length c33))) := hide (((hk.set 0 (.slice a13 L3.length c13) (by simp)).set 1 (.slice a23 safe.length c23) (by simp)).set 2 (.slice a33 O3.length c33) (by simp))
      have KXy3 : Hid (Blk w.heap.size [.slice la live.length lc, .slice sa safe.length sc, .slice oa ops.length oc] (((wn3.setCell ⟨w1.heap.size, 0, none⟩ (.slice a13 L3.length c13)).setCell ⟨w1.heap.size, 1, none⟩ (.slice a23 safe.length c23)).setCell ⟨w1.heap.size, 2, none⟩ (.slice a33 O3.length c33))) := hide (((hx.other 0 _ (by omega)).other 1 _ (by omega)).other 2 _ (by omega))
      have KRy3 : Hid (Blk (w.heap.size + 1) [.slice none 0 0, .slice none 0 0, .slice none 0 0] (((wn3.setCell ⟨w1.heap.size, 0, none⟩ (.slice a13 L3.length c13)).setCell ⟨w1.heap.size, 1, none⟩ (.slice a23 safe.length c23)).setCell ⟨w1.heap.size, 2, none⟩ (.slice a33 O3.length c33))) := hide (((hr.other 0 _ (by omega)).other 1 _ (by omega)).other 2 _ (by omega))
      have HXy3 : Hid (Below w.heap.size w (((wn3.setCell ⟨w1.heap.size, 0, none⟩ (.slice a13 L3.length c13)).setCell ⟨w1.heap.size, 1, none⟩ (.slice a23 safe.length c23)).setCell ⟨w1.heap.size, 2, none⟩ (.slice a33 O3.length c33)) ∧ w.heap.size + 2 ≤ w1.heap.size ∧ w1.heap.size < (((wn3.setCell ⟨w1.heap.size, 0, none⟩ (.slice a13 L3.length c13)).setCell ⟨w1.heap.size, 1, none⟩ (.slice a23 safe.length c23)).setCell ⟨w1.heap.size, 2, none⟩ (.slice a33 O3.length c33)).heap.size) := hide ⟨(((below_trans HXA.out.1 hb).setCell (p := ⟨w1.heap.size, 0, none⟩) (by show w.heap.size ≤ w1.heap.size; omega) _).setCell (p := ⟨w1.heap.size, 1, none⟩) (by show w.heap.size ≤ w1.heap.size; omega) _).setCell (p := ⟨w1.heap.size, 2, none⟩) (by show w.heap.size ≤ w1.heap.size; omega) _, n1, by rw [size_setCell, size_setCell, size_setCell]; omega⟩
      have HDy3 : Hid (DkAt (((wn3.setCell ⟨w1.heap.size, 0, none⟩ (.slice a13 L3.length c13)).setCell ⟨w1.heap.size, 1, none⟩ (.slice a23 safe.length c23)).setCell ⟨w1.heap.size, 2, none⟩ (.slice a33 O3.length c33)) a13 a23 a33 L3 safe O3) := hide (((hrow.set n2).set n2).set n2).at
      have HCy3 : Hid ((a13 = none → c13 = 0) ∧ (a23 = none → c23 = 0) ∧ (a33 = none → c33 = 0)) := hide (dkAt_caps hrow)
      have HFL : Hid _ := hide hfl
      have HRY : Hid _ := hide hry
      have HRN : Hid _ := hide hrn
      clear hk hx hr n1 n2 n3 hb hrow hfl hry hrn y0 y1 y2
      have k0 := K8y3.out.c 0 _ rfl
      have k1 := K8y3.out.c 1 _ rfl
      have k2 := K8y3.out.c 2 _ rfl
      have x0 := KXy3.out.c 0 _ rfl
      have x1 := KXy3.out.c 1 _ rfl
      have x2 := KXy3.out.c 2 _ rfl
      by_cases hc : actC live ops (oRem nm) = 0
      · rw [hc]
        have HFz3 : Hid _ := hide (HFL.out hc).1
        have HNz3 : Hid (O3.length ≤ 211) := hide (by have := (HFL.out hc).2; have := HNA.out; omega)
        have HRz3 : Hid _ := hide (HRA.out.trans (HRY.out hc))
        clear HFL HRY HRN hc
        go_wp2_with fail
        obtain ⟨wz3, hwy⟩ : ∃ wy, wy = (((wn3.setCell ⟨w1.heap.size, 0, none⟩ (.slice a13 L3.length c13)).setCell ⟨w1.heap.size, 1, none⟩ (.slice a23 safe.length c23)).setCell ⟨w1.heap.size, 2, none⟩ (.slice a33 O3.length c33)) := ⟨_, rfl⟩
        rw [← hwy] at K8y3 KXy3 KRy3 HXy3 HDy3 k0 k1 k2 x0 x1 x2 ⊢
        clear hwy z0 z1 z2 f0 f1 f2
        have K8z3 : Hid _ := hide K8y3.out
        have KXz3 : Hid _ := hide KXy3.out
        have KRz3 : Hid _ := hide KRy3.out
        have HXz3 : Hid _ := hide HXy3.out
        have HDz3 : Hid _ := hide HDy3.out
        have HCz3 : Hid _ := hide HCy3.out
        clear x0 x1 x2 K8y3 KXy3 KRy3 HXy3 HDy3 HCy3
        refine (l8Act_any a13 a23 a33 c13 c23 c33 L3 safe O3 (oApp nm da) wz3 HFz3.out HZ.out.2.1 (by have := HNz3.out; omega) (sm_app HNM.out.1 HNM.out.2) HCz3.out.1 HCz3.out.2.1 HCz3.out.2.2 HDz3.out).mono ?_
        rintro e wn4 ⟨hb, v1, v2, v3, rfl, hrow⟩
        obtain ⟨a14, c14, a24, c24, a34, c34, rfl, rfl, rfl⟩ := hrow.open
        have hfl := fun q => act_files (live := L3) (ops := O3) (o := oApp nm da) HFz3.out q
        have hry := fun q => actR_yes (l := L3) (os := O3) (t := [oRen nm]) (o := oApp nm da) q
        have hrn := fun q => actR_no (l := L3) (os := O3) (t := [oRen nm]) (o := oApp nm da) q
        generalize actL L3 O3 (oApp nm da) = L4 at *
        generalize actO L3 O3 (oApp nm da) = O4 at *
        have hk := K8z3.out.below hb
        have hx := KXz3.out.below hb
        have hr := KRz3.out.below hb
        have n1 := HXz3.out.2.1
        have n2 := HXz3.out.2.2
        have n3 := hb.size
        have z0 := hk.c 0 _ rfl
        have z1 := hk.c 1 _ rfl
        have z2 := hk.c 2 _ rfl
        have f0 := hk.f 0
        have f1 := hk.f 1
        have f2 := hk.f 2
        have K8y4 : Hid (Blk w1.heap.size [.slice a14 L4.length c14, .slice a24 safe.length c24, .slice a34 O4.length c34] (((wn4.setCell ⟨w1.heap.size, 0, none⟩ (.slice a14 L4.length c14)).setCell ⟨w1.heap.size, 1, none⟩ (.slice a24 safe.length c24)).setCell ⟨w1.heap.size, 2, none⟩ (.slice a34 O4.length c34))) := hide (((hk.set 0 (.slice a14 L4.length c14) (by simp)).set 1 (.slice a24 safe.length c24) (by simp)).set 2 (.slice a34 O4.length c34) (by simp))
        have KXy4 : Hid (Blk w.heap.size [.slice la live.length lc, .slice sa safe.length sc, .slice oa ops.length oc] (((wn4.setCell ⟨w1.heap.size, 0, none⟩ (.slice a14 L4.length c14)).setCell ⟨w1.heap.size, 1, none⟩ (.slice a24 safe.length c24)).setCell ⟨w1.heap.size, 2, none⟩ (.slice a34 O4.length c34))) := hide (((hx.other 0 _ (by omega)).other 1 _ (by omega)).other 2 _ (by omega))
        have KRy4 : Hid (Blk (w.heap.size + 1) [.slice none 0 0, .slice none 0 0, .slice none 0 0] (((wn4.setCell ⟨w1.heap.size, 0, none⟩ (.slice a14 L4.length c14)).setCell ⟨w1.heap.size, 1, none⟩ (.slice a24 safe.length c24)).setCell ⟨w1.heap.size, 2, none⟩ (.slice a34 O4.length c34))) := hide (((hr.other 0 _ (by omega)).other 1 _ (by omega)).other 2 _ (by omega))
        have HXy4 : Hid (Below w.heap.size w (((wn4.setCell ⟨w1.heap.size, 0, none⟩ (.slice a14 L4.length c14)).setCell ⟨w1.heap.size, 1, none⟩ (.slice a24 safe.length c24)).setCell ⟨w1.heap.size, 2, none⟩ (.slice a34 O4.length c34)) ∧ w.heap.size + 2 ≤ w1.heap.size ∧ w1.heap.size < (((wn4.setCell ⟨w1.heap.size, 0, none⟩ (.slice a14 L4.length c14)).setCell ⟨w1.heap.size, 1, none⟩ (.slice a24 safe.length c24)).setCell ⟨w1.heap.size, 2, none⟩ (.slice a34 O4.length c34)).heap.size) := hide ⟨(((below_trans HXz3.out.1 hb).setCell (p := ⟨w1.heap.size, 0, none⟩) (by show w.heap.size ≤ w1.heap.size; omega) _).setCell (p := ⟨w1.heap.size, 1, none⟩) (by show w.heap.size ≤ w1.heap.size; omega) _).setCell (p := ⟨w1.heap.size, 2, none⟩) (by show w.heap.size ≤ w1.heap.size; omega) _, n1, by rw [size_setCell, size_setCell, size_setCell]; omega⟩
        have HDy4 : Hid (DkAt (((wn4.setCell ⟨w1.heap.size, 0, none⟩ (.slice a14 L4.length c14)).setCell ⟨w1.heap.size, 1, none⟩ (.slice a24 safe.length c24)).setCell ⟨w1.heap.size, 2, none⟩ (.slice a34 O4.length c34)) a14 a24 a34 L4 safe O4) := hide (((hrow.set n2).set n2).set n2).at
        have HCy4 : Hid ((a14 = none → c14 = 0) ∧ (a24 = none → c24 = 0) ∧ (a34 = none → c34 = 0)) := hide (dkAt_caps hrow)
        have HFL : Hid _ := hide hfl
        have HRY : Hid _ := hide hry
        have HRN : Hid _ := hide hrn
        clear hk hx hr n1 n2 n3 hb hrow hfl hry hrn k0 k1 k2
        have k0 := K8y4.out.c 0 _ rfl
        have k1 := K8y4.out.c 1 _ rfl
        have k2 := K8y4.out.c 2 _ rfl
        have x0 := KXy4.out.c 0 _ rfl
        have x1 := KXy4.out.c 1 _ rfl
        have x2 := KXy4.out.c 2 _ rfl
        by_cases hc : actC L3 O3 (oApp nm da) = 0
        · rw [hc]
          have HFz4 : Hid _ := hide (HFL.out hc).1
          have HNz4 : Hid (O4.length ≤ 212) := hide (by have := (HFL.out hc).2; have := HNz3.out; omega)
          have HRz4 : Hid _ := hide (HRz3.out.trans (HRY.out hc))
          clear HFL HRY HRN hc
          go_wp2_with fail
          obtain ⟨wz4, hwy⟩ : ∃ wy, wy = (((wn4.setCell ⟨w1.heap.size, 0, none⟩ (.slice a14 L4.length c14)).setCell ⟨w1.heap.size, 1, none⟩ (.slice a24 safe.length c24)).setCell ⟨w1.heap.size, 2, none⟩ (.slice a34 O4.length c34)) := ⟨_, rfl⟩
          rw [← hwy] at K8y4 KXy4 KRy4 HXy4 HDy4 k0 k1 k2 x0 x1 x2 ⊢
          clear hwy z0 z1 z2 f0 f1 f2
          have K8z4 : Hid _ := hide K8y4.out
          have KXz4 : Hid _ := hide KXy4.out
          have KRz4 : Hid _ := hide KRy4.out
          have HXz4 : Hid _ := hide HXy4.out
          have HDz4 : Hid _ := hide HDy4.out
          have HCz4 : Hid _ := hide HCy4.out
          clear x0 x1 x2 K8y4 KXy4 KRy4 HXy4 HDy4 HCy4
          refine (l8Act_any a14 a24 a34 c14 c24 c34 L4 safe O4 (oRen nm) wz4 HFz4.out HZ.out.2.1 (by have := HNz4.out; omega) (sm_ren HNM.out.1) HCz4.out.1 HCz4.out.2.1 HCz4.out.2.2 HDz4.out).mono ?_
          rintro e wn5 ⟨hb, v1, v2, v3, rfl, hrow⟩
          obtain ⟨a15, c15, a25, c25, a35, c35, rfl, rfl, rfl⟩ := hrow.open
          have hfl := fun q => act_files (live := L4) (ops := O4) (o := oRen nm) HFz4.out q
          have hry := fun q => actR_yes (l := L4) (os := O4) (t := []) (o := oRen nm) q
          have hrn := fun q => actR_no (l := L4) (os := O4) (t := []) (o := oRen nm) q
          generalize actL L4 O4 (oRen nm) = L5 at *
          generalize actO L4 O4 (oRen nm) = O5 at *
          have hk := K8z4.out.below hb
          have hx := KXz4.out.below hb
          have hr := KRz4.out.below hb
          have n1 := HXz4.out.2.1
          have n2 := HXz4.out.2.2
          have n3 := hb.size
          have z0 := hk.c 0 _ rfl
          have z1 := hk.c 1 _ rfl
          have z2 := hk.c 2 _ rfl
          have f0 := hk.f 0
          have f1 := hk.f 1
          have f2 := hk.f 2
          have K8y5 : Hid (Blk w1.heap.size [.slice a15 L5.length c15, .slice a25 safe.length c25, .slice a35 O5.length c35] (((wn5.setCell ⟨w1.heap.size, 0, none⟩ (.slice a15 L5.length c15)).setCell ⟨w1.heap.size, 1, none⟩ (.slice a25 safe.length c25)).setCell ⟨w1.heap.size, 2, none⟩ (.slice a35 O5.length c35))) := hide (((hk.set 0 (.slice a15 L5.length c15) (by simp)).set 1 (.slice a25 safe.length c25) (by simp)).set 2 (.slice a35 O5.length c35) (by simp))
          have KXy5 : Hid (Blk w.heap.size [.slice la live.length lc, .slice sa safe.length sc, .slice oa ops.length oc] (((wn5.setCell ⟨w1.heap.size, 0, none⟩ (.slice a15 L5.length c15)).setCell ⟨w1.heap.size, 1, none⟩ (.slice a25 safe.length c25)).setCell ⟨w1.heap.size, 2, none⟩ (.slice a35 O5.length c35))) := hide (((hx.other 0 _ (by omega)).other 1 _ (by omega)).other 2 _ (by omega))
          have KRy5 : Hid (Blk (w.heap.size + 1) [.slice none 0 0, .slice none 0 0, .slice none 0 0] (((wn5.setCell ⟨w1.heap.size, 0, none⟩ (.slice a15 L5.length c15)).setCell ⟨w1.heap.size, 1, none⟩ (.slice a25 safe.length c25)).setCell ⟨w1.heap.size, 2, none⟩ (.slice a35 O5.length c35))) := hide (((hr.other 0 _ (by omega)).other 1 _ (by omega)).other 2 _ (by omega))
          have HXy5 : Hid (Below w.heap.size w (((wn5.setCell ⟨w1.heap.size, 0, none⟩ (.slice a15 L5.length c15)).setCell ⟨w1.heap.size, 1, none⟩ (.slice a25 safe.length c25)).setCell ⟨w1.heap.size, 2, none⟩ (.slice a35 O5.length c35)) ∧ w.heap.size + 2 ≤ w1.heap.size ∧ w1.heap.size < (((wn5.setCell ⟨w1.heap.size, 0, none⟩ (.slice a15 L5.length c15)).setCell ⟨w1.heap.size, 1, none⟩ (.slice a25 safe.length c25)).setCell ⟨w1.heap.size, 2, none⟩ (.slice a35 O5.length c35)).heap.size) := hide ⟨(((below_trans HXz4.out.1 hb).setCell (p := ⟨w1.heap.size, 0, none⟩) (by show w.heap.size ≤ w1.heap.size; omega) _).setCell (p := ⟨w1.heap.size, 1, none⟩) (by show w.heap.size ≤ w1.heap.size; omega) _).setCell (p := ⟨w1.heap.size, 2, none⟩) (by show w.heap.size ≤ w1.heap.size; omega) _, n1, by rw [size_setCell, size_setCell, size_setCell]; omega⟩
          have HDy5 : Hid (DkAt (((wn5.setCell ⟨w1.heap.size, 0, none⟩ (.slice a15 L5.length c15)).setCell ⟨w1.heap.size, 1, none⟩ (.slice a25 safe.length c25)).setCell ⟨w1.heap.size, 2, none⟩ (.slice a35 O5.length c35)) a15 a25 a35 L5 safe O5) := hide (((hrow.set n2).set n2).set n2).at
          have HCy5 : Hid ((a15 = none → c15 = 0) ∧ (a25 = none → c25 = 0) ∧ (a35 = none → c35 = 0)) := hide (dkAt_caps hrow)
          have HFL : Hid _ := hide hfl
          have HRY : Hid _ := hide hry
          have HRN : Hid _ := hide hrn
          clear hk hx hr n1 n2 n3 hb hrow hfl hry hrn k0 k1 k2
          have k0 := K8y5.out.c 0 _ rfl
          have k1 := K8y5.out.c 1 _ rfl
          have k2 := K8y5.out.c 2 _ rfl
          have x0 := KXy5.out.c 0 _ rfl
          have x1 := KXy5.out.c 1 _ rfl
          have x2 := KXy5.out.c 2 _ rfl
          by_cases hc : actC L4 O4 (oRen nm) = 0
          · rw [hc]
            have HG : Hid (actR live ops (rOps live nm da) = (L5, O5, 0)) := hide (by rw [HRz4.out, HRY.out hc]; rfl)
            have HNN : Hid (L5.length ≤ 1048576 ∧ O5.length ≤ 1048576) := hide ⟨by have := (filesB_parts (HFL.out hc).1).1; omega, by have := (HFL.out hc).2; have := HNz4.out; omega⟩
            clear HFL HRY HRN hc
            go_wp2_with fail
            obtain ⟨we5, hwy⟩ : ∃ wy, wy = (((wn5.setCell ⟨w1.heap.size, 0, none⟩ (.slice a15 L5.length c15)).setCell ⟨w1.heap.size, 1, none⟩ (.slice a25 safe.length c25)).setCell ⟨w1.heap.size, 2, none⟩ (.slice a35 O5.length c35)) := ⟨_, rfl⟩
            rw [← hwy] at K8y5 KXy5 KRy5 HXy5 HDy5 k0 k1 k2 x0 x1 x2 ⊢
            clear hwy z0 z1 z2 f0 f1 f2
            refine (l8Copy_any a15 a25 a35 c15 c25 c35 L5 safe O5 we5 HNN.out.1 HZ.out.2.1 HNN.out.2 HCy5.out.1 HCy5.out.2.1 HCy5.out.2.2 HDy5.out).mono ?_
            rintro e wc ⟨hbc, v1, v2, v3, rfl, hrow⟩
            obtain ⟨d1, e1, d2, e2, d3, e3, rfl, rfl, rfl⟩ := hrow.open
            obtain ⟨q1, q2, q3, q4⟩ := rep_good HB.out HG.out
            have KRc := KRy5.out.below hbc
            have n1 := HXy5.out
            have HE : Hid (DiskC (repC live safe ops nm da) (repL live safe ops nm da) (repS live safe ops nm da) (repO live safe ops nm da) w (.returned (.tuple #[.agg #[.slice d1 L5.length e1, .slice d2 safe.length e2, .slice d3 O5.length e3], .int .i64 0])) (((wc.setCell ⟨w.heap.size + 1, 0, none⟩ (.slice d1 L5.length e1)).setCell ⟨w.heap.size + 1, 1, none⟩ (.slice d2 safe.length e2)).setCell ⟨w.heap.size + 1, 2, none⟩ (.slice d3 O5.length e3))) := hide (by
                rw [q1, q2, q3, q4]
                exact disk_end2 (below_trans HXy5.out.1 hbc) (by omega) hrow)
            have HS : Hid (∃ Y, (((wc.setCell ⟨w.heap.size + 1, 0, none⟩ (.slice d1 L5.length e1)).setCell ⟨w.heap.size + 1, 1, none⟩ (.slice d2 safe.length e2)).setCell ⟨w.heap.size + 1, 2, none⟩ (.slice d3 O5.length e3)) = Y ∧ Blk (w.heap.size + 1) [.slice d1 L5.length e1, .slice d2 safe.length e2, .slice d3 O5.length e3] Y) := hide ⟨_, rfl, (((KRc).set 0 (.slice d1 L5.length e1) (by simp)).set 1 (.slice d2 safe.length e2) (by simp)).set 2 (.slice d3 O5.length e3) (by simp)⟩
            have y0 := (KRc).c 0 _ rfl
            have y1 := (KRc).c 1 _ rfl
            have y2 := (KRc).c 2 _ rfl
            have f0 := (KRc).f 0
            have f1 := (KRc).f 1
            have f2 := (KRc).f 2
            clear KRc hbc hrow n1
            go_wp2
            obtain ⟨Y, hY, kY⟩ := HS.out
            rw [hY] at HE ⊢
            have z0 := kY.c 0 _ rfl
            have z1 := kY.c 1 _ rfl
            have z2 := kY.c 2 _ rfl
            exact bodyPost_ret (v := .tuple #[.agg #[.slice d1 L5.length e1, .slice d2 safe.length e2, .slice d3 O5.length e3], .int .i64 0]) (by simp [results, Tryz.results20, go_sem, z0, z1, z2]) rfl HE.out
          · have HG : Hid _ := hide (rep_bad HB.out ((congrArg (fun p => p.2.2) HRz4.out).trans (HRN.out hc)) hc)
            have hce : (actC L4 O4 (oRen nm) == 0) = false := by simpa using hc
            have hcn : (actC L4 O4 (oRen nm) != 0) = true := by simpa using hc
            clear hc HFL HRY HRN
            generalize actC L4 O4 (oRen nm) = cc at *
            go_wp2_with fail
            obtain ⟨wf5, hwy⟩ : ∃ wy, wy = (((wn5.setCell ⟨w1.heap.size, 0, none⟩ (.slice a15 L5.length c15)).setCell ⟨w1.heap.size, 1, none⟩ (.slice a25 safe.length c25)).setCell ⟨w1.heap.size, 2, none⟩ (.slice a35 O5.length c35)) := ⟨_, rfl⟩
            rw [← hwy] at K8y5 KXy5 KRy5 HXy5 HDy5 k0 k1 k2 x0 x1 x2 ⊢
            clear hwy z0 z1 z2 f0 f1 f2
            refine (l8Copy_any la sa oa lc sc oc live safe ops wf5 HZ.out.1 HZ.out.2.1 HZ.out.2.2 HC.out.1 HC.out.2.1 HC.out.2.2 (HL.out.below HXy5.out.1)).mono ?_
            rintro e wc ⟨hbc, v1, v2, v3, rfl, hrow⟩
            obtain ⟨d1, e1, d2, e2, d3, e3, rfl, rfl, rfl⟩ := hrow.open
            obtain ⟨q1, q2, q3, q4⟩ := HG.out
            have KRc := KRy5.out.below hbc
            have n1 := HXy5.out
            have HE : Hid (DiskC (repC live safe ops nm da) (repL live safe ops nm da) (repS live safe ops nm da) (repO live safe ops nm da) w (.returned (.tuple #[.agg #[.slice d1 live.length e1, .slice d2 safe.length e2, .slice d3 ops.length e3], .int .i64 cc])) (((wc.setCell ⟨w.heap.size + 1, 0, none⟩ (.slice d1 live.length e1)).setCell ⟨w.heap.size + 1, 1, none⟩ (.slice d2 safe.length e2)).setCell ⟨w.heap.size + 1, 2, none⟩ (.slice d3 ops.length e3))) := hide (by
                rw [q1, q2, q3, q4]
                exact disk_end2 (below_trans HXy5.out.1 hbc) (by omega) hrow)
            have HS : Hid (∃ Y, (((wc.setCell ⟨w.heap.size + 1, 0, none⟩ (.slice d1 live.length e1)).setCell ⟨w.heap.size + 1, 1, none⟩ (.slice d2 safe.length e2)).setCell ⟨w.heap.size + 1, 2, none⟩ (.slice d3 ops.length e3)) = Y ∧ Blk (w.heap.size + 1) [.slice d1 live.length e1, .slice d2 safe.length e2, .slice d3 ops.length e3] Y) := hide ⟨_, rfl, (((KRc).set 0 (.slice d1 live.length e1) (by simp)).set 1 (.slice d2 safe.length e2) (by simp)).set 2 (.slice d3 ops.length e3) (by simp)⟩
            have y0 := (KRc).c 0 _ rfl
            have y1 := (KRc).c 1 _ rfl
            have y2 := (KRc).c 2 _ rfl
            have f0 := (KRc).f 0
            have f1 := (KRc).f 1
            have f2 := (KRc).f 2
            clear KRc hbc hrow n1 q1 q2 q3 q4 HG
            go_wp2
            obtain ⟨Y, hY, kY⟩ := HS.out
            rw [hY] at HE ⊢
            have z0 := kY.c 0 _ rfl
            have z1 := kY.c 1 _ rfl
            have z2 := kY.c 2 _ rfl
            exact bodyPost_ret (v := .tuple #[.agg #[.slice d1 live.length e1, .slice d2 safe.length e2, .slice d3 ops.length e3], .int .i64 cc]) (by simp [results, Tryz.results20, go_sem, z0, z1, z2]) rfl HE.out
        · have HG : Hid _ := hide (rep_bad HB.out ((congrArg (fun p => p.2.2) HRz3.out).trans (HRN.out hc)) hc)
          have hce : (actC L3 O3 (oApp nm da) == 0) = false := by simpa using hc
          have hcn : (actC L3 O3 (oApp nm da) != 0) = true := by simpa using hc
          clear hc HFL HRY HRN
          generalize actC L3 O3 (oApp nm da) = cc at *
          go_wp2_with fail
          obtain ⟨wf4, hwy⟩ : ∃ wy, wy = (((wn4.setCell ⟨w1.heap.size, 0, none⟩ (.slice a14 L4.length c14)).setCell ⟨w1.heap.size, 1, none⟩ (.slice a24 safe.length c24)).setCell ⟨w1.heap.size, 2, none⟩ (.slice a34 O4.length c34)) := ⟨_, rfl⟩
          rw [← hwy] at K8y4 KXy4 KRy4 HXy4 HDy4 k0 k1 k2 x0 x1 x2 ⊢
          clear hwy z0 z1 z2 f0 f1 f2
          refine (l8Copy_any la sa oa lc sc oc live safe ops wf4 HZ.out.1 HZ.out.2.1 HZ.out.2.2 HC.out.1 HC.out.2.1 HC.out.2.2 (HL.out.below HXy4.out.1)).mono ?_
          rintro e wc ⟨hbc, v1, v2, v3, rfl, hrow⟩
          obtain ⟨d1, e1, d2, e2, d3, e3, rfl, rfl, rfl⟩ := hrow.open
          obtain ⟨q1, q2, q3, q4⟩ := HG.out
          have KRc := KRy4.out.below hbc
          have n1 := HXy4.out
          have HE : Hid (DiskC (repC live safe ops nm da) (repL live safe ops nm da) (repS live safe ops nm da) (repO live safe ops nm da) w (.returned (.tuple #[.agg #[.slice d1 live.length e1, .slice d2 safe.length e2, .slice d3 ops.length e3], .int .i64 cc])) (((wc.setCell ⟨w.heap.size + 1, 0, none⟩ (.slice d1 live.length e1)).setCell ⟨w.heap.size + 1, 1, none⟩ (.slice d2 safe.length e2)).setCell ⟨w.heap.size + 1, 2, none⟩ (.slice d3 ops.length e3))) := hide (by
              rw [q1, q2, q3, q4]
              exact disk_end2 (below_trans HXy4.out.1 hbc) (by omega) hrow)
          have HS : Hid (∃ Y, (((wc.setCell ⟨w.heap.size + 1, 0, none⟩ (.slice d1 live.length e1)).setCell ⟨w.heap.size + 1, 1, none⟩ (.slice d2 safe.length e2)).setCell ⟨w.heap.size + 1, 2, none⟩ (.slice d3 ops.length e3)) = Y ∧ Blk (w.heap.size + 1) [.slice d1 live.length e1, .slice d2 safe.length e2, .slice d3 ops.length e3] Y) := hide ⟨_, rfl, (((KRc).set 0 (.slice d1 live.length e1) (by simp)).set 1 (.slice d2 safe.length e2) (by simp)).set 2 (.slice d3 ops.length e3) (by simp)⟩
          have y0 := (KRc).c 0 _ rfl
          have y1 := (KRc).c 1 _ rfl
          have y2 := (KRc).c 2 _ rfl
          have f0 := (KRc).f 0
          have f1 := (KRc).f 1
          have f2 := (KRc).f 2
          clear KRc hbc hrow n1 q1 q2 q3 q4 HG
          go_wp2
          obtain ⟨Y, hY, kY⟩ := HS.out
          rw [hY] at HE ⊢
          have z0 := kY.c 0 _ rfl
          have z1 := kY.c 1 _ rfl
          have z2 := kY.c 2 _ rfl
          exact bodyPost_ret (v := .tuple #[.agg #[.slice d1 live.length e1, .slice d2 safe.length e2, .slice d3 ops.length e3], .int .i64 cc]) (by simp [results, Tryz.results20, go_sem, z0, z1, z2]) rfl HE.out
      · have HG : Hid _ := hide (rep_bad HB.out ((congrArg (fun p => p.2.2) HRA.out).trans (HRN.out hc)) hc)
        have hce : (actC live ops (oRem nm) == 0) = false := by simpa using hc
        have hcn : (actC live ops (oRem nm) != 0) = true := by simpa using hc
        clear hc HFL HRY HRN
        generalize actC live ops (oRem nm) = cc at *
        go_wp2_with fail
        obtain ⟨wf3, hwy⟩ : ∃ wy, wy = (((wn3.setCell ⟨w1.heap.size, 0, none⟩ (.slice a13 L3.length c13)).setCell ⟨w1.heap.size, 1, none⟩ (.slice a23 safe.length c23)).setCell ⟨w1.heap.size, 2, none⟩ (.slice a33 O3.length c33)) := ⟨_, rfl⟩
        rw [← hwy] at K8y3 KXy3 KRy3 HXy3 HDy3 k0 k1 k2 x0 x1 x2 ⊢
        clear hwy z0 z1 z2 f0 f1 f2
        refine (l8Copy_any la sa oa lc sc oc live safe ops wf3 HZ.out.1 HZ.out.2.1 HZ.out.2.2 HC.out.1 HC.out.2.1 HC.out.2.2 (HL.out.below HXy3.out.1)).mono ?_
        rintro e wc ⟨hbc, v1, v2, v3, rfl, hrow⟩
        obtain ⟨d1, e1, d2, e2, d3, e3, rfl, rfl, rfl⟩ := hrow.open
        obtain ⟨q1, q2, q3, q4⟩ := HG.out
        have KRc := KRy3.out.below hbc
        have n1 := HXy3.out
        have HE : Hid (DiskC (repC live safe ops nm da) (repL live safe ops nm da) (repS live safe ops nm da) (repO live safe ops nm da) w (.returned (.tuple #[.agg #[.slice d1 live.length e1, .slice d2 safe.length e2, .slice d3 ops.length e3], .int .i64 cc])) (((wc.setCell ⟨w.heap.size + 1, 0, none⟩ (.slice d1 live.length e1)).setCell ⟨w.heap.size + 1, 1, none⟩ (.slice d2 safe.length e2)).setCell ⟨w.heap.size + 1, 2, none⟩ (.slice d3 ops.length e3))) := hide (by
            rw [q1, q2, q3, q4]
            exact disk_end2 (below_trans HXy3.out.1 hbc) (by omega) hrow)
        have HS : Hid (∃ Y, (((wc.setCell ⟨w.heap.size + 1, 0, none⟩ (.slice d1 live.length e1)).setCell ⟨w.heap.size + 1, 1, none⟩ (.slice d2 safe.length e2)).setCell ⟨w.heap.size + 1, 2, none⟩ (.slice d3 ops.length e3)) = Y ∧ Blk (w.heap.size + 1) [.slice d1 live.length e1, .slice d2 safe.length e2, .slice d3 ops.length e3] Y) := hide ⟨_, rfl, (((KRc).set 0 (.slice d1 live.length e1) (by simp)).set 1 (.slice d2 safe.length e2) (by simp)).set 2 (.slice d3 ops.length e3) (by simp)⟩
        have y0 := (KRc).c 0 _ rfl
        have y1 := (KRc).c 1 _ rfl
        have y2 := (KRc).c 2 _ rfl
        have f0 := (KRc).f 0
        have f1 := (KRc).f 1
        have f2 := (KRc).f 2
        clear KRc hbc hrow n1 q1 q2 q3 q4 HG
        go_wp2
        obtain ⟨Y, hY, kY⟩ := HS.out
        rw [hY] at HE ⊢
        have z0 := kY.c 0 _ rfl
        have z1 := kY.c 1 _ rfl
        have z2 := kY.c 2 _ rfl
        exact bodyPost_ret (v := .tuple #[.agg #[.slice d1 live.length e1, .slice d2 safe.length e2, .slice d3 ops.length e3], .int .i64 cc]) (by simp [results, Tryz.results20, go_sem, z0, z1, z2]) rfl HE.out
end Go.Proofs.YtacbcmgpknhgdaaGreat
