/- The data under a name. -/
import Derived.Test.YtiilkkdbifhojaaGreatBe
namespace Go.Proofs.YtiilkkdbifhojaaGreat
open Go.ChangeShapes Go.WideShapes Go.ChangeAt Go.RowKit
set_option linter.unusedVariables false
set_option maxRecDepth 100000
/-- the data under a name, and whether it is there -/
def fndS (l : List Fl) (nm : ByteArray) : ByteArray × Bool := match atL l nm with
  | none => (⟨#[]⟩, false)
  | some _ => (dataL l nm, true)
set_option maxHeartbeats 2000000 in
theorem dataOf_any (a : Option Addr) (l : List Fl) (cap : Nat) (nm : ByteArray) (w : World) (hl : l.length ≤ 1048576) (h : RowAt 2 flCells w a l) :
    Calls Tryz.prog 25 #[.slice a l.length cap, .string nm] w fun e w' => e = .returned (.tuple #[.string (fndS l nm).1, .bool (fndS l nm).2]) ∧ Below w.heap.size w w' := by
  have HC : Hid _ := hide h
  clear h
  go_enter Tryz.func25, Tryz.ntmps25
  go_wp2
  go_loopw [10] (fun i wr => ∃ k : Nat, k ≤ l.length ∧ i = .int .i64 (k : Int) ∧ Hid (Below w.heap.size w wr) ∧ Hid (∀ j (hj : j < l.length), j < k → (l[j]).nm ≠ nm)) (fun i wr => l.length - (intOf i).toNat)
  case atStart => exact ⟨0, Nat.zero_le _, rfl, hide (Below.refl _ _), hide (fun j _ hj => by omega)⟩
  case round =>
    obtain ⟨k, hk, rfl, HB, HN⟩ := hrel
    by_cases hlt : k < l.length
    · obtain ⟨b, off, rfl, hb, c0, c1⟩ := fl_row (HC.out.below HB.out) k hlt
      have hlt' : (k : Int) < (l.length : Int) := by omega
      cases hq : ((l[k]).nm.toList == nm.toList)
      · have HN2 : Hid (∀ j (hj : j < l.length), j < k + 1 → (l[j]).nm ≠ nm) := hide (fun j hj hjk => by
          rcases Nat.lt_or_ge j k with h | h
          · exact HN.out j hj h
          · obtain rfl : j = k := by omega
            intro e; rw [beq_bytes.2 e] at hq; cases hq)
        go_wp2
        exact ⟨⟨k + 1, by omega, by go_num, hide (below_alloc HB.out _), HN2⟩, by simp [intOf]; omega⟩
      · have hat := at_hit hlt (beq_bytes.1 hq) HN.out
        have HE : Hid (fndS l nm = ((l[k]).da, true)) := hide (by simp [fndS, hat, data_at hat hlt])
        clear hat
        go_wp2
        exact bodyPost_ret (v := .tuple #[.string (l[k]).da, .bool true]) (by simp [results, Tryz.results25, go_sem]) rfl ⟨by rw [HE.out], below_alloc HB.out _⟩
    · have hk' : ¬ (k : Int) < (l.length : Int) := by omega
      have HE : Hid (fndS l nm = (⟨#[]⟩, false)) := hide (by simp [fndS, at_miss (fun j hj => HN.out j hj (by omega))])
      go_wp2
      exact bodyPost_ret (v := .tuple #[.string ⟨#[]⟩, .bool false]) (by simp [results, Tryz.results25, go_sem]) rfl ⟨by rw [HE.out], HB.out⟩
end Go.Proofs.YtiilkkdbifhojaaGreat
/- The contract of the program's ReadFile. -/
namespace Go.Proofs.YtiilkkdbifhojaaGreat
open Go.ChangeShapes Go.WideShapes Go.ChangeAt Go.RowKit
set_option linter.unusedVariables false
set_option maxRecDepth 100000
def rdS (live safe : List Fl) (ops : List Dp) (nm : ByteArray) : ByteArray × Bool := if diskB ⟨live, safe, ops⟩ then fndS live nm else (⟨#[]⟩, false)
set_option maxHeartbeats 4000000 in
theorem implReadFile_any (la sa oa : Option Addr) (lc sc oc : Nat) (live safe : List Fl) (ops : List Dp) (nm : ByteArray) (w : World) (hs : SmD live safe ops) (h : DkAt w la sa oa live safe ops) :
    Calls Tryz.prog 9 #[.agg #[.slice la live.length lc, .slice sa safe.length sc, .slice oa ops.length oc], .string nm] w fun e w' => e = .returned (.tuple #[.string (rdS live safe ops nm).1, .bool (rdS live safe ops nm).2]) ∧ Below w.heap.size w w' := by
  have HL : Hid _ := hide h
  have HM : Hid _ := hide hs
  clear h hs
  have KX0 : Hid (Blk w.heap.size [.slice la live.length lc, .slice sa safe.length sc, .slice oa ops.length oc] (w.alloc (.cells #[.slice la live.length lc, .slice sa safe.length sc, .slice oa ops.length oc] 27))) := hide Blk.new
  have HX0 : Hid (Below w.heap.size w (w.alloc (.cells #[.slice la live.length lc, .slice sa safe.length sc, .slice oa ops.length oc] 27))) := hide (below_alloc (Below.refl _ _) _)
  go_enter Tryz.func9, Tryz.ntmps9
  go_wp2_with fail
  refine (implDiskOk_any la sa oa lc sc oc live safe ops _ HM.out.1.1 HM.out.2.1.1 HM.out.2.2.1 HM.out.1.f HM.out.2.1.f HM.out.2.2.2 (HL.out.below HX0.out).r1 (HL.out.below HX0.out).r2 (HL.out.below HX0.out).r3).mono ?_
  rintro e w1 ⟨rfl, hb1⟩
  have HX1 : Hid _ := hide (below_trans HX0.out hb1)
  have KX1 : Hid _ := hide (KX0.out.below hb1)
  clear hb1 HX0 KX0
  cases qd : diskB ⟨live, safe, ops⟩
  · have HR : Hid (rdS live safe ops nm = (⟨#[]⟩, false)) := hide (by simp [rdS, qd])
    go_wp2
    exact bodyPost_ret (v := .tuple #[.string ⟨#[]⟩, .bool false]) (by simp [results, Tryz.results9, go_sem]) rfl ⟨by rw [HR.out], HX1.out⟩
  · have HR : Hid (rdS live safe ops nm = fndS live nm) := hide (by simp [rdS, qd])
    have x0 := KX1.out.c 0 _ rfl
    have xl := KX1.out.lt
    clear qd
    go_wp2_with fail
    refine (dataOf_any la live lc nm _ HM.out.1.1 (HL.out.r1.below HX1.out)).mono ?_
    rintro e w2 ⟨rfl, hb2⟩
    have HX2 : Hid _ := hide (below_trans HX1.out hb2)
    clear hb2
    generalize hfs : fndS live nm = fs at *
    have HFS : Hid (rdS live safe ops nm = fs) := hide HR.out
    clear hfs HR
    go_wp2
    exact bodyPost_ret (v := .tuple #[.string fs.1, .bool fs.2]) (by simp [results, Tryz.results9, go_sem]) rfl ⟨by rw [HFS.out], HX2.out⟩
end Go.Proofs.YtiilkkdbifhojaaGreat
/- Replace as data; the model's Replace. -/
namespace Go.Proofs.YtiilkkdbifhojaaGreat
open Go.ChangeShapes Go.WideShapes Go.ChangeAt Go.RowKit
set_option linter.unusedVariables false
set_option maxRecDepth 100000
def fresh (nm : ByteArray) : ByteArray := nm ++ ⟨#[46, 110, 101, 119]⟩
def oRem (nm : ByteArray) : Dp := ⟨3, fresh nm, ⟨#[]⟩, ⟨#[]⟩⟩
def oApp (nm da : ByteArray) : Dp := ⟨1, fresh nm, ⟨#[]⟩, da⟩
def oRen (nm : ByteArray) : Dp := ⟨2, fresh nm, nm, ⟨#[]⟩⟩
def rOps (live : List Fl) (nm da : ByteArray) : List Dp := (if (fndS live (fresh nm)).2 then [oRem nm] else []) ++ [oApp nm da, oRen nm]
def actR : List Fl → List Dp → List Dp → List Fl × List Dp × Int
  | l, os, [] => (l, os, 0)
  | l, os, o :: t => if actC l os o = 0 then actR (actL l os o) (actO l os o) t else (l, os, actC l os o)
theorem actR_no {l : List Fl} {os t : List Dp} {o : Dp} (h : ¬ actC l os o = 0) : (actR l os (o :: t)).2.2 = actC l os o := by simp [actR, h]
theorem actR_yes {l : List Fl} {os t : List Dp} {o : Dp} (h : actC l os o = 0) : actR l os (o :: t) = actR (actL l os o) (actO l os o) t := by simp [actR, h]
def repC (live safe : List Fl) (ops : List Dp) (nm da : ByteArray) : Int := bif diskB ⟨live, safe, ops⟩ then (actR live ops (rOps live nm da)).2.2 else 1
def repL (live safe : List Fl) (ops : List Dp) (nm da : ByteArray) : List Fl := bif diskB ⟨live, safe, ops⟩ then (if (actR live ops (rOps live nm da)).2.2 = 0 then (actR live ops (rOps live nm da)).1 else live) else []
def repS (live safe : List Fl) (ops : List Dp) (nm da : ByteArray) : List Fl := bif diskB ⟨live, safe, ops⟩ then safe else []
def repO (live safe : List Fl) (ops : List Dp) (nm da : ByteArray) : List Dp := bif diskB ⟨live, safe, ops⟩ then (if (actR live ops (rOps live nm da)).2.2 = 0 then (actR live ops (rOps live nm da)).2.1 else ops) else []
theorem rep_no {live safe : List Fl} {ops : List Dp} {nm da : ByteArray} (h : diskB ⟨live, safe, ops⟩ = false) : repC live safe ops nm da = 1 ∧ repL live safe ops nm da = [] ∧ repS live safe ops nm da = [] ∧ repO live safe ops nm da = [] := by simp [repC, repL, repS, repO, h]
theorem rep_bad {live safe : List Fl} {ops : List Dp} {nm da : ByteArray} {c : Int} (h : diskB ⟨live, safe, ops⟩ = true) (hc : (actR live ops (rOps live nm da)).2.2 = c) (hn : ¬ c = 0) : repC live safe ops nm da = c ∧ repL live safe ops nm da = live ∧ repS live safe ops nm da = safe ∧ repO live safe ops nm da = ops := by
  subst hc
  simp [repC, repL, repS, repO, h, hn]
theorem rep_good {live safe : List Fl} {ops O : List Dp} {L : List Fl} {nm da : ByteArray} (h : diskB ⟨live, safe, ops⟩ = true) (hc : actR live ops (rOps live nm da) = (L, O, 0)) : repC live safe ops nm da = 0 ∧ repL live safe ops nm da = L ∧ repS live safe ops nm da = safe ∧ repO live safe ops nm da = O := by simp [repC, repL, repS, repO, h, hc]
theorem fresh_size (nm : ByteArray) : (fresh nm).size = nm.size + 4 := by simp [fresh, ByteArray.size_append]; rfl
theorem sm_rem {nm : ByteArray} (h : nm.size ≤ 1048576) : SmO (oRem nm) := ⟨by show (fresh nm).size ≤ _; rw [fresh_size]; omega, by show (0 : Nat) ≤ _; omega, by show (0 : Nat) ≤ _; omega⟩
theorem sm_app {nm da : ByteArray} (h : nm.size ≤ 1048576) (hd : da.size ≤ 1048576) : SmO (oApp nm da) := ⟨by show (fresh nm).size ≤ _; rw [fresh_size]; omega, by show (0 : Nat) ≤ _; omega, by show da.size ≤ _; omega⟩
theorem sm_ren {nm : ByteArray} (h : nm.size ≤ 1048576) : SmO (oRen nm) := ⟨by show (fresh nm).size ≤ _; rw [fresh_size]; omega, by show nm.size ≤ _; omega, by show (0 : Nat) ≤ _; omega⟩
theorem act_files {live : List Fl} {ops : List Dp} {o : Dp} (hf : filesB live = true) (hc : actC live ops o = 0) : filesB (actL live ops o) = true ∧ (actO live ops o).length = ops.length + 1 := by
  rw [(act_yes hc).1, (act_yes hc).2]
  rcases did_act (ops := ops) (o := o) hf with ⟨_, a⟩ | ⟨_, a⟩ | ⟨_, a⟩ | ⟨_, _, _, f⟩
  · rw [a] at hc; cases hc
  · rw [a] at hc; cases hc
  · rw [a] at hc; cases hc
  · exact ⟨f, by simp⟩
theorem at_has {l : List Fl} {nm : ByteArray} : decide (0 ≤ ixV (atL l nm)) = (fndS l nm).2 := by
  unfold fndS
  cases h : atL l nm with
  | none => simp [ixV]
  | some k => simp [ixV]
theorem disk_end2 {w y : World} {base : Nat} {c : Int} {L S : List Fl} {O : List Dp} {u1 u2 u3 : Value} (hy : Below w.heap.size w y) (hs : w.heap.size + 2 ≤ base) (h : RowsD base L S O u1 u2 u3 y) :
    DiskC c L S O w (.returned (.tuple #[.agg #[u1, u2, u3], .int .i64 c])) (((y.setCell ⟨w.heap.size + 1, 0, none⟩ (u1)).setCell ⟨w.heap.size + 1, 1, none⟩ (u2)).setCell ⟨w.heap.size + 1, 2, none⟩ (u3)) :=
  ⟨((hy.setCell (p := ⟨w.heap.size + 1, 0, none⟩) (by show w.heap.size ≤ w.heap.size + 1; omega) _).setCell (p := ⟨w.heap.size + 1, 1, none⟩) (by show w.heap.size ≤ w.heap.size + 1; omega) _).setCell (p := ⟨w.heap.size + 1, 2, none⟩) (by show w.heap.size ≤ w.heap.size + 1; omega) _, u1, u2, u3, rfl, (((h.set (by omega)).set (by omega)).set (by omega)).mono (by omega)⟩
theorem disk_zero2 {w y : World} {c : Int} (hy : Below w.heap.size w y) :
    DiskC c [] [] [] w (.returned (.tuple #[.agg #[.slice none 0 0, .slice none 0 0, .slice none 0 0], .int .i64 c])) (((y.setCell ⟨w.heap.size + 1, 0, none⟩ (.slice none 0 0)).setCell ⟨w.heap.size + 1, 1, none⟩ (.slice none 0 0)).setCell ⟨w.heap.size + 1, 2, none⟩ (.slice none 0 0)) :=
  ⟨((hy.setCell (p := ⟨w.heap.size + 1, 0, none⟩) (by show w.heap.size ≤ w.heap.size + 1; omega) _).setCell (p := ⟨w.heap.size + 1, 1, none⟩) (by show w.heap.size ≤ w.heap.size + 1; omega) _).setCell (p := ⟨w.heap.size + 1, 2, none⟩) (by show w.heap.size ≤ w.heap.size + 1; omega) _, _, _, _, rfl, ⟨⟨by simp, .inl ⟨rfl, rfl⟩⟩, ⟨by simp, .inl ⟨rfl, rfl⟩⟩, ⟨by simp, .inl ⟨rfl, rfl⟩⟩, fun g hg => (by cases hg), fun g hg => (by cases hg), fun g hg => (by cases hg)⟩⟩
theorem dkAt_caps {base : Nat} {L S : List Fl} {O : List Dp} {a1 a2 a3 : Option Addr} {n1 n2 n3 c1 c2 c3 : Nat} {x : World} (h : RowsD base L S O (.slice a1 n1 c1) (.slice a2 n2 c2) (.slice a3 n3 c3) x) : (a1 = none → c1 = 0) ∧ (a2 = none → c2 = 0) ∧ (a3 = none → c3 = 0) := ⟨nil_cap h.r1, nil_cap h.r2, nil_cap h.r3⟩
set_option maxHeartbeats 16000000 in
theorem specReplace_any (la sa oa : Option Addr) (lc sc oc : Nat) (live safe : List Fl) (ops : List Dp) (nm da : ByteArray) (w : World) (hm : SmD live safe ops) (hnm : nm.size ≤ 1048576) (hda : da.size ≤ 1048576) (hc1 : la = none → lc = 0) (hc2 : sa = none → sc = 0) (hc3 : oa = none → oc = 0) (h : DkAt w la sa oa live safe ops) :
    Calls Tryz.prog 8 #[.agg #[.slice la live.length lc, .slice sa safe.length sc, .slice oa ops.length oc], .string nm, .string da] w fun e w' => DiskC (repC live safe ops nm da) (repL live safe ops nm da) (repS live safe ops nm da) (repO live safe ops nm da) w e w' := by
  have HL : Hid _ := hide h
  have HM : Hid _ := hide hm
  have HNM : Hid _ := hide (And.intro hnm hda)
  have HC : Hid ((la = none → lc = 0) ∧ (sa = none → sc = 0) ∧ (oa = none → oc = 0)) := hide ⟨hc1, hc2, hc3⟩
  have HZ : Hid (live.length ≤ 1048576 ∧ safe.length ≤ 1048576 ∧ ops.length ≤ 1048576) := hide ⟨hm.1.1, hm.2.1.1, hm.2.2.1⟩
  clear h hm hnm hda hc1 hc2 hc3
  obtain ⟨w0, hwa⟩ : ∃ wa, wa = ((w.alloc (.cells #[.slice la live.length lc, .slice sa safe.length sc, .slice oa ops.length oc] 27)).alloc (.cells #[.slice none 0 0, .slice none 0 0, .slice none 0 0] 27)) := ⟨_, rfl⟩
  have HW : Hid (((w.alloc (.cells #[.slice la live.length lc, .slice sa safe.length sc, .slice oa ops.length oc] 27)).alloc (.cells #[.slice none 0 0, .slice none 0 0, .slice none 0 0] 27)) = w0) := hide hwa.symm
  have KX0 : Hid (Blk w.heap.size [.slice la live.length lc, .slice sa safe.length sc, .slice oa ops.length oc] w0) := hide (by rw [hwa]; exact Blk.new.alloc _)
  have KR0 : Hid (Blk (w.heap.size + 1) [.slice none 0 0, .slice none 0 0, .slice none 0 0] w0) := hide (by rw [hwa]; exact (by simpa using Blk.new (w := w.alloc (.cells #[.slice la live.length lc, .slice sa safe.length sc, .slice oa ops.length oc] 27)) (cur := [.slice none 0 0, .slice none 0 0, .slice none 0 0]) (T := 27)))
  have HX0 : Hid (Below w.heap.size w w0 ∧ w.heap.size + 2 ≤ w0.heap.size) := hide ⟨by rw [hwa]; exact below_alloc (below_alloc (Below.refl _ _) _) _, by rw [hwa]; simp⟩
  clear hwa
  go_enter Tryz.func8, Tryz.ntmps8
  go_wp2_with fail
  rw [HW.out]
  have hd0 := HL.out.below HX0.out.1
  refine (specDiskOk_any la sa oa lc sc oc live safe ops w0 HM.out.1.1 HM.out.2.1.1 HM.out.2.2.1 HM.out.1.f HM.out.2.1.f HM.out.2.2.2 HC.out.2.1 hd0.r1 hd0.r2 hd0.r3).mono ?_
  rintro e w1 ⟨rfl, hb1⟩
  clear hd0
  have HX1 : Hid (Below w.heap.size w w1 ∧ w.heap.size + 2 ≤ w1.heap.size) := hide ⟨below_trans HX0.out.1 hb1, Nat.le_trans HX0.out.2 hb1.size⟩
  have KX1 : Hid _ := hide (KX0.out.below hb1)
  have KR1 : Hid _ := hide (KR0.out.below hb1)
  clear hb1 KX0 KR0 HX0
  have x0 := KX1.out.c 0 _ rfl
  have x1 := KX1.out.c 1 _ rfl
  have x2 := KX1.out.c 2 _ rfl
  cases hB : diskB ⟨live, safe, ops⟩
  · obtain ⟨e1, e2, e3, e4⟩ := rep_no (nm := nm) (da := da) hB
    have HE : Hid (DiskC (repC live safe ops nm da) (repL live safe ops nm da) (repS live safe ops nm da) (repO live safe ops nm da) w (.returned (.tuple #[.agg #[.slice none 0 0, .slice none 0 0, .slice none 0 0], .int .i64 1])) (((w1.setCell ⟨w.heap.size + 1, 0, none⟩ (.slice none 0 0)).setCell ⟨w.heap.size + 1, 1, none⟩ (.slice none 0 0)).setCell ⟨w.heap.size + 1, 2, none⟩ (.slice none 0 0))) := hide (by
        rw [e1, e2, e3, e4]
        exact disk_zero2 HX1.out.1)
    have HS : Hid (∃ Y, (((w1.setCell ⟨w.heap.size + 1, 0, none⟩ (.slice none 0 0)).setCell ⟨w.heap.size + 1, 1, none⟩ (.slice none 0 0)).setCell ⟨w.heap.size + 1, 2, none⟩ (.slice none 0 0)) = Y ∧ Blk (w.heap.size + 1) [.slice none 0 0, .slice none 0 0, .slice none 0 0] Y) := hide ⟨_, rfl, (((KR1.out).set 0 (.slice none 0 0) (by simp)).set 1 (.slice none 0 0) (by simp)).set 2 (.slice none 0 0) (by simp)⟩
    have y0 := (KR1.out).c 0 _ rfl
    have y1 := (KR1.out).c 1 _ rfl
    have y2 := (KR1.out).c 2 _ rfl
    have f0 := (KR1.out).f 0
    have f1 := (KR1.out).f 1
    have f2 := (KR1.out).f 2
    go_wp2
    obtain ⟨Y, hY, kY⟩ := HS.out
    rw [hY] at HE ⊢
    have z0 := kY.c 0 _ rfl
    have z1 := kY.c 1 _ rfl
    have z2 := kY.c 2 _ rfl
    exact bodyPost_ret (v := .tuple #[.agg #[.slice none 0 0, .slice none 0 0, .slice none 0 0], .int .i64 1]) (by simp [results, Tryz.results8, go_sem, z0, z1, z2]) rfl HE.out
  · obtain ⟨q1, q2, q3⟩ := diskB_parts hB
    have HFA : Hid _ := hide q1
    have HNA : Hid (ops.length ≤ 200) := hide q3
    have HB : Hid _ := hide hB
    have bw : Below w1.heap.size w1 (w1.alloc (.cells #[.slice la live.length lc, .slice sa safe.length sc, .slice oa ops.length oc] 27)) := below_alloc (Below.refl _ _) _
    have HXA : Hid (Below w.heap.size w (w1.alloc (.cells #[.slice la live.length lc, .slice sa safe.length sc, .slice oa ops.length oc] 27)) ∧ w.heap.size + 2 ≤ w1.heap.size ∧ w1.heap.size < (w1.alloc (.cells #[.slice la live.length lc, .slice sa safe.length sc, .slice oa ops.length oc] 27)).heap.size) := hide ⟨below_trans HX1.out.1 bw, HX1.out.2, by simp⟩
    have KXA : Hid _ := hide (KX1.out.below bw)
    have KRA : Hid _ := hide (KR1.out.below bw)
    have K8A : Hid (Blk w1.heap.size [.slice la live.length lc, .slice sa safe.length sc, .slice oa ops.length oc] (w1.alloc (.cells #[.slice la live.length lc, .slice sa safe.length sc, .slice oa ops.length oc] 27))) := hide Blk.new
    have HCA := HC
    clear bw KX1 KR1 HX1 q1 q2 q3 hB
    have xa0 := KXA.out.c 0 _ rfl
    have hnm := HNM.out.1
    go_wp2_with fail
    obtain ⟨wA, hwA⟩ : ∃ wA, wA = (w1.alloc (.cells #[.slice la live.length lc, .slice sa safe.length sc, .slice oa ops.length oc] 27)) := ⟨_, rfl⟩
    rw [← hwA] at HXA KXA KRA K8A xa0 ⊢
    clear hwA hnm
    have HDA : Hid (DkAt wA la sa oa live safe ops) := hide (HL.out.below HXA.out.1)
    refine (l8At_any la live lc (fresh nm) wA HZ.out.1 HDA.out.r1).mono ?_
    rintro e wq ⟨rfl, hwq⟩
    rw [hwq]
    clear hwq wq
    have hix := at_has (l := live) (nm := fresh nm)
    cases hh : (fndS live (fresh nm)).2
    · have HRA : Hid (actR live ops (rOps live nm da) = actR live ops [oApp nm da, oRen nm]) := hide (by simp [rOps, hh])
      have hi2 : ¬ 0 ≤ ixV (atL live (fresh nm)) := by rw [hh] at hix; simpa using hix
      clear hix hh x0 x1 x2 xa0
      generalize ixV (atL live (fresh nm)) = ix at *
      have y0 := K8A.out.c 0 _ rfl
      have y1 := K8A.out.c 1 _ rfl
      have y2 := K8A.out.c 2 _ rfl
      go_wp2_with fail
      refine (l8Act_any la sa oa lc sc oc live safe ops (oApp nm da) wA HFA.out HZ.out.2.1 (by have := HNA.out; omega) (sm_app HNM.out.1 HNM.out.2) HCA.out.1 HCA.out.2.1 HCA.out.2.2 HDA.out).mono ?_
      rintro e wn1 ⟨hb, v1, v2, v3, rfl, hrow⟩
      obtain ⟨a11, c11, a21, c21, a31, c31, rfl, rfl, rfl⟩ := hrow.open
      have hfl := fun q => act_files (live := live) (ops := ops) (o := oApp nm da) HFA.out q
      have hry := fun q => actR_yes (l := live) (os := ops) (t := [oRen nm]) (o := oApp nm da) q
      have hrn := fun q => actR_no (l := live) (os := ops) (t := [oRen nm]) (o := oApp nm da) q
      generalize actL live ops (oApp nm da) = L1 at *
      generalize actO live ops (oApp nm da) = O1 at *
      have hk := K8A.out.below hb
      have hx := KXA.out.below hb
      have hr := KRA.out.below hb
      have n1 := HXA.out.2.1
      have n2 := HXA.out.2.2
      have n3 := hb.size
      have z0 := hk.c 0 _ rfl
      have z1 := hk.c 1 _ rfl
      have z2 := hk.c 2 _ rfl
      have f0 := hk.f 0
      have f1 := hk.f 1
      have f2 := hk.f 2
      have K8y1 : Hid (Blk w1.heap.size [.slice a11 L1.length c11, .slice a21 safe.length c21, .slice a31 O1.length c31] (((wn1.setCell ⟨w1.heap.size, 0, none⟩ (.slice a11 L1.length c11)).setCell ⟨w1.heap.size, 1, none⟩ (.slice a21 safe.length c21)).setCell ⟨w1.heap.size, 2, none⟩ (.slice a31 O1.length c31))) := hide (((hk.set 0 (.slice a11 L1.length c11) (by simp)).set 1 (.slice a21 safe.length c21) (by simp)).set 2 (.slice a31 O1.length c31) (by simp))
      have KXy1 : Hid (Blk w.heap.size [.slice la live.length lc, .slice sa safe.length sc, .slice oa ops.length oc] (((wn1.setCell ⟨w1.heap.size, 0, none⟩ (.slice a11 L1.length c11)).setCell ⟨w1.heap.size, 1, none⟩ (.slice a21 safe.length c21)).setCell ⟨w1.heap.size, 2, none⟩ (.slice a31 O1.length c31))) := hide (((hx.other 0 _ (by omega)).other 1 _ (by omega)).other 2 _ (by omega))
      have KRy1 : Hid (Blk (w.heap.size + 1) [.slice none 0 0, .slice none 0 0, .slice none 0 0] (((wn1.setCell ⟨w1.heap.size, 0, none⟩ (.slice a11 L1.length c11)).setCell ⟨w1.heap.size, 1, none⟩ (.slice a21 safe.length c21)).setCell ⟨w1.heap.size, 2, none⟩ (.slice a31 O1.length c31))) := hide (((hr.other 0 _ (by omega)).other 1 _ (by omega)).other 2 _ (by omega))
      have HXy1 : Hid (Below w.heap.size w (((wn1.setCell ⟨w1.heap.size, 0, none⟩ (.slice a11 L1.length c11)).setCell ⟨w1.heap.size, 1, none⟩ (.slice a21 safe.length c21)).setCell ⟨w1.heap.size, 2, none⟩ (.slice a31 O1.length c31)) ∧ w.heap.size + 2 ≤ w1.heap.size ∧ w1.heap.size < (((wn1.setCell ⟨w1.heap.size, 0, none⟩ (.slice a11 L1.length c11)).setCell ⟨w1.heap.size, 1, none⟩ (.slice a21 safe.length c21)).setCell ⟨w1.heap.size, 2, none⟩ (.slice a31 O1.length c31)).heap.size) := hide ⟨(((below_trans HXA.out.1 hb).setCell (p := ⟨w1.heap.size, 0, none⟩) (by show w.heap.size ≤ w1.heap.size; omega) _).setCell (p := ⟨w1.heap.size, 1, none⟩) (by show w.heap.size ≤ w1.heap.size; omega) _).setCell (p := ⟨w1.heap.size, 2, none⟩) (by show w.heap.size ≤ w1.heap.size; omega) _, n1, by rw [size_setCell, size_setCell, size_setCell]; omega⟩
      have HDy1 : Hid (DkAt (((wn1.setCell ⟨w1.heap.size, 0, none⟩ (.slice a11 L1.length c11)).setCell ⟨w1.heap.size, 1, none⟩ (.slice a21 safe.length c21)).setCell ⟨w1.heap.size, 2, none⟩ (.slice a31 O1.length c31)) a11 a21 a31 L1 safe O1) := hide (((hrow.set n2).set n2).set n2).at
      have HCy1 : Hid ((a11 = none → c11 = 0) ∧ (a21 = none → c21 = 0) ∧ (a31 = none → c31 = 0)) := hide (dkAt_caps hrow)
      have HFL : Hid _ := hide hfl
      have HRY : Hid _ := hide hry
      have HRN : Hid _ := hide hrn
      clear hk hx hr n1 n2 n3 hb hrow hfl hry hrn y0 y1 y2
      have k0 := K8y1.out.c 0 _ rfl
      have k1 := K8y1.out.c 1 _ rfl
      have k2 := K8y1.out.c 2 _ rfl
      have x0 := KXy1.out.c 0 _ rfl
      have x1 := KXy1.out.c 1 _ rfl
      have x2 := KXy1.out.c 2 _ rfl
      by_cases hc : actC live ops (oApp nm da) = 0
      · rw [hc]
        have HFz1 : Hid _ := hide (HFL.out hc).1
        have HNz1 : Hid (O1.length ≤ 212) := hide (by have := (HFL.out hc).2; have := HNA.out; omega)
        have HRz1 : Hid _ := hide (HRA.out.trans (HRY.out hc))
        clear HFL HRY HRN hc
        go_wp2_with fail
        obtain ⟨wz1, hwy⟩ : ∃ wy, wy = (((wn1.setCell ⟨w1.heap.size, 0, none⟩ (.slice a11 L1.length c11)).setCell ⟨w1.heap.size, 1, none⟩ (.slice a21 safe.length c21)).setCell ⟨w1.heap.size, 2, none⟩ (.slice a31 O1.length c31)) := ⟨_, rfl⟩
        rw [← hwy] at K8y1 KXy1 KRy1 HXy1 HDy1 k0 k1 k2 x0 x1 x2 ⊢
        clear hwy z0 z1 z2 f0 f1 f2
        have K8z1 : Hid _ := hide K8y1.out
        have KXz1 : Hid _ := hide KXy1.out
        have KRz1 : Hid _ := hide KRy1.out
        have HXz1 : Hid _ := hide HXy1.out
        have HDz1 : Hid _ := hide HDy1.out
        have HCz1 : Hid _ := hide HCy1.out
        clear x0 x1 x2 K8y1 KXy1 KRy1 HXy1 HDy1 HCy1
        refine (l8Act_any a11 a21 a31 c11 c21 c31 L1 safe O1 (oRen nm) wz1 HFz1.out HZ.out.2.1 (by have := HNz1.out; omega) (sm_ren HNM.out.1) HCz1.out.1 HCz1.out.2.1 HCz1.out.2.2 HDz1.out).mono ?_
        rintro e wn2 ⟨hb, v1, v2, v3, rfl, hrow⟩
        obtain ⟨a12, c12, a22, c22, a32, c32, rfl, rfl, rfl⟩ := hrow.open
        have hfl := fun q => act_files (live := L1) (ops := O1) (o := oRen nm) HFz1.out q
        have hry := fun q => actR_yes (l := L1) (os := O1) (t := []) (o := oRen nm) q
        have hrn := fun q => actR_no (l := L1) (os := O1) (t := []) (o := oRen nm) q
        generalize actL L1 O1 (oRen nm) = L2 at *
        generalize actO L1 O1 (oRen nm) = O2 at *
        have hk := K8z1.out.below hb
        have hx := KXz1.out.below hb
        have hr := KRz1.out.below hb
        have n1 := HXz1.out.2.1
        have n2 := HXz1.out.2.2
        have n3 := hb.size
        have z0 := hk.c 0 _ rfl
        have z1 := hk.c 1 _ rfl
        have z2 := hk.c 2 _ rfl
        have f0 := hk.f 0
        have f1 := hk.f 1
        have f2 := hk.f 2
        have K8y2 : Hid (Blk w1.heap.size [.slice a12 L2.length c12, .slice a22 safe.length c22, .slice a32 O2.length c32] (((wn2.setCell ⟨w1.heap.size, 0, none⟩ (.slice a12 L2.length c12)).setCell ⟨w1.heap.size, 1, none⟩ (.slice a22 safe.length c22)).setCell ⟨w1.heap.size, 2, none⟩ (.slice a32 O2.length c32))) := hide (((hk.set 0 (.slice a12 L2.length c12) (by simp)).set 1 (.slice a22 safe.length c22) (by simp)).set 2 (.slice a32 O2.length c32) (by simp))
        have KXy2 : Hid (Blk w.heap.size [.slice la live.length lc, .slice sa safe.length sc, .slice oa ops.length oc] (((wn2.setCell ⟨w1.heap.size, 0, none⟩ (.slice a12 L2.length c12)).setCell ⟨w1.heap.size, 1, none⟩ (.slice a22 safe.length c22)).setCell ⟨w1.heap.size, 2, none⟩ (.slice a32 O2.length c32))) := hide (((hx.other 0 _ (by omega)).other 1 _ (by omega)).other 2 _ (by omega))
        have KRy2 : Hid (Blk (w.heap.size + 1) [.slice none 0 0, .slice none 0 0, .slice none 0 0] (((wn2.setCell ⟨w1.heap.size, 0, none⟩ (.slice a12 L2.length c12)).setCell ⟨w1.heap.size, 1, none⟩ (.slice a22 safe.length c22)).setCell ⟨w1.heap.size, 2, none⟩ (.slice a32 O2.length c32))) := hide (((hr.other 0 _ (by omega)).other 1 _ (by omega)).other 2 _ (by omega))
        have HXy2 : Hid (Below w.heap.size w (((wn2.setCell ⟨w1.heap.size, 0, none⟩ (.slice a12 L2.length c12)).setCell ⟨w1.heap.size, 1, none⟩ (.slice a22 safe.length c22)).setCell ⟨w1.heap.size, 2, none⟩ (.slice a32 O2.length c32)) ∧ w.heap.size + 2 ≤ w1.heap.size ∧ w1.heap.size < (((wn2.setCell ⟨w1.heap.size, 0, none⟩ (.slice a12 L2.length c12)).setCell ⟨w1.heap.size, 1, none⟩ (.slice a22 safe.length c22)).setCell ⟨w1.heap.size, 2, none⟩ (.slice a32 O2.length c32)).heap.size) := hide ⟨(((below_trans HXz1.out.1 hb).setCell (p := ⟨w1.heap.size, 0, none⟩) (by show w.heap.size ≤ w1.heap.size; omega) _).setCell (p := ⟨w1.heap.size, 1, none⟩) (by show w.heap.size ≤ w1.heap.size; omega) _).setCell (p := ⟨w1.heap.size, 2, none⟩) (by show w.heap.size ≤ w1.heap.size; omega) _, n1, by rw [size_setCell, size_setCell, size_setCell]; omega⟩
        have HDy2 : Hid (DkAt (((wn2.setCell ⟨w1.heap.size, 0, none⟩ (.slice a12 L2.length c12)).setCell ⟨w1.heap.size, 1, none⟩ (.slice a22 safe.length c22)).setCell ⟨w1.heap.size, 2, none⟩ (.slice a32 O2.length c32)) a12 a22 a32 L2 safe O2) := hide (((hrow.set n2).set n2).set n2).at
        have HCy2 : Hid ((a12 = none → c12 = 0) ∧ (a22 = none → c22 = 0) ∧ (a32 = none → c32 = 0)) := hide (dkAt_caps hrow)
        have HFL : Hid _ := hide hfl
        have HRY : Hid _ := hide hry
        have HRN : Hid _ := hide hrn
        clear hk hx hr n1 n2 n3 hb hrow hfl hry hrn k0 k1 k2
        have k0 := K8y2.out.c 0 _ rfl
        have k1 := K8y2.out.c 1 _ rfl
        have k2 := K8y2.out.c 2 _ rfl
        have x0 := KXy2.out.c 0 _ rfl
        have x1 := KXy2.out.c 1 _ rfl
        have x2 := KXy2.out.c 2 _ rfl
        by_cases hc : actC L1 O1 (oRen nm) = 0
        · rw [hc]
          have HG : Hid (actR live ops (rOps live nm da) = (L2, O2, 0)) := hide (by rw [HRz1.out, HRY.out hc]; rfl)
          have HNN : Hid (L2.length ≤ 1048576 ∧ O2.length ≤ 1048576) := hide ⟨by have := (filesB_parts (HFL.out hc).1).1; omega, by have := (HFL.out hc).2; have := HNz1.out; omega⟩
          clear HFL HRY HRN hc
          go_wp2_with fail
          obtain ⟨we2, hwy⟩ : ∃ wy, wy = (((wn2.setCell ⟨w1.heap.size, 0, none⟩ (.slice a12 L2.length c12)).setCell ⟨w1.heap.size, 1, none⟩ (.slice a22 safe.length c22)).setCell ⟨w1.heap.size, 2, none⟩ (.slice a32 O2.length c32)) := ⟨_, rfl⟩
          rw [← hwy] at K8y2 KXy2 KRy2 HXy2 HDy2 k0 k1 k2 x0 x1 x2 ⊢
          clear hwy z0 z1 z2 f0 f1 f2
          refine (l8Copy_any a12 a22 a32 c12 c22 c32 L2 safe O2 we2 HNN.out.1 HZ.out.2.1 HNN.out.2 HCy2.out.1 HCy2.out.2.1 HCy2.out.2.2 HDy2.out).mono ?_
          rintro e wc ⟨hbc, v1, v2, v3, rfl, hrow⟩
          obtain ⟨d1, e1, d2, e2, d3, e3, rfl, rfl, rfl⟩ := hrow.open
          obtain ⟨q1, q2, q3, q4⟩ := rep_good HB.out HG.out
          have KRc := KRy2.out.below hbc
          have n1 := HXy2.out
          have HE : Hid (DiskC (repC live safe ops nm da) (repL live safe ops nm da) (repS live safe ops nm da) (repO live safe ops nm da) w (.returned (.tuple #[.agg #[.slice d1 L2.length e1, .slice d2 safe.length e2, .slice d3 O2.length e3], .int .i64 0])) (((wc.setCell ⟨w.heap.size + 1, 0, none⟩ (.slice d1 L2.length e1)).setCell ⟨w.heap.size + 1, 1, none⟩ (.slice d2 safe.length e2)).setCell ⟨w.heap.size + 1, 2, none⟩ (.slice d3 O2.length e3))) := hide (by
              rw [q1, q2, q3, q4]
              exact disk_end2 (below_trans HXy2.out.1 hbc) (by omega) hrow)
          have HS : Hid (∃ Y, (((wc.setCell ⟨w.heap.size + 1, 0, none⟩ (.slice d1 L2.length e1)).setCell ⟨w.heap.size + 1, 1, none⟩ (.slice d2 safe.length e2)).setCell ⟨w.heap.size + 1, 2, none⟩ (.slice d3 O2.length e3)) = Y ∧ Blk (w.heap.size + 1) [.slice d1 L2.length e1, .slice d2 safe.length e2, .slice d3 O2.length e3] Y) := hide ⟨_, rfl, (((KRc).set 0 (.slice d1 L2.length e1) (by simp)).set 1 (.slice d2 safe.length e2) (by simp)).set 2 (.slice d3 O2.length e3) (by simp)⟩
          have y0 := (KRc).c 0 _ rfl
          have y1 := (KRc).c 1 _ rfl
          have y2 := (KRc).c 2 _ rfl
          have f0 := (KRc).f 0
          have f1 := (KRc).f 1
          have f2 := (KRc).f 2
          clear KRc hbc hrow n1
          go_wp2
          obtain ⟨Y, hY, kY⟩ := HS.out
          rw [hY] at HE ⊢
          have z0 := kY.c 0 _ rfl
          have z1 := kY.c 1 _ rfl
          have z2 := kY.c 2 _ rfl
          exact bodyPost_ret (v := .tuple #[.agg #[.slice d1 L2.length e1, .slice d2 safe.length e2, .slice d3 O2.length e3], .int .i64 0]) (by simp [results, Tryz.results8, go_sem, z0, z1, z2]) rfl HE.out
        · have HG : Hid _ := hide (rep_bad HB.out ((congrArg (fun p => p.2.2) HRz1.out).trans (HRN.out hc)) hc)
          have hce : (actC L1 O1 (oRen nm) == 0) = false := by simpa using hc
          have hcn : (actC L1 O1 (oRen nm) != 0) = true := by simpa using hc
          clear hc HFL HRY HRN
          generalize actC L1 O1 (oRen nm) = cc at *
          go_wp2_with fail
          obtain ⟨wf2, hwy⟩ : ∃ wy, wy = (((wn2.setCell ⟨w1.heap.size, 0, none⟩ (.slice a12 L2.length c12)).setCell ⟨w1.heap.size, 1, none⟩ (.slice a22 safe.length c22)).setCell ⟨w1.heap.size, 2, none⟩ (.slice a32 O2.length c32)) := ⟨_, rfl⟩
          rw [← hwy] at K8y2 KXy2 KRy2 HXy2 HDy2 k0 k1 k2 x0 x1 x2 ⊢
          clear hwy z0 z1 z2 f0 f1 f2
          refine (l8Copy_any la sa oa lc sc oc live safe ops wf2 HZ.out.1 HZ.out.2.1 HZ.out.2.2 HC.out.1 HC.out.2.1 HC.out.2.2 (HL.out.below HXy2.out.1)).mono ?_
          rintro e wc ⟨hbc, v1, v2, v3, rfl, hrow⟩
          obtain ⟨d1, e1, d2, e2, d3, e3, rfl, rfl, rfl⟩ := hrow.open
          obtain ⟨q1, q2, q3, q4⟩ := HG.out
          have KRc := KRy2.out.below hbc
          have n1 := HXy2.out
          have HE : Hid (DiskC (repC live safe ops nm da) (repL live safe ops nm da) (repS live safe ops nm da) (repO live safe ops nm da) w (.returned (.tuple #[.agg #[.slice d1 live.length e1, .slice d2 safe.length e2, .slice d3 ops.length e3], .int .i64 cc])) (((wc.setCell ⟨w.heap.size + 1, 0, none⟩ (.slice d1 live.length e1)).setCell ⟨w.heap.size + 1, 1, none⟩ (.slice d2 safe.length e2)).setCell ⟨w.heap.size + 1, 2, none⟩ (.slice d3 ops.length e3))) := hide (by
              rw [q1, q2, q3, q4]
              exact disk_end2 (below_trans HXy2.out.1 hbc) (by omega) hrow)
          have HS : Hid (∃ Y, (((wc.setCell ⟨w.heap.size + 1, 0, none⟩ (.slice d1 live.length e1)).setCell ⟨w.heap.size + 1, 1, none⟩ (.slice d2 safe.length e2)).setCell ⟨w.heap.size + 1, 2, none⟩ (.slice d3 ops.length e3)) = Y ∧ Blk (w.heap.size + 1) [.slice d1 live.length e1, .slice d2 safe.length e2, .slice d3 ops.length e3] Y) := hide ⟨_, rfl, (((KRc).set 0 (.slice d1 live.length e1) (by simp)).set 1 (.slice d2 safe.length e2) (by simp)).set 2 (.slice d3 ops.length e3) (by simp)⟩
          have y0 := (KRc).c 0 _ rfl
          have y1 := (KRc).c 1 _ rfl
          have y2 := (KRc).c 2 _ rfl
          have f0 := (KRc).f 0
          have f1 := (KRc).f 1
          have f2 := (KRc).f 2
          clear KRc hbc hrow n1 q1 q2 q3 q4 HG
          go_wp2
          obtain ⟨Y, hY, kY⟩ := HS.out
          rw [hY] at HE ⊢
          have z0 := kY.c 0 _ rfl
          have z1 := kY.c 1 _ rfl
          have z2 := kY.c 2 _ rfl
          exact bodyPost_ret (v := .tuple #[.agg #[.slice d1 live.length e1, .slice d2 safe.length e2, .slice d3 ops.length e3], .int .i64 cc]) (by simp [results, Tryz.results8, go_sem, z0, z1, z2]) rfl HE.out
      · have HG : Hid _ := hide (rep_bad HB.out ((congrArg (fun p => p.2.2) HRA.out).trans (HRN.out hc)) hc)
        have hce : (actC live ops (oApp nm da) == 0) = false := by simpa using hc
        have hcn : (actC live ops (oApp nm da) != 0) = true := by simpa using hc
        clear hc HFL HRY HRN
        generalize actC live ops (oApp nm da) = cc at *
        go_wp2_with fail
        obtain ⟨wf1, hwy⟩ : ∃ wy, wy = (((wn1.setCell ⟨w1.heap.size, 0, none⟩ (.slice a11 L1.length c11)).setCell ⟨w1.heap.size, 1, none⟩ (.slice a21 safe.length c21)).setCell ⟨w1.heap.size, 2, none⟩ (.slice a31 O1.length c31)) := ⟨_, rfl⟩
        rw [← hwy] at K8y1 KXy1 KRy1 HXy1 HDy1 k0 k1 k2 x0 x1 x2 ⊢
        clear hwy z0 z1 z2 f0 f1 f2
        refine (l8Copy_any la sa oa lc sc oc live safe ops wf1 HZ.out.1 HZ.out.2.1 HZ.out.2.2 HC.out.1 HC.out.2.1 HC.out.2.2 (HL.out.below HXy1.out.1)).mono ?_
        rintro e wc ⟨hbc, v1, v2, v3, rfl, hrow⟩
        obtain ⟨d1, e1, d2, e2, d3, e3, rfl, rfl, rfl⟩ := hrow.open
        obtain ⟨q1, q2, q3, q4⟩ := HG.out
        have KRc := KRy1.out.below hbc
        have n1 := HXy1.out
        have HE : Hid (DiskC (repC live safe ops nm da) (repL live safe ops nm da) (repS live safe ops nm da) (repO live safe ops nm da) w (.returned (.tuple #[.agg #[.slice d1 live.length e1, .slice d2 safe.length e2, .slice d3 ops.length e3], .int .i64 cc])) (((wc.setCell ⟨w.heap.size + 1, 0, none⟩ (.slice d1 live.length e1)).setCell ⟨w.heap.size + 1, 1, none⟩ (.slice d2 safe.length e2)).setCell ⟨w.heap.size + 1, 2, none⟩ (.slice d3 ops.length e3))) := hide (by
            rw [q1, q2, q3, q4]
            exact disk_end2 (below_trans HXy1.out.1 hbc) (by omega) hrow)
        have HS : Hid (∃ Y, (((wc.setCell ⟨w.heap.size + 1, 0, none⟩ (.slice d1 live.length e1)).setCell ⟨w.heap.size + 1, 1, none⟩ (.slice d2 safe.length e2)).setCell ⟨w.heap.size + 1, 2, none⟩ (.slice d3 ops.length e3)) = Y ∧ Blk (w.heap.size + 1) [.slice d1 live.length e1, .slice d2 safe.length e2, .slice d3 ops.length e3] Y) := hide ⟨_, rfl, (((KRc).set 0 (.slice d1 live.length e1) (by simp)).set 1 (.slice d2 safe.length e2) (by simp)).set 2 (.slice d3 ops.length e3) (by simp)⟩
        have y0 := (KRc).c 0 _ rfl
        have y1 := (KRc).c 1 _ rfl
        have y2 := (KRc).c 2 _ rfl
        have f0 := (KRc).f 0
        have f1 := (KRc).f 1
        have f2 := (KRc).f 2
        clear KRc hbc hrow n1 q1 q2 q3 q4 HG
        go_wp2
        obtain ⟨Y, hY, kY⟩ := HS.out
        rw [hY] at HE ⊢
        have z0 := kY.c 0 _ rfl
        have z1 := kY.c 1 _ rfl
        have z2 := kY.c 2 _ rfl
        exact bodyPost_ret (v := .tuple #[.agg #[.slice d1 live.length e1, .slice d2 safe.length e2, .slice d3 ops.length e3], .int .i64 cc]) (by simp [results, Tryz.results8, go_sem, z0, z1, z2]) rfl HE.out
    · have HRA : Hid (actR live ops (rOps live nm da) = actR live ops [oRem nm, oApp nm da, oRen nm]) := hide (by simp [rOps, hh])
      have hi2 : 0 ≤ ixV (atL live (fresh nm)) := by rw [hh] at hix; simpa using hix
      clear hix hh x0 x1 x2 xa0
      generalize ixV (atL live (fresh nm)) = ix at *
      have y0 := K8A.out.c 0 _ rfl
      have y1 := K8A.out.c 1 _ rfl
      have y2 := K8A.out.c 2 _ rfl
      go_wp2_with fail
      refine (l8Act_any la sa oa lc sc oc live safe ops (oRem nm) wA HFA.out HZ.out.2.1 (by have := HNA.out; omega) (sm_rem HNM.out.1) HCA.out.1 HCA.out.2.1 HCA.out.2.2 HDA.out).mono ?_
      rintro e wn3 ⟨hb, v1, v2, v3, rfl, hrow⟩
      obtain ⟨a13, c13, a23, c23, a33, c33, rfl, rfl, rfl⟩ := hrow.open
      have hfl := fun q => act_files (live := live) (ops := ops) (o := oRem nm) HFA.out q
      have hry := fun q => actR_yes (l := live) (os := ops) (t := [oApp nm da, oRen nm]) (o := oRem nm) q
      have hrn := fun q => actR_no (l := live) (os := ops) (t := [oApp nm da, oRen nm]) (o := oRem nm) q
      generalize actL live ops (oRem nm) = L3 at *
      generalize actO live ops (oRem nm) = O3 at *
      have hk := K8A.out.below hb
      have hx := KXA.out.below hb
      have hr := KRA.out.below hb
      have n1 := HXA.out.2.1
      have n2 := HXA.out.2.2
      have n3 := hb.size
      have z0 := hk.c 0 _ rfl
      have z1 := hk.c 1 _ rfl
      have z2 := hk.c 2 _ rfl
      have f0 := hk.f 0
      have f1 := hk.f 1
      have f2 := hk.f 2
      have K8y3 : Hid (Blk w1.heap.size [.slice a13 L3.length c13, .slice a23 safe.length c23, .slice a33 O3.length c33] (((wn3.setCell ⟨w1.heap.size, 0, none⟩ (.slice a13 L3.length c13)).setCell ⟨w1.heap.size, 1, none⟩ (.slice a23 safe.length c23)).setCell ⟨w1.heap.size, 2, none⟩ (.slice a33 O3.length c33))) := hide (((hk.set 0 (.slice a13 L3.length c13) (by simp)).set 1 (.slice a23 safe.length c23) (by simp)).set 2 (.slice a33 O3.length c33) (by simp))
      have KXy3 : Hid (Blk w.heap.size [.slice la live.length lc, .slice sa safe.length sc, .slice oa ops.length oc] (((wn3.setCell ⟨w1.heap.size, 0, none⟩ (.slice a13 L3.length c13)).setCell ⟨w1.heap.size, 1, none⟩ (.slice a23 safe.length c23)).setCell ⟨w1.heap.size, 2, none⟩ (.slice a33 O3.length c33))) := hide (((hx.other 0 _ (by omega)).other 1 _ (by omega)).other 2 _ (by omega))
      have KRy3 : Hid (Blk (w.heap.size + 1) [.slice none 0 0, .slice none 0 0, .slice none 0 0] (((wn3.setCell ⟨w1.heap.size, 0, none⟩ (.slice a13 L3.length c13)).setCell ⟨w1.heap.size, 1, none⟩ (.slice a23 safe.length c23)).setCell ⟨w1.heap.size, 2, none⟩ (.slice a33 O3.length c33))) := hide (((hr.other 0 _ (by omega)).other 1 _ (by omega)).other 2 _ (by omega))
      have HXy3 : Hid (Below w.heap.size w (((wn3.setCell ⟨w1.heap.size, 0, none⟩ (.slice a13 L3.length c13)).setCell ⟨w1.heap.size, 1, none⟩ (.slice a23 safe.length c23)).setCell ⟨w1.heap.size, 2, none⟩ (.slice a33 O3.length c33)) ∧ w.heap.size + 2 ≤ w1.heap.size ∧ w1.heap.size < (((wn3.setCell ⟨w1.heap.size, 0, none⟩ (.slice a13 L3.length c13)).setCell ⟨w1.heap.size, 1, none⟩ (.slice a23 safe.length c23)).setCell ⟨w1.heap.size, 2, none⟩ (.slice a33 O3.length c33)).heap.size) := hide ⟨(((below_trans HXA.out.1 hb).setCell (p := ⟨w1.heap.size, 0, none⟩) (by show w.heap.size ≤ w1.heap.size; omega) _).setCell (p := ⟨w1.heap.size, 1, none⟩) (by show w.heap.size ≤ w1.heap.size; omega) _).setCell (p := ⟨w1.heap.size, 2, none⟩) (by show w.heap.size ≤ w1.heap.size; omega) _, n1, by rw [size_setCell, size_setCell, size_setCell]; omega⟩
      have HDy3 : Hid (DkAt (((wn3.setCell ⟨w1.heap.size, 0, none⟩ (.slice a13 L3.length c13)).setCell ⟨w1.heap.size, 1, none⟩ (.slice a23 safe.length c23)).setCell ⟨w1.heap.size, 2, none⟩ (.slice a33 O3.length c33)) a13 a23 a33 L3 safe O3) := hide (((hrow.set n2).set n2).set n2).at
      have HCy3 : Hid ((a13 = none → c13 = 0) ∧ (a23 = none → c23 = 0) ∧ (a33 = none → c33 = 0)) := hide (dkAt_caps hrow)
      have HFL : Hid _ := hide hfl
      have HRY : Hid _ := hide hry
      have HRN : Hid _ := hide hrn
      clear hk hx hr n1 n2 n3 hb hrow hfl hry hrn y0 y1 y2
      have k0 := K8y3.out.c 0 _ rfl
      have k1 := K8y3.out.c 1 _ rfl
      have k2 := K8y3.out.c 2 _ rfl
      have x0 := KXy3.out.c 0 _ rfl
      have x1 := KXy3.out.c 1 _ rfl
      have x2 := KXy3.out.c 2 _ rfl
      by_cases hc : actC live ops (oRem nm) = 0
      · rw [hc]
        have HFz3 : Hid _ := hide (HFL.out hc).1
        have HNz3 : Hid (O3.length ≤ 211) := hide (by have := (HFL.out hc).2; have := HNA.out; omega)
        have HRz3 : Hid _ := hide (HRA.out.trans (HRY.out hc))
        clear HFL HRY HRN hc
        go_wp2_with fail
        obtain ⟨wz3, hwy⟩ : ∃ wy, wy = (((wn3.setCell ⟨w1.heap.size, 0, none⟩ (.slice a13 L3.length c13)).setCell ⟨w1.heap.size, 1, none⟩ (.slice a23 safe.length c23)).setCell ⟨w1.heap.size, 2, none⟩ (.slice a33 O3.length c33)) := ⟨_, rfl⟩
        rw [← hwy] at K8y3 KXy3 KRy3 HXy3 HDy3 k0 k1 k2 x0 x1 x2 ⊢
        clear hwy z0 z1 z2 f0 f1 f2
        have K8z3 : Hid _ := hide K8y3.out
        have KXz3 : Hid _ := hide KXy3.out
        have KRz3 : Hid _ := hide KRy3.out
        have HXz3 : Hid _ := hide HXy3.out
        have HDz3 : Hid _ := hide HDy3.out
        have HCz3 : Hid _ := hide HCy3.out
        clear x0 x1 x2 K8y3 KXy3 KRy3 HXy3 HDy3 HCy3
        refine (l8Act_any a13 a23 a33 c13 c23 c33 L3 safe O3 (oApp nm da) wz3 HFz3.out HZ.out.2.1 (by have := HNz3.out; omega) (sm_app HNM.out.1 HNM.out.2) HCz3.out.1 HCz3.out.2.1 HCz3.out.2.2 HDz3.out).mono ?_
        rintro e wn4 ⟨hb, v1, v2, v3, rfl, hrow⟩
        obtain ⟨a14, c14, a24, c24, a34, c34, rfl, rfl, rfl⟩ := hrow.open
        have hfl := fun q => act_files (live := L3) (ops := O3) (o := oApp nm da) HFz3.out q
        have hry := fun q => actR_yes (l := L3) (os := O3) (t := [oRen nm]) (o := oApp nm da) q
        have hrn := fun q => actR_no (l := L3) (os := O3) (t := [oRen nm]) (o := oApp nm da) q
        generalize actL L3 O3 (oApp nm da) = L4 at *
        generalize actO L3 O3 (oApp nm da) = O4 at *
        have hk := K8z3.out.below hb
        have hx := KXz3.out.below hb
        have hr := KRz3.out.below hb
        have n1 := HXz3.out.2.1
        have n2 := HXz3.out.2.2
        have n3 := hb.size
        have z0 := hk.c 0 _ rfl
        have z1 := hk.c 1 _ rfl
        have z2 := hk.c 2 _ rfl
        have f0 := hk.f 0
        have f1 := hk.f 1
        have f2 := hk.f 2
        have K8y4 : Hid (Blk w1.heap.size [.slice a14 L4.length c14, .slice a24 safe.length c24, .slice a34 O4.length c34] (((wn4.setCell ⟨w1.heap.size, 0, none⟩ (.slice a14 L4.length c14)).setCell ⟨w1.heap.size, 1, none⟩ (.slice a24 safe.length c24)).setCell ⟨w1.heap.size, 2, none⟩ (.slice a34 O4.length c34))) := hide (((hk.set 0 (.slice a14 L4.length c14) (by simp)).set 1 (.slice a24 safe.length c24) (by simp)).set 2 (.slice a34 O4.length c34) (by simp))
        have KXy4 : Hid (Blk w.heap.size [.slice la live.length lc, .slice sa safe.length sc, .slice oa ops.length oc] (((wn4.setCell ⟨w1.heap.size, 0, none⟩ (.slice a14 L4.length c14)).setCell ⟨w1.heap.size, 1, none⟩ (.slice a24 safe.length c24)).setCell ⟨w1.heap.size, 2, none⟩ (.slice a34 O4.length c34))) := hide (((hx.other 0 _ (by omega)).other 1 _ (by omega)).other 2 _ (by omega))
        have KRy4 : Hid (Blk (w.heap.size + 1) [.slice none 0 0, .slice none 0 0, .slice none 0 0] (((wn4.setCell ⟨w1.heap.size, 0, none⟩ (.slice a14 L4.length c14)).setCell ⟨w1.heap.size, 1, none⟩ (.slice a24 safe.length c24)).setCell ⟨w1.heap.size, 2, none⟩ (.slice a34 O4.length c34))) := hide (((hr.other 0 _ (by omega)).other 1 _ (by omega)).other 2 _ (by omega))
        have HXy4 : Hid (Below w.heap.size w (((wn4.setCell ⟨w1.heap.size, 0, none⟩ (.slice a14 L4.length c14)).setCell ⟨w1.heap.size, 1, none⟩ (.slice a24 safe.length c24)).setCell ⟨w1.heap.size, 2, none⟩ (.slice a34 O4.length c34)) ∧ w.heap.size + 2 ≤ w1.heap.size ∧ w1.heap.size < (((wn4.setCell ⟨w1.heap.size, 0, none⟩ (.slice a14 L4.length c14)).setCell ⟨w1.heap.size, 1, none⟩ (.slice a24 safe.length c24)).setCell ⟨w1.heap.size, 2, none⟩ (.slice a34 O4.length c34)).heap.size) := hide ⟨(((below_trans HXz3.out.1 hb).setCell (p := ⟨w1.heap.size, 0, none⟩) (by show w.heap.size ≤ w1.heap.size; omega) _).setCell (p := ⟨w1.heap.size, 1, none⟩) (by show w.heap.size ≤ w1.heap.size; omega) _).setCell (p := ⟨w1.heap.size, 2, none⟩) (by show w.heap.size ≤ w1.heap.size; omega) _, n1, by rw [size_setCell, size_setCell, size_setCell]; omega⟩
        have HDy4 : Hid (DkAt (((wn4.setCell ⟨w1.heap.size, 0, none⟩ (.slice a14 L4.length c14)).setCell ⟨w1.heap.size, 1, none⟩ (.slice a24 safe.length c24)).setCell ⟨w1.heap.size, 2, none⟩ (.slice a34 O4.length c34)) a14 a24 a34 L4 safe O4) := hide (((hrow.set n2).set n2).set n2).at
        have HCy4 : Hid ((a14 = none → c14 = 0) ∧ (a24 = none → c24 = 0) ∧ (a34 = none → c34 = 0)) := hide (dkAt_caps hrow)
        have HFL : Hid _ := hide hfl
        have HRY : Hid _ := hide hry
        have HRN : Hid _ := hide hrn
        clear hk hx hr n1 n2 n3 hb hrow hfl hry hrn k0 k1 k2
        have k0 := K8y4.out.c 0 _ rfl
        have k1 := K8y4.out.c 1 _ rfl
        have k2 := K8y4.out.c 2 _ rfl
        have x0 := KXy4.out.c 0 _ rfl
        have x1 := KXy4.out.c 1 _ rfl
        have x2 := KXy4.out.c 2 _ rfl
        by_cases hc : actC L3 O3 (oApp nm da) = 0
        · rw [hc]
          have HFz4 : Hid _ := hide (HFL.out hc).1
          have HNz4 : Hid (O4.length ≤ 212) := hide (by have := (HFL.out hc).2; have := HNz3.out; omega)
          have HRz4 : Hid _ := hide (HRz3.out.trans (HRY.out hc))
          clear HFL HRY HRN hc
          go_wp2_with fail
          obtain ⟨wz4, hwy⟩ : ∃ wy, wy = (((wn4.setCell ⟨w1.heap.size, 0, none⟩ (.slice a14 L4.length c14)).setCell ⟨w1.heap.size, 1, none⟩ (.slice a24 safe.length c24)).setCell ⟨w1.heap.size, 2, none⟩ (.slice a34 O4.length c34)) := ⟨_, rfl⟩
          rw [← hwy] at K8y4 KXy4 KRy4 HXy4 HDy4 k0 k1 k2 x0 x1 x2 ⊢
          clear hwy z0 z1 z2 f0 f1 f2
          have K8z4 : Hid _ := hide K8y4.out
          have KXz4 : Hid _ := hide KXy4.out
          have KRz4 : Hid _ := hide KRy4.out
          have HXz4 : Hid _ := hide HXy4.out
          have HDz4 : Hid _ := hide HDy4.out
          have HCz4 : Hid _ := hide HCy4.out
          clear x0 x1 x2 K8y4 KXy4 KRy4 HXy4 HDy4 HCy4
          refine (l8Act_any a14 a24 a34 c14 c24 c34 L4 safe O4 (oRen nm) wz4 HFz4.out HZ.out.2.1 (by have := HNz4.out; omega) (sm_ren HNM.out.1) HCz4.out.1 HCz4.out.2.1 HCz4.out.2.2 HDz4.out).mono ?_
          rintro e wn5 ⟨hb, v1, v2, v3, rfl, hrow⟩
          obtain ⟨a15, c15, a25, c25, a35, c35, rfl, rfl, rfl⟩ := hrow.open
          have hfl := fun q => act_files (live := L4) (ops := O4) (o := oRen nm) HFz4.out q
          have hry := fun q => actR_yes (l := L4) (os := O4) (t := []) (o := oRen nm) q
          have hrn := fun q => actR_no (l := L4) (os := O4) (t := []) (o := oRen nm) q
          generalize actL L4 O4 (oRen nm) = L5 at *
          generalize actO L4 O4 (oRen nm) = O5 at *
          have hk := K8z4.out.below hb
          have hx := KXz4.out.below hb
          have hr := KRz4.out.below hb
          have n1 := HXz4.out.2.1
          have n2 := HXz4.out.2.2
          have n3 := hb.size
          have z0 := hk.c 0 _ rfl
          have z1 := hk.c 1 _ rfl
          have z2 := hk.c 2 _ rfl
          have f0 := hk.f 0
          have f1 := hk.f 1
          have f2 := hk.f 2
          have K8y5 : Hid (Blk w1.heap.size [.slice a15 L5.length c15, .slice a25 safe.length c25, .slice a35 O5.length c35] (((wn5.setCell ⟨w1.heap.size, 0, none⟩ (.slice a15 L5.length c15)).setCell ⟨w1.heap.size, 1, none⟩ (.slice a25 safe.length c25)).setCell ⟨w1.heap.size, 2, none⟩ (.slice a35 O5.length c35))) := hide (((hk.set 0 (.slice a15 L5.length c15) (by simp)).set 1 (.slice a25 safe.length c25) (by simp)).set 2 (.slice a35 O5.length c35) (by simp))
          have KXy5 : Hid (Blk w.heap.size [.slice la live.length lc, .slice sa safe.length sc, .slice oa ops.length oc] (((wn5.setCell ⟨w1.heap.size, 0, none⟩ (.slice a15 L5.length c15)).setCell ⟨w1.heap.size, 1, none⟩ (.slice a25 safe.length c25)).setCell ⟨w1.heap.size, 2, none⟩ (.slice a35 O5.length c35))) := hide (((hx.other 0 _ (by omega)).other 1 _ (by omega)).other 2 _ (by omega))
          have KRy5 : Hid (Blk (w.heap.size + 1) [.slice none 0 0, .slice none 0 0, .slice none 0 0] (((wn5.setCell ⟨w1.heap.size, 0, none⟩ (.slice a15 L5.length c15)).setCell ⟨w1.heap.size, 1, none⟩ (.slice a25 safe.length c25)).setCell ⟨w1.heap.size, 2, none⟩ (.slice a35 O5.length c35))) := hide (((hr.other 0 _ (by omega)).other 1 _ (by omega)).other 2 _ (by omega))
          have HXy5 : Hid (Below w.heap.size w (((wn5.setCell ⟨w1.heap.size, 0, none⟩ (.slice a15 L5.length c15)).setCell ⟨w1.heap.size, 1, none⟩ (.slice a25 safe.length c25)).setCell ⟨w1.heap.size, 2, none⟩ (.slice a35 O5.length c35)) ∧ w.heap.size + 2 ≤ w1.heap.size ∧ w1.heap.size < (((wn5.setCell ⟨w1.heap.size, 0, none⟩ (.slice a15 L5.length c15)).setCell ⟨w1.heap.size, 1, none⟩ (.slice a25 safe.length c25)).setCell ⟨w1.heap.size, 2, none⟩ (.slice a35 O5.length c35)).heap.size) := hide ⟨(((below_trans HXz4.out.1 hb).setCell (p := ⟨w1.heap.size, 0, none⟩) (by show w.heap.size ≤ w1.heap.size; omega) _).setCell (p := ⟨w1.heap.size, 1, none⟩) (by show w.heap.size ≤ w1.heap.size; omega) _).setCell (p := ⟨w1.heap.size, 2, none⟩) (by show w.heap.size ≤ w1.heap.size; omega) _, n1, by rw [size_setCell, size_setCell, size_setCell]; omega⟩
          have HDy5 : Hid (DkAt (((wn5.setCell ⟨w1.heap.size, 0, none⟩ (.slice a15 L5.length c15)).setCell ⟨w1.heap.size, 1, none⟩ (.slice a25 safe.length c25)).setCell ⟨w1.heap.size, 2, none⟩ (.slice a35 O5.length c35)) a15 a25 a35 L5 safe O5) := hide (((hrow.set n2).set n2).set n2).at
          have HCy5 : Hid ((a15 = none → c15 = 0) ∧ (a25 = none → c25 = 0) ∧ (a35 = none → c35 = 0)) := hide (dkAt_caps hrow)
          have HFL : Hid _ := hide hfl
          have HRY : Hid _ := hide hry
          have HRN : Hid _ := hide hrn
          clear hk hx hr n1 n2 n3 hb hrow hfl hry hrn k0 k1 k2
          have k0 := K8y5.out.c 0 _ rfl
          have k1 := K8y5.out.c 1 _ rfl
          have k2 := K8y5.out.c 2 _ rfl
          have x0 := KXy5.out.c 0 _ rfl
          have x1 := KXy5.out.c 1 _ rfl
          have x2 := KXy5.out.c 2 _ rfl
          by_cases hc : actC L4 O4 (oRen nm) = 0
          · rw [hc]
            have HG : Hid (actR live ops (rOps live nm da) = (L5, O5, 0)) := hide (by rw [HRz4.out, HRY.out hc]; rfl)
            have HNN : Hid (L5.length ≤ 1048576 ∧ O5.length ≤ 1048576) := hide ⟨by have := (filesB_parts (HFL.out hc).1).1; omega, by have := (HFL.out hc).2; have := HNz4.out; omega⟩
            clear HFL HRY HRN hc
            go_wp2_with fail
            obtain ⟨we5, hwy⟩ : ∃ wy, wy = (((wn5.setCell ⟨w1.heap.size, 0, none⟩ (.slice a15 L5.length c15)).setCell ⟨w1.heap.size, 1, none⟩ (.slice a25 safe.length c25)).setCell ⟨w1.heap.size, 2, none⟩ (.slice a35 O5.length c35)) := ⟨_, rfl⟩
            rw [← hwy] at K8y5 KXy5 KRy5 HXy5 HDy5 k0 k1 k2 x0 x1 x2 ⊢
            clear hwy z0 z1 z2 f0 f1 f2
            refine (l8Copy_any a15 a25 a35 c15 c25 c35 L5 safe O5 we5 HNN.out.1 HZ.out.2.1 HNN.out.2 HCy5.out.1 HCy5.out.2.1 HCy5.out.2.2 HDy5.out).mono ?_
            rintro e wc ⟨hbc, v1, v2, v3, rfl, hrow⟩
            obtain ⟨d1, e1, d2, e2, d3, e3, rfl, rfl, rfl⟩ := hrow.open
            obtain ⟨q1, q2, q3, q4⟩ := rep_good HB.out HG.out
            have KRc := KRy5.out.below hbc
            have n1 := HXy5.out
            have HE : Hid (DiskC (repC live safe ops nm da) (repL live safe ops nm da) (repS live safe ops nm da) (repO live safe ops nm da) w (.returned (.tuple #[.agg #[.slice d1 L5.length e1, .slice d2 safe.length e2, .slice d3 O5.length e3], .int .i64 0])) (((wc.setCell ⟨w.heap.size + 1, 0, none⟩ (.slice d1 L5.length e1)).setCell ⟨w.heap.size + 1, 1, none⟩ (.slice d2 safe.length e2)).setCell ⟨w.heap.size + 1, 2, none⟩ (.slice d3 O5.length e3))) := hide (by
                rw [q1, q2, q3, q4]
                exact disk_end2 (below_trans HXy5.out.1 hbc) (by omega) hrow)
            have HS : Hid (∃ Y, (((wc.setCell ⟨w.heap.size + 1, 0, none⟩ (.slice d1 L5.length e1)).setCell ⟨w.heap.size + 1, 1, none⟩ (.slice d2 safe.length e2)).setCell ⟨w.heap.size + 1, 2, none⟩ (.slice d3 O5.length e3)) = Y ∧ Blk (w.heap.size + 1) [.slice d1 L5.length e1, .slice d2 safe.length e2, .slice d3 O5.length e3] Y) := hide ⟨_, rfl, (((KRc).set 0 (.slice d1 L5.length e1) (by simp)).set 1 (.slice d2 safe.length e2) (by simp)).set 2 (.slice d3 O5.length e3) (by simp)⟩
            have y0 := (KRc).c 0 _ rfl
            have y1 := (KRc).c 1 _ rfl
            have y2 := (KRc).c 2 _ rfl
            have f0 := (KRc).f 0
            have f1 := (KRc).f 1
            have f2 := (KRc).f 2
            clear KRc hbc hrow n1
            go_wp2
            obtain ⟨Y, hY, kY⟩ := HS.out
            rw [hY] at HE ⊢
            have z0 := kY.c 0 _ rfl
            have z1 := kY.c 1 _ rfl
            have z2 := kY.c 2 _ rfl
            exact bodyPost_ret (v := .tuple #[.agg #[.slice d1 L5.length e1, .slice d2 safe.length e2, .slice d3 O5.length e3], .int .i64 0]) (by simp [results, Tryz.results8, go_sem, z0, z1, z2]) rfl HE.out
          · have HG : Hid _ := hide (rep_bad HB.out ((congrArg (fun p => p.2.2) HRz4.out).trans (HRN.out hc)) hc)
            have hce : (actC L4 O4 (oRen nm) == 0) = false := by simpa using hc
            have hcn : (actC L4 O4 (oRen nm) != 0) = true := by simpa using hc
            clear hc HFL HRY HRN
            generalize actC L4 O4 (oRen nm) = cc at *
            go_wp2_with fail
            obtain ⟨wf5, hwy⟩ : ∃ wy, wy = (((wn5.setCell ⟨w1.heap.size, 0, none⟩ (.slice a15 L5.length c15)).setCell ⟨w1.heap.size, 1, none⟩ (.slice a25 safe.length c25)).setCell ⟨w1.heap.size, 2, none⟩ (.slice a35 O5.length c35)) := ⟨_, rfl⟩
            rw [← hwy] at K8y5 KXy5 KRy5 HXy5 HDy5 k0 k1 k2 x0 x1 x2 ⊢
            clear hwy z0 z1 z2 f0 f1 f2
            refine (l8Copy_any la sa oa lc sc oc live safe ops wf5 HZ.out.1 HZ.out.2.1 HZ.out.2.2 HC.out.1 HC.out.2.1 HC.out.2.2 (HL.out.below HXy5.out.1)).mono ?_
            rintro e wc ⟨hbc, v1, v2, v3, rfl, hrow⟩
            obtain ⟨d1, e1, d2, e2, d3, e3, rfl, rfl, rfl⟩ := hrow.open
            obtain ⟨q1, q2, q3, q4⟩ := HG.out
            have KRc := KRy5.out.below hbc
            have n1 := HXy5.out
            have HE : Hid (DiskC (repC live safe ops nm da) (repL live safe ops nm da) (repS live safe ops nm da) (repO live safe ops nm da) w (.returned (.tuple #[.agg #[.slice d1 live.length e1, .slice d2 safe.length e2, .slice d3 ops.length e3], .int .i64 cc])) (((wc.setCell ⟨w.heap.size + 1, 0, none⟩ (.slice d1 live.length e1)).setCell ⟨w.heap.size + 1, 1, none⟩ (.slice d2 safe.length e2)).setCell ⟨w.heap.size + 1, 2, none⟩ (.slice d3 ops.length e3))) := hide (by
                rw [q1, q2, q3, q4]
                exact disk_end2 (below_trans HXy5.out.1 hbc) (by omega) hrow)
            have HS : Hid (∃ Y, (((wc.setCell ⟨w.heap.size + 1, 0, none⟩ (.slice d1 live.length e1)).setCell ⟨w.heap.size + 1, 1, none⟩ (.slice d2 safe.length e2)).setCell ⟨w.heap.size + 1, 2, none⟩ (.slice d3 ops.length e3)) = Y ∧ Blk (w.heap.size + 1) [.slice d1 live.length e1, .slice d2 safe.length e2, .slice d3 ops.length e3] Y) := hide ⟨_, rfl, (((KRc).set 0 (.slice d1 live.length e1) (by simp)).set 1 (.slice d2 safe.length e2) (by simp)).set 2 (.slice d3 ops.length e3) (by simp)⟩
            have y0 := (KRc).c 0 _ rfl
            have y1 := (KRc).c 1 _ rfl
            have y2 := (KRc).c 2 _ rfl
            have f0 := (KRc).f 0
            have f1 := (KRc).f 1
            have f2 := (KRc).f 2
            clear KRc hbc hrow n1 q1 q2 q3 q4 HG
            go_wp2
            obtain ⟨Y, hY, kY⟩ := HS.out
            rw [hY] at HE ⊢
            have z0 := kY.c 0 _ rfl
            have z1 := kY.c 1 _ rfl
            have z2 := kY.c 2 _ rfl
            exact bodyPost_ret (v := .tuple #[.agg #[.slice d1 live.length e1, .slice d2 safe.length e2, .slice d3 ops.length e3], .int .i64 cc]) (by simp [results, Tryz.results8, go_sem, z0, z1, z2]) rfl HE.out
        · have HG : Hid _ := hide (rep_bad HB.out ((congrArg (fun p => p.2.2) HRz3.out).trans (HRN.out hc)) hc)
          have hce : (actC L3 O3 (oApp nm da) == 0) = false := by simpa using hc
          have hcn : (actC L3 O3 (oApp nm da) != 0) = true := by simpa using hc
          clear hc HFL HRY HRN
          generalize actC L3 O3 (oApp nm da) = cc at *
          go_wp2_with fail
          obtain ⟨wf4, hwy⟩ : ∃ wy, wy = (((wn4.setCell ⟨w1.heap.size, 0, none⟩ (.slice a14 L4.length c14)).setCell ⟨w1.heap.size, 1, none⟩ (.slice a24 safe.length c24)).setCell ⟨w1.heap.size, 2, none⟩ (.slice a34 O4.length c34)) := ⟨_, rfl⟩
          rw [← hwy] at K8y4 KXy4 KRy4 HXy4 HDy4 k0 k1 k2 x0 x1 x2 ⊢
          clear hwy z0 z1 z2 f0 f1 f2
          refine (l8Copy_any la sa oa lc sc oc live safe ops wf4 HZ.out.1 HZ.out.2.1 HZ.out.2.2 HC.out.1 HC.out.2.1 HC.out.2.2 (HL.out.below HXy4.out.1)).mono ?_
          rintro e wc ⟨hbc, v1, v2, v3, rfl, hrow⟩
          obtain ⟨d1, e1, d2, e2, d3, e3, rfl, rfl, rfl⟩ := hrow.open
          obtain ⟨q1, q2, q3, q4⟩ := HG.out
          have KRc := KRy4.out.below hbc
          have n1 := HXy4.out
          have HE : Hid (DiskC (repC live safe ops nm da) (repL live safe ops nm da) (repS live safe ops nm da) (repO live safe ops nm da) w (.returned (.tuple #[.agg #[.slice d1 live.length e1, .slice d2 safe.length e2, .slice d3 ops.length e3], .int .i64 cc])) (((wc.setCell ⟨w.heap.size + 1, 0, none⟩ (.slice d1 live.length e1)).setCell ⟨w.heap.size + 1, 1, none⟩ (.slice d2 safe.length e2)).setCell ⟨w.heap.size + 1, 2, none⟩ (.slice d3 ops.length e3))) := hide (by
              rw [q1, q2, q3, q4]
              exact disk_end2 (below_trans HXy4.out.1 hbc) (by omega) hrow)
          have HS : Hid (∃ Y, (((wc.setCell ⟨w.heap.size + 1, 0, none⟩ (.slice d1 live.length e1)).setCell ⟨w.heap.size + 1, 1, none⟩ (.slice d2 safe.length e2)).setCell ⟨w.heap.size + 1, 2, none⟩ (.slice d3 ops.length e3)) = Y ∧ Blk (w.heap.size + 1) [.slice d1 live.length e1, .slice d2 safe.length e2, .slice d3 ops.length e3] Y) := hide ⟨_, rfl, (((KRc).set 0 (.slice d1 live.length e1) (by simp)).set 1 (.slice d2 safe.length e2) (by simp)).set 2 (.slice d3 ops.length e3) (by simp)⟩
          have y0 := (KRc).c 0 _ rfl
          have y1 := (KRc).c 1 _ rfl
          have y2 := (KRc).c 2 _ rfl
          have f0 := (KRc).f 0
          have f1 := (KRc).f 1
          have f2 := (KRc).f 2
          clear KRc hbc hrow n1 q1 q2 q3 q4 HG
          go_wp2
          obtain ⟨Y, hY, kY⟩ := HS.out
          rw [hY] at HE ⊢
          have z0 := kY.c 0 _ rfl
          have z1 := kY.c 1 _ rfl
          have z2 := kY.c 2 _ rfl
          exact bodyPost_ret (v := .tuple #[.agg #[.slice d1 live.length e1, .slice d2 safe.length e2, .slice d3 ops.length e3], .int .i64 cc]) (by simp [results, Tryz.results8, go_sem, z0, z1, z2]) rfl HE.out
      · have HG : Hid _ := hide (rep_bad HB.out ((congrArg (fun p => p.2.2) HRA.out).trans (HRN.out hc)) hc)
        have hce : (actC live ops (oRem nm) == 0) = false := by simpa using hc
        have hcn : (actC live ops (oRem nm) != 0) = true := by simpa using hc
        clear hc HFL HRY HRN
        generalize actC live ops (oRem nm) = cc at *
        go_wp2_with fail
        obtain ⟨wf3, hwy⟩ : ∃ wy, wy = (((wn3.setCell ⟨w1.heap.size, 0, none⟩ (.slice a13 L3.length c13)).setCell ⟨w1.heap.size, 1, none⟩ (.slice a23 safe.length c23)).setCell ⟨w1.heap.size, 2, none⟩ (.slice a33 O3.length c33)) := ⟨_, rfl⟩
        rw [← hwy] at K8y3 KXy3 KRy3 HXy3 HDy3 k0 k1 k2 x0 x1 x2 ⊢
        clear hwy z0 z1 z2 f0 f1 f2
        refine (l8Copy_any la sa oa lc sc oc live safe ops wf3 HZ.out.1 HZ.out.2.1 HZ.out.2.2 HC.out.1 HC.out.2.1 HC.out.2.2 (HL.out.below HXy3.out.1)).mono ?_
        rintro e wc ⟨hbc, v1, v2, v3, rfl, hrow⟩
        obtain ⟨d1, e1, d2, e2, d3, e3, rfl, rfl, rfl⟩ := hrow.open
        obtain ⟨q1, q2, q3, q4⟩ := HG.out
        have KRc := KRy3.out.below hbc
        have n1 := HXy3.out
        have HE : Hid (DiskC (repC live safe ops nm da) (repL live safe ops nm da) (repS live safe ops nm da) (repO live safe ops nm da) w (.returned (.tuple #[.agg #[.slice d1 live.length e1, .slice d2 safe.length e2, .slice d3 ops.length e3], .int .i64 cc])) (((wc.setCell ⟨w.heap.size + 1, 0, none⟩ (.slice d1 live.length e1)).setCell ⟨w.heap.size + 1, 1, none⟩ (.slice d2 safe.length e2)).setCell ⟨w.heap.size + 1, 2, none⟩ (.slice d3 ops.length e3))) := hide (by
            rw [q1, q2, q3, q4]
            exact disk_end2 (below_trans HXy3.out.1 hbc) (by omega) hrow)
        have HS : Hid (∃ Y, (((wc.setCell ⟨w.heap.size + 1, 0, none⟩ (.slice d1 live.length e1)).setCell ⟨w.heap.size + 1, 1, none⟩ (.slice d2 safe.length e2)).setCell ⟨w.heap.size + 1, 2, none⟩ (.slice d3 ops.length e3)) = Y ∧ Blk (w.heap.size + 1) [.slice d1 live.length e1, .slice d2 safe.length e2, .slice d3 ops.length e3] Y) := hide ⟨_, rfl, (((KRc).set 0 (.slice d1 live.length e1) (by simp)).set 1 (.slice d2 safe.length e2) (by simp)).set 2 (.slice d3 ops.length e3) (by simp)⟩
        have y0 := (KRc).c 0 _ rfl
        have y1 := (KRc).c 1 _ rfl
        have y2 := (KRc).c 2 _ rfl
        have f0 := (KRc).f 0
        have f1 := (KRc).f 1
        have f2 := (KRc).f 2
        clear KRc hbc hrow n1 q1 q2 q3 q4 HG
        go_wp2
        obtain ⟨Y, hY, kY⟩ := HS.out
        rw [hY] at HE ⊢
        have z0 := kY.c 0 _ rfl
        have z1 := kY.c 1 _ rfl
        have z2 := kY.c 2 _ rfl
        exact bodyPost_ret (v := .tuple #[.agg #[.slice d1 live.length e1, .slice d2 safe.length e2, .slice d3 ops.length e3], .int .i64 cc]) (by simp [results, Tryz.results8, go_sem, z0, z1, z2]) rfl HE.out
end Go.Proofs.YtiilkkdbifhojaaGreat
/- The program's Replace. -/
namespace Go.Proofs.YtiilkkdbifhojaaGreat
open Go.ChangeShapes Go.WideShapes Go.ChangeAt Go.RowKit
set_option linter.unusedVariables false
set_option maxRecDepth 100000
theorem smD_do2 {live safe : List Fl} {ops : List Dp} {o : Dp} (h : SmD live safe ops) (ho : SmO o) : SmD (doLv live safe ops o) (doSv live safe ops o) (doOv live safe ops o) := by
  cases hB : diskB ⟨live, safe, ops⟩
  · obtain ⟨_, e2, e3, e4⟩ := do_no (o := o) hB
    rw [e2, e3, e4]
    exact ⟨⟨by simp, fun x hx => by simp at hx⟩, ⟨by simp, fun x hx => by simp at hx⟩, by simp, fun x hx => by simp at hx⟩
  · obtain ⟨_, e2, e3, e4⟩ := do_yes (o := o) hB
    obtain ⟨q1, q2, q3⟩ := diskB_parts hB
    rw [e2, e3, e4]
    refine ⟨?_, h.2.1, ?_⟩
    · by_cases hc : actC live ops o = 0
      · rw [(act_yes hc).1]
        have hf : filesB (doL live o).1 = true := by
          rcases did_act (ops := ops) (o := o) q1 with ⟨_, a⟩ | ⟨_, a⟩ | ⟨_, a⟩ | ⟨_, _, _, f⟩
          · rw [a] at hc; cases hc
          · rw [a] at hc; cases hc
          · rw [a] at hc; cases hc
          · exact f
        exact ⟨by have := (filesB_parts hf).1; omega, fun f hm => by have := filesB_small hf f hm; exact ⟨by omega, by omega⟩⟩
      · rw [(act_no rfl hc).1]; exact h.1
    · by_cases hc : actC live ops o = 0
      · rw [(act_yes hc).2]
        exact ⟨by simp; omega, fun x hx => by
          rcases List.mem_append.1 hx with k | k
          · exact h.2.2.2 x k
          · simp at k; rw [k]; exact ho⟩
      · rw [(act_no rfl hc).2]; exact h.2.2
theorem news_new {w : World} {cur : List Value} {T : TypeId} (j : Nat) (u : Value) (hj : cur[j]? = some u) : (w.alloc (.cells cur.toArray T)).cell? ((⟨w.heap.size, 0, none⟩ : Addr).add j) = some u := by
  rw [addr_add, Nat.zero_add]
  exact Blk.new.c j u hj
theorem rOps_sm {live : List Fl} {nm da : ByteArray} (h : nm.size ≤ 1048576) (hd : da.size ≤ 1048576) : ∀ o ∈ rOps live nm da, SmO o := fun o ho => by
  unfold rOps at ho
  rcases List.mem_append.1 ho with k | k
  · split at k
    · simp at k; rw [k]; exact sm_rem h
    · simp at k
  · simp at k
    rcases k with k | k
    · rw [k]; exact sm_app h hd
    · rw [k]; exact sm_ren h
theorem rOps_len {live : List Fl} {nm da : ByteArray} : 0 < (rOps live nm da).length ∧ (rOps live nm da).length ≤ 3 := by
  unfold rOps
  split <;> simp
theorem act_disk {live safe : List Fl} {ops : List Dp} {o : Dp} (h : diskB ⟨live, safe, ops⟩ = true) (hc : actC live ops o = 0) : diskB ⟨actL live ops o, safe, actO live ops o⟩ = true := by
  obtain ⟨q1, q2, q3⟩ := diskB_parts h
  have hr : isRun (runL safe ops) live = true := by
    simp only [diskB, Bool.and_eq_true] at h
    exact h.2
  have hc' := hc
  rw [(act_yes hc).1, (act_yes hc).2]
  rcases did_act (ops := ops) (o := o) q1 with ⟨_, a⟩ | ⟨_, a⟩ | ⟨_, a⟩ | ⟨_, hf, hd, hfl⟩
  · rw [a] at hc; cases hc
  · rw [a] at hc; cases hc
  · rw [a] at hc; cases hc
  have h200 : ¬ ops.length = 200 := fun e => by
    simp [actC, hf, hd, e] at hc'
  have hs : stepL live o = some (doL live o).1 := by simp [stepL, hf, hd, hfl]
  have hru : runL safe ops = some live := by
    cases e : runL safe ops with
    | none => rw [e] at hr; cases hr
    | some l => rw [e] at hr; simp [isRun] at hr; rw [hr]
  have h1 : runL safe (ops ++ [o]) = some (doL live o).1 := by
    rw [runL_append, hru]
    simp [runL, hs]
  simp only [diskB, Bool.and_eq_true, decide_eq_true_eq]
  refine ⟨⟨⟨hfl, q2⟩, by simp; omega⟩, ?_⟩
  show isRun (runL safe (ops ++ [o])) (doL live o).1 = true
  rw [h1]
  simp [isRun]
set_option maxHeartbeats 4000000 in
theorem replacing_any (la sa oa : Option Addr) (lc sc oc : Nat) (live safe : List Fl) (ops : List Dp) (nm da : ByteArray) (w : World) (hnm : nm.size ≤ 1048576) (hl : live.length ≤ 1048576) (h : RowAt 2 flCells w la live) :
    Calls Tryz.prog 18 #[.agg #[.slice la live.length lc, .slice sa safe.length sc, .slice oa ops.length oc], .string nm, .string da] w fun e w' => NewO (rOps live nm da) w e w' := by
  have HL : Hid _ := hide h
  clear h
  have HX0 : Hid (Below w.heap.size w (w.alloc (.cells #[.slice la live.length lc, .slice sa safe.length sc, .slice oa ops.length oc] 27))) := hide (below_alloc (Below.refl _ _) _)
  obtain ⟨j0, hj0, hy0, hy1, hy2⟩ := info_parts infoO
  have hv := huO
  go_enter Tryz.func18, Tryz.ntmps18
  go_wp2_with fail
  refine (dataOf_any la live lc (fresh nm) _ hl (HL.out.below HX0.out)).mono ?_
  rintro e w1 ⟨rfl, hb1⟩
  have HX1 : Hid _ := hide (below_trans HX0.out hb1)
  clear hb1 HX0
  generalize (fndS live (fresh nm)).1 = ds at *
  cases hh : (fndS live (fresh nm)).2
  · have HR : Hid (rOps live nm da = [oApp nm da, oRen nm]) := hide (by simp [rOps, hh])
    clear hh
    go_wp2_with (first | (at_builtin; refine Shut2.mk ?_) | fail)
    refine Shut2.mk' ?_
    refine wpList_append_own_at _ rfl _ _ 25 rfl w.heap.size 50 j0 _ 4 56 hv hj0 hy0 hy1 hy2 rfl (by decide) (.slice none 0 0) 0 [] rfl ⟨by simp, .inl ⟨rfl, rfl⟩⟩ ⟨w1.heap.size, 0, none⟩ 2 2 [.int .i64 (oApp nm da).kind, .string (oApp nm da).nm, .string (oApp nm da).tn, .string (oApp nm da).da, .int .i64 (oRen nm).kind, .string (oRen nm).nm, .string (oRen nm).tn, .string (oRen nm).da] rfl rfl ?news (by simp [Value.oneCell']) (by unfold maxLen; omega) (by omega) ?base ?_
    case news => exact fun j u hj => news_new (cur := [.int .i64 (oApp nm da).kind, .string (oApp nm da).nm, .string (oApp nm da).tn, .string (oApp nm da).da, .int .i64 (oRen nm).kind, .string (oRen nm).nm, .string (oRen nm).tn, .string (oRen nm).da]) j u hj
    case base => have := HX1.out.size; simp; omega
    intro v6 w6 ho6 hg6 _ _
    have HB : Hid (Below w.heap.size w w6) := hide ((below_alloc HX1.out _).grown hg6 (by have := HX1.out.size; simp; omega) (fun j hj => by cases hj))
    have HO : Hid (w6.ownsRow w.heap.size 50 4 v6 (rOps live nm da).length ((rOps live nm da).flatMap dpCells)) := hide (by rw [HR.out]; simpa [dpCells] using ho6)
    clear ho6 hg6
    go_wp2
    go_ret
    exact ⟨HB.out, v6, rfl, HO.out⟩
  · have HR : Hid (rOps live nm da = [oRem nm] ++ [oApp nm da, oRen nm]) := hide (by simp [rOps, hh])
    clear hh
    go_wp2_with (first | (at_builtin; refine Shut2.mk ?_) | fail)
    refine Shut2.mk' ?_
    refine wpList_append_own_at _ rfl _ _ 25 rfl w.heap.size 50 j0 _ 4 56 hv hj0 hy0 hy1 hy2 rfl (by decide) (.slice none 0 0) 0 [] rfl ⟨by simp, .inl ⟨rfl, rfl⟩⟩ ⟨w1.heap.size, 0, none⟩ 1 1 [.int .i64 (oRem nm).kind, .string (oRem nm).nm, .string (oRem nm).tn, .string (oRem nm).da] rfl rfl ?news (by simp [Value.oneCell']) (by unfold maxLen; omega) (by omega) ?base ?_
    case news => exact fun j u hj => news_new (cur := [.int .i64 (oRem nm).kind, .string (oRem nm).nm, .string (oRem nm).tn, .string (oRem nm).da]) j u hj
    case base => have := HX1.out.size; simp; omega
    intro v5 w5 ho5 hg5 _ _
    have HB5 : Hid (Below w.heap.size w w5) := hide ((below_alloc HX1.out _).grown hg5 (by have := HX1.out.size; simp; omega) (fun j hj => by cases hj))
    have HO5 : Hid (w5.ownsRow w.heap.size 50 4 v5 1 ([oRem nm].flatMap dpCells)) := hide (by simpa [dpCells] using ho5)
    obtain ⟨va, vc, rfl⟩ := row_shape ho5
    clear ho5 hg5
    go_wp2_with (first | (at_builtin; refine Shut2.mk ?_) | fail)
    refine Shut2.mk' ?_
    refine wpList_append_own_at _ rfl _ _ 25 rfl w.heap.size 50 j0 _ 4 56 hv hj0 hy0 hy1 hy2 rfl (by decide) (.slice va 1 vc) 1 ([oRem nm].flatMap dpCells) rfl ?own ⟨w5.heap.size, 0, none⟩ 2 2 [.int .i64 (oApp nm da).kind, .string (oApp nm da).nm, .string (oApp nm da).tn, .string (oApp nm da).da, .int .i64 (oRen nm).kind, .string (oRen nm).nm, .string (oRen nm).tn, .string (oRen nm).da] rfl rfl ?news (by simp [Value.oneCell']) (by unfold maxLen; omega) (by omega) ?base ?_
    case own => exact own_keep HO5.out (below_alloc (Below.refl _ _) _)
    case news => exact fun j u hj => news_new (cur := [.int .i64 (oApp nm da).kind, .string (oApp nm da).nm, .string (oApp nm da).tn, .string (oApp nm da).da, .int .i64 (oRen nm).kind, .string (oRen nm).nm, .string (oRen nm).tn, .string (oRen nm).da]) j u hj
    case base => have := HB5.out.size; simp; omega
    intro v6 w6 ho6 hg6 _ _
    have HB : Hid (Below w.heap.size w w6) := hide ((below_alloc HB5.out _).grown hg6 (by have := HB5.out.size; simp; omega) (fun j hj => (HO5.out.lt j hj).1))
    have HO : Hid (w6.ownsRow w.heap.size 50 4 v6 (rOps live nm da).length ((rOps live nm da).flatMap dpCells)) := hide (by rw [HR.out]; simpa [dpCells] using ho6)
    clear ho6 hg6
    go_wp2
    go_ret
    exact ⟨HB.out, v6, rfl, HO.out⟩
/-- what the loop of Replace carries on -/
structure RepL (w w1 : World) (av : List Value) (live safe : List Fl) (ops R : List Dp) (ra : Option Addr) (k : Nat) (l : List Fl) (os : List Dp) (a1 a2 a3 : Option Addr) (c1 c2 c3 : Nat) (x : World) : Prop where
  dk : diskB ⟨l, safe, os⟩ = true
  run : actR live ops R = actR l os (R.drop k)
  b8 : Blk w1.heap.size [.slice a1 l.length c1, .slice a2 safe.length c2, .slice a3 os.length c3] x
  dat : DkAt x a1 a2 a3 l safe os
  cap : (a1 = none → c1 = 0) ∧ (a2 = none → c2 = 0) ∧ (a3 = none → c3 = 0)
  sm : SmD l safe os
  row : 0 < k → RowsD (w1.heap.size + 1) l safe os (.slice a1 l.length c1) (.slice a2 safe.length c2) (.slice a3 os.length c3) x
  bel : Below w.heap.size w x
  lt : w1.heap.size < x.heap.size
  kx : Blk w.heap.size av x
  kr : Blk (w.heap.size + 1) [.slice none 0 0, .slice none 0 0, .slice none 0 0] x
  lst : RowAt 4 dpCells x ra R
  lb : 0 < R.length → ∃ b, ra = some ⟨b, 0, none⟩ ∧ w1.heap.size < b
theorem RepL.below {w w1 : World} {av : List Value} {live safe : List Fl} {ops R : List Dp} {ra : Option Addr} {k : Nat} {l : List Fl} {os : List Dp} {a1 a2 a3 : Option Addr} {c1 c2 c3 : Nat} {x y : World} (h : RepL w w1 av live safe ops R ra k l os a1 a2 a3 c1 c2 c3 x) (b : Below x.heap.size x y) : RepL w w1 av live safe ops R ra k l os a1 a2 a3 c1 c2 c3 y :=
  { h with
    b8 := h.b8.below b
    dat := h.dat.below b
    row := fun q => (h.row q).below b
    bel := below_trans h.bel b
    lt := Nat.lt_of_lt_of_le h.lt b.size
    kx := h.kx.below b
    kr := h.kr.below b
    lst := h.lst.below b }
theorem row_set {A : Type} {sz : Nat} {f : A → List Value} {x : World} {a : Option Addr} {l : List A} (h : RowAt sz f x a l) {g o : Nat} {u : Value} (hg : 0 < l.length → ∃ b, a = some ⟨b, 0, none⟩ ∧ g < b) : RowAt sz f (x.setCell ⟨g, o, none⟩ u) a l := fun i hi => by
  obtain ⟨b, off, e, hb, hc⟩ := h i hi
  obtain ⟨b', e', hlt⟩ := hg (by omega)
  rw [e] at e'
  simp only [Option.some.injEq, Addr.mk.injEq, and_true] at e'
  exact ⟨b, off, e, by rw [size_setCell]; exact hb, fun r v hv => by rw [cell_set_other (.inl (by omega))]; exact hc r v hv⟩
/-- the next one: the answer of Do is laid into the block -/
theorem RepL.next {w w1 : World} {av : List Value} {live safe : List Fl} {ops R : List Dp} {ra : Option Addr} {k : Nat} {l : List Fl} {os : List Dp} {a1 a2 a3 : Option Addr} {c1 c2 c3 : Nat} {x y : World} (h : RepL w w1 av live safe ops R ra k l os a1 a2 a3 c1 c2 c3 x) (hs : w.heap.size + 2 ≤ w1.heap.size) (b : Below x.heap.size x y) (hk : k < R.length) (hso : SmO R[k]) (hc : actC l os R[k] = 0)
    {d1 d2 d3 : Option Addr} {e1 e2 e3 : Nat} (hr : RowsD x.heap.size (actL l os R[k]) safe (actO l os R[k]) (.slice d1 (actL l os R[k]).length e1) (.slice d2 safe.length e2) (.slice d3 (actO l os R[k]).length e3) y) :
    RepL w w1 av live safe ops R ra (k + 1) (actL l os R[k]) (actO l os R[k]) d1 d2 d3 e1 e2 e3 (((y.setCell ⟨w1.heap.size, 0, none⟩ (.slice d1 (actL l os R[k]).length e1)).setCell ⟨w1.heap.size, 1, none⟩ (.slice d2 safe.length e2)).setCell ⟨w1.heap.size, 2, none⟩ (.slice d3 (actO l os R[k]).length e3)) := by
  have H := h.below b
  have hlt := h.lt
  have rr := ((hr.set (u := .slice d1 (actL l os R[k]).length e1) (o := 0) hlt).set (u := .slice d2 safe.length e2) (o := 1) hlt).set (u := .slice d3 (actO l os R[k]).length e3) (o := 2) hlt
  have sm := smD_do2 h.sm hso
  obtain ⟨_, q2, q3, q4⟩ := do_yes (o := R[k]) h.dk
  rw [q2, q3, q4] at sm
  exact ⟨act_disk h.dk hc, by rw [h.run, List.drop_eq_getElem_cons hk, actR_yes hc], ((H.b8.set 0 _ (by simp)).set 1 _ (by simp)).set 2 _ (by simp), rr.at, dkAt_caps hr, sm, fun _ => rr.mono hlt,
    ((H.bel.setCell (p := ⟨w1.heap.size, 0, none⟩) (by show w.heap.size ≤ w1.heap.size; omega) _).setCell (p := ⟨w1.heap.size, 1, none⟩) (by show w.heap.size ≤ w1.heap.size; omega) _).setCell (p := ⟨w1.heap.size, 2, none⟩) (by show w.heap.size ≤ w1.heap.size; omega) _,
    by rw [size_setCell, size_setCell, size_setCell]; exact H.lt, ((H.kx.other 0 _ (by omega)).other 1 _ (by omega)).other 2 _ (by omega), ((H.kr.other 0 _ (by omega)).other 1 _ (by omega)).other 2 _ (by omega), row_set (row_set (row_set H.lst h.lb) h.lb) h.lb, h.lb⟩
set_option maxHeartbeats 16000000 in
theorem implReplace_any (la sa oa : Option Addr) (lc sc oc : Nat) (live safe : List Fl) (ops : List Dp) (nm da : ByteArray) (w : World) (hm : SmD live safe ops) (hnm : nm.size ≤ 1048576) (hda : da.size ≤ 1048576) (hc1 : la = none → lc = 0) (hc2 : sa = none → sc = 0) (hc3 : oa = none → oc = 0) (h : DkAt w la sa oa live safe ops) :
    Calls Tryz.prog 7 #[.agg #[.slice la live.length lc, .slice sa safe.length sc, .slice oa ops.length oc], .string nm, .string da] w fun e w' => DiskC (repC live safe ops nm da) (repL live safe ops nm da) (repS live safe ops nm da) (repO live safe ops nm da) w e w' := by
  have HL : Hid _ := hide h
  have HM : Hid _ := hide hm
  have HNM : Hid _ := hide (And.intro hnm hda)
  have HC : Hid ((la = none → lc = 0) ∧ (sa = none → sc = 0) ∧ (oa = none → oc = 0)) := hide ⟨hc1, hc2, hc3⟩
  have HZ : Hid (live.length ≤ 1048576 ∧ safe.length ≤ 1048576 ∧ ops.length ≤ 1048576) := hide ⟨hm.1.1, hm.2.1.1, hm.2.2.1⟩
  clear h hm hnm hda hc1 hc2 hc3
  obtain ⟨w0, hwa⟩ : ∃ wa, wa = ((w.alloc (.cells #[.slice la live.length lc, .slice sa safe.length sc, .slice oa ops.length oc] 27)).alloc (.cells #[.slice none 0 0, .slice none 0 0, .slice none 0 0] 27)) := ⟨_, rfl⟩
  have HW : Hid (((w.alloc (.cells #[.slice la live.length lc, .slice sa safe.length sc, .slice oa ops.length oc] 27)).alloc (.cells #[.slice none 0 0, .slice none 0 0, .slice none 0 0] 27)) = w0) := hide hwa.symm
  have KX0 : Hid (Blk w.heap.size [.slice la live.length lc, .slice sa safe.length sc, .slice oa ops.length oc] w0) := hide (by rw [hwa]; exact Blk.new.alloc _)
  have KR0 : Hid (Blk (w.heap.size + 1) [.slice none 0 0, .slice none 0 0, .slice none 0 0] w0) := hide (by rw [hwa]; exact (by simpa using Blk.new (w := w.alloc (.cells #[.slice la live.length lc, .slice sa safe.length sc, .slice oa ops.length oc] 27)) (cur := [.slice none 0 0, .slice none 0 0, .slice none 0 0]) (T := 27)))
  have HX0 : Hid (Below w.heap.size w w0 ∧ w.heap.size + 2 ≤ w0.heap.size) := hide ⟨by rw [hwa]; exact below_alloc (below_alloc (Below.refl _ _) _) _, by rw [hwa]; simp⟩
  clear hwa
  go_enter Tryz.func7, Tryz.ntmps7
  go_wp2_with fail
  rw [HW.out]
  have hd0 := HL.out.below HX0.out.1
  refine (implDiskOk_any la sa oa lc sc oc live safe ops w0 HM.out.1.1 HM.out.2.1.1 HM.out.2.2.1 HM.out.1.f HM.out.2.1.f HM.out.2.2.2 hd0.r1 hd0.r2 hd0.r3).mono ?_
  rintro e w1 ⟨rfl, hb1⟩
  clear hd0
  have HX1 : Hid (Below w.heap.size w w1 ∧ w.heap.size + 2 ≤ w1.heap.size) := hide ⟨below_trans HX0.out.1 hb1, Nat.le_trans HX0.out.2 hb1.size⟩
  have KX1 : Hid _ := hide (KX0.out.below hb1)
  have KR1 : Hid _ := hide (KR0.out.below hb1)
  clear hb1 KX0 KR0 HX0
  have x0 := KX1.out.c 0 _ rfl
  have x1 := KX1.out.c 1 _ rfl
  have x2 := KX1.out.c 2 _ rfl
  cases hB : diskB ⟨live, safe, ops⟩
  · obtain ⟨e1, e2, e3, e4⟩ := rep_no (nm := nm) (da := da) hB
    have HE : Hid (DiskC (repC live safe ops nm da) (repL live safe ops nm da) (repS live safe ops nm da) (repO live safe ops nm da) w (.returned (.tuple #[.agg #[.slice none 0 0, .slice none 0 0, .slice none 0 0], .int .i64 1])) (((w1.setCell ⟨w.heap.size + 1, 0, none⟩ (.slice none 0 0)).setCell ⟨w.heap.size + 1, 1, none⟩ (.slice none 0 0)).setCell ⟨w.heap.size + 1, 2, none⟩ (.slice none 0 0))) := hide (by
        rw [e1, e2, e3, e4]
        exact disk_zero2 HX1.out.1)
    have HS : Hid (∃ Y, (((w1.setCell ⟨w.heap.size + 1, 0, none⟩ (.slice none 0 0)).setCell ⟨w.heap.size + 1, 1, none⟩ (.slice none 0 0)).setCell ⟨w.heap.size + 1, 2, none⟩ (.slice none 0 0)) = Y ∧ Blk (w.heap.size + 1) [.slice none 0 0, .slice none 0 0, .slice none 0 0] Y) := hide ⟨_, rfl, (((KR1.out).set 0 (.slice none 0 0) (by simp)).set 1 (.slice none 0 0) (by simp)).set 2 (.slice none 0 0) (by simp)⟩
    have y0 := (KR1.out).c 0 _ rfl
    have y1 := (KR1.out).c 1 _ rfl
    have y2 := (KR1.out).c 2 _ rfl
    have f0 := (KR1.out).f 0
    have f1 := (KR1.out).f 1
    have f2 := (KR1.out).f 2
    go_wp2
    obtain ⟨Y, hY, kY⟩ := HS.out
    rw [hY] at HE ⊢
    have z0 := kY.c 0 _ rfl
    have z1 := kY.c 1 _ rfl
    have z2 := kY.c 2 _ rfl
    exact bodyPost_ret (v := .tuple #[.agg #[.slice none 0 0, .slice none 0 0, .slice none 0 0], .int .i64 1]) (by simp [results, Tryz.results7, go_sem, z0, z1, z2]) rfl HE.out
  · have bw : Below w1.heap.size w1 (w1.alloc (.cells #[.slice la live.length lc, .slice sa safe.length sc, .slice oa ops.length oc] 27)) := below_alloc (Below.refl _ _) _
    have HB : Hid _ := hide hB
    have HS1 : Hid (w.heap.size + 2 ≤ w1.heap.size ∧ w1.heap.size < (w1.alloc (.cells #[.slice la live.length lc, .slice sa safe.length sc, .slice oa ops.length oc] 27)).heap.size) := hide ⟨HX1.out.2, by simp⟩
    have HXA : Hid (Below w.heap.size w (w1.alloc (.cells #[.slice la live.length lc, .slice sa safe.length sc, .slice oa ops.length oc] 27))) := hide (below_trans HX1.out.1 bw)
    have KXA : Hid _ := hide (KX1.out.below bw)
    have KRA : Hid _ := hide (KR1.out.below bw)
    have K8A : Hid (Blk w1.heap.size [.slice la live.length lc, .slice sa safe.length sc, .slice oa ops.length oc] (w1.alloc (.cells #[.slice la live.length lc, .slice sa safe.length sc, .slice oa ops.length oc] 27))) := hide Blk.new
    clear bw KX1 KR1 HX1 hB
    have xa0 := KXA.out.c 0 _ rfl
    have xa1 := KXA.out.c 1 _ rfl
    have xa2 := KXA.out.c 2 _ rfl
    go_wp2_with fail
    obtain ⟨wA, hwA⟩ : ∃ wA, wA = (w1.alloc (.cells #[.slice la live.length lc, .slice sa safe.length sc, .slice oa ops.length oc] 27)) := ⟨_, rfl⟩
    rw [← hwA] at HXA KXA KRA K8A HS1 xa0 xa1 xa2 ⊢
    clear hwA
    refine (replacing_any la sa oa lc sc oc live safe ops nm da wA HNM.out.1 HZ.out.1 (HL.out.r1.below HXA.out)).mono ?_
    rintro e wB ⟨hbB, v, rfl, hor⟩
    obtain ⟨gR, ra, rc, hgR, rfl, hoR⟩ := own_of_row dpLen hor
    have HST : Hid (RepL w w1 [.slice la live.length lc, .slice sa safe.length sc, .slice oa ops.length oc] live safe ops (rOps live nm da) ra 0 live ops la sa oa lc sc oc wB) := hide
      ⟨HB.out, rfl, K8A.out.below hbB, HL.out.below (below_trans HXA.out hbB), HC.out, HM.out, fun q => absurd q (by omega), below_trans HXA.out hbB, Nat.lt_of_lt_of_le HS1.out.2 hbB.size, KXA.out.below hbB, KRA.out.below hbB, hoR.rows, fun q => ⟨gR, (hoR.own q).1, by have := HS1.out.2; omega⟩⟩
    have HSO : Hid _ := hide (rOps_sm (live := live) HNM.out.1 HNM.out.2)
    have HLN : Hid _ := hide (rOps_len (live := live) (nm := nm) (da := da))
    have hR3 : ((rOps live nm da).length : Int) ≤ 3 := by have := HLN.out.2; omega
    have HGB : Hid (∀ c, (actR live ops (rOps live nm da)).2.2 = c → ¬ c = 0 → _) := hide (fun c hc hn => rep_bad (nm := nm) (da := da) HB.out hc hn)
    have HGG : Hid (∀ L O, actR live ops (rOps live nm da) = (L, O, 0) → _) := hide (fun L O hc => rep_good (nm := nm) (da := da) HB.out hc)
    clear hbB hor hoR hgR KXA KRA K8A HXA x0 x1 x2 xa0 xa1 xa2
    generalize rOps live nm da = R at *
    go_wp2
    go_loopw [23] (fun i wr => ∃ (k : Nat) (l : List Fl) (os : List Dp) (a1 a2 a3 : Option Addr) (c1 c2 c3 : Nat), k ≤ R.length ∧ i = .int .i64 (k : Int) ∧ Hid (RepL w w1 [.slice la live.length lc, .slice sa safe.length sc, .slice oa ops.length oc] live safe ops R ra k l os a1 a2 a3 c1 c2 c3 wr)) (fun i wr => R.length - (intOf i).toNat)
    case atStart => exact ⟨0, live, ops, la, sa, oa, lc, sc, oc, Nat.zero_le _, rfl, HST⟩
    case round =>
      clear HST
      obtain ⟨k, l, os, a1, a2, a3, c1, c2, c3, hk, rfl, HI⟩ := hrel
      by_cases hlt : k < R.length
      · have hlt' : (k : Int) < (R.length : Int) := by omega
        obtain ⟨b, off, rfl, hb, q0, q1, q2, q3⟩ := dp_row HI.out.lst k hlt
        have HSK : Hid (SmO R[k]) := hide (HSO.out _ (List.getElem_mem hlt))
        have HWB : Hid (Below wr.heap.size wr (wr.alloc (.cells #[.int .i64 (R[k]).kind, .string (R[k]).nm, .string (R[k]).tn, .string (R[k]).da] 50))) := hide (below_alloc (Below.refl _ _) _)
        have y0 := (HI.out.below HWB.out).b8.c 0 _ rfl
        have y1 := (HI.out.below HWB.out).b8.c 1 _ rfl
        have y2 := (HI.out.below HWB.out).b8.c 2 _ rfl
        have HI2 : Hid _ := hide (HI.out.below HWB.out)
        clear HI HWB
        go_wp2_with fail
        obtain ⟨w3, hw3⟩ : ∃ w3, w3 = wr.alloc (.cells #[.int .i64 (R[k]).kind, .string (R[k]).nm, .string (R[k]).tn, .string (R[k]).da] 50) := ⟨_, rfl⟩
        rw [← hw3] at HI2 y0 y1 y2 ⊢
        clear hw3
        refine (implDo_any a1 a2 a3 c1 c2 c3 l safe os R[k] w3 HI2.out.sm HSK.out HI2.out.cap.1 HI2.out.cap.2.1 HI2.out.cap.2.2 HI2.out.dat).mono ?_
        obtain ⟨t1, t2, t3, t4⟩ := do_yes (o := R[k]) HI2.out.dk
        rw [t1, t2, t3, t4]
        clear t1 t2 t3 t4
        rintro e w4 ⟨hb4, v1, v2, v3, rfl, hrow⟩
        obtain ⟨d1, e1, d2, e2, d3, e3, rfl, rfl, rfl⟩ := hrow.open
        have HRW : Hid _ := hide hrow
        have HB4 : Hid _ := hide hb4
        clear hb4 hrow q0 q1 q2 q3 y0 y1 y2
        by_cases hc : actC l os R[k] = 0
        · have b5 : Below w3.heap.size w3 (w4.alloc (.cells #[.slice d1 (actL l os R[k]).length e1, .slice d2 safe.length e2, .slice d3 (actO l os R[k]).length e3] 27)) := below_trans HB4.out (below_alloc (Below.refl _ _) _)
          have HNX : Hid (RepL w w1 [.slice la live.length lc, .slice sa safe.length sc, .slice oa ops.length oc] live safe ops R (some ⟨b, off, none⟩) (k + 1) (actL l os R[k]) (actO l os R[k]) d1 d2 d3 e1 e2 e3 ((((w4.alloc (.cells #[.slice d1 (actL l os R[k]).length e1, .slice d2 safe.length e2, .slice d3 (actO l os R[k]).length e3] 27)).setCell ⟨w1.heap.size, 0, none⟩ (.slice d1 (actL l os R[k]).length e1)).setCell ⟨w1.heap.size, 1, none⟩ (.slice d2 safe.length e2)).setCell ⟨w1.heap.size, 2, none⟩ (.slice d3 (actO l os R[k]).length e3))) := hide (HI2.out.next HS1.out.1 b5 hlt HSK.out hc (HRW.out.below (below_alloc (Below.refl _ _) _)))
          have I5 := HI2.out.below b5
          have z0 := I5.b8.c 0 _ rfl
          have z1 := I5.b8.c 1 _ rfl
          have z2 := I5.b8.c 2 _ rfl
          have f0 := I5.b8.f 0
          have f1 := I5.b8.f 1
          have f2 := I5.b8.f 2
          rw [hc]
          clear I5 b5 HRW HB4 HI2 HSK hc
          generalize actL l os R[k] = l2 at *
          generalize actO l os R[k] = os2 at *
          go_wp2
          exact ⟨⟨k + 1, l2, os2, d1, d2, d3, e1, e2, e3, by omega, by go_num, HNX⟩, by simp [intOf]; omega⟩
        · have b5 : Below w3.heap.size w3 (w4.alloc (.cells #[.slice d1 (actL l os R[k]).length e1, .slice d2 safe.length e2, .slice d3 (actO l os R[k]).length e3] 27)) := below_trans HB4.out (below_alloc (Below.refl _ _) _)
          have I5 := HI2.out.below b5
          have HG : Hid _ := hide (HGB.out _ (show (actR live ops R).2.2 = actC l os R[k] by rw [HI2.out.run, List.drop_eq_getElem_cons hlt]; exact actR_no hc) hc)
          have hcn : (actC l os R[k] != 0) = true := by simpa using hc
          have x0 := I5.kx.c 0 _ rfl
          have x1 := I5.kx.c 1 _ rfl
          have x2 := I5.kx.c 2 _ rfl
          have HX5 : Hid _ := hide I5.bel
          have KR5 : Hid _ := hide I5.kr
          have HZ5 : Hid (w.heap.size + 2 ≤ (w4.alloc (.cells #[.slice d1 (actL l os R[k]).length e1, .slice d2 safe.length e2, .slice d3 (actO l os R[k]).length e3] 27)).heap.size) := hide (by have := I5.lt; have := HS1.out.1; omega)
          clear I5 b5 HRW HB4 HI2 HSK hc
          generalize actC l os R[k] = cc at *
          generalize actL l os R[k] = l2 at *
          generalize actO l os R[k] = os2 at *
          go_wp2_with fail
          obtain ⟨w5, hw5⟩ : ∃ w5, w5 = (w4.alloc (.cells #[.slice d1 l2.length e1, .slice d2 safe.length e2, .slice d3 os2.length e3] 27)) := ⟨_, rfl⟩
          rw [← hw5] at HX5 KR5 HZ5 x0 x1 x2 ⊢
          clear hw5
          refine (diskCopy_any la sa oa lc sc oc live safe ops w5 HZ.out.1 HZ.out.2.1 HZ.out.2.2 HC.out.1 HC.out.2.1 HC.out.2.2 (HL.out.below HX5.out)).mono ?_
          rintro e wc ⟨hbc, v1, v2, v3, rfl, hrow⟩
          obtain ⟨p1, r1, p2, r2, p3, r3, rfl, rfl, rfl⟩ := hrow.open
          obtain ⟨q1, q2, q3, q4⟩ := HG.out
          have KRc := KR5.out.below hbc
          have HE : Hid (DiskC (repC live safe ops nm da) (repL live safe ops nm da) (repS live safe ops nm da) (repO live safe ops nm da) w (.returned (.tuple #[.agg #[.slice p1 live.length r1, .slice p2 safe.length r2, .slice p3 ops.length r3], .int .i64 cc])) (((wc.setCell ⟨w.heap.size + 1, 0, none⟩ (.slice p1 live.length r1)).setCell ⟨w.heap.size + 1, 1, none⟩ (.slice p2 safe.length r2)).setCell ⟨w.heap.size + 1, 2, none⟩ (.slice p3 ops.length r3))) := hide (by
              rw [q1, q2, q3, q4]
              exact disk_end2 (below_trans HX5.out hbc) HZ5.out hrow)
          have HS : Hid (∃ Y, (((wc.setCell ⟨w.heap.size + 1, 0, none⟩ (.slice p1 live.length r1)).setCell ⟨w.heap.size + 1, 1, none⟩ (.slice p2 safe.length r2)).setCell ⟨w.heap.size + 1, 2, none⟩ (.slice p3 ops.length r3)) = Y ∧ Blk (w.heap.size + 1) [.slice p1 live.length r1, .slice p2 safe.length r2, .slice p3 ops.length r3] Y) := hide ⟨_, rfl, (((KRc).set 0 (.slice p1 live.length r1) (by simp)).set 1 (.slice p2 safe.length r2) (by simp)).set 2 (.slice p3 ops.length r3) (by simp)⟩
          have y0 := (KRc).c 0 _ rfl
          have y1 := (KRc).c 1 _ rfl
          have y2 := (KRc).c 2 _ rfl
          have f0 := (KRc).f 0
          have f1 := (KRc).f 1
          have f2 := (KRc).f 2
          clear KRc hbc hrow q1 q2 q3 q4 HG
          go_wp2
          obtain ⟨Y, hY, kY⟩ := HS.out
          rw [hY] at HE ⊢
          have z0 := kY.c 0 _ rfl
          have z1 := kY.c 1 _ rfl
          have z2 := kY.c 2 _ rfl
          exact bodyPost_ret (v := .tuple #[.agg #[.slice p1 live.length r1, .slice p2 safe.length r2, .slice p3 ops.length r3], .int .i64 cc]) (by simp [results, Tryz.results7, go_sem, z0, z1, z2]) rfl HE.out
      · have hk' : ¬ (k : Int) < (R.length : Int) := by omega
        have ek : k = R.length := by omega
        have HG : Hid _ := hide (HGG.out l os (by rw [HI.out.run, ek, List.drop_length]; rfl))
        have hrow := HI.out.row (by have := HLN.out.1; omega)
        have y0' := HI.out.b8.c 0 _ rfl
        have y1' := HI.out.b8.c 1 _ rfl
        have y2' := HI.out.b8.c 2 _ rfl
        obtain ⟨q1, q2, q3, q4⟩ := HG.out
        have KRc := HI.out.kr
        clear ek
        have HE : Hid (DiskC (repC live safe ops nm da) (repL live safe ops nm da) (repS live safe ops nm da) (repO live safe ops nm da) w (.returned (.tuple #[.agg #[.slice a1 l.length c1, .slice a2 safe.length c2, .slice a3 os.length c3], .int .i64 0])) (((wr.setCell ⟨w.heap.size + 1, 0, none⟩ (.slice a1 l.length c1)).setCell ⟨w.heap.size + 1, 1, none⟩ (.slice a2 safe.length c2)).setCell ⟨w.heap.size + 1, 2, none⟩ (.slice a3 os.length c3))) := hide (by
            rw [q1, q2, q3, q4]
            exact disk_end2 HI.out.bel (by have := HS1.out.1; omega) hrow)
        have HS : Hid (∃ Y, (((wr.setCell ⟨w.heap.size + 1, 0, none⟩ (.slice a1 l.length c1)).setCell ⟨w.heap.size + 1, 1, none⟩ (.slice a2 safe.length c2)).setCell ⟨w.heap.size + 1, 2, none⟩ (.slice a3 os.length c3)) = Y ∧ Blk (w.heap.size + 1) [.slice a1 l.length c1, .slice a2 safe.length c2, .slice a3 os.length c3] Y) := hide ⟨_, rfl, (((KRc).set 0 (.slice a1 l.length c1) (by simp)).set 1 (.slice a2 safe.length c2) (by simp)).set 2 (.slice a3 os.length c3) (by simp)⟩
        have y0 := (KRc).c 0 _ rfl
        have y1 := (KRc).c 1 _ rfl
        have y2 := (KRc).c 2 _ rfl
        have f0 := (KRc).f 0
        have f1 := (KRc).f 1
        have f2 := (KRc).f 2
        clear KRc hrow q1 q2 q3 q4 HG
        go_wp2
        obtain ⟨Y, hY, kY⟩ := HS.out
        rw [hY] at HE ⊢
        have z0 := kY.c 0 _ rfl
        have z1 := kY.c 1 _ rfl
        have z2 := kY.c 2 _ rfl
        exact bodyPost_ret (v := .tuple #[.agg #[.slice a1 l.length c1, .slice a2 safe.length c2, .slice a3 os.length c3], .int .i64 0]) (by simp [results, Tryz.results7, go_sem, z0, z1, z2]) rfl HE.out
end Go.Proofs.YtiilkkdbifhojaaGreat
