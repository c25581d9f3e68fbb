/- The program's Replace. -/
import Derived.Test.YtacbcmgpknhgdaaGreatDkQ1
namespace Go.Proofs.YtacbcmgpknhgdaaGreat
open Go.ChangeShapes Go.WideShapes Go.ChangeAt Go.RowKit
set_option linter.unusedVariables false
set_option maxRecDepth 100000
theorem smD_do2 {live safe : List Fl} {ops : List Dp} {o : Dp} (h : SmD live safe ops) (ho : SmO o) : SmD (doLv live safe ops o) (doSv live safe ops o) (doOv live safe ops o) := by
  cases hB : diskB ⟨live, safe, ops⟩
  · obtain ⟨_, e2, e3, e4⟩ := do_no (o := o) hB
    rw [e2, e3, e4]
    exact ⟨⟨by simp, fun x hx => by simp at hx⟩, ⟨by simp, fun x hx => by simp at hx⟩, by simp, fun x hx => by simp at hx⟩
  · obtain ⟨_, e2, e3, e4⟩ := do_yes (o := o) hB
    obtain ⟨q1, q2, q3⟩ := diskB_parts hB
    rw [e2, e3, e4]
    refine ⟨?_, h.2.1, ?_⟩
    · by_cases hc : actC live ops o = 0
      · rw [(act_yes hc).1]
        have hf : filesB (doL live o).1 = true := by
          rcases did_act (ops := ops) (o := o) q1 with ⟨_, a⟩ | ⟨_, a⟩ | ⟨_, a⟩ | ⟨_, _, _, f⟩
          · rw [a] at hc; cases hc
          · rw [a] at hc; cases hc
          · rw [a] at hc; cases hc
          · exact f
        exact ⟨by have := (filesB_parts hf).1; omega, fun f hm => by have := filesB_small hf f hm; exact ⟨by omega, by omega⟩⟩
      · rw [(act_no rfl hc).1]; exact h.1
    · by_cases hc : actC live ops o = 0
      · rw [(act_yes hc).2]
        exact ⟨by simp; omega, fun x hx => by
          rcases List.mem_append.1 hx with k | k
          · exact h.2.2.2 x k
          · simp at k; rw [k]; exact ho⟩
      · rw [(act_no rfl hc).2]; exact h.2.2
theorem news_new {w : World} {cur : List Value} {T : TypeId} (j : Nat) (u : Value) (hj : cur[j]? = some u) : (w.alloc (.cells cur.toArray T)).cell? ((⟨w.heap.size, 0, none⟩ : Addr).add j) = some u := by
  rw [addr_add, Nat.zero_add]
  exact Blk.new.c j u hj
theorem rOps_sm {live : List Fl} {nm da : ByteArray} (h : nm.size ≤ 1048576) (hd : da.size ≤ 1048576) : ∀ o ∈ rOps live nm da, SmO o := fun o ho => by
  unfold rOps at ho
  rcases List.mem_append.1 ho with k | k
  · split at k
    · simp at k; rw [k]; exact sm_rem h
    · simp at k
  · simp at k
    rcases k with k | k
    · rw [k]; exact sm_app h hd
    · rw [k]; exact sm_ren h
theorem rOps_len {live : List Fl} {nm da : ByteArray} : 0 < (rOps live nm da).length ∧ (rOps live nm da).length ≤ 3 := by
  unfold rOps
  split <;> simp
theorem act_disk {live safe : List Fl} {ops : List Dp} {o : Dp} (h : diskB ⟨live, safe, ops⟩ = true) (hc : actC live ops o = 0) : diskB ⟨actL live ops o, safe, actO live ops o⟩ = true := by
  obtain ⟨q1, q2, q3⟩ := diskB_parts h
  have hr : isRun (runL safe ops) live = true := by
    simp only [diskB, Bool.and_eq_true] at h
    exact h.2
  have hc' := hc
  rw [(act_yes hc).1, (act_yes hc).2]
  rcases did_act (ops := ops) (o := o) q1 with ⟨_, a⟩ | ⟨_, a⟩ | ⟨_, a⟩ | ⟨_, hf, hd, hfl⟩
  · rw [a] at hc; cases hc
  · rw [a] at hc; cases hc
  · rw [a] at hc; cases hc
  have h200 : ¬ ops.length = 200 := fun e => by
    simp [actC, hf, hd, e] at hc'
  have hs : stepL live o = some (doL live o).1 := by simp [stepL, hf, hd, hfl]
  have hru : runL safe ops = some live := by
    cases e : runL safe ops with
    | none => rw [e] at hr; cases hr
    | some l => rw [e] at hr; simp [isRun] at hr; rw [hr]
  have h1 : runL safe (ops ++ [o]) = some (doL live o).1 := by
    rw [runL_append, hru]
    simp [runL, hs]
  simp only [diskB, Bool.and_eq_true, decide_eq_true_eq]
  refine ⟨⟨⟨hfl, q2⟩, by simp; omega⟩, ?_⟩
  show isRun (runL safe (ops ++ [o])) (doL live o).1 = true
  rw [h1]
  simp [isRun]
set_option maxHeartbeats 4000000 in
theorem replacing_any (la sa oa : Option Addr) (lc sc oc : Nat) (live safe : List Fl) (ops : List Dp) (nm da : ByteArray) (w : World) (hnm : nm.size ≤ 1048576) (hl : live.length ≤ 1048576) (h : RowAt 2 flCells w la live) :
    Calls Tryz.prog 48 #[.agg #[.slice la live.length lc, .slice sa safe.length sc, .slice oa ops.length oc], .string nm, .string da] w fun e w' => NewO (rOps live nm da) w e w' := by
  have HL : Hid _ := hide h
  clear h
  have HX0 : Hid (Below w.heap.size w (w.alloc (.cells #[.slice la live.length lc, .slice sa safe.length sc, .slice oa ops.length oc] 33))) := hide (below_alloc (Below.refl _ _) _)
  obtain ⟨j0, hj0, hy0, hy1, hy2⟩ := info_parts infoO
  have hv := huO
  go_enter Tryz.func48, Tryz.ntmps48
  go_wp2_with fail
  refine (dataOf_any la live lc (fresh nm) _ hl (HL.out.below HX0.out)).mono ?_
  rintro e w1 ⟨rfl, hb1⟩
  have HX1 : Hid _ := hide (below_trans HX0.out hb1)
  clear hb1 HX0
  generalize (fndS live (fresh nm)).1 = ds at *
  cases hh : (fndS live (fresh nm)).2
  · have HR : Hid (rOps live nm da = [oApp nm da, oRen nm]) := hide (by simp [rOps, hh])
    clear hh
    go_wp2_with (first | (at_builtin; refine Shut2.mk ?_) | fail)
    refine Shut2.mk' ?_
    refine wpList_append_own_at _ rfl _ _ 31 rfl w.heap.size 37 j0 _ 4 56 hv hj0 hy0 hy1 hy2 rfl (by decide) (.slice none 0 0) 0 [] rfl ⟨by simp, .inl ⟨rfl, rfl⟩⟩ ⟨w1.heap.size, 0, none⟩ 2 2 [.int .i64 (oApp nm da).kind, .string (oApp nm da).nm, .string (oApp nm da).tn, .string (oApp nm da).da, .int .i64 (oRen nm).kind, .string (oRen nm).nm, .string (oRen nm).tn, .string (oRen nm).da] rfl rfl ?news (by simp [Value.oneCell']) (by unfold maxLen; omega) (by omega) ?base ?_
    case news => exact fun j u hj => news_new (cur := [.int .i64 (oApp nm da).kind, .string (oApp nm da).nm, .string (oApp nm da).tn, .string (oApp nm da).da, .int .i64 (oRen nm).kind, .string (oRen nm).nm, .string (oRen nm).tn, .string (oRen nm).da]) j u hj
    case base => have := HX1.out.size; simp; omega
    intro v6 w6 ho6 hg6 _ _
    have HB : Hid (Below w.heap.size w w6) := hide ((below_alloc HX1.out _).grown hg6 (by have := HX1.out.size; simp; omega) (fun j hj => by cases hj))
    have HO : Hid (w6.ownsRow w.heap.size 37 4 v6 (rOps live nm da).length ((rOps live nm da).flatMap dpCells)) := hide (by rw [HR.out]; simpa [dpCells] using ho6)
    clear ho6 hg6
    go_wp2
    go_ret
    exact ⟨HB.out, v6, rfl, HO.out⟩
  · have HR : Hid (rOps live nm da = [oRem nm] ++ [oApp nm da, oRen nm]) := hide (by simp [rOps, hh])
    clear hh
    go_wp2_with (first | (at_builtin; refine Shut2.mk ?_) | fail)
    refine Shut2.mk' ?_
    refine wpList_append_own_at _ rfl _ _ 31 rfl w.heap.size 37 j0 _ 4 56 hv hj0 hy0 hy1 hy2 rfl (by decide) (.slice none 0 0) 0 [] rfl ⟨by simp, .inl ⟨rfl, rfl⟩⟩ ⟨w1.heap.size, 0, none⟩ 1 1 [.int .i64 (oRem nm).kind, .string (oRem nm).nm, .string (oRem nm).tn, .string (oRem nm).da] rfl rfl ?news (by simp [Value.oneCell']) (by unfold maxLen; omega) (by omega) ?base ?_
    case news => exact fun j u hj => news_new (cur := [.int .i64 (oRem nm).kind, .string (oRem nm).nm, .string (oRem nm).tn, .string (oRem nm).da]) j u hj
    case base => have := HX1.out.size; simp; omega
    intro v5 w5 ho5 hg5 _ _
    have HB5 : Hid (Below w.heap.size w w5) := hide ((below_alloc HX1.out _).grown hg5 (by have := HX1.out.size; simp; omega) (fun j hj => by cases hj))
    have HO5 : Hid (w5.ownsRow w.heap.size 37 4 v5 1 ([oRem nm].flatMap dpCells)) := hide (by simpa [dpCells] using ho5)
    obtain ⟨va, vc, rfl⟩ := row_shape ho5
    clear ho5 hg5
    go_wp2_with (first | (at_builtin; refine Shut2.mk ?_) | fail)
    refine Shut2.mk' ?_
    refine wpList_append_own_at _ rfl _ _ 31 rfl w.heap.size 37 j0 _ 4 56 hv hj0 hy0 hy1 hy2 rfl (by decide) (.slice va 1 vc) 1 ([oRem nm].flatMap dpCells) rfl ?own ⟨w5.heap.size, 0, none⟩ 2 2 [.int .i64 (oApp nm da).kind, .string (oApp nm da).nm, .string (oApp nm da).tn, .string (oApp nm da).da, .int .i64 (oRen nm).kind, .string (oRen nm).nm, .string (oRen nm).tn, .string (oRen nm).da] rfl rfl ?news (by simp [Value.oneCell']) (by unfold maxLen; omega) (by omega) ?base ?_
    case own => exact own_keep HO5.out (below_alloc (Below.refl _ _) _)
    case news => exact fun j u hj => news_new (cur := [.int .i64 (oApp nm da).kind, .string (oApp nm da).nm, .string (oApp nm da).tn, .string (oApp nm da).da, .int .i64 (oRen nm).kind, .string (oRen nm).nm, .string (oRen nm).tn, .string (oRen nm).da]) j u hj
    case base => have := HB5.out.size; simp; omega
    intro v6 w6 ho6 hg6 _ _
    have HB : Hid (Below w.heap.size w w6) := hide ((below_alloc HB5.out _).grown hg6 (by have := HB5.out.size; simp; omega) (fun j hj => (HO5.out.lt j hj).1))
    have HO : Hid (w6.ownsRow w.heap.size 37 4 v6 (rOps live nm da).length ((rOps live nm da).flatMap dpCells)) := hide (by rw [HR.out]; simpa [dpCells] using ho6)
    clear ho6 hg6
    go_wp2
    go_ret
    exact ⟨HB.out, v6, rfl, HO.out⟩
/-- what the loop of Replace carries on -/
structure RepL (w w1 : World) (av : List Value) (live safe : List Fl) (ops R : List Dp) (ra : Option Addr) (k : Nat) (l : List Fl) (os : List Dp) (a1 a2 a3 : Option Addr) (c1 c2 c3 : Nat) (x : World) : Prop where
  dk : diskB ⟨l, safe, os⟩ = true
  run : actR live ops R = actR l os (R.drop k)
  b8 : Blk w1.heap.size [.slice a1 l.length c1, .slice a2 safe.length c2, .slice a3 os.length c3] x
  dat : DkAt x a1 a2 a3 l safe os
  cap : (a1 = none → c1 = 0) ∧ (a2 = none → c2 = 0) ∧ (a3 = none → c3 = 0)
  sm : SmD l safe os
  row : 0 < k → RowsD (w1.heap.size + 1) l safe os (.slice a1 l.length c1) (.slice a2 safe.length c2) (.slice a3 os.length c3) x
  bel : Below w.heap.size w x
  lt : w1.heap.size < x.heap.size
  kx : Blk w.heap.size av x
  kr : Blk (w.heap.size + 1) [.slice none 0 0, .slice none 0 0, .slice none 0 0] x
  lst : RowAt 4 dpCells x ra R
  lb : 0 < R.length → ∃ b, ra = some ⟨b, 0, none⟩ ∧ w1.heap.size < b
theorem RepL.below {w w1 : World} {av : List Value} {live safe : List Fl} {ops R : List Dp} {ra : Option Addr} {k : Nat} {l : List Fl} {os : List Dp} {a1 a2 a3 : Option Addr} {c1 c2 c3 : Nat} {x y : World} (h : RepL w w1 av live safe ops R ra k l os a1 a2 a3 c1 c2 c3 x) (b : Below x.heap.size x y) : RepL w w1 av live safe ops R ra k l os a1 a2 a3 c1 c2 c3 y :=
  { h with
    b8 := h.b8.below b
    dat := h.dat.below b
    row := fun q => (h.row q).below b
    bel := below_trans h.bel b
    lt := Nat.lt_of_lt_of_le h.lt b.size
    kx := h.kx.below b
    kr := h.kr.below b
    lst := h.lst.below b }
theorem row_set {A : Type} {sz : Nat} {f : A → List Value} {x : World} {a : Option Addr} {l : List A} (h : RowAt sz f x a l) {g o : Nat} {u : Value} (hg : 0 < l.length → ∃ b, a = some ⟨b, 0, none⟩ ∧ g < b) : RowAt sz f (x.setCell ⟨g, o, none⟩ u) a l := fun i hi => by
  obtain ⟨b, off, e, hb, hc⟩ := h i hi
  obtain ⟨b', e', hlt⟩ := hg (by omega)
  rw [e] at e'
  simp only [Option.some.injEq, Addr.mk.injEq, and_true] at e'
  exact ⟨b, off, e, by rw [size_setCell]; exact hb, fun r v hv => by rw [cell_set_other (.inl (by omega))]; exact hc r v hv⟩
/-- the next one: the answer of Do is laid into the block -/
theorem RepL.next {w w1 : World} {av : List Value} {live safe : List Fl} {ops R : List Dp} {ra : Option Addr} {k : Nat} {l : List Fl} {os : List Dp} {a1 a2 a3 : Option Addr} {c1 c2 c3 : Nat} {x y : World} (h : RepL w w1 av live safe ops R ra k l os a1 a2 a3 c1 c2 c3 x) (hs : w.heap.size + 2 ≤ w1.heap.size) (b : Below x.heap.size x y) (hk : k < R.length) (hso : SmO R[k]) (hc : actC l os R[k] = 0)
    {d1 d2 d3 : Option Addr} {e1 e2 e3 : Nat} (hr : RowsD x.heap.size (actL l os R[k]) safe (actO l os R[k]) (.slice d1 (actL l os R[k]).length e1) (.slice d2 safe.length e2) (.slice d3 (actO l os R[k]).length e3) y) :
    RepL w w1 av live safe ops R ra (k + 1) (actL l os R[k]) (actO l os R[k]) d1 d2 d3 e1 e2 e3 (((y.setCell ⟨w1.heap.size, 0, none⟩ (.slice d1 (actL l os R[k]).length e1)).setCell ⟨w1.heap.size, 1, none⟩ (.slice d2 safe.length e2)).setCell ⟨w1.heap.size, 2, none⟩ (.slice d3 (actO l os R[k]).length e3)) := by
  have H := h.below b
  have hlt := h.lt
  have rr := ((hr.set (u := .slice d1 (actL l os R[k]).length e1) (o := 0) hlt).set (u := .slice d2 safe.length e2) (o := 1) hlt).set (u := .slice d3 (actO l os R[k]).length e3) (o := 2) hlt
  have sm := smD_do2 h.sm hso
  obtain ⟨_, q2, q3, q4⟩ := do_yes (o := R[k]) h.dk
  rw [q2, q3, q4] at sm
  exact ⟨act_disk h.dk hc, by rw [h.run, List.drop_eq_getElem_cons hk, actR_yes hc], ((H.b8.set 0 _ (by simp)).set 1 _ (by simp)).set 2 _ (by simp), rr.at, dkAt_caps hr, sm, fun _ => rr.mono hlt,
    ((H.bel.setCell (p := ⟨w1.heap.size, 0, none⟩) (by show w.heap.size ≤ w1.heap.size; omega) _).setCell (p := ⟨w1.heap.size, 1, none⟩) (by show w.heap.size ≤ w1.heap.size; omega) _).setCell (p := ⟨w1.heap.size, 2, none⟩) (by show w.heap.size ≤ w1.heap.size; omega) _,
    by rw [size_setCell, size_setCell, size_setCell]; exact H.lt, ((H.kx.other 0 _ (by omega)).other 1 _ (by omega)).other 2 _ (by omega), ((H.kr.other 0 _ (by omega)).other 1 _ (by omega)).other 2 _ (by omega), row_set (row_set (row_set H.lst h.lb) h.lb) h.lb, h.lb⟩
set_option maxHeartbeats 16000000 in
theorem implReplace_any (la sa oa : Option Addr) (lc sc oc : Nat) (live safe : List Fl) (ops : List Dp) (nm da : ByteArray) (w : World) (hm : SmD live safe ops) (hnm : nm.size ≤ 1048576) (hda : da.size ≤ 1048576) (hc1 : la = none → lc = 0) (hc2 : sa = none → sc = 0) (hc3 : oa = none → oc = 0) (h : DkAt w la sa oa live safe ops) :
    Calls Tryz.prog 21 #[.agg #[.slice la live.length lc, .slice sa safe.length sc, .slice oa ops.length oc], .string nm, .string da] w fun e w' => DiskC (repC live safe ops nm da) (repL live safe ops nm da) (repS live safe ops nm da) (repO live safe ops nm da) w e w' := by
  have HL : Hid _ := hide h
  have HM : Hid _ := hide hm
  have HNM : Hid _ := hide (And.intro hnm hda)
  have HC : Hid ((la = none → lc = 0) ∧ (sa = none → sc = 0) ∧ (oa = none → oc = 0)) := hide ⟨hc1, hc2, hc3⟩
  have HZ : Hid (live.length ≤ 1048576 ∧ safe.length ≤ 1048576 ∧ ops.length ≤ 1048576) := hide ⟨hm.1.1, hm.2.1.1, hm.2.2.1⟩
  clear h hm hnm hda hc1 hc2 hc3
  obtain ⟨w0, hwa⟩ : ∃ wa, wa = ((w.alloc (.cells #[.slice la live.length lc, .slice sa safe.length sc, .slice oa ops.length oc] 33)).alloc (.cells #[.slice none 0 0, .slice none 0 0, .slice none 0 0] 33)) := ⟨_, rfl⟩
  have HW : Hid (((w.alloc (.cells #[.slice la live.length lc, .slice sa safe.length sc, .slice oa ops.length oc] 33)).alloc (.cells #[.slice none 0 0, .slice none 0 0, .slice none 0 0] 33)) = w0) := hide hwa.symm
  have KX0 : Hid (Blk w.heap.size [.slice la live.length lc, .slice sa safe.length sc, .slice oa ops.length oc] w0) := hide (by rw [hwa]; exact Blk.new.alloc _)
  have KR0 : Hid (Blk (w.heap.size + 1) [.slice none 0 0, .slice none 0 0, .slice none 0 0] w0) := hide (by rw [hwa]; exact (by simpa using Blk.new (w := w.alloc (.cells #[.slice la live.length lc, .slice sa safe.length sc, .slice oa ops.length oc] 33)) (cur := [.slice none 0 0, .slice none 0 0, .slice none 0 0]) (T := 33)))
  have HX0 : Hid (Below w.heap.size w w0 ∧ w.heap.size + 2 ≤ w0.heap.size) := hide ⟨by rw [hwa]; exact below_alloc (below_alloc (Below.refl _ _) _) _, by rw [hwa]; simp⟩
  clear hwa
  go_enter Tryz.func21, Tryz.ntmps21
  go_wp2_with fail
  rw [HW.out]
  have hd0 := HL.out.below HX0.out.1
  refine (implDiskOk_any la sa oa lc sc oc live safe ops w0 HM.out.1.1 HM.out.2.1.1 HM.out.2.2.1 HM.out.1.f HM.out.2.1.f HM.out.2.2.2 hd0.r1 hd0.r2 hd0.r3).mono ?_
  rintro e w1 ⟨rfl, hb1⟩
  clear hd0
  have HX1 : Hid (Below w.heap.size w w1 ∧ w.heap.size + 2 ≤ w1.heap.size) := hide ⟨below_trans HX0.out.1 hb1, Nat.le_trans HX0.out.2 hb1.size⟩
  have KX1 : Hid _ := hide (KX0.out.below hb1)
  have KR1 : Hid _ := hide (KR0.out.below hb1)
  clear hb1 KX0 KR0 HX0
  have x0 := KX1.out.c 0 _ rfl
  have x1 := KX1.out.c 1 _ rfl
  have x2 := KX1.out.c 2 _ rfl
  cases hB : diskB ⟨live, safe, ops⟩
  · obtain ⟨e1, e2, e3, e4⟩ := rep_no (nm := nm) (da := da) hB
    have HE : Hid (DiskC (repC live safe ops nm da) (repL live safe ops nm da) (repS live safe ops nm da) (repO live safe ops nm da) w (.returned (.tuple #[.agg #[.slice none 0 0, .slice none 0 0, .slice none 0 0], .int .i64 1])) (((w1.setCell ⟨w.heap.size + 1, 0, none⟩ (.slice none 0 0)).setCell ⟨w.heap.size + 1, 1, none⟩ (.slice none 0 0)).setCell ⟨w.heap.size + 1, 2, none⟩ (.slice none 0 0))) := hide (by
        rw [e1, e2, e3, e4]
        exact disk_zero2 HX1.out.1)
    have HS : Hid (∃ Y, (((w1.setCell ⟨w.heap.size + 1, 0, none⟩ (.slice none 0 0)).setCell ⟨w.heap.size + 1, 1, none⟩ (.slice none 0 0)).setCell ⟨w.heap.size + 1, 2, none⟩ (.slice none 0 0)) = Y ∧ Blk (w.heap.size + 1) [.slice none 0 0, .slice none 0 0, .slice none 0 0] Y) := hide ⟨_, rfl, (((KR1.out).set 0 (.slice none 0 0) (by simp)).set 1 (.slice none 0 0) (by simp)).set 2 (.slice none 0 0) (by simp)⟩
    have y0 := (KR1.out).c 0 _ rfl
    have y1 := (KR1.out).c 1 _ rfl
    have y2 := (KR1.out).c 2 _ rfl
    have f0 := (KR1.out).f 0
    have f1 := (KR1.out).f 1
    have f2 := (KR1.out).f 2
    go_wp2
    obtain ⟨Y, hY, kY⟩ := HS.out
    rw [hY] at HE ⊢
    have z0 := kY.c 0 _ rfl
    have z1 := kY.c 1 _ rfl
    have z2 := kY.c 2 _ rfl
    exact bodyPost_ret (v := .tuple #[.agg #[.slice none 0 0, .slice none 0 0, .slice none 0 0], .int .i64 1]) (by simp [results, Tryz.results21, go_sem, z0, z1, z2]) rfl HE.out
  · have bw : Below w1.heap.size w1 (w1.alloc (.cells #[.slice la live.length lc, .slice sa safe.length sc, .slice oa ops.length oc] 33)) := below_alloc (Below.refl _ _) _
    have HB : Hid _ := hide hB
    have HS1 : Hid (w.heap.size + 2 ≤ w1.heap.size ∧ w1.heap.size < (w1.alloc (.cells #[.slice la live.length lc, .slice sa safe.length sc, .slice oa ops.length oc] 33)).heap.size) := hide ⟨HX1.out.2, by simp⟩
    have HXA : Hid (Below w.heap.size w (w1.alloc (.cells #[.slice la live.length lc, .slice sa safe.length sc, .slice oa ops.length oc] 33))) := hide (below_trans HX1.out.1 bw)
    have KXA : Hid _ := hide (KX1.out.below bw)
    have KRA : Hid _ := hide (KR1.out.below bw)
    have K8A : Hid (Blk w1.heap.size [.slice la live.length lc, .slice sa safe.length sc, .slice oa ops.length oc] (w1.alloc (.cells #[.slice la live.length lc, .slice sa safe.length sc, .slice oa ops.length oc] 33))) := hide Blk.new
    clear bw KX1 KR1 HX1 hB
    have xa0 := KXA.out.c 0 _ rfl
    have xa1 := KXA.out.c 1 _ rfl
    have xa2 := KXA.out.c 2 _ rfl
    go_wp2_with fail
    obtain ⟨wA, hwA⟩ : ∃ wA, wA = (w1.alloc (.cells #[.slice la live.length lc, .slice sa safe.length sc, .slice oa ops.length oc] 33)) := ⟨_, rfl⟩
    rw [← hwA] at HXA KXA KRA K8A HS1 xa0 xa1 xa2 ⊢
    clear hwA
    refine (replacing_any la sa oa lc sc oc live safe ops nm da wA HNM.out.1 HZ.out.1 (HL.out.r1.below HXA.out)).mono ?_
    rintro e wB ⟨hbB, v, rfl, hor⟩
    obtain ⟨gR, ra, rc, hgR, rfl, hoR⟩ := own_of_row dpLen hor
    have HST : Hid (RepL w w1 [.slice la live.length lc, .slice sa safe.length sc, .slice oa ops.length oc] live safe ops (rOps live nm da) ra 0 live ops la sa oa lc sc oc wB) := hide
      ⟨HB.out, rfl, K8A.out.below hbB, HL.out.below (below_trans HXA.out hbB), HC.out, HM.out, fun q => absurd q (by omega), below_trans HXA.out hbB, Nat.lt_of_lt_of_le HS1.out.2 hbB.size, KXA.out.below hbB, KRA.out.below hbB, hoR.rows, fun q => ⟨gR, (hoR.own q).1, by have := HS1.out.2; omega⟩⟩
    have HSO : Hid _ := hide (rOps_sm (live := live) HNM.out.1 HNM.out.2)
    have HLN : Hid _ := hide (rOps_len (live := live) (nm := nm) (da := da))
    have hR3 : ((rOps live nm da).length : Int) ≤ 3 := by have := HLN.out.2; omega
    have HGB : Hid (∀ c, (actR live ops (rOps live nm da)).2.2 = c → ¬ c = 0 → _) := hide (fun c hc hn => rep_bad (nm := nm) (da := da) HB.out hc hn)
    have HGG : Hid (∀ L O, actR live ops (rOps live nm da) = (L, O, 0) → _) := hide (fun L O hc => rep_good (nm := nm) (da := da) HB.out hc)
    clear hbB hor hoR hgR KXA KRA K8A HXA x0 x1 x2 xa0 xa1 xa2
    generalize rOps live nm da = R at *
    go_wp2
    go_loopw [23] (fun i wr => ∃ (k : Nat) (l : List Fl) (os : List Dp) (a1 a2 a3 : Option Addr) (c1 c2 c3 : Nat), k ≤ R.length ∧ i = .int .i64 (k : Int) ∧ Hid (RepL w w1 [.slice la live.length lc, .slice sa safe.length sc, .slice oa ops.length oc] live safe ops R ra k l os a1 a2 a3 c1 c2 c3 wr)) (fun i wr => R.length - (intOf i).toNat)
    case atStart => exact ⟨0, live, ops, la, sa, oa, lc, sc, oc, Nat.zero_le _, rfl, HST⟩
    case round =>
      clear HST
      obtain ⟨k, l, os, a1, a2, a3, c1, c2, c3, hk, rfl, HI⟩ := hrel
      by_cases hlt : k < R.length
      · have hlt' : (k : Int) < (R.length : Int) := by omega
        obtain ⟨b, off, rfl, hb, q0, q1, q2, q3⟩ := dp_row HI.out.lst k hlt
        have HSK : Hid (SmO R[k]) := hide (HSO.out _ (List.getElem_mem hlt))
        have HWB : Hid (Below wr.heap.size wr (wr.alloc (.cells #[.int .i64 (R[k]).kind, .string (R[k]).nm, .string (R[k]).tn, .string (R[k]).da] 37))) := hide (below_alloc (Below.refl _ _) _)
        have y0 := (HI.out.below HWB.out).b8.c 0 _ rfl
        have y1 := (HI.out.below HWB.out).b8.c 1 _ rfl
        have y2 := (HI.out.below HWB.out).b8.c 2 _ rfl
        have HI2 : Hid _ := hide (HI.out.below HWB.out)
        clear HI HWB
        go_wp2_with fail
        obtain ⟨w3, hw3⟩ : ∃ w3, w3 = wr.alloc (.cells #[.int .i64 (R[k]).kind, .string (R[k]).nm, .string (R[k]).tn, .string (R[k]).da] 37) := ⟨_, rfl⟩
        rw [← hw3] at HI2 y0 y1 y2 ⊢
        clear hw3
        refine (implDo_any a1 a2 a3 c1 c2 c3 l safe os R[k] w3 HI2.out.sm HSK.out HI2.out.cap.1 HI2.out.cap.2.1 HI2.out.cap.2.2 HI2.out.dat).mono ?_
        obtain ⟨t1, t2, t3, t4⟩ := do_yes (o := R[k]) HI2.out.dk
        rw [t1, t2, t3, t4]
        clear t1 t2 t3 t4
        rintro e w4 ⟨hb4, v1, v2, v3, rfl, hrow⟩
        obtain ⟨d1, e1, d2, e2, d3, e3, rfl, rfl, rfl⟩ := hrow.open
        have HRW : Hid _ := hide hrow
        have HB4 : Hid _ := hide hb4
        clear hb4 hrow q0 q1 q2 q3 y0 y1 y2
        by_cases hc : actC l os R[k] = 0
        · have b5 : Below w3.heap.size w3 (w4.alloc (.cells #[.slice d1 (actL l os R[k]).length e1, .slice d2 safe.length e2, .slice d3 (actO l os R[k]).length e3] 33)) := below_trans HB4.out (below_alloc (Below.refl _ _) _)
          have HNX : Hid (RepL w w1 [.slice la live.length lc, .slice sa safe.length sc, .slice oa ops.length oc] live safe ops R (some ⟨b, off, none⟩) (k + 1) (actL l os R[k]) (actO l os R[k]) d1 d2 d3 e1 e2 e3 ((((w4.alloc (.cells #[.slice d1 (actL l os R[k]).length e1, .slice d2 safe.length e2, .slice d3 (actO l os R[k]).length e3] 33)).setCell ⟨w1.heap.size, 0, none⟩ (.slice d1 (actL l os R[k]).length e1)).setCell ⟨w1.heap.size, 1, none⟩ (.slice d2 safe.length e2)).setCell ⟨w1.heap.size, 2, none⟩ (.slice d3 (actO l os R[k]).length e3))) := hide (HI2.out.next HS1.out.1 b5 hlt HSK.out hc (HRW.out.below (below_alloc (Below.refl _ _) _)))
          have I5 := HI2.out.below b5
          have z0 := I5.b8.c 0 _ rfl
          have z1 := I5.b8.c 1 _ rfl
          have z2 := I5.b8.c 2 _ rfl
          have f0 := I5.b8.f 0
          have f1 := I5.b8.f 1
          have f2 := I5.b8.f 2
          rw [hc]
          clear I5 b5 HRW HB4 HI2 HSK hc
          generalize actL l os R[k] = l2 at *
          generalize actO l os R[k] = os2 at *
          go_wp2
          exact ⟨⟨k + 1, l2, os2, d1, d2, d3, e1, e2, e3, by omega, by go_num, HNX⟩, by simp [intOf]; omega⟩
        · have b5 : Below w3.heap.size w3 (w4.alloc (.cells #[.slice d1 (actL l os R[k]).length e1, .slice d2 safe.length e2, .slice d3 (actO l os R[k]).length e3] 33)) := below_trans HB4.out (below_alloc (Below.refl _ _) _)
          have I5 := HI2.out.below b5
          have HG : Hid _ := hide (HGB.out _ (show (actR live ops R).2.2 = actC l os R[k] by rw [HI2.out.run, List.drop_eq_getElem_cons hlt]; exact actR_no hc) hc)
          have hcn : (actC l os R[k] != 0) = true := by simpa using hc
          have x0 := I5.kx.c 0 _ rfl
          have x1 := I5.kx.c 1 _ rfl
          have x2 := I5.kx.c 2 _ rfl
          have HX5 : Hid _ := hide I5.bel
          have KR5 : Hid _ := hide I5.kr
          have HZ5 : Hid (w.heap.size + 2 ≤ (w4.alloc (.cells #[.slice d1 (actL l os R[k]).length e1, .slice d2 safe.length e2, .slice d3 (actO l os R[k]).length e3] 33)).heap.size) := hide (by have := I5.lt; have := HS1.out.1; omega)
          clear I5 b5 HRW HB4 HI2 HSK hc
          generalize actC l os R[k] = cc at *
          generalize actL l os R[k] = l2 at *
          generalize actO l os R[k] = os2 at *
          go_wp2_with fail
          obtain ⟨w5, hw5⟩ : ∃ w5, w5 = (w4.alloc (.cells #[.slice d1 l2.length e1, .slice d2 safe.length e2, .slice d3 os2.length e3] 33)) := ⟨_, rfl⟩
          rw [← hw5] at HX5 KR5 HZ5 x0 x1 x2 ⊢
          clear hw5
          refine (diskCopy_any la sa oa lc sc oc live safe ops w5 HZ.out.1 HZ.out.2.1 HZ.out.2.2 HC.out.1 HC.out.2.1 HC.out.2.2 (HL.out.below HX5.out)).mono ?_
          rintro e wc ⟨hbc, v1, v2, v3, rfl, hrow⟩
          obtain ⟨p1, r1, p2, r2, p3, r3, rfl, rfl, rfl⟩ := hrow.open
          obtain ⟨q1, q2, q3, q4⟩ := HG.out
          have KRc := KR5.out.below hbc
          have HE : Hid (DiskC (repC live safe ops nm da) (repL live safe ops nm da) (repS live safe ops nm da) (repO live safe ops nm da) w (.returned (.tuple #[.agg #[.slice p1 live.length r1, .slice p2 safe.length r2, .slice p3 ops.length r3], .int .i64 cc])) (((wc.setCell ⟨w.heap.size + 1, 0, none⟩ (.slice p1 live.length r1)).setCell ⟨w.heap.size + 1, 1, none⟩ (.slice p2 safe.length r2)).setCell ⟨w.heap.size + 1, 2, none⟩ (.slice p3 ops.length r3))) := hide (by
              rw [q1, q2, q3, q4]
              exact disk_end2 (below_trans HX5.out hbc) HZ5.out hrow)
          have HS : Hid (∃ Y, (((wc.setCell ⟨w.heap.size + 1, 0, none⟩ (.slice p1 live.length r1)).setCell ⟨w.heap.size + 1, 1, none⟩ (.slice p2 safe.length r2)).setCell ⟨w.heap.size + 1, 2, none⟩ (.slice p3 ops.length r3)) = Y ∧ Blk (w.heap.size + 1) [.slice p1 live.length r1, .slice p2 safe.length r2, .slice p3 ops.length r3] Y) := hide ⟨_, rfl, (((KRc).set 0 (.slice p1 live.length r1) (by simp)).set 1 (.slice p2 safe.length r2) (by simp)).set 2 (.slice p3 ops.length r3) (by simp)⟩
          have y0 := (KRc).c 0 _ rfl
          have y1 := (KRc).c 1 _ rfl
          have y2 := (KRc).c 2 _ rfl
          have f0 := (KRc).f 0
          have f1 := (KRc).f 1
          have f2 := (KRc).f 2
          clear KRc hbc hrow q1 q2 q3 q4 HG
          go_wp2
          obtain ⟨Y, hY, kY⟩ := HS.out
          rw [hY] at HE ⊢
          have z0 := kY.c 0 _ rfl
          have z1 := kY.c 1 _ rfl
          have z2 := kY.c 2 _ rfl
          exact bodyPost_ret (v := .tuple #[.agg #[.slice p1 live.length r1, .slice p2 safe.length r2, .slice p3 ops.length r3], .int .i64 cc]) (by simp [results, Tryz.results21, go_sem, z0, z1, z2]) rfl HE.out
      · have hk' : ¬ (k : Int) < (R.length : Int) := by omega
        have ek : k = R.length := by omega
        have HG : Hid _ := hide (HGG.out l os (by rw [HI.out.run, ek, List.drop_length]; rfl))
        have hrow := HI.out.row (by have := HLN.out.1; omega)
        have y0' := HI.out.b8.c 0 _ rfl
        have y1' := HI.out.b8.c 1 _ rfl
        have y2' := HI.out.b8.c 2 _ rfl
        obtain ⟨q1, q2, q3, q4⟩ := HG.out
        have KRc := HI.out.kr
        clear ek
        have HE : Hid (DiskC (repC live safe ops nm da) (repL live safe ops nm da) (repS live safe ops nm da) (repO live safe ops nm da) w (.returned (.tuple #[.agg #[.slice a1 l.length c1, .slice a2 safe.length c2, .slice a3 os.length c3], .int .i64 0])) (((wr.setCell ⟨w.heap.size + 1, 0, none⟩ (.slice a1 l.length c1)).setCell ⟨w.heap.size + 1, 1, none⟩ (.slice a2 safe.length c2)).setCell ⟨w.heap.size + 1, 2, none⟩ (.slice a3 os.length c3))) := hide (by
            rw [q1, q2, q3, q4]
            exact disk_end2 HI.out.bel (by have := HS1.out.1; omega) hrow)
        have HS : Hid (∃ Y, (((wr.setCell ⟨w.heap.size + 1, 0, none⟩ (.slice a1 l.length c1)).setCell ⟨w.heap.size + 1, 1, none⟩ (.slice a2 safe.length c2)).setCell ⟨w.heap.size + 1, 2, none⟩ (.slice a3 os.length c3)) = Y ∧ Blk (w.heap.size + 1) [.slice a1 l.length c1, .slice a2 safe.length c2, .slice a3 os.length c3] Y) := hide ⟨_, rfl, (((KRc).set 0 (.slice a1 l.length c1) (by simp)).set 1 (.slice a2 safe.length c2) (by simp)).set 2 (.slice a3 os.length c3) (by simp)⟩
        have y0 := (KRc).c 0 _ rfl
        have y1 := (KRc).c 1 _ rfl
        have y2 := (KRc).c 2 _ rfl
        have f0 := (KRc).f 0
        have f1 := (KRc).f 1
        have f2 := (KRc).f 2
        clear KRc hrow q1 q2 q3 q4 HG
        go_wp2
        obtain ⟨Y, hY, kY⟩ := HS.out
        rw [hY] at HE ⊢
        have z0 := kY.c 0 _ rfl
        have z1 := kY.c 1 _ rfl
        have z2 := kY.c 2 _ rfl
        exact bodyPost_ret (v := .tuple #[.agg #[.slice a1 l.length c1, .slice a2 safe.length c2, .slice a3 os.length c3], .int .i64 0]) (by simp [results, Tryz.results21, go_sem, z0, z1, z2]) rfl HE.out
end Go.Proofs.YtacbcmgpknhgdaaGreat
