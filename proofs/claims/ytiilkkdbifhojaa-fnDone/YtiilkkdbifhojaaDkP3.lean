/- The model's l8Act and Do. -/
import Derived.Test.YtiilkkdbifhojaaDkP2
import Derived.Test.YtiilkkdbifhojaaDkI9
namespace Go.Proofs.Ytiilkkdbifhojaa
open Go.ChangeShapes Go.WideShapes Go.ChangeAt Go.RowKit
set_option linter.unusedVariables false
set_option maxRecDepth 100000
theorem news4 {x : World} {g : Nat} {v0 v1 v2 v3 : Value} (c0 : x.cell? ⟨g, 0, none⟩ = some v0) (c1 : x.cell? ⟨g, 1, none⟩ = some v1) (c2 : x.cell? ⟨g, 2, none⟩ = some v2) (c3 : x.cell? ⟨g, 3, none⟩ = some v3) (j : Nat) (u : Value) (hj : [v0, v1, v2, v3][j]? = some u) : x.cell? ((⟨g, 0, none⟩ : Addr).add j) = some u := by
  rw [addr_add]
  match j, hj with
  | 0, hj => simp at hj; rw [← hj]; exact c0
  | 1, hj => simp at hj; rw [← hj]; exact c1
  | 2, hj => simp at hj; rw [← hj]; exact c2
  | 3, hj => simp at hj; rw [← hj]; exact c3
/-- the code that an operation gives on a right disk -/
def actC (live : List Fl) (ops : List Dp) (o : Dp) : Int := if formB o then (if (doL live o).2 then (if decide ((ops.length : Int) = 200) || !filesB (doL live o).1 then 4 else 0) else 3) else 2
def actL (live : List Fl) (ops : List Dp) (o : Dp) : List Fl := if actC live ops o = 0 then (doL live o).1 else live
def actO (live : List Fl) (ops : List Dp) (o : Dp) : List Dp := if actC live ops o = 0 then ops ++ [o] else ops
theorem act_no {live : List Fl} {ops : List Dp} {o : Dp} {c : Int} (h : actC live ops o = c) (hc : c ≠ 0) : actL live ops o = live ∧ actO live ops o = ops := by
  subst h
  exact ⟨if_neg hc, if_neg hc⟩
theorem act_yes {live : List Fl} {ops : List Dp} {o : Dp} (h : actC live ops o = 0) : actL live ops o = (doL live o).1 ∧ actO live ops o = ops ++ [o] := ⟨if_pos h, if_pos h⟩
def DiskC (c : Int) (L S : List Fl) (O : List Dp) (w : World) (e : Ending) (w' : World) : Prop := Below w.heap.size w w' ∧ ∃ v1 v2 v3, e = .returned (.tuple #[.agg #[v1, v2, v3], .int .i64 c]) ∧ RowsD w.heap.size L S O v1 v2 v3 w'
theorem shape_f {x : World} {base : Nat} {l : List Fl} {v : Value} (h : x.ownsRow base 52 2 v l.length (l.flatMap flCells)) : ∃ a c, v = .slice a l.length c ∧ (a = none → c = 0) := by
  obtain ⟨a, c, e, _, hn⟩ := own_read h
  exact ⟨a, c, e, hn⟩
theorem nil_cap {x : World} {base : Nat} {T : TypeId} {sz n : Nat} {a : Option Addr} {m c : Nat} {xs : List Value} (h : x.ownsRow base T sz (.slice a m c) n xs) : a = none → c = 0 := fun ha => by
  obtain ⟨_, ⟨h0, h1⟩ | ⟨g', cap', cur, h1, _⟩⟩ := h
  · simp only [Value.slice.injEq] at h0; exact h0.2.2
  · rw [ha] at h1; simp at h1
theorem row_dps {x : World} {base : Nat} {l : List Dp} {v : Value} (h : x.ownsRow base 36 4 v l.length (l.flatMap dpCells)) : ∃ a cap, v = .slice a l.length cap ∧ RowAt 4 dpCells x a l := by
  obtain ⟨g, a, cap, _, e, ho⟩ := own_of_row dpLen h
  exact ⟨a, cap, e, ho.rows⟩
/-- the rows of a disk, with their shapes -/
theorem RowsD.open {base : Nat} {L S : List Fl} {O : List Dp} {v1 v2 v3 : Value} {x : World} (h : RowsD base L S O v1 v2 v3 x) : ∃ a1 c1 a2 c2 a3 c3, v1 = .slice a1 L.length c1 ∧ v2 = .slice a2 S.length c2 ∧ v3 = .slice a3 O.length c3 := by
  obtain ⟨a1, c1, e1⟩ := row_shape h.r1
  obtain ⟨a2, c2, e2⟩ := row_shape h.r2
  obtain ⟨a3, c3, e3⟩ := row_shape h.r3
  exact ⟨a1, c1, a2, c2, a3, c3, e1, e2, e3⟩
theorem RowsD.at {base : Nat} {L S : List Fl} {O : List Dp} {a1 a2 a3 : Option Addr} {n1 n2 n3 c1 c2 c3 : Nat} {x : World} (h : RowsD base L S O (.slice a1 n1 c1) (.slice a2 n2 c2) (.slice a3 n3 c3) x) : DkAt x a1 a2 a3 L S O := by
  obtain ⟨b1, d1, e1, r1, _⟩ := own_read h.r1
  obtain ⟨b2, d2, e2, r2, _⟩ := own_read h.r2
  obtain ⟨b3, d3, e3, r3⟩ := row_dps h.r3
  simp only [Value.slice.injEq] at e1 e2 e3
  obtain ⟨rfl, _, _⟩ := e1
  obtain ⟨rfl, _, _⟩ := e2
  obtain ⟨rfl, _, _⟩ := e3
  exact ⟨r1, r2, r3⟩
theorem disk_end {w y : World} {base : Nat} {c : Int} {L S : List Fl} {O : List Dp} {u1 u2 u3 : Value} (hy : Below w.heap.size w y) (hs : w.heap.size + 3 ≤ base) (h : RowsD base L S O u1 u2 u3 y) :
    DiskC c L S O w (.returned (.tuple #[.agg #[u1, u2, u3], .int .i64 c])) (((y.setCell ⟨w.heap.size + 1 + 1, 0, none⟩ (u1)).setCell ⟨w.heap.size + 1 + 1, 1, none⟩ (u2)).setCell ⟨w.heap.size + 1 + 1, 2, none⟩ (u3)) :=
  ⟨((hy.setCell (p := ⟨w.heap.size + 1 + 1, 0, none⟩) (by show w.heap.size ≤ w.heap.size + 1 + 1; omega) _).setCell (p := ⟨w.heap.size + 1 + 1, 1, none⟩) (by show w.heap.size ≤ w.heap.size + 1 + 1; omega) _).setCell (p := ⟨w.heap.size + 1 + 1, 2, none⟩) (by show w.heap.size ≤ w.heap.size + 1 + 1; omega) _, u1, u2, u3, rfl, (((h.set (by omega)).set (by omega)).set (by omega)).mono (by omega)⟩
theorem disk_zero {w y : World} {c : Int} (hy : Below w.heap.size w y) :
    DiskC c [] [] [] w (.returned (.tuple #[.agg #[.slice none 0 0, .slice none 0 0, .slice none 0 0], .int .i64 c])) (((y.setCell ⟨w.heap.size + 1 + 1, 0, none⟩ (.slice none 0 0)).setCell ⟨w.heap.size + 1 + 1, 1, none⟩ (.slice none 0 0)).setCell ⟨w.heap.size + 1 + 1, 2, none⟩ (.slice none 0 0)) :=
  ⟨((hy.setCell (p := ⟨w.heap.size + 1 + 1, 0, none⟩) (by show w.heap.size ≤ w.heap.size + 1 + 1; omega) _).setCell (p := ⟨w.heap.size + 1 + 1, 1, none⟩) (by show w.heap.size ≤ w.heap.size + 1 + 1; omega) _).setCell (p := ⟨w.heap.size + 1 + 1, 2, none⟩) (by show w.heap.size ≤ w.heap.size + 1 + 1; omega) _, _, _, _, rfl, ⟨⟨by simp, .inl ⟨rfl, rfl⟩⟩, ⟨by simp, .inl ⟨rfl, rfl⟩⟩, ⟨by simp, .inl ⟨rfl, rfl⟩⟩, fun g hg => (by cases hg), fun g hg => (by cases hg), fun g hg => (by cases hg)⟩⟩
set_option maxHeartbeats 8000000 in
theorem l8Act_any (la sa oa : Option Addr) (lc sc oc : Nat) (live safe : List Fl) (ops : List Dp) (o : Dp) (w : World) (hf : filesB live = true) (n2 : safe.length ≤ 1048576) (n3 : ops.length ≤ 1000000) (ho : SmO o) (hc1 : la = none → lc = 0) (hc2 : sa = none → sc = 0) (hc3 : oa = none → oc = 0) (h : DkAt w la sa oa live safe ops) :
    Calls Try.prog 35 #[.agg #[.slice la live.length lc, .slice sa safe.length sc, .slice oa ops.length oc], .agg #[.int .i64 o.kind, .string o.nm, .string o.tn, .string o.da]] w fun e w' => DiskC (actC live ops o) (actL live ops o) safe (actO live ops o) w e w' := by
  have HL : Hid _ := hide h
  have HO : Hid _ := hide ho
  have HC1 : Hid _ := hide hc1
  have HC2 : Hid _ := hide hc2
  have HC3 : Hid _ := hide hc3
  have HF : Hid _ := hide hf
  have HZ : Hid (live.length ≤ 1048576 ∧ safe.length ≤ 1048576 ∧ ops.length ≤ 1048576) := hide ⟨by have := (filesB_parts hf).1; omega, n2, by omega⟩
  have HSM : Hid _ := hide (doL_small hf ho)
  have hn3 : (ops.length : Int) ≤ 1000000 := by omega
  clear hf n2 n3
  clear h ho hc1 hc2 hc3
  obtain ⟨w0, hwa⟩ : ∃ wa, wa = (((w.alloc (.cells #[.slice la live.length lc, .slice sa safe.length sc, .slice oa ops.length oc] 27)).alloc (.cells #[.int .i64 o.kind, .string o.nm, .string o.tn, .string o.da] 36)).alloc (.cells #[.slice none 0 0, .slice none 0 0, .slice none 0 0] 27)) := ⟨_, rfl⟩
  have HW : Hid ((((w.alloc (.cells #[.slice la live.length lc, .slice sa safe.length sc, .slice oa ops.length oc] 27)).alloc (.cells #[.int .i64 o.kind, .string o.nm, .string o.tn, .string o.da] 36)).alloc (.cells #[.slice none 0 0, .slice none 0 0, .slice none 0 0] 27)) = w0) := hide hwa.symm
  have KX0 : Hid (Blk w.heap.size [.slice la live.length lc, .slice sa safe.length sc, .slice oa ops.length oc] w0) := hide (by rw [hwa]; exact (Blk.new.alloc _).alloc _)
  have KO0 : Hid (Blk (w.heap.size + 1) [.int .i64 o.kind, .string o.nm, .string o.tn, .string o.da] w0) := hide (by rw [hwa]; exact Blk.alloc (by simpa using Blk.new (w := w.alloc (.cells #[.slice la live.length lc, .slice sa safe.length sc, .slice oa ops.length oc] 27)) (cur := [.int .i64 o.kind, .string o.nm, .string o.tn, .string o.da]) (T := 36)) _)
  have KR0 : Hid (Blk (w.heap.size + 1 + 1) [.slice none 0 0, .slice none 0 0, .slice none 0 0] w0) := hide (by rw [hwa]; exact (by simpa using Blk.new (w := (w.alloc (.cells #[.slice la live.length lc, .slice sa safe.length sc, .slice oa ops.length oc] 27)).alloc (.cells #[.int .i64 o.kind, .string o.nm, .string o.tn, .string o.da] 36)) (cur := [.slice none 0 0, .slice none 0 0, .slice none 0 0]) (T := 27)))
  have HX0 : Hid (Below w.heap.size w w0 ∧ w.heap.size + 3 ≤ w0.heap.size) := hide ⟨by rw [hwa]; exact below_alloc (below_alloc (below_alloc (Below.refl _ _) _) _) _, by rw [hwa]; simp⟩
  clear hwa
  go_enter Try.func35, Try.ntmps35
  go_wp2_with fail
  rw [HW.out]
  refine (l8Form_any o w0 HO.out).mono ?_
  rintro e w1 ⟨rfl, hb1⟩
  have HX1 : Hid (Below w.heap.size w w1 ∧ w.heap.size + 3 ≤ w1.heap.size) := hide ⟨below_trans HX0.out.1 hb1, Nat.le_trans HX0.out.2 hb1.size⟩
  have KX1 : Hid _ := hide (KX0.out.below hb1)
  have KO1 : Hid _ := hide (KO0.out.below hb1)
  have KR1 : Hid _ := hide (KR0.out.below hb1)
  clear hb1 KX0 KO0 KR0 HX0
  have x0 := KX1.out.c 0 _ rfl
  have x1 := KX1.out.c 1 _ rfl
  have x2 := KX1.out.c 2 _ rfl
  have o0 := KO1.out.c 0 _ rfl
  have o1 := KO1.out.c 1 _ rfl
  have o2 := KO1.out.c 2 _ rfl
  have o3 := KO1.out.c 3 _ rfl
  cases hfo : formB o
  · have HA : Hid (actC live ops o = 2) := hide (by simp [actC, hfo])
    have hd := HL.out.below HX1.out.1
    go_wp2_with fail
    refine (l8Copy_any la sa oa lc sc oc live safe ops w1 HZ.out.1 HZ.out.2.1 HZ.out.2.2 HC1.out HC2.out HC3.out hd).mono ?_
    rintro e wc ⟨hbc, v1, v2, v3, rfl, hrow⟩
    obtain ⟨a1, c1, a2, c2, a3, c3, rfl, rfl, rfl⟩ := hrow.open
    obtain ⟨eL, eO⟩ := act_no HA.out (by decide)
    have KRc := KR1.out.below hbc
    have HE : Hid (DiskC (actC live ops o) (actL live ops o) (safe) (actO live ops o) w (.returned (.tuple #[.agg #[.slice a1 live.length c1, .slice a2 safe.length c2, .slice a3 ops.length c3], .int .i64 (2)])) (((wc.setCell ⟨w.heap.size + 1 + 1, 0, none⟩ (.slice a1 live.length c1)).setCell ⟨w.heap.size + 1 + 1, 1, none⟩ (.slice a2 safe.length c2)).setCell ⟨w.heap.size + 1 + 1, 2, none⟩ (.slice a3 ops.length c3))) := hide (by
        rw [HA.out, eL, eO]
        exact disk_end (below_trans HX1.out.1 hbc) HX1.out.2 hrow)
    have HS : Hid (∃ Y, (((wc.setCell ⟨w.heap.size + 1 + 1, 0, none⟩ (.slice a1 live.length c1)).setCell ⟨w.heap.size + 1 + 1, 1, none⟩ (.slice a2 safe.length c2)).setCell ⟨w.heap.size + 1 + 1, 2, none⟩ (.slice a3 ops.length c3)) = Y ∧ Blk (w.heap.size + 1 + 1) [.slice a1 live.length c1, .slice a2 safe.length c2, .slice a3 ops.length c3] Y) := hide ⟨_, rfl, (((KRc).set 0 (.slice a1 live.length c1) (by simp)).set 1 (.slice a2 safe.length c2) (by simp)).set 2 (.slice a3 ops.length c3) (by simp)⟩
    have y0 := (KRc).c 0 _ rfl
    have y1 := (KRc).c 1 _ rfl
    have y2 := (KRc).c 2 _ rfl
    have f0 := (KRc).f 0
    have f1 := (KRc).f 1
    have f2 := (KRc).f 2
    clear hd KRc hbc hrow
    go_wp2
    obtain ⟨Y, hY, kY⟩ := HS.out
    rw [hY] at HE ⊢
    have z0 := kY.c 0 _ rfl
    have z1 := kY.c 1 _ rfl
    have z2 := kY.c 2 _ rfl
    exact bodyPost_ret (v := .tuple #[.agg #[.slice a1 live.length c1, .slice a2 safe.length c2, .slice a3 ops.length c3], .int .i64 (2)]) (by simp [results, Try.results35, go_sem, z0, z1, z2]) rfl HE.out
  · go_wp2_with fail
    refine (l8Do_any la live lc o w1 (by have := (filesB_parts HF.out).1; omega) HC1.out (fun f hf => by have := filesB_small HF.out f hf; exact ⟨by omega, by omega⟩) HO.out (HL.out.r1.below HX1.out.1)).mono ?_
    rintro e w2 ⟨hb2, v, rfl, hnr⟩
    obtain ⟨na, nc, rfl, hnn⟩ := shape_f hnr
    have HX2 : Hid (Below w.heap.size w w2 ∧ w.heap.size + 3 ≤ w2.heap.size) := hide ⟨below_trans HX1.out.1 hb2, Nat.le_trans HX1.out.2 hb2.size⟩
    have KX2 : Hid _ := hide (KX1.out.below hb2)
    have KO2 : Hid _ := hide (KO1.out.below hb2)
    have KR2 : Hid _ := hide (KR1.out.below hb2)
    have HNR : Hid _ := hide hnr
    have HNL : Hid (w.heap.size + 3 ≤ w1.heap.size) := hide HX1.out.2
    clear hb2 hnr hnn KX1 KO1 KR1 HX1 x0 x1 x2 o0 o1 o2 o3
    have x0 := KX2.out.c 0 _ rfl
    have x1 := KX2.out.c 1 _ rfl
    have x2 := KX2.out.c 2 _ rfl
    have o0 := KO2.out.c 0 _ rfl
    have o1 := KO2.out.c 1 _ rfl
    have o2 := KO2.out.c 2 _ rfl
    have o3 := KO2.out.c 3 _ rfl
    cases hdo : (doL live o).2
    · have HA : Hid (actC live ops o = 3) := hide (by simp [actC, hfo, hdo])
      have hd := HL.out.below HX2.out.1
      go_wp2_with fail
      refine (l8Copy_any la sa oa lc sc oc live safe ops w2 HZ.out.1 HZ.out.2.1 HZ.out.2.2 HC1.out HC2.out HC3.out hd).mono ?_
      rintro e wc ⟨hbc, v1, v2, v3, rfl, hrow⟩
      obtain ⟨a1, c1, a2, c2, a3, c3, rfl, rfl, rfl⟩ := hrow.open
      obtain ⟨eL, eO⟩ := act_no HA.out (by decide)
      have KRc := KR2.out.below hbc
      have HE : Hid (DiskC (actC live ops o) (actL live ops o) (safe) (actO live ops o) w (.returned (.tuple #[.agg #[.slice a1 live.length c1, .slice a2 safe.length c2, .slice a3 ops.length c3], .int .i64 (3)])) (((wc.setCell ⟨w.heap.size + 1 + 1, 0, none⟩ (.slice a1 live.length c1)).setCell ⟨w.heap.size + 1 + 1, 1, none⟩ (.slice a2 safe.length c2)).setCell ⟨w.heap.size + 1 + 1, 2, none⟩ (.slice a3 ops.length c3))) := hide (by
          rw [HA.out, eL, eO]
          exact disk_end (below_trans HX2.out.1 hbc) HX2.out.2 hrow)
      have HS : Hid (∃ Y, (((wc.setCell ⟨w.heap.size + 1 + 1, 0, none⟩ (.slice a1 live.length c1)).setCell ⟨w.heap.size + 1 + 1, 1, none⟩ (.slice a2 safe.length c2)).setCell ⟨w.heap.size + 1 + 1, 2, none⟩ (.slice a3 ops.length c3)) = Y ∧ Blk (w.heap.size + 1 + 1) [.slice a1 live.length c1, .slice a2 safe.length c2, .slice a3 ops.length c3] Y) := hide ⟨_, rfl, (((KRc).set 0 (.slice a1 live.length c1) (by simp)).set 1 (.slice a2 safe.length c2) (by simp)).set 2 (.slice a3 ops.length c3) (by simp)⟩
      have y0 := (KRc).c 0 _ rfl
      have y1 := (KRc).c 1 _ rfl
      have y2 := (KRc).c 2 _ rfl
      have f0 := (KRc).f 0
      have f1 := (KRc).f 1
      have f2 := (KRc).f 2
      clear hd KRc hbc hrow
      go_wp2
      obtain ⟨Y, hY, kY⟩ := HS.out
      rw [hY] at HE ⊢
      have z0 := kY.c 0 _ rfl
      have z1 := kY.c 1 _ rfl
      have z2 := kY.c 2 _ rfl
      exact bodyPost_ret (v := .tuple #[.agg #[.slice a1 live.length c1, .slice a2 safe.length c2, .slice a3 ops.length c3], .int .i64 (3)]) (by simp [results, Try.results35, go_sem, z0, z1, z2]) rfl HE.out
    · by_cases h200 : (ops.length : Int) = 200
      · have HA : Hid (actC live ops o = 4) := hide (by simp [actC, hfo, hdo, h200])
        have hd := HL.out.below HX2.out.1
        go_wp2_with fail
        refine (l8Copy_any la sa oa lc sc oc live safe ops w2 HZ.out.1 HZ.out.2.1 HZ.out.2.2 HC1.out HC2.out HC3.out hd).mono ?_
        rintro e wc ⟨hbc, v1, v2, v3, rfl, hrow⟩
        obtain ⟨a1, c1, a2, c2, a3, c3, rfl, rfl, rfl⟩ := hrow.open
        obtain ⟨eL, eO⟩ := act_no HA.out (by decide)
        have KRc := KR2.out.below hbc
        have HE : Hid (DiskC (actC live ops o) (actL live ops o) (safe) (actO live ops o) w (.returned (.tuple #[.agg #[.slice a1 live.length c1, .slice a2 safe.length c2, .slice a3 ops.length c3], .int .i64 (4)])) (((wc.setCell ⟨w.heap.size + 1 + 1, 0, none⟩ (.slice a1 live.length c1)).setCell ⟨w.heap.size + 1 + 1, 1, none⟩ (.slice a2 safe.length c2)).setCell ⟨w.heap.size + 1 + 1, 2, none⟩ (.slice a3 ops.length c3))) := hide (by
            rw [HA.out, eL, eO]
            exact disk_end (below_trans HX2.out.1 hbc) HX2.out.2 hrow)
        have HS : Hid (∃ Y, (((wc.setCell ⟨w.heap.size + 1 + 1, 0, none⟩ (.slice a1 live.length c1)).setCell ⟨w.heap.size + 1 + 1, 1, none⟩ (.slice a2 safe.length c2)).setCell ⟨w.heap.size + 1 + 1, 2, none⟩ (.slice a3 ops.length c3)) = Y ∧ Blk (w.heap.size + 1 + 1) [.slice a1 live.length c1, .slice a2 safe.length c2, .slice a3 ops.length c3] Y) := hide ⟨_, rfl, (((KRc).set 0 (.slice a1 live.length c1) (by simp)).set 1 (.slice a2 safe.length c2) (by simp)).set 2 (.slice a3 ops.length c3) (by simp)⟩
        have y0 := (KRc).c 0 _ rfl
        have y1 := (KRc).c 1 _ rfl
        have y2 := (KRc).c 2 _ rfl
        have f0 := (KRc).f 0
        have f1 := (KRc).f 1
        have f2 := (KRc).f 2
        clear hd KRc hbc hrow
        go_wp2
        obtain ⟨Y, hY, kY⟩ := HS.out
        rw [hY] at HE ⊢
        have z0 := kY.c 0 _ rfl
        have z1 := kY.c 1 _ rfl
        have z2 := kY.c 2 _ rfl
        exact bodyPost_ret (v := .tuple #[.agg #[.slice a1 live.length c1, .slice a2 safe.length c2, .slice a3 ops.length c3], .int .i64 (4)]) (by simp [results, Try.results35, go_sem, z0, z1, z2]) rfl HE.out
      · have HRW : Hid _ := hide (own_read HNR.out)
        go_wp2_with fail
        refine (l8Files_any na (doL live o).1 nc w2 (by have := HSM.out.2; omega) HSM.out.1.up (by
          obtain ⟨a', c', e', r', _⟩ := HRW.out
          simp only [Value.slice.injEq] at e'
          obtain ⟨rfl, _, _⟩ := e'
          exact r')).mono ?_
        rintro e w3 ⟨rfl, hb3⟩
        have HX3 : Hid (Below w.heap.size w w3 ∧ w.heap.size + 3 ≤ w3.heap.size) := hide ⟨below_trans HX2.out.1 hb3, Nat.le_trans HX2.out.2 hb3.size⟩
        have KX3 : Hid _ := hide (KX2.out.below hb3)
        have KO3 : Hid _ := hide (KO2.out.below hb3)
        have KR3 : Hid _ := hide (KR2.out.below hb3)
        have HNR3 : Hid _ := hide (own_keep HNR.out hb3)
        clear hb3 HNR KX2 KO2 KR2 HX2 HRW x0 x1 x2 o0 o1 o2 o3
        have x0 := KX3.out.c 0 _ rfl
        have x1 := KX3.out.c 1 _ rfl
        have x2 := KX3.out.c 2 _ rfl
        have o0 := KO3.out.c 0 _ rfl
        have o1 := KO3.out.c 1 _ rfl
        have o2 := KO3.out.c 2 _ rfl
        have o3 := KO3.out.c 3 _ rfl
        cases hfl : filesB (doL live o).1
        · have HA : Hid (actC live ops o = 4) := hide (by simp [actC, hfo, hdo, hfl])
          have hd := HL.out.below HX3.out.1
          go_wp2_with fail
          refine (l8Copy_any la sa oa lc sc oc live safe ops w3 HZ.out.1 HZ.out.2.1 HZ.out.2.2 HC1.out HC2.out HC3.out hd).mono ?_
          rintro e wc ⟨hbc, v1, v2, v3, rfl, hrow⟩
          obtain ⟨a1, c1, a2, c2, a3, c3, rfl, rfl, rfl⟩ := hrow.open
          obtain ⟨eL, eO⟩ := act_no HA.out (by decide)
          have KRc := KR3.out.below hbc
          have HE : Hid (DiskC (actC live ops o) (actL live ops o) (safe) (actO live ops o) w (.returned (.tuple #[.agg #[.slice a1 live.length c1, .slice a2 safe.length c2, .slice a3 ops.length c3], .int .i64 (4)])) (((wc.setCell ⟨w.heap.size + 1 + 1, 0, none⟩ (.slice a1 live.length c1)).setCell ⟨w.heap.size + 1 + 1, 1, none⟩ (.slice a2 safe.length c2)).setCell ⟨w.heap.size + 1 + 1, 2, none⟩ (.slice a3 ops.length c3))) := hide (by
              rw [HA.out, eL, eO]
              exact disk_end (below_trans HX3.out.1 hbc) HX3.out.2 hrow)
          have HS : Hid (∃ Y, (((wc.setCell ⟨w.heap.size + 1 + 1, 0, none⟩ (.slice a1 live.length c1)).setCell ⟨w.heap.size + 1 + 1, 1, none⟩ (.slice a2 safe.length c2)).setCell ⟨w.heap.size + 1 + 1, 2, none⟩ (.slice a3 ops.length c3)) = Y ∧ Blk (w.heap.size + 1 + 1) [.slice a1 live.length c1, .slice a2 safe.length c2, .slice a3 ops.length c3] Y) := hide ⟨_, rfl, (((KRc).set 0 (.slice a1 live.length c1) (by simp)).set 1 (.slice a2 safe.length c2) (by simp)).set 2 (.slice a3 ops.length c3) (by simp)⟩
          have y0 := (KRc).c 0 _ rfl
          have y1 := (KRc).c 1 _ rfl
          have y2 := (KRc).c 2 _ rfl
          have f0 := (KRc).f 0
          have f1 := (KRc).f 1
          have f2 := (KRc).f 2
          clear hd KRc hbc hrow
          go_wp2
          obtain ⟨Y, hY, kY⟩ := HS.out
          rw [hY] at HE ⊢
          have z0 := kY.c 0 _ rfl
          have z1 := kY.c 1 _ rfl
          have z2 := kY.c 2 _ rfl
          exact bodyPost_ret (v := .tuple #[.agg #[.slice a1 live.length c1, .slice a2 safe.length c2, .slice a3 ops.length c3], .int .i64 (4)]) (by simp [results, Try.results35, go_sem, z0, z1, z2]) rfl HE.out
        · have HA : Hid (actC live ops o = 0) := hide (by simp [actC, hfo, hdo, hfl, h200])
          have hd := HL.out.below HX3.out.1
          go_wp2_with fail
          refine (l8Copy_any la sa oa lc sc oc live safe ops w3 HZ.out.1 HZ.out.2.1 HZ.out.2.2 HC1.out HC2.out HC3.out hd).mono ?_
          rintro e w4 ⟨hb4, v1, v2, v3, rfl, hrow⟩
          obtain ⟨a1, c1, a2, c2, a3, c3, rfl, rfl, rfl⟩ := hrow.open
          have bw : Below w4.heap.size w4 (w4.alloc (.cells #[.slice na (doL live o).1.length nc, .slice a2 safe.length c2, .slice a3 ops.length c3] 27)) := below_alloc (Below.refl _ _) _
          have KB : Hid (Blk w4.heap.size [.slice na (doL live o).1.length nc, .slice a2 safe.length c2, .slice a3 ops.length c3] (w4.alloc (.cells #[.slice na (doL live o).1.length nc, .slice a2 safe.length c2, .slice a3 ops.length c3] 27))) := hide Blk.new
          have hb34 := below_trans hb4 bw
          have HX5 : Hid (Below w.heap.size w (w4.alloc (.cells #[.slice na (doL live o).1.length nc, .slice a2 safe.length c2, .slice a3 ops.length c3] 27)) ∧ w.heap.size + 3 ≤ w3.heap.size ∧ w3.heap.size ≤ w4.heap.size) := hide ⟨below_trans HX3.out.1 hb34, HX3.out.2, hb4.size⟩
          have KO5 : Hid _ := hide (KO3.out.below hb34)
          have KR5 : Hid _ := hide (KR3.out.below hb34)
          have HRO : Hid (RowsD w3.heap.size live safe ops (.slice a1 live.length c1) (.slice a2 safe.length c2) (.slice a3 ops.length c3) (w4.alloc (.cells #[.slice na (doL live o).1.length nc, .slice a2 safe.length c2, .slice a3 ops.length c3] 27))) := hide (hrow.below bw)
          have HNR5 : Hid _ := hide (own_keep HNR3.out hb34)
          have HN3 : Hid (Sep (.slice na (doL live o).1.length nc) (.slice a2 safe.length c2) ∧ Sep (.slice na (doL live o).1.length nc) (.slice a3 ops.length c3)) := hide ⟨Sep.old HNR3.out hrow.r2 (Nat.le_refl _), Sep.old HNR3.out hrow.r3 (Nat.le_refl _)⟩
          have hr2 := (hrow.r2.lt)
          have HB4 : Hid (∀ g, g < w4.heap.size → w4.heap.size ≠ g) := hide (fun g hg => by omega)
          have HLT : Hid ((∀ g, (Value.slice na (doL live o).1.length nc).ownBlock = some g → g < w4.heap.size) ∧ (∀ g, (Value.slice a2 safe.length c2).ownBlock = some g → g < w4.heap.size) ∧ (∀ g, (Value.slice a3 ops.length c3).ownBlock = some g → g < w4.heap.size)) := hide ⟨fun g hg => ((own_keep HNR3.out hb4).lt g hg).2, fun g hg => (hrow.r2.lt g hg).2, fun g hg => (hrow.r3.lt g hg).2⟩
          clear bw hb34 hb4 hrow hd hr2 HNR3 KX3 KO3 KR3 HX3 HB4 x0 x1 x2 o0 o1 o2 o3
          have b2 := KB.out.c 2 _ rfl
          have o0 := KO5.out.c 0 _ rfl
          have o1 := KO5.out.c 1 _ rfl
          have o2 := KO5.out.c 2 _ rfl
          have o3 := KO5.out.c 3 _ rfl
          obtain ⟨j0, hj0, hy0, hy1, hy2⟩ := info_parts infoO
          have hv := huO
          go_wp2_with (first | (at_builtin; refine Shut2.mk ?_) | fail)
          refine Shut2.mk' ?_
          obtain ⟨w5, hw5⟩ : ∃ w5, w5 = (w4.alloc (.cells #[.slice na (doL live o).1.length nc, .slice a2 safe.length c2, .slice a3 ops.length c3] 27)) := ⟨_, rfl⟩
          rw [← hw5] at KB HX5 KO5 KR5 HRO HNR5 b2 o0 o1 o2 o3 ⊢
          have HS5 : Hid (w5.heap.size = w4.heap.size + 1) := hide (by rw [hw5]; simp)
          clear hw5
          refine wpList_append_own_at _ rfl _ _ 25 rfl w3.heap.size 36 j0 _ 4 56 hv hj0 hy0 hy1 hy2 rfl (by decide) (.slice a3 ops.length c3) ops.length (ops.flatMap dpCells) rfl ?own ⟨w4.heap.size + 1, 0, none⟩ 1 1 [.int .i64 o.kind, .string o.nm, .string o.tn, .string o.da] rfl rfl ?news (by simp [Value.oneCell']) (by unfold maxLen; omega) (by omega) ?base ?_
          case own => exact own_keep HRO.out.r3 (below_alloc (Below.refl _ _) _)
          case news => rw [← HS5.out]; exact news4 (World.cell?_alloc_at _ _ _ _ rfl) (World.cell?_alloc_at _ _ _ _ rfl) (World.cell?_alloc_at _ _ _ _ rfl) (World.cell?_alloc_at _ _ _ _ rfl)
          case base => have := HX5.out.1.size; have := HX5.out.2; have := HS5.out; simp; omega
          intro v6 w6 ho6 hg6 _ hl6
          obtain ⟨x5, hx5⟩ : ∃ x5, x5 = w5.alloc (.cells #[.int .i64 o.kind, .string o.nm, .string o.tn, .string o.da] 36) := ⟨_, rfl⟩
          have ba : Below w5.heap.size w5 x5 := by rw [hx5]; exact below_alloc (Below.refl _ _) _
          have sx : x5.heap.size = w4.heap.size + 1 + 1 := by rw [hx5, ← HS5.out]; simp
          rw [← hx5] at hg6 hl6
          have lo3 : ∀ j, (Value.slice a3 ops.length c3).ownBlock = some j → w3.heap.size ≤ j := fun j hj => (HRO.out.r3.lt j hj).1
          have HB6 : Below w.heap.size w w6 := (below_trans HX5.out.1 ba).grown hg6 (by have := HX5.out.2; omega) (fun j hj => by have := lo3 j hj; have := HX5.out.2; omega)
          have KB6 := (KB.out.below ba).grown hg6 (fun q => by have := HLT.out.2.2 _ q.symm; omega)
          have KR6 := (KR5.out.below ba).grown hg6 (fun q => by have := lo3 _ q.symm; have := HX5.out.2; omega)
          have hn5 := own_keep HNR5.out ba
          have h25 := own_keep HRO.out.r2 ba
          have r1 := hn5.kept hg6 (Sep.ne HN3.out.2)
          have r2 := h25.kept hg6 (Sep.ne HRO.out.s23)
          have r3 : w6.ownsRow w3.heap.size 36 4 v6 (ops ++ [o]).length ((ops ++ [o]).flatMap dpCells) := by
            rw [List.flatMap_append]
            simpa [dpCells] using ho6
          have hsh := row_shape ho6
          have s13 := Sep.growr HN3.out.2 hl6 hn5
          have s23 := Sep.growr HRO.out.s23 hl6 h25
          have l6 : ∀ g, v6.ownBlock = some g → g ≠ w4.heap.size := fun g hg => by
            rcases hl6 with q | q
            · have := HLT.out.2.2 g (q ▸ hg); omega
            · rw [q] at hg; simp only [Option.some.injEq] at hg; omega
          obtain ⟨a6, c6, rfl⟩ := hsh
          have hrow : RowsD (w.heap.size + 3) (doL live o).1 safe (ops ++ [o]) (.slice na (doL live o).1.length nc) (.slice a2 safe.length c2) (.slice a6 (ops.length + 1) c6) (w6.setCell ⟨w4.heap.size, 2, none⟩ (.slice a6 (ops.length + 1) c6)) :=
            ⟨own_mono (r1.kept (grown_set _ _ _ _) (.inr (fun q => by have := HLT.out.1 _ q; omega))) HNL.out, own_mono (r2.kept (grown_set _ _ _ _) (.inr (fun q => by have := HLT.out.2.1 _ q; omega))) HX5.out.2.1, own_mono (r3.kept (grown_set _ _ _ _) (.inr (fun q => l6 _ q rfl))) HX5.out.2.1, HN3.out.1, s13, s23⟩
          have hy := HB6.setCell (p := ⟨w4.heap.size, 2, none⟩) (by show w.heap.size ≤ w4.heap.size; have := HX5.out.2; omega) (.slice a6 (ops.length + 1) c6)
          have KRc : Blk (w.heap.size + 1 + 1) [.slice none 0 0, .slice none 0 0, .slice none 0 0] (w6.setCell ⟨w4.heap.size, 2, none⟩ (.slice a6 (ops.length + 1) c6)) := KR6.other 2 _ (by have := HX5.out.2; omega)
          have KBc := KB6.set 2 (.slice a6 (ops.length + 1) c6) (by simp)
          have g2 := KB6.c 2 _ rfl
          have fg := KB6.f 2
          have k0 := KBc.c 0 _ rfl
          have k1 := KBc.c 1 _ rfl
          have k2 := KBc.c 2 _ rfl
          obtain ⟨eL, eO⟩ := act_yes HA.out
          have HE : Hid (DiskC (actC live ops o) (actL live ops o) (safe) (actO live ops o) w (.returned (.tuple #[.agg #[.slice na (doL live o).1.length nc, .slice a2 safe.length c2, .slice a6 (ops.length + 1) c6], .int .i64 0])) ((((w6.setCell ⟨w4.heap.size, 2, none⟩ (.slice a6 (ops.length + 1) c6)).setCell ⟨w.heap.size + 1 + 1, 0, none⟩ (.slice na (doL live o).1.length nc)).setCell ⟨w.heap.size + 1 + 1, 1, none⟩ (.slice a2 safe.length c2)).setCell ⟨w.heap.size + 1 + 1, 2, none⟩ (.slice a6 (ops.length + 1) c6))) := hide (by
              rw [HA.out, eL, eO]
              exact disk_end hy (Nat.le_refl _) hrow)
          have HS : Hid (∃ Y, ((((w6.setCell ⟨w4.heap.size, 2, none⟩ (.slice a6 (ops.length + 1) c6)).setCell ⟨w.heap.size + 1 + 1, 0, none⟩ (.slice na (doL live o).1.length nc)).setCell ⟨w.heap.size + 1 + 1, 1, none⟩ (.slice a2 safe.length c2)).setCell ⟨w.heap.size + 1 + 1, 2, none⟩ (.slice a6 (ops.length + 1) c6)) = Y ∧ Blk (w.heap.size + 1 + 1) [.slice na (doL live o).1.length nc, .slice a2 safe.length c2, .slice a6 (ops.length + 1) c6] Y) := hide ⟨_, rfl, (((KRc).set 0 (.slice na (doL live o).1.length nc) (by simp)).set 1 (.slice a2 safe.length c2) (by simp)).set 2 (.slice a6 (ops.length + 1) c6) (by simp)⟩
          have y0 := (KRc).c 0 _ rfl
          have y1 := (KRc).c 1 _ rfl
          have y2 := (KRc).c 2 _ rfl
          have f0 := (KRc).f 0
          have f1 := (KRc).f 1
          have f2 := (KRc).f 2
          clear KRc KBc hy hrow l6 s13 s23 hl6 hg6 ho6 r1 r2 r3 h25 hn5 KR6 KB6 HB6 lo3 sx ba hx5 b2 o0 o1 o2 o3
          go_wp2
          obtain ⟨Y, hY, kY⟩ := HS.out
          rw [hY] at HE ⊢
          have z0 := kY.c 0 _ rfl
          have z1 := kY.c 1 _ rfl
          have z2 := kY.c 2 _ rfl
          exact bodyPost_ret (v := .tuple #[.agg #[.slice na (doL live o).1.length nc, .slice a2 safe.length c2, .slice a6 (ops.length + 1) c6], .int .i64 0]) (by simp [results, Try.results35, go_sem, z0, z1, z2]) rfl HE.out
end Go.Proofs.Ytiilkkdbifhojaa
