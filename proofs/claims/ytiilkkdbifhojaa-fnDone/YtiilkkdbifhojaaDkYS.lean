/- The contract of the model's Sync. -/
import Derived.Test.YtiilkkdbifhojaaDkYI
import Derived.Test.YtiilkkdbifhojaaDkP1
namespace Go.Proofs.Ytiilkkdbifhojaa
open Go.ChangeShapes Go.WideShapes Go.ChangeAt Go.RowKit
set_option linter.unusedVariables false
set_option maxRecDepth 100000
/-- what holds in the midst of its region -/
structure SyF (s n : Nat) (wp : World) (la : Option Addr) (lc : Nat) (xs : List Value) (l0 l1 l2 l3 l4 l5 l6 l7 l8 l9 : Bool) (u7 u8 u9 u10 u11 u12 u13 u14 u15 : Value) (x : World) : Prop where
  bel : Below (s + 1) wp x
  sz : s + 2 ≤ x.heap.size
  res : Blk (s + 1) [.slice none 0 0, .slice none 0 0, .slice none 0 0] x ∨ l9 = true
  a0 : l0 = true → l3 = false → x.ownsRow (s + 2) 52 2 u7 0 []
  a1 : l3 = true → x.ownsRow (s + 2) 52 2 u10 n xs
  b0 : l4 = true → l7 = false → x.ownsRow (s + 2) 52 2 u11 0 []
  b1 : l7 = true → x.ownsRow (s + 2) 52 2 u14 n xs
  s00 : l0 = true → l3 = false → l4 = true → l7 = false → Sep u7 u11
  s10 : l3 = true → l4 = true → l7 = false → Sep u10 u11
  s11 : l7 = true → Sep u10 u14
  d7 : l7 = true → l3 = true
  q15 : l8 = true → u15 = .agg #[u10, u14, .slice none 0 0]
  d8 : l8 = true → l7 = true
  d9 : l9 = true → l8 = true
  fin : l9 = true → Blk (s + 1) [u10, u14, .slice none 0 0] x
  p8 : l1 = true → u8 = .pointer (some ⟨s, 0, none⟩)
  p9 : l2 = true → u9 = .slice la n lc
  p12 : l5 = true → u12 = .pointer (some ⟨s, 0, none⟩)
  p13 : l6 = true → u13 = .slice la n lc
theorem SyF.st0 {s n : Nat} {wp : World} {la : Option Addr} {lc : Nat} {xs : List Value} {l1 l2 l3 l4 l5 l6 l7 l8 l9 : Bool} {u7 u8 u9 u10 u11 u12 u13 u14 u15 : Value} {x : World} (h : SyF s n wp la lc xs false l1 l2 l3 l4 l5 l6 l7 l8 l9 u7 u8 u9 u10 u11 u12 u13 u14 u15 x) : SyF s n wp la lc xs true l1 l2 l3 l4 l5 l6 l7 l8 l9 (.slice (some ⟨x.heap.size, 0, none⟩) 0 0) u8 u9 u10 u11 u12 u13 u14 u15 (x.alloc (.cells #[] 52)) := by
  have hsz := h.sz
  have ba : Below x.heap.size x (x.alloc (.cells #[] 52)) := below_alloc (Below.refl _ _) _
  exact { h with
    bel := h.bel.alloc (by omega) _
    sz := Nat.le_trans hsz ba.size
    res := h.res.imp (fun r => r.below ba) id
    a0 := fun _ _ => World.ownsRow_made x #[] 0 hsz (by unfold maxLen; omega) rfl
    a1 := fun a => (h.a1 a).alloc _
    b0 := fun a b => (h.b0 a b).alloc _
    b1 := fun a => (h.b1 a).alloc _
    s00 := fun _ _ c d => Sep.newl (h.b0 c d)
    fin := fun q => (h.fin q).below ba }
theorem SyF.st4 {s n : Nat} {wp : World} {la : Option Addr} {lc : Nat} {xs : List Value} {l0 l1 l2 l3 l5 l6 l7 l8 l9 : Bool} {u7 u8 u9 u10 u11 u12 u13 u14 u15 : Value} {x : World} (h : SyF s n wp la lc xs l0 l1 l2 l3 false l5 l6 l7 l8 l9 u7 u8 u9 u10 u11 u12 u13 u14 u15 x) : SyF s n wp la lc xs l0 l1 l2 l3 true l5 l6 l7 l8 l9 u7 u8 u9 u10 (.slice (some ⟨x.heap.size, 0, none⟩) 0 0) u12 u13 u14 u15 (x.alloc (.cells #[] 52)) := by
  have hsz := h.sz
  have ba : Below x.heap.size x (x.alloc (.cells #[] 52)) := below_alloc (Below.refl _ _) _
  exact { h with
    bel := h.bel.alloc (by omega) _
    sz := Nat.le_trans hsz ba.size
    res := h.res.imp (fun r => r.below ba) id
    a0 := fun a b => (h.a0 a b).alloc _
    a1 := fun a => (h.a1 a).alloc _
    b0 := fun _ _ => World.ownsRow_made x #[] 0 hsz (by unfold maxLen; omega) rfl
    b1 := fun a => (h.b1 a).alloc _
    s00 := fun a b _ _ => Sep.newr (h.a0 a b)
    s10 := fun a _ _ => Sep.newr (h.a1 a)
    fin := fun q => (h.fin q).below ba }
theorem SyF.st3 {s n : Nat} {wp : World} {la : Option Addr} {lc : Nat} {xs : List Value} {l1 l4 l5 l6 l7 l8 l9 : Bool} {u7 u8 u9 u10 u11 u12 u13 u14 u15 : Value} {x : World} {y : World} {v : Value} (h : SyF s n wp la lc xs true l1 true false l4 l5 l6 l7 l8 l9 u7 u8 u9 u10 u11 u12 u13 u14 u15 x) (ho : y.ownsRow (s + 2) 52 2 v n xs) (hg : x.grownBy y u7.ownBlock) (hl : v.ownBlock = u7.ownBlock ∨ v.ownBlock = some x.heap.size) : SyF s n wp la lc xs true l1 true true l4 l5 l6 l7 l8 l9 u7 u8 u9 v u11 u12 u13 u14 u15 y := by
  have hsz := h.sz
  have own := h.a0 rfl rfl
  have lo : ∀ k, u7.ownBlock = some k → s + 2 ≤ k := fun k hk => (own.lt k hk).1
  have n7 : l7 = true → False := fun q => by have := h.d7 q; cases this
  exact { h with
    bel := h.bel.grown hg (by omega) (fun k hk => by have := lo k hk; omega)
    sz := Nat.le_trans hsz hg.size
    res := h.res.imp (fun r => r.grown hg (fun q => by have := lo _ q.symm; omega)) id
    a0 := fun _ q => by cases q
    a1 := fun _ => ho
    b0 := fun a b => (h.b0 a b).kept hg (Sep.en (h.s00 rfl rfl a b))
    b1 := fun q => (n7 q).elim
    s00 := fun _ q => by cases q
    s10 := fun _ a b => Sep.grow (h.s00 rfl rfl a b) hl (h.b0 a b)
    s11 := fun q => (n7 q).elim
    d7 := fun _ => rfl
    q15 := fun q => (n7 (h.d8 q)).elim
    fin := fun q => (n7 (h.d8 (h.d9 q))).elim }
theorem SyF.st7 {s n : Nat} {wp : World} {la : Option Addr} {lc : Nat} {xs : List Value} {l0 l1 l2 l5 l8 l9 : Bool} {u7 u8 u9 u10 u11 u12 u13 u14 u15 : Value} {x : World} {y : World} {v : Value} (h : SyF s n wp la lc xs l0 l1 l2 true true l5 true false l8 l9 u7 u8 u9 u10 u11 u12 u13 u14 u15 x) (ho : y.ownsRow (s + 2) 52 2 v n xs) (hg : x.grownBy y u11.ownBlock) (hl : v.ownBlock = u11.ownBlock ∨ v.ownBlock = some x.heap.size) : SyF s n wp la lc xs l0 l1 l2 true true l5 true true l8 l9 u7 u8 u9 u10 u11 u12 u13 v u15 y := by
  have hsz := h.sz
  have own := h.b0 rfl rfl
  have lo : ∀ k, u11.ownBlock = some k → s + 2 ≤ k := fun k hk => (own.lt k hk).1
  have n8 : l8 = true → False := fun q => by have := h.d8 q; cases this
  exact { h with
    bel := h.bel.grown hg (by omega) (fun k hk => by have := lo k hk; omega)
    sz := Nat.le_trans hsz hg.size
    res := h.res.imp (fun r => r.grown hg (fun q => by have := lo _ q.symm; omega)) id
    a0 := fun _ q => by cases q
    a1 := fun _ => (h.a1 rfl).kept hg (Sep.ne (h.s10 rfl rfl rfl))
    b0 := fun _ q => by cases q
    b1 := fun _ => ho
    s00 := fun _ q => by cases q
    s10 := fun _ _ q => by cases q
    s11 := fun _ => Sep.growr (h.s10 rfl rfl rfl) hl (h.a1 rfl)
    d7 := fun _ => rfl
    q15 := fun q => (n8 q).elim
    d8 := fun _ => rfl
    fin := fun q => (n8 (h.d9 q)).elim }
theorem SyF.st9 {s n : Nat} {wp : World} {la : Option Addr} {lc : Nat} {xs : List Value} {u7 u8 u9 u10 u11 u12 u13 u14 u15 : Value} {x : World} (h : SyF s n wp la lc xs true true true true true true true true true false u7 u8 u9 u10 u11 u12 u13 u14 u15 x) : SyF s n wp la lc xs true true true true true true true true true true u7 u8 u9 u10 u11 u12 u13 u14 u15 (((x.setCell ⟨s + 1, 0, none⟩ u10).setCell ⟨s + 1, 1, none⟩ u14).setCell ⟨s + 1, 2, none⟩ (.slice none 0 0)) := by
  have hsz := h.sz
  have R := h.res.resolve_right (by simp)
  have hn : u10.ownBlock = none ∨ u10.ownBlock ≠ some (s + 1) := .inr (fun q => by have := ((h.a1 rfl).lt _ q).1; omega)
  have hn2 : u14.ownBlock = none ∨ u14.ownBlock ≠ some (s + 1) := .inr (fun q => by have := ((h.b1 rfl).lt _ q).1; omega)
  exact { h with
    bel := ((h.bel.setCell (p := ⟨s + 1, 0, none⟩) (Nat.le_refl _) _).setCell (p := ⟨s + 1, 1, none⟩) (Nat.le_refl _) _).setCell (p := ⟨s + 1, 2, none⟩) (Nat.le_refl _) _
    sz := by simpa [World.setCell] using hsz
    res := .inr rfl
    a0 := fun _ q => by cases q
    a1 := fun _ => (((h.a1 rfl).kept (grown_set _ _ _ _) hn).kept (grown_set _ _ _ _) hn).kept (grown_set _ _ _ _) hn
    b0 := fun _ q => by cases q
    b1 := fun _ => (((h.b1 rfl).kept (grown_set _ _ _ _) hn2).kept (grown_set _ _ _ _) hn2).kept (grown_set _ _ _ _) hn2
    d9 := fun _ => rfl
    fin := fun _ => ((R.set 0 u10 (by simp)).set 1 u14 (by simp)).set 2 (.slice none 0 0) (by simp) }
set_option maxHeartbeats 8000000 in
theorem specSync_any (la sa oa : Option Addr) (lc sc oc : Nat) (live safe : List Fl) (ops : List Dp) (w : World) (hm : SmD live safe ops) (hc : la = none → lc = 0) (hsc : sa = none → sc = 0) (h : DkAt w la sa oa live safe ops) :
    Calls Try.prog 39 #[.agg #[.slice la live.length lc, .slice sa safe.length sc, .slice oa ops.length oc]] w fun e w' => DiskV (syncL live safe ops) (syncL live safe ops) [] w e w' := by
  have HM : Hid _ := hide hm
  have HL : Hid _ := hide h
  have HC : Hid _ := hide hc
  clear hm h hc
  obtain ⟨wa, hwa⟩ : ∃ wa, wa = (w.alloc (.cells #[.slice la live.length lc, .slice sa safe.length sc, .slice oa ops.length oc] 27)).alloc (.cells #[.slice none 0 0, .slice none 0 0, .slice none 0 0] 27) := ⟨_, rfl⟩
  have HW : Hid ((w.alloc (.cells #[.slice la live.length lc, .slice sa safe.length sc, .slice oa ops.length oc] 27)).alloc (.cells #[.slice none 0 0, .slice none 0 0, .slice none 0 0] 27) = wa) := hide hwa.symm
  have KX0 : Hid (Blk w.heap.size [.slice la live.length lc, .slice sa safe.length sc, .slice oa ops.length oc] wa) := hide (by rw [hwa]; exact Blk.new.alloc _)
  have KR0 : Hid (Blk (w.heap.size + 1) [.slice none 0 0, .slice none 0 0, .slice none 0 0] wa) := hide (by rw [hwa]; exact (by simpa using Blk.new (w := w.alloc (.cells #[.slice la live.length lc, .slice sa safe.length sc, .slice oa ops.length oc] 27)) (cur := [.slice none 0 0, .slice none 0 0, .slice none 0 0]) (T := 27)))
  have HX0 : Hid (Below w.heap.size w wa ∧ w.heap.size + 2 ≤ wa.heap.size) := hide ⟨by rw [hwa]; exact below_alloc (below_alloc (Below.refl _ _) _) _, by rw [hwa]; simp⟩
  clear hwa
  go_enter Try.func39, Try.ntmps39
  go_wp2_with fail
  rw [HW.out]
  have hd := HL.out.below HX0.out.1
  refine (specDiskOk_any la sa oa lc sc oc live safe ops wa HM.out.1.1 HM.out.2.1.1 HM.out.2.2.1 HM.out.1.f HM.out.2.1.f HM.out.2.2.2 hsc hd.r1 hd.r2 hd.r3).mono ?_
  rintro e w1 ⟨rfl, hb1⟩
  clear hd
  have HX1 : Hid (Below w.heap.size w w1 ∧ w.heap.size + 2 ≤ w1.heap.size) := hide ⟨below_trans HX0.out.1 hb1, by have := hb1.size; have := HX0.out.2; omega⟩
  have KX1 : Hid _ := hide (KX0.out.below hb1)
  have KR1 : Hid _ := hide (KR0.out.below hb1)
  clear hb1 KX0 KR0
  have x0 := KX1.out.c 0 _ rfl
  have y0 := KR1.out.c 0 _ rfl
  have y1 := KR1.out.c 1 _ rfl
  have y2 := KR1.out.c 2 _ rfl
  have f0 := KR1.out.f 0
  have f1 := KR1.out.f 1
  have f2 := KR1.out.f 2
  cases hB : diskB ⟨live, safe, ops⟩
  · have HE : Hid (DiskV (syncL live safe ops) (syncL live safe ops) [] w (.returned (.agg #[.slice none 0 0, .slice none 0 0, .slice none 0 0])) (((w1.setCell ⟨w.heap.size + 1, 0, none⟩ (.slice none 0 0)).setCell ⟨w.heap.size + 1, 1, none⟩ (.slice none 0 0)).setCell ⟨w.heap.size + 1, 2, none⟩ (.slice none 0 0))) := hide (by
      rw [show syncL live safe ops = [] by simp [syncL, hB]]
      exact ⟨((HX1.out.1.setCell (p := ⟨w.heap.size + 1, 0, none⟩) (Nat.le_succ _) _).setCell (p := ⟨w.heap.size + 1, 1, none⟩) (Nat.le_succ _) _).setCell (p := ⟨w.heap.size + 1, 2, none⟩) (Nat.le_succ _) _, _, _, _, rfl, ⟨⟨by simp, .inl ⟨rfl, rfl⟩⟩, ⟨by simp, .inl ⟨rfl, rfl⟩⟩, ⟨by simp, .inl ⟨rfl, rfl⟩⟩, fun g hg => (by cases hg), fun g hg => (by cases hg), fun g hg => (by cases hg)⟩⟩)
    have HS : Hid (∃ Y, (((w1.setCell ⟨w.heap.size + 1, 0, none⟩ (.slice none 0 0)).setCell ⟨w.heap.size + 1, 1, none⟩ (.slice none 0 0)).setCell ⟨w.heap.size + 1, 2, none⟩ (.slice none 0 0)) = Y ∧ Blk (w.heap.size + 1) [.slice none 0 0, .slice none 0 0, .slice none 0 0] Y) := hide ⟨_, rfl, (((KR1.out).set 0 (.slice none 0 0) (by simp)).set 1 (.slice none 0 0) (by simp)).set 2 (.slice none 0 0) (by simp)⟩
    go_wp2
    obtain ⟨Y, hY, kY⟩ := HS.out
    rw [hY] at HE ⊢
    have z0 := kY.c 0 _ rfl
    have z1 := kY.c 1 _ rfl
    have z2 := kY.c 2 _ rfl
    exact bodyPost_ret (v := .agg #[.slice none 0 0, .slice none 0 0, .slice none 0 0]) (by simp [results, Try.results39, go_sem, z0, z1, z2]) rfl HE.out
  · clear y0 y1 y2 f0 f1 f2 x0
    obtain ⟨i0, hi0, hz0, hz1, hz2⟩ := info_parts infoF
    have hu := huF
    have HN : Hid _ := hide (HL.out.r1.news_any flLen (by decide))
    have HZ : Hid (live.length ≤ 1048576) := hide HM.out.1.1
    go_wp2_with fail
    have HB1 : Hid (Below (w.heap.size + 1) w1 w1.drew) := hide (Below.refl _ _).drew
    have HSZ : Hid (w.heap.size + 2 ≤ w1.drew.heap.size) := hide HX1.out.2
    have HR : Hid (Blk (w.heap.size + 1) [.slice none 0 0, .slice none 0 0, .slice none 0 0] w1.drew) := hide (KR1.out.below (Below.refl _ _).drew)
    rename_i hK0
    refine wp_region_inv (by kernel_rfl) (fun L act x => ∃ l0 l1 l2 l3 l4 l5 l6 l7 l8 l9 : Bool, ∃ u7 u8 u9 u10 u11 u12 u13 u14 u15 : Value, L = #[l0, l1, l2, l3, l4, l5, l6, l7, l8, l9] ∧ act = { tmps := #[Value.agg #[Value.slice la live.length lc, Value.slice sa safe.length sc, Value.slice oa ops.length oc], Value.pointer (some { block := w.heap.size, off := 0 }), Value.pointer (some { block := w.heap.size + 1, off := 0 }), Value.agg #[Value.slice la live.length lc, Value.slice sa safe.length sc, Value.slice oa ops.length oc], Value.bool true, Value.bool false, undef, u7, u8, u9, u10, u11, u12, u13, u14, u15], defers := [] } ∧ SyF w.heap.size live.length w1 la lc (live.flatMap flCells) l0 l1 l2 l3 l4 l5 l6 l7 l8 l9 u7 u8 u9 u10 u11 u12 u13 u14 u15 x) ?_ ?_ ?_
    rotate_left 2
    · exact ⟨false, false, false, false, false, false, false, false, false, false, (undef), (undef), (undef), (undef), (undef), (undef), (undef), (undef), (undef), rfl, rfl, ⟨HB1.out, HSZ.out, .inl HR.out, fun q => (by cases q), fun q => (by cases q), fun q => (by cases q), fun q => (by cases q), fun q => (by cases q), fun q => (by cases q), fun q => (by cases q), fun q => (by cases q), fun q => (by cases q), fun q => (by cases q), fun q => (by cases q), fun q => (by cases q), fun q => (by cases q), fun q => (by cases q), fun q => (by cases q), fun q => (by cases q)⟩⟩
    · rintro L act x i ⟨l0, l1, l2, l3, l4, l5, l6, l7, l8, l9, u7, u8, u9, u10, u11, u12, u13, u14, u15, rfl, rfl, h⟩ hi K hK
      have hi15 : i < 10 := by
        obtain ⟨_, o, ho, _⟩ := mem_ready.1 hi
        exact (Array.getElem?_eq_some_iff.1 ho).1
      have hl := (mem_ready.1 hi).1
      obtain rfl | rfl | rfl | rfl | rfl | rfl | rfl | rfl | rfl | rfl := (by omega : i = 0 ∨ i = 1 ∨ i = 2 ∨ i = 3 ∨ i = 4 ∨ i = 5 ∨ i = 6 ∨ i = 7 ∨ i = 8 ∨ i = 9)
      · have e : l0 = false := hl
        subst e
        refine wpOp_run (v := .slice (some ⟨x.heap.size, 0, none⟩) 0 0) (w' := x.alloc (.cells #[] 52)) (by rfl) (by rfl) ?_ (hK _ _ ⟨true, l1, l2, l3, l4, l5, l6, l7, l8, l9, (.slice (some ⟨x.heap.size, 0, none⟩) 0 0), u8, u9, u10, u11, u12, u13, u14, u15, rfl, rfl, h.st0⟩)
        go_simp
      · have e : l1 = false := hl
        subst e
        refine wpOp_run (v := .pointer (some ⟨w.heap.size, 0, none⟩)) (w' := x) (by rfl) (by rfl) ?_ (hK _ _ ⟨l0, true, l2, l3, l4, l5, l6, l7, l8, l9, u7, (.pointer (some ⟨w.heap.size, 0, none⟩)), u9, u10, u11, u12, u13, u14, u15, rfl, rfl, { h with p8 := fun _ => rfl }⟩)
        go_simp
      · have e : l2 = false := hl
        subst e
        have d1 : l1 = true := ready_on hi 1 (by kernel_rfl)
        subst d1
        have c0 : x.cell? ⟨w.heap.size, 0, none⟩ = some (.slice la live.length lc) := (h.bel.cell (by show w.heap.size < _; omega)).trans (KX1.out.c 0 _ rfl)
        refine wpOp_run (v := .slice la live.length lc) (w' := x) (by rfl) (by rfl) ?_ (hK _ _ ⟨l0, true, true, l3, l4, l5, l6, l7, l8, l9, u7, u8, (.slice la live.length lc), u10, u11, u12, u13, u14, u15, rfl, rfl, { h with p9 := fun _ => rfl }⟩)
        rw [h.p8 rfl]
        go_simp
      · have e : l3 = false := hl
        subst e
        have d0 : l0 = true := ready_on hi 0 (by kernel_rfl)
        subst d0
        have d2 : l2 = true := ready_on hi 2 (by kernel_rfl)
        subst d2
        have hsz := h.sz
        have HZ1 := HZ.out
        obtain ⟨v', y, hr, ho, hg, hlie⟩ := run_append_any (P := Try.prog) (w := x) (w.heap.size + 2) 24 24 52 i0 _ 2 32 hu hi0 hz0 hz1 hz2 rfl (by decide) _ 0 [] (h.a0 rfl rfl) la live.length lc (live.flatMap flCells) (flat_len flCells 2 flLen live) (fun e => ⟨row_none HL.out.r1 e, HC.out e⟩) (fun ad had j u hj => below_keeps (HX1.out.1.trans (h.bel.mono (by omega))) _ _ (HN.out ad had j u hj)) (fl_one live) (by unfold maxLen; omega) (by omega) hsz
        rw [Nat.zero_add, List.nil_append] at ho
        refine wpOp_run (v := v') (w' := y) (by rfl) (by rfl) ?_ (hK _ _ ⟨true, l1, true, true, l4, l5, l6, l7, l8, l9, u7, u8, u9, (v'), u11, u12, u13, u14, u15, rfl, rfl, h.st3 ho hg hlie⟩)
        exact exec_append rfl (by rfl) (h.p9 rfl) hr
      · have e : l4 = false := hl
        subst e
        refine wpOp_run (v := .slice (some ⟨x.heap.size, 0, none⟩) 0 0) (w' := x.alloc (.cells #[] 52)) (by rfl) (by rfl) ?_ (hK _ _ ⟨l0, l1, l2, l3, true, l5, l6, l7, l8, l9, u7, u8, u9, u10, (.slice (some ⟨x.heap.size, 0, none⟩) 0 0), u12, u13, u14, u15, rfl, rfl, h.st4⟩)
        go_simp
      · have e : l5 = false := hl
        subst e
        refine wpOp_run (v := .pointer (some ⟨w.heap.size, 0, none⟩)) (w' := x) (by rfl) (by rfl) ?_ (hK _ _ ⟨l0, l1, l2, l3, l4, true, l6, l7, l8, l9, u7, u8, u9, u10, u11, (.pointer (some ⟨w.heap.size, 0, none⟩)), u13, u14, u15, rfl, rfl, { h with p12 := fun _ => rfl }⟩)
        go_simp
      · have e : l6 = false := hl
        subst e
        have d5 : l5 = true := ready_on hi 5 (by kernel_rfl)
        subst d5
        have c0 : x.cell? ⟨w.heap.size, 0, none⟩ = some (.slice la live.length lc) := (h.bel.cell (by show w.heap.size < _; omega)).trans (KX1.out.c 0 _ rfl)
        refine wpOp_run (v := .slice la live.length lc) (w' := x) (by rfl) (by rfl) ?_ (hK _ _ ⟨l0, l1, l2, l3, l4, true, true, l7, l8, l9, u7, u8, u9, u10, u11, u12, (.slice la live.length lc), u14, u15, rfl, rfl, { h with p13 := fun _ => rfl }⟩)
        rw [h.p12 rfl]
        go_simp
      · have e : l7 = false := hl
        subst e
        have d3 : l3 = true := ready_on hi 3 (by kernel_rfl)
        subst d3
        have d4 : l4 = true := ready_on hi 4 (by kernel_rfl)
        subst d4
        have d6 : l6 = true := ready_on hi 6 (by kernel_rfl)
        subst d6
        have hsz := h.sz
        have HZ1 := HZ.out
        obtain ⟨v', y, hr, ho, hg, hlie⟩ := run_append_any (P := Try.prog) (w := x) (w.heap.size + 2) 24 24 52 i0 _ 2 32 hu hi0 hz0 hz1 hz2 rfl (by decide) _ 0 [] (h.b0 rfl rfl) la live.length lc (live.flatMap flCells) (flat_len flCells 2 flLen live) (fun e => ⟨row_none HL.out.r1 e, HC.out e⟩) (fun ad had j u hj => below_keeps (HX1.out.1.trans (h.bel.mono (by omega))) _ _ (HN.out ad had j u hj)) (fl_one live) (by unfold maxLen; omega) (by omega) hsz
        rw [Nat.zero_add, List.nil_append] at ho
        refine wpOp_run (v := v') (w' := y) (by rfl) (by rfl) ?_ (hK _ _ ⟨l0, l1, l2, true, true, l5, true, true, l8, l9, u7, u8, u9, u10, u11, u12, u13, (v'), u15, rfl, rfl, h.st7 ho hg hlie⟩)
        exact exec_append rfl (by rfl) (h.p13 rfl) hr
      · have e : l8 = false := hl
        subst e
        have d3 : l3 = true := ready_on hi 3 (by kernel_rfl)
        subst d3
        have d7 : l7 = true := ready_on hi 7 (by kernel_rfl)
        subst d7
        obtain ⟨a4, c4, e4⟩ := row_shape (h.a1 rfl)
        obtain ⟨a5, c5, e5⟩ := row_shape (h.b1 rfl)
        refine wpOp_run (v := .agg #[u10, u14, .slice none 0 0]) (w' := x) (by rfl) (by rfl) ?_ (hK _ _ ⟨l0, l1, l2, true, l4, l5, l6, true, true, l9, u7, u8, u9, u10, u11, u12, u13, u14, (.agg #[u10, u14, .slice none 0 0]), rfl, rfl, { h with q15 := fun _ => rfl, d8 := fun _ => rfl, d9 := fun _ => rfl }⟩)
        rw [e4, e5]
        go_simp
      · have e : l9 = false := hl
        subst e
        have d0 : l0 = true := ready_on hi 0 (by kernel_rfl)
        subst d0
        have d1 : l1 = true := ready_on hi 1 (by kernel_rfl)
        subst d1
        have d2 : l2 = true := ready_on hi 2 (by kernel_rfl)
        subst d2
        have d3 : l3 = true := ready_on hi 3 (by kernel_rfl)
        subst d3
        have d4 : l4 = true := ready_on hi 4 (by kernel_rfl)
        subst d4
        have d5 : l5 = true := ready_on hi 5 (by kernel_rfl)
        subst d5
        have d6 : l6 = true := ready_on hi 6 (by kernel_rfl)
        subst d6
        have d7 : l7 = true := ready_on hi 7 (by kernel_rfl)
        subst d7
        have d8 : l8 = true := ready_on hi 8 (by kernel_rfl)
        subst d8
        obtain ⟨a4, c4, e4⟩ := row_shape (h.a1 rfl)
        obtain ⟨a5, c5, e5⟩ := row_shape (h.b1 rfl)
        have R := h.res.resolve_right (by simp)
        have r0 := R.c 0 _ rfl
        have r1 := R.c 1 _ rfl
        have r2 := R.c 2 _ rfl
        have f0 := R.f 0
        have f1 := R.f 1
        have f2 := R.f 2
        refine wpOp_skip (w' := (((x.setCell ⟨w.heap.size + 1, 0, none⟩ u10).setCell ⟨w.heap.size + 1, 1, none⟩ u14).setCell ⟨w.heap.size + 1, 2, none⟩ (.slice none 0 0))) (by rfl) (by rfl) ?_ (hK _ _ ⟨true, true, true, true, true, true, true, true, true, true, u7, u8, u9, u10, u11, u12, u13, u14, u15, rfl, rfl, h.st9⟩)
        rw [h.q15 rfl, e4, e5]
        go_simp
    · rintro L act x ⟨l0, l1, l2, l3, l4, l5, l6, l7, l8, l9, u7, u8, u9, u10, u11, u12, u13, u14, u15, rfl, rfl, h⟩ hr
      have hall := ready_all hr rfl (by decide)
      have t0 : l0 = true := hall 0 (by decide)
      have t1 : l1 = true := hall 1 (by decide)
      have t2 : l2 = true := hall 2 (by decide)
      have t3 : l3 = true := hall 3 (by decide)
      have t4 : l4 = true := hall 4 (by decide)
      have t5 : l5 = true := hall 5 (by decide)
      have t6 : l6 = true := hall 6 (by decide)
      have t7 : l7 = true := hall 7 (by decide)
      have t8 : l8 = true := hall 8 (by decide)
      have t9 : l9 = true := hall 9 (by decide)
      subst t0 t1 t2 t3 t4 t5 t6 t7 t8 t9
      clear hall hr
      obtain ⟨g4, a4, c4, hb4, e4, n4, o4⟩ := own_of_row2 flLen (h.a1 rfl)
      obtain ⟨g5, a5, c5, hb5, e5, n5, o5⟩ := own_of_row2 flLen (h.b1 rfl)
      have kY := h.fin rfl
      have sp := h.s11 rfl
      rw [e4, e5] at kY sp
      have z0 := kY.c 0 _ rfl
      have z1 := kY.c 1 _ rfl
      have z2 := kY.c 2 _ rfl
      have HE : Hid (DiskV (syncL live safe ops) (syncL live safe ops) [] w (.returned (.agg #[.slice a4 live.length c4, .slice a5 live.length c5, .slice none 0 0])) x) := hide (by
        rw [show syncL live safe ops = live by simp [syncL, hB]]
        have q1 := h.a1 rfl
        have q2 := h.b1 rfl
        rw [e4] at q1
        rw [e5] at q2
        exact ⟨HX1.out.1.trans (h.bel.mono (by omega)), _, _, _, rfl, ⟨own_mono q1 (by omega), own_mono q2 (by omega), ⟨by simp, .inl ⟨rfl, rfl⟩⟩, sp, fun g _ q => (by cases q), fun g _ q => (by cases q)⟩⟩)
      clear h o4 o5 hb4 hb5 e4 e5 kY sp
      refine hK0 _ _ ?_
      go_wp2
      exact bodyPost_ret (v := .agg #[.slice a4 live.length c4, .slice a5 live.length c5, .slice none 0 0]) (by simp [results, Try.results39, go_sem, z0, z1, z2]) rfl HE.out
end Go.Proofs.Ytiilkkdbifhojaa
