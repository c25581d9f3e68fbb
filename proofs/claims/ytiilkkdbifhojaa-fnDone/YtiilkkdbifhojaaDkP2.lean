/- slices.Clone of files and of operations, the program's diskCopy. -/
import Derived.Test.YtiilkkdbifhojaaDkP1
namespace Go.Proofs.Ytiilkkdbifhojaa
open Go.ChangeShapes Go.WideShapes Go.ChangeAt Go.RowKit
set_option linter.unusedVariables false
set_option maxRecDepth 100000
def NewO (l : List Dp) (w : World) (e : Ending) (w' : World) : Prop := Below w.heap.size w w' ∧ ∃ v, e = .returned v ∧ w'.ownsRow w.heap.size 36 4 v l.length (l.flatMap dpCells)
set_option maxHeartbeats 2000000 in
theorem cloneF_own (a : Option Addr) (l : List Fl) (cap : Nat) (w : World) (hl : l.length ≤ 1048576) (hc : a = none → cap = 0) (h : RowAt 2 flCells w a l) :
    Calls Try.prog 52 #[.slice a l.length cap] w fun e w' => NewF l w e w' := by
  obtain ⟨i0, hi0, hz0, hz1, hz2⟩ := info_parts infoF
  have hu := huF
  have HN : Hid _ := hide (h.news_any flLen (by decide))
  cases a with
  | none =>
    have e0 : l = [] := List.eq_nil_of_length_eq_zero (row_none h rfl)
    subst e0
    obtain rfl := hc rfl
    clear h
    have he : ∀ w : World, (binOp .eql 24 (.slice none 0 0) (.slice none 0 0)).run Try.prog w = .ok (.bool true) w := fun _ => rfl
    go_enter Try.func52, Try.ntmps52
    go_wp2
    go_ret
    exact ⟨Below.refl _ _, _, rfl, ⟨by simp, .inl ⟨rfl, rfl⟩⟩⟩
  | some ad =>
    clear h
    have he : ∀ w : World, (binOp .eql 24 (.slice (some ad) l.length cap) (.slice none 0 0)).run Try.prog w = .ok (.bool false) w := fun _ => rfl
    go_enter Try.func52, Try.ntmps52
    go_wp2_with (first | (at_builtin; refine Shut2.mk ?_) | go_in)
    refine Shut2.mk' ?_
    refine wpList_append_own_at _ rfl _ _ 24 rfl w.heap.size 52 i0 _ 2 32 hu hi0 hz0 hz1 hz2 rfl (by decide) _ 0 [] rfl ?own ad l.length cap (l.flatMap flCells) rfl (flat_len flCells 2 flLen l) ?news (fl_one l) (by unfold maxLen; omega) (by omega) ?base ?_
    case own => exact World.ownsRow_made w #[] 0 (Nat.le_refl _) (by unfold maxLen; omega) rfl
    case news => exact fun j u hj => (World.grownBy_alloc w _ none).cell (HN.out ad rfl j u hj) (by simp)
    case base => simp
    intro v' w1 hown' hgrow hnil hloc
    have HB : Hid (Below w.heap.size w w1) := hide (below_grown hgrow (below_alloc (Below.refl _ _) _) (fun j hj => by cases hj; exact Nat.le_refl _))
    have HO : Hid _ := hide hown'
    clear hown' hgrow hnil hloc
    go_wp2
    go_ret
    have ho := HO.out
    rw [List.nil_append, Nat.zero_add] at ho
    exact ⟨HB.out, v', rfl, ho⟩
set_option maxHeartbeats 2000000 in
theorem cloneO_own (a : Option Addr) (l : List Dp) (cap : Nat) (w : World) (hl : l.length ≤ 1048576) (hc : a = none → cap = 0) (h : RowAt 4 dpCells w a l) :
    Calls Try.prog 56 #[.slice a l.length cap] w fun e w' => NewO l w e w' := by
  obtain ⟨i0, hi0, hz0, hz1, hz2⟩ := info_parts infoO
  have hu := huO
  have HN : Hid _ := hide (h.news_any dpLen (by decide))
  cases a with
  | none =>
    have e0 : l = [] := List.eq_nil_of_length_eq_zero (row_none h rfl)
    subst e0
    obtain rfl := hc rfl
    clear h
    have he : ∀ w : World, (binOp .eql 25 (.slice none 0 0) (.slice none 0 0)).run Try.prog w = .ok (.bool true) w := fun _ => rfl
    go_enter Try.func56, Try.ntmps56
    go_wp2
    go_ret
    exact ⟨Below.refl _ _, _, rfl, ⟨by simp, .inl ⟨rfl, rfl⟩⟩⟩
  | some ad =>
    clear h
    have he : ∀ w : World, (binOp .eql 25 (.slice (some ad) l.length cap) (.slice none 0 0)).run Try.prog w = .ok (.bool false) w := fun _ => rfl
    go_enter Try.func56, Try.ntmps56
    go_wp2_with (first | (at_builtin; refine Shut2.mk ?_) | go_in)
    refine Shut2.mk' ?_
    refine wpList_append_own_at _ rfl _ _ 25 rfl w.heap.size 36 i0 _ 4 56 hu hi0 hz0 hz1 hz2 rfl (by decide) _ 0 [] rfl ?own ad l.length cap (l.flatMap dpCells) rfl (flat_len dpCells 4 dpLen l) ?news (dp_one l) (by unfold maxLen; omega) (by omega) ?base ?_
    case own => exact World.ownsRow_made w #[] 0 (Nat.le_refl _) (by unfold maxLen; omega) rfl
    case news => exact fun j u hj => (World.grownBy_alloc w _ none).cell (HN.out ad rfl j u hj) (by simp)
    case base => simp
    intro v' w1 hown' hgrow hnil hloc
    have HB : Hid (Below w.heap.size w w1) := hide (below_grown hgrow (below_alloc (Below.refl _ _) _) (fun j hj => by cases hj; exact Nat.le_refl _))
    have HO : Hid _ := hide hown'
    clear hown' hgrow hnil hloc
    go_wp2
    go_ret
    have ho := HO.out
    rw [List.nil_append, Nat.zero_add] at ho
    exact ⟨HB.out, v', rfl, ho⟩
/-- what holds in the midst of its region -/
structure CzF (s n1 n2 n3 : Nat) (wp : World) (v1 v2 v3 : Value) (xs1 xs2 xs3 : List Value) (l0 l1 l2 l3 l4 l5 l6 l7 l8 l9 l10 : Bool) (u3 u4 u5 u6 u7 u8 u9 u10 u11 u12 : Value) (x : World) : Prop where
  bel : Below (s + 1) wp x
  sz : s + 2 ≤ x.heap.size
  res : Blk (s + 1) [.slice none 0 0, .slice none 0 0, .slice none 0 0] x ∨ l10 = true
  a1 : l2 = true → x.ownsRow (s + 2) 52 2 u5 n1 xs1
  b1 : l5 = true → x.ownsRow (s + 2) 52 2 u8 n2 xs2
  c1 : l8 = true → x.ownsRow (s + 2) 36 4 u11 n3 xs3
  sab : l2 = true → l5 = true → Sep u5 u8
  sac : l2 = true → l8 = true → Sep u5 u11
  sbc : l5 = true → l8 = true → Sep u8 u11
  d5 : l5 = true → l2 = true
  d8 : l8 = true → l5 = true
  d9 : l9 = true → l8 = true
  d10 : l10 = true → l9 = true
  q12 : l9 = true → u12 = .agg #[u5, u8, u11]
  fin : l10 = true → Blk (s + 1) [u5, u8, u11] x
  p3 : l0 = true → u3 = .pointer (some ⟨s, 0, none⟩)
  p4 : l1 = true → u4 = v1
  p6 : l3 = true → u6 = .pointer (some ⟨s, 1, none⟩)
  p7 : l4 = true → u7 = v2
  p9 : l6 = true → u9 = .pointer (some ⟨s, 2, none⟩)
  p10 : l7 = true → u10 = v3
theorem CzF.st2 {s n1 n2 n3 : Nat} {wp : World} {v1 v2 v3 : Value} {xs1 xs2 xs3 : List Value} {l0 l3 l4 l5 l6 l7 l8 l9 l10 : Bool} {u3 u4 u5 u6 u7 u8 u9 u10 u11 u12 : Value} {x : World} {y : World} {v : Value} (h : CzF s n1 n2 n3 wp v1 v2 v3 xs1 xs2 xs3 l0 true false l3 l4 l5 l6 l7 l8 l9 l10 u3 u4 u5 u6 u7 u8 u9 u10 u11 u12 x) (hb : Below x.heap.size x y) (ho : y.ownsRow x.heap.size 52 2 v n1 xs1) : CzF s n1 n2 n3 wp v1 v2 v3 xs1 xs2 xs3 l0 true true l3 l4 l5 l6 l7 l8 l9 l10 u3 u4 v u6 u7 u8 u9 u10 u11 u12 y := by
  have hsz := h.sz
  have nx : l5 = true → False := fun q => by have := h.d5 q; cases this
  exact { h with
    bel := h.bel.trans (hb.mono (by omega))
    sz := Nat.le_trans hsz hb.size
    res := h.res.imp (fun r => r.below hb) id
    a1 := fun _ => own_mono ho hsz
    b1 := fun q => (nx q).elim
    c1 := fun q => (nx (h.d8 q)).elim
    sab := fun _ q => (nx q).elim
    sac := fun _ q => (nx (h.d8 q)).elim
    d5 := fun _ => rfl
    q12 := fun q => (nx (h.d8 (h.d9 q))).elim
    fin := fun q => (nx (h.d8 (h.d9 (h.d10 q)))).elim }
theorem CzF.st5 {s n1 n2 n3 : Nat} {wp : World} {v1 v2 v3 : Value} {xs1 xs2 xs3 : List Value} {l0 l1 l3 l6 l7 l8 l9 l10 : Bool} {u3 u4 u5 u6 u7 u8 u9 u10 u11 u12 : Value} {x : World} {y : World} {v : Value} (h : CzF s n1 n2 n3 wp v1 v2 v3 xs1 xs2 xs3 l0 l1 true l3 true false l6 l7 l8 l9 l10 u3 u4 u5 u6 u7 u8 u9 u10 u11 u12 x) (hb : Below x.heap.size x y) (ho : y.ownsRow x.heap.size 52 2 v n2 xs2) : CzF s n1 n2 n3 wp v1 v2 v3 xs1 xs2 xs3 l0 l1 true l3 true true l6 l7 l8 l9 l10 u3 u4 u5 u6 u7 v u9 u10 u11 u12 y := by
  have hsz := h.sz
  have nx : l8 = true → False := fun q => by have := h.d8 q; cases this
  exact { h with
    bel := h.bel.trans (hb.mono (by omega))
    sz := Nat.le_trans hsz hb.size
    res := h.res.imp (fun r => r.below hb) id
    a1 := fun q => own_keep (h.a1 q) hb
    b1 := fun _ => own_mono ho hsz
    c1 := fun q => (nx q).elim
    sab := fun a _ => Sep.old (h.a1 a) ho (Nat.le_refl _)
    sbc := fun _ q => (nx q).elim
    d5 := fun _ => rfl
    d8 := fun _ => rfl
    q12 := fun q => (nx (h.d9 q)).elim
    fin := fun q => (nx (h.d9 (h.d10 q))).elim }
theorem CzF.st8 {s n1 n2 n3 : Nat} {wp : World} {v1 v2 v3 : Value} {xs1 xs2 xs3 : List Value} {l0 l1 l2 l3 l4 l6 l9 l10 : Bool} {u3 u4 u5 u6 u7 u8 u9 u10 u11 u12 : Value} {x : World} {y : World} {v : Value} (h : CzF s n1 n2 n3 wp v1 v2 v3 xs1 xs2 xs3 l0 l1 l2 l3 l4 true l6 true false l9 l10 u3 u4 u5 u6 u7 u8 u9 u10 u11 u12 x) (hb : Below x.heap.size x y) (ho : y.ownsRow x.heap.size 36 4 v n3 xs3) : CzF s n1 n2 n3 wp v1 v2 v3 xs1 xs2 xs3 l0 l1 l2 l3 l4 true l6 true true l9 l10 u3 u4 u5 u6 u7 u8 u9 u10 v u12 y := by
  have hsz := h.sz
  have nx : l9 = true → False := fun q => by have := h.d9 q; cases this
  exact { h with
    bel := h.bel.trans (hb.mono (by omega))
    sz := Nat.le_trans hsz hb.size
    res := h.res.imp (fun r => r.below hb) id
    a1 := fun q => own_keep (h.a1 q) hb
    b1 := fun q => own_keep (h.b1 q) hb
    c1 := fun _ => own_mono ho hsz
    sac := fun a _ => Sep.old (h.a1 a) ho (Nat.le_refl _)
    sbc := fun a _ => Sep.old (h.b1 a) ho (Nat.le_refl _)
    d8 := fun _ => rfl
    d9 := fun _ => rfl
    q12 := fun q => (nx q).elim
    fin := fun q => (nx (h.d10 q)).elim }
theorem CzF.st10 {s n1 n2 n3 : Nat} {wp : World} {v1 v2 v3 : Value} {xs1 xs2 xs3 : List Value} {u3 u4 u5 u6 u7 u8 u9 u10 u11 u12 : Value} {x : World} (h : CzF s n1 n2 n3 wp v1 v2 v3 xs1 xs2 xs3 true true true true true true true true true true false u3 u4 u5 u6 u7 u8 u9 u10 u11 u12 x) : CzF s n1 n2 n3 wp v1 v2 v3 xs1 xs2 xs3 true true true true true true true true true true true u3 u4 u5 u6 u7 u8 u9 u10 u11 u12 (((x.setCell ⟨s + 1, 0, none⟩ u5).setCell ⟨s + 1, 1, none⟩ u8).setCell ⟨s + 1, 2, none⟩ u11) := by
  have hsz := h.sz
  have R := h.res.resolve_right (by simp)
  have hna : u5.ownBlock = none ∨ u5.ownBlock ≠ some (s + 1) := .inr (fun q => by have := ((h.a1 rfl).lt _ q).1; omega)
  have hnb : u8.ownBlock = none ∨ u8.ownBlock ≠ some (s + 1) := .inr (fun q => by have := ((h.b1 rfl).lt _ q).1; omega)
  have hnc : u11.ownBlock = none ∨ u11.ownBlock ≠ some (s + 1) := .inr (fun q => by have := ((h.c1 rfl).lt _ q).1; omega)
  exact { h with
    bel := ((h.bel.setCell (p := ⟨s + 1, 0, none⟩) (Nat.le_refl _) _).setCell (p := ⟨s + 1, 1, none⟩) (Nat.le_refl _) _).setCell (p := ⟨s + 1, 2, none⟩) (Nat.le_refl _) _
    sz := by simpa [World.setCell] using hsz
    res := .inr rfl
    a1 := fun _ => (((h.a1 rfl).kept (grown_set _ _ _ _) hna).kept (grown_set _ _ _ _) hna).kept (grown_set _ _ _ _) hna
    b1 := fun _ => (((h.b1 rfl).kept (grown_set _ _ _ _) hnb).kept (grown_set _ _ _ _) hnb).kept (grown_set _ _ _ _) hnb
    c1 := fun _ => (((h.c1 rfl).kept (grown_set _ _ _ _) hnc).kept (grown_set _ _ _ _) hnc).kept (grown_set _ _ _ _) hnc
    d10 := fun _ => rfl
    fin := fun _ => ((R.set 0 u5 (by simp)).set 1 u8 (by simp)).set 2 u11 (by simp) }
set_option maxHeartbeats 8000000 in
theorem diskCopy_any (la sa oa : Option Addr) (lc sc oc : Nat) (live safe : List Fl) (ops : List Dp) (w : World) (n1 : live.length ≤ 1048576) (n2 : safe.length ≤ 1048576) (n3 : ops.length ≤ 1048576) (hc1 : la = none → lc = 0) (hc2 : sa = none → sc = 0) (hc3 : oa = none → oc = 0) (h : DkAt w la sa oa live safe ops) :
    Calls Try.prog 34 #[.agg #[.slice la live.length lc, .slice sa safe.length sc, .slice oa ops.length oc]] w fun e w' => DiskV live safe ops w e w' := by
  have HL : Hid _ := hide h
  have HC1 : Hid _ := hide hc1
  have HC2 : Hid _ := hide hc2
  have HC3 : Hid _ := hide hc3
  have HZ : Hid _ := hide (And.intro n1 (And.intro n2 n3))
  clear h hc1 hc2 hc3 n1 n2 n3
  obtain ⟨w1, hwa⟩ : ∃ wa, wa = (w.alloc (.cells #[.slice la live.length lc, .slice sa safe.length sc, .slice oa ops.length oc] 27)).alloc (.cells #[.slice none 0 0, .slice none 0 0, .slice none 0 0] 27) := ⟨_, rfl⟩
  have HW : Hid ((w.alloc (.cells #[.slice la live.length lc, .slice sa safe.length sc, .slice oa ops.length oc] 27)).alloc (.cells #[.slice none 0 0, .slice none 0 0, .slice none 0 0] 27) = w1) := hide hwa.symm
  have KX1 : Hid (Blk w.heap.size [.slice la live.length lc, .slice sa safe.length sc, .slice oa ops.length oc] w1) := hide (by rw [hwa]; exact Blk.new.alloc _)
  have KR1 : Hid (Blk (w.heap.size + 1) [.slice none 0 0, .slice none 0 0, .slice none 0 0] w1) := hide (by rw [hwa]; exact (by simpa using Blk.new (w := w.alloc (.cells #[.slice la live.length lc, .slice sa safe.length sc, .slice oa ops.length oc] 27)) (cur := [.slice none 0 0, .slice none 0 0, .slice none 0 0]) (T := 27)))
  have HX1 : Hid (Below w.heap.size w w1 ∧ w.heap.size + 2 ≤ w1.heap.size) := hide ⟨by rw [hwa]; exact below_alloc (below_alloc (Below.refl _ _) _) _, by rw [hwa]; simp⟩
  clear hwa
  go_enter Try.func34, Try.ntmps34
  go_wp2_with fail
  rw [HW.out]
  have HB1 : Hid (Below (w.heap.size + 1) w1 w1.drew) := hide (Below.refl _ _).drew
  have HSZ : Hid (w.heap.size + 2 ≤ w1.drew.heap.size) := hide HX1.out.2
  have HR : Hid (Blk (w.heap.size + 1) [.slice none 0 0, .slice none 0 0, .slice none 0 0] w1.drew) := hide (KR1.out.below (Below.refl _ _).drew)
  rename_i hK0
  refine wp_region_inv (by kernel_rfl) (fun L act x => ∃ l0 l1 l2 l3 l4 l5 l6 l7 l8 l9 l10 : Bool, ∃ u3 u4 u5 u6 u7 u8 u9 u10 u11 u12 : Value, L = #[l0, l1, l2, l3, l4, l5, l6, l7, l8, l9, l10] ∧ act = { tmps := #[Value.agg #[Value.slice la live.length lc, Value.slice sa safe.length sc, Value.slice oa ops.length oc], Value.pointer (some { block := w.heap.size, off := 0 }), Value.pointer (some { block := w.heap.size + 1, off := 0 }), u3, u4, u5, u6, u7, u8, u9, u10, u11, u12], defers := [] } ∧ CzF w.heap.size live.length safe.length ops.length w1 (.slice la live.length lc) (.slice sa safe.length sc) (.slice oa ops.length oc) (live.flatMap flCells) (safe.flatMap flCells) (ops.flatMap dpCells) l0 l1 l2 l3 l4 l5 l6 l7 l8 l9 l10 u3 u4 u5 u6 u7 u8 u9 u10 u11 u12 x) ?_ ?_ ?_
  rotate_left 2
  · exact ⟨false, false, false, false, false, false, false, false, false, false, false, (undef), (undef), (undef), (undef), (undef), (undef), (undef), (undef), (undef), (undef), rfl, rfl, ⟨HB1.out, HSZ.out, .inl HR.out, fun q => (by cases q), fun q => (by cases q), fun q => (by cases q), fun q => (by cases q), fun q => (by cases q), fun q => (by cases q), fun q => (by cases q), fun q => (by cases q), fun q => (by cases q), fun q => (by cases q), fun q => (by cases q), fun q => (by cases q), fun q => (by cases q), fun q => (by cases q), fun q => (by cases q), fun q => (by cases q), fun q => (by cases q), fun q => (by cases q)⟩⟩
  · rintro L act x i ⟨l0, l1, l2, l3, l4, l5, l6, l7, l8, l9, l10, u3, u4, u5, u6, u7, u8, u9, u10, u11, u12, rfl, rfl, h⟩ hi K hK
    have hi15 : i < 11 := by
      obtain ⟨_, o, ho, _⟩ := mem_ready.1 hi
      exact (Array.getElem?_eq_some_iff.1 ho).1
    have hl := (mem_ready.1 hi).1
    obtain rfl | rfl | rfl | rfl | rfl | rfl | rfl | rfl | rfl | rfl | rfl := (by omega : i = 0 ∨ i = 1 ∨ i = 2 ∨ i = 3 ∨ i = 4 ∨ i = 5 ∨ i = 6 ∨ i = 7 ∨ i = 8 ∨ i = 9 ∨ i = 10)
    · have e : l0 = false := hl
      subst e
      refine wpOp_run (v := .pointer (some ⟨w.heap.size, 0, none⟩)) (w' := x) (by rfl) (by rfl) ?_ (hK _ _ ⟨true, l1, l2, l3, l4, l5, l6, l7, l8, l9, l10, (.pointer (some ⟨w.heap.size, 0, none⟩)), u4, u5, u6, u7, u8, u9, u10, u11, u12, rfl, rfl, { h with p3 := fun _ => rfl }⟩)
      go_simp
    · have e : l1 = false := hl
      subst e
      have d0 : l0 = true := ready_on hi 0 (by kernel_rfl)
      subst d0
      have c0 : x.cell? ⟨w.heap.size, 0, none⟩ = some (.slice la live.length lc) := (h.bel.cell (by show w.heap.size < _; omega)).trans (KX1.out.c 0 _ rfl)
      refine wpOp_run (v := .slice la live.length lc) (w' := x) (by rfl) (by rfl) ?_ (hK _ _ ⟨true, true, l2, l3, l4, l5, l6, l7, l8, l9, l10, u3, (.slice la live.length lc), u5, u6, u7, u8, u9, u10, u11, u12, rfl, rfl, { h with p4 := fun _ => rfl }⟩)
      rw [h.p3 rfl]
      go_simp
    · have e : l2 = false := hl
      subst e
      have d1 : l1 = true := ready_on hi 1 (by kernel_rfl)
      subst d1
      refine wpOp_call (by rfl) (by rfl) ?_ (cloneF_own la live lc x (HZ.out.1) (HC1.out) (HL.out.r1.below (HX1.out.1.trans (h.bel.mono (by omega))))) ?_
      · rw [h.p4 rfl]; go_simp
      · rintro e w' ⟨hb, v', rfl, ho⟩
        exact ⟨_, rfl, hK _ _ ⟨l0, true, true, l3, l4, l5, l6, l7, l8, l9, l10, u3, u4, (v'), u6, u7, u8, u9, u10, u11, u12, rfl, rfl, h.st2 hb ho⟩⟩
    · have e : l3 = false := hl
      subst e
      refine wpOp_run (v := .pointer (some ⟨w.heap.size, 1, none⟩)) (w' := x) (by rfl) (by rfl) ?_ (hK _ _ ⟨l0, l1, l2, true, l4, l5, l6, l7, l8, l9, l10, u3, u4, u5, (.pointer (some ⟨w.heap.size, 1, none⟩)), u7, u8, u9, u10, u11, u12, rfl, rfl, { h with p6 := fun _ => rfl }⟩)
      go_simp
    · have e : l4 = false := hl
      subst e
      have d3 : l3 = true := ready_on hi 3 (by kernel_rfl)
      subst d3
      have c0 : x.cell? ⟨w.heap.size, 1, none⟩ = some (.slice sa safe.length sc) := (h.bel.cell (by show w.heap.size < _; omega)).trans (KX1.out.c 1 _ rfl)
      refine wpOp_run (v := .slice sa safe.length sc) (w' := x) (by rfl) (by rfl) ?_ (hK _ _ ⟨l0, l1, l2, true, true, l5, l6, l7, l8, l9, l10, u3, u4, u5, u6, (.slice sa safe.length sc), u8, u9, u10, u11, u12, rfl, rfl, { h with p7 := fun _ => rfl }⟩)
      rw [h.p6 rfl]
      go_simp
    · have e : l5 = false := hl
      subst e
      have d2 : l2 = true := ready_on hi 2 (by kernel_rfl)
      subst d2
      have d4 : l4 = true := ready_on hi 4 (by kernel_rfl)
      subst d4
      refine wpOp_call (by rfl) (by rfl) ?_ (cloneF_own sa safe sc x (HZ.out.2.1) (HC2.out) (HL.out.r2.below (HX1.out.1.trans (h.bel.mono (by omega))))) ?_
      · rw [h.p7 rfl]; go_simp
      · rintro e w' ⟨hb, v', rfl, ho⟩
        exact ⟨_, rfl, hK _ _ ⟨l0, l1, true, l3, true, true, l6, l7, l8, l9, l10, u3, u4, u5, u6, u7, (v'), u9, u10, u11, u12, rfl, rfl, h.st5 hb ho⟩⟩
    · have e : l6 = false := hl
      subst e
      refine wpOp_run (v := .pointer (some ⟨w.heap.size, 2, none⟩)) (w' := x) (by rfl) (by rfl) ?_ (hK _ _ ⟨l0, l1, l2, l3, l4, l5, true, l7, l8, l9, l10, u3, u4, u5, u6, u7, u8, (.pointer (some ⟨w.heap.size, 2, none⟩)), u10, u11, u12, rfl, rfl, { h with p9 := fun _ => rfl }⟩)
      go_simp
    · have e : l7 = false := hl
      subst e
      have d6 : l6 = true := ready_on hi 6 (by kernel_rfl)
      subst d6
      have c0 : x.cell? ⟨w.heap.size, 2, none⟩ = some (.slice oa ops.length oc) := (h.bel.cell (by show w.heap.size < _; omega)).trans (KX1.out.c 2 _ rfl)
      refine wpOp_run (v := .slice oa ops.length oc) (w' := x) (by rfl) (by rfl) ?_ (hK _ _ ⟨l0, l1, l2, l3, l4, l5, true, true, l8, l9, l10, u3, u4, u5, u6, u7, u8, u9, (.slice oa ops.length oc), u11, u12, rfl, rfl, { h with p10 := fun _ => rfl }⟩)
      rw [h.p9 rfl]
      go_simp
    · have e : l8 = false := hl
      subst e
      have d5 : l5 = true := ready_on hi 5 (by kernel_rfl)
      subst d5
      have d7 : l7 = true := ready_on hi 7 (by kernel_rfl)
      subst d7
      refine wpOp_call (by rfl) (by rfl) ?_ (cloneO_own oa ops oc x (HZ.out.2.2) (HC3.out) (HL.out.r3.below (HX1.out.1.trans (h.bel.mono (by omega))))) ?_
      · rw [h.p10 rfl]; go_simp
      · rintro e w' ⟨hb, v', rfl, ho⟩
        exact ⟨_, rfl, hK _ _ ⟨l0, l1, l2, l3, l4, true, l6, true, true, l9, l10, u3, u4, u5, u6, u7, u8, u9, u10, (v'), u12, rfl, rfl, h.st8 hb ho⟩⟩
    · have e : l9 = false := hl
      subst e
      have d2 : l2 = true := ready_on hi 2 (by kernel_rfl)
      subst d2
      have d5 : l5 = true := ready_on hi 5 (by kernel_rfl)
      subst d5
      have d8 : l8 = true := ready_on hi 8 (by kernel_rfl)
      subst d8
      obtain ⟨a4, c4, e4⟩ := row_shape (h.a1 rfl)
      obtain ⟨a5, c5, e5⟩ := row_shape (h.b1 rfl)
      obtain ⟨a6, c6, e6⟩ := row_shape (h.c1 rfl)
      refine wpOp_run (v := .agg #[u5, u8, u11]) (w' := x) (by rfl) (by rfl) ?_ (hK _ _ ⟨l0, l1, true, l3, l4, true, l6, l7, true, true, l10, u3, u4, u5, u6, u7, u8, u9, u10, u11, (.agg #[u5, u8, u11]), rfl, rfl, { h with q12 := fun _ => rfl, d9 := fun _ => rfl, d10 := fun _ => rfl }⟩)
      rw [e4, e5, e6]
      go_simp
    · have e : l10 = false := hl
      subst e
      have d0 : l0 = true := ready_on hi 0 (by kernel_rfl)
      subst d0
      have d1 : l1 = true := ready_on hi 1 (by kernel_rfl)
      subst d1
      have d2 : l2 = true := ready_on hi 2 (by kernel_rfl)
      subst d2
      have d3 : l3 = true := ready_on hi 3 (by kernel_rfl)
      subst d3
      have d4 : l4 = true := ready_on hi 4 (by kernel_rfl)
      subst d4
      have d5 : l5 = true := ready_on hi 5 (by kernel_rfl)
      subst d5
      have d6 : l6 = true := ready_on hi 6 (by kernel_rfl)
      subst d6
      have d7 : l7 = true := ready_on hi 7 (by kernel_rfl)
      subst d7
      have d8 : l8 = true := ready_on hi 8 (by kernel_rfl)
      subst d8
      have d9 : l9 = true := ready_on hi 9 (by kernel_rfl)
      subst d9
      obtain ⟨a4, c4, e4⟩ := row_shape (h.a1 rfl)
      obtain ⟨a5, c5, e5⟩ := row_shape (h.b1 rfl)
      obtain ⟨a6, c6, e6⟩ := row_shape (h.c1 rfl)
      have R := h.res.resolve_right (by simp)
      have r0 := R.c 0 _ rfl
      have r1 := R.c 1 _ rfl
      have r2 := R.c 2 _ rfl
      have f0 := R.f 0
      have f1 := R.f 1
      have f2 := R.f 2
      refine wpOp_skip (w' := (((x.setCell ⟨w.heap.size + 1, 0, none⟩ u5).setCell ⟨w.heap.size + 1, 1, none⟩ u8).setCell ⟨w.heap.size + 1, 2, none⟩ u11)) (by rfl) (by rfl) ?_ (hK _ _ ⟨true, true, true, true, true, true, true, true, true, true, true, u3, u4, u5, u6, u7, u8, u9, u10, u11, u12, rfl, rfl, h.st10⟩)
      rw [h.q12 rfl, e4, e5, e6]
      go_simp
  · rintro L act x ⟨l0, l1, l2, l3, l4, l5, l6, l7, l8, l9, l10, u3, u4, u5, u6, u7, u8, u9, u10, u11, u12, rfl, rfl, h⟩ hr
    have hall := ready_all hr rfl (by decide)
    have t0 : l0 = true := hall 0 (by decide)
    have t1 : l1 = true := hall 1 (by decide)
    have t2 : l2 = true := hall 2 (by decide)
    have t3 : l3 = true := hall 3 (by decide)
    have t4 : l4 = true := hall 4 (by decide)
    have t5 : l5 = true := hall 5 (by decide)
    have t6 : l6 = true := hall 6 (by decide)
    have t7 : l7 = true := hall 7 (by decide)
    have t8 : l8 = true := hall 8 (by decide)
    have t9 : l9 = true := hall 9 (by decide)
    have t10 : l10 = true := hall 10 (by decide)
    subst t0 t1 t2 t3 t4 t5 t6 t7 t8 t9 t10
    clear hall hr
    have kY := h.fin rfl
    have z0 := kY.c 0 _ rfl
    have z1 := kY.c 1 _ rfl
    have z2 := kY.c 2 _ rfl
    have HE : Hid (DiskV live safe ops w (.returned (.agg #[u5, u8, u11])) x) := hide ⟨HX1.out.1.trans (h.bel.mono (by omega)), u5, u8, u11, rfl, own_mono (h.a1 rfl) (by omega), own_mono (h.b1 rfl) (by omega), own_mono (h.c1 rfl) (by omega), h.sab rfl rfl, h.sac rfl rfl, h.sbc rfl rfl⟩
    obtain ⟨a4, c4, e4⟩ := row_shape (h.a1 rfl)
    obtain ⟨a5, c5, e5⟩ := row_shape (h.b1 rfl)
    obtain ⟨a6, c6, e6⟩ := row_shape (h.c1 rfl)
    rw [e4] at z0 HE
    rw [e5] at z1 HE
    rw [e6] at z2 HE
    clear h kY e4 e5 e6
    refine hK0 _ _ ?_
    go_wp2
    exact bodyPost_ret (v := .agg #[.slice a4 live.length c4, .slice a5 safe.length c5, .slice a6 ops.length c6]) (by simp [results, Try.results34, go_sem, z0, z1, z2]) rfl HE.out
end Go.Proofs.Ytiilkkdbifhojaa
