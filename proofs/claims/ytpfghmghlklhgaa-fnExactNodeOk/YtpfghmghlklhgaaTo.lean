/- The contracts of the laws' helpers over ends: szEnd, toEnd, toParcel, eqEnd, eqParcel, markEnd, heldEnd. -/
import Derived.Test.YtpfghmghlklhgaaOk
namespace Go.Proofs.Ytpfghmghlklhgaa
open Go.ChangeShapes Go.WideShapes Go.ChangeAt Go.RowKit
set_option linter.unusedVariables false
def YesEnd (w : World) (e : Ending) (w' : World) : Prop := e = .returned (.bool true) ∧ Below w.heap.size w w'
def SzEnd (left : Int) (n : Nat) (w : World) (e : Ending) (w' : World) : Prop := Below w.heap.size w w' ∧ ∃ r : Int, e = .returned (.int .i64 r) ∧ -1 ≤ r ∧ (0 ≤ r → r + n ≤ left)
set_option maxHeartbeats 1000000 in
theorem szParcelS_any (a : Option Addr) (n : Nat) (cap : Nat) (left : Int) (w : World) (hn : n ≤ maxLen) (hl : 0 ≤ left ∧ left ≤ 1048576) :
    Calls Try.prog 81 #[.slice a n cap, .int .i64 left] w fun e w' => SzEnd left n w e w' := by
  obtain ⟨l0, l1⟩ := hl
  unfold maxLen at hn
  by_cases a1 : left - (n : Int) < 0
  · go_enter Try.func81, Try.ntmps81
    go_wp2
    go_ret
    exact ⟨Below.refl _ _, -1, rfl, by omega, fun h => by omega⟩
  · go_enter Try.func81, Try.ntmps81
    go_wp2
    go_ret
    exact ⟨Below.refl _ _, _, rfl, by omega, fun h => by omega⟩
set_option maxHeartbeats 1000000 in
theorem szEnd_any (a : Option Addr) (n : Nat) (cap : Nat) (sent got : Int) (left : Int) (w : World) (hn : n ≤ maxLen) (hl : 0 ≤ left ∧ left ≤ 1048576) :
    Calls Try.prog 74 #[.agg #[.slice a n cap, .int .i64 sent, .int .i64 got], .int .i64 left] w fun e w' => SzEnd left n w e w' := by
  go_enter Try.func74, Try.ntmps74
  go_wp2_with fail
  refine (szParcelS_any _ n _ _ _ hn hl).mono ?_
  rintro e w1 ⟨hb1, r, rfl, hr0, hr⟩
  have HB1 : Hid _ := hide (below_trans (below_alloc (Below.refl _ _) _) hb1)
  have HR : Hid _ := hide hr
  clear hb1 hr
  by_cases q : r < 0
  · go_wp2
    go_ret
    exact ⟨HB1.out, -1, rfl, by omega, fun h => by omega⟩
  · go_wp2
    go_ret
    exact ⟨HB1.out, r, rfl, by omega, HR.out⟩
set_option maxHeartbeats 1000000 in
theorem toParcel_any (x y : Int) (w : World) :
    Calls Try.prog 85 #[.agg #[.int .i64 x, .int .i64 y]] w fun e w' => e = .returned (.agg #[.int .i64 x, .int .i64 y]) ∧ Below w.heap.size w w' := by
  go_enter Try.func85, Try.ntmps85
  go_wp2
  exact bodyPost_ret (v := .agg #[.int .i64 x, .int .i64 y]) (by simp [results, Try.results85, go_sem]) rfl ⟨rfl, below_alloc (below_alloc (below_alloc (Below.refl _ _) _) _) _⟩
theorem info34 : (Try.prog.info? 88).map (fun i => (i.zero, i.size, i.bytes)) = some (some (.agg #[.int .i64 0, .int .i64 0]), 2, 16) := by kernel_rfl
/-- a row of the call's own that reads as the list -/
def ToRow (l : List Prc) (w : World) (g : Nat) (w' : World) : Prop := (w.heap.size ≤ g ∧ g < w'.heap.size) ∧ OwnRow 2 prcCells w' g (some ⟨g, 0, none⟩) l.length l
def ToParcels (l : List Prc) (w : World) (e : Ending) (w' : World) : Prop := Below w.heap.size w w' ∧ ∃ g, e = .returned (.slice (some ⟨g, 0, none⟩) l.length l.length) ∧ ToRow l w g w'
set_option maxRecDepth 100000 in
set_option maxHeartbeats 2000000 in
theorem toParcelS_any (a : Option Addr) (l : List Prc) (cap : Nat) (w : World) (hn : l.length ≤ 1048576) (h : RowAt 2 prcCells w a l) :
    Calls Try.prog 82 #[.slice a l.length cap] w fun e w' => ToParcels l w e w' := by
  obtain ⟨i0, hi, hz0, hz1, hz2⟩ := info_parts info34
  have HL : Hid _ := hide h
  clear h
  have uS : Try.prog.underlying 54 = some (.slice 88) := by kernel_rfl
  go_enter Try.func82, Try.ntmps82
  go_wp2_with (first | (at_make; refine Shut2.mk ?_) | go_in)
  refine Shut2.mk' ?_
  refine wpList_make_full _ rfl _ _ 54 rfl w.heap.size 88 i0 _ 2 uS hi hz0 hz1 .i64 .i64 _ _ l.length rfl rfl rfl rfl (by rw [hz2]; omega) (by unfold maxLen; omega) (Nat.le_refl _) ?_
  intro w0 hown hgrow
  have HB0 : Hid (Below w.heap.size w w0) := hide ((Below.refl _ _).grown hgrow (Nat.le_refl _) (fun j hj => by cases hj))
  have HM0 : Hid _ := hide (rowMid_made (cells := (fun i => (l[i]?).elim [] prcCells)) hown)
  clear hown hgrow
  go_wp2
  go_loopw [4] (fun i wr => ∃ k : Nat, k ≤ l.length ∧ i = .int .i64 (k : Int) ∧ Below w.heap.size w wr ∧ Hid (RowMid w.heap.size l.length 2 (fun i => (l[i]?).elim [] prcCells) k wr)) (fun i wr => l.length - (intOf i).toNat)
  case atStart => exact ⟨0, Nat.zero_le _, rfl, HB0.out, HM0⟩
  case round =>
    obtain ⟨k, hk, rfl, HB, HM⟩ := hrel
    by_cases hlt : k < l.length
    · obtain ⟨b, off, rfl, hb, d0, d1⟩ := prc_row (HL.out.below HB) k hlt
      have hlt' : (k : Int) < (l.length : Int) := by omega
      go_wp2_with fail
      refine (toParcel_any _ _ wr).mono ?_
      rintro e w1 ⟨rfl, hb1⟩
      have hM1 := HM.out.below hb1
      have HP : Hid _ := hide (((((HM.out.below hb1).put).set hlt (by decide) (v := .int .i64 (l[k]).seq) (by simp [List.getElem?_eq_getElem hlt, prcCells]) rfl).set hlt (by decide) (v := .int .i64 (l[k]).amt) (by simp [List.getElem?_eq_getElem hlt, prcCells]) rfl)).whole
      have HB1 : Hid _ := hide (below_trans HB hb1)
      obtain ⟨v0, f0⟩ := hM1.there (k * 2 + 0) (by omega)
      obtain ⟨v1, f1⟩ := hM1.there (k * 2 + 1) (by omega)
      have z0 := hM1.free (k * 2 + 0)
      have z1 := hM1.free (k * 2 + 1)
      simp only [Nat.add_zero] at f0 z0
      clear hM1 hb1
      go_wp2
      exact ⟨⟨k + 1, by omega, by go_num, ((HB1.out.setCell (Nat.le_refl _) _).setCell (Nat.le_refl _) _), HP⟩, by simp [intOf]; omega⟩
    · have hk' : ¬ (k : Int) < (l.length : Int) := by omega
      have HE : Hid (ToParcels l w (.returned (.slice (some ⟨w.heap.size, 0, none⟩) l.length l.length)) wr) := hide (by
        have M := HM.out
        rw [show k = l.length by omega] at M
        have O := own_of_mid prcLen M (Nat.le_refl _)
        exact ⟨HB, w.heap.size, rfl, ⟨Nat.le_refl _, M.lt⟩, O⟩)
      go_wp2
      go_ret
      exact HE.out
theorem new_block {w x : World} {v0 v1 v2 : Value} {T : TypeId} (h : Below (w.heap.size + 1) (w.alloc (.cells #[v0, v1, v2] T)) x) : (x.cell? ⟨w.heap.size, 0, none⟩ = some v0 ∧ x.cell? ⟨w.heap.size, 1, none⟩ = some v1 ∧ x.cell? ⟨w.heap.size, 2, none⟩ = some v2) ∧ ∀ j, x.frozen? ⟨w.heap.size, j, none⟩ = false :=
  ⟨box3 h, fun j => (h.frozen (by show w.heap.size < w.heap.size + 1; omega)).trans (frozen_of_block (cur := #[v0, v1, v2]) (e := T) (by show (w.heap.push _)[w.heap.size]? = _; simp) j)⟩
def ToEnd (l : List Prc) (sent got : Int) (w : World) (e : Ending) (w' : World) : Prop := Below w.heap.size w w' ∧ ∃ g, e = .returned (.agg #[.slice (some ⟨g, 0, none⟩) l.length l.length, .int .i64 sent, .int .i64 got]) ∧ ToRow l w g w'
set_option maxRecDepth 100000 in
set_option maxHeartbeats 4000000 in
theorem toEnd_any (a : Option Addr) (l : List Prc) (cap : Nat) (sent got : Int) (w : World) (hn : l.length ≤ 1048576) (h : RowAt 2 prcCells w a l) :
    Calls Try.prog 75 #[.agg #[.slice a l.length cap, .int .i64 sent, .int .i64 got]] w fun e w' => ToEnd l sent got w e w' := by
  have HL : Hid _ := hide h
  clear h
  obtain ⟨wa, hwa⟩ : ∃ wa, wa = w.alloc (.cells #[.slice a l.length cap, .int .i64 sent, .int .i64 got] 84) := ⟨_, rfl⟩
  obtain ⟨wb, hwb⟩ : ∃ wb, wb = wa.alloc (.cells #[.slice none 0 0, .int .i64 0, .int .i64 0] 56) := ⟨_, rfl⟩
  obtain ⟨wc, hwc⟩ : ∃ wc, wc = wb.alloc (.cells #[.slice none 0 0, .int .i64 0, .int .i64 0] 56) := ⟨_, rfl⟩
  have sa : wa.heap.size = w.heap.size + 1 := by rw [hwa]; simp
  have sb : wb.heap.size = w.heap.size + 2 := by rw [hwb]; simp [sa]
  have sc : wc.heap.size = w.heap.size + 3 := by rw [hwc]; simp [sb]
  have b3 : Below (wb.heap.size + 1) (wb.alloc (.cells #[.slice none 0 0, .int .i64 0, .int .i64 0] 56)) wc := by rw [hwc]; exact Below.refl _ _
  have b2 : Below (wa.heap.size + 1) (wa.alloc (.cells #[.slice none 0 0, .int .i64 0, .int .i64 0] 56)) wc := by rw [hwc, ← hwb]; exact (Below.refl _ _).alloc (by omega) _
  have b1 : Below (w.heap.size + 1) (w.alloc (.cells #[.slice a l.length cap, .int .i64 sent, .int .i64 got] 84)) wc := by rw [hwc, hwb, ← hwa]; exact ((Below.refl _ _).alloc (by omega) _).alloc (by simp [sa]) _
  have HBS : Hid _ := hide (And.intro b1 (And.intro b2 b3))
  have HS : Hid _ := hide (And.intro sa (And.intro sb sc))
  have HW : Hid (((w.alloc (.cells #[.slice a l.length cap, .int .i64 sent, .int .i64 got] 84)).alloc (.cells #[.slice none 0 0, .int .i64 0, .int .i64 0] 56)).alloc (.cells #[.slice none 0 0, .int .i64 0, .int .i64 0] 56) = wc) := hide (by rw [hwc, hwb, hwa])
  clear hwa hwb hwc sa sb sc b1 b2 b3
  go_enter Try.func75, Try.ntmps75
  go_wp2_with fail
  rw [HW.out]
  refine (toParcelS_any _ l _ wc hn (HL.out.below (box_old HBS.out.1))).mono ?_
  rintro e w1 ⟨hb1, g, rfl, ⟨hg, hgl⟩, ho⟩
  obtain ⟨sa, sb, sc⟩ := HS.out
  have e1 : wa.heap.size = w.heap.size + 1 := sa
  obtain ⟨⟨x0, x1, x2⟩, _⟩ := new_block (HBS.out.1.trans (hb1.mono (by omega)))
  obtain ⟨⟨y0, y1, y2⟩, fy⟩ := new_block (HBS.out.2.1.trans (hb1.mono (by omega)))
  obtain ⟨⟨t0, t1, t2⟩, ft⟩ := new_block (HBS.out.2.2.trans (hb1.mono (by omega)))
  rw [sa] at y0 y1 y2 fy
  rw [sb] at t0 t1 t2 ft
  have fy0 := fy 0
  have fy1 := fy 1
  have fy2 := fy 2
  have ft0 := ft 0
  have ft1 := ft 1
  have ft2 := ft 2
  have HO : Hid _ := hide ho
  have HG : Hid _ := hide (And.intro hg hgl)
  have HB : Hid _ := hide (below_trans (box_old HBS.out.1) hb1)
  have hgc : w.heap.size + 3 ≤ g := by omega
  clear fy ft ho hg hgl hb1 sa sb e1
  have HB6 : Hid _ := hide ((((((HB.out.setCell (p := ⟨w.heap.size + 1 + 1, 0, none⟩) (by show w.heap.size ≤ w.heap.size + 1 + 1; omega) (.slice (some ⟨g, 0, none⟩) l.length l.length)).setCell (p := ⟨w.heap.size + 1 + 1, 1, none⟩) (by show w.heap.size ≤ w.heap.size + 1 + 1; omega) (.int .i64 sent)).setCell (p := ⟨w.heap.size + 1 + 1, 2, none⟩) (by show w.heap.size ≤ w.heap.size + 1 + 1; omega) (.int .i64 got)).setCell (p := ⟨w.heap.size + 1, 0, none⟩) (by show w.heap.size ≤ w.heap.size + 1; omega) (.slice (some ⟨g, 0, none⟩) l.length l.length)).setCell (p := ⟨w.heap.size + 1, 1, none⟩) (by show w.heap.size ≤ w.heap.size + 1; omega) (.int .i64 sent)).setCell (p := ⟨w.heap.size + 1, 2, none⟩) (by show w.heap.size ≤ w.heap.size + 1; omega) (.int .i64 got))
  have HO6 : Hid _ := hide ((HO.out.turned ((((Turned.refl (w.heap.size + 1 + 1) w1).setCell (o := 0) (.slice (some ⟨g, 0, none⟩) l.length l.length)).setCell (o := 1) (.int .i64 sent)).setCell (o := 2) (.int .i64 got)) (fun _ => by omega)).turned ((((Turned.refl (w.heap.size + 1) _).setCell (o := 0) (.slice (some ⟨g, 0, none⟩) l.length l.length)).setCell (o := 1) (.int .i64 sent)).setCell (o := 2) (.int .i64 got)) (fun _ => by omega))
  go_wp2
  exact bodyPost_ret (v := .agg #[.slice (some ⟨g, 0, none⟩) l.length l.length, .int .i64 sent, .int .i64 got]) (by simp [results, Try.results75, go_sem, y0, y1, y2]) rfl ⟨HB6.out, g, rfl, ⟨by omega, by have := HG.out.2; simpa using this⟩, HO6.out⟩
set_option maxHeartbeats 1000000 in
theorem eqParcel_any (x y : Int) (w : World) :
    Calls Try.prog 86 #[.agg #[.int .i64 x, .int .i64 y], .agg #[.int .i64 x, .int .i64 y]] w fun e w' => YesEnd w e w' := by
  have h0 : (x != x) = false := by simp
  have h1 : (y != y) = false := by simp
  go_enter Try.func86, Try.ntmps86
  go_wp2
  go_ret
  exact ⟨rfl, below_alloc (below_alloc (Below.refl _ _) _) _⟩
set_option maxHeartbeats 2000000 in
theorem eqParcelS_any (a c : Option Addr) (l : List Prc) (ca cc : Nat) (w : World) (hn : l.length ≤ 1048576) (h : RowAt 2 prcCells w a l) (h' : RowAt 2 prcCells w c l) :
    Calls Try.prog 83 #[.slice a l.length ca, .slice c l.length cc] w fun e w' => YesEnd w e w' := by
  have HL : Hid _ := hide h
  have HL' : Hid _ := hide h'
  clear h h'
  have hln : ((l.length : Int) != (l.length : Int)) = false := by simp
  go_enter Try.func83, Try.ntmps83
  go_wp2
  go_loopw [5] (fun i wr => ∃ k : Nat, k ≤ l.length ∧ i = .int .i64 (k : Int) ∧ Below w.heap.size w wr) (fun i wr => l.length - (intOf i).toNat)
  case atStart => exact ⟨0, Nat.zero_le _, rfl, Below.refl _ _⟩
  case round =>
    obtain ⟨k, hk, rfl, HB⟩ := hrel
    by_cases hlt : k < l.length
    · obtain ⟨b, off, rfl, hb, d0, d1⟩ := prc_row (HL.out.below HB) k hlt
      obtain ⟨b2, off2, rfl, hc, e0, e1⟩ := prc_row (HL'.out.below HB) k hlt
      have hlt' : (k : Int) < (l.length : Int) := by omega
      have d0' := later_cell d0
      have d1' := later_cell d1
      have e0' := later_cell e0
      have e1' := later_cell e1
      clear d0 d1 e0 e1
      have hne : Nonempty (Later wr) := later_there _
      go_wp2_with fail
      refine wp_region_later wr (by kernel_rfl) (by kernel_rfl) ((Below.refl _ _).drew) ?_
      repeat (go_big_quiet_step (first | (go_at_call 86; exact later_of (eqParcel_any _ _ _))))
      refine wpQuiet_nil ?_
      intro _ hw'
      obtain ⟨nx, rfl⟩ := hw'
      go_wp2
      exact ⟨⟨k + 1, by omega, by go_num, below_trans HB nx.below⟩, by simp [intOf]; omega⟩
    · have hk' : ¬ (k : Int) < (l.length : Int) := by omega
      go_wp2
      go_ret
      exact ⟨rfl, HB⟩
set_option maxHeartbeats 2000000 in
theorem eqEnd_any (a c : Option Addr) (l : List Prc) (ca cc : Nat) (sent got : Int) (w : World) (hn : l.length ≤ 1048576) (h : RowAt 2 prcCells w a l) (h' : RowAt 2 prcCells w c l) :
    Calls Try.prog 77 #[.agg #[.slice a l.length ca, .int .i64 sent, .int .i64 got], .agg #[.slice c l.length cc, .int .i64 sent, .int .i64 got]] w fun e w' => YesEnd w e w' := by
  have HL : Hid _ := hide h
  have HL' : Hid _ := hide h'
  clear h h'
  have h1 : (sent != sent) = false := by simp
  have h2 : (got != got) = false := by simp
  obtain ⟨wa, hwa⟩ : ∃ wa, wa = w.alloc (.cells #[.slice a l.length ca, .int .i64 sent, .int .i64 got] 56) := ⟨_, rfl⟩
  obtain ⟨wb, hwb⟩ : ∃ wb, wb = wa.alloc (.cells #[.slice c l.length cc, .int .i64 sent, .int .i64 got] 56) := ⟨_, rfl⟩
  have sa : wa.heap.size = w.heap.size + 1 := by rw [hwa]; simp
  have sb : wb.heap.size = w.heap.size + 2 := by rw [hwb]; simp [sa]
  have b2 : Below (wa.heap.size + 1) (wa.alloc (.cells #[.slice c l.length cc, .int .i64 sent, .int .i64 got] 56)) wb := by rw [hwb]; exact Below.refl _ _
  have b1 : Below (w.heap.size + 1) (w.alloc (.cells #[.slice a l.length ca, .int .i64 sent, .int .i64 got] 56)) wb := by rw [hwb, ← hwa]; exact (Below.refl _ _).alloc (by omega) _
  have HBS : Hid _ := hide (And.intro b1 b2)
  have HS : Hid _ := hide (And.intro sa sb)
  have HW : Hid ((w.alloc (.cells #[.slice a l.length ca, .int .i64 sent, .int .i64 got] 56)).alloc (.cells #[.slice c l.length cc, .int .i64 sent, .int .i64 got] 56) = wb) := hide (by rw [hwb, hwa])
  clear hwa hwb sa sb b1 b2
  go_enter Try.func77, Try.ntmps77
  go_wp2_with fail
  rw [HW.out]
  refine (eqParcelS_any _ _ l _ _ wb hn (HL.out.below (box_old HBS.out.1)) (HL'.out.below (box_old HBS.out.1))).mono ?_
  rintro e w1 ⟨rfl, hb1⟩
  obtain ⟨sa, sb⟩ := HS.out
  obtain ⟨x0, x1, x2⟩ := box3 (HBS.out.1.trans (hb1.mono (by omega)))
  obtain ⟨y0, y1, y2⟩ := box3 (HBS.out.2.trans (hb1.mono (by omega)))
  rw [sa] at y0 y1 y2
  have HB : Hid _ := hide (below_trans (box_old HBS.out.1) hb1)
  clear hb1 sa sb
  go_wp2
  go_ret
  exact ⟨rfl, HB.out⟩
end Go.Proofs.Ytpfghmghlklhgaa
