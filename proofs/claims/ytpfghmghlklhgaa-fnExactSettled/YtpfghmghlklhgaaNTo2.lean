/- The contracts of the laws' helpers over nodes: copies. -/
import Derived.Test.YtpfghmghlklhgaaNTo
namespace Go.Proofs.Ytpfghmghlklhgaa
open Go.ChangeShapes Go.WideShapes Go.ChangeAt Go.RowKit
set_option linter.unusedVariables false
/-- a block whose cells are known and that may be written -/
structure Blk (g : Nat) (cur : List Value) (x : World) : Prop where
  lt : g < x.heap.size
  c : ∀ j v, cur[j]? = some v → x.cell? ⟨g, j, none⟩ = some v
  f : ∀ j, x.frozen? ⟨g, j, none⟩ = false
theorem Blk.new {w : World} {cur : List Value} {T : TypeId} : Blk w.heap.size cur (w.alloc (.cells cur.toArray T)) :=
  ⟨by simp, fun j v hj => boxN (T := T) (Below.refl _ _) j v (by simpa using hj), fun j => boxFree (cur := cur.toArray) (T := T) (Below.refl _ _) j⟩
theorem Blk.below {g : Nat} {cur : List Value} {x y : World} (h : Blk g cur x) (b : Below x.heap.size x y) : Blk g cur y :=
  ⟨Nat.lt_of_lt_of_le h.lt b.size, fun j v hj => (b.cell h.lt).trans (h.c j v hj), fun j => (b.frozen h.lt).trans (h.f j)⟩
theorem Blk.alloc {g : Nat} {cur : List Value} {x : World} (h : Blk g cur x) (o : Obj) : Blk g cur (x.alloc o) := h.below (below_alloc (Below.refl _ _) _)
theorem Blk.set {g : Nat} {cur : List Value} {x : World} (h : Blk g cur x) (o : Nat) (v : Value) (ho : o < cur.length) : Blk g (cur.set o v) (x.setCell ⟨g, o, none⟩ v) :=
  ⟨by rw [size_setCell]; exact h.lt, fun j u hj => by
    by_cases e : o = j
    · subst e
      rw [List.getElem?_set_self (by simpa using ho)] at hj
      cases hj
      exact cell_set_same (h.c o cur[o] (List.getElem?_eq_getElem ho))
    · rw [List.getElem?_set_ne e] at hj
      rw [cell_set_other (.inr e)]
      exact h.c j u hj, fun j => by rw [frozen_set]; exact h.f j⟩
theorem Blk.other {g g' : Nat} {cur : List Value} {x : World} (h : Blk g cur x) (o : Nat) (v : Value) (hg : g' ≠ g) : Blk g cur (x.setCell ⟨g', o, none⟩ v) :=
  ⟨by rw [size_setCell]; exact h.lt, fun j u hj => by rw [cell_set_other (.inl hg)]; exact h.c j u hj, fun j => by rw [frozen_set]; exact h.f j⟩

set_option maxHeartbeats 1000000 in
theorem toAnswered_any (x0 x1 : Int) (w : World) :
    Calls Try.prog 56 #[.agg #[.int .i64 x0, .int .i64 x1]] w fun e w' => e = .returned (.agg #[.int .i64 x0, .int .i64 x1]) ∧ Below w.heap.size w w' := by
  go_enter Try.func56, Try.ntmps56
  go_wp2
  exact bodyPost_ret (v := .agg #[.int .i64 x0, .int .i64 x1]) (by simp [results, Try.results56, go_sem]) rfl ⟨rfl, below_alloc (below_alloc (below_alloc (Below.refl _ _) _) _) _⟩
theorem infoSn : (Try.prog.info? 53).map (fun i => (i.zero, i.size, i.bytes)) = some (some (.agg #[.int .i64 0, .int .i64 0]), 2, 16) := by kernel_rfl
def ToSns (l : List Sn) (w : World) (e : Ending) (w' : World) : Prop := Below w.heap.size w w' ∧ ∃ g, e = .returned (.slice (some ⟨g, 0, none⟩) l.length l.length) ∧ (w.heap.size ≤ g ∧ g < w'.heap.size) ∧ RowAt 2 snCells w' (some ⟨g, 0, none⟩) l
set_option maxRecDepth 100000 in
set_option maxHeartbeats 4000000 in
theorem toAnsweredS_any (a : Option Addr) (l : List Sn) (cap : Nat) (w : World) (hn : l.length ≤ 1048576) (h : RowAt 2 snCells w a l) :
    Calls Try.prog 28 #[.slice a l.length cap] w fun e w' => ToSns l w e w' := by
  obtain ⟨i0, hi, hz0, hz1, hz2⟩ := info_parts infoSn
  have HL : Hid _ := hide h
  clear h
  have uS : Try.prog.underlying 28 = some (.slice 53) := by kernel_rfl
  go_enter Try.func28, Try.ntmps28
  go_wp2_with (first | (at_make; refine Shut2.mk ?_) | go_in)
  refine Shut2.mk' ?_
  refine wpList_make_full _ rfl _ _ 28 rfl w.heap.size 53 i0 _ 2 uS hi hz0 hz1 .i64 .i64 _ _ l.length rfl rfl rfl rfl (by rw [hz2]; omega) (by unfold maxLen; omega) (Nat.le_refl _) ?_
  intro w0 hown hgrow
  have HB0 : Hid (Below w.heap.size w w0) := hide ((Below.refl _ _).grown hgrow (Nat.le_refl _) (fun j hj => by cases hj))
  have HM0 : Hid _ := hide (rowMid_made (cells := (fun i => (l[i]?).elim [] snCells)) hown)
  clear hown hgrow
  go_wp2
  go_loopw [4] (fun i wr => ∃ k : Nat, k ≤ l.length ∧ i = .int .i64 (k : Int) ∧ Below w.heap.size w wr ∧ Hid (RowMid w.heap.size l.length 2 (fun i => (l[i]?).elim [] snCells) k wr)) (fun i wr => l.length - (intOf i).toNat)
  case atStart => exact ⟨0, Nat.zero_le _, rfl, HB0.out, HM0⟩
  case round =>
    obtain ⟨k, hk, rfl, HB, HM⟩ := hrel
    by_cases hlt : k < l.length
    · obtain ⟨b, off, rfl, hb, d0, d1⟩ := sn_row (HL.out.below HB) k hlt
      have hlt' : (k : Int) < (l.length : Int) := by omega
      go_wp2_with fail
      refine (toAnswered_any _ _ wr).mono ?_
      rintro e w1 ⟨rfl, hb1⟩
      have hM1 := HM.out.below hb1
      have HP : Hid _ := hide ((((HM.out.below hb1).put).set hlt (by decide) (v := .int .i64 (l[k]).id) (by simp [List.getElem?_eq_getElem hlt, snCells]) rfl).set hlt (by decide) (v := .int .i64 (l[k]).code) (by simp [List.getElem?_eq_getElem hlt, snCells]) rfl).whole
      have HB1 : Hid _ := hide (below_trans HB hb1)
      obtain ⟨v0, f0⟩ := hM1.there (k * 2 + 0) (by omega)
      obtain ⟨v1, f1⟩ := hM1.there (k * 2 + 1) (by omega)
      have z0 := hM1.free (k * 2 + 0)
      have z1 := hM1.free (k * 2 + 1)
      simp only [Nat.add_zero] at f0 z0
      clear hM1 hb1
      go_wp2
      exact ⟨⟨k + 1, by omega, by go_num, ((HB1.out.setCell (Nat.le_refl _) _).setCell (Nat.le_refl _) _), HP⟩, by simp [intOf]; omega⟩
    · have hk' : ¬ (k : Int) < (l.length : Int) := by omega
      have HE : Hid (ToSns l w (.returned (.slice (some ⟨w.heap.size, 0, none⟩) l.length l.length)) wr) := hide (by
        have M := HM.out
        rw [show k = l.length by omega] at M
        have O := own_of_mid snLen M (Nat.le_refl _)
        exact ⟨HB, w.heap.size, rfl, ⟨Nat.le_refl _, M.lt⟩, O.rows⟩)
      go_wp2
      go_ret
      exact HE.out

set_option maxHeartbeats 1000000 in
theorem toMsg_any (x0 x1 x2 x3 x4 : Int) (w : World) :
    Calls Try.prog 64 #[.agg #[.int .i64 x0, .int .i64 x1, .int .i64 x2, .int .i64 x3, .int .i64 x4]] w fun e w' => e = .returned (.agg #[.int .i64 x0, .int .i64 x1, .int .i64 x2, .int .i64 x3, .int .i64 x4]) ∧ Below w.heap.size w w' := by
  go_enter Try.func64, Try.ntmps64
  go_wp2
  exact bodyPost_ret (v := .agg #[.int .i64 x0, .int .i64 x1, .int .i64 x2, .int .i64 x3, .int .i64 x4]) (by simp [results, Try.results64, go_sem]) rfl ⟨rfl, below_alloc (below_alloc (below_alloc (Below.refl _ _) _) _) _⟩
theorem infoMg : (Try.prog.info? 72).map (fun i => (i.zero, i.size, i.bytes)) = some (some (.agg #[.int .i64 0, .int .i64 0, .int .i64 0, .int .i64 0, .int .i64 0]), 5, 40) := by kernel_rfl
def ToMgs (l : List Mg) (w : World) (e : Ending) (w' : World) : Prop := Below w.heap.size w w' ∧ ∃ g, e = .returned (.slice (some ⟨g, 0, none⟩) l.length l.length) ∧ (w.heap.size ≤ g ∧ g < w'.heap.size) ∧ RowAt 5 mgCells w' (some ⟨g, 0, none⟩) l
set_option maxRecDepth 100000 in
set_option maxHeartbeats 4000000 in
theorem toMsgS_any (a : Option Addr) (l : List Mg) (cap : Nat) (w : World) (hn : l.length ≤ 1048576) (h : RowAt 5 mgCells w a l) :
    Calls Try.prog 43 #[.slice a l.length cap] w fun e w' => ToMgs l w e w' := by
  obtain ⟨i0, hi, hz0, hz1, hz2⟩ := info_parts infoMg
  have HL : Hid _ := hide h
  clear h
  have uS : Try.prog.underlying 42 = some (.slice 72) := by kernel_rfl
  go_enter Try.func43, Try.ntmps43
  go_wp2_with (first | (at_make; refine Shut2.mk ?_) | go_in)
  refine Shut2.mk' ?_
  refine wpList_make_full _ rfl _ _ 42 rfl w.heap.size 72 i0 _ 5 uS hi hz0 hz1 .i64 .i64 _ _ l.length rfl rfl rfl rfl (by rw [hz2]; omega) (by unfold maxLen; omega) (Nat.le_refl _) ?_
  intro w0 hown hgrow
  have HB0 : Hid (Below w.heap.size w w0) := hide ((Below.refl _ _).grown hgrow (Nat.le_refl _) (fun j hj => by cases hj))
  have HM0 : Hid _ := hide (rowMid_made (cells := (fun i => (l[i]?).elim [] mgCells)) hown)
  clear hown hgrow
  go_wp2
  go_loopw [4] (fun i wr => ∃ k : Nat, k ≤ l.length ∧ i = .int .i64 (k : Int) ∧ Below w.heap.size w wr ∧ Hid (RowMid w.heap.size l.length 5 (fun i => (l[i]?).elim [] mgCells) k wr)) (fun i wr => l.length - (intOf i).toNat)
  case atStart => exact ⟨0, Nat.zero_le _, rfl, HB0.out, HM0⟩
  case round =>
    obtain ⟨k, hk, rfl, HB, HM⟩ := hrel
    by_cases hlt : k < l.length
    · obtain ⟨b, off, rfl, hb, d0, d1, d2, d3, d4⟩ := mg_row (HL.out.below HB) k hlt
      have hlt' : (k : Int) < (l.length : Int) := by omega
      go_wp2_with fail
      refine (toMsg_any _ _ _ _ _ wr).mono ?_
      rintro e w1 ⟨rfl, hb1⟩
      have hM1 := HM.out.below hb1
      have HP : Hid _ := hide (((((((HM.out.below hb1).put).set hlt (by decide) (v := .int .i64 (l[k]).fr) (by simp [List.getElem?_eq_getElem hlt, mgCells]) rfl).set hlt (by decide) (v := .int .i64 (l[k]).to) (by simp [List.getElem?_eq_getElem hlt, mgCells]) rfl).set hlt (by decide) (v := .int .i64 (l[k]).kind) (by simp [List.getElem?_eq_getElem hlt, mgCells]) rfl).set hlt (by decide) (v := .int .i64 (l[k]).seq) (by simp [List.getElem?_eq_getElem hlt, mgCells]) rfl).set hlt (by decide) (v := .int .i64 (l[k]).amt) (by simp [List.getElem?_eq_getElem hlt, mgCells]) rfl).whole
      have HB1 : Hid _ := hide (below_trans HB hb1)
      obtain ⟨v0, f0⟩ := hM1.there (k * 5 + 0) (by omega)
      obtain ⟨v1, f1⟩ := hM1.there (k * 5 + 1) (by omega)
      obtain ⟨v2, f2⟩ := hM1.there (k * 5 + 2) (by omega)
      obtain ⟨v3, f3⟩ := hM1.there (k * 5 + 3) (by omega)
      obtain ⟨v4, f4⟩ := hM1.there (k * 5 + 4) (by omega)
      have z0 := hM1.free (k * 5 + 0)
      have z1 := hM1.free (k * 5 + 1)
      have z2 := hM1.free (k * 5 + 2)
      have z3 := hM1.free (k * 5 + 3)
      have z4 := hM1.free (k * 5 + 4)
      simp only [Nat.add_zero] at f0 z0
      clear hM1 hb1
      go_wp2
      exact ⟨⟨k + 1, by omega, by go_num, (((((HB1.out.setCell (Nat.le_refl _) _).setCell (Nat.le_refl _) _).setCell (Nat.le_refl _) _).setCell (Nat.le_refl _) _).setCell (Nat.le_refl _) _), HP⟩, by simp [intOf]; omega⟩
    · have hk' : ¬ (k : Int) < (l.length : Int) := by omega
      have HE : Hid (ToMgs l w (.returned (.slice (some ⟨w.heap.size, 0, none⟩) l.length l.length)) wr) := hide (by
        have M := HM.out
        rw [show k = l.length by omega] at M
        have O := own_of_mid mgLen M (Nat.le_refl _)
        exact ⟨HB, w.heap.size, rfl, ⟨Nat.le_refl _, M.lt⟩, O.rows⟩)
      go_wp2
      go_ret
      exact HE.out

def ToPeer (id : Int) (E : En) (w : World) (e : Ending) (w' : World) : Prop := Below w.heap.size w w' ∧ ∃ g, e = .returned (.agg #[.int .i64 id, .slice (some ⟨g, 0, none⟩) E.out.length E.out.length, .int .i64 E.sent, .int .i64 E.got]) ∧ (w.heap.size ≤ g ∧ g < w'.heap.size) ∧ RowAt 2 prcCells w' (some ⟨g, 0, none⟩) E.out
set_option maxRecDepth 100000 in
set_option maxHeartbeats 4000000 in
theorem toPeer_any (id : Int) (a : Option Addr) (cap : Nat) (E : En) (w : World) (hn : E.out.length ≤ 1048576) (h : RowAt 2 prcCells w a E.out) :
    Calls Try.prog 57 #[.agg #[.int .i64 id, .slice a E.out.length cap, .int .i64 E.sent, .int .i64 E.got]] w fun e w' => ToPeer id E w e w' := by
  have HL : Hid _ := hide h
  clear h

  obtain ⟨wa, hwa⟩ : ∃ wa, wa = w.alloc (.cells #[.int .i64 id, .slice a E.out.length cap, .int .i64 E.sent, .int .i64 E.got] 86) := ⟨_, rfl⟩
  obtain ⟨wb, hwb⟩ : ∃ wb, wb = wa.alloc (.cells #[.int .i64 0, .slice none 0 0, .int .i64 0, .int .i64 0] 58) := ⟨_, rfl⟩
  obtain ⟨wc, hwc⟩ : ∃ wc, wc = wb.alloc (.cells #[.int .i64 id, .slice none 0 0, .int .i64 0, .int .i64 0] 58) := ⟨_, rfl⟩
  have sa : wa.heap.size = w.heap.size + 1 := by rw [hwa]; simp
  have sb : wb.heap.size = w.heap.size + 1 + 1 := by rw [hwb]; simp [sa]
  have sc : wc.heap.size = w.heap.size + 1 + 1 + 1 := by rw [hwc]; simp [sb]
  have kA : Blk w.heap.size [.int .i64 id, .slice a E.out.length cap, .int .i64 E.sent, .int .i64 E.got] wc := by rw [hwc, hwb, hwa]; exact (Blk.new.alloc _).alloc _
  have kR : Blk (w.heap.size + 1) [.int .i64 0, .slice none 0 0, .int .i64 0, .int .i64 0] wc := by rw [← sa, hwc, hwb]; exact Blk.new.alloc _
  have kO : Blk (w.heap.size + 1 + 1) [.int .i64 id, .slice none 0 0, .int .i64 0, .int .i64 0] wc := by rw [← sb, hwc]; exact Blk.new
  have b3 : Below w.heap.size w wc := by rw [hwc, hwb, hwa]; exact below_alloc (below_alloc (below_alloc (Below.refl _ _) _) _) _
  have HW : Hid (((w.alloc (.cells #[.int .i64 id, .slice a E.out.length cap, .int .i64 E.sent, .int .i64 E.got] 86)).alloc (.cells #[.int .i64 0, .slice none 0 0, .int .i64 0, .int .i64 0] 58)).alloc (.cells #[.int .i64 id, .slice none 0 0, .int .i64 0, .int .i64 0] 58) = wc) := hide (by rw [hwc, hwb, hwa])
  clear hwa hwb hwc sa sb
  have HB3 : Hid _ := hide b3
  have HS : Hid _ := hide sc
  have KA : Hid _ := hide kA
  have KR : Hid _ := hide kR
  have KO : Hid _ := hide kO
  clear kA kR kO b3 sc

  go_enter Try.func57, Try.ntmps57
  go_wp2_with fail
  rw [HW.out]
  refine (toEnd_any _ E.out _ _ _ wc hn (HL.out.below HB3.out)).mono ?_
  rintro e w1 ⟨hb1, g, rfl, ⟨hg, hgl⟩, ho⟩
  have jR := KR.out.below hb1
  have jO := KO.out.below hb1
  have t0 := jO.c 0 _ rfl
  have t1 := jO.c 1 _ rfl
  have t2 := jO.c 2 _ rfl
  have t3 := jO.c 3 _ rfl
  have ft0 := jO.f 0
  have ft1 := jO.f 1
  have ft2 := jO.f 2
  have ft3 := jO.f 3
  have u0 := jR.c 0 _ rfl
  have u1 := jR.c 1 _ rfl
  have u2 := jR.c 2 _ rfl
  have u3 := jR.c 3 _ rfl
  have fu0 := jR.f 0
  have fu1 := jR.f 1
  have fu2 := jR.f 2
  have fu3 := jR.f 3

  have hgc : w.heap.size + 1 + 1 + 1 ≤ g := by rw [HS.out] at hg; exact hg
  have HU : Hid (Upper (w.heap.size + 1 + 1 + 1) w1 (((((((w1.setCell ⟨w.heap.size + 1 + 1, 1, none⟩ (.slice (some ⟨g, 0, none⟩) E.out.length E.out.length)).setCell ⟨w.heap.size + 1 + 1, 2, none⟩ (.int .i64 E.sent)).setCell ⟨w.heap.size + 1 + 1, 3, none⟩ (.int .i64 E.got)).setCell ⟨w.heap.size + 1, 0, none⟩ (.int .i64 id)).setCell ⟨w.heap.size + 1, 1, none⟩ (.slice (some ⟨g, 0, none⟩) E.out.length E.out.length)).setCell ⟨w.heap.size + 1, 2, none⟩ (.int .i64 E.sent)).setCell ⟨w.heap.size + 1, 3, none⟩ (.int .i64 E.got))) := hide (((((((((Upper.refl _ _).set (by omega) _).set (by omega) _).set (by omega) _).set (by omega) _).set (by omega) _).set (by omega) _).set (by omega) _))
  have HB : Hid (Below w.heap.size w (((((((w1.setCell ⟨w.heap.size + 1 + 1, 1, none⟩ (.slice (some ⟨g, 0, none⟩) E.out.length E.out.length)).setCell ⟨w.heap.size + 1 + 1, 2, none⟩ (.int .i64 E.sent)).setCell ⟨w.heap.size + 1 + 1, 3, none⟩ (.int .i64 E.got)).setCell ⟨w.heap.size + 1, 0, none⟩ (.int .i64 id)).setCell ⟨w.heap.size + 1, 1, none⟩ (.slice (some ⟨g, 0, none⟩) E.out.length E.out.length)).setCell ⟨w.heap.size + 1, 2, none⟩ (.int .i64 E.sent)).setCell ⟨w.heap.size + 1, 3, none⟩ (.int .i64 E.got))) := hide (((((((((below_trans HB3.out hb1).setCell (p := ⟨w.heap.size + 1 + 1, 1, none⟩) (by show w.heap.size ≤ w.heap.size + 1 + 1; omega) _).setCell (p := ⟨w.heap.size + 1 + 1, 2, none⟩) (by show w.heap.size ≤ w.heap.size + 1 + 1; omega) _).setCell (p := ⟨w.heap.size + 1 + 1, 3, none⟩) (by show w.heap.size ≤ w.heap.size + 1 + 1; omega) _).setCell (p := ⟨w.heap.size + 1, 0, none⟩) (by show w.heap.size ≤ w.heap.size + 1; omega) _).setCell (p := ⟨w.heap.size + 1, 1, none⟩) (by show w.heap.size ≤ w.heap.size + 1; omega) _).setCell (p := ⟨w.heap.size + 1, 2, none⟩) (by show w.heap.size ≤ w.heap.size + 1; omega) _).setCell (p := ⟨w.heap.size + 1, 3, none⟩) (by show w.heap.size ≤ w.heap.size + 1; omega) _))
  have HO : Hid _ := hide ho.rows
  have HG : Hid _ := hide hgl
  clear jR jO ho hg hb1 hgl
  go_wp2
  exact bodyPost_ret (v := .agg #[(.int .i64 id), (.slice (some ⟨g, 0, none⟩) E.out.length E.out.length), (.int .i64 E.sent), (.int .i64 E.got)]) (by simp [results, Try.results57, go_sem, u0, u1, u2, u3]) rfl ⟨HB.out, g, rfl, ⟨by omega, by have := HG.out; simpa using this⟩, HO.out.upper (hi_at hgc) HU.out⟩

theorem infoPr : (Try.prog.info? 58).map (fun i => (i.zero, i.size, i.bytes)) = some (some (.agg #[.int .i64 0, .slice none 0 0, .int .i64 0, .int .i64 0]), 4, 48) := by kernel_rfl
/-- peers that are being copied: k of them are -/
def PeersMid (g : Nat) (l : List Pr) (k : Nat) (x : World) : Prop := ∃ l1 : List Pr, l1.length = k ∧ l1.map Pr.d = (l.take k).map Pr.d ∧ RowMid g l.length 4 (fun i => (l1[i]?).elim [] prCells) k x ∧ (∀ p ∈ l1, RowAt 2 prcCells x p.a p.E.out) ∧ HiP (g + 1) l1
theorem PeersMid.mid {g : Nat} {l : List Pr} {k : Nat} {x : World} (h : PeersMid g l k x) : ∃ c, RowMid g l.length 4 c k x := by
  obtain ⟨l1, _, _, h3, _⟩ := h
  exact ⟨_, h3⟩
theorem PeersMid.step {g : Nat} {l : List Pr} {k : Nat} {x y : World} (h : PeersMid g l k x) (hk : k < l.length) (b : Below x.heap.size x y) {g1 : Nat} (hg : x.heap.size ≤ g1) (hr : RowAt 2 prcCells y (some ⟨g1, 0, none⟩) (l[k]).E.out) :
    PeersMid g l (k + 1) ((((y.setCell ⟨g, k * 4, none⟩ (.int .i64 (l[k]).id)).setCell ⟨g, k * 4 + 1, none⟩ (.slice (some ⟨g1, 0, none⟩) (l[k]).E.out.length (l[k]).E.out.length)).setCell ⟨g, k * 4 + 2, none⟩ (.int .i64 (l[k]).E.sent)).setCell ⟨g, k * 4 + 3, none⟩ (.int .i64 (l[k]).E.got)) := by
  obtain ⟨l1, h1, h2, h3, h4, h5⟩ := h
  have hgx := h3.lt
  obtain ⟨p, hp⟩ : ∃ p : Pr, p = ⟨(l[k]).id, some ⟨g1, 0, none⟩, (l[k]).E.out.length, (l[k]).E⟩ := ⟨_, rfl⟩
  have e1 : ((l1 ++ [p])[k]?).elim [] prCells = prCells p := by rw [List.getElem?_append_right (by omega), h1]; simp
  have up : Upper (g + 1) y ((((y.setCell ⟨g, k * 4, none⟩ (.int .i64 (l[k]).id)).setCell ⟨g, k * 4 + 1, none⟩ (.slice (some ⟨g1, 0, none⟩) (l[k]).E.out.length (l[k]).E.out.length)).setCell ⟨g, k * 4 + 2, none⟩ (.int .i64 (l[k]).E.sent)).setCell ⟨g, k * 4 + 3, none⟩ (.int .i64 (l[k]).E.got)) := ((((Upper.refl _ _).set (by omega) _).set (by omega) _).set (by omega) _).set (by omega) _
  refine ⟨l1 ++ [p], by simp [h1], ?_, ?_, fun q hq => ?_, fun q hq => ?_⟩
  · rw [take_next l k hk, List.map_append, List.map_append, h2, hp]; rfl
  · have m := (h3.below b).congr (c' := fun i => ((l1 ++ [p])[i]?).elim [] prCells) (fun i hi => by rw [List.getElem?_append_left (by omega)])
    exact ((((m.put.set hk (by decide) (v := .int .i64 (l[k]).id) (by simp only [e1]; rw [hp]; rfl) rfl).set hk (by decide) (v := .slice (some ⟨g1, 0, none⟩) (l[k]).E.out.length (l[k]).E.out.length) (by simp only [e1]; rw [hp]; rfl) rfl).set hk (by decide) (v := .int .i64 (l[k]).E.sent) (by simp only [e1]; rw [hp]; rfl) rfl).set hk (by decide) (v := .int .i64 (l[k]).E.got) (by simp only [e1]; rw [hp]; rfl) rfl).whole
  · rcases List.mem_append.1 hq with hq | hq
    · exact ((h4 q hq).below b).upper (h5 q hq) up
    · obtain rfl := List.mem_singleton.1 hq
      rw [hp]
      exact hr.upper (hi_at (by omega)) up
  · rcases List.mem_append.1 hq with hq | hq
    · exact h5 q hq
    · obtain rfl := List.mem_singleton.1 hq
      rw [hp]
      exact hi_at (by omega)
def ToPeers (l : List Pr) (w : World) (e : Ending) (w' : World) : Prop := Below w.heap.size w w' ∧ ∃ (g : Nat) (l' : List Pr), e = .returned (.slice (some ⟨g, 0, none⟩) l.length l.length) ∧ l'.map Pr.d = l.map Pr.d ∧ PeersAt w' (some ⟨g, 0, none⟩) l' ∧ (w.heap.size ≤ g ∧ g < w'.heap.size) ∧ HiP w.heap.size l'
set_option maxRecDepth 100000 in
set_option maxHeartbeats 4000000 in
theorem toPeerS_any (a : Option Addr) (l : List Pr) (cap : Nat) (w : World) (hn : l.length ≤ 1048576) (hsm : SmP l) (h : PeersAt w a l) :
    Calls Try.prog 29 #[.slice a l.length cap] w fun e w' => ToPeers l w e w' := by
  obtain ⟨i0, hi, hz0, hz1, hz2⟩ := info_parts infoPr
  have HL : Hid _ := hide h
  clear h
  have uS : Try.prog.underlying 29 = some (.slice 58) := by kernel_rfl
  go_enter Try.func29, Try.ntmps29
  go_wp2_with (first | (at_make; refine Shut2.mk ?_) | go_in)
  refine Shut2.mk' ?_
  refine wpList_make_full _ rfl _ _ 29 rfl w.heap.size 58 i0 _ 4 uS hi hz0 hz1 .i64 .i64 _ _ l.length rfl rfl rfl rfl (by rw [hz2]; omega) (by unfold maxLen; omega) (Nat.le_refl _) ?_
  intro w0 hown hgrow
  have HB0 : Hid (Below w.heap.size w w0) := hide ((Below.refl _ _).grown hgrow (Nat.le_refl _) (fun j hj => by cases hj))
  have HM0 : Hid (PeersMid w.heap.size l 0 w0) := hide ⟨[], rfl, rfl, rowMid_made hown, fun p hp => by simp at hp, fun p hp => by simp at hp⟩
  clear hown hgrow
  go_wp2
  go_loopw [4] (fun i wr => ∃ k : Nat, k ≤ l.length ∧ i = .int .i64 (k : Int) ∧ Below w.heap.size w wr ∧ Hid (PeersMid w.heap.size l k wr)) (fun i wr => l.length - (intOf i).toNat)
  case atStart => exact ⟨0, Nat.zero_le _, rfl, HB0.out, HM0⟩
  case round =>
    obtain ⟨k, hk, rfl, HB, HM⟩ := hrel
    by_cases hlt : k < l.length
    · obtain ⟨b, off, rfl, hb, d0, d1, d2, d3⟩ := pr_row (HL.out.row.below HB) k hlt
      have hlt' : (k : Int) < (l.length : Int) := by omega
      go_wp2_with fail
      refine (toPeer_any _ _ _ _ wr (hsm _ (List.getElem_mem hlt)) ((HL.out.ends _ (List.getElem_mem hlt)).below HB)).mono ?_
      rintro e w1 ⟨hb1, g1, rfl, ⟨hg1, hgl1⟩, hr1⟩
      obtain ⟨c, hc⟩ := HM.out.mid
      have hM1 := hc.below hb1
      have HP : Hid _ := hide (HM.out.step hlt hb1 hg1 hr1)
      have HB1 : Hid _ := hide (below_trans HB hb1)
      obtain ⟨v0, f0⟩ := hM1.there (k * 4 + 0) (by omega)
      obtain ⟨v1, f1⟩ := hM1.there (k * 4 + 1) (by omega)
      obtain ⟨v2, f2⟩ := hM1.there (k * 4 + 2) (by omega)
      obtain ⟨v3, f3⟩ := hM1.there (k * 4 + 3) (by omega)
      have z0 := hM1.free (k * 4 + 0)
      have z1 := hM1.free (k * 4 + 1)
      have z2 := hM1.free (k * 4 + 2)
      have z3 := hM1.free (k * 4 + 3)
      simp only [Nat.add_zero] at f0 z0
      clear hM1 hb1 hc hg1 hr1 hgl1
      go_wp2
      exact ⟨⟨k + 1, by omega, by go_num, ((((HB1.out.setCell (Nat.le_refl _) _).setCell (Nat.le_refl _) _).setCell (Nat.le_refl _) _).setCell (Nat.le_refl _) _), HP⟩, by simp [intOf]; omega⟩
    · have hk' : ¬ (k : Int) < (l.length : Int) := by omega
      have HE : Hid (ToPeers l w (.returned (.slice (some ⟨w.heap.size, 0, none⟩) l.length l.length)) wr) := hide (by
        obtain ⟨l1, h1, h2, h3, h4, h5⟩ := HM.out
        have ek : k = l.length := by omega
        subst ek
        rw [List.take_length] at h2
        have O := own_of_mid (l := l1) (cap := l.length) prLen (by rw [h1]; exact h3) (by omega)
        exact ⟨HB, w.heap.size, l1, rfl, h2, ⟨O.rows, h4⟩, ⟨Nat.le_refl _, h3.lt⟩, fun p hp => (h5 p hp).mono (by omega)⟩)
      go_wp2
      go_ret
      exact HE.out

def ToNode (n : Nd) (w : World) (e : Ending) (w' : World) : Prop := Below w.heap.size w w' ∧ ∃ (g1 g2 : Nat) (l' : List Pr), e = .returned (.agg #[(.int .i64 n.id), (.int .i64 n.has), (.int .i64 n.spent), (.int .i64 n.earned), (.slice (some ⟨g1, 0, none⟩) n.seen.length n.seen.length), (.slice (some ⟨g2, 0, none⟩) n.peers.length n.peers.length)]) ∧ l'.map Pr.d = n.peers.map Pr.d ∧ RowAt 2 snCells w' (some ⟨g1, 0, none⟩) n.seen ∧ PeersAt w' (some ⟨g2, 0, none⟩) l' ∧ (w.heap.size ≤ g1 ∧ w.heap.size ≤ g2) ∧ HiP w.heap.size l'
set_option maxRecDepth 100000 in
set_option maxHeartbeats 8000000 in
theorem toNode_any (n : Nd) (w : World) (hsm : SmN n) (h : NodeAt w n) :
    Calls Try.prog 10 #[.agg #[.int .i64 n.id, .int .i64 n.has, .int .i64 n.spent, .int .i64 n.earned, .slice n.sa n.seen.length n.sc, .slice n.pa n.peers.length n.pc]] w fun e w' => ToNode n w e w' := by
  have HL : Hid _ := hide h
  have HM : Hid _ := hide hsm
  clear h hsm

  obtain ⟨wa, hwa⟩ : ∃ wa, wa = w.alloc (.cells #[.int .i64 n.id, .int .i64 n.has, .int .i64 n.spent, .int .i64 n.earned, .slice n.sa n.seen.length n.sc, .slice n.pa n.peers.length n.pc] 25) := ⟨_, rfl⟩
  obtain ⟨wb, hwb⟩ : ∃ wb, wb = wa.alloc (.cells #[.int .i64 0, .int .i64 0, .int .i64 0, .int .i64 0, .slice none 0 0, .slice none 0 0] 31) := ⟨_, rfl⟩
  obtain ⟨wc, hwc⟩ : ∃ wc, wc = wb.alloc (.cells #[.int .i64 n.id, .int .i64 n.has, .int .i64 n.spent, .int .i64 n.earned, .slice none 0 0, .slice none 0 0] 31) := ⟨_, rfl⟩
  have sa : wa.heap.size = w.heap.size + 1 := by rw [hwa]; simp
  have sb : wb.heap.size = w.heap.size + 1 + 1 := by rw [hwb]; simp [sa]
  have sc : wc.heap.size = w.heap.size + 1 + 1 + 1 := by rw [hwc]; simp [sb]
  have kA : Blk w.heap.size [.int .i64 n.id, .int .i64 n.has, .int .i64 n.spent, .int .i64 n.earned, .slice n.sa n.seen.length n.sc, .slice n.pa n.peers.length n.pc] wc := by rw [hwc, hwb, hwa]; exact (Blk.new.alloc _).alloc _
  have kR : Blk (w.heap.size + 1) [.int .i64 0, .int .i64 0, .int .i64 0, .int .i64 0, .slice none 0 0, .slice none 0 0] wc := by rw [← sa, hwc, hwb]; exact Blk.new.alloc _
  have kO : Blk (w.heap.size + 1 + 1) [.int .i64 n.id, .int .i64 n.has, .int .i64 n.spent, .int .i64 n.earned, .slice none 0 0, .slice none 0 0] wc := by rw [← sb, hwc]; exact Blk.new
  have b3 : Below w.heap.size w wc := by rw [hwc, hwb, hwa]; exact below_alloc (below_alloc (below_alloc (Below.refl _ _) _) _) _
  have HW : Hid (((w.alloc (.cells #[.int .i64 n.id, .int .i64 n.has, .int .i64 n.spent, .int .i64 n.earned, .slice n.sa n.seen.length n.sc, .slice n.pa n.peers.length n.pc] 25)).alloc (.cells #[.int .i64 0, .int .i64 0, .int .i64 0, .int .i64 0, .slice none 0 0, .slice none 0 0] 31)).alloc (.cells #[.int .i64 n.id, .int .i64 n.has, .int .i64 n.spent, .int .i64 n.earned, .slice none 0 0, .slice none 0 0] 31) = wc) := hide (by rw [hwc, hwb, hwa])
  clear hwa hwb hwc sa sb
  have HB3 : Hid _ := hide b3
  have HS : Hid _ := hide sc
  have KA : Hid _ := hide kA
  have KR : Hid _ := hide kR
  have KO : Hid _ := hide kO
  clear kA kR kO b3 sc

  go_enter Try.func10, Try.ntmps10
  go_wp2_with fail
  rw [HW.out]
  refine (toAnsweredS_any _ n.seen _ wc HM.out.1 (HL.out.seen.below HB3.out)).mono ?_
  rintro e w1 ⟨hb1, g1, rfl, ⟨hg1, hgl1⟩, ho1⟩
  have KA1 : Hid _ := hide (KA.out.below hb1)
  have KR1 : Hid _ := hide (KR.out.below hb1)
  have KO1 : Hid _ := hide (KO.out.below hb1)
  have HB1 : Hid _ := hide (below_trans HB3.out hb1)
  have HO1 : Hid _ := hide ho1
  have HG1 : Hid (w.heap.size + 1 + 1 + 1 ≤ g1 ∧ g1 < w1.heap.size) := hide ⟨by rw [HS.out] at hg1; exact hg1, hgl1⟩
  have HL1 : Hid (w.heap.size + 1 + 1 + 1 ≤ w1.heap.size) := hide (by have := hb1.size; rw [HS.out] at this; exact this)
  clear hb1 ho1 hg1 hgl1
  have y5 := KA1.out.c 5 _ rfl
  have t4 := KO1.out.c 4 _ rfl
  have ft4 := KO1.out.f 4
  go_wp2_with fail
  have hb1' : Below w.heap.size w (w1.setCell ⟨w.heap.size + 1 + 1, 4, none⟩ (.slice (some ⟨g1, 0, none⟩) n.seen.length n.seen.length)) := HB1.out.setCell (p := ⟨w.heap.size + 1 + 1, 4, none⟩) (by show w.heap.size ≤ w.heap.size + 1 + 1; omega) _
  refine (toPeerS_any _ n.peers _ (w1.setCell ⟨w.heap.size + 1 + 1, 4, none⟩ (.slice (some ⟨g1, 0, none⟩) n.seen.length n.seen.length)) HM.out.2.1 HM.out.2.2 (HL.out.peers.below hb1')).mono ?_
  rintro e w2 ⟨hb2, g2, l', rfl, hd, ho2, ⟨hg2, hgl2⟩, hh2⟩
  have jR := (KR1.out.other 4 (.slice (some ⟨g1, 0, none⟩) n.seen.length n.seen.length) (show w.heap.size + 1 + 1 ≠ w.heap.size + 1 by omega)).below hb2
  have jO := (KO1.out.set 4 (.slice (some ⟨g1, 0, none⟩) n.seen.length n.seen.length) (by simp)).below hb2
  clear y5 t4 ft4
  have t0 := jO.c 0 _ rfl
  have t1 := jO.c 1 _ rfl
  have t2 := jO.c 2 _ rfl
  have t3 := jO.c 3 _ rfl
  have t4 := jO.c 4 _ rfl
  have t5 := jO.c 5 _ rfl
  have ft0 := jO.f 0
  have ft1 := jO.f 1
  have ft2 := jO.f 2
  have ft3 := jO.f 3
  have ft4 := jO.f 4
  have ft5 := jO.f 5
  have u0 := jR.c 0 _ rfl
  have u1 := jR.c 1 _ rfl
  have u2 := jR.c 2 _ rfl
  have u3 := jR.c 3 _ rfl
  have u4 := jR.c 4 _ rfl
  have u5 := jR.c 5 _ rfl
  have fu0 := jR.f 0
  have fu1 := jR.f 1
  have fu2 := jR.f 2
  have fu3 := jR.f 3
  have fu4 := jR.f 4
  have fu5 := jR.f 5

  have hsz : (w1.setCell ⟨w.heap.size + 1 + 1, 4, none⟩ (.slice (some ⟨g1, 0, none⟩) n.seen.length n.seen.length)).heap.size = w1.heap.size := size_setCell _ _ _
  rw [hsz] at hg2 hh2
  have HU1 : Hid (Upper (w.heap.size + 1 + 1 + 1) w1 (((((((w2.setCell ⟨w.heap.size + 1 + 1, 5, none⟩ (.slice (some ⟨g2, 0, none⟩) n.peers.length n.peers.length)).setCell ⟨w.heap.size + 1, 0, none⟩ (.int .i64 n.id)).setCell ⟨w.heap.size + 1, 1, none⟩ (.int .i64 n.has)).setCell ⟨w.heap.size + 1, 2, none⟩ (.int .i64 n.spent)).setCell ⟨w.heap.size + 1, 3, none⟩ (.int .i64 n.earned)).setCell ⟨w.heap.size + 1, 4, none⟩ (.slice (some ⟨g1, 0, none⟩) n.seen.length n.seen.length)).setCell ⟨w.heap.size + 1, 5, none⟩ (.slice (some ⟨g2, 0, none⟩) n.peers.length n.peers.length))) := hide (((((((((((Upper.refl _ _).set (by omega) _).trans (Upper.of hb2)).set (by omega) _).set (by omega) _).set (by omega) _).set (by omega) _).set (by omega) _).set (by omega) _).set (by omega) _))
  have HU2 : Hid (Upper (w.heap.size + 1 + 1 + 1) w2 (((((((w2.setCell ⟨w.heap.size + 1 + 1, 5, none⟩ (.slice (some ⟨g2, 0, none⟩) n.peers.length n.peers.length)).setCell ⟨w.heap.size + 1, 0, none⟩ (.int .i64 n.id)).setCell ⟨w.heap.size + 1, 1, none⟩ (.int .i64 n.has)).setCell ⟨w.heap.size + 1, 2, none⟩ (.int .i64 n.spent)).setCell ⟨w.heap.size + 1, 3, none⟩ (.int .i64 n.earned)).setCell ⟨w.heap.size + 1, 4, none⟩ (.slice (some ⟨g1, 0, none⟩) n.seen.length n.seen.length)).setCell ⟨w.heap.size + 1, 5, none⟩ (.slice (some ⟨g2, 0, none⟩) n.peers.length n.peers.length))) := hide (((((((((Upper.refl _ _).set (by omega) _).set (by omega) _).set (by omega) _).set (by omega) _).set (by omega) _).set (by omega) _).set (by omega) _))
  have HB : Hid (Below w.heap.size w (((((((w2.setCell ⟨w.heap.size + 1 + 1, 5, none⟩ (.slice (some ⟨g2, 0, none⟩) n.peers.length n.peers.length)).setCell ⟨w.heap.size + 1, 0, none⟩ (.int .i64 n.id)).setCell ⟨w.heap.size + 1, 1, none⟩ (.int .i64 n.has)).setCell ⟨w.heap.size + 1, 2, none⟩ (.int .i64 n.spent)).setCell ⟨w.heap.size + 1, 3, none⟩ (.int .i64 n.earned)).setCell ⟨w.heap.size + 1, 4, none⟩ (.slice (some ⟨g1, 0, none⟩) n.seen.length n.seen.length)).setCell ⟨w.heap.size + 1, 5, none⟩ (.slice (some ⟨g2, 0, none⟩) n.peers.length n.peers.length))) := hide (((((((((below_trans hb1' hb2).setCell (p := ⟨w.heap.size + 1 + 1, 5, none⟩) (by show w.heap.size ≤ w.heap.size + 1 + 1; omega) _).setCell (p := ⟨w.heap.size + 1, 0, none⟩) (by show w.heap.size ≤ w.heap.size + 1; omega) _).setCell (p := ⟨w.heap.size + 1, 1, none⟩) (by show w.heap.size ≤ w.heap.size + 1; omega) _).setCell (p := ⟨w.heap.size + 1, 2, none⟩) (by show w.heap.size ≤ w.heap.size + 1; omega) _).setCell (p := ⟨w.heap.size + 1, 3, none⟩) (by show w.heap.size ≤ w.heap.size + 1; omega) _).setCell (p := ⟨w.heap.size + 1, 4, none⟩) (by show w.heap.size ≤ w.heap.size + 1; omega) _).setCell (p := ⟨w.heap.size + 1, 5, none⟩) (by show w.heap.size ≤ w.heap.size + 1; omega) _))
  have HD : Hid _ := hide hd
  have HO2 : Hid _ := hide ho2
  have HG2 : Hid (w1.heap.size ≤ g2) := hide hg2
  have HH2 : Hid (HiP w1.heap.size l') := hide hh2
  clear jR jO ho2 hg2 hb2 hgl2 hb1' hd hh2 hsz
  have HE : Hid (ToNode n w (.returned (.agg #[(.int .i64 n.id), (.int .i64 n.has), (.int .i64 n.spent), (.int .i64 n.earned), (.slice (some ⟨g1, 0, none⟩) n.seen.length n.seen.length), (.slice (some ⟨g2, 0, none⟩) n.peers.length n.peers.length)])) (((((((w2.setCell ⟨w.heap.size + 1 + 1, 5, none⟩ (.slice (some ⟨g2, 0, none⟩) n.peers.length n.peers.length)).setCell ⟨w.heap.size + 1, 0, none⟩ (.int .i64 n.id)).setCell ⟨w.heap.size + 1, 1, none⟩ (.int .i64 n.has)).setCell ⟨w.heap.size + 1, 2, none⟩ (.int .i64 n.spent)).setCell ⟨w.heap.size + 1, 3, none⟩ (.int .i64 n.earned)).setCell ⟨w.heap.size + 1, 4, none⟩ (.slice (some ⟨g1, 0, none⟩) n.seen.length n.seen.length)).setCell ⟨w.heap.size + 1, 5, none⟩ (.slice (some ⟨g2, 0, none⟩) n.peers.length n.peers.length))) := hide ⟨HB.out, g1, g2, l', rfl, HD.out, HO1.out.upper (hi_at HG1.out.1) HU1.out, HO2.out.upper (hi_at (Nat.le_trans HL1.out HG2.out)) (fun p hp => (HH2.out p hp).mono HL1.out) HU2.out, ⟨by have := HG1.out.1; omega, by have := HL1.out; have := HG2.out; omega⟩, fun p hp => (HH2.out p hp).mono (by have := HL1.out; omega)⟩
  go_wp2
  exact bodyPost_ret (v := .agg #[(.int .i64 n.id), (.int .i64 n.has), (.int .i64 n.spent), (.int .i64 n.earned), (.slice (some ⟨g1, 0, none⟩) n.seen.length n.seen.length), (.slice (some ⟨g2, 0, none⟩) n.peers.length n.peers.length)]) (by simp [results, Try.results10, go_sem, u0, u1, u2, u3, u4, u5]) rfl HE.out
end Go.Proofs.Ytpfghmghlklhgaa
