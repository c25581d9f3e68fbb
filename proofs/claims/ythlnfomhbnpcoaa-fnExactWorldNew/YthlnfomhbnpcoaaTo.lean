/- The contracts of the laws' helpers over slots: szSlotS, toSlotS, toMove, eqSlotS, markSlotS, heldSlotS. -/
import Derived.Test.YthlnfomhbnpcoaaOk
import Derived.Test.YthlnfomhbnpcoaaRow
namespace Go.Proofs.Ythlnfomhbnpcoaa
open Go.ChangeShapes Go.WideShapes Go.ChangeAt Go.RowKit
set_option linter.unusedVariables false
def YesEnd (w : World) (e : Ending) (w' : World) : Prop := e = .returned (.bool true) ∧ Below w.heap.size w w'
/-- some number, at most what was left -/
def SzEnd (left : Int) (n : Nat) (w : World) (e : Ending) (w' : World) : Prop := w' = w ∧ ∃ r : Int, e = .returned (.int .i64 r) ∧ -1 ≤ r ∧ (0 ≤ r → r + n ≤ left)
set_option maxHeartbeats 1000000 in
theorem szSlotS_any (a : Option Addr) (l : List Slt) (cap : Nat) (left : Int) (w : World) (hn : l.length ≤ maxLen) (hl : 0 ≤ left ∧ left ≤ 1048576) :
    Calls Try.prog 4 #[.slice a l.length cap, .int .i64 left] w fun e w' => SzEnd left l.length w e w' := by
  obtain ⟨l0, l1⟩ := hl
  unfold maxLen at hn
  by_cases a1 : left - (l.length : Int) < 0
  · go_enter Try.func4, Try.ntmps4
    go_wp2
    go_ret
    exact ⟨rfl, -1, rfl, by omega, fun h => by omega⟩
  · go_enter Try.func4, Try.ntmps4
    go_wp2
    go_ret
    exact ⟨rfl, _, rfl, by omega, fun h => by omega⟩
set_option maxHeartbeats 1000000 in
theorem toSlot_any (x y z : Int) (w : World) :
    Calls Try.prog 15 #[.agg #[.int .i64 x, .int .i64 y, .int .i64 z]] w fun e w' => e = .returned (.agg #[.int .i64 x, .int .i64 y, .int .i64 z]) ∧ Below w.heap.size w w' := by
  go_enter Try.func15, Try.ntmps15
  go_wp2
  exact bodyPost_ret (v := .agg #[.int .i64 x, .int .i64 y, .int .i64 z]) (by simp [results, Try.results15, go_sem]) rfl ⟨rfl, below_alloc (below_alloc (below_alloc (Below.refl _ _) _) _) _⟩
theorem info51 : (Try.prog.info? 40).map (fun i => (i.zero, i.size, i.bytes)) = some (some (.agg #[.int .i64 0, .int .i64 0, .int .i64 0]), 3, 24) := by kernel_rfl
/-- a row of the call's own that reads as the list -/
def ToSlots (l : List Slt) (w : World) (e : Ending) (w' : World) : Prop := Below w.heap.size w w' ∧ ∃ g, (w.heap.size ≤ g ∧ g < w'.heap.size) ∧ e = .returned (.slice (some ⟨g, 0, none⟩) l.length l.length) ∧ OwnRow 3 sltCells w' g (some ⟨g, 0, none⟩) l.length l ∧ SlotAt w' (some ⟨g, 0, none⟩) l
set_option maxRecDepth 100000 in
set_option maxHeartbeats 2000000 in
theorem toSlotS_any (a : Option Addr) (l : List Slt) (cap : Nat) (w : World) (hn : l.length ≤ 1048576) (h : SlotAt w a l) :
    Calls Try.prog 6 #[.slice a l.length cap] w fun e w' => ToSlots l w e w' := by
  obtain ⟨i0, hi, hz0, hz1, hz2⟩ := info_parts info51
  have HL : Hid _ := hide h
  clear h
  have uS : Try.prog.underlying 30 = some (.slice 40) := by kernel_rfl
  go_enter Try.func6, Try.ntmps6
  go_wp2_with (first | (at_make; refine Shut2.mk ?_) | go_in)
  refine Shut2.mk' ?_
  refine wpList_make_full _ rfl _ _ 30 rfl w.heap.size 40 i0 _ 3 uS hi hz0 hz1 .i64 .i64 _ _ l.length rfl rfl rfl rfl (by rw [hz2]; omega) (by unfold maxLen; omega) (Nat.le_refl _) ?_
  intro w0 hown hgrow
  have HB0 : Hid (Below w.heap.size w w0) := hide ((Below.refl _ _).grown hgrow (Nat.le_refl _) (fun j hj => by cases hj))
  have HM0 : Hid _ := hide (rowMid_made (cells := (fun i => (l[i]?).elim [] sltCells)) hown)
  clear hown hgrow
  go_wp2
  go_loopw [4] (fun i wr => ∃ k : Nat, k ≤ l.length ∧ i = .int .i64 (k : Int) ∧ Below w.heap.size w wr ∧ Hid (RowMid w.heap.size l.length 3 (fun i => (l[i]?).elim [] sltCells) k wr)) (fun i wr => l.length - (intOf i).toNat)
  case atStart => exact ⟨0, Nat.zero_le _, rfl, HB0.out, HM0⟩
  case round =>
    obtain ⟨k, hk, rfl, HB, HM⟩ := hrel
    by_cases hlt : k < l.length
    · obtain ⟨b, off, rfl, hb, d0, d1, d2, _⟩ := (HL.out.below HB) k hlt
      have hlt' : (k : Int) < (l.length : Int) := by omega
      go_wp2_with fail
      refine (toSlot_any _ _ _ wr).mono ?_
      rintro e w1 ⟨rfl, hb1⟩
      have hM1 := HM.out.below hb1
      have HP : Hid _ := hide ((((((HM.out.below hb1).put).set hlt (by decide) (v := .int .i64 (l[k]).id) (by simp [List.getElem?_eq_getElem hlt, sltCells]) rfl).set hlt (by decide) (v := .int .i64 (l[k]).up) (by simp [List.getElem?_eq_getElem hlt, sltCells]) rfl).set hlt (by decide) (v := .int .i64 (l[k]).has) (by simp [List.getElem?_eq_getElem hlt, sltCells]) rfl)).whole
      have HB1 : Hid _ := hide (below_trans HB hb1)
      obtain ⟨v0, f0⟩ := hM1.there (k * 3 + 0) (by omega)
      obtain ⟨v1, f1⟩ := hM1.there (k * 3 + 1) (by omega)
      obtain ⟨v2, f2⟩ := hM1.there (k * 3 + 2) (by omega)
      have z0 := hM1.free (k * 3 + 0)
      have z1 := hM1.free (k * 3 + 1)
      have z2 := hM1.free (k * 3 + 2)
      simp only [Nat.add_zero] at f0 z0
      clear hM1 hb1
      go_wp2
      exact ⟨⟨k + 1, by omega, by go_num, (((HB1.out.setCell (Nat.le_refl _) _).setCell (Nat.le_refl _) _).setCell (Nat.le_refl _) _), HP⟩, by simp [intOf]; omega⟩
    · have hk' : ¬ (k : Int) < (l.length : Int) := by omega
      have HE : Hid (ToSlots l w (.returned (.slice (some ⟨w.heap.size, 0, none⟩) l.length l.length)) wr) := hide (by
        have M := HM.out
        rw [show k = l.length by omega] at M
        have O := own_of_mid sltLen M (Nat.le_refl _)
        exact ⟨HB, w.heap.size, ⟨Nat.le_refl _, M.lt⟩, rfl, O, slot_of_row O.rows HL.out.parts⟩)
      go_wp2
      go_ret
      exact HE.out
set_option maxHeartbeats 1000000 in
theorem eqSlot_any (x y z : Int) (w : World) :
    Calls Try.prog 21 #[.agg #[.int .i64 x, .int .i64 y, .int .i64 z], .agg #[.int .i64 x, .int .i64 y, .int .i64 z]] w fun e w' => YesEnd w e w' := by
  have h0 : (x != x) = false := by simp
  have h1 : (y != y) = false := by simp
  have h2 : (z != z) = false := by simp
  go_enter Try.func21, Try.ntmps21
  go_wp2
  go_ret
  exact ⟨rfl, below_alloc (below_alloc (Below.refl _ _) _) _⟩
theorem slt_row {w : World} {a : Option Addr} {l : List Slt} (h : RowAt 3 sltCells w a l) (i : Nat) (hi : i < l.length) : ∃ b off, a = some ⟨b, off, none⟩ ∧ b < w.heap.size ∧ w.cell? ⟨b, off + i * 3, none⟩ = some (.int .i64 l[i].id) ∧ w.cell? ⟨b, off + i * 3 + 1, none⟩ = some (.int .i64 l[i].up) ∧ w.cell? ⟨b, off + i * 3 + 2, none⟩ = some (.int .i64 l[i].has) := by
  obtain ⟨b, off, e, hb, hc⟩ := h i hi
  exact ⟨b, off, e, hb, hc 0 _ rfl, hc 1 _ rfl, hc 2 _ rfl⟩
set_option maxHeartbeats 2000000 in
theorem eqSlotS_any (a c : Option Addr) (l : List Slt) (ca cc : Nat) (w : World) (hn : l.length ≤ 1048576) (h : RowAt 3 sltCells w a l) (h' : RowAt 3 sltCells w c l) :
    Calls Try.prog 9 #[.slice a l.length ca, .slice c l.length cc] w fun e w' => YesEnd w e w' := by
  have HL : Hid _ := hide h
  have HL' : Hid _ := hide h'
  clear h h'
  have hln : ((l.length : Int) != (l.length : Int)) = false := by simp
  go_enter Try.func9, Try.ntmps9
  go_wp2
  go_loopw [5] (fun i wr => ∃ k : Nat, k ≤ l.length ∧ i = .int .i64 (k : Int) ∧ Below w.heap.size w wr) (fun i wr => l.length - (intOf i).toNat)
  case atStart => exact ⟨0, Nat.zero_le _, rfl, Below.refl _ _⟩
  case round =>
    obtain ⟨k, hk, rfl, HB⟩ := hrel
    by_cases hlt : k < l.length
    · obtain ⟨b, off, rfl, hb, d0, d1, d2⟩ := slt_row (HL.out.below HB) k hlt
      obtain ⟨b2, off2, rfl, hc, e0, e1, e2⟩ := slt_row (HL'.out.below HB) k hlt
      have hlt' : (k : Int) < (l.length : Int) := by omega
      have d0' := fun y : Later wr => (y.below.cell hb).trans d0
      have d1' := fun y : Later wr => (y.below.cell hb).trans d1
      have d2' := fun y : Later wr => (y.below.cell hb).trans d2
      have e0' := fun y : Later wr => (y.below.cell hc).trans e0
      have e1' := fun y : Later wr => (y.below.cell hc).trans e1
      have e2' := fun y : Later wr => (y.below.cell hc).trans e2
      clear d0 d1 d2 e0 e1 e2
      have hne : Nonempty (Later wr) := later_there _
      go_wp2_with fail
      refine wp_region_later wr (by kernel_rfl) (by kernel_rfl) ((Below.refl _ _).drew) ?_
      repeat (go_big_quiet_step (first | (go_at_call 21; exact later_of (eqSlot_any _ _ _ _))))
      refine wpQuiet_nil ?_
      intro _ hw'
      obtain ⟨nx, rfl⟩ := hw'
      go_wp2
      exact ⟨⟨k + 1, by omega, by go_num, below_trans HB nx.below⟩, by simp [intOf]; omega⟩
    · have hk' : ¬ (k : Int) < (l.length : Int) := by omega
      go_wp2
      go_ret
      exact ⟨rfl, HB⟩
/-- the list that mark leaves: counted on from q -/
def markL (q : Int) (n : Nat) : List Slt := (List.range n).map fun (i : Nat) => ⟨q + 3 * (i : Int), q + 3 * (i : Int) + 1, q + 3 * (i : Int) + 2⟩
theorem markL_len (q : Int) (n : Nat) : (markL q n).length = n := by simp [markL]
theorem markL_at (q : Int) (n : Nat) (i : Nat) (h : i < n) : (markL q n)[i]? = some ⟨q + 3 * (i : Int), q + 3 * (i : Int) + 1, q + 3 * (i : Int) + 2⟩ := by
  simp [markL, List.getElem?_range h]
theorem markL_get (q : Int) (n : Nat) (i : Nat) (h : i < (markL q n).length) : (markL q n)[i] = ⟨q + 3 * (i : Int), q + 3 * (i : Int) + 1, q + 3 * (i : Int) + 2⟩ := by
  have := markL_at q n i (by simpa [markL_len] using h)
  rw [List.getElem?_eq_getElem h] at this
  simpa using this
def MarkEnd (q : Int) (g : Nat) (a : Option Addr) (cap n : Nat) (w : World) (e : Ending) (w' : World) : Prop := e = .returned (.int .i64 (q + 3 * (n : Int))) ∧ Turned g w w' ∧ OwnRow 3 sltCells w' g a cap (markL q n)
set_option maxRecDepth 100000 in
set_option maxHeartbeats 4000000 in
theorem markSlotS_any (a : Option Addr) (l : List Slt) (cap g : Nat) (q : Int) (w : World) (hn : l.length ≤ 1048576) (hq : 0 ≤ q ∧ q ≤ 1000) (h : OwnRow 3 sltCells w g a cap l) :
    Calls Try.prog 10 #[.slice a l.length cap, .int .i64 q] w fun e w' => MarkEnd q g a cap l.length w e w' := by
  have HL : Hid _ := hide h
  clear h
  obtain ⟨q0, q1⟩ := hq
  by_cases h0 : 0 < l.length
  · have HO : Hid _ := hide (mid_of_own sltLen (by decide) (cells := fun i => ((markL q l.length)[i]?).elim [] sltCells) HL.out h0)
    obtain ⟨rfl, _⟩ := HL.out.own h0
    go_enter Try.func10, Try.ntmps10
    go_wp2
    go_loopw [1, 5] (fun s i wr => ∃ k : Nat, k ≤ l.length ∧ i = .int .i64 (k : Int) ∧ s = .int .i64 (q + 3 * (k : Int)) ∧ Hid (Turned g w wr) ∧ Hid (RowMid g l.length 3 (fun i => ((markL q l.length)[i]?).elim [] sltCells) k wr)) (fun s i wr => l.length - (intOf i).toNat)
    case atStart => exact ⟨0, Nat.zero_le _, rfl, by simp, hide (Turned.refl _ _), HO⟩
    case round =>
      obtain ⟨k, hk, rfl, rfl, HT, HM⟩ := hrel
      by_cases hlt : k < l.length
      · have hlt' : (k : Int) < (l.length : Int) := by omega
        have hM1 := HM.out
        have HP : Hid _ := hide ((((hM1.put).set hlt (by decide) (v := .int .i64 (q + 3 * (k : Int))) (by simp [markL_at q _ k hlt, sltCells]) rfl).set hlt (by decide) (v := .int .i64 (q + 3 * (k : Int) + 1)) (by simp [markL_at q _ k hlt, sltCells]) rfl).set hlt (by decide) (v := .int .i64 (q + 3 * (k : Int) + 2)) (by simp [markL_at q _ k hlt, sltCells]) rfl).whole
        have HT2 : Hid _ := hide (((HT.out.setCell (o := k * 3 + 0) (.int .i64 (q + 3 * (k : Int)))).setCell (o := k * 3 + 1) (.int .i64 (q + 3 * (k : Int) + 1))).setCell (o := k * 3 + 2) (.int .i64 (q + 3 * (k : Int) + 2)))
        obtain ⟨v0, f0⟩ := hM1.there (k * 3 + 0) (by omega)
        obtain ⟨v1, f1⟩ := hM1.there (k * 3 + 1) (by omega)
        obtain ⟨v2, f2⟩ := hM1.there (k * 3 + 2) (by omega)
        have z0 := hM1.free (k * 3 + 0)
        have z1 := hM1.free (k * 3 + 1)
        have z2 := hM1.free (k * 3 + 2)
        simp only [Nat.add_zero] at f0 z0
        clear hM1
        have e2 : q + 3 * (k : Int) + 1 + 1 = q + 3 * (k : Int) + 2 := by omega
        have e3 : q + 3 * (k : Int) + 2 + 1 = q + 3 * ((k + 1 : Nat) : Int) := by omega
        go_wp2
        exact ⟨⟨k + 1, by omega, by go_num, by go_num, HT2, HP⟩, by simp [intOf]; omega⟩
      · have hk' : ¬ (k : Int) < (l.length : Int) := by omega
        have HE : Hid (MarkEnd q g (some ⟨g, 0, none⟩) cap l.length w (.returned (.int .i64 (q + 3 * (k : Int)))) wr) := hide (by
          have M := HM.out
          have ek : k = l.length := by omega
          subst ek
          have O := own_of_mid (l := markL q l.length) sltLen (by rw [markL_len]; exact M) (cap := cap) (by rw [markL_len]; exact HL.out.room)
          exact ⟨rfl, HT.out, O⟩)
        go_wp2
        go_ret
        exact HE.out
  · have hz : l = [] := List.eq_nil_of_length_eq_zero (by omega)
    subst hz
    go_enter Try.func10, Try.ntmps10
    go_wp2
    refine wp_loop_rounds 1 ?_
    rw [rounds_succ]
    go_wp2
    go_ret
    exact ⟨by simp, Turned.refl _ _, OwnRow.nil⟩
theorem mark_row {w : World} {a : Option Addr} {q : Int} {n : Nat} (h : RowAt 3 sltCells w a (markL q n)) (i : Nat) (hi : i < n) : ∃ b off, a = some ⟨b, off, none⟩ ∧ b < w.heap.size ∧ w.cell? ⟨b, off + i * 3, none⟩ = some (.int .i64 (q + 3 * (i : Int))) ∧ w.cell? ⟨b, off + i * 3 + 1, none⟩ = some (.int .i64 (q + 3 * (i : Int) + 1)) ∧ w.cell? ⟨b, off + i * 3 + 2, none⟩ = some (.int .i64 (q + 3 * (i : Int) + 2)) := by
  have hi' : i < (markL q n).length := by rw [markL_len]; exact hi
  have := slt_row h i hi'
  rw [markL_get q n i hi'] at this
  exact this
end Go.Proofs.Ythlnfomhbnpcoaa
