/- The contracts of the laws' toFile, toDOp, toFileS, toDOpS, toDisk. -/
import Derived.Test.YtacbcmgpknhgdaaGreatDkT1
namespace Go.Proofs.YtacbcmgpknhgdaaGreat
open Go.ChangeShapes Go.WideShapes Go.ChangeAt Go.RowKit
set_option linter.unusedVariables false
set_option maxRecDepth 100000
theorem infoO : (Tryz.prog.info? 37).map (fun i => (i.zero, i.size, i.bytes)) = some (some (.agg #[.int .i64 0, .string ByteArray.empty, .string ByteArray.empty, .string ByteArray.empty]), 4, 56) := by kernel_rfl
theorem huO : Tryz.prog.underlying 31 = some (.slice 37) := by kernel_rfl
set_option maxHeartbeats 1000000 in
theorem toFile_any (f : Fl) (w : World) :
    Calls Tryz.prog 52 #[.agg #[.string f.nm, .string f.da]] w fun e w' => e = .returned (.agg #[.string f.nm, .string f.da]) ∧ Below w.heap.size w w' := by
  go_enter Tryz.func52, Tryz.ntmps52
  go_wp2
  exact bodyPost_ret (v := .agg #[.string f.nm, .string f.da]) (by simp [results, Tryz.results52, go_sem]) rfl ⟨rfl, below_alloc (below_alloc (below_alloc (Below.refl _ _) _) _) _⟩
set_option maxHeartbeats 1000000 in
theorem toDOp_any (o : Dp) (w : World) :
    Calls Tryz.prog 10 #[.agg #[.int .i64 o.kind, .string o.nm, .string o.tn, .string o.da]] w fun e w' => e = .returned (.agg #[.int .i64 o.kind, .string o.nm, .string o.tn, .string o.da]) ∧ Below w.heap.size w w' := by
  go_enter Tryz.func10, Tryz.ntmps10
  go_wp2
  exact bodyPost_ret (v := .agg #[.int .i64 o.kind, .string o.nm, .string o.tn, .string o.da]) (by simp [results, Tryz.results10, go_sem]) rfl ⟨rfl, below_alloc (below_alloc (below_alloc (Below.refl _ _) _) _) _⟩
/-- a row of the call's own that reads as the list -/
def ToRow {A : Type} (sz : Nat) (f : A → List Value) (l : List A) (w : World) (g : Nat) (w' : World) : Prop := (w.heap.size ≤ g ∧ g < w'.heap.size) ∧ OwnRow sz f w' g (some ⟨g, 0, none⟩) l.length l
theorem ToRow.below {A : Type} {sz : Nat} {f : A → List Value} {l : List A} {w x y : World} {g : Nat} (h : ToRow sz f l w g x) (b : Below x.heap.size x y) : ToRow sz f l w g y := ⟨⟨h.1.1, Nat.lt_of_lt_of_le h.1.2 b.size⟩, h.2.below b⟩
def ToS {A : Type} (sz : Nat) (f : A → List Value) (l : List A) (w : World) (e : Ending) (w' : World) : Prop := Below w.heap.size w w' ∧ ∃ g, e = .returned (.slice (some ⟨g, 0, none⟩) l.length l.length) ∧ ToRow sz f l w g w'
set_option maxHeartbeats 4000000 in
theorem toFileS_any (a : Option Addr) (l : List Fl) (cap : Nat) (w : World) (hn : l.length ≤ 1048576) (h : RowAt 2 flCells w a l) :
    Calls Tryz.prog 26 #[.slice a l.length cap] w fun e w' => ToS 2 flCells l w e w' := by
  obtain ⟨i0, hi, hz0, hz1, hz2⟩ := info_parts infoF
  have HL : Hid _ := hide h
  clear h
  have uS : Tryz.prog.underlying 30 = some (.slice 85) := by kernel_rfl
  go_enter Tryz.func26, Tryz.ntmps26
  go_wp2_with (first | (at_make; refine Shut2.mk ?_) | go_in)
  refine Shut2.mk' ?_
  refine wpList_make_full _ rfl _ _ 30 rfl w.heap.size 85 i0 _ 2 uS hi hz0 hz1 .i64 .i64 _ _ l.length rfl rfl rfl rfl (by rw [hz2]; omega) (by unfold maxLen; omega) (Nat.le_refl _) ?_
  intro w0 hown hgrow
  have HB0 : Hid (Below w.heap.size w w0) := hide ((Below.refl _ _).grown hgrow (Nat.le_refl _) (fun j hj => by cases hj))
  have HM0 : Hid _ := hide (rowMid_made (cells := (fun i => (l[i]?).elim [] flCells)) hown)
  clear hown hgrow
  go_wp2
  go_loopw [4] (fun i wr => ∃ k : Nat, k ≤ l.length ∧ i = .int .i64 (k : Int) ∧ Below w.heap.size w wr ∧ Hid (RowMid w.heap.size l.length 2 (fun i => (l[i]?).elim [] flCells) k wr)) (fun i wr => l.length - (intOf i).toNat)
  case atStart => exact ⟨0, Nat.zero_le _, rfl, HB0.out, HM0⟩
  case round =>
    obtain ⟨k, hk, rfl, HB, HM⟩ := hrel
    by_cases hlt : k < l.length
    · obtain ⟨b, off, rfl, hb, d0, d1⟩ := fl_row (HL.out.below HB) k hlt
      have hlt' : (k : Int) < (l.length : Int) := by omega
      go_wp2_with fail
      refine (toFile_any l[k] wr).mono ?_
      rintro e w1 ⟨rfl, hb1⟩
      have hM1 := HM.out.below hb1
      have HP : Hid _ := hide (((((HM.out.below hb1).put).set hlt (by decide) (v := .string (l[k]).nm) (by simp [List.getElem?_eq_getElem hlt, flCells]) rfl).set hlt (by decide) (v := .string (l[k]).da) (by simp [List.getElem?_eq_getElem hlt, flCells]) rfl)).whole
      have HB1 : Hid _ := hide (below_trans HB hb1)
      obtain ⟨v0, f0⟩ := hM1.there (k * 2 + 0) (by omega)
      obtain ⟨v1, f1⟩ := hM1.there (k * 2 + 1) (by omega)
      have z0 := hM1.free (k * 2 + 0)
      have z1 := hM1.free (k * 2 + 1)
      simp only [Nat.add_zero] at f0 z0
      clear hM1 hb1
      go_wp2
      exact ⟨⟨k + 1, by omega, by go_num, ((HB1.out.setCell (Nat.le_refl _) _).setCell (Nat.le_refl _) _), HP⟩, by simp [intOf]; omega⟩
    · have hk' : ¬ (k : Int) < (l.length : Int) := by omega
      have HE : Hid (ToS 2 flCells l w (.returned (.slice (some ⟨w.heap.size, 0, none⟩) l.length l.length)) wr) := hide (by
        have M := HM.out
        rw [show k = l.length by omega] at M
        have O := own_of_mid flLen M (Nat.le_refl _)
        exact ⟨HB, w.heap.size, rfl, ⟨Nat.le_refl _, M.lt⟩, O⟩)
      go_wp2
      go_ret
      exact HE.out
set_option maxHeartbeats 4000000 in
theorem toDOpS_any (a : Option Addr) (l : List Dp) (cap : Nat) (w : World) (hn : l.length ≤ 1048576) (h : RowAt 4 dpCells w a l) :
    Calls Tryz.prog 27 #[.slice a l.length cap] w fun e w' => ToS 4 dpCells l w e w' := by
  obtain ⟨i0, hi, hz0, hz1, hz2⟩ := info_parts infoO
  have HL : Hid _ := hide h
  clear h
  have uS : Tryz.prog.underlying 31 = some (.slice 37) := by kernel_rfl
  go_enter Tryz.func27, Tryz.ntmps27
  go_wp2_with (first | (at_make; refine Shut2.mk ?_) | go_in)
  refine Shut2.mk' ?_
  refine wpList_make_full _ rfl _ _ 31 rfl w.heap.size 37 i0 _ 4 uS hi hz0 hz1 .i64 .i64 _ _ l.length rfl rfl rfl rfl (by rw [hz2]; omega) (by unfold maxLen; omega) (Nat.le_refl _) ?_
  intro w0 hown hgrow
  have HB0 : Hid (Below w.heap.size w w0) := hide ((Below.refl _ _).grown hgrow (Nat.le_refl _) (fun j hj => by cases hj))
  have HM0 : Hid _ := hide (rowMid_made (cells := (fun i => (l[i]?).elim [] dpCells)) hown)
  clear hown hgrow
  go_wp2
  go_loopw [4] (fun i wr => ∃ k : Nat, k ≤ l.length ∧ i = .int .i64 (k : Int) ∧ Below w.heap.size w wr ∧ Hid (RowMid w.heap.size l.length 4 (fun i => (l[i]?).elim [] dpCells) k wr)) (fun i wr => l.length - (intOf i).toNat)
  case atStart => exact ⟨0, Nat.zero_le _, rfl, HB0.out, HM0⟩
  case round =>
    obtain ⟨k, hk, rfl, HB, HM⟩ := hrel
    by_cases hlt : k < l.length
    · obtain ⟨b, off, rfl, hb, d0, d1, d2, d3⟩ := dp_row (HL.out.below HB) k hlt
      have hlt' : (k : Int) < (l.length : Int) := by omega
      go_wp2_with fail
      refine (toDOp_any l[k] wr).mono ?_
      rintro e w1 ⟨rfl, hb1⟩
      have hM1 := HM.out.below hb1
      have HP : Hid _ := hide (((((((HM.out.below hb1).put).set hlt (by decide) (v := .int .i64 (l[k]).kind) (by simp [List.getElem?_eq_getElem hlt, dpCells]) rfl).set hlt (by decide) (v := .string (l[k]).nm) (by simp [List.getElem?_eq_getElem hlt, dpCells]) rfl).set hlt (by decide) (v := .string (l[k]).tn) (by simp [List.getElem?_eq_getElem hlt, dpCells]) rfl).set hlt (by decide) (v := .string (l[k]).da) (by simp [List.getElem?_eq_getElem hlt, dpCells]) rfl)).whole
      have HB1 : Hid _ := hide (below_trans HB hb1)
      obtain ⟨v0, f0⟩ := hM1.there (k * 4 + 0) (by omega)
      obtain ⟨v1, f1⟩ := hM1.there (k * 4 + 1) (by omega)
      obtain ⟨v2, f2⟩ := hM1.there (k * 4 + 2) (by omega)
      obtain ⟨v3, f3⟩ := hM1.there (k * 4 + 3) (by omega)
      have z0 := hM1.free (k * 4 + 0)
      have z1 := hM1.free (k * 4 + 1)
      have z2 := hM1.free (k * 4 + 2)
      have z3 := hM1.free (k * 4 + 3)
      simp only [Nat.add_zero] at f0 z0
      clear hM1 hb1
      go_wp2
      exact ⟨⟨k + 1, by omega, by go_num, ((((HB1.out.setCell (Nat.le_refl _) _).setCell (Nat.le_refl _) _).setCell (Nat.le_refl _) _).setCell (Nat.le_refl _) _), HP⟩, by simp [intOf]; omega⟩
    · have hk' : ¬ (k : Int) < (l.length : Int) := by omega
      have HE : Hid (ToS 4 dpCells l w (.returned (.slice (some ⟨w.heap.size, 0, none⟩) l.length l.length)) wr) := hide (by
        have M := HM.out
        rw [show k = l.length by omega] at M
        have O := own_of_mid dpLen M (Nat.le_refl _)
        exact ⟨HB, w.heap.size, rfl, ⟨Nat.le_refl _, M.lt⟩, O⟩)
      go_wp2
      go_ret
      exact HE.out
end Go.Proofs.YtacbcmgpknhgdaaGreat
