/- The contracts of the laws' toDisk, eqFile, eqDOp, eqFileS, eqDOpS, eqDisk. -/
import Derived.Test.YtacbcmgpknhgdaaGreatDkT2
import Derived.Test.YtacbcmgpknhgdaaGreatDkI1
namespace Go.Proofs.YtacbcmgpknhgdaaGreat
open Go.ChangeShapes Go.WideShapes Go.ChangeAt Go.RowKit
set_option linter.unusedVariables false
set_option maxRecDepth 100000
theorem OwnRow.keepB {A : Type} {sz : Nat} {f : A → List Value} {x y : World} {g : Nat} {a : Option Addr} {cap : Nat} {l : List A} (h : OwnRow sz f x g a cap l) (e : 0 < l.length → y.heap[g]? = x.heap[g]?) : OwnRow sz f y g a cap l := by
  have hgy : 0 < l.length → g < y.heap.size := fun q => by
    have hg := h.lt q
    have e := e q
    rcases Nat.lt_or_ge g y.heap.size with k | k
    · exact k
    · rw [Array.getElem?_eq_none k, Array.getElem?_eq_getElem hg] at e; cases e
  refine ⟨fun i hi => ?_, fun h0 => ⟨(h.own h0).1, fun j => ?_⟩, h.room⟩
  · have h0 : 0 < l.length := by omega
    obtain ⟨b, off, e2, _, hc⟩ := h.rows i hi
    have e3 := e2
    rw [(h.own h0).1] at e2
    simp only [Option.some.injEq, Addr.mk.injEq, and_true] at e2
    obtain ⟨rfl, rfl⟩ := e2
    exact ⟨g, 0, e3, hgy h0, fun r v hv => (World.cell?_of_block (w := x) (e h0)).trans (hc r v hv)⟩
  · exact (World.frozen?_of_block (w := x) (e h0)).trans ((h.own h0).2 j)
theorem set_block (x : World) {g b o : Nat} (v : Value) (h : g ≠ b) : (x.setCell ⟨b, o, none⟩ v).heap[g]? = x.heap[g]? := Below.heap_setCell _ _ _ _ h
/-- a disk's three rows, of the call's own, apart -/
structure OwnD (g1 g2 g3 : Nat) (live safe : List Fl) (ops : List Dp) (x : World) : Prop where
  o1 : OwnRow 2 flCells x g1 (some ⟨g1, 0, none⟩) live.length live
  o2 : OwnRow 2 flCells x g2 (some ⟨g2, 0, none⟩) safe.length safe
  o3 : OwnRow 4 dpCells x g3 (some ⟨g3, 0, none⟩) ops.length ops
  d12 : g1 < g2
  d23 : g2 < g3
  lt : g3 < x.heap.size
theorem OwnD.below {g1 g2 g3 : Nat} {live safe : List Fl} {ops : List Dp} {x y : World} (h : OwnD g1 g2 g3 live safe ops x) (b : Below x.heap.size x y) : OwnD g1 g2 g3 live safe ops y :=
  ⟨h.o1.below b, h.o2.below b, h.o3.below b, h.d12, h.d23, Nat.lt_of_lt_of_le h.lt b.size⟩
theorem OwnD.at {g1 g2 g3 : Nat} {live safe : List Fl} {ops : List Dp} {x : World} (h : OwnD g1 g2 g3 live safe ops x) : DkAt x (some ⟨g1, 0, none⟩) (some ⟨g2, 0, none⟩) (some ⟨g3, 0, none⟩) live safe ops := ⟨h.o1.rows, h.o2.rows, h.o3.rows⟩
def dkV (g1 g2 g3 : Nat) (live safe : List Fl) (ops : List Dp) : Value := .agg #[.slice (some ⟨g1, 0, none⟩) live.length live.length, .slice (some ⟨g2, 0, none⟩) safe.length safe.length, .slice (some ⟨g3, 0, none⟩) ops.length ops.length]
def ToDisk (live safe : List Fl) (ops : List Dp) (w : World) (e : Ending) (w' : World) : Prop := Below w.heap.size w w' ∧ ∃ g1 g2 g3, e = .returned (.agg #[.slice (some ⟨g1, 0, none⟩) live.length live.length, .slice (some ⟨g2, 0, none⟩) safe.length safe.length, .slice (some ⟨g3, 0, none⟩) ops.length ops.length]) ∧ w.heap.size ≤ g1 ∧ OwnD g1 g2 g3 live safe ops w'
set_option maxHeartbeats 8000000 in
theorem toDisk_any (la sa oa : Option Addr) (lc sc oc : Nat) (live safe : List Fl) (ops : List Dp) (w : World) (hs : SmD live safe ops) (h : DkAt w la sa oa live safe ops) :
    Calls Tryz.prog 9 #[.agg #[.slice la live.length lc, .slice sa safe.length sc, .slice oa ops.length oc]] w fun e w' => ToDisk live safe ops w e w' := by
  have HL : Hid _ := hide h
  have HM : Hid _ := hide hs
  clear h hs
  obtain ⟨wa, hwa⟩ : ∃ wa, wa = w.alloc (.cells #[.slice la live.length lc, .slice sa safe.length sc, .slice oa ops.length oc] 25) := ⟨_, rfl⟩
  obtain ⟨wb, hwb⟩ : ∃ wb, wb = wa.alloc (.cells #[.slice none 0 0, .slice none 0 0, .slice none 0 0] 33) := ⟨_, rfl⟩
  obtain ⟨wc, hwc⟩ : ∃ wc, wc = wb.alloc (.cells #[.slice none 0 0, .slice none 0 0, .slice none 0 0] 33) := ⟨_, rfl⟩
  have sa' : wa.heap.size = w.heap.size + 1 := by rw [hwa]; simp
  have sb : wb.heap.size = w.heap.size + 1 + 1 := by rw [hwb]; simp [sa']
  have sc' : wc.heap.size = w.heap.size + 1 + 1 + 1 := by rw [hwc]; simp [sb]
  have kA : Blk w.heap.size [.slice la live.length lc, .slice sa safe.length sc, .slice oa ops.length oc] wc := by rw [hwc, hwb, hwa]; exact (Blk.new.alloc _).alloc _
  have kR : Blk (w.heap.size + 1) [.slice none 0 0, .slice none 0 0, .slice none 0 0] wc := by rw [← sa', hwc, hwb]; exact Blk.new.alloc _
  have kO : Blk (w.heap.size + 1 + 1) [.slice none 0 0, .slice none 0 0, .slice none 0 0] wc := by rw [← sb, hwc]; exact Blk.new
  have b3 : Below w.heap.size w wc := by rw [hwc, hwb, hwa]; exact below_alloc (below_alloc (below_alloc (Below.refl _ _) _) _) _
  have HW : Hid (((w.alloc (.cells #[.slice la live.length lc, .slice sa safe.length sc, .slice oa ops.length oc] 25)).alloc (.cells #[.slice none 0 0, .slice none 0 0, .slice none 0 0] 33)).alloc (.cells #[.slice none 0 0, .slice none 0 0, .slice none 0 0] 33) = wc) := hide (by rw [hwc, hwb, hwa])
  clear hwa hwb hwc sa' sb
  have HB3 : Hid _ := hide b3
  have HS : Hid _ := hide sc'
  have KA : Hid _ := hide kA
  have KR : Hid _ := hide kR
  have KO : Hid _ := hide kO
  clear kA kR kO b3 sc'
  go_enter Tryz.func9, Tryz.ntmps9
  go_wp2_with fail
  rw [HW.out]
  refine (toFileS_any _ live _ wc HM.out.1.1 (HL.out.r1.below HB3.out)).mono ?_
  rintro e w1 ⟨hb1, g1, rfl, ⟨hg1, hgl1⟩, ho1⟩
  have KA1 : Hid _ := hide (KA.out.below hb1)
  have KR1 : Hid _ := hide (KR.out.below hb1)
  have KO1 : Hid _ := hide (KO.out.below hb1)
  have HB1 : Hid _ := hide (below_trans HB3.out hb1)
  have HO1 : Hid _ := hide ho1
  have HG1 : Hid (w.heap.size + 1 + 1 + 1 ≤ g1 ∧ g1 < w1.heap.size) := hide ⟨by rw [HS.out] at hg1; exact hg1, hgl1⟩
  clear hb1 ho1 hg1 hgl1
  have y1 := KA1.out.c 1 _ rfl
  have t0 := KO1.out.c 0 _ rfl
  have ft0 := KO1.out.f 0
  go_wp2_with fail
  have hb1' : Below w.heap.size w (w1.setCell ⟨w.heap.size + 1 + 1, 0, none⟩ (.slice (some ⟨g1, 0, none⟩) live.length live.length)) := HB1.out.setCell (p := ⟨w.heap.size + 1 + 1, 0, none⟩) (by show w.heap.size ≤ w.heap.size + 1 + 1; omega) _
  refine (toFileS_any _ safe _ (w1.setCell ⟨w.heap.size + 1 + 1, 0, none⟩ (.slice (some ⟨g1, 0, none⟩) live.length live.length)) HM.out.2.1.1 (HL.out.r2.below hb1')).mono ?_
  rintro e w2 ⟨hb2, g2, rfl, ⟨hg2, hgl2⟩, ho2⟩
  have hs1 : (w1.setCell ⟨w.heap.size + 1 + 1, 0, none⟩ (.slice (some ⟨g1, 0, none⟩) live.length live.length)).heap.size = w1.heap.size := size_setCell _ _ _
  rw [hs1] at hg2
  have KA2 : Hid _ := hide ((KA1.out.other 0 (.slice (some ⟨g1, 0, none⟩) live.length live.length) (show w.heap.size + 1 + 1 ≠ w.heap.size by omega)).below hb2)
  have KR2 : Hid _ := hide ((KR1.out.other 0 (.slice (some ⟨g1, 0, none⟩) live.length live.length) (show w.heap.size + 1 + 1 ≠ w.heap.size + 1 by omega)).below hb2)
  have KO2 : Hid _ := hide ((KO1.out.set 0 (.slice (some ⟨g1, 0, none⟩) live.length live.length) (by simp)).below hb2)
  have HB2 : Hid _ := hide (below_trans hb1' hb2)
  have HE1 : Hid (w2.heap[g1]? = w1.heap[g1]?) := hide ((hb2.block g1 (by rw [hs1]; exact HG1.out.2)).trans (set_block _ _ (by have := HG1.out.1; omega)))
  have HO2 : Hid _ := hide ho2
  have HG2 : Hid (g1 < g2 ∧ g2 < w2.heap.size ∧ w1.heap.size ≤ w2.heap.size) := hide ⟨Nat.lt_of_lt_of_le HG1.out.2 hg2, hgl2, by have := hb2.size; rw [hs1] at this; exact this⟩
  clear hb2 ho2 hg2 hgl2 hb1' hs1 y1 t0 ft0
  have y2 := KA2.out.c 2 _ rfl
  have t1 := KO2.out.c 1 _ rfl
  have ft1 := KO2.out.f 1
  go_wp2_with fail
  have hb2' : Below w.heap.size w (w2.setCell ⟨w.heap.size + 1 + 1, 1, none⟩ (.slice (some ⟨g2, 0, none⟩) safe.length safe.length)) := HB2.out.setCell (p := ⟨w.heap.size + 1 + 1, 1, none⟩) (by show w.heap.size ≤ w.heap.size + 1 + 1; omega) _
  refine (toDOpS_any _ ops _ (w2.setCell ⟨w.heap.size + 1 + 1, 1, none⟩ (.slice (some ⟨g2, 0, none⟩) safe.length safe.length)) HM.out.2.2.1 (HL.out.r3.below hb2')).mono ?_
  rintro e w3 ⟨hb3, g3, rfl, ⟨hg3, hgl3⟩, ho3⟩
  have hs2 : (w2.setCell ⟨w.heap.size + 1 + 1, 1, none⟩ (.slice (some ⟨g2, 0, none⟩) safe.length safe.length)).heap.size = w2.heap.size := size_setCell _ _ _
  rw [hs2] at hg3
  have jR := (KR2.out.other 1 (.slice (some ⟨g2, 0, none⟩) safe.length safe.length) (show w.heap.size + 1 + 1 ≠ w.heap.size + 1 by omega)).below hb3
  have jO := (KO2.out.set 1 (.slice (some ⟨g2, 0, none⟩) safe.length safe.length) (by simp)).below hb3
  clear y2 t1 ft1
  have t0 := jO.c 0 _ rfl
  have t1 := jO.c 1 _ rfl
  have t2 := jO.c 2 _ rfl
  have ft2 := jO.f 2
  have u0 := jR.c 0 _ rfl
  have u1 := jR.c 1 _ rfl
  have u2 := jR.c 2 _ rfl
  have fu0 := jR.f 0
  have fu1 := jR.f 1
  have fu2 := jR.f 2
  obtain ⟨Y, hY⟩ : ∃ Y, Y = ((((w3.setCell ⟨w.heap.size + 1 + 1, 2, none⟩ (.slice (some ⟨g3, 0, none⟩) ops.length ops.length)).setCell ⟨w.heap.size + 1, 0, none⟩ (.slice (some ⟨g1, 0, none⟩) live.length live.length)).setCell ⟨w.heap.size + 1, 1, none⟩ (.slice (some ⟨g2, 0, none⟩) safe.length safe.length)).setCell ⟨w.heap.size + 1, 2, none⟩ (.slice (some ⟨g3, 0, none⟩) ops.length ops.length)) := ⟨_, rfl⟩
  have eY : ∀ g, w.heap.size + 1 + 1 + 1 ≤ g → Y.heap[g]? = w3.heap[g]? := fun g hg => by
    rw [hY, set_block _ _ (by omega), set_block _ _ (by omega), set_block _ _ (by omega), set_block _ _ (by omega)]
  have sY : Y.heap.size = w3.heap.size := by rw [hY, size_setCell, size_setCell, size_setCell, size_setCell]
  have e2 : w3.heap[g2]? = w2.heap[g2]? := (hb3.block g2 (by rw [hs2]; exact HG2.out.2.1)).trans (set_block _ _ (by have := HG1.out.1; have := HG2.out.1; omega))
  have e1 : w3.heap[g1]? = w1.heap[g1]? := ((hb3.block g1 (by rw [hs2]; have := HG1.out.2; have := HG2.out.2.2; omega)).trans (set_block _ _ (by have := HG1.out.1; omega))).trans HE1.out
  have l1 : w.heap.size + 1 + 1 + 1 ≤ g1 := HG1.out.1
  have l2 : w.heap.size + 1 + 1 + 1 ≤ g2 := by have := HG2.out.1; omega
  have l3 : w.heap.size + 1 + 1 + 1 ≤ g3 := by have := HG2.out.2.1; omega
  have bY : Below w.heap.size w Y := by
    rw [hY]
    exact ((((below_trans hb2' hb3).setCell (p := ⟨w.heap.size + 1 + 1, 2, none⟩) (by show w.heap.size ≤ w.heap.size + 1 + 1; omega) _).setCell (p := ⟨w.heap.size + 1, 0, none⟩) (by show w.heap.size ≤ w.heap.size + 1; omega) _).setCell (p := ⟨w.heap.size + 1, 1, none⟩) (by show w.heap.size ≤ w.heap.size + 1; omega) _).setCell (p := ⟨w.heap.size + 1, 2, none⟩) (by show w.heap.size ≤ w.heap.size + 1; omega) _
  have HE : Hid (ToDisk live safe ops w (.returned (.agg #[.slice (some ⟨g1, 0, none⟩) live.length live.length, .slice (some ⟨g2, 0, none⟩) safe.length safe.length, .slice (some ⟨g3, 0, none⟩) ops.length ops.length])) Y) := hide ⟨bY, g1, g2, g3, rfl, by omega, ⟨HO1.out.keepB (fun _ => (eY g1 l1).trans e1), HO2.out.keepB (fun _ => (eY g2 l2).trans e2), ho3.keepB (fun _ => eY g3 l3), HG2.out.1, Nat.lt_of_lt_of_le HG2.out.2.1 hg3, by rw [sY]; exact hgl3⟩⟩
  have HY : Hid _ := hide hY
  clear jR jO ho3 hg3 hgl3 hb2' hs2 eY sY e1 e2 l1 l2 l3 bY hb3 hY
  go_wp2
  rw [← HY.out]
  have c0 : Y.cell? ⟨w.heap.size + 1, 0, none⟩ = some (.slice (some ⟨g1, 0, none⟩) live.length live.length) := by rw [HY.out, cell_set_other (.inr (by omega)), cell_set_other (.inr (by omega))]; exact cell_set_same (by rw [cell_set_other (.inl (by omega))]; exact u0)
  have c1 : Y.cell? ⟨w.heap.size + 1, 1, none⟩ = some (.slice (some ⟨g2, 0, none⟩) safe.length safe.length) := by rw [HY.out, cell_set_other (.inr (by omega))]; exact cell_set_same (by rw [cell_set_other (.inr (by omega)), cell_set_other (.inl (by omega))]; exact u1)
  have c2 : Y.cell? ⟨w.heap.size + 1, 2, none⟩ = some (.slice (some ⟨g3, 0, none⟩) ops.length ops.length) := by rw [HY.out]; exact cell_set_same (by rw [cell_set_other (.inr (by omega)), cell_set_other (.inr (by omega)), cell_set_other (.inl (by omega))]; exact u2)
  exact bodyPost_ret (v := .agg #[.slice (some ⟨g1, 0, none⟩) live.length live.length, .slice (some ⟨g2, 0, none⟩) safe.length safe.length, .slice (some ⟨g3, 0, none⟩) ops.length ops.length]) (by simp [results, Tryz.results9, go_sem, c0, c1, c2]) rfl HE.out
end Go.Proofs.YtacbcmgpknhgdaaGreat
