/- slices.Clone of files, the program's restingDisk. -/
import Derived.Test.YtiilkkdbifhojaaDkK3
import Derived.Test.YtiilkkdbifhojaaDkH
namespace Go.Proofs.Ytiilkkdbifhojaa
open Go.ChangeShapes Go.WideShapes Go.ChangeAt Go.RowKit
set_option linter.unusedVariables false
set_option maxRecDepth 100000
/-- a new disk of the call's own -/
def DiskEnd (L S : List Fl) (O : List Dp) (w : World) (e : Ending) (w' : World) : Prop :=
  Below w.heap.size w w' ∧ ∃ (a1 a2 a3 : Option Addr) (c1 c2 c3 g1 g2 g3 : Nat), e = .returned (.agg #[.slice a1 L.length c1, .slice a2 S.length c2, .slice a3 O.length c3]) ∧ ((a1 = none → c1 = 0) ∧ (a2 = none → c2 = 0) ∧ (a3 = none → c3 = 0)) ∧ OwnR w.heap.size w'.heap.size a1 a2 a3 c1 c2 c3 g1 g2 g3 L S O w'
theorem own_of_row2 {A : Type} {sz : Nat} {f : A → List Value} (hf : ∀ x, (f x).length = sz) {w : World} {base : Nat} {e : TypeId} {v : Value} {l : List A} (h : w.ownsRow base e sz v l.length (l.flatMap f)) : ∃ g a cap, base ≤ g ∧ v = .slice a l.length cap ∧ (a = none → cap = 0) ∧ OwnRow sz f w g a cap l := by
  have h' := h
  obtain ⟨g, a, cap, hg, e1, ho⟩ := own_of_row hf h
  refine ⟨g, a, cap, hg, e1, fun ha => ?_, ho⟩
  obtain ⟨hl, ⟨h0, h1⟩ | ⟨g', cap', cur, h1, _⟩⟩ := h'
  · rw [h0] at e1
    simp only [Value.slice.injEq] at e1
    exact e1.2.2.symm
  · rw [h1, ha] at e1
    simp only [Value.slice.injEq] at e1
    cases e1.1
def NewFs (l : List Fl) (w : World) (e : Ending) (w' : World) : Prop := Below w.heap.size w w' ∧ ∃ g a cap, w.heap.size ≤ g ∧ e = .returned (.slice a l.length cap) ∧ (a = none → cap = 0) ∧ OwnRow 2 flCells w' g a cap l
set_option maxHeartbeats 2000000 in
theorem cloneF_any (a : Option Addr) (l : List Fl) (cap : Nat) (w : World) (hl : l.length ≤ 1048576) (hc : a = none → cap = 0) (h : RowAt 2 flCells w a l) :
    Calls Try.prog 52 #[.slice a l.length cap] w fun e w' => NewFs l w e w' := by
  obtain ⟨i0, hi0, hz0, hz1, hz2⟩ := info_parts infoF
  have hu := huF
  have HN : Hid _ := hide (h.news_any flLen (by decide))
  cases a with
  | none =>
    have e0 : l = [] := List.eq_nil_of_length_eq_zero (row_none h rfl)
    subst e0
    obtain rfl := hc rfl
    clear h
    have he : ∀ w : World, (binOp .eql 24 (.slice none 0 0) (.slice none 0 0)).run Try.prog w = .ok (.bool true) w := fun _ => rfl
    go_enter Try.func52, Try.ntmps52
    go_wp2
    go_ret
    exact ⟨Below.refl _ _, w.heap.size, none, 0, Nat.le_refl _, rfl, fun _ => rfl, OwnRow.nil⟩
  | some ad =>
    clear h
    have he : ∀ w : World, (binOp .eql 24 (.slice (some ad) l.length cap) (.slice none 0 0)).run Try.prog w = .ok (.bool false) w := fun _ => rfl
    go_enter Try.func52, Try.ntmps52
    go_wp2_with (first | (at_builtin; refine Shut2.mk ?_) | go_in)
    refine Shut2.mk' ?_
    refine wpList_append_own_at _ rfl _ _ 24 rfl w.heap.size 52 i0 _ 2 32 hu hi0 hz0 hz1 hz2 rfl (by decide) _ 0 [] rfl ?own ad l.length cap (l.flatMap flCells) rfl (flat_len flCells 2 flLen l) ?news (fl_one l) (by unfold maxLen; omega) (by omega) ?base ?_
    case own => exact World.ownsRow_made w #[] 0 (Nat.le_refl _) (by unfold maxLen; omega) rfl
    case news => exact fun j u hj => (World.grownBy_alloc w _ none).cell (HN.out ad rfl j u hj) (by simp)
    case base => simp
    intro v' w1 hown' hgrow hnil hloc
    have HB : Hid (Below w.heap.size w w1) := hide (below_grown hgrow (below_alloc (Below.refl _ _) _) (fun j hj => by cases hj; exact Nat.le_refl _))
    have HO : Hid _ := hide hown'
    clear hown' hgrow hnil hloc
    go_wp2
    go_ret
    have ho := HO.out
    rw [List.nil_append, Nat.zero_add] at ho
    obtain ⟨g, a, c, k1, rfl, k2, k3⟩ := own_of_row2 flLen ho
    exact ⟨HB.out, g, a, c, k1, rfl, k2, k3⟩
set_option maxHeartbeats 4000000 in
theorem resting_any (a : Option Addr) (l : List Fl) (cap : Nat) (w : World) (hl : l.length ≤ 1048576) (hc : a = none → cap = 0) (h : RowAt 2 flCells w a l) :
    Calls Try.prog 30 #[.slice a l.length cap] w fun e w' => DiskEnd l l [] w e w' := by
  have HL : Hid _ := hide h
  have HC : Hid _ := hide hc
  clear h hc
  have KX0 : Hid (Blk w.heap.size [.slice none 0 0, .slice none 0 0, .slice none 0 0] (w.alloc (.cells #[.slice none 0 0, .slice none 0 0, .slice none 0 0] 27))) := hide Blk.new
  have HX0 : Hid (Below w.heap.size w (w.alloc (.cells #[.slice none 0 0, .slice none 0 0, .slice none 0 0] 27)) ∧ w.heap.size + 1 ≤ (w.alloc (.cells #[.slice none 0 0, .slice none 0 0, .slice none 0 0] 27)).heap.size) := hide ⟨below_alloc (Below.refl _ _) _, by simp⟩
  go_enter Try.func30, Try.ntmps30
  go_wp2_with fail
  generalize w.alloc (.cells #[.slice none 0 0, .slice none 0 0, .slice none 0 0] 27) = wa at *
  refine (cloneF_any a l cap wa hl HC.out (HL.out.below HX0.out.1)).mono ?_
  rintro e w1 ⟨hb1, g1, a1, c1, k1, rfl, n1, o1⟩
  have HX1 : Hid _ := hide (below_trans HX0.out.1 hb1)
  have HB1 : Hid _ := hide hb1
  have KX1 : Hid _ := hide (KX0.out.below hb1)
  have HO1 : Hid (wa.heap.size ≤ g1 ∧ (a1 = none → c1 = 0) ∧ OwnRow 2 flCells w1 g1 a1 c1 l) := hide ⟨k1, n1, o1⟩
  clear hb1 k1 n1 o1 KX0
  go_wp2_with fail
  refine (cloneF_any a l cap w1 hl HC.out (HL.out.below HX1.out)).mono ?_
  rintro e w2 ⟨hb2, g2, a2, c2, k2, rfl, n2, o2⟩
  have y := KX1.out.below hb2
  have y0 := y.c 0 _ rfl
  have y1 := y.c 1 _ rfl
  have y2 := y.c 2 _ rfl
  have f0 := y.f 0
  have f1 := y.f 1
  have f2 := y.f 2
  have HY : Hid _ := hide y
  have HE : Hid (DiskEnd l l [] w (.returned (.agg #[.slice a1 l.length c1, .slice a2 l.length c2, .slice none 0 0])) (((w2.setCell ⟨w.heap.size, 0, none⟩ (.slice a1 l.length c1)).setCell ⟨w.heap.size, 1, none⟩ (.slice a2 l.length c2)).setCell ⟨w.heap.size, 2, none⟩ (.slice none 0 0))) := hide (by
    obtain ⟨Y, hY⟩ : ∃ Y, Y = (((w2.setCell ⟨w.heap.size, 0, none⟩ (.slice a1 l.length c1)).setCell ⟨w.heap.size, 1, none⟩ (.slice a2 l.length c2)).setCell ⟨w.heap.size, 2, none⟩ (.slice none 0 0)) := ⟨_, rfl⟩
    rw [← hY]
    have eY : ∀ g, w.heap.size + 1 ≤ g → Y.heap[g]? = w2.heap[g]? := fun g hg => by rw [hY, set_block _ _ (by omega), set_block _ _ (by omega), set_block _ _ (by omega)]
    have sY : Y.heap.size = w2.heap.size := by rw [hY, size_setCell, size_setCell, size_setCell]
    have bY : Below w.heap.size w Y := by
      rw [hY]
      exact (((below_trans HX1.out hb2).setCell (p := ⟨w.heap.size, 0, none⟩) (Nat.le_refl _) _).setCell (p := ⟨w.heap.size, 1, none⟩) (Nat.le_refl _) _).setCell (p := ⟨w.heap.size, 2, none⟩) (Nat.le_refl _) _
    have l0 := HX0.out.2
    have l1 := HO1.out.1
    have s1 := HB1.out.size
    have s2 := hb2.size
    have r1 : OwnRow 2 flCells Y g1 a1 c1 l := (HO1.out.2.2.below hb2).keepB (fun p => eY g1 (by omega))
    have r2 : OwnRow 2 flCells Y g2 a2 c2 l := o2.keepB (fun p => eY g2 (by omega))
    exact ⟨bY, a1, a2, none, c1, c2, 0, g1, g2, 0, rfl, ⟨HO1.out.2.1, n2, fun _ => rfl⟩, r1, r2, OwnRow.nil, fun p _ => by have := HO1.out.2.2.lt p; omega, fun _ q => by simp at q, fun _ q => by simp at q, fun p => ⟨by omega, r1.lt p⟩, fun p => ⟨by omega, r2.lt p⟩, fun q => by simp at q⟩)
  have HS : Hid (∃ Y, (((w2.setCell ⟨w.heap.size, 0, none⟩ (.slice a1 l.length c1)).setCell ⟨w.heap.size, 1, none⟩ (.slice a2 l.length c2)).setCell ⟨w.heap.size, 2, none⟩ (.slice none 0 0)) = Y ∧ Blk (w.heap.size) [.slice a1 l.length c1, .slice a2 l.length c2, .slice none 0 0] Y) := hide ⟨_, rfl, (((HY.out).set 0 (.slice a1 l.length c1) (by simp)).set 1 (.slice a2 l.length c2) (by simp)).set 2 (.slice none 0 0) (by simp)⟩
  clear y hb2 k2 n2 o2
  go_wp2
  obtain ⟨Y, hY, kY⟩ := HS.out
  rw [hY] at HE ⊢
  have z0 := kY.c 0 _ rfl
  have z1 := kY.c 1 _ rfl
  have z2 := kY.c 2 _ rfl
  exact bodyPost_ret (v := .agg #[.slice a1 l.length c1, .slice a2 l.length c2, .slice none 0 0]) (by simp [results, Try.results30, go_sem, z0, z1, z2]) rfl HE.out
end Go.Proofs.Ytiilkkdbifhojaa
