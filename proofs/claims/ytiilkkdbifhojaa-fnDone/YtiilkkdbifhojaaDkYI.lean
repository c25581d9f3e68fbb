/- The contract of the program's Sync. -/
import Derived.Test.YtiilkkdbifhojaaDkY0
import Derived.Test.YtiilkkdbifhojaaDkP4
namespace Go.Proofs.Ytiilkkdbifhojaa
open Go.ChangeShapes Go.WideShapes Go.ChangeAt Go.RowKit
set_option linter.unusedVariables false
set_option maxRecDepth 100000
def syncL (live safe : List Fl) (ops : List Dp) : List Fl := bif diskB ⟨live, safe, ops⟩ then live else []
set_option maxHeartbeats 4000000 in
theorem implSync_any (la sa oa : Option Addr) (lc sc oc : Nat) (live safe : List Fl) (ops : List Dp) (w : World) (hm : SmD live safe ops) (hc : la = none → lc = 0) (h : DkAt w la sa oa live safe ops) :
    Calls Try.prog 10 #[.agg #[.slice la live.length lc, .slice sa safe.length sc, .slice oa ops.length oc]] w fun e w' => DiskEnd (syncL live safe ops) (syncL live safe ops) [] w e w' := by
  have HM : Hid _ := hide hm
  have HL : Hid _ := hide h
  have HC : Hid _ := hide hc
  clear hm h hc
  obtain ⟨wa, hwa⟩ : ∃ wa, wa = (w.alloc (.cells #[.slice la live.length lc, .slice sa safe.length sc, .slice oa ops.length oc] 27)).alloc (.cells #[.slice none 0 0, .slice none 0 0, .slice none 0 0] 27) := ⟨_, rfl⟩
  have HW : Hid ((w.alloc (.cells #[.slice la live.length lc, .slice sa safe.length sc, .slice oa ops.length oc] 27)).alloc (.cells #[.slice none 0 0, .slice none 0 0, .slice none 0 0] 27) = wa) := hide hwa.symm
  have KX0 : Hid (Blk w.heap.size [.slice la live.length lc, .slice sa safe.length sc, .slice oa ops.length oc] wa) := hide (by rw [hwa]; exact Blk.new.alloc _)
  have KR0 : Hid (Blk (w.heap.size + 1) [.slice none 0 0, .slice none 0 0, .slice none 0 0] wa) := hide (by rw [hwa]; exact (by simpa using Blk.new (w := w.alloc (.cells #[.slice la live.length lc, .slice sa safe.length sc, .slice oa ops.length oc] 27)) (cur := [.slice none 0 0, .slice none 0 0, .slice none 0 0]) (T := 27)))
  have HX0 : Hid (Below w.heap.size w wa ∧ w.heap.size + 2 ≤ wa.heap.size) := hide ⟨by rw [hwa]; exact below_alloc (below_alloc (Below.refl _ _) _) _, by rw [hwa]; simp⟩
  clear hwa
  go_enter Try.func10, Try.ntmps10
  go_wp2_with fail
  rw [HW.out]
  have hd := HL.out.below HX0.out.1
  refine (implDiskOk_any la sa oa lc sc oc live safe ops wa HM.out.1.1 HM.out.2.1.1 HM.out.2.2.1 HM.out.1.f HM.out.2.1.f HM.out.2.2.2 hd.r1 hd.r2 hd.r3).mono ?_
  rintro e w1 ⟨rfl, hb1⟩
  clear hd
  have HX1 : Hid (Below w.heap.size w w1 ∧ w.heap.size + 2 ≤ w1.heap.size) := hide ⟨below_trans HX0.out.1 hb1, by have := hb1.size; have := HX0.out.2; omega⟩
  have KX1 : Hid _ := hide (KX0.out.below hb1)
  have KR1 : Hid _ := hide (KR0.out.below hb1)
  clear hb1 KX0 KR0
  have x0 := KX1.out.c 0 _ rfl
  have y0 := KR1.out.c 0 _ rfl
  have y1 := KR1.out.c 1 _ rfl
  have y2 := KR1.out.c 2 _ rfl
  have f0 := KR1.out.f 0
  have f1 := KR1.out.f 1
  have f2 := KR1.out.f 2
  cases hB : diskB ⟨live, safe, ops⟩
  · have HE : Hid (DiskEnd (syncL live safe ops) (syncL live safe ops) [] w (.returned (.agg #[.slice none 0 0, .slice none 0 0, .slice none 0 0])) (((w1.setCell ⟨w.heap.size + 1, 0, none⟩ (.slice none 0 0)).setCell ⟨w.heap.size + 1, 1, none⟩ (.slice none 0 0)).setCell ⟨w.heap.size + 1, 2, none⟩ (.slice none 0 0))) := hide (by
      rw [show syncL live safe ops = [] by simp [syncL, hB]]
      exact ⟨((HX1.out.1.setCell (p := ⟨w.heap.size + 1, 0, none⟩) (Nat.le_succ _) _).setCell (p := ⟨w.heap.size + 1, 1, none⟩) (Nat.le_succ _) _).setCell (p := ⟨w.heap.size + 1, 2, none⟩) (Nat.le_succ _) _, none, none, none, 0, 0, 0, 0, 0, 0, rfl, ⟨fun _ => rfl, fun _ => rfl, fun _ => rfl⟩, OwnR.none3⟩)
    have HS : Hid (∃ Y, (((w1.setCell ⟨w.heap.size + 1, 0, none⟩ (.slice none 0 0)).setCell ⟨w.heap.size + 1, 1, none⟩ (.slice none 0 0)).setCell ⟨w.heap.size + 1, 2, none⟩ (.slice none 0 0)) = Y ∧ Blk (w.heap.size + 1) [.slice none 0 0, .slice none 0 0, .slice none 0 0] Y) := hide ⟨_, rfl, (((KR1.out).set 0 (.slice none 0 0) (by simp)).set 1 (.slice none 0 0) (by simp)).set 2 (.slice none 0 0) (by simp)⟩
    go_wp2
    obtain ⟨Y, hY, kY⟩ := HS.out
    rw [hY] at HE ⊢
    have z0 := kY.c 0 _ rfl
    have z1 := kY.c 1 _ rfl
    have z2 := kY.c 2 _ rfl
    exact bodyPost_ret (v := .agg #[.slice none 0 0, .slice none 0 0, .slice none 0 0]) (by simp [results, Try.results10, go_sem, z0, z1, z2]) rfl HE.out
  · clear y0 y1 y2 f0 f1 f2
    go_wp2_with fail
    refine (resting_any la live lc w1 HM.out.1.1 HC.out (HL.out.r1.below HX1.out.1)).mono ?_
    rintro e w2 ⟨hb2, a1, a2, a3, c1, c2, c3, g1, g2, g3, rfl, hn, ho⟩
    have y := KR1.out.below hb2
    have y0 := y.c 0 _ rfl
    have y1 := y.c 1 _ rfl
    have y2 := y.c 2 _ rfl
    have f0 := y.f 0
    have f1 := y.f 1
    have f2 := y.f 2
    have HE : Hid (DiskEnd (syncL live safe ops) (syncL live safe ops) [] w (.returned (.agg #[.slice a1 live.length c1, .slice a2 live.length c2, .slice a3 0 c3])) (((w2.setCell ⟨w.heap.size + 1, 0, none⟩ (.slice a1 live.length c1)).setCell ⟨w.heap.size + 1, 1, none⟩ (.slice a2 live.length c2)).setCell ⟨w.heap.size + 1, 2, none⟩ (.slice a3 0 c3))) := hide (by
      rw [show syncL live safe ops = live by simp [syncL, hB]]
      obtain ⟨Y, hY⟩ : ∃ Y, Y = (((w2.setCell ⟨w.heap.size + 1, 0, none⟩ (.slice a1 live.length c1)).setCell ⟨w.heap.size + 1, 1, none⟩ (.slice a2 live.length c2)).setCell ⟨w.heap.size + 1, 2, none⟩ (.slice a3 0 c3)) := ⟨_, rfl⟩
      rw [← hY]
      have eY : ∀ g, w.heap.size + 2 ≤ g → Y.heap[g]? = w2.heap[g]? := fun g hg => by rw [hY, set_block _ _ (by omega), set_block _ _ (by omega), set_block _ _ (by omega)]
      have sY : Y.heap.size = w2.heap.size := by rw [hY, size_setCell, size_setCell, size_setCell]
      have bY : Below w.heap.size w Y := by
        rw [hY]
        exact (((below_trans HX1.out.1 hb2).setCell (p := ⟨w.heap.size + 1, 0, none⟩) (Nat.le_succ _) _).setCell (p := ⟨w.heap.size + 1, 1, none⟩) (Nat.le_succ _) _).setCell (p := ⟨w.heap.size + 1, 2, none⟩) (Nat.le_succ _) _
      have l1 := HX1.out.2
      exact ⟨bY, a1, a2, a3, c1, c2, c3, g1, g2, g3, rfl, hn, ho.o1.keepB (fun p => eY g1 (by have := ho.i1 p; omega)), ho.o2.keepB (fun p => eY g2 (by have := ho.i2 p; omega)), OwnRow.nil, ho.d12, ho.d13, ho.d23, fun p => by have := ho.i1 p; omega, fun p => by have := ho.i2 p; omega, fun p => by simp at p⟩)
    have HS : Hid (∃ Y, (((w2.setCell ⟨w.heap.size + 1, 0, none⟩ (.slice a1 live.length c1)).setCell ⟨w.heap.size + 1, 1, none⟩ (.slice a2 live.length c2)).setCell ⟨w.heap.size + 1, 2, none⟩ (.slice a3 0 c3)) = Y ∧ Blk (w.heap.size + 1) [.slice a1 live.length c1, .slice a2 live.length c2, .slice a3 0 c3] Y) := hide ⟨_, rfl, (((y).set 0 (.slice a1 live.length c1) (by simp)).set 1 (.slice a2 live.length c2) (by simp)).set 2 (.slice a3 0 c3) (by simp)⟩
    clear y hb2 ho hn
    go_wp2
    obtain ⟨Y, hY, kY⟩ := HS.out
    rw [hY] at HE ⊢
    have z0 := kY.c 0 _ rfl
    have z1 := kY.c 1 _ rfl
    have z2 := kY.c 2 _ rfl
    exact bodyPost_ret (v := .agg #[.slice a1 live.length c1, .slice a2 live.length c2, .slice a3 0 c3]) (by simp [results, Try.results10, go_sem, z0, z1, z2]) rfl HE.out
end Go.Proofs.Ytiilkkdbifhojaa
