/- The contracts of the model's l5Copy and Received. -/
import Derived.Test.YtjiiihmpcancbaaRcv
namespace Go.Proofs.Ytjiiihmpcancbaa
open Go.ChangeShapes Go.WideShapes Go.ChangeAt Go.RowKit
set_option linter.unusedVariables false
set_option maxRecDepth 100000 in
set_option maxHeartbeats 20000000 in
theorem l5Copy_any (b off : Nat) (l : List Prc) (cap : Nat) (sent got : Int) (w : World) (hl : l.length ≤ 1048576) (h : RowAt 2 prcCells w (some ⟨b, off, none⟩) l) :
    Calls Try.prog 38 #[.agg #[.slice (some ⟨b, off, none⟩) l.length cap, .int .i64 sent, .int .i64 got]] w fun e w' => EndEnd l sent got w e w' := by
  obtain ⟨i0, hi, hz0, hz1, hz2⟩ := info_parts info34
  have hu27 : Try.prog.underlying 27 = some (.slice 34) := by kernel_rfl
  obtain ⟨wa, hwa⟩ : ∃ wa, wa = w.alloc (.cells #[.slice (some ⟨b, off, none⟩) l.length cap, .int .i64 sent, .int .i64 got] 29) := ⟨_, rfl⟩
  obtain ⟨wb, hwb⟩ : ∃ wb, wb = wa.alloc (.cells #[.slice none 0 0, .int .i64 0, .int .i64 0] 29) := ⟨_, rfl⟩
  have sa : wa.heap.size = w.heap.size + 1 := by rw [hwa]; simp
  have sb : wb.heap.size = w.heap.size + 2 := by rw [hwb]; simp [sa]
  have b1 : Below (w.heap.size + 1) (w.alloc (.cells #[.slice (some ⟨b, off, none⟩) l.length cap, .int .i64 sent, .int .i64 got] 29)) wb := by rw [hwb, ← hwa]; exact (Below.refl _ _).alloc (by omega) _
  have b2 : Below (wa.heap.size + 1) (wa.alloc (.cells #[.slice none 0 0, .int .i64 0, .int .i64 0] 29)) wb := by rw [hwb]; exact Below.refl _ _
  have HN : Hid _ := hide ((h.below (box_old b1)).news prcLen (by decide))
  have HW : Hid ((w.alloc (.cells #[.slice (some ⟨b, off, none⟩) l.length cap, .int .i64 sent, .int .i64 got] 29)).alloc (.cells #[.slice none 0 0, .int .i64 0, .int .i64 0] 29) = wb) := hide (by rw [hwb, hwa])
  obtain ⟨x0, x1, x2⟩ := box3 b1
  obtain ⟨⟨y0, y1, y2⟩, fy⟩ := new_block b2
  rw [sa] at y0 y1 y2 fy
  have fy0 := fy 0
  have fy1 := fy 1
  have fy2 := fy 2
  have HS : Hid _ := hide sb
  have HB : Hid _ := hide (box_old b1)
  clear h hwa hwb sa b1 b2 fy
  go_enter Try.func38, Try.ntmps38
  go_wp2_with fail
  rw [HW.out]
  go_region_law (refine step_append_own rfl (.tmp 3) (.tmp 5) 27 rfl (w.heap.size + 2) 34 i0 _ 2 16 hu27 hi hz0 hz1 hz2 rfl (by decide) (.slice (some ⟨wb.heap.size, 0, none⟩) 0 0) 0 [] (by simp [Act.eval]) (World.ownsRow_made wb #[] 0 (by have := HS.out; omega) (by unfold maxLen; omega) rfl) ⟨b, off, none⟩ l.length cap (l.flatMap prcCells) (by simp [Act.eval]) (flat_len prcCells 2 prcLen l) (fun j u hj => below_keeps ((below_alloc (Below.refl wb.heap.size wb) (.cells #[] 34)).drew) _ _ (HN.out j u hj)) (prc_one l) (by unfold maxLen; omega) (by omega) (by have := HS.out; simp; omega) ?_; intro v' w' ho' hg'; obtain ⟨va', vc', rfl⟩ := row_shape ho'; have HB' : Hid (Below (w.heap.size + 2) wb w') := hide ((((Below.refl (w.heap.size + 2) wb).alloc (by have := HS.out; omega) _).drew).grown hg' (by have := HS.out; simp; omega) (fun k hk => by simp [Value.ownBlock] at hk; have := HS.out; omega)); have HO' : Hid _ := hide ho'; have p1 := (HB'.out.cell (p := ⟨w.heap.size, 1, none⟩) (by show w.heap.size < w.heap.size + 2; omega)).trans x1; have p2 := (HB'.out.cell (p := ⟨w.heap.size, 2, none⟩) (by show w.heap.size < w.heap.size + 2; omega)).trans x2; have g0 := (HB'.out.cell (p := ⟨w.heap.size + 1, 0, none⟩) (by show w.heap.size + 1 < w.heap.size + 2; omega)).trans y0; have g1 := (HB'.out.cell (p := ⟨w.heap.size + 1, 1, none⟩) (by show w.heap.size + 1 < w.heap.size + 2; omega)).trans y1; have g2 := (HB'.out.cell (p := ⟨w.heap.size + 1, 2, none⟩) (by show w.heap.size + 1 < w.heap.size + 2; omega)).trans y2; have e0 := (HB'.out.frozen (p := ⟨w.heap.size + 1, 0, none⟩) (by show w.heap.size + 1 < w.heap.size + 2; omega)).trans fy0; have e1 := (HB'.out.frozen (p := ⟨w.heap.size + 1, 1, none⟩) (by show w.heap.size + 1 < w.heap.size + 2; omega)).trans fy1; have e2 := (HB'.out.frozen (p := ⟨w.heap.size + 1, 2, none⟩) (by show w.heap.size + 1 < w.heap.size + 2; omega)).trans fy2; clear ho' hg')
  all_goals
    have HE : Hid (EndEnd l sent got w (.returned (.agg #[.slice va' (0 + l.length) vc', .int .i64 sent, .int .i64 got])) (((w'.setCell ⟨w.heap.size + 1, 0, none⟩ (.slice va' (0 + l.length) vc')).setCell ⟨w.heap.size + 1, 1, none⟩ (.int .i64 sent)).setCell ⟨w.heap.size + 1, 2, none⟩ (.int .i64 got))) := hide (by
      have ho := HO'.out
      rw [List.nil_append, Nat.zero_add] at ho
      obtain ⟨g, ga, gc, hg, e, hown⟩ := own_of_row prcLen ho
      exact ⟨((((HB.out.trans (HB'.out.mono (by omega))).setCell (by show w.heap.size ≤ w.heap.size + 1; omega) _).setCell (by show w.heap.size ≤ w.heap.size + 1; omega) _).setCell (by show w.heap.size ≤ w.heap.size + 1; omega) _), _, rfl, g, ga, gc, by omega, by rw [Nat.zero_add]; exact e, hown.turned ((((Turned.refl (w.heap.size + 1) w').setCell _).setCell _).setCell _) (fun _ => by omega)⟩)
    simp only [Nat.zero_add] at HE
    go_wp2
    exact bodyPost_ret (v := .agg #[.slice va' l.length vc', .int .i64 sent, .int .i64 got]) (by simp [results, Try.results38, go_sem, g0, g1, g2]) rfl HE.out
end Go.Proofs.Ytjiiihmpcancbaa
