/- The ring's method end: what is open, as a list of its own. -/
import Derived.Test.YtjmkppajfebidaaRing2
namespace Go.Proofs.Ytjmkppajfebidaa
open Go.ChangeShapes Go.WideShapes Go.ChangeAt Go.RowKit
set_option linter.unusedVariables false
/-- the block that is handed back -/
structure ResMid (b : Nat) (x : World) : Prop where
  lt : b < x.heap.size
  c : ∀ j, j < 3 → ∃ v, x.cell? ⟨b, j, none⟩ = some v
  f : ∀ j, x.frozen? ⟨b, j, none⟩ = false
theorem ResMid.keep {b : Nat} {x y : World} (h : ResMid b x) (hb : y.heap[b]? = x.heap[b]?) (hs : x.heap.size ≤ y.heap.size) : ResMid b y :=
  ⟨Nat.lt_of_lt_of_le h.lt hs, fun j hj => by obtain ⟨v, hv⟩ := h.c j hj; exact ⟨v, (World.cell?_of_block hb).trans hv⟩, fun j => (World.frozen?_of_block hb).trans (h.f j)⟩
theorem end_start (w : World) (sent got : Int) : EndMid w 0 sent got (.slice none 0 0) [] ((w.alloc (.cells #[.slice none 0 0, .int .i64 0, .int .i64 0] 26)).alloc (.cells #[.slice none 0 0, .int .i64 sent, .int .i64 got] 26)) ∧ ResMid w.heap.size ((w.alloc (.cells #[.slice none 0 0, .int .i64 0, .int .i64 0] 26)).alloc (.cells #[.slice none 0 0, .int .i64 sent, .int .i64 got] 26)) := by
  obtain ⟨wa, hwa⟩ : ∃ wa, wa = w.alloc (.cells #[.slice none 0 0, .int .i64 0, .int .i64 0] 26) := ⟨_, rfl⟩
  have sa : wa.heap.size = w.heap.size + 1 := by rw [hwa]; simp
  have ba : Below (w.heap.size + 1) (w.alloc (.cells #[.slice none 0 0, .int .i64 0, .int .i64 0] 26)) (wa.alloc (.cells #[.slice none 0 0, .int .i64 sent, .int .i64 got] 26)) := by
    rw [← hwa]; exact (Below.refl _ _).alloc (by omega) _
  rw [← hwa]
  obtain ⟨⟨x0, x1, x2⟩, fx⟩ := new_block ba
  obtain ⟨⟨y0, y1, y2⟩, fy⟩ := new_block (w := wa) (v0 := .slice none 0 0) (v1 := .int .i64 sent) (v2 := .int .i64 got) (T := 26) (Below.refl _ _)
  rw [sa] at y0 y1 y2 fy
  refine ⟨⟨box_old ba, by simp [sa], y0, y1, y2, fy, World.ownsRow_nil _ _ _ _⟩, ⟨by simp [sa]; omega, fun j hj => ?_, fx⟩⟩
  match j, hj with
  | 0, _ => exact ⟨_, x0⟩
  | 1, _ => exact ⟨_, x1⟩
  | 2, _ => exact ⟨_, x2⟩
theorem own_keep {x y : World} {base : Nat} {e : TypeId} {sz : Nat} {v : Value} {n : Nat} {xs : List Value} (h : x.ownsRow base e sz v n xs) (b : Below x.heap.size x y) : y.ownsRow base e sz v n xs := by
  obtain ⟨hl, ⟨h0, h1⟩ | ⟨g, cap, cur, h1, hb, hg, r⟩⟩ := h
  · exact ⟨hl, .inl ⟨h0, h1⟩⟩
  · exact ⟨hl, .inr ⟨g, cap, cur, h1, hb, (b.block g (Array.getElem?_eq_some_iff.1 hg).1).trans hg, r⟩⟩
theorem own_base {x : World} {base : Nat} {e : TypeId} {sz : Nat} {v : Value} {n : Nat} {xs : List Value} (h : x.ownsRow base e sz v n xs) : ∀ g, v.ownBlock = some g → base ≤ g := by
  intro g hg
  obtain ⟨hl, ⟨h0, h1⟩ | ⟨g', cap, cur, h1, hb, _⟩⟩ := h
  · rw [h0] at hg; cases hg
  · rw [h1] at hg
    simp only [Value.ownBlock, Option.some.injEq] at hg
    omega
theorem two_news (w : World) (x y : Value) (t : TypeId) : ∀ j u, [x, y][j]? = some u → (w.alloc (.cells #[x, y] t)).drew.cell? ((⟨w.heap.size, 0, none⟩ : Addr).add j) = some u := by
  intro j u hj
  rw [addr_add, Nat.zero_add]
  show (w.alloc (.cells #[x, y] t)).cell? ⟨w.heap.size, j, none⟩ = some u
  match j, hj with
  | 0, hj => simp at hj; subst hj; exact World.cell?_alloc_at _ _ _ _ rfl
  | 1, hj => simp at hj; subst hj; exact World.cell?_alloc_at _ _ _ _ rfl
theorem two_one (a b : Int) : ∀ u ∈ [Value.int .i64 a, Value.int .i64 b], u.oneCell' = true := fun u hu => by
  simp only [List.mem_cons, List.not_mem_nil, or_false] at hu
  rcases hu with rfl | rfl <;> rfl
theorem EndMid.next {w x y : World} {k : Nat} {sent got : Int} {v v' : Value} {xs ys : List Value} (h : EndMid w k sent got v xs x) (hb : Below (w.heap.size + 2) x y) (ho : y.ownsRow (w.heap.size + 2) 30 2 v' (k + 1) ys) : EndMid w (k + 1) sent got v' ys (y.setCell ⟨w.heap.size + 1, 0, none⟩ v') := by
  have hl := h.lt
  have c0 : y.cell? ⟨w.heap.size + 1, 0, none⟩ = some v := (hb.cell (by show w.heap.size + 1 < w.heap.size + 2; omega)).trans h.c0
  refine ⟨((h.old).trans (hb.mono (by omega))).setCell (by show w.heap.size ≤ w.heap.size + 1; omega) _, by rw [size_setCell]; exact Nat.lt_of_lt_of_le hl hb.size, cell_set_same c0, ?_, ?_, fun j => ?_, ownsRow_setCell_below ho (by show w.heap.size + 1 < w.heap.size + 2; omega) _⟩
  · rw [cell_set_other (.inr (by omega))]; exact (hb.cell (by show w.heap.size + 1 < w.heap.size + 2; omega)).trans h.c1
  · rw [cell_set_other (.inr (by omega))]; exact (hb.cell (by show w.heap.size + 1 < w.heap.size + 2; omega)).trans h.c2
  · rw [frozen_set]; exact (hb.frozen (by show w.heap.size + 1 < w.heap.size + 2; omega)).trans (h.f j)
def EndEnd (l : List Prc) (sent got : Int) (w : World) (e : Ending) (w' : World) : Prop := Below w.heap.size w w' ∧ ∃ v, e = .returned (.agg #[v, .int .i64 sent, .int .i64 got]) ∧ NewRow 2 prcCells l w v w'
set_option maxRecDepth 100000 in
set_option maxHeartbeats 8000000 in
theorem end_any (R : Nat) (acked sent got : Int) (room : List Prc) (w : World) (h : RingAt w R acked sent room) (ha : 0 ≤ acked) (hs : acked ≤ sent ∧ sent ≤ 1000000001) (hn : sent - acked ≤ 8) :
    Calls Try.prog 20 #[.pointer (some ⟨R, 0, none⟩), .int .i64 got] w fun e w' => EndEnd (outL acked sent room) sent got w e w' := by
  obtain ⟨i0, hi, hz0, hz1, hz2⟩ := info_parts info34
  have hu27 : Try.prog.underlying 24 = some (.slice 30) := by kernel_rfl
  obtain ⟨hs0, hs1⟩ := hs
  have HR : Hid _ := hide h
  have hRl := h.lt
  have x16 := h.ack
  have x17 := h.snt
  clear h
  have HS0 : Hid _ := hide (end_start w sent got)
  have hlen := outL_len acked sent room
  have HL : Hid _ := hide hlen
  clear hlen
  go_enter Try.func20, Try.ntmps20
  go_wp2
  go_loopw [6] (fun i wr => ∃ (k : Nat) (v : Value), k ≤ (sent - acked).toNat ∧ i = .int .i64 (acked + 1 + (k : Int)) ∧ Hid (EndMid w k sent got v (((outL acked sent room).take k).flatMap prcCells) wr) ∧ Hid (ResMid w.heap.size wr)) (fun i wr => ((sent + 1) - intOf i).toNat)
  case atStart => exact ⟨0, _, Nat.zero_le _, by simp, hide (by simpa using HS0.out.1), hide HS0.out.2⟩
  case round =>
    obtain ⟨k, v, hk, rfl, HM, HRes⟩ := hrel
    have y17 : wr.cell? ⟨R, 17, none⟩ = some (.int .i64 sent) := (HM.out.old.cell hRl).trans x17
    have y0 := HM.out.c0
    have y1 := HM.out.c1
    have y2 := HM.out.c2
    by_cases hlt : k < (sent - acked).toNat
    · have hle : acked + 1 + (k : Int) ≤ sent := by omega
      have hqe := plc_eq (s := acked + 1 + (k : Int)) (by omega)
      have hq8 := plc_lt (acked + 1 + (k : Int))
      have HTK : Hid _ := hide (outL_at acked sent room k hlt)
      have hRw := HR.out.below HM.out.old
      obtain ⟨c0, c1⟩ := hRw.place (plc (acked + 1 + (k : Int))) (by rw [hRw.len]; exact hq8)
      have hgd : (room[plc (acked + 1 + (k : Int))]?).getD ⟨0, 0⟩ = room[plc (acked + 1 + (k : Int))]'(by rw [hRw.len]; exact hq8) := by
        rw [List.getElem?_eq_getElem (by rw [hRw.len]; exact hq8)]; rfl
      obtain ⟨p, hp⟩ : ∃ p, p = (room[plc (acked + 1 + (k : Int))]?).getD ⟨0, 0⟩ := ⟨_, rfl⟩
      rw [← hgd, ← hp] at c0 c1
      rw [← hp] at HTK
      clear hgd hp
      obtain ⟨va, vc, rfl⟩ := row_shape HM.out.own
      have fz := HM.out.f 0
      have hwl := HM.out.lt
      have HWL : Hid (w.heap.size + 1 < wr.heap.size) := hide HM.out.lt
      have hq8' : ((plc (acked + 1 + (k : Int)) : Nat) : Int) < 8 := by omega
      generalize plc (acked + 1 + (k : Int)) = qn at *
      go_wp2_with fail
      go_region_law (refine step_append_own rfl (.tmp 27) (.tmp 35) 24 rfl (w.heap.size + 2) 30 i0 _ 2 16 hu27 hi hz0 hz1 hz2 rfl (by decide) (.slice va k vc) k (((outL acked sent room).take k).flatMap prcCells) (by simp [Act.eval]) (own_keep HM.out.own ((below_alloc (Below.refl _ _) _).drew)) ⟨wr.heap.size, 0, none⟩ 1 1 [.int .i64 p.seq, .int .i64 p.amt] (by simp [Act.eval]) rfl (two_news _ _ _ _) (two_one _ _) (by unfold maxLen; omega) (by omega) (by have := HWL.out; simp; omega) ?_; intro v' w' ho' hg'; obtain ⟨va', vc', rfl⟩ := row_shape ho'; have HB' : Hid (Below (w.heap.size + 2) wr w') := hide ((((Below.refl (w.heap.size + 2) wr).alloc (by have := HWL.out; omega) _).drew).grown hg' (by have := HWL.out; simp; omega) (own_base HM.out.own)); have HO' : Hid _ := hide ho'; have g0 := (HB'.out.cell (p := ⟨w.heap.size + 1, 0, none⟩) (by show w.heap.size + 1 < w.heap.size + 2; omega)).trans y0; have gz := (HB'.out.frozen (p := ⟨w.heap.size + 1, 0, none⟩) (by show w.heap.size + 1 < w.heap.size + 2; omega)).trans fz; clear ho' hg')
      all_goals
        have HM2 : Hid (EndMid w (k + 1) sent got (.slice va' (k + 1) vc') (((outL acked sent room).take (k + 1)).flatMap prcCells) (w'.setCell ⟨w.heap.size + 1, 0, none⟩ (.slice va' (k + 1) vc'))) := hide (by
          have ho := HO'.out
          refine HM.out.next HB'.out ?_
          rw [HTK.out, List.flatMap_append]
          simpa [prcCells] using ho)
        have HR2 : Hid (ResMid w.heap.size (w'.setCell ⟨w.heap.size + 1, 0, none⟩ (.slice va' (k + 1) vc'))) := hide (HRes.out.keep ((Below.heap_setCell _ _ _ _ (by show w.heap.size ≠ w.heap.size + 1; omega)).trans (HB'.out.block _ (by omega))) (by rw [size_setCell]; exact HB'.out.size))
        clear g0 gz HB' HO'
        go_wp2
        exact ⟨⟨k + 1, _, by omega, by simp; omega, HM2, HR2⟩, by simp [intOf]; omega⟩
    · have hle : ¬ acked + 1 + (k : Int) ≤ sent := by omega
      obtain ⟨⟨t0, r0⟩, ⟨t1, r1⟩, ⟨t2, r2⟩⟩ := And.intro (HRes.out.c 0 (by omega)) (And.intro (HRes.out.c 1 (by omega)) (HRes.out.c 2 (by omega)))
      have f0 := HRes.out.f 0
      have f1 := HRes.out.f 1
      have f2 := HRes.out.f 2
      have ek : k = (sent - acked).toNat := by omega
      have HE : Hid (EndEnd (outL acked sent room) sent got w (.returned (.agg #[v, .int .i64 sent, .int .i64 got])) (((wr.setCell ⟨w.heap.size, 0, none⟩ v).setCell ⟨w.heap.size, 1, none⟩ (.int .i64 sent)).setCell ⟨w.heap.size, 2, none⟩ (.int .i64 got))) := hide (by
        have ho := HM.out.own
        have e1 : (outL acked sent room).take k = outL acked sent room := List.take_of_length_le (by rw [HL.out]; omega)
        rw [e1, show k = (outL acked sent room).length by rw [HL.out]; exact ek] at ho
        obtain ⟨g, ga, gc, hg, rfl, hown⟩ := own_of_row prcLen ho
        exact ⟨((HM.out.old.setCell (Nat.le_refl _) _).setCell (Nat.le_refl _) _).setCell (Nat.le_refl _) _, _, rfl, g, ga, gc, by omega, rfl, hown.turned ((((Turned.refl w.heap.size wr).setCell _).setCell _).setCell _) (fun _ => by omega)⟩)
      obtain ⟨va, vc, rfl⟩ := row_shape HM.out.own
      clear ek
      go_wp2
      exact bodyPost_ret (v := .agg #[.slice va k vc, .int .i64 sent, .int .i64 got]) (by simp [results, Try.results20, go_sem, r0, r1, r2]) rfl HE.out
end Go.Proofs.Ytjmkppajfebidaa
