/- The contract of the model's Acked. -/
import Derived.Test.YtkcpoibhlnjldaaBb
namespace Go.Proofs.Ytkcpoibhlnjldaa
open Go.ChangeShapes Go.WideShapes Go.ChangeAt Go.RowKit
set_option linter.unusedVariables false
/-- the end that is built: its block, its row -/
structure AckMid (B : Nat) (W0 : World) (k : Nat) (sent got : Int) (v : Value) (xs : List Value) (x : World) : Prop where
  old : Below B W0 x
  lt : B < x.heap.size
  c0 : x.cell? ⟨B, 0, none⟩ = some v
  c1 : x.cell? ⟨B, 1, none⟩ = some (.int .i64 sent)
  c2 : x.cell? ⟨B, 2, none⟩ = some (.int .i64 got)
  f : ∀ j, x.frozen? ⟨B, j, none⟩ = false
  own : x.ownsRow (B + 1) 61 2 v k xs
theorem ackMid_start (w : World) (sent got : Int) : AckMid w.heap.size w 0 sent got (.slice none 0 0) [] (w.alloc (.cells #[.slice none 0 0, .int .i64 sent, .int .i64 got] 39)) := by
  obtain ⟨⟨y0, y1, y2⟩, fy⟩ := new_block (w := w) (v0 := .slice none 0 0) (v1 := .int .i64 sent) (v2 := .int .i64 got) (T := 39) (Below.refl _ _)
  exact ⟨below_alloc (Below.refl _ _) _, by simp, y0, y1, y2, fy, World.ownsRow_nil _ _ _ _⟩
theorem AckMid.next {B : Nat} {W0 x y : World} {k m : Nat} {sent got : Int} {v v' : Value} {xs ys : List Value} (h : AckMid B W0 k sent got v xs x) (hb : Below (B + 1) x y) (ho : y.ownsRow (B + 1) 61 2 v' m ys) : AckMid B W0 m sent got v' ys (y.setCell ⟨B, 0, none⟩ v') := by
  have hl := h.lt
  have c0 : y.cell? ⟨B, 0, none⟩ = some v := (hb.cell (by show B < B + 1; omega)).trans h.c0
  refine ⟨((h.old).trans (hb.mono (by omega))).setCell (Nat.le_refl _) _, by rw [size_setCell]; exact Nat.lt_of_lt_of_le hl hb.size, cell_set_same c0, ?_, ?_, fun j => ?_, ownsRow_setCell_below ho (by show B < B + 1; omega) _⟩
  · rw [cell_set_other (.inr (by omega))]; exact (hb.cell (by show B < B + 1; omega)).trans h.c1
  · rw [cell_set_other (.inr (by omega))]; exact (hb.cell (by show B < B + 1; omega)).trans h.c2
  · rw [frozen_set]; exact (hb.frozen (by show B < B + 1; omega)).trans (h.f j)
theorem filter_take {l : List Prc} {s : Int} {k : Nat} (hk : k < l.length) : (l.take (k + 1)).filter (fun p => decide (s < p.seq)) = (l.take k).filter (fun p => decide (s < p.seq)) ++ (if s < l[k].seq then [l[k]] else []) := by
  rw [take_next l k hk, List.filter_append]
  congr 1
  by_cases h : s < l[k].seq <;> simp [h]
set_option maxRecDepth 100000 in
set_option maxHeartbeats 20000000 in
theorem specAcked_any (a : Option Addr) (l : List Prc) (cap : Nat) (sent got s : Int) (w : World) (hl : l.length ≤ 1048576) (h : RowAt 2 prcCells w a l) :
    Calls Try.prog 53 #[.agg #[.slice a l.length cap, .int .i64 sent, .int .i64 got], .int .i64 s] w fun e w' => EndFlag (ackE ⟨l, sent, got⟩ s) (ackOk ⟨l, sent, got⟩ s) w e w' := by
  obtain ⟨i0, hi, hz0, hz1, hz2⟩ := info_parts info34
  have hu27 : Try.prog.underlying 37 = some (.slice 61) := by kernel_rfl
  have HC : Hid _ := hide h
  clear h
  have HW : Hid _ := hide (ack_start w (.slice a l.length cap) sent got)
  go_enter Try.func53, Try.ntmps53
  go_wp2_with fail
  refine (specEndOk_any a l cap sent got _ hl (HC.out.below HW.out.old)).mono ?_
  rintro e w1 ⟨rfl, hb1⟩
  have HA1 : Hid _ := hide (HW.out.next hb1)
  clear hb1 HW
  obtain ⟨⟨t0, r0⟩, ⟨t1, r1⟩, ⟨t2, r2⟩⟩ := And.intro (HA1.out.res.c 0 (by omega)) (And.intro (HA1.out.res.c 1 (by omega)) (HA1.out.res.c 2 (by omega)))
  have f0 := HA1.out.res.f 0
  have f1 := HA1.out.res.f 1
  have f2 := HA1.out.res.f 2
  have y1 := HA1.out.e1
  cases q : endB ⟨l, sent, got⟩
  · have HO : Hid (ackOk ⟨l, sent, got⟩ s = false) := hide (by simp [ackOk, q])
    have HE : Hid _ := hide (flag_zero (fl := false) HA1.out.old (w.heap.size + 1) (by omega))
    go_wp2
    refine bodyPost_ret (v := .tuple #[.agg #[.slice none 0 0, .int .i64 0, .int .i64 0], .bool false]) (by simp [results, Try.results53, go_sem, r0, r1, r2]) rfl ?_
    simp only [ackE, HO.out]
    exact HE.out
  · cases q2 : inB 0 sent s
    · have HO : Hid (ackOk ⟨l, sent, got⟩ s = false) := hide (by simp [ackOk, q2])
      have HE : Hid _ := hide (flag_zero (fl := false) HA1.out.old (w.heap.size + 1) (by omega))
      go_wp2_with (first | (go_at_call 47; refine (l1In_any _ _ _ _).mono ?_; rintro e w' ⟨rfl, hw'⟩; have hw'' := hw'.symm; subst hw''))
      refine bodyPost_ret (v := .tuple #[.agg #[.slice none 0 0, .int .i64 0, .int .i64 0], .bool false]) (by simp [results, Try.results53, go_sem, r0, r1, r2]) rfl ?_
      simp only [ackE, HO.out]
      exact HE.out
    · have HO : Hid (ackOk ⟨l, sent, got⟩ s = true) := hide (by simp [ackOk, q, q2])
      have h8 : l.length ≤ 8 := (endB_parts q).1
      have y2 := HA1.out.e2
      have lt0 : w.heap.size < w1.heap.size := by have := HA1.out.lt; omega
      have HM0 : Hid _ := hide (ackMid_start w1 sent got)
      clear q r0 r1 r2 f0 f1 f2
      go_wp2_with (first | (go_at_call 47; refine (l1In_any _ _ _ _).mono ?_; rintro e w' ⟨rfl, hw'⟩; have hw'' := hw'.symm; subst hw''))
      go_loopw [7] (fun i wr => ∃ (k m : Nat) (v : Value), k ≤ l.length ∧ i = .int .i64 (k : Int) ∧ Hid (m = ((l.take k).filter (fun p => decide (s < p.seq))).length) ∧ Hid (AckMid w1.heap.size w1 m sent got v (((l.take k).filter (fun p => decide (s < p.seq))).flatMap prcCells) wr)) (fun i wr => l.length - (intOf i).toNat)
      case atStart => exact ⟨0, 0, _, Nat.zero_le _, rfl, hide (by simp), hide (by simpa using HM0.out)⟩
      case round =>
        obtain ⟨k, m, v, hk, rfl, HML, HM⟩ := hrel
        have HAr : Hid _ := hide (HA1.out.on HA1.out.lt HM.out.old)
        have z0 := HAr.out.e0
        have v0 := HM.out.c0
        have v1 := HM.out.c1
        have v2 := HM.out.c2
        by_cases hlt : k < l.length
        · obtain ⟨b, off, rfl, hb, c0, c1⟩ := prc_row (HC.out.below HAr.out.old) k hlt
          have hlt' : (k : Int) < (l.length : Int) := by omega
          have HFT : Hid _ := hide (filter_take (s := s) hlt)
          by_cases hs : s < (l[k]).seq
          · have HF2 : Hid ((l.take (k + 1)).filter (fun p => decide (s < p.seq)) = (l.take k).filter (fun p => decide (s < p.seq)) ++ [l[k]]) := hide (by rw [HFT.out, if_pos hs])
            obtain ⟨va, vc, rfl⟩ := row_shape HM.out.own
            have fz := HM.out.f 0
            have hwl := HM.out.lt
            have lt1 : w.heap.size < wr.heap.size := by have := HAr.out.lt; omega
            have HM8 : Hid (m ≤ 8) := hide (by rw [HML.out]; have := List.length_filter_le (fun p : Prc => decide (s < p.seq)) (l.take k); have h2 : (l.take k).length ≤ k := by simp; omega
                                               omega)
            have hm8 := HM8.out
            go_wp2_with fail
            go_region_law (refine step_append_own rfl (.tmp 40) (.tmp 46) 37 rfl (w1.heap.size + 1) 61 i0 _ 2 16 hu27 hi hz0 hz1 hz2 rfl (by decide) (.slice va m vc) m (((l.take k).filter (fun p => decide (s < p.seq))).flatMap prcCells) (by simp [Act.eval]) (own_keep HM.out.own ((below_alloc (Below.refl _ _) _).drew)) ⟨wr.heap.size, 0, none⟩ 1 1 [.int .i64 (l[k]).seq, .int .i64 (l[k]).amt] (by simp [Act.eval]) rfl (two_news _ _ _ _) (two_one _ _) (by unfold maxLen; omega) (by omega) (by simp; omega) ?_; intro v' w' ho' hg'; obtain ⟨va', vc', rfl⟩ := row_shape ho'; have HB' : Hid (Below (w1.heap.size + 1) wr w') := hide ((((Below.refl (w1.heap.size + 1) wr).alloc (by omega) _).drew).grown hg' (by simp; omega) (own_base HM.out.own)); have HO' : Hid _ := hide ho'; have g0 := (HB'.out.cell (p := ⟨w1.heap.size, 0, none⟩) (by show w1.heap.size < w1.heap.size + 1; omega)).trans v0; have gz := (HB'.out.frozen (p := ⟨w1.heap.size, 0, none⟩) (by show w1.heap.size < w1.heap.size + 1; omega)).trans fz; clear ho' hg')
            all_goals
              have HM2 : Hid (AckMid w1.heap.size w1 (m + 1) sent got (.slice va' (m + 1) vc') (((l.take (k + 1)).filter (fun p => decide (s < p.seq))).flatMap prcCells) (w'.setCell ⟨w1.heap.size, 0, none⟩ (.slice va' (m + 1) vc'))) := hide (by
                have ho := HO'.out
                refine HM.out.next HB'.out ?_
                rw [HF2.out, List.flatMap_append]
                simpa [prcCells] using ho)
              have HML2 : Hid (m + 1 = ((l.take (k + 1)).filter (fun p => decide (s < p.seq))).length) := hide (by rw [HF2.out, List.length_append, ← HML.out]; rfl)
              clear g0 gz HB' HO'
              go_wp2
              exact ⟨⟨k + 1, m + 1, _, by omega, by go_num, HML2, HM2⟩, by simp [intOf]; omega⟩
          · have HF2 : Hid ((l.take (k + 1)).filter (fun p => decide (s < p.seq)) = (l.take k).filter (fun p => decide (s < p.seq))) := hide (by rw [HFT.out, if_neg hs, List.append_nil])
            have HM2 : Hid (AckMid w1.heap.size w1 m sent got v (((l.take (k + 1)).filter (fun p => decide (s < p.seq))).flatMap prcCells) wr) := hide (by rw [HF2.out]; exact HM.out)
            have HML2 : Hid (m = ((l.take (k + 1)).filter (fun p => decide (s < p.seq))).length) := hide (by rw [HF2.out]; exact HML.out)
            go_wp2
            exact ⟨⟨k + 1, m, _, by omega, by go_num, HML2, HM2⟩, by simp [intOf]; omega⟩
        · have hk' : ¬ (k : Int) < (l.length : Int) := by omega
          obtain ⟨⟨t0, r0⟩, ⟨t1, r1⟩, ⟨t2, r2⟩⟩ := And.intro (HAr.out.res.c 0 (by omega)) (And.intro (HAr.out.res.c 1 (by omega)) (HAr.out.res.c 2 (by omega)))
          have f0 := HAr.out.res.f 0
          have f1 := HAr.out.res.f 1
          have f2 := HAr.out.res.f 2
          have HE : Hid (EndFlag ⟨l.filter (fun p => decide (s < p.seq)), sent, got⟩ true w (.returned (.tuple #[.agg #[v, .int .i64 sent, .int .i64 got], .bool true])) (((wr.setCell ⟨w.heap.size + 1, 0, none⟩ v).setCell ⟨w.heap.size + 1, 1, none⟩ (.int .i64 sent)).setCell ⟨w.heap.size + 1, 2, none⟩ (.int .i64 got))) := hide (by
            have ho := HM.out.own
            rw [HML.out] at ho
            rw [show l.take k = l from List.take_of_length_le (by omega)] at ho
            obtain ⟨g, ga, gc, hg, rfl, hown⟩ := own_of_row prcLen ho
            exact flag_set (E := ⟨l.filter (fun p => decide (s < p.seq)), sent, got⟩) HAr.out.old (w.heap.size + 1) (by omega) g ga gc (by have := HA1.out.lt; omega) rfl hown)
          obtain ⟨va, vc, rfl⟩ := row_shape HM.out.own
          go_wp2
          refine bodyPost_ret (v := .tuple #[.agg #[.slice va m vc, .int .i64 sent, .int .i64 got], .bool true]) (by simp [results, Try.results53, go_sem, r0, r1, r2]) rfl ?_
          have e1 : ackE ⟨l, sent, got⟩ s = ⟨l.filter (fun p => decide (s < p.seq)), sent, got⟩ := if_pos HO.out
          rw [e1, HO.out]
          exact HE.out
end Go.Proofs.Ytkcpoibhlnjldaa
