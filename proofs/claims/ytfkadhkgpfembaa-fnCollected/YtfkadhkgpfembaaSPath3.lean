/- The contracts of the model's l4Path and PathOf. -/
import Derived.Test.YtfkadhkgpfembaaSPath
namespace Go.Proofs.Ytfkadhkgpfembaa
open Go.ChangeShapes Go.WideShapes Go.ChangeAt Go.RowKit
set_option linter.unusedVariables false
/-- the way from a to b -/
def wayL (l : List Slt) (a b : Int) : List Int := wayF l (a.toNat + b.toNat) a b
theorem drop_ext {x y : List Int} {i k : Nat} (hi : i < x.length) (hk : k < y.length) (he : x[i] = y[k]) (h : x.drop (i + 1) = y.drop (k + 1)) : x.drop i = y.drop k := by
  rw [List.drop_eq_getElem_cons hi, List.drop_eq_getElem_cons hk, he, h]
theorem exit_lt {x y : List Int} {r : Int} (hx : x.getLast? = some r) (hy : y.getLast? = some r) {i k : Nat} (hi : i ≤ x.length) (hk : k ≤ y.length) (hd : x.drop i = y.drop k) (he : i = 0 ∨ k = 0 ∨ x[i - 1]? ≠ y[k - 1]?) : i < x.length := by
  have x0 : 0 < x.length := by cases x with | nil => simp at hx | cons => simp
  have y0 : 0 < y.length := by cases y with | nil => simp at hy | cons => simp
  rcases Nat.lt_or_ge i x.length with h | h
  · exact h
  · exfalso
    have e1 : i = x.length := by omega
    have hl := congrArg List.length hd
    simp only [List.length_drop] at hl
    have e2 : k = y.length := by omega
    subst e1 e2
    rw [List.getLast?_eq_getElem?] at hx hy
    rw [hx, hy] at he
    rcases he with he | he | he
    · omega
    · omega
    · exact he rfl
theorem rev_at {y : List Int} {k m : Nat} (hk : k ≤ y.length) (hm : m < k) : ((y.take k).reverse).take (m + 1) = ((y.take k).reverse).take m ++ [y[k - 1 - m]'(by omega)] := by
  rw [List.take_succ_eq_append_getElem (by simp; omega)]
  congr 2
  rw [List.getElem_reverse]
  simp only [List.length_take, List.getElem_take]
  congr 1
  omega
theorem RowAt.take1 {w : World} {a : Option Addr} {l : List Int} (h : RowAt 1 intCells w a l) (k : Nat) : RowAt 1 intCells w a (l.take k) := fun i hi => by
  have hi' : i < l.length := by simp at hi; omega
  have e : (l.take k)[i] = l[i] := by simp
  rw [e]; exact h i hi'
theorem later_cell2 {W : World} {p : Addr} {v : Value} (h : W.cell? p = some v) : ∀ y : Later W, y.w.cell? p = some v := fun y => (y.below.cell (cell_lt h)).trans h
set_option maxRecDepth 100000 in
set_option maxHeartbeats 8000000 in
theorem l4Path_any (a : Option Addr) (l : List Slt) (cap : Nat) (p q : Int) (w : World) (hr : rightsB l = true) (hp : InL l p) (hq : InL l q) (h : SlotAt w a l) :
    Calls Try.prog 26 #[.slice a l.length cap, .int .i64 p, .int .i64 q] w fun e w' => RowEnd (wayL l p q) w e w' := by
  obtain ⟨i0, hinfo, hz0, hz1, hz2⟩ := info_parts info2
  have hu40 : Try.prog.underlying 48 = some (.slice 2) := by kernel_rfl
  have HC : Hid _ := hide h
  have HQ : Hid _ := hide hr
  have hl0 : 0 < l.length := by obtain ⟨i, hi, _⟩ := hp; omega
  have HW : Hid _ := hide (way_is hr (p.toNat + q.toNat) p q hp hq (Nat.le_refl _))
  have HLX : Hid _ := hide (ch_last hr hl0 p.toNat p (Nat.le_refl _) hp)
  have HLY : Hid _ := hide (ch_last hr hl0 q.toNat q (Nat.le_refl _) hq)
  have hlx : (ch l p).length ≤ 1000000000 := by have := ch_len hr p.toNat p (Nat.le_refl _) (.inl hp); have := hp.pos hr; omega
  have hly : (ch l q).length ≤ 1000000000 := by have := ch_len hr q.toNat q (Nat.le_refl _) (.inl hq); have := hq.pos hr; omega
  have HP : Hid _ := hide hp
  have HPQ : Hid _ := hide hq
  clear h hr hp hq
  go_enter Try.func26, Try.ntmps26
  go_wp2_with fail
  refine (l4Up_any a l cap p w HQ.out HP.out HC.out).mono ?_
  rintro e w1 ⟨hb1, v1, rfl, g1, a1, c1, hg1, rfl, ho1⟩
  have HB1 : Hid _ := hide hb1
  have HO1 : Hid _ := hide ho1
  clear hb1 hg1 ho1
  go_wp2_with fail
  refine (l4Up_any a l cap q w1 HQ.out HPQ.out (HC.out.below HB1.out)).mono ?_
  rintro e w2 ⟨hb2, v2, rfl, g2, a2, c2, hg2, rfl, ho2⟩
  have HB2 : Hid _ := hide (below_trans HB1.out hb2)
  have HX2 : Hid _ := hide (HO1.out.below hb2)
  have HY2 : Hid _ := hide ho2
  clear hb2 hg2 ho2 HO1 HB1
  have HWL : Hid (∀ i k, i ≤ (ch l p).length → k ≤ (ch l q).length → (ch l p).drop i = (ch l q).drop k → (i = 0 ∨ k = 0 ∨ (ch l p)[i - 1]? ≠ (ch l q)[k - 1]?) → (ch l p).take (i + 1) ++ ((ch l q).take k).reverse = wayL l p q) := hide HW.out
  clear HW
  generalize ch l p = x at *
  generalize ch l q = y at *
  go_wp2
  go_loopw [9, 10] (fun s9 s10 wr => ∃ i k : Nat, i ≤ x.length ∧ k ≤ y.length ∧ s9 = .int .i64 (i : Int) ∧ s10 = .int .i64 (k : Int) ∧ Hid (x.drop i = y.drop k) ∧ Hid (Below w2.heap.size w2 wr)) (fun s9 s10 wr => (intOf s9).toNat)
  case atStart => exact ⟨x.length, y.length, Nat.le_refl _, Nat.le_refl _, rfl, rfl, hide (by simp), hide (Below.refl _ _)⟩
  case round =>
    obtain ⟨i, k, hi, hk, rfl, rfl, HD, HB⟩ := hrel
    have HGO : Hid (∀ (hex : i = 0 ∨ k = 0 ∨ x[i - 1]? ≠ y[k - 1]?), i < x.length ∧ x.take (i + 1) ++ (y.take k).reverse = wayL l p q) := hide (fun hex => ⟨exit_lt HLX.out HLY.out hi hk HD.out hex, HWL.out i k hi hk HD.out hex⟩)
    have hne : Nonempty (Later wr) := later_there _
    by_cases hi0 : i = 0
    · have HEX : Hid _ := hide (HGO.out (.inl hi0))
      have b0 : decide ((0 : Int) < (i : Int)) = false := by simp; omega
      have b0' : decide (0 < i) = false := by simp; omega
      clear hi0
      go_wp2_with fail
      refine wp_region_later wr (by kernel_rfl) (by kernel_rfl) ((Below.refl _ _).drew) ?_
      repeat (go_big_quiet_step (fail))
      refine wpQuiet_nil ?_
      intro _ hw'
      obtain ⟨nx, rfl⟩ := hw'
      have HB3 : Hid _ := hide (below_trans HB2.out (below_trans HB.out nx.below))
      have HX3 : Hid _ := hide ((HX2.out.below HB.out).below nx.below)
      have HY3 : Hid _ := hide ((HY2.out.below HB.out).below nx.below)
      have hil : i < x.length := HEX.out.1
      have HZ : Hid _ := hide HEX.out.2
      obtain ⟨rfl, _⟩ := HX3.out.own (by omega)
      have hic : (i : Int) + 1 ≤ (c1 : Int) := by have := HX3.out.room; omega
      have hic2 : i + 1 ≤ c1 := by have := HX3.out.room; omega
      have HNX : Hid _ := hide ((RowAt.take1 HX3.out.rows (i + 1)).news intLen (by decide))
      have htl : (x.take (i + 1)).length = i + 1 := by simp; omega
      have HTL : Hid _ := hide htl
      clear htl
      generalize nx.w = w3 at *
      clear nx
      go_wp2_with (first | (at_builtin; refine Shut2.mk ?_) | fail)
      refine Shut2.mk' ?_
      refine wpList_append_own_at _ rfl _ _ 48 rfl w3.heap.size 2 i0 _ 1 8 hu40 hinfo hz0 hz1 hz2 rfl (by decide) (.slice (some ⟨w3.heap.size, 0, none⟩) 0 0) 0 [] rfl ?own ⟨g1, 0, none⟩ (i + 1) c1 ((x.take (i + 1)).flatMap intCells) rfl (by rw [int_flat, HTL.out, Nat.mul_one]) ?news (int_one _) (by unfold maxLen; omega) (by omega) ?base ?_
      case own => exact World.ownsRow_made w3 #[] 0 (Nat.le_refl _) (by unfold maxLen; omega) rfl
      case news => exact fun j u hj => below_keeps (below_alloc (Below.refl w3.heap.size w3) _) _ _ (HNX.out j u hj)
      case base => simp
      intro v4 w4 ho4 hg4 _ _
      have HB4 : Hid (Below w3.heap.size w3 w4) := hide (below_grown hg4 (below_alloc (Below.refl _ _) _) (fun j hj => by simp only [Value.ownBlock, Option.some.injEq] at hj; omega))
      have HO4 : Hid (w4.ownsRow w3.heap.size 2 1 v4 (i + 1 + 0) ((x.take (i + 1) ++ ((y.take k).reverse).take 0).flatMap intCells)) := hide (by simpa using ho4)
      clear ho4 hg4
      go_wp2
      go_loopw [11, 12] (fun s11 s12 wr => ∃ t : Nat, t ≤ k ∧ s12 = .int .i64 ((t : Int) - 1) ∧ Hid (wr.ownsRow w3.heap.size 2 1 s11 (i + 1 + (k - t)) ((x.take (i + 1) ++ ((y.take k).reverse).take (k - t)).flatMap intCells)) ∧ Hid (Below w3.heap.size w3 wr)) (fun s11 s12 wr => (intOf s12 + 1).toNat)
      case atStart => exact ⟨k, Nat.le_refl _, by first | (simp; done) | (have := HKK.out; simp; omega), hide (by rw [Nat.sub_self]; exact HO4.out), HB4⟩
      case round =>
        rename World => wq
        obtain ⟨t, ht, rfl, HO, HBq⟩ := hrel
        cases t with
        | zero =>
          have h0 : ¬ (0 : Int) ≤ ((0 : Nat) : Int) - 1 := by omega
          obtain ⟨va, vc, rfl⟩ := row_shape HO.out
          have HF : Hid (RowEnd (wayL l p q) w (.returned (.slice va (i + 1 + (k - 0)) vc)) wq) := hide (by
            have ho := HO.out
            have e1 : ((y.take k).reverse).take (k - 0) = (y.take k).reverse := List.take_of_length_le (by simp; omega)
            rw [e1, HZ.out] at ho
            have e2 : i + 1 + (k - 0) = (wayL l p q).length := by
              rw [← HZ.out]; simp; omega
            rw [e2] at ho ⊢
            obtain ⟨g, ga, gc, hg, e, hown⟩ := own_of_row intLen ho
            exact ⟨below_trans HB3.out HBq.out, _, rfl, g, ga, gc, Nat.le_trans HB3.out.size hg, e, hown⟩)
          simp only [Nat.sub_zero] at HF
          go_wp2
          go_ret
          exact HF.out
        | succ t =>
          have e0 : ((t + 1 : Nat) : Int) - 1 = (t : Int) := by omega
          rw [e0]
          have hty : (t : Int) < (y.length : Int) := by omega
          obtain ⟨b2, off2, rfl, hb2, d0⟩ := int_row (HY3.out.rows.below HBq.out) t (by omega)
          obtain ⟨va, vc, rfl⟩ := row_shape HO.out
          go_wp2_with (first | (at_builtin; refine Shut2.mk ?_) | fail)
          refine Shut2.mk' ?_
          refine wpList_append_own_at _ rfl _ _ 48 rfl w3.heap.size 2 i0 _ 1 8 hu40 hinfo hz0 hz1 hz2 rfl (by decide) (.slice va (i + 1 + (k - (t + 1))) vc) (i + 1 + (k - (t + 1))) ((x.take (i + 1) ++ ((y.take k).reverse).take (k - (t + 1))).flatMap intCells) rfl ?own ⟨wq.heap.size, 0, none⟩ 1 1 [.int .i64 y[t]] rfl rfl ?news (int_one [y[t]]) (by unfold maxLen; omega) (by omega) ?base ?_
          case own => exact own_keep HO.out (below_alloc (Below.refl _ _) _)
          case news => exact cell_one_new _ _ _
          case base => have := HBq.out.size; simp; omega
          intro v' w' ho' hg' _ _
          have HB' : Hid (Below w3.heap.size w3 w') := hide ((HBq.out.alloc HBq.out.size _).grown hg' (by have := HBq.out.size; simp; omega) (own_base HO.out))
          have HO' : Hid (w'.ownsRow w3.heap.size 2 1 v' (i + 1 + (k - t)) ((x.take (i + 1) ++ ((y.take k).reverse).take (k - t)).flatMap intCells)) := hide (by
            have hm : k - t = (k - (t + 1)) + 1 := by omega
            have hr := rev_at (y := y) (k := k) (m := k - (t + 1)) hk (by omega)
            rw [hm, hr]
            have hidx : y[k - 1 - (k - (t + 1))]'(by omega) = y[t] := by congr 1 <;> omega
            rw [hidx, ← List.append_assoc, List.flatMap_append]
            have : i + 1 + (k - (t + 1) + 1) = i + 1 + (k - (t + 1)) + 1 := by omega
            rw [this]
            simpa [intCells] using ho')
          clear ho' hg'
          go_wp2
          exact ⟨⟨t, by omega, by simp, HO', HB'⟩, by first | (simp [intOf]; done) | (simp [intOf]; omega)⟩
    · have b0 : (0 : Int) < (i : Int) := by omega
      have b0' : 0 < i := by omega
      by_cases hk0 : k = 0
      · have HEX : Hid _ := hide (HGO.out (.inr (.inl hk0)))
        have b1 : decide ((0 : Int) < (k : Int)) = false := by simp; omega
        have b1' : decide (0 < k) = false := by simp; omega
        clear hk0
        go_wp2_with fail
        refine wp_region_later wr (by kernel_rfl) (by kernel_rfl) ((Below.refl _ _).drew) ?_
        repeat (go_big_quiet_step (fail))
        refine wpQuiet_nil ?_
        intro _ hw'
        obtain ⟨nx, rfl⟩ := hw'
        have HB3 : Hid _ := hide (below_trans HB2.out (below_trans HB.out nx.below))
        have HX3 : Hid _ := hide ((HX2.out.below HB.out).below nx.below)
        have HY3 : Hid _ := hide ((HY2.out.below HB.out).below nx.below)
        have hil : i < x.length := HEX.out.1
        have HZ : Hid _ := hide HEX.out.2
        obtain ⟨rfl, _⟩ := HX3.out.own (by omega)
        have hic : (i : Int) + 1 ≤ (c1 : Int) := by have := HX3.out.room; omega
        have hic2 : i + 1 ≤ c1 := by have := HX3.out.room; omega
        have HNX : Hid _ := hide ((RowAt.take1 HX3.out.rows (i + 1)).news intLen (by decide))
        have htl : (x.take (i + 1)).length = i + 1 := by simp; omega
        have HTL : Hid _ := hide htl
        clear htl
        generalize nx.w = w3 at *
        clear nx
        go_wp2_with (first | (at_builtin; refine Shut2.mk ?_) | fail)
        refine Shut2.mk' ?_
        refine wpList_append_own_at _ rfl _ _ 48 rfl w3.heap.size 2 i0 _ 1 8 hu40 hinfo hz0 hz1 hz2 rfl (by decide) (.slice (some ⟨w3.heap.size, 0, none⟩) 0 0) 0 [] rfl ?own ⟨g1, 0, none⟩ (i + 1) c1 ((x.take (i + 1)).flatMap intCells) rfl (by rw [int_flat, HTL.out, Nat.mul_one]) ?news (int_one _) (by unfold maxLen; omega) (by omega) ?base ?_
        case own => exact World.ownsRow_made w3 #[] 0 (Nat.le_refl _) (by unfold maxLen; omega) rfl
        case news => exact fun j u hj => below_keeps (below_alloc (Below.refl w3.heap.size w3) _) _ _ (HNX.out j u hj)
        case base => simp
        intro v4 w4 ho4 hg4 _ _
        have HB4 : Hid (Below w3.heap.size w3 w4) := hide (below_grown hg4 (below_alloc (Below.refl _ _) _) (fun j hj => by simp only [Value.ownBlock, Option.some.injEq] at hj; omega))
        have HO4 : Hid (w4.ownsRow w3.heap.size 2 1 v4 (i + 1 + 0) ((x.take (i + 1) ++ ((y.take k).reverse).take 0).flatMap intCells)) := hide (by simpa using ho4)
        clear ho4 hg4
        go_wp2
        go_loopw [11, 12] (fun s11 s12 wr => ∃ t : Nat, t ≤ k ∧ s12 = .int .i64 ((t : Int) - 1) ∧ Hid (wr.ownsRow w3.heap.size 2 1 s11 (i + 1 + (k - t)) ((x.take (i + 1) ++ ((y.take k).reverse).take (k - t)).flatMap intCells)) ∧ Hid (Below w3.heap.size w3 wr)) (fun s11 s12 wr => (intOf s12 + 1).toNat)
        case atStart => exact ⟨k, Nat.le_refl _, by first | (simp; done) | (have := HKK.out; simp; omega), hide (by rw [Nat.sub_self]; exact HO4.out), HB4⟩
        case round =>
          rename World => wq
          obtain ⟨t, ht, rfl, HO, HBq⟩ := hrel
          cases t with
          | zero =>
            have h0 : ¬ (0 : Int) ≤ ((0 : Nat) : Int) - 1 := by omega
            obtain ⟨va, vc, rfl⟩ := row_shape HO.out
            have HF : Hid (RowEnd (wayL l p q) w (.returned (.slice va (i + 1 + (k - 0)) vc)) wq) := hide (by
              have ho := HO.out
              have e1 : ((y.take k).reverse).take (k - 0) = (y.take k).reverse := List.take_of_length_le (by simp; omega)
              rw [e1, HZ.out] at ho
              have e2 : i + 1 + (k - 0) = (wayL l p q).length := by
                rw [← HZ.out]; simp; omega
              rw [e2] at ho ⊢
              obtain ⟨g, ga, gc, hg, e, hown⟩ := own_of_row intLen ho
              exact ⟨below_trans HB3.out HBq.out, _, rfl, g, ga, gc, Nat.le_trans HB3.out.size hg, e, hown⟩)
            simp only [Nat.sub_zero] at HF
            go_wp2
            go_ret
            exact HF.out
          | succ t =>
            have e0 : ((t + 1 : Nat) : Int) - 1 = (t : Int) := by omega
            rw [e0]
            have hty : (t : Int) < (y.length : Int) := by omega
            obtain ⟨b2, off2, rfl, hb2, d0⟩ := int_row (HY3.out.rows.below HBq.out) t (by omega)
            obtain ⟨va, vc, rfl⟩ := row_shape HO.out
            go_wp2_with (first | (at_builtin; refine Shut2.mk ?_) | fail)
            refine Shut2.mk' ?_
            refine wpList_append_own_at _ rfl _ _ 48 rfl w3.heap.size 2 i0 _ 1 8 hu40 hinfo hz0 hz1 hz2 rfl (by decide) (.slice va (i + 1 + (k - (t + 1))) vc) (i + 1 + (k - (t + 1))) ((x.take (i + 1) ++ ((y.take k).reverse).take (k - (t + 1))).flatMap intCells) rfl ?own ⟨wq.heap.size, 0, none⟩ 1 1 [.int .i64 y[t]] rfl rfl ?news (int_one [y[t]]) (by unfold maxLen; omega) (by omega) ?base ?_
            case own => exact own_keep HO.out (below_alloc (Below.refl _ _) _)
            case news => exact cell_one_new _ _ _
            case base => have := HBq.out.size; simp; omega
            intro v' w' ho' hg' _ _
            have HB' : Hid (Below w3.heap.size w3 w') := hide ((HBq.out.alloc HBq.out.size _).grown hg' (by have := HBq.out.size; simp; omega) (own_base HO.out))
            have HO' : Hid (w'.ownsRow w3.heap.size 2 1 v' (i + 1 + (k - t)) ((x.take (i + 1) ++ ((y.take k).reverse).take (k - t)).flatMap intCells)) := hide (by
              have hm : k - t = (k - (t + 1)) + 1 := by omega
              have hr := rev_at (y := y) (k := k) (m := k - (t + 1)) hk (by omega)
              rw [hm, hr]
              have hidx : y[k - 1 - (k - (t + 1))]'(by omega) = y[t] := by congr 1 <;> omega
              rw [hidx, ← List.append_assoc, List.flatMap_append]
              have : i + 1 + (k - (t + 1) + 1) = i + 1 + (k - (t + 1)) + 1 := by omega
              rw [this]
              simpa [intCells] using ho')
            clear ho' hg'
            go_wp2
            exact ⟨⟨t, by omega, by simp, HO', HB'⟩, by first | (simp [intOf]; done) | (simp [intOf]; omega)⟩
      · obtain ⟨i', hi'⟩ : ∃ i', i = i' + 1 := ⟨i - 1, by omega⟩
        obtain ⟨k', hk'⟩ : ∃ k', k = k' + 1 := ⟨k - 1, by omega⟩
        have hix : i' < x.length := by omega
        have hky : k' < y.length := by omega
        obtain ⟨bx, ox, hax, hbx, dx⟩ := int_row (HX2.out.rows.below HB.out) i' hix
        obtain ⟨by', oy, hay, hby, dy⟩ := int_row (HY2.out.rows.below HB.out) k' hky
        have dx' := later_cell2 dx
        have dy' := later_cell2 dy
        have b1 : (0 : Int) < (k : Int) := by omega
        have b1' : 0 < k := by omega
        have m1 : IntKind.i64.wrap ((i : Int) - 1) = (i' : Int) := by rw [show (i : Int) - 1 = (i' : Int) by omega]; simp only [IntKind.wrap, IntKind.signed, IntKind.bits]; simp; omega
        have m2 : IntKind.i64.wrap ((k : Int) - 1) = (k' : Int) := by rw [show (k : Int) - 1 = (k' : Int) by omega]; simp only [IntKind.wrap, IntKind.signed, IntKind.bits]; simp; omega
        have hix' : (i' : Int) < (x.length : Int) := by omega
        have hky' : (k' : Int) < (y.length : Int) := by omega
        subst hax hay
        cases hq : (x[i'] == y[k'])
        · have HEX : Hid _ := hide (HGO.out (.inr (.inr (by
            rw [show i - 1 = i' by omega, show k - 1 = k' by omega]
            rw [List.getElem?_eq_getElem hix, List.getElem?_eq_getElem hky]
            simpa using hq))))
          have HKK : Hid (k = k' + 1) := hide hk'
          clear dx dy hi' hk' hi0 hk0
          go_wp2_with fail
          refine wp_region_later wr (by kernel_rfl) (by kernel_rfl) ((Below.refl _ _).drew) ?_
          repeat (go_big_quiet_step (fail))
          refine wpQuiet_nil ?_
          intro _ hw'
          obtain ⟨nx, rfl⟩ := hw'
          have HB3 : Hid _ := hide (below_trans HB2.out (below_trans HB.out nx.below))
          have HX3 : Hid _ := hide ((HX2.out.below HB.out).below nx.below)
          have HY3 : Hid _ := hide ((HY2.out.below HB.out).below nx.below)
          have hil : i < x.length := HEX.out.1
          have HZ : Hid _ := hide HEX.out.2
          have hown1 := (HX3.out.own (by omega)).1
          simp only [Option.some.injEq, Addr.mk.injEq, and_true] at hown1
          obtain ⟨hw1a, rfl⟩ := hown1
          have hw1b := hw1a.symm
          subst hw1b
          have hic : (i : Int) + 1 ≤ (c1 : Int) := by have := HX3.out.room; omega
          have hic2 : i + 1 ≤ c1 := by have := HX3.out.room; omega
          have HNX : Hid _ := hide ((RowAt.take1 HX3.out.rows (i + 1)).news intLen (by decide))
          have htl : (x.take (i + 1)).length = i + 1 := by simp; omega
          have HTL : Hid _ := hide htl
          clear htl
          generalize nx.w = w3 at *
          clear nx
          go_wp2_with (first | (at_builtin; refine Shut2.mk ?_) | fail)
          refine Shut2.mk' ?_
          refine wpList_append_own_at _ rfl _ _ 48 rfl w3.heap.size 2 i0 _ 1 8 hu40 hinfo hz0 hz1 hz2 rfl (by decide) (.slice (some ⟨w3.heap.size, 0, none⟩) 0 0) 0 [] rfl ?own ⟨g1, 0, none⟩ (i + 1) c1 ((x.take (i + 1)).flatMap intCells) rfl (by rw [int_flat, HTL.out, Nat.mul_one]) ?news (int_one _) (by unfold maxLen; omega) (by omega) ?base ?_
          case own => exact World.ownsRow_made w3 #[] 0 (Nat.le_refl _) (by unfold maxLen; omega) rfl
          case news => exact fun j u hj => below_keeps (below_alloc (Below.refl w3.heap.size w3) _) _ _ (HNX.out j u hj)
          case base => simp
          intro v4 w4 ho4 hg4 _ _
          have HB4 : Hid (Below w3.heap.size w3 w4) := hide (below_grown hg4 (below_alloc (Below.refl _ _) _) (fun j hj => by simp only [Value.ownBlock, Option.some.injEq] at hj; omega))
          have HO4 : Hid (w4.ownsRow w3.heap.size 2 1 v4 (i + 1 + 0) ((x.take (i + 1) ++ ((y.take k).reverse).take 0).flatMap intCells)) := hide (by simpa using ho4)
          clear ho4 hg4
          go_wp2
          go_loopw [11, 12] (fun s11 s12 wr => ∃ t : Nat, t ≤ k ∧ s12 = .int .i64 ((t : Int) - 1) ∧ Hid (wr.ownsRow w3.heap.size 2 1 s11 (i + 1 + (k - t)) ((x.take (i + 1) ++ ((y.take k).reverse).take (k - t)).flatMap intCells)) ∧ Hid (Below w3.heap.size w3 wr)) (fun s11 s12 wr => (intOf s12 + 1).toNat)
          case atStart => exact ⟨k, Nat.le_refl _, by first | (simp; done) | (have := HKK.out; simp; omega), hide (by rw [Nat.sub_self]; exact HO4.out), HB4⟩
          case round =>
            rename World => wq
            obtain ⟨t, ht, rfl, HO, HBq⟩ := hrel
            cases t with
            | zero =>
              have h0 : ¬ (0 : Int) ≤ ((0 : Nat) : Int) - 1 := by omega
              obtain ⟨va, vc, rfl⟩ := row_shape HO.out
              have HF : Hid (RowEnd (wayL l p q) w (.returned (.slice va (i + 1 + (k - 0)) vc)) wq) := hide (by
                have ho := HO.out
                have e1 : ((y.take k).reverse).take (k - 0) = (y.take k).reverse := List.take_of_length_le (by simp; omega)
                rw [e1, HZ.out] at ho
                have e2 : i + 1 + (k - 0) = (wayL l p q).length := by
                  rw [← HZ.out]; simp; omega
                rw [e2] at ho ⊢
                obtain ⟨g, ga, gc, hg, e, hown⟩ := own_of_row intLen ho
                exact ⟨below_trans HB3.out HBq.out, _, rfl, g, ga, gc, Nat.le_trans HB3.out.size hg, e, hown⟩)
              simp only [Nat.sub_zero] at HF
              go_wp2
              go_ret
              exact HF.out
            | succ t =>
              have e0 : ((t + 1 : Nat) : Int) - 1 = (t : Int) := by omega
              rw [e0]
              have hty : (t : Int) < (y.length : Int) := by omega
              obtain ⟨b2, off2, he2, hb2, d0⟩ := int_row (HY3.out.rows.below HBq.out) t (by omega)
              simp only [Option.some.injEq, Addr.mk.injEq, and_true] at he2
              obtain ⟨rfl, rfl⟩ := he2
              obtain ⟨va, vc, rfl⟩ := row_shape HO.out
              go_wp2_with (first | (at_builtin; refine Shut2.mk ?_) | fail)
              refine Shut2.mk' ?_
              refine wpList_append_own_at _ rfl _ _ 48 rfl w3.heap.size 2 i0 _ 1 8 hu40 hinfo hz0 hz1 hz2 rfl (by decide) (.slice va (i + 1 + (k - (t + 1))) vc) (i + 1 + (k - (t + 1))) ((x.take (i + 1) ++ ((y.take k).reverse).take (k - (t + 1))).flatMap intCells) rfl ?own ⟨wq.heap.size, 0, none⟩ 1 1 [.int .i64 y[t]] rfl rfl ?news (int_one [y[t]]) (by unfold maxLen; omega) (by omega) ?base ?_
              case own => exact own_keep HO.out (below_alloc (Below.refl _ _) _)
              case news => exact cell_one_new _ _ _
              case base => have := HBq.out.size; simp; omega
              intro v' w' ho' hg' _ _
              have HB' : Hid (Below w3.heap.size w3 w') := hide ((HBq.out.alloc HBq.out.size _).grown hg' (by have := HBq.out.size; simp; omega) (own_base HO.out))
              have HO' : Hid (w'.ownsRow w3.heap.size 2 1 v' (i + 1 + (k - t)) ((x.take (i + 1) ++ ((y.take k).reverse).take (k - t)).flatMap intCells)) := hide (by
                have hm : k - t = (k - (t + 1)) + 1 := by omega
                have hr := rev_at (y := y) (k := k) (m := k - (t + 1)) hk (by omega)
                rw [hm, hr]
                have hidx : y[k - 1 - (k - (t + 1))]'(by omega) = y[t] := by congr 1 <;> omega
                rw [hidx, ← List.append_assoc, List.flatMap_append]
                have : i + 1 + (k - (t + 1) + 1) = i + 1 + (k - (t + 1)) + 1 := by omega
                rw [this]
                simpa [intCells] using ho')
              clear ho' hg'
              go_wp2
              exact ⟨⟨t, by omega, by simp, HO', HB'⟩, by first | (simp [intOf]; done) | (simp [intOf]; omega)⟩
        · have HD2 : Hid (x.drop i' = y.drop k') := hide (drop_ext hix hky (by simpa using hq) (by have := HD.out; rwa [hi', hk'] at this))
          have HI1 : Hid (i = i' + 1 ∧ k = k' + 1) := hide ⟨hi', hk'⟩
          clear dx dy hi' hk' hi0 hk0
          go_wp2_with fail
          refine wp_region_later wr (by kernel_rfl) (by kernel_rfl) ((Below.refl _ _).drew) ?_
          repeat (go_big_quiet_step (fail))
          refine wpQuiet_nil ?_
          intro _ hw'
          obtain ⟨nx, rfl⟩ := hw'
          go_wp2
          exact ⟨⟨i', k', by omega, by omega, rfl, rfl, HD2, hide (below_trans HB.out nx.below)⟩, by have := HI1.out; simp [intOf]; omega⟩
end Go.Proofs.Ytfkadhkgpfembaa
