/- The contracts of FreeOf, of the model and of the program. -/
import Derived.Test.YtjjoeajnhblacaaGreatDoorOf
import Derived.Test.YtjjoeajnhblacaaGreatDoorSOk2
namespace Go.Proofs.YtjjoeajnhblacaaGreatDoor
open Go.ChangeShapes Go.WideShapes Go.ChangeAt Go.RowKit Go.Maps
set_option maxRecDepth 100000
set_option linter.unusedVariables false
def freeX (L : Led) (nm : ByteArray) (x : Acc) : Int := if x.limit < 0 then 1000000000000 else min 1000000000000 (x.posted - heldL nm L.hold + x.limit)
def freeO (L : Led) (nm : ByteArray) : Int := if ledS L = true then (match idxA L.acc nm with
  | some i => (match L.acc[i]? with
    | some x => freeX L nm x
    | none => -1)
  | none => -1) else -1
theorem freeO_at {L : Led} {nm : ByteArray} {i : Nat} (q1 : ledS L = true) (q2 : idxA L.acc nm = some i) (hi : i < L.acc.length) : freeO L nm = freeX L nm L.acc[i] := by
  simp [freeO, q1, q2, List.getElem?_eq_getElem hi]
def S9 (A : Nat) (lim pst : Value) (W0 x : World) : Prop := x.cell? ⟨A, 3, none⟩ = some pst ∧ x.cell? ⟨A, 2, none⟩ = some lim ∧ Hid (Below W0.heap.size W0 x)
theorem S9.of {A : Nat} {lim pst : Value} {W0 x : World} (h3 : W0.cell? ⟨A, 3, none⟩ = some pst) (h2 : W0.cell? ⟨A, 2, none⟩ = some lim) (b : Below W0.heap.size W0 x) : S9 A lim pst W0 x := ⟨below_keeps b _ _ h3, below_keeps b _ _ h2, hide b⟩
theorem S9.on {A : Nat} {lim pst : Value} {W0 x y : World} (h : S9 A lim pst W0 x) (b : Below x.heap.size x y) : S9 A lim pst W0 y := ⟨below_keeps b _ _ h.1, below_keeps b _ _ h.2.1, hide (below_trans h.2.2.out b)⟩
def S7 (A B : Nat) (lim pst va vh vs : Value) (W0 x : World) : Prop := x.cell? ⟨A, 3, none⟩ = some pst ∧ x.cell? ⟨A, 2, none⟩ = some lim ∧ x.cell? ⟨B, 0, none⟩ = some va ∧ x.cell? ⟨B, 1, none⟩ = some vh ∧ x.cell? ⟨B, 2, none⟩ = some vs ∧ Hid (Below W0.heap.size W0 x)
theorem S7.of {A B : Nat} {lim pst va vh vs : Value} {W0 x : World} (h3 : W0.cell? ⟨A, 3, none⟩ = some pst) (h2 : W0.cell? ⟨A, 2, none⟩ = some lim) (e0 : W0.cell? ⟨B, 0, none⟩ = some va) (e1 : W0.cell? ⟨B, 1, none⟩ = some vh) (e2 : W0.cell? ⟨B, 2, none⟩ = some vs) (b : Below W0.heap.size W0 x) : S7 A B lim pst va vh vs W0 x :=
  ⟨below_keeps b _ _ h3, below_keeps b _ _ h2, below_keeps b _ _ e0, below_keeps b _ _ e1, below_keeps b _ _ e2, hide b⟩
theorem S7.on {A B : Nat} {lim pst va vh vs : Value} {W0 x y : World} (h : S7 A B lim pst va vh vs W0 x) (b : Below x.heap.size x y) : S7 A B lim pst va vh vs W0 y :=
  ⟨below_keeps b _ _ h.1, below_keeps b _ _ h.2.1, below_keeps b _ _ h.2.2.1, below_keeps b _ _ h.2.2.2.1, below_keeps b _ _ h.2.2.2.2.1, hide (below_trans h.2.2.2.2.2.out b)⟩
theorem acc_small {L : Led} (q1 : ledS L = true) {i : Nat} (hi : i < L.acc.length) : SmallX L.acc[i] := accI_parts (led_parts q1).2.1 _ (List.getElem_mem hi)
set_option maxRecDepth 100000 in
set_option maxHeartbeats 4000000 in
theorem implFreeOf_any (a h s : Option Addr) (L : Led) (ca ch cs : Nat) (t : TypeId) (v : Value) (nm : ByteArray) (w : World) (hl : LedAt w a h s L) (hg : w.cell? ⟨2, 0, none⟩ = some (.iface t v)) (hn : nm.size ≤ maxLen) (n1 : L.acc.length ≤ 1048576) (n2 : L.hold.length ≤ 1048576) (n3 : L.seen.length ≤ 1048576) :
    Calls Tryz.prog 16 #[.agg #[.slice a L.acc.length ca, .slice h L.hold.length ch, .slice s L.seen.length cs], .string nm] w fun e w' => OfEnd (freeO L nm) w e w' := by
  have HL : Hid _ := hide hl
  have HG : Hid _ := hide hg
  have HN : Hid _ := hide hn
  clear hl hn hg
  have HX0 : Hid (Below (w.heap.size + 1) (w.alloc (.cells #[.slice a L.acc.length ca, .slice h L.hold.length ch, .slice s L.seen.length cs] 28)) (w.alloc (.cells #[.slice a L.acc.length ca, .slice h L.hold.length ch, .slice s L.seen.length cs] 28))) := hide (Below.refl _ _)
  have HG0 : Hid ((w.alloc (.cells #[.slice a L.acc.length ca, .slice h L.hold.length ch, .slice s L.seen.length cs] 28)).cell? ⟨2, 0, none⟩ = some (.iface t v)) := hide (below_keeps (below_alloc (Below.refl _ _) _) _ _ HG.out)
  cases q1 : ledS L
  · have HR : Hid (freeO L nm = -1) := hide (by simp [freeO, q1])
    go_enter Tryz.func16, Tryz.ntmps16
    go_wp2_with (first | (go_at_call 17; refine (implLedgerOk_any _ _ _ L _ _ _ t v _ (HL.out.below (below_of_box HX0.out)) HG0.out n1 n2 n3).mono ?_; rintro e wo ⟨rfl, hbo⟩; have HXo : Hid _ := hide (box_grow HX0.out hbo); obtain ⟨x0, x1, x2⟩ := boxCells HXo.out; clear hbo))
    go_ret
    exact ⟨by rw [HR.out]; rfl, below_of_box HXo.out⟩
  · cases q2 : idxA L.acc nm with
    | none =>
      have HR : Hid (freeO L nm = -1) := hide (by simp [freeO, q2])
      go_enter Tryz.func16, Tryz.ntmps16
      go_wp2_with (first | (go_at_call 17; refine (implLedgerOk_any _ _ _ L _ _ _ t v _ (HL.out.below (below_of_box HX0.out)) HG0.out n1 n2 n3).mono ?_; rintro e wo ⟨rfl, hbo⟩; have HXo : Hid _ := hide (box_grow HX0.out hbo); obtain ⟨x0, x1, x2⟩ := boxCells HXo.out; clear hbo) | (go_at_call 27; refine (bookOf_any _ _ _ _ _ _ L _ (led_parts q1).1.1 (led_parts q1).1.2.1 (led_parts q1).1.2.2 (HL.out.below (below_of_box HXo.out)) (apart_led q1)).mono ?_; rintro e wb ⟨hbb, bq, rfl, hbook⟩; have HBk : Hid _ := hide hbook; have HXb : Hid _ := hide (below_trans (below_of_box HXo.out) hbb); clear hbb; obtain ⟨hbq, bm, bh, bs, bch, bcs, c0, c1, c2, hhold, hans, hmap⟩ := hbook; have hrun := look_none (apart_led q1) hmap HN.out q2; clear hhold hans hmap c1 c2))
      go_ret
      exact ⟨by rw [HR.out]; rfl, HXb.out⟩
    | some i =>
      have hi : i < L.acc.length := (idxA_lt q2).1
      obtain ⟨⟨l1, l2⟩, o1, o2⟩ := acc_small q1 hi
      have hbd := held_take nm L.hold L.hold.length (smallH_led q1)
      rw [List.take_length] at hbd
      obtain ⟨b1, b2⟩ := hbd
      have w1 : IntKind.i64.wrap (L.acc[i].posted - heldL nm L.hold) = L.acc[i].posted - heldL nm L.hold := wrap64_id (by omega)
      have w2 : IntKind.i64.wrap (L.acc[i].posted - heldL nm L.hold + L.acc[i].limit) = L.acc[i].posted - heldL nm L.hold + L.acc[i].limit := wrap64_id (by omega)
      cases q3 : (L.acc[i].limit == -1)
      · have HR : Hid (freeO L nm = if 1000000000000 < L.acc[i].posted - heldL nm L.hold + L.acc[i].limit then 1000000000000 else L.acc[i].posted - heldL nm L.hold + L.acc[i].limit) := hide (by rw [freeO_at q1 q2 hi]; unfold freeX; simp at q3; rw [if_neg (by omega)]; split <;> omega)
        go_enter Tryz.func16, Tryz.ntmps16
        go_wp2_with (first | (go_at_call 17; refine (implLedgerOk_any _ _ _ L _ _ _ t v _ (HL.out.below (below_of_box HX0.out)) HG0.out n1 n2 n3).mono ?_; rintro e wo ⟨rfl, hbo⟩; have HXo : Hid _ := hide (box_grow HX0.out hbo); obtain ⟨x0, x1, x2⟩ := boxCells HXo.out; clear hbo) | (go_at_call 27; refine (bookOf_any _ _ _ _ _ _ L _ (led_parts q1).1.1 (led_parts q1).1.2.1 (led_parts q1).1.2.2 (HL.out.below (below_of_box HXo.out)) (apart_led q1)).mono ?_; rintro e wb ⟨hbb, bq, rfl, hbook⟩; have HBk : Hid _ := hide hbook; have HXb : Hid _ := hide (below_trans (below_of_box HXo.out) hbb); clear hbb; obtain ⟨hbq, bm, bh, bs, bch, bcs, c0, c1, c2, hhold, hans, hmap⟩ := hbook; obtain ⟨bp, hblk, hrun⟩ := look_some (apart_led q1) hmap HN.out hi q2; have HBl : Hid _ := hide hblk; obtain ⟨k0, k1, k2, k3, k4⟩ := hblk; clear hhold hans hmap c1 c2))
        go_region_held (fun x => x.cell? ⟨bp, 3, none⟩ = some (.int .i64 L.acc[i].posted) ∧ x.cell? ⟨bp, 2, none⟩ = some (.int .i64 L.acc[i].limit) ∧ Hid (Below wb.heap.size wb x))
          (first | assumption | exact S9.of k4 k3 (Below.refl _ _).drew | exact S9.on (by assumption) (by assumption))
          (first | (go_at_call 37; refine (held_any bq L _ _ (smallH_led q1) (HBk.out.below (by assumption : S9 bp (.int .i64 L.acc[i].limit) (.int .i64 L.acc[i].posted) wb _).2.2.out)).mono ?_; rintro e wz ⟨rfl, hbz⟩))
        have HBz : Hid (Below w.heap.size w wz) := hide (below_trans HXb.out (by assumption : S9 bp (.int .i64 L.acc[i].limit) (.int .i64 L.acc[i].posted) wb wz).2.2.out)
        clear hbz
        go_wp2
        all_goals go_ret
        all_goals exact ⟨by first | (rw [HR.out, if_pos (by omega)]; rfl) | (rw [HR.out, if_neg (by omega)]; rfl), HBz.out⟩
      · have HR : Hid (freeO L nm = 1000000000000) := hide (by rw [freeO_at q1 q2 hi]; unfold freeX; simp at q3; rw [if_pos (by omega)])
        go_enter Tryz.func16, Tryz.ntmps16
        go_wp2_with (first | (go_at_call 17; refine (implLedgerOk_any _ _ _ L _ _ _ t v _ (HL.out.below (below_of_box HX0.out)) HG0.out n1 n2 n3).mono ?_; rintro e wo ⟨rfl, hbo⟩; have HXo : Hid _ := hide (box_grow HX0.out hbo); obtain ⟨x0, x1, x2⟩ := boxCells HXo.out; clear hbo) | (go_at_call 27; refine (bookOf_any _ _ _ _ _ _ L _ (led_parts q1).1.1 (led_parts q1).1.2.1 (led_parts q1).1.2.2 (HL.out.below (below_of_box HXo.out)) (apart_led q1)).mono ?_; rintro e wb ⟨hbb, bq, rfl, hbook⟩; have HBk : Hid _ := hide hbook; have HXb : Hid _ := hide (below_trans (below_of_box HXo.out) hbb); clear hbb; obtain ⟨hbq, bm, bh, bs, bch, bcs, c0, c1, c2, hhold, hans, hmap⟩ := hbook; obtain ⟨bp, hblk, hrun⟩ := look_some (apart_led q1) hmap HN.out hi q2; have HBl : Hid _ := hide hblk; obtain ⟨k0, k1, k2, k3, k4⟩ := hblk; clear hhold hans hmap c1 c2))
        go_ret
        exact ⟨by rw [HR.out]; rfl, HXb.out⟩
set_option maxRecDepth 100000 in
set_option maxHeartbeats 4000000 in
theorem specFreeOf_any (a h s : Option Addr) (L : Led) (ca ch cs : Nat) (nm : ByteArray) (w : World) (hl : LedAt w a h s L) (hn : nm.size ≤ maxLen) (n1 : L.acc.length ≤ 1048576) (n2 : L.hold.length ≤ 1048576) (n3 : L.seen.length ≤ 1048576) :
    Calls Tryz.prog 23 #[.agg #[.slice a L.acc.length ca, .slice h L.hold.length ch, .slice s L.seen.length cs], .string nm] w fun e w' => OfEnd (freeO L nm) w e w' := by
  cases q2 : idxA L.acc nm with
  | none =>
    have HL : Hid _ := hide hl
    clear hl hn
    have HX0 : Hid (Below (w.heap.size + 1) (w.alloc (.cells #[.slice a L.acc.length ca, .slice h L.hold.length ch, .slice s L.seen.length cs] 28)) (w.alloc (.cells #[.slice a L.acc.length ca, .slice h L.hold.length ch, .slice s L.seen.length cs] 28))) := hide (Below.refl _ _)
    have HR : Hid (freeO L nm = -1) := hide (by simp [freeO, q2])
    cases q1 : ledS L
    ·
      go_enter Tryz.func23, Tryz.ntmps23
      go_wp2_with (first | (go_at_call 47; refine (l2Find_any _ L.acc _ _ _ _ _ n1 (HL.out.acc.below (below_of_box HX0.out))).mono ?_; intro e wf hfe; obtain ⟨rfl, hbf⟩ := find_none hfe q2; have HXf : Hid _ := hide (box_grow HX0.out hbf); obtain ⟨z0, z1, z2⟩ := boxCells HXf.out; clear hbf hfe) | (go_at_call 34; refine (specLedgerOk_any _ _ _ L _ _ _ _ (HL.out.below (below_of_box HXf.out)) n1 n2 n3).mono ?_; rintro e wo ⟨rfl, hbo⟩; have HXo : Hid _ := hide (box_grow HXf.out hbo); obtain ⟨x0, x1, x2⟩ := boxCells HXo.out; clear hbo))
      go_ret
      exact ⟨by rw [HR.out]; rfl, below_of_box HXo.out⟩
    ·
      go_enter Tryz.func23, Tryz.ntmps23
      go_wp2_with (first | (go_at_call 47; refine (l2Find_any _ L.acc _ _ _ _ _ n1 (HL.out.acc.below (below_of_box HX0.out))).mono ?_; intro e wf hfe; obtain ⟨rfl, hbf⟩ := find_none hfe q2; have HXf : Hid _ := hide (box_grow HX0.out hbf); obtain ⟨z0, z1, z2⟩ := boxCells HXf.out; clear hbf hfe) | (go_at_call 34; refine (specLedgerOk_any _ _ _ L _ _ _ _ (HL.out.below (below_of_box HXf.out)) n1 n2 n3).mono ?_; rintro e wo ⟨rfl, hbo⟩; have HXo : Hid _ := hide (box_grow HXf.out hbo); obtain ⟨x0, x1, x2⟩ := boxCells HXo.out; clear hbo))
      go_ret
      exact ⟨by rw [HR.out]; rfl, below_of_box HXo.out⟩
  | some i =>
    have hi : i < L.acc.length := (idxA_lt q2).1
    have HL : Hid _ := hide hl
    clear hl hn
    have hlt' : (i : Int) < (L.acc.length : Int) := by omega
    have hi0 : ¬ (i : Int) < 0 := by omega
    obtain ⟨b, off, rfl, _⟩ := HL.out.acc i hi
    have HX0 : Hid (Below (w.heap.size + 1) (w.alloc (.cells #[.slice (some ⟨b, off, none⟩) L.acc.length ca, .slice h L.hold.length ch, .slice s L.seen.length cs] 28)) (w.alloc (.cells #[.slice (some ⟨b, off, none⟩) L.acc.length ca, .slice h L.hold.length ch, .slice s L.seen.length cs] 28))) := hide (Below.refl _ _)
    cases q1 : ledS L
    · have HR : Hid (freeO L nm = -1) := hide (by simp [freeO, q1])
      go_enter Tryz.func23, Tryz.ntmps23
      go_wp2_with (first | (go_at_call 47; refine (l2Find_any _ L.acc _ _ _ _ _ n1 (HL.out.acc.below (below_of_box HX0.out))).mono ?_; intro e wf hfe; obtain ⟨rfl, hbf⟩ := find_some hfe q2; have HXf : Hid _ := hide (box_grow HX0.out hbf); obtain ⟨z0, z1, z2⟩ := boxCells HXf.out; clear hbf hfe) | (go_at_call 34; refine (specLedgerOk_any _ _ _ L _ _ _ _ (HL.out.below (below_of_box HXf.out)) n1 n2 n3).mono ?_; rintro e wo ⟨rfl, hbo⟩; have HXo : Hid _ := hide (box_grow HXf.out hbo); obtain ⟨x0, x1, x2⟩ := boxCells HXo.out; clear hbo))
      go_ret
      exact ⟨by rw [HR.out]; rfl, below_of_box HXo.out⟩
    ·
      obtain ⟨⟨l1, l2⟩, o1, o2⟩ := acc_small q1 hi
      have hbd := held_take nm L.hold L.hold.length (smallH_led q1)
      rw [List.take_length] at hbd
      obtain ⟨b1, b2⟩ := hbd
      have w1 : IntKind.i64.wrap (L.acc[i].posted - heldL nm L.hold) = L.acc[i].posted - heldL nm L.hold := wrap64_id (by omega)
      have w2 : IntKind.i64.wrap (L.acc[i].posted - heldL nm L.hold + L.acc[i].limit) = L.acc[i].posted - heldL nm L.hold + L.acc[i].limit := wrap64_id (by omega)
      cases q3 : decide (L.acc[i].limit < 0)
      · have HR : Hid (freeO L nm = if L.acc[i].posted - heldL nm L.hold + L.acc[i].limit < 1000000000000 then L.acc[i].posted - heldL nm L.hold + L.acc[i].limit else 1000000000000) := hide (by rw [freeO_at q1 q2 hi]; unfold freeX; simp at q3; rw [if_neg (by omega)]; split <;> omega)
        go_enter Tryz.func23, Tryz.ntmps23
        go_wp2_with (first | (go_at_call 47; refine (l2Find_any _ L.acc _ _ _ _ _ n1 (HL.out.acc.below (below_of_box HX0.out))).mono ?_; intro e wf hfe; obtain ⟨rfl, hbf⟩ := find_some hfe q2; have HXf : Hid _ := hide (box_grow HX0.out hbf); obtain ⟨z0, z1, z2⟩ := boxCells HXf.out; clear hbf hfe) | (go_at_call 34; refine (specLedgerOk_any _ _ _ L _ _ _ _ (HL.out.below (below_of_box HXf.out)) n1 n2 n3).mono ?_; rintro e wo ⟨rfl, hbo⟩; have HXo : Hid _ := hide (box_grow HXf.out hbo); obtain ⟨x0, x1, x2⟩ := boxCells HXo.out; clear hbo; obtain ⟨b', off', heq, hb', d0, d1, d2, d3, _⟩ := (HL.out.acc.below (below_of_box HXo.out)) i hi; simp only [Option.some.injEq, Addr.mk.injEq, and_true] at heq; obtain ⟨rfl, rfl⟩ := heq))
        go_region_held (fun x => x.cell? ⟨wo.heap.size, 3, none⟩ = some (.int .i64 L.acc[i].posted) ∧ x.cell? ⟨wo.heap.size, 2, none⟩ = some (.int .i64 L.acc[i].limit) ∧ x.cell? ⟨w.heap.size, 0, none⟩ = some (.slice (some ⟨b, off, none⟩) L.acc.length ca) ∧ x.cell? ⟨w.heap.size, 1, none⟩ = some (.slice h L.hold.length ch) ∧ x.cell? ⟨w.heap.size, 2, none⟩ = some (.slice s L.seen.length cs) ∧ Hid (Below (wo.alloc (accObj L.acc[i])).heap.size (wo.alloc (accObj L.acc[i])) x))
          (first | assumption | exact S7.of (W0 := wo.alloc (accObj L.acc[i])) (by simp [accObj]) (by simp [accObj]) (below_keeps (below_alloc (Below.refl _ _) _) _ _ x0) (below_keeps (below_alloc (Below.refl _ _) _) _ _ x1) (below_keeps (below_alloc (Below.refl _ _) _) _ _ x2) (Below.refl _ _).drew | exact S7.on (by assumption) (by assumption))
          (first | (go_at_call 48; refine (l2Held_any _ L.hold _ _ _ _ _ (smallH_led q1) ((HL.out.hold.below (below_of_box HXo.out)).below (below_trans (below_alloc (Below.refl _ _) _) (by assumption : S7 wo.heap.size w.heap.size (.int .i64 L.acc[i].limit) (.int .i64 L.acc[i].posted) (.slice (some ⟨b, off, none⟩) L.acc.length ca) (.slice h L.hold.length ch) (.slice s L.seen.length cs) (wo.alloc (accObj L.acc[i])) _).2.2.2.2.2.out))).mono ?_; rintro e wz ⟨rfl, hbz⟩))
        have HBz : Hid (Below w.heap.size w wz) := hide (below_trans (below_of_box HXo.out) (below_trans (below_alloc (Below.refl _ _) _) (by assumption : S7 wo.heap.size w.heap.size (.int .i64 L.acc[i].limit) (.int .i64 L.acc[i].posted) (.slice (some ⟨b, off, none⟩) L.acc.length ca) (.slice h L.hold.length ch) (.slice s L.seen.length cs) (wo.alloc (accObj L.acc[i])) wz).2.2.2.2.2.out))
        clear hbz
        go_wp2
        all_goals go_ret
        all_goals exact ⟨by first | (rw [HR.out, if_pos (by omega)]; rfl) | (rw [HR.out, if_neg (by omega)]; rfl), HBz.out⟩
      · have HR : Hid (freeO L nm = 1000000000000) := hide (by rw [freeO_at q1 q2 hi]; unfold freeX; simp at q3; rw [if_pos (by omega)])
        go_enter Tryz.func23, Tryz.ntmps23
        go_wp2_with (first | (go_at_call 47; refine (l2Find_any _ L.acc _ _ _ _ _ n1 (HL.out.acc.below (below_of_box HX0.out))).mono ?_; intro e wf hfe; obtain ⟨rfl, hbf⟩ := find_some hfe q2; have HXf : Hid _ := hide (box_grow HX0.out hbf); obtain ⟨z0, z1, z2⟩ := boxCells HXf.out; clear hbf hfe) | (go_at_call 34; refine (specLedgerOk_any _ _ _ L _ _ _ _ (HL.out.below (below_of_box HXf.out)) n1 n2 n3).mono ?_; rintro e wo ⟨rfl, hbo⟩; have HXo : Hid _ := hide (box_grow HXf.out hbo); obtain ⟨x0, x1, x2⟩ := boxCells HXo.out; clear hbo; obtain ⟨b', off', heq, hb', d0, d1, d2, d3, _⟩ := (HL.out.acc.below (below_of_box HXo.out)) i hi; simp only [Option.some.injEq, Addr.mk.injEq, and_true] at heq; obtain ⟨rfl, rfl⟩ := heq))
        go_ret
        exact ⟨by rw [HR.out]; rfl, below_alloc (below_of_box HXo.out) _⟩
end Go.Proofs.YtjjoeajnhblacaaGreatDoor
