/- The contracts of HeldOf and TotalOf, of the model and of the program. -/
import Derived.Test.YtjjoeajnhblacaaGreatDoorGw
namespace Go.Proofs.YtjjoeajnhblacaaGreatDoor
open Go.ChangeShapes Go.WideShapes Go.ChangeAt Go.RowKit Go.Maps
set_option maxRecDepth 100000
set_option linter.unusedVariables false
def OfEnd (n : Int) (w : World) (e : Ending) (w' : World) : Prop := e = .returned (.int .i64 n) ∧ Below w.heap.size w w'
theorem led_parts {L : Led} (h : ledS L = true) : (L.acc.length ≤ 12 ∧ L.hold.length ≤ 10 ∧ L.seen.length ≤ 40) ∧ allTo (accI L) L.acc.length = true ∧ allTo (ansB L) L.seen.length = true ∧ allTo (hldI L) L.hold.length = true ∧ L.acc.all (balI L) = true := by
  rw [← led_same] at h
  simp only [ledI, Bool.and_eq_true, decide_eq_true_eq] at h
  obtain ⟨⟨⟨⟨⟨⟨g1, g2⟩, g3⟩, ha⟩, hs⟩, hh⟩, hb⟩ := h
  exact ⟨⟨g1, g2, g3⟩, ha, hs, hh, hb⟩
theorem find_some {l : List Acc} {nm : ByteArray} {w w' : World} {e : Ending} {i : Nat} (h : FindEnd l nm w e w') (hi : idxA l nm = some i) : e = .returned (.int .i64 (i : Int)) ∧ Below w.heap.size w w' := by
  obtain ⟨hb, r, rfl, ⟨j, hj, h1, rfl⟩ | ⟨h1, rfl⟩⟩ := findIs_of h
  · rw [hi] at h1; cases h1; exact ⟨rfl, hb⟩
  · rw [hi] at h1; cases h1
theorem find_none {l : List Acc} {nm : ByteArray} {w w' : World} {e : Ending} (h : FindEnd l nm w e w') (hi : idxA l nm = none) : e = .returned (.int .i64 (-1)) ∧ Below w.heap.size w w' := by
  obtain ⟨hb, r, rfl, ⟨j, hj, h1, rfl⟩ | ⟨h1, rfl⟩⟩ := findIs_of h
  · rw [hi] at h1; cases h1
  · exact ⟨rfl, hb⟩
theorem look_some {w : World} {m : Nat} {l : List Acc} (hd : Apart l) (h : MapHas w m l) {nm : ByteArray} (hn : nm.size ≤ maxLen) {i : Nat} (hi : i < l.length) (hx : idxA l nm = some i) :
    ∃ q, AccBlk w q l[i] ∧ (Instr.lookup 63 (.map (some m)) (.string nm) false).run Tryz.prog w = .ok (.pointer (some ⟨q, 0, none⟩)) w := by
  rcases look_book h hn with ⟨j, hj, q, en, hb, hr⟩ | ⟨hno, _⟩
  · have : idxA l nm = some j := by rw [← en]; exact idxA_of hd hj
    rw [this] at hx
    cases hx
    exact ⟨q, hb, hr 0⟩
  · rw [idxA_none hno] at hx; cases hx
theorem look_none {w : World} {m : Nat} {l : List Acc} (hd : Apart l) (h : MapHas w m l) {nm : ByteArray} (hn : nm.size ≤ maxLen) (hx : idxA l nm = none) :
    (Instr.lookup 63 (.map (some m)) (.string nm) false).run Tryz.prog w = .ok (.pointer none) w := by
  rcases look_book h hn with ⟨j, hj, q, en, hb, hr⟩ | ⟨hno, hr⟩
  · have : idxA l nm = some j := by rw [← en]; exact idxA_of hd hj
    rw [this] at hx; cases hx
  · exact hr 0
def totalO (L : Led) (cur : ByteArray) : Int := if ledS L = true then totL cur L.acc else -1
def heldO (L : Led) (nm : ByteArray) : Int := if ledS L = true ∧ (idxA L.acc nm).isSome = true then heldL nm L.hold else -1
theorem smallH_led {L : Led} (h : ledS L = true) : SmallH L.hold := smallH_hld (led_parts h).1.2.1 (led_parts h).2.2.2.1
theorem smallA_led {L : Led} (h : ledS L = true) : SmallA L.acc := smallA_acc (led_parts h).1.1 (led_parts h).2.1
theorem apart_led {L : Led} (h : ledS L = true) : Apart L.acc := apart_of (led_parts h).2.1
set_option maxHeartbeats 4000000 in
theorem implTotalOf_any (a h s : Option Addr) (L : Led) (ca ch cs : Nat) (t : TypeId) (v : Value) (nm : ByteArray) (w : World) (hl : LedAt w a h s L) (hg : w.cell? ⟨2, 0, none⟩ = some (.iface t v)) (hn : nm.size ≤ maxLen) (n1 : L.acc.length ≤ 1048576) (n2 : L.hold.length ≤ 1048576) (n3 : L.seen.length ≤ 1048576) :
    Calls Tryz.prog 14 #[.agg #[.slice a L.acc.length ca, .slice h L.hold.length ch, .slice s L.seen.length cs], .string nm] w fun e w' => OfEnd (totalO L nm) w e w' := by
  have HL : Hid _ := hide hl
  have HG : Hid _ := hide hg
  have HN : Hid _ := hide hn
  clear hl hn hg
  have HX0 : Hid (Below (w.heap.size + 1) (w.alloc (.cells #[.slice a L.acc.length ca, .slice h L.hold.length ch, .slice s L.seen.length cs] 28)) (w.alloc (.cells #[.slice a L.acc.length ca, .slice h L.hold.length ch, .slice s L.seen.length cs] 28))) := hide (Below.refl _ _)
  have HG0 : Hid ((w.alloc (.cells #[.slice a L.acc.length ca, .slice h L.hold.length ch, .slice s L.seen.length cs] 28)).cell? ⟨2, 0, none⟩ = some (.iface t v)) := hide (below_keeps (below_alloc (Below.refl _ _) _) _ _ HG.out)
  cases q1 : ledS L
  · have HR : Hid (totalO L nm = -1) := hide (by simp [totalO, q1])
    go_enter Tryz.func14, Tryz.ntmps14
    go_wp2_with (first | (go_at_call 17; refine (implLedgerOk_any _ _ _ L _ _ _ t v _ (HL.out.below (below_of_box HX0.out)) HG0.out n1 n2 n3).mono ?_; rintro e wo ⟨rfl, hbo⟩; have HXo : Hid _ := hide (box_grow HX0.out hbo); obtain ⟨x0, x1, x2⟩ := boxCells HXo.out; clear hbo))
    go_ret
    exact ⟨by rw [HR.out]; rfl, below_of_box HXo.out⟩
  · have HR : Hid (totalO L nm = totL nm L.acc) := hide (by simp [totalO, q1])
    go_enter Tryz.func14, Tryz.ntmps14
    go_wp2_with (first | (go_at_call 17; refine (implLedgerOk_any _ _ _ L _ _ _ t v _ (HL.out.below (below_of_box HX0.out)) HG0.out n1 n2 n3).mono ?_; rintro e wo ⟨rfl, hbo⟩; have HXo : Hid _ := hide (box_grow HX0.out hbo); obtain ⟨x0, x1, x2⟩ := boxCells HXo.out; clear hbo) | (go_at_call 27; refine (bookOf_any _ _ _ _ _ _ L _ (led_parts q1).1.1 (led_parts q1).1.2.1 (led_parts q1).1.2.2 (HL.out.below (below_of_box HXo.out)) (apart_led q1)).mono ?_; rintro e wb ⟨hbb, bq, rfl, hbook⟩; have HBk : Hid _ := hide hbook; have HXb : Hid _ := hide (below_trans (below_of_box HXo.out) hbb); clear hbb; clear hbook) | (go_at_call 36; refine (total_any bq L _ _ (smallA_led q1) (apart_led q1) HBk.out).mono ?_; rintro e wz ⟨rfl, hbz⟩; have HXz : Hid _ := hide (below_trans HXb.out hbz); clear hbz))
    go_ret
    exact ⟨by rw [HR.out]; rfl, HXz.out⟩
set_option maxHeartbeats 4000000 in
theorem implHeldOf_any (a h s : Option Addr) (L : Led) (ca ch cs : Nat) (t : TypeId) (v : Value) (nm : ByteArray) (w : World) (hl : LedAt w a h s L) (hg : w.cell? ⟨2, 0, none⟩ = some (.iface t v)) (hn : nm.size ≤ maxLen) (n1 : L.acc.length ≤ 1048576) (n2 : L.hold.length ≤ 1048576) (n3 : L.seen.length ≤ 1048576) :
    Calls Tryz.prog 15 #[.agg #[.slice a L.acc.length ca, .slice h L.hold.length ch, .slice s L.seen.length cs], .string nm] w fun e w' => OfEnd (heldO L nm) w e w' := by
  have HL : Hid _ := hide hl
  have HG : Hid _ := hide hg
  have HN : Hid _ := hide hn
  clear hl hn hg
  have HX0 : Hid (Below (w.heap.size + 1) (w.alloc (.cells #[.slice a L.acc.length ca, .slice h L.hold.length ch, .slice s L.seen.length cs] 28)) (w.alloc (.cells #[.slice a L.acc.length ca, .slice h L.hold.length ch, .slice s L.seen.length cs] 28))) := hide (Below.refl _ _)
  have HG0 : Hid ((w.alloc (.cells #[.slice a L.acc.length ca, .slice h L.hold.length ch, .slice s L.seen.length cs] 28)).cell? ⟨2, 0, none⟩ = some (.iface t v)) := hide (below_keeps (below_alloc (Below.refl _ _) _) _ _ HG.out)
  cases q1 : ledS L
  · have HR : Hid (heldO L nm = -1) := hide (by simp [heldO, q1])
    go_enter Tryz.func15, Tryz.ntmps15
    go_wp2_with (first | (go_at_call 17; refine (implLedgerOk_any _ _ _ L _ _ _ t v _ (HL.out.below (below_of_box HX0.out)) HG0.out n1 n2 n3).mono ?_; rintro e wo ⟨rfl, hbo⟩; have HXo : Hid _ := hide (box_grow HX0.out hbo); obtain ⟨x0, x1, x2⟩ := boxCells HXo.out; clear hbo))
    go_ret
    exact ⟨by rw [HR.out]; rfl, below_of_box HXo.out⟩
  · cases q2 : idxA L.acc nm with
    | none =>
      have HR : Hid (heldO L nm = -1) := hide (by simp [heldO, q2])
      go_enter Tryz.func15, Tryz.ntmps15
      go_wp2_with (first | (go_at_call 17; refine (implLedgerOk_any _ _ _ L _ _ _ t v _ (HL.out.below (below_of_box HX0.out)) HG0.out n1 n2 n3).mono ?_; rintro e wo ⟨rfl, hbo⟩; have HXo : Hid _ := hide (box_grow HX0.out hbo); obtain ⟨x0, x1, x2⟩ := boxCells HXo.out; clear hbo) | (go_at_call 27; refine (bookOf_any _ _ _ _ _ _ L _ (led_parts q1).1.1 (led_parts q1).1.2.1 (led_parts q1).1.2.2 (HL.out.below (below_of_box HXo.out)) (apart_led q1)).mono ?_; rintro e wb ⟨hbb, bq, rfl, hbook⟩; have HBk : Hid _ := hide hbook; have HXb : Hid _ := hide (below_trans (below_of_box HXo.out) hbb); clear hbb; obtain ⟨hbq, bm, bh, bs, bch, bcs, c0, c1, c2, hhold, hans, hmap⟩ := hbook; have hrun := look_none (apart_led q1) hmap HN.out q2; clear hhold hans hmap c1 c2))
      go_ret
      exact ⟨by rw [HR.out]; rfl, HXb.out⟩
    | some i =>
      have HR : Hid (heldO L nm = heldL nm L.hold) := hide (by simp [heldO, q1, q2])
      obtain ⟨hi, _⟩ := idxA_lt q2
      go_enter Tryz.func15, Tryz.ntmps15
      go_wp2_with (first | (go_at_call 17; refine (implLedgerOk_any _ _ _ L _ _ _ t v _ (HL.out.below (below_of_box HX0.out)) HG0.out n1 n2 n3).mono ?_; rintro e wo ⟨rfl, hbo⟩; have HXo : Hid _ := hide (box_grow HX0.out hbo); obtain ⟨x0, x1, x2⟩ := boxCells HXo.out; clear hbo) | (go_at_call 27; refine (bookOf_any _ _ _ _ _ _ L _ (led_parts q1).1.1 (led_parts q1).1.2.1 (led_parts q1).1.2.2 (HL.out.below (below_of_box HXo.out)) (apart_led q1)).mono ?_; rintro e wb ⟨hbb, bq, rfl, hbook⟩; have HBk : Hid _ := hide hbook; have HXb : Hid _ := hide (below_trans (below_of_box HXo.out) hbb); clear hbb; obtain ⟨hbq, bm, bh, bs, bch, bcs, c0, c1, c2, hhold, hans, hmap⟩ := hbook; obtain ⟨bp, hblk, hrun⟩ := look_some (apart_led q1) hmap HN.out hi q2; have HBl : Hid _ := hide hblk; obtain ⟨k0, k1, k2, k3, k4⟩ := hblk; clear hhold hans hmap c1 c2) | (go_at_call 37; refine (held_any bq L _ _ (smallH_led q1) HBk.out).mono ?_; rintro e wz ⟨rfl, hbz⟩; have HXz : Hid _ := hide (below_trans HXb.out hbz); clear hbz))
      go_ret
      exact ⟨by rw [HR.out]; rfl, HXz.out⟩
end Go.Proofs.YtjjoeajnhblacaaGreatDoor
