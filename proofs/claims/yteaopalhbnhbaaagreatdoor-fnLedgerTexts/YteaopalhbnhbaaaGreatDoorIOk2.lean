/- The contract of the program's LedgerOk. -/
import Derived.Test.YteaopalhbnhbaaaGreatDoorGd
import Derived.Test.YteaopalhbnhbaaaGreatDoorGe
namespace Go.Proofs.YteaopalhbnhbaaaGreatDoor
open Go.ChangeShapes Go.WideShapes Go.ChangeAt Go.RowKit Go.Maps
set_option linter.unusedVariables false
set_option maxRecDepth 100000
theorem boxCells {w x : World} {va vh vs : Value} (h : Below (w.heap.size + 1) (w.alloc (.cells #[va, vh, vs] 28)) x) : x.cell? ⟨w.heap.size, 0, none⟩ = some va ∧ x.cell? ⟨w.heap.size, 1, none⟩ = some vh ∧ x.cell? ⟨w.heap.size, 2, none⟩ = some vs :=
  ⟨by rw [h.cell (by simp)]; simp, by rw [h.cell (by simp)]; simp, by rw [h.cell (by simp)]; simp⟩
set_option maxHeartbeats 8000000 in
theorem implLedgerOk_any (a h s : Option Addr) (L : Led) (ca ch cs : Nat) (t : TypeId) (v : Value) (w : World) (hl : LedAt w a h s L) (hg : w.cell? ⟨1, 0, none⟩ = some (.iface t v)) (n1 : L.acc.length ≤ 1048576) (n2 : L.hold.length ≤ 1048576) (n3 : L.seen.length ≤ 1048576) :
    Calls Tryz.prog 10 #[.agg #[.slice a L.acc.length ca, .slice h L.hold.length ch, .slice s L.seen.length cs]] w fun e w' => OkEnd (ledS L) w e w' := by
  have HL : Hid _ := hide hl
  have HG : Hid _ := hide hg
  clear hl hg
  have HX0 : Hid (Below (w.heap.size + 1) (w.alloc (.cells #[.slice a L.acc.length ca, .slice h L.hold.length ch, .slice s L.seen.length cs] 28)) (w.alloc (.cells #[.slice a L.acc.length ca, .slice h L.hold.length ch, .slice s L.seen.length cs] 28))) := hide (Below.refl _ _)
  by_cases g1 : L.acc.length ≤ 12
  · by_cases g2 : L.hold.length ≤ 10
    · by_cases g3 : L.seen.length ≤ 40
      · have g1' : (L.acc.length : Int) ≤ 12 := by omega
        have g2' : (L.hold.length : Int) ≤ 10 := by omega
        have g3' : (L.seen.length : Int) ≤ 40 := by omega
        cases q1 : allTo (accI L) L.acc.length
        · have HR : Hid (ledS L = false) := hide (by rw [← led_same]; unfold ledI; rw [q1]; simp)
          go_enter Tryz.func10, Tryz.ntmps10
          go_wp2_with (first | (go_at_call 27; refine (accountsOk_any _ L _ _ g1 (HL.out.acc.below (below_of_box HX0.out))).mono ?_; rintro e wa ⟨rfl, hba⟩; have HXa : Hid _ := hide (box_grow HX0.out hba); obtain ⟨x0, x1, x2⟩ := boxCells HXa.out; clear hba))
          go_ret
          exact ⟨by rw [HR.out]; rfl, below_of_box HXa.out⟩
        · cases q2 : allTo (ansB L) L.seen.length
          · have HR : Hid (ledS L = false) := hide (by rw [← led_same]; unfold ledI; rw [q2]; simp)
            go_enter Tryz.func10, Tryz.ntmps10
            go_wp2_with (first | (go_at_call 27; refine (accountsOk_any _ L _ _ g1 (HL.out.acc.below (below_of_box HX0.out))).mono ?_; rintro e wa ⟨rfl, hba⟩; have HXa : Hid _ := hide (box_grow HX0.out hba); obtain ⟨x0, x1, x2⟩ := boxCells HXa.out; clear hba) | (go_at_call 28; refine (seenOk_any _ L _ _ g3 (HL.out.seen.below (below_of_box HXa.out))).mono ?_; rintro e ws ⟨rfl, hbs⟩; have HXs : Hid _ := hide (box_grow HXa.out hbs); obtain ⟨y0, y1, y2⟩ := boxCells HXs.out; clear hbs))
            go_ret
            exact ⟨by rw [HR.out]; rfl, below_of_box HXs.out⟩
          · cases q3 : allTo (hldI L) L.hold.length
            · have HR : Hid (ledS L = false) := hide (by rw [← led_same]; unfold ledI; rw [q3]; simp)
              go_enter Tryz.func10, Tryz.ntmps10
              go_wp2_with (first | (go_at_call 27; refine (accountsOk_any _ L _ _ g1 (HL.out.acc.below (below_of_box HX0.out))).mono ?_; rintro e wa ⟨rfl, hba⟩; have HXa : Hid _ := hide (box_grow HX0.out hba); obtain ⟨x0, x1, x2⟩ := boxCells HXa.out; clear hba) | (go_at_call 28; refine (seenOk_any _ L _ _ g3 (HL.out.seen.below (below_of_box HXa.out))).mono ?_; rintro e ws ⟨rfl, hbs⟩; have HXs : Hid _ := hide (box_grow HXa.out hbs); obtain ⟨y0, y1, y2⟩ := boxCells HXs.out; clear hbs) | (go_at_call 30; refine (bookOf_any _ _ _ _ _ _ L _ g1 g2 g3 (HL.out.below (below_of_box HXs.out)) (apart_of q1)).mono ?_; rintro e wb ⟨hbb, bq, rfl, hbook⟩; have HBk : Hid _ := hide hbook; have HXb : Hid _ := hide (below_trans (below_of_box HXs.out) hbb); clear hbb hbook) | (go_at_call 31; refine (holdsOk_any bq L t v _ g2 (apart_of q1) HBk.out (below_keeps HXb.out _ _ HG.out)).mono ?_; rintro e wh ⟨rfl, hbh⟩; have HXh : Hid _ := hide (below_trans HXb.out hbh); have HBh : Hid _ := hide (HBk.out.below hbh); clear hbh))
              go_ret
              exact ⟨by rw [HR.out]; rfl, HXh.out⟩
            · have HR : Hid (ledS L = L.acc.all (balI L)) := hide (by rw [← led_same]; unfold ledI; rw [q1, q2, q3]; simp [g1, g2, g3])
              go_enter Tryz.func10, Tryz.ntmps10
              go_wp2_with (first | (go_at_call 27; refine (accountsOk_any _ L _ _ g1 (HL.out.acc.below (below_of_box HX0.out))).mono ?_; rintro e wa ⟨rfl, hba⟩; have HXa : Hid _ := hide (box_grow HX0.out hba); obtain ⟨x0, x1, x2⟩ := boxCells HXa.out; clear hba) | (go_at_call 28; refine (seenOk_any _ L _ _ g3 (HL.out.seen.below (below_of_box HXa.out))).mono ?_; rintro e ws ⟨rfl, hbs⟩; have HXs : Hid _ := hide (box_grow HXa.out hbs); obtain ⟨y0, y1, y2⟩ := boxCells HXs.out; clear hbs) | (go_at_call 30; refine (bookOf_any _ _ _ _ _ _ L _ g1 g2 g3 (HL.out.below (below_of_box HXs.out)) (apart_of q1)).mono ?_; rintro e wb ⟨hbb, bq, rfl, hbook⟩; have HBk : Hid _ := hide hbook; have HXb : Hid _ := hide (below_trans (below_of_box HXs.out) hbb); clear hbb hbook) | (go_at_call 31; refine (holdsOk_any bq L t v _ g2 (apart_of q1) HBk.out (below_keeps HXb.out _ _ HG.out)).mono ?_; rintro e wh ⟨rfl, hbh⟩; have HXh : Hid _ := hide (below_trans HXb.out hbh); have HBh : Hid _ := hide (HBk.out.below hbh); clear hbh) | (go_at_call 32; refine (balancesOk_any bq L _ (smallH_hld g2 q3) (smallA_acc g1 q1) (accI_parts q1) (apart_of q1) HBh.out).mono ?_; rintro e wl ⟨rfl, hbl⟩; have HXl : Hid _ := hide (below_trans HXh.out hbl); clear hbl))
              go_ret
              exact ⟨by rw [HR.out]; rfl, HXl.out⟩
      · have HR : Hid (ledS L = false) := hide (by simp [ledS, g3])
        have g1' : (L.acc.length : Int) ≤ 12 := by omega
        have g2' : (L.hold.length : Int) ≤ 10 := by omega
        have g3' : ¬ (L.seen.length : Int) ≤ 40 := by omega
        go_enter Tryz.func10, Tryz.ntmps10
        go_wp2
        go_ret
        exact ⟨by rw [HR.out]; rfl, below_alloc (Below.refl _ _) _⟩
    · have HR : Hid (ledS L = false) := hide (by simp [ledS, g2])
      have g1' : (L.acc.length : Int) ≤ 12 := by omega
      have g2' : ¬ (L.hold.length : Int) ≤ 10 := by omega
      go_enter Tryz.func10, Tryz.ntmps10
      go_wp2
      go_ret
      exact ⟨by rw [HR.out]; rfl, below_alloc (Below.refl _ _) _⟩
  · have HR : Hid (ledS L = false) := hide (by simp [ledS, g1])
    have g1' : ¬ (L.acc.length : Int) ≤ 12 := by omega
    go_enter Tryz.func10, Tryz.ntmps10
    go_wp2
    go_ret
    exact ⟨by rw [HR.out]; rfl, below_alloc (Below.refl _ _) _⟩
end Go.Proofs.YteaopalhbnhbaaaGreatDoor
