/- The contract of the model's LedgerText. -/
import Derived.Test.YteaopalhbnhbaaaGreatDoorH6
import Derived.Test.YteaopalhbnhbaaaGreatDoorGe
namespace Go.Proofs.YteaopalhbnhbaaaGreatDoor
open Go.ChangeShapes Go.WideShapes Go.ChangeAt Go.RowKit
set_option linter.unusedVariables false
set_option maxRecDepth 100000 in
set_option maxHeartbeats 8000000 in
theorem specLedText_any (a h s : Option Addr) (L : Led) (ca ch cs : Nat) (w : World) (hl : LedAt w a h s L) (n1 : L.acc.length ≤ 1048576) (n2 : L.hold.length ≤ 1048576) (n3 : L.seen.length ≤ 1048576) :
    Calls Tryz.prog 9 #[.agg #[.slice a L.acc.length ca, .slice h L.hold.length ch, .slice s L.seen.length cs]] w fun e w' => StrEnd (ledT L) w e w' := by
  have HL : Hid _ := hide hl
  clear hl
  have HX0 : Hid (Below (w.heap.size + 1) (w.alloc (.cells #[.slice a L.acc.length ca, .slice h L.hold.length ch, .slice s L.seen.length cs] 28)) (w.alloc (.cells #[.slice a L.acc.length ca, .slice h L.hold.length ch, .slice s L.seen.length cs] 28))) := hide (Below.refl _ _)
  cases q : ledS L
  · have HR : Hid (ledT L = []) := hide (by simp [ledT, q])
    go_enter Tryz.func9, Tryz.ntmps9
    go_wp2_with (first | (go_at_call 25; refine (specLedgerOk_any _ _ _ L _ _ _ _ (HL.out.below (below_of_box HX0.out)) n1 n2 n3).mono ?_; rintro e w1 ⟨rfl, hb1⟩; have HX1 : Hid _ := hide (box_grow HX0.out hb1); clear hb1))
    go_ret
    exact ⟨by rw [HR.out]; rfl, below_of_box HX1.out⟩
  · have HQ : Hid (ledS L = true) := hide q
    have HR : Hid (ledT L = body L L.acc.length L.hold.length L.seen.length) := hide (by rw [ledT, if_pos q])
    go_enter Tryz.func9, Tryz.ntmps9
    go_wp2_with (first | (go_at_call 25; refine (specLedgerOk_any _ _ _ L _ _ _ _ (HL.out.below (below_of_box HX0.out)) n1 n2 n3).mono ?_; rintro e w1 ⟨rfl, hb1⟩; have HX1 : Hid _ := hide (box_grow HX0.out hb1); clear hb1))
    clear q
    obtain ⟨⟨g1, g2, g3⟩, _⟩ := led_parts HQ.out
    go_wp2
    go_loopw [3, 4] (fun t i wr => ∃ k : Nat, k ≤ L.acc.length ∧ i = .int .i64 (k : Int) ∧ t = .string (bs (body L k 0 0)) ∧ Hid (Below (w.heap.size + 1) (w.alloc (.cells #[.slice a L.acc.length ca, .slice h L.hold.length ch, .slice s L.seen.length cs] 28)) wr)) (fun t i wr => L.acc.length - (intOf i).toNat)
    case atStart => exact ⟨0, Nat.zero_le _, rfl, rfl, HX1⟩
    case round =>
      obtain ⟨k, hk, rfl, rfl, HX⟩ := hrel
      obtain ⟨x0, x1, x2⟩ := box40 HX.out
      have hbl : (bs (body L k 0 0)).size ≤ 6000 := bs_sz (body_len HQ.out _ _ _)
      by_cases hlt : k < L.acc.length
      · obtain ⟨b, off, rfl, hb, d0, d1, d2, d3, _⟩ := (HL.out.acc.below (below_of_box HX.out)) k hlt
        have hlt' : (k : Int) < (L.acc.length : Int) := by omega
        obtain ⟨s1, s2, ⟨b1, b2⟩, b3, b4⟩ := acc_sm HQ.out hlt
        have l0 : (bs (Lib.itoa (L.acc[k]).limit)).size ≤ 17 := bs_sz (itoa_len (by omega) (by omega))
        have l1 : (bs (Lib.itoa (L.acc[k]).posted)).size ≤ 17 := bs_sz (itoa_len (by omega) (by omega))
        have HS : Hid (bs (body L k 0 0) ++ { data := #[97, 99, 99, 111, 117, 110, 116, 32] } ++ (L.acc[k]).name ++ { data := #[32] } ++ (L.acc[k]).cur ++ { data := #[32] } ++ bs (Lib.itoa (L.acc[k]).limit) ++ { data := #[32] } ++ bs (Lib.itoa (L.acc[k]).posted) ++ { data := #[10] } = bs (body L (k + 1) 0 0)) := hide (by apply bs_of; rw [body_acc hlt]; simp [bs_list, accLn, lineL, accW, Lib.join, List.intercalate])
        have k0 : ∀ y : Later (wr.alloc (.cells #[.string (L.acc[k]).name, .string (L.acc[k]).cur, .int .i64 (L.acc[k]).limit, .int .i64 (L.acc[k]).posted] 50)), y.w.cell? ⟨wr.heap.size, 0, none⟩ = some (.string (L.acc[k]).name) := fun y => below_keeps y.below _ _ (by simp)
        have k1 : ∀ y : Later (wr.alloc (.cells #[.string (L.acc[k]).name, .string (L.acc[k]).cur, .int .i64 (L.acc[k]).limit, .int .i64 (L.acc[k]).posted] 50)), y.w.cell? ⟨wr.heap.size, 1, none⟩ = some (.string (L.acc[k]).cur) := fun y => below_keeps y.below _ _ (by simp)
        have k2 : ∀ y : Later (wr.alloc (.cells #[.string (L.acc[k]).name, .string (L.acc[k]).cur, .int .i64 (L.acc[k]).limit, .int .i64 (L.acc[k]).posted] 50)), y.w.cell? ⟨wr.heap.size, 2, none⟩ = some (.int .i64 (L.acc[k]).limit) := fun y => below_keeps y.below _ _ (by simp)
        have k3 : ∀ y : Later (wr.alloc (.cells #[.string (L.acc[k]).name, .string (L.acc[k]).cur, .int .i64 (L.acc[k]).limit, .int .i64 (L.acc[k]).posted] 50)), y.w.cell? ⟨wr.heap.size, 3, none⟩ = some (.int .i64 (L.acc[k]).posted) := fun y => below_keeps y.below _ _ (by simp)
        have hne : Nonempty (Later (wr.alloc (.cells #[.string (L.acc[k]).name, .string (L.acc[k]).cur, .int .i64 (L.acc[k]).limit, .int .i64 (L.acc[k]).posted] 50))) := later_there _
        have HW : Hid (Below (w.heap.size + 1) (w.alloc (.cells #[.slice (some ⟨b, off, none⟩) L.acc.length ca, .slice h L.hold.length ch, .slice s L.seen.length cs] 28)) (wr.alloc (.cells #[.string (L.acc[k]).name, .string (L.acc[k]).cur, .int .i64 (L.acc[k]).limit, .int .i64 (L.acc[k]).posted] 50))) := hide (box_grow HX.out (below_alloc (Below.refl _ _) _))
        go_wp2_with fail
        refine wp_region_later (wr.alloc (.cells #[.string (L.acc[k]).name, .string (L.acc[k]).cur, .int .i64 (L.acc[k]).limit, .int .i64 (L.acc[k]).posted] 50)) (by kernel_rfl) (by kernel_rfl) ((Below.refl _ _).drew) ?_
        repeat (go_big_quiet_step (first | (go_at_call 26; exact later_of (l1Dec_all _ _ (by omega) (by omega)))))
        refine wpQuiet_nil ?_
        intro _ hw'
        obtain ⟨nx, rfl⟩ := hw'
        go_wp2
        exact ⟨⟨k + 1, by omega, by go_num, by rw [← HS.out], hide (box_grow HW.out nx.below)⟩, by simp [intOf]; omega⟩
      · have hk' : ¬ (k : Int) < (L.acc.length : Int) := by omega
        obtain rfl : k = L.acc.length := by omega
        go_wp2
        clear x0 x1 x2 hbl
        obtain ⟨w2, rfl⟩ : ∃ w2 : World, w2 = wr := ⟨_, rfl⟩
        go_loopw [3, 6] (fun t i wr => ∃ k : Nat, k ≤ L.hold.length ∧ i = .int .i64 (k : Int) ∧ t = .string (bs (body L L.acc.length k 0)) ∧ Hid (Below (w.heap.size + 1) (w.alloc (.cells #[.slice a L.acc.length ca, .slice h L.hold.length ch, .slice s L.seen.length cs] 28)) wr)) (fun t i wr => L.hold.length - (intOf i).toNat)
        case atStart => exact ⟨0, Nat.zero_le _, rfl, (by show Value.string (bs (body L L.acc.length 0 0)) = _; rfl), HX⟩
        case round =>
          obtain ⟨k, hk, rfl, rfl, HX⟩ := hrel
          obtain ⟨x0, x1, x2⟩ := box40 HX.out
          have hbl : (bs (body L L.acc.length k 0)).size ≤ 6000 := bs_sz (body_len HQ.out _ _ _)
          by_cases hlt : k < L.hold.length
          · obtain ⟨b, off, rfl, hb, d0, d1, d2, d3, _⟩ := (HL.out.hold.below (below_of_box HX.out)) k hlt
            have hlt' : (k : Int) < (L.hold.length : Int) := by omega
            obtain ⟨s1, s2, ⟨b1, b2⟩, b3, b4⟩ := hld_sm HQ.out hlt
            have l0 : (bs (Lib.itoa (L.hold[k]).id)).size ≤ 17 := bs_sz (itoa_len (by omega) (by omega))
            have l1 : (bs (Lib.itoa (L.hold[k]).amount)).size ≤ 17 := bs_sz (itoa_len (by omega) (by omega))
            have HS : Hid (bs (body L L.acc.length k 0) ++ { data := #[104, 111, 108, 100, 32] } ++ bs (Lib.itoa (L.hold[k]).id) ++ { data := #[32] } ++ (L.hold[k]).fr ++ { data := #[32] } ++ (L.hold[k]).to ++ { data := #[32] } ++ bs (Lib.itoa (L.hold[k]).amount) ++ { data := #[10] } = bs (body L L.acc.length (k + 1) 0)) := hide (by apply bs_of; rw [body_hold hlt]; simp [bs_list, hldLn, lineL, hldW, Lib.join, List.intercalate])
            have k0 : ∀ y : Later (wr.alloc (.cells #[.int .i64 (L.hold[k]).id, .string (L.hold[k]).fr, .string (L.hold[k]).to, .int .i64 (L.hold[k]).amount] 53)), y.w.cell? ⟨wr.heap.size, 0, none⟩ = some (.int .i64 (L.hold[k]).id) := fun y => below_keeps y.below _ _ (by simp)
            have k1 : ∀ y : Later (wr.alloc (.cells #[.int .i64 (L.hold[k]).id, .string (L.hold[k]).fr, .string (L.hold[k]).to, .int .i64 (L.hold[k]).amount] 53)), y.w.cell? ⟨wr.heap.size, 1, none⟩ = some (.string (L.hold[k]).fr) := fun y => below_keeps y.below _ _ (by simp)
            have k2 : ∀ y : Later (wr.alloc (.cells #[.int .i64 (L.hold[k]).id, .string (L.hold[k]).fr, .string (L.hold[k]).to, .int .i64 (L.hold[k]).amount] 53)), y.w.cell? ⟨wr.heap.size, 2, none⟩ = some (.string (L.hold[k]).to) := fun y => below_keeps y.below _ _ (by simp)
            have k3 : ∀ y : Later (wr.alloc (.cells #[.int .i64 (L.hold[k]).id, .string (L.hold[k]).fr, .string (L.hold[k]).to, .int .i64 (L.hold[k]).amount] 53)), y.w.cell? ⟨wr.heap.size, 3, none⟩ = some (.int .i64 (L.hold[k]).amount) := fun y => below_keeps y.below _ _ (by simp)
            have hne : Nonempty (Later (wr.alloc (.cells #[.int .i64 (L.hold[k]).id, .string (L.hold[k]).fr, .string (L.hold[k]).to, .int .i64 (L.hold[k]).amount] 53))) := later_there _
            have HW : Hid (Below (w.heap.size + 1) (w.alloc (.cells #[.slice a L.acc.length ca, .slice (some ⟨b, off, none⟩) L.hold.length ch, .slice s L.seen.length cs] 28)) (wr.alloc (.cells #[.int .i64 (L.hold[k]).id, .string (L.hold[k]).fr, .string (L.hold[k]).to, .int .i64 (L.hold[k]).amount] 53))) := hide (box_grow HX.out (below_alloc (Below.refl _ _) _))
            go_wp2_with fail
            refine wp_region_later (wr.alloc (.cells #[.int .i64 (L.hold[k]).id, .string (L.hold[k]).fr, .string (L.hold[k]).to, .int .i64 (L.hold[k]).amount] 53)) (by kernel_rfl) (by kernel_rfl) ((Below.refl _ _).drew) ?_
            repeat (go_big_quiet_step (first | (go_at_call 26; exact later_of (l1Dec_all _ _ (by omega) (by omega)))))
            refine wpQuiet_nil ?_
            intro _ hw'
            obtain ⟨nx, rfl⟩ := hw'
            go_wp2
            exact ⟨⟨k + 1, by omega, by go_num, by rw [← HS.out], hide (box_grow HW.out nx.below)⟩, by simp [intOf]; omega⟩
          · have hk' : ¬ (k : Int) < (L.hold.length : Int) := by omega
            obtain rfl : k = L.hold.length := by omega
            go_wp2
            clear x0 x1 x2 hbl
            obtain ⟨w3, rfl⟩ : ∃ w3 : World, w3 = wr := ⟨_, rfl⟩
            go_loopw [3, 8] (fun t i wr => ∃ k : Nat, k ≤ L.seen.length ∧ i = .int .i64 (k : Int) ∧ t = .string (bs (body L L.acc.length L.hold.length k)) ∧ Hid (Below (w.heap.size + 1) (w.alloc (.cells #[.slice a L.acc.length ca, .slice h L.hold.length ch, .slice s L.seen.length cs] 28)) wr)) (fun t i wr => L.seen.length - (intOf i).toNat)
            case atStart => exact ⟨0, Nat.zero_le _, rfl, (by show Value.string (bs (body L L.acc.length L.hold.length 0)) = _; rfl), HX⟩
            case round =>
              obtain ⟨k, hk, rfl, rfl, HX⟩ := hrel
              obtain ⟨x0, x1, x2⟩ := box40 HX.out
              have hbl : (bs (body L L.acc.length L.hold.length k)).size ≤ 6000 := bs_sz (body_len HQ.out _ _ _)
              by_cases hlt : k < L.seen.length
              · obtain ⟨b, off, rfl, hb, d0, d1, _, _⟩ := (HL.out.seen.below (below_of_box HX.out)) k hlt
                have hlt' : (k : Int) < (L.seen.length : Int) := by omega
                obtain ⟨⟨b1, b2⟩, b3, b4⟩ := ans_sm HQ.out hlt
                have l0 : (bs (Lib.itoa (L.seen[k]).id)).size ≤ 17 := bs_sz (itoa_len (by omega) (by omega))
                have l1 : (bs (Lib.itoa (L.seen[k]).code)).size ≤ 17 := bs_sz (itoa_len (by omega) (by omega))
                have HS : Hid (bs (body L L.acc.length L.hold.length k) ++ { data := #[115, 101, 101, 110, 32] } ++ bs (Lib.itoa (L.seen[k]).id) ++ { data := #[32] } ++ bs (Lib.itoa (L.seen[k]).code) ++ { data := #[10] } = bs (body L L.acc.length L.hold.length (k + 1))) := hide (by apply bs_of; rw [body_seen hlt]; simp [bs_list, ansLn, lineL, ansW, Lib.join, List.intercalate])
                have k0 : ∀ y : Later wr, y.w.cell? ⟨b, off + k * 2, none⟩ = some (.int .i64 (L.seen[k]).id) := fun y => below_keeps y.below _ _ d0
                have k1 : ∀ y : Later wr, y.w.cell? ⟨b, off + k * 2 + 1, none⟩ = some (.int .i64 (L.seen[k]).code) := fun y => below_keeps y.below _ _ d1
                have k2 : ∀ y : Later wr, y.w.cell? ⟨w.heap.size, 2, none⟩ = some (.slice (some ⟨b, off, none⟩) L.seen.length cs) := fun y => below_keeps y.below _ _ x2
                have hne : Nonempty (Later wr) := later_there _
                have HW := HX
                go_wp2_with fail
                refine wp_region_later wr (by kernel_rfl) (by kernel_rfl) ((Below.refl _ _).drew) ?_
                repeat (go_big_quiet_step (first | (go_at_call 26; exact later_of (l1Dec_all _ _ (by omega) (by omega)))))
                refine wpQuiet_nil ?_
                intro _ hw'
                obtain ⟨nx, rfl⟩ := hw'
                go_wp2
                exact ⟨⟨k + 1, by omega, by go_num, by rw [← HS.out], hide (box_grow HW.out nx.below)⟩, by simp [intOf]; omega⟩
              · have hk' : ¬ (k : Int) < (L.seen.length : Int) := by omega
                obtain rfl : k = L.seen.length := by omega
                go_wp2
                go_ret
                exact ⟨by rw [HR.out]; rfl, below_of_box HX.out⟩
end Go.Proofs.YteaopalhbnhbaaaGreatDoor
