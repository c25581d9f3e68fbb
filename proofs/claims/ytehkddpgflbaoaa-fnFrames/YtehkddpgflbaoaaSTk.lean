/- The contract of the model's TakeFrames. -/
import Derived.Test.YtehkddpgflbaoaaFr
import Derived.Deep.QuietTactic
import Derived.BigQuiet
namespace Go.Proofs.Ytehkddpgflbaoaa
open Go.ChangeShapes Go.WideShapes Go.ChangeAt Go.RowKit
set_option linter.unusedVariables false
theorem drop_getD (l : List UInt8) (p j : Nat) : (l.drop p).getD j 0 = l.getD (p + j) 0 := by
  simp [List.getD, List.getElem?_drop]
theorem byte_at (s : ByteArray) (i : Nat) (h : i < s.size) : (s.data.toList.getD i 0) = s[i] := by
  simp only [List.getD]
  rw [List.getElem?_eq_getElem (by rw [size_list]; exact h)]
  rfl
set_option maxRecDepth 100000 in
set_option maxHeartbeats 4000000 in
theorem specTake_any (s : ByteArray) (w : World) (hs : s.size ≤ 1048576) :
    Calls Try.prog 7 #[.string s] w fun e w' => TakeEnd (frames s) (framesEnd s) w e w' := by
  obtain ⟨i0, hinfo, hz0, hz1, hz2⟩ := info_parts info9
  have hu := hu24
  go_enter Try.func7, Try.ntmps7
  go_wp2
  go_loopw [4, 5] (fun v i wr => ∃ (l : List ByteArray) (p : Nat), i = .int .i64 (p : Int) ∧ p ≤ s.size ∧ Hid (Rest s l p) ∧ Hid (wr.ownsRow w.heap.size 9 1 v l.length (l.flatMap strCells)) ∧ Hid (Below w.heap.size w wr)) (fun v i wr => s.size - (intOf i).toNat)
  case atStart => exact ⟨[], 0, rfl, Nat.zero_le _, hide (rest_start s), hide (World.ownsRow_made w #[] 0 (Nat.le_refl _) (by unfold maxLen; omega) rfl), hide (below_alloc (Below.refl _ _) _)⟩
  case round =>
    obtain ⟨l, p, rfl, hp, HR, HO, HB⟩ := hrel
    obtain ⟨va, vc, rfl⟩ := row_shape HO.out
    by_cases h8 : p + 8 ≤ s.size
    · have h8' : (p : Int) + 8 ≤ (s.size : Int) := by omega
      go_wp2
      go_loop [6, 7] (fun c i => ∃ (j x : Nat), j ≤ 4 ∧ i = .int .i64 j ∧ c = .int .i64 (x : Int) ∧ Hid (x = beK (s.data.toList.drop p) j)) (fun c i => 4 - (intOf i).toNat)
      case atStart => exact ⟨0, 0, by omega, rfl, rfl, hide rfl⟩
      case round =>
        obtain ⟨j, x, hj, rfl, rfl, HX⟩ := hrel
        by_cases hj4 : j < 4
        · have hb : p + j < s.size := by omega
          have hj4' : (j : Int) < 4 := by omega
          have HN : Hid (256 * x + s[p + j].toNat = beK (s.data.toList.drop p) (j + 1)) := hide (by rw [beK, ← HX.out, drop_getD, byte_at s _ hb])
          have hx3 : (x : Int) ≤ 16777215 := by
            have e := HX.out
            have := beK_lt (s.data.toList.drop p) j
            have h3 : (256 : Nat) ^ j ≤ 256 ^ 3 := Nat.pow_le_pow_right (by omega) (by omega)
            have h4 : (256 : Nat) ^ 3 = 16777216 := by decide
            omega
          have hx0 : 0 ≤ (x : Int) := by omega
          have hb255 : (s[p + j].toNat : Int) ≤ 255 := by have := s[p + j].toNat_lt; omega
          go_wp2
          exact ⟨⟨j + 1, 256 * x + s[p + j].toNat, by omega, by go_num, by go_num, HN⟩, by simp [intOf]; omega⟩
        · have hj4' : ¬ (j : Int) < 4 := by omega
          have HN : Hid (x = beN (s.data.toList.drop p)) := hide (by have := HX.out; rwa [show j = 4 by omega] at this)
          have hx0 : 0 ≤ (x : Int) := by omega
          have hx4 : (x : Int) ≤ 4294967295 := by have := beN_lt (s.data.toList.drop p); have := HN.out; omega
          have HST : Hid (¬ okL (s.data.toList.drop p) → ∀ wx, Below wr.heap.size wr wx → TakeEnd (frames s) (framesEnd s) w (.returned (.tuple #[.slice va l.length vc, .int .i64 (p : Int)])) wx) := hide (fun k wx hbx => by
            obtain ⟨e1, e2⟩ := HR.out.stop k
            obtain ⟨g, ga, gc, hg, e, hown⟩ := own_of_row strLen HO.out
            rw [← e1, ← e2]
            exact ⟨below_trans HB.out hbx, _, rfl, g, ga, gc, hg, e, hown.below hbx⟩)
          have HOK : Hid (okL (s.data.toList.drop p) ↔ x ≤ 100000 ∧ p + 8 + x ≤ s.size ∧ le4 (crc (s.extract (p + 8) (p + 8 + x)).data.toList) = s.extract (p + 4) (p + 8)) := hide (by
            unfold okL
            rw [← HN.out, List.length_drop, size_list, List.drop_drop, List.drop_drop, extract_list, show p + 8 + x - (p + 8) = x by omega]
            have e : s.extract (p + 4) (p + 8) = bs ((s.data.toList.drop (p + 4)).take 4) := bs_of (by rw [extract_list, show p + 8 - (p + 4) = 4 by omega])
            rw [e]
            constructor
            · rintro ⟨_, b, c, d⟩; exact ⟨b, by omega, d⟩
            · rintro ⟨b, c, d⟩; exact ⟨by omega, b, by omega, d⟩)
          by_cases hA : x ≤ 100000
          · have hA1 : (x : Int) ≤ 100000 := by omega
            have hA' : decide ((100000 : Int) < (x : Int)) = false := by simp; omega
            by_cases hC : p + 8 + x ≤ s.size
            · have hC1 : (p : Int) + 8 + (x : Int) ≤ (s.size : Int) := by omega
              have hC' : decide ((s.size : Int) < (p : Int) + 8 + (x : Int)) = false := by simp; omega
              have hne : Nonempty (Later wr) := later_there _
              have HCL : Hid (∀ wx, Calls Try.prog 18 #[.string (s.extract (p + 8) (p + 8 + x))] wx fun e w'' => e = .returned (.string (le4 (crc (s.extract (p + 8) (p + 8 + x)).data.toList))) ∧ Below wx.heap.size wx w'') := hide (fun wx => (l9Sum_any _ wx (by rw [ByteArray.size_extract]; unfold maxLen; omega)).mono fun _ _ h => ⟨h.1, h.2.below⟩)
              have HZS : Hid ((le4 (crc (s.extract (p + 8) (p + 8 + x)).data.toList)).size = 4) := hide rfl
              generalize le4 (crc (s.extract (p + 8) (p + 8 + x)).data.toList) = Z at HCL HOK HZS
              by_cases hE : Z = s.extract (p + 4) (p + 8)
              · have HK : Hid (okL (s.data.toList.drop p)) := hide (HOK.out.2 ⟨hA, hC, hE⟩)
                have hE' : (Z.toList == (s.extract (p + 4) (p + 8)).toList) = true := beq_bytes.2 hE
                have HXT : Hid (s.extract (p + 8) (p + 8 + x) = bs (((s.data.toList.drop p).drop 8).take (beN (s.data.toList.drop p)))) := hide (bs_of (by rw [extract_list, ← HN.out, List.drop_drop, show p + 8 + x - (p + 8) = x by omega]))
                have HST2 : Hid _ := hide (HR.out.step HK.out)
                have hlen : l.length ≤ 1048576 := by have := HR.out.len; omega
                clear hE HOK
                go_wp2_with fail
                refine wp_region_later wr (by kernel_rfl) (by kernel_rfl) ((Below.refl _ _).drew) ?_
                repeat (go_big_quiet_step (first | (go_at_call 18; exact later_of (HCL.out _))))
                refine wpQuiet_nil ?_
                intro _ hw'
                obtain ⟨nx, rfl⟩ := hw'
                have HB3 : Hid _ := hide (below_trans HB.out nx.below)
                have HO3 : Hid _ := hide (own_keep HO.out nx.below)
                generalize nx.w = w3 at *
                clear nx
                go_wp2_with (first | (at_builtin; refine Shut2.mk ?_) | fail)
                refine Shut2.mk' ?_
                refine wpList_append_own_at _ rfl _ _ 25 rfl w.heap.size 9 i0 _ 1 16 hu hinfo hz0 hz1 hz2 rfl (by decide) (.slice va l.length vc) l.length (l.flatMap strCells) rfl ?own ⟨w3.heap.size, 0, none⟩ 1 1 [.string (s.extract (p + 8) (p + 8 + x))] rfl rfl ?news (str_one [_]) (by unfold maxLen; omega) (by omega) ?base ?_
                case own => exact own_keep HO3.out (below_alloc (Below.refl _ _) _)
                case news =>
                  intro j u hj
                  match j, hj with
                  | 0, hj => simp only [List.getElem?_cons_zero, Option.some.injEq] at hj; subst hj; rw [addr_add]; exact World.cell?_alloc_at _ _ _ _ rfl
                  | j + 1, hj => simp at hj
                case base => have := HB3.out.size; simp; omega
                intro v4 w4 ho4 hg4 _ _
                have HB4 : Hid (Below w.heap.size w w4) := hide (below_grown hg4 (below_alloc HB3.out _) (fun j hj => own_base HO3.out j hj))
                have HO4 : Hid (w4.ownsRow w.heap.size 9 1 v4 (l ++ [bs (((s.data.toList.drop p).drop 8).take (beN (s.data.toList.drop p)))]).length ((l ++ [bs (((s.data.toList.drop p).drop 8).take (beN (s.data.toList.drop p)))]).flatMap strCells)) := hide (by
                  rw [← HXT.out, List.flatMap_append]
                  simpa [strCells] using ho4)
                clear ho4 hg4
                have HN2 : Hid _ := hide HN.out
                go_wp2
                refine ⟨⟨_, p + 8 + x, by go_num, by omega, hide ?_, HO4, HB4⟩, by simp [intOf]; omega⟩
                have := HST2.out
                rw [← HN2.out] at this ⊢
                exact this
              · have hE' : (Z.toList == (s.extract (p + 4) (p + 8)).toList) = false := beq_no hE
                have HF : Hid _ := hide (HST.out (fun k => hE (HOK.out.1 k).2.2))
                clear hE HOK
                go_wp2_with fail
                refine wp_region_later wr (by kernel_rfl) (by kernel_rfl) ((Below.refl _ _).drew) ?_
                repeat (go_big_quiet_step (first | (go_at_call 18; exact later_of (HCL.out _))))
                refine wpQuiet_nil ?_
                intro _ hw'
                obtain ⟨nx, rfl⟩ := hw'
                have HF2 : Hid _ := hide (HF.out nx.w nx.below)
                go_wp2
                go_ret2
                exact HF2.out
            · have hC1 : (s.size : Int) < (p : Int) + 8 + (x : Int) := by omega
              have hC' : decide ((s.size : Int) < (p : Int) + 8 + (x : Int)) = true := by simp; omega
              have HF : Hid _ := hide (HST.out (fun k => hC (HOK.out.1 k).2.1))
              go_wp2_with fail
              go_quiet (fail)
              go_wp2
              go_ret2
              exact HF.out _ (below_drewN (Below.refl _ _) _)
          · have hA' : decide ((100000 : Int) < (x : Int)) = true := by simp; omega
            have HF : Hid _ := hide (HST.out (fun k => hA (HOK.out.1 k).1))
            go_wp2_with fail
            go_quiet (fail)
            go_wp2
            go_ret2
            exact HF.out _ (below_drewN (Below.refl _ _) _)
    · have h8' : ¬ (p : Int) + 8 ≤ (s.size : Int) := by omega
      have HF : Hid (TakeEnd (frames s) (framesEnd s) w (.returned (.tuple #[.slice va l.length vc, .int .i64 (p : Int)])) wr) := hide (by
        obtain ⟨e1, e2⟩ := HR.out.stop (fun k => by have := k.1; rw [List.length_drop, size_list] at this; omega)
        obtain ⟨g, ga, gc, hg, e, hown⟩ := own_of_row strLen HO.out
        rw [← e1, ← e2]
        exact ⟨HB.out, _, rfl, g, ga, gc, hg, e, hown⟩)
      go_wp2
      go_ret2
      exact HF.out
end Go.Proofs.Ytehkddpgflbaoaa
