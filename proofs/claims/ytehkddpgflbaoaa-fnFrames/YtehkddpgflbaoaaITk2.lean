/- The contract of the program's TakeFrames. -/
import Derived.Test.YtehkddpgflbaoaaITk
namespace Go.Proofs.Ytehkddpgflbaoaa
open Go.ChangeShapes Go.WideShapes Go.ChangeAt Go.RowKit
set_option linter.unusedVariables false
theorem clone_any (s : ByteArray) (w : World) (hs : s.size ≤ 1048576) :
    Calls Try.prog 17 #[.string s] w fun e w' => e = .returned (.string s) ∧ Below w.heap.size w w' := by
  go_enter Try.func17, Try.ntmps17
  go_wp2_with fail
  refine (Try.stringslite_Clone s w (by omega)).mono ?_
  rintro e w1 ⟨rfl, hb⟩
  have HB : Hid _ := hide hb
  clear hb
  go_wp2
  go_ret
  exact ⟨rfl, HB.out⟩
set_option maxRecDepth 100000 in
set_option maxHeartbeats 4000000 in
theorem implTake_any (s : ByteArray) (w : World) (hs : s.size ≤ 1048576) :
    Calls Try.prog 6 #[.string s] w fun e w' => TakeEnd (frames s) (framesEnd s) w e w' := by
  obtain ⟨i0, hinfo, hz0, hz1, hz2⟩ := info_parts info9
  have hu := hu24
  go_enter Try.func6, Try.ntmps6
  go_wp2
  go_loopw [4, 5] (fun v i wr => ∃ (l : List ByteArray) (p : Nat), i = .int .i64 (p : Int) ∧ p ≤ s.size ∧ Hid (Rest s l p) ∧ Hid (wr.ownsRow w.heap.size 9 1 v l.length (l.flatMap strCells)) ∧ Hid (Below w.heap.size w wr)) (fun v i wr => s.size - (intOf i).toNat)
  case atStart => exact ⟨[], 0, rfl, Nat.zero_le _, hide (rest_start s), hide (World.ownsRow_nil _ _ _ _), hide (Below.refl _ _)⟩
  case round =>
    obtain ⟨l, p, rfl, hp, HR, HO, HB⟩ := hrel
    obtain ⟨va, vc, rfl⟩ := row_shape HO.out
    have hp' : (p : Int) ≤ (s.size : Int) := by omega
    have HXS : Hid ((s.extract p s.size).data.toList = s.data.toList.drop p) := hide (by rw [extract_list]; exact List.take_of_length_le (by rw [List.length_drop, size_list]; omega))
    have HXZ : Hid ((s.extract p s.size).size ≤ 1048576) := hide (by rw [ByteArray.size_extract]; omega)
    go_wp2_with fail
    refine (firstFrame_any _ _ HXZ.out).mono ?_
    rintro e w1 ⟨hb1, ⟨hk, rfl⟩ | ⟨hk, d, rfl⟩⟩
    · rw [HXS.out] at hk
      rw [HXS.out]
      have HB1 : Hid _ := hide (below_trans HB.out hb1)
      have HO1 : Hid _ := hide (own_keep HO.out hb1)
      have HST2 : Hid _ := hide (HR.out.step hk)
      have hlen : l.length ≤ 1048576 := by have := HR.out.len; omega
      have HLN : Hid (8 + beN (s.data.toList.drop p) ≤ s.size - p) := hide (by have := hk.2.2.1; rwa [List.length_drop, size_list] at this)
      have hln : beN (s.data.toList.drop p) ≤ 1048576 := by have := HLN.out; omega
      have HDZ : Hid ((bs (((s.data.toList.drop p).drop 8).take (beN (s.data.toList.drop p)))).size = beN (s.data.toList.drop p)) := hide (by
        have := HLN.out
        rw [bs_size, List.length_take, List.length_drop, List.length_drop, size_list]; omega)
      clear hb1 hk
      generalize bs (((s.data.toList.drop p).drop 8).take (beN (s.data.toList.drop p))) = d at *
      generalize beN (s.data.toList.drop p) = n at *
      go_wp2_with fail
      refine (clone_any d w1 (by rw [HDZ.out]; exact hln)).mono ?_
      rintro e w3 ⟨rfl, hb3⟩
      have HB3 : Hid _ := hide (below_trans HB1.out hb3)
      have HO3 : Hid _ := hide (own_keep HO1.out hb3)
      clear hb3
      go_wp2_with (first | (at_builtin; refine Shut2.mk ?_) | fail)
      refine Shut2.mk' ?_
      refine wpList_append_own_at _ rfl _ _ 25 rfl w.heap.size 9 i0 _ 1 16 hu hinfo hz0 hz1 hz2 rfl (by decide) (.slice va l.length vc) l.length (l.flatMap strCells) rfl ?own ⟨w3.heap.size, 0, none⟩ 1 1 [.string d] rfl rfl ?news (str_one [_]) (by unfold maxLen; omega) (by omega) ?base ?_
      case own => exact own_keep HO3.out (below_alloc (Below.refl _ _) _)
      case news =>
        intro j u hj
        match j, hj with
        | 0, hj => simp only [List.getElem?_cons_zero, Option.some.injEq] at hj; subst hj; rw [addr_add]; exact World.cell?_alloc_at _ _ _ _ rfl
        | j + 1, hj => simp at hj
      case base => have := HB3.out.size; simp; omega
      intro v4 w4 ho4 hg4 _ _
      have HB4 : Hid (Below w.heap.size w w4) := hide (below_grown hg4 (below_alloc HB3.out _) (fun j hj => own_base HO3.out j hj))
      have HO4 : Hid (w4.ownsRow w.heap.size 9 1 v4 (l ++ [d]).length ((l ++ [d]).flatMap strCells)) := hide (by
        rw [List.flatMap_append]
        simpa [strCells] using ho4)
      clear ho4 hg4
      have hdz : (d.size : Int) = (n : Int) := by rw [HDZ.out]
      have hdz2 : (d.size : Int) ≤ 1048576 := by omega
      have HDI : Hid _ := hide hdz
      clear hdz
      have HP8 : Hid (p + 8 + n ≤ s.size) := hide (by have := HLN.out; omega)
      go_wp2
      exact ⟨⟨_, p + 8 + n, by have := HDI.out; go_num, HP8.out, HST2, HO4, HB4⟩, by have := HDI.out; have := HP8.out; simp [intOf]; omega⟩
    · rw [HXS.out] at hk
      have HF : Hid (TakeEnd (frames s) (framesEnd s) w (.returned (.tuple #[.slice va l.length vc, .int .i64 (p : Int)])) w1) := hide (by
        obtain ⟨e1, e2⟩ := HR.out.stop hk
        obtain ⟨g, ga, gc, hg, e, hown⟩ := own_of_row strLen HO.out
        rw [← e1, ← e2]
        exact ⟨below_trans HB.out hb1, _, rfl, g, ga, gc, hg, e, hown.below hb1⟩)
      clear hk hb1
      go_wp2
      go_ret2
      exact HF.out
end Go.Proofs.Ytehkddpgflbaoaa
