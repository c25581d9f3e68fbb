/- The walk of the law FnExactTakeFrames. -/
import Derived.Test.YtmmefhigkeonaaaITk2
import Derived.Test.YtmmefhigkeonaaaStr
namespace Go.Proofs.Ytmmefhigkeonaaa
open Go.ChangeShapes Go.WideShapes Go.ChangeAt Go.RowKit
set_option linter.unusedVariables false
theorem bne_int (n : Int) : (n != n) = false := by simp
theorem frL_end : ∀ f (l : List UInt8), (frL f l).2 ≤ l.length
  | 0, l => by simp [frL]
  | f + 1, l => by
    rw [frL]
    split
    · rename_i k
      have := frL_end f (l.drop (8 + beN l))
      have := k.2.2.1
      simp at *; omega
    · simp
set_option maxRecDepth 100000 in
set_option maxHeartbeats 8000000 in
theorem walkTake (s : ByteArray) (w : World) (hm : s.size ≤ maxLen) :
    Calls Try.prog 4 #[.string s] w fun e w' => YesEnd w e w' := by
  unfold maxLen at hm
  by_cases h1 : 1048576 < (s.size : Int)
  · go_enter Try.func4, Try.ntmps4
    go_wp2
    go_ret
    exact ⟨rfl, Below.refl _ _⟩
  · have hs : s.size ≤ 1048576 := by omega
    have hM : (frames s).length ≤ 1048576 := by
      have := frames_len s (s.size + 1) s.data.toList
      rw [size_list] at this
      exact Nat.le_trans this hs
    have hE : ((framesEnd s : Nat) : Int) ≤ 1048576 := by
      have := frL_end (s.size + 1) s.data.toList
      rw [size_list] at this
      have h2 : framesEnd s ≤ s.size := this
      omega
    have HSM : Hid (∀ x : World, Calls Try.prog 7 #[.string s] x fun e w' => TakeEnd (frames s) (framesEnd s) x e w') := hide (fun x => specTake_any s x hs)
    have HIM : Hid (∀ x : World, Calls Try.prog 8 #[.string s] x fun e w' => TakeEnd (frames s) (framesEnd s) x e w') := hide (fun x => implTake_any s x hs)
    generalize frames s = M at *
    generalize framesEnd s = n at *
    have HM1 : Hid _ := hide hM
    have kn := bne_int (n : Int)
    clear hs
    go_enter Try.func4, Try.ntmps4
    go_wp2_with fail
    refine (HSM.out w).mono ?_
    rintro e w4 ⟨hb4, v4, rfl, g4, a4, c4, hg4, rfl, ho4⟩
    have HX4 : Hid _ := hide hb4
    have HS4 : Hid _ := hide ho4.rows
    clear hb4 hg4 ho4
    go_wp2_with fail
    refine (HIM.out w4).mono ?_
    rintro e w7 ⟨hb7, v7, rfl, g7, a7, c7, hg7, rfl, ho7⟩
    have HX7 : Hid _ := hide (below_trans HX4.out hb7)
    have HD7 : Hid _ := hide hb7
    have HG7 : Hid _ := hide hg7
    have HR7 : Hid _ := hide ho7
    clear hb7 hg7 ho7
    go_wp2_with fail
    refine (eqStringS_any _ _ M _ _ w7 HM1.out HR7.out.rows (HS4.out.below HD7.out)).mono ?_
    rintro e w8 ⟨rfl, hb8⟩
    have HX8 : Hid _ := hide (below_trans HX7.out hb8)
    have HD8 : Hid _ := hide (below_trans HD7.out hb8)
    have HR8 : Hid _ := hide (HR7.out.below hb8)
    clear hb8 HX7 HD7 HR7
    go_wp2_with fail
    refine (markStringS_any _ M _ g7 1 w8 HM1.out (by omega) (by omega) HR8.out).mono ?_
    rintro e w13 ⟨rfl, ht13, ho13⟩
    have HX13 : Hid (Below w.heap.size w w13) := hide (HX8.out.trans (ht13.below (Nat.le_trans HX4.out.size HG7.out) HX8.out.size))
    have HD13 : Hid (Below w4.heap.size w4 w13) := hide (HD8.out.trans (ht13.below HG7.out HD8.out.size))
    have HR13 : Hid _ := hide ho13
    clear ht13 ho13 HX8 HD8 HR8
    have k2 : ¬ (((1 : Nat) : Int) + (M.length : Int)) < 0 := by omega
    have k3 := bne_int (((1 : Nat) : Int) + (M.length : Int))
    go_wp2_with fail
    refine (heldStringS_any _ M.length _ 1 w13 HM1.out (by omega) (by omega) HR13.out.rows).mono ?_
    rintro e w14 ⟨rfl, hb14⟩
    have HX14 : Hid _ := hide (below_trans HX13.out hb14)
    have HD14 : Hid _ := hide (HD13.out.trans (hb14.mono HD13.out.size))
    have HR14 : Hid _ := hide (HR13.out.below hb14)
    clear hb14 HX13 HD13 HR13
    go_wp2_with fail
    refine (HIM.out w14).mono ?_
    rintro e w17 ⟨hb17, v17, rfl, g17, a17, c17, hg17, rfl, ho17⟩
    have HX17 : Hid _ := hide (below_trans HX14.out hb17)
    have HD17 : Hid _ := hide (HD14.out.trans (hb17.mono HD14.out.size))
    have HR17 : Hid _ := hide (HR14.out.below hb17)
    have HN17 : Hid _ := hide ho17.rows
    clear hb17 hg17 ho17 HX14 HD14 HR14
    go_wp2_with fail
    refine (eqStringS_any _ _ M _ _ w17 HM1.out HN17.out (HS4.out.below HD17.out)).mono ?_
    rintro e w18 ⟨rfl, hb18⟩
    have HX18 : Hid _ := hide (below_trans HX17.out hb18)
    have HR18 : Hid _ := hide (HR17.out.below hb18)
    clear hb18 HX17 HR17 HD17
    go_wp2_with fail
    refine (heldStringS_any _ M.length _ 1 w18 HM1.out (by omega) (by omega) HR18.out.rows).mono ?_
    rintro e w19 ⟨rfl, hb19⟩
    have HX19 : Hid _ := hide (below_trans HX18.out hb19)
    clear hb19
    go_wp2
    go_ret
    exact ⟨rfl, HX19.out⟩
end Go.Proofs.Ytmmefhigkeonaaa
