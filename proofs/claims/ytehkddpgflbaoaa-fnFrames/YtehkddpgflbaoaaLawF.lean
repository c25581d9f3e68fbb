/- The walk of the law FnFrames. -/
import Derived.Test.YtehkddpgflbaoaaDrw
namespace Go.Proofs.Ytehkddpgflbaoaa
open Go.ChangeShapes Go.WideShapes Go.ChangeAt Go.RowKit
set_option linter.unusedVariables false
theorem big_any (a : Option Addr) (len cap : Nat) (w : World) : Calls Try.prog 4 #[.slice a len cap] w fun e w' => e = .returned (.bool (decide (1048576 < (len : Int)))) ∧ w' = w := by
  go_enter Try.func4, Try.ntmps4
  go_wp2
  go_ret
  exact ⟨rfl, rfl⟩
theorem bne_int (n : Int) : (n != n) = false := by simp
theorem beq_int (n : Int) : (n == n) = true := by simp
theorem catL_append (a b : List ByteArray) : catL (a ++ b) = catL a ++ catL b := by simp [catL]
theorem catL_take_len (l : List ByteArray) (k : Nat) : (catL (l.take k)).length ≤ (catL l).length := by
  have := congrArg (fun x => (catL x).length) (List.take_append_drop k l)
  simp only [catL_append, List.length_append] at this
  omega
theorem bs_more (x : List UInt8) (d : ByteArray) : bs x ++ d = bs (x ++ d.data.toList) := bs_of (by simp [bs])
theorem RowAt.take1 {w : World} {a : Option Addr} {l : List ByteArray} (h : RowAt 1 strCells w a l) (k : Nat) : RowAt 1 strCells w a (l.take k) := fun i hi => by
  have hi' : i < l.length := by simp at hi; omega
  have e : (l.take k)[i] = l[i] := by simp
  rw [e]; exact h i hi'
/-- what the law asks of a drawn text s, of another one t, and of a place k to cut at -/
structure Facts (s t : ByteArray) (k : Nat) (M : List ByteArray) (n : Nat) (A : ByteArray) (P : List ByteArray) : Prop where
  all : A = s.extract 0 n
  asz : A.size = n
  one : frames (A ++ frame t) = M ++ [t]
  ends : framesEnd (A ++ frame t) = n + (frame t).size
  few : frames (A.extract 0 k) = P
  pre : P = M.take P.length
  plen : P.length ≤ M.length
theorem facts (s t : ByteArray) (k : Nat) (ht : t.size ≤ 100) : Facts s t k (frames s) (framesEnd s) (bs (catL (frames s))) (frames ((bs (catL (frames s))).extract 0 k)) := by
  have hs := frames_small s
  have e1 := frames_cat (frames s ++ [t]) (fun d hd => by
    rcases List.mem_append.1 hd with h | h
    · exact hs d h
    · simp at h; subst h; omega)
  have ea : bs (catL (frames s)) ++ frame t = bs (catL (frames s ++ [t])) := by rw [bs_more, catL_snoc]
  have e0 := frames_cat (frames s) hs
  have hp := frames_pre (bs (catL (frames s))) k
  rw [e0.1] at hp
  refine ⟨frames_take s, by rw [bs_size, cat_frames_len], by rw [ea]; exact e1.1, ?_, rfl, (List.prefix_iff_eq_take.1 hp), hp.length_le⟩
  rw [ea, e1.2, catL_snoc, List.length_append, cat_frames_len, size_list]
set_option maxRecDepth 100000 in
set_option maxHeartbeats 8000000 in
theorem walkFrames (a : Option Addr) (len cap : Nat) (w : World) (h : IsCode w a len) :
    Calls Try.prog 3 #[.slice a len cap] w fun e w' => YesEnd w e w' := by
  have HC : Hid _ := hide h
  have hl63 : (len : Int) ≤ 9223372036854775807 := by have := h.1; omega
  clear h
  by_cases hbig : 1048576 < (len : Int)
  · have hd : decide (1048576 < (len : Int)) = true := by simp; omega
    go_enter Try.func3, Try.ntmps3
    go_wp2_with fail
    refine (big_any _ _ _ _).mono ?_
    rintro e w1 ⟨rfl, hw1⟩
    have hw1' := hw1.symm
    subst hw1'
    go_wp2
    go_ret
    exact ⟨rfl, Below.refl _ _⟩
  · have hd : decide (1048576 < (len : Int)) = false := by simp; omega
    go_enter Try.func3, Try.ntmps3
    go_wp2_with fail
    refine (big_any _ _ _ _).mono ?_
    rintro e w1 ⟨rfl, hw1⟩
    have hw1' := hw1.symm
    subst hw1'
    go_wp2_with fail
    refine (drawTake_any a len cap w HC.out).mono ?_
    rintro e w2 ⟨⟨s, hs, rfl⟩, hb2⟩
    have HX2 : Hid _ := hide hb2
    have HFA : Hid (∀ t k, t.size ≤ 100 → Facts s t k (frames s) (framesEnd s) (bs (catL (frames s))) (frames ((bs (catL (frames s))).extract 0 k))) := hide (fun t k ht => facts s t k ht)
    have HSM : Hid (∀ x : World, Calls Try.prog 7 #[.string s] x fun e w' => TakeEnd (frames s) (framesEnd s) x e w') := hide (fun x => specTake_any s x (by omega))
    have HIM : Hid (∀ x : World, Calls Try.prog 6 #[.string s] x fun e w' => TakeEnd (frames s) (framesEnd s) x e w') := hide (fun x => implTake_any s x (by omega))
    have hnle : (framesEnd s : Int) ≤ (s.size : Int) := by have := frames_end_le s; omega
    have hs' : (s.size : Int) ≤ 100 := by omega
    have HCT : Hid ((catL (frames s)).length ≤ 100) := hide (by rw [cat_frames_len]; omega)
    have HSM2 : Hid _ := hide (frames_small s)
    have hML : (frames s).length ≤ 100 := by have := cat_len (frames s); have := HCT.out; omega
    have hML' : ((frames s).length : Int) ≤ 100 := by omega
    clear hb2
    generalize frames s = M at *
    generalize framesEnd s = n at *
    have kn := bne_int (n : Int)
    have kd : decide ((s.size : Int) < (n : Int)) = false := by simp; omega
    have kd2 : decide (s.size < n) = false := by simp; omega
    go_wp2_with fail
    refine (HIM.out w2).mono ?_
    rintro e w3 ⟨hb3, v3, rfl, g3, a3, c3, hg3, rfl, ho3⟩
    have HX3 : Hid _ := hide (below_trans HX2.out hb3)
    have HR3 : Hid _ := hide ho3
    clear hb3 hg3 ho3 HX2
    go_wp2_with fail
    refine (HSM.out w3).mono ?_
    rintro e w4 ⟨hb4, v4, rfl, g4, a4, c4, hg4, rfl, ho4⟩
    have HX4 : Hid _ := hide (below_trans HX3.out hb4)
    have HR4 : Hid _ := hide (HR3.out.below hb4)
    have HS4 : Hid _ := hide ho4.rows
    clear hb4 hg4 ho4 HX3 HR3
    go_wp2_with fail
    refine (sameTexts_any _ _ M _ _ w4 (by omega) HR4.out.rows HS4.out).mono ?_
    rintro e w5 ⟨rfl, hb5⟩
    have HX5 : Hid _ := hide (below_trans HX4.out hb5)
    have HR5 : Hid _ := hide (HR4.out.below hb5)
    clear hb5 HX4 HR4 HS4
    go_wp2
    go_loopw [8, 9] (fun v i wr => ∃ k : Nat, k ≤ M.length ∧ i = .int .i64 (k : Int) ∧ v = .string (bs (catL (M.take k))) ∧ Hid (Below w5.heap.size w5 wr)) (fun v i wr => M.length - (intOf i).toNat)
    case atStart => exact ⟨0, Nat.zero_le _, rfl, rfl, hide (Below.refl _ _)⟩
    case round =>
      obtain ⟨k, hk, rfl, rfl, HB⟩ := hrel
      have hcl : (bs (catL (M.take k))).size ≤ 100 := by rw [bs_size]; exact Nat.le_trans (catL_take_len M k) HCT.out
      by_cases hlt : k < M.length
      · have hlt' : (k : Int) < (M.length : Int) := by omega
        obtain ⟨b, off, rfl, hb, d0⟩ := str_row (HR5.out.rows.below HB.out) k hlt
        have hds : M[k].size ≤ 100000 := HSM2.out _ (List.getElem_mem hlt)
        have HNX : Hid (bs (catL (M.take k)) ++ frame M[k] = bs (catL (M.take (k + 1)))) := hide (by rw [bs_more, List.take_succ_eq_append_getElem hlt, catL_snoc])
        have hfs : (frame M[k]).size ≤ 100 := by
          have h1 := congrArg ByteArray.size HNX.out
          rw [ByteArray.size_append, bs_size (catL (M.take (k + 1)))] at h1
          have h2 := catL_take_len M (k + 1)
          have h3 := HCT.out
          omega
        go_wp2_with fail
        refine (implFrameOf_short _ _ hds).mono ?_
        rintro e w6 ⟨rfl, hk6⟩
        have HB6 : Hid _ := hide (below_trans HB.out hk6.below)
        clear hk6
        go_wp2
        go_round
        case rel =>
          first
          | exact ⟨k + 1, by omega, by go_num, by rw [← HNX.out], HB6⟩
          | (refine ⟨_, _, _, _, _, _, _, _, _, _, _, _, _, _, _, ?r, rfl⟩; exact ⟨k + 1, by omega, by go_num, by rw [← HNX.out], HB6⟩)
        case measure => simp [intOf]; omega
      · have hlt' : ¬ (k : Int) < (M.length : Int) := by omega
        have HAA : Hid (bs (catL (M.take k)) = bs (catL M)) := hide (by rw [List.take_of_length_le (by omega)])
        rw [HAA.out] at hcl ⊢
        clear HAA
        have HX7 : Hid _ := hide (below_trans HX5.out HB.out)
        have HR7 : Hid _ := hide (HR5.out.below HB.out)
        clear HB HX5 HR5
        generalize bs (catL M) = A at *
        go_wp2_with fail
        refine (drawFrame_any a len cap _ (HC.out.below HX7.out)).mono ?_
        rintro e w8 ⟨⟨t, ht, rfl⟩, hb8⟩
        have HX8 : Hid _ := hide (below_trans HX7.out hb8)
        have HR8 : Hid _ := hide (HR7.out.below hb8)
        clear hb8 HX7 HR7
        have HF : Hid _ := hide (HFA.out t (len % (A.size + 1)) ht)
        have hkq : (len : Int) % ((A.size : Int) + 1) = ((len % (A.size + 1) : Nat) : Int) := by push_cast; rfl
        have hkz : len % (A.size + 1) ≤ A.size := by have := Nat.mod_lt len (show 0 < A.size + 1 by omega); omega
        have hfz : (frame t).size ≤ 108 := by rw [frame_bytes]; omega
        have haz : (A.size : Int) = (n : Int) := by rw [HF.out.asz]
        have HAZ : Hid _ := hide haz
        have haz2 : (A.size : Int) ≤ 100 := by omega
        clear haz
        generalize len % (A.size + 1) = kk at *
        have HKQ : Hid _ := hide hkq
        go_wp2_with fail
        refine (implFrameOf_short t _ (by omega)).mono ?_
        rintro e w9 ⟨rfl, hk9⟩
        have HX9 : Hid _ := hide (below_trans HX8.out hk9.below)
        have HR9 : Hid _ := hide (HR8.out.below hk9.below)
        clear hk9 HX8 HR8
        go_wp2_with fail
        refine (implTake_any (A ++ frame t) _ (by rw [ByteArray.size_append]; omega)).mono ?_
        rw [HF.out.one, HF.out.ends]
        rintro e w10 ⟨hb10, v10, rfl, g10, a10, c10, hg10, rfl, ho10⟩
        have HX10 : Hid _ := hide (below_trans HX9.out hb10)
        have HR10 : Hid _ := hide (HR9.out.below hb10)
        have HT10 : Hid _ := hide ho10
        clear hb10 hg10 ho10 HX9 HR9
        have hln : (M ++ [t]).length = M.length + 1 := by simp
        rw [hln]
        have hkk' : (kk : Int) ≤ (A.size : Int) := by omega
        go_wp2_with fail
        refine (implTake_any (A.extract 0 kk) _ (by rw [ByteArray.size_extract]; omega)).mono ?_
        have HPP : Hid _ := hide HF.out.pre
        have HPL : Hid _ := hide HF.out.plen
        have HQ1 : Hid _ := hide HF.out.all
        clear HF HFA
        generalize frames (A.extract 0 kk) = P at *
        generalize framesEnd (A.extract 0 kk) = pe at *
        rintro e w11 ⟨hb11, v11, rfl, g11, a11, c11, hg11, rfl, ho11⟩
        have HX11 : Hid _ := hide (below_trans HX10.out hb11)
        have HR11 : Hid _ := hide (HR10.out.below hb11)
        have HT11 : Hid _ := hide (HT10.out.below hb11)
        have HW11 : Hid _ := hide ho11
        clear hb11 hg11 ho11 HX10 HR10 HT10
        have hpl : (P.length : Int) ≤ (M.length : Int) := by have := HPL.out; omega
        have hq1 : (A.toList == (s.extract 0 n).toList) = true := beq_bytes.2 HQ1.out
        obtain ⟨b10, off10, rfl, hbb, dt⟩ := str_row HT11.out.rows M.length (by simp)
        have htt : (M ++ [t])[M.length]'(by simp) = t := by simp
        rw [htt] at dt
        clear htt
        have hpc : (P.length : Int) ≤ (c3 : Int) := by have := HR11.out.room; omega
        go_wp2_with fail
        refine (implFrameOf_short t _ (by omega)).mono ?_
        rintro e w12 ⟨rfl, hk12⟩
        have HX12 : Hid _ := hide (below_trans HX11.out hk12.below)
        have HR12 : Hid _ := hide (HR11.out.below hk12.below)
        have HW12 : Hid _ := hide (HW11.out.below hk12.below)
        clear hk12 HX11 HR11 HW11 HT11
        have hq4 := beq_int ((n : Int) + ((frame t).size : Int))
        have hfz' : ((frame t).size : Int) ≤ 108 := by omega
        have HPR : Hid (RowAt 1 strCells w12 a3 P) := hide (by
          have := HR12.out.rows.take1 P.length
          rw [← HPP.out] at this
          exact this)
        go_wp2_with fail
        refine (sameTexts_any _ _ P _ _ w12 (by omega) HW12.out.rows HPR.out).mono ?_
        rintro e w13 ⟨rfl, hb13⟩
        have HX13 : Hid _ := hide (below_trans HX12.out hb13)
        clear hb13
        go_wp2
        go_ret
        exact ⟨rfl, HX13.out⟩
end Go.Proofs.Ytehkddpgflbaoaa
