/- The contracts of firstFrame and of the program's TakeFrames. -/
import Derived.Test.YtmmefhigkeonaaaSTk
import Derived.Test.YtmmefhigkeonaaaLib
namespace Go.Proofs.Ytmmefhigkeonaaa
open Go.ChangeShapes Go.WideShapes Go.ChangeAt Go.RowKit
set_option linter.unusedVariables false
theorem ofInt_i64 (a : Nat) (ha : a < 18446744073709551616) : (BitVec.ofInt 64 (a : Int)).toNat = a := by
  rw [BitVec.ofInt_natCast, BitVec.toNat_ofNat]; exact Nat.mod_eq_of_lt (by omega)
theorem wrapI (x : Int) (h0 : -9223372036854775808 ≤ x) (h1 : x ≤ 9223372036854775807) : IntKind.i64.wrap x = x := by
  simp only [IntKind.wrap, IntKind.signed, IntKind.bits]; simp; omega
/-- two numbers without a bit in common -/
theorem i64_join (i x y : Nat) (hx : x % 2 ^ i = 0) (hy : y < 2 ^ i) (hb : x + y < 4294967296) : bits .or .i64 (x : Int) (y : Int) = ((x + y : Nat) : Int) := by
  show IntKind.i64.wrap ((BitVec.ofInt 64 (x : Int) ||| BitVec.ofInt 64 (y : Int)).toNat : Int) = _
  rw [BitVec.toNat_or, ofInt_i64 x (by omega), ofInt_i64 y (by omega), nat_join i x y hx hy]
  exact wrapI _ (by omega) (by omega)
theorem four_bytes (a b c d : Nat) (ha : a < 256) (hb : b < 256) (hc : c < 256) (hd : d < 256) :
    bits .or .i64 (bits .or .i64 (bits .or .i64 ((a : Int) * 16777216) ((b : Int) * 65536)) ((c : Int) * 256)) (d : Int) = ((a * 16777216 + b * 65536 + c * 256 + d : Nat) : Int) := by
  have e1 := i64_join 24 (a * 16777216) (b * 65536) (by omega) (by omega) (by omega)
  have e2 := i64_join 16 (a * 16777216 + b * 65536) (c * 256) (by omega) (by omega) (by omega)
  have e3 := i64_join 8 (a * 16777216 + b * 65536 + c * 256) d (by omega) (by omega) (by omega)
  have k1 : (a : Int) * 16777216 = ((a * 16777216 : Nat) : Int) := by omega
  have k2 : (b : Int) * 65536 = ((b * 65536 : Nat) : Int) := by omega
  have k3 : (c : Int) * 256 = ((c * 256 : Nat) : Int) := by omega
  rw [k1, k2, k3, e1, e2, e3]
theorem u8_of (a : UInt8) (k : Int) (h : k = (a.toNat : Int)) : UInt8.ofNat k.toNat = a := by subst h; simp
theorem be4_list (l : List UInt8) (h : 4 ≤ l.length) : (be4 ((beN l : Nat) : Int)).data.toList = l.take 4 := by
  match l, h with
  | a :: b :: c :: d :: r, _ =>
    have e := beN_is (a :: b :: c :: d :: r)
    have ha := a.toNat_lt
    have hb := b.toNat_lt
    have hc := c.toNat_lt
    have hd := d.toNat_lt
    simp only [List.getD_cons_zero, List.getD_cons_succ] at e
    generalize beN (a :: b :: c :: d :: r) = n at e ⊢
    have q1 := u8_of a ((n : Int) / 16777216 % 256) (by omega)
    have q2 := u8_of b ((n : Int) / 65536 % 256) (by omega)
    have q3 := u8_of c ((n : Int) / 256 % 256) (by omega)
    have q4 := u8_of d ((n : Int) % 256) (by omega)
    simp only [be4, q1, q2, q3, q4]
    rfl
theorem frame_list (s : ByteArray) : (frame s).data.toList = (be4 (s.size : Int)).data.toList ++ (le4 (crc s.data.toList)).data.toList ++ s.data.toList := by
  simp [frame]
theorem frame_is (t : ByteArray) (n : Nat) (hn : n = beN t.data.toList) (h8 : 8 + n ≤ t.size) : frame (t.extract 8 (8 + n)) = t.extract 0 (8 + n) ↔ le4 (crc (t.extract 8 (8 + n)).data.toList) = bs ((t.data.toList.drop 4).take 4) := by
  have hl : t.data.toList.length = t.size := size_list t
  have hsz : (t.extract 8 (8 + n)).size = n := by rw [ByteArray.size_extract]; omega
  have e1 : (frame (t.extract 8 (8 + n))).data.toList = t.data.toList.take 4 ++ (le4 (crc (t.extract 8 (8 + n)).data.toList)).data.toList ++ (t.data.toList.drop 8).take n := by
    rw [frame_list, hsz]
    congr 1
    · congr 1
      rw [hn]; exact be4_list _ (by rw [hl]; omega)
    · rw [extract_list, show 8 + n - 8 = n by omega]
  have e2 : (t.extract 0 (8 + n)).data.toList = t.data.toList.take 4 ++ (t.data.toList.drop 4).take 4 ++ (t.data.toList.drop 8).take n := by
    rw [extract_list, List.drop_zero, Nat.sub_zero, show 8 + n = 4 + (4 + n) by omega, List.take_add, List.take_add, List.drop_drop, List.append_assoc]
  constructor
  · intro e
    have := congrArg (fun x : ByteArray => x.data.toList) e
    simp only [e1, e2] at this
    have h1 := List.append_inj_left' this rfl
    have h2 := List.append_cancel_left h1
    exact bs_of h2
  · intro e
    apply ByteArray.ext
    apply Array.toList_inj.1
    rw [e1, e2, e, bs_list]
def FirstEnd (t : ByteArray) (w : World) (e : Ending) (w' : World) : Prop := Below w.heap.size w w' ∧ ((okL t.data.toList ∧ e = .returned (.tuple #[.string (bs ((t.data.toList.drop 8).take (beN t.data.toList))), .bool true])) ∨ (¬ okL t.data.toList ∧ ∃ d, e = .returned (.tuple #[.string d, .bool false])))
set_option maxRecDepth 100000 in
set_option maxHeartbeats 4000000 in
theorem firstFrame_any (t : ByteArray) (w : World) (ht : t.size ≤ 1048576) :
    Calls Try.prog 14 #[.string t] w fun e w' => FirstEnd t w e w' := by
  by_cases h8 : 8 ≤ t.size
  · have h8' : ¬ (t.size : Int) < 8 := by omega
    have b0 : 0 < t.size := by omega
    have b1 : 1 < t.size := by omega
    have b2 : 2 < t.size := by omega
    have b3 : 3 < t.size := by omega
    have c0 : (t[0].toNat : Int) ≤ 255 := by have := t[0].toNat_lt; omega
    have c1 : (t[1].toNat : Int) ≤ 255 := by have := t[1].toNat_lt; omega
    have c2 : (t[2].toNat : Int) ≤ 255 := by have := t[2].toNat_lt; omega
    have c3 : (t[3].toNat : Int) ≤ 255 := by have := t[3].toNat_lt; omega
    have d1 : (1 : Int) < (t.size : Int) := by omega
    have d2 : (2 : Int) < (t.size : Int) := by omega
    have d3 : (3 : Int) < (t.size : Int) := by omega
    have e0 := wrapI (t[0].toNat : Int) (by omega) (by omega)
    have e1 := wrapI (t[1].toNat : Int) (by omega) (by omega)
    have e2 := wrapI (t[2].toNat : Int) (by omega) (by omega)
    have e3 := wrapI (t[3].toNat : Int) (by omega) (by omega)
    have f0 := wrapI ((t[0].toNat : Int) * 16777216) (by omega) (by omega)
    have f1 := wrapI ((t[1].toNat : Int) * 65536) (by omega) (by omega)
    have f2 := wrapI ((t[2].toNat : Int) * 256) (by omega) (by omega)
    have hor := four_bytes t[0].toNat t[1].toNat t[2].toNat t[3].toNat t[0].toNat_lt t[1].toNat_lt t[2].toNat_lt t[3].toNat_lt
    have HN : Hid (t[0].toNat * 16777216 + t[1].toNat * 65536 + t[2].toNat * 256 + t[3].toNat = beN t.data.toList) := hide (by rw [beN_is, byte_at t 0 b0, byte_at t 1 b1, byte_at t 2 b2, byte_at t 3 b3])
    generalize t[0].toNat * 16777216 + t[1].toNat * 65536 + t[2].toNat * 256 + t[3].toNat = n at hor HN
    have hn : (n : Int) ≤ 4294967295 := by have := beN_lt t.data.toList; have := HN.out; omega
    have f3 := wrapI (8 + (n : Int)) (by omega) (by omega)
    go_enter Try.func14, Try.ntmps14
    go_wp2_with fail
    go_region
    have HL8 : Hid (8 ≤ t.data.toList.length) := hide (by rw [size_list]; omega)
    by_cases hC : 8 + n ≤ t.size
    · have hC1 : 8 + (n : Int) ≤ (t.size : Int) := by omega
      have hC2 : ¬ (t.size : Int) < 8 + (n : Int) := by omega
      have HI : Hid _ := hide (frame_is t n HN.out hC)
      have HXT : Hid (t.extract 8 (8 + n) = bs ((t.data.toList.drop 8).take (beN t.data.toList))) := hide (bs_of (by rw [extract_list, ← HN.out, show 8 + n - 8 = n by omega]))
      have hsz : (t.extract 8 (8 + n)).size = n := by rw [ByteArray.size_extract]; omega
      have HSZ : Hid _ := hide hsz
      clear hsz
      clear e0 e1 e2 e3 f0 f1 f2 f3 hor
      by_cases hA : n ≤ 100000
      · have HCL : Hid (∀ wx, Calls Try.prog 6 #[.string (t.extract 8 (8 + n))] wx fun e w'' => e = .returned (.string (frame (t.extract 8 (8 + n)))) ∧ Below wx.heap.size wx w'') := hide (fun wx => (implFrameOf_short _ wx (by rw [HSZ.out]; omega)).mono fun _ _ h => ⟨h.1, h.2.below⟩)
        have HOK : Hid (okL t.data.toList ↔ frame (t.extract 8 (8 + n)) = t.extract 0 (8 + n)) := hide (by
          rw [HI.out]
          unfold okL
          rw [← HN.out, size_list, extract_list, show 8 + n - 8 = n by omega]
          exact ⟨fun k => k.2.2.2, fun k => ⟨h8, hA, hC, k⟩⟩)
        generalize frame (t.extract 8 (8 + n)) = Z at HCL HOK
        by_cases hE : Z = t.extract 0 (8 + n)
        · have hE' : (Z.toList == (t.extract 0 (8 + n)).toList) = true := beq_bytes.2 hE
          have HK : Hid _ := hide (HOK.out.2 hE)
          clear hE HOK HI
          go_wp2_with fail
          have hne : Nonempty (Later w.drew) := later_there _
          refine wp_region_later w.drew (by kernel_rfl) (by kernel_rfl) ((Below.refl _ _).drew) ?_
          repeat (go_big_quiet_step (first | (go_at_call 6; exact later_of (HCL.out _))))
          refine wpQuiet_nil ?_
          intro _ hw'
          obtain ⟨nx, rfl⟩ := hw'
          have HB : Hid (Below w.heap.size w nx.w) := hide ((Below.refl _ w).drew.trans nx.below)
          go_wp2
          go_ret2
          exact ⟨HB.out, .inl ⟨HK.out, by rw [← HXT.out]; rfl⟩⟩
        · have hE' : (Z.toList == (t.extract 0 (8 + n)).toList) = false := beq_no hE
          have HK : Hid (¬ okL t.data.toList) := hide (fun k => hE (HOK.out.1 k))
          clear hE HOK HI
          go_wp2_with fail
          have hne : Nonempty (Later w.drew) := later_there _
          refine wp_region_later w.drew (by kernel_rfl) (by kernel_rfl) ((Below.refl _ _).drew) ?_
          repeat (go_big_quiet_step (first | (go_at_call 6; exact later_of (HCL.out _))))
          refine wpQuiet_nil ?_
          intro _ hw'
          obtain ⟨nx, rfl⟩ := hw'
          have HB : Hid (Below w.heap.size w nx.w) := hide ((Below.refl _ w).drew.trans nx.below)
          go_wp2
          go_ret2
          exact ⟨HB.out, .inr ⟨HK.out, _, rfl⟩⟩
      · have HCL : Hid (∀ wx, Calls Try.prog 6 #[.string (t.extract 8 (8 + n))] wx fun e w'' => e = .returned (.string ⟨#[]⟩) ∧ Below wx.heap.size wx w'') := hide (fun wx => (implFrameOf_long _ wx (by rw [HSZ.out]; unfold maxLen; omega) (by rw [HSZ.out]; exact hA)).mono fun _ _ h => ⟨h.1, h.2.below⟩)
        have hE' : ((⟨#[]⟩ : ByteArray).toList == (t.extract 0 (8 + n)).toList) = false := beq_no (fun e => by
          have := congrArg ByteArray.size e
          rw [ByteArray.size_extract] at this
          have e0 : (⟨#[]⟩ : ByteArray).size = 0 := rfl
          omega)
        have HK : Hid (¬ okL t.data.toList) := hide (fun k => hA (by have := k.2.1; rwa [← HN.out] at this))
        clear HI
        generalize (⟨#[]⟩ : ByteArray) = Z at HCL hE'
        go_wp2_with fail
        have hne : Nonempty (Later w.drew) := later_there _
        refine wp_region_later w.drew (by kernel_rfl) (by kernel_rfl) ((Below.refl _ _).drew) ?_
        repeat (go_big_quiet_step (first | (go_at_call 6; exact later_of (HCL.out _))))
        refine wpQuiet_nil ?_
        intro _ hw'
        obtain ⟨nx, rfl⟩ := hw'
        have HB : Hid (Below w.heap.size w nx.w) := hide ((Below.refl _ w).drew.trans nx.below)
        go_wp2
        go_ret2
        exact ⟨HB.out, .inr ⟨HK.out, _, rfl⟩⟩
    · have hC2 : (t.size : Int) < 8 + (n : Int) := by omega
      have HK : Hid (¬ okL t.data.toList) := hide (fun k => hC (by have := k.2.2.1; rwa [← HN.out, size_list] at this))
      clear e0 e1 e2 e3 f0 f1 f2 f3 hor
      go_wp2
      go_ret2
      exact ⟨(Below.refl _ _).drew, .inr ⟨HK.out, _, rfl⟩⟩
  · have h8' : (t.size : Int) < 8 := by omega
    have HK : Hid (¬ okL t.data.toList) := hide (fun k => by have := k.1; rw [size_list] at this; omega)
    go_enter Try.func14, Try.ntmps14
    go_wp2
    go_ret2
    exact ⟨Below.refl _ _, .inr ⟨HK.out, _, rfl⟩⟩
end Go.Proofs.Ytmmefhigkeonaaa
