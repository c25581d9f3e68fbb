/- The model's Packed where it refuses. -/
import Derived.Test.YtkcpoibhlnjldaaBb
namespace Go.Proofs.Ytkcpoibhlnjldaa
open Go.ChangeShapes Go.WideShapes Go.ChangeAt Go.RowKit
set_option linter.unusedVariables false
set_option maxRecDepth 100000 in
set_option maxHeartbeats 1500000 in
theorem specPacked_no (a0 : Option Addr) (l : List Prc) (cap : Nat) (sent got amt : Int) (w : World) (hl : l.length ≤ 1048576) (hno : pkOk ⟨l, sent, got⟩ amt = false) (h : RowAt 2 prcCells w a0 l) :
    Calls Try.prog 24 #[.agg #[.slice a0 l.length cap, .int .i64 sent, .int .i64 got], .int .i64 amt] w fun e w' => EndPrc (pkE ⟨l, sent, got⟩ amt) (pkP ⟨l, sent, got⟩ amt) (pkOk ⟨l, sent, got⟩ amt) w e w' := by
  have HC : Hid _ := hide h
  clear h
  have HW : Hid _ := hide (pk_start w (.slice a0 l.length cap) sent got)
  go_enter Try.func24, Try.ntmps24
  go_wp2_with fail
  refine (specEndOk_any a0 l cap sent got _ hl (HC.out.below HW.out.old)).mono ?_
  rintro e w1 ⟨rfl, hb1⟩
  have HA1 : Hid _ := hide (HW.out.next hb1)
  clear hb1 HW
  obtain ⟨⟨t0, r0⟩, ⟨t1, r1⟩, ⟨t2, r2⟩⟩ := And.intro (HA1.out.res.c 0 (by omega)) (And.intro (HA1.out.res.c 1 (by omega)) (HA1.out.res.c 2 (by omega)))
  obtain ⟨⟨t3, r3⟩, ⟨t4, r4⟩⟩ := And.intro HA1.out.p0 HA1.out.p1
  have f0 := HA1.out.res.f 0
  have f1 := HA1.out.res.f 1
  have f2 := HA1.out.res.f 2
  have f3 := HA1.out.pf 0
  have f4 := HA1.out.pf 1
  have y0 := HA1.out.e0
  have y1 := HA1.out.e1
  have y2 := HA1.out.e2
  cases q : endB ⟨l, sent, got⟩
  · have HO : Hid (pkOk ⟨l, sent, got⟩ amt = false) := hide (by simp [pkOk, q])
    have HE : Hid _ := hide (pk_zero (fl := false) HA1.out.old)
    go_wp2
    refine bodyPost_ret (v := .tuple #[.agg #[.slice none 0 0, .int .i64 0, .int .i64 0], .agg #[.int .i64 0, .int .i64 0], .bool false]) (by simp [results, Try.results24, go_sem, r0, r1, r2, r3, r4]) rfl ?_
    rw [pkE_no HO.out, pkP_no HO.out, HO.out]
    exact HE.out
  · cases q2 : inB 1 1000000000000 amt
    · have HO : Hid (pkOk ⟨l, sent, got⟩ amt = false) := hide (by simp [pkOk, q2])
      have HE : Hid _ := hide (pk_zero (fl := false) HA1.out.old)
      go_wp2_with (first | (go_at_call 47; refine (l1In_any _ _ _ _).mono ?_; rintro e w' ⟨rfl, hw'⟩; have hw'' := hw'.symm; subst hw''))
      refine bodyPost_ret (v := .tuple #[.agg #[.slice none 0 0, .int .i64 0, .int .i64 0], .agg #[.int .i64 0, .int .i64 0], .bool false]) (by simp [results, Try.results24, go_sem, r0, r1, r2, r3, r4]) rfl ?_
      rw [pkE_no HO.out, pkP_no HO.out, HO.out]
      exact HE.out
    · have HQ : Hid _ := hide q
      have HQ2 : Hid _ := hide q2
      have hs0 : 0 ≤ sent := (endB_parts q).2.1.1
      have hs1 : sent ≤ 1000000000 := (endB_parts q).2.1.2
      have h8 : l.length ≤ 8 := (endB_parts q).1
      cases q3 : ((l.length : Int) == 8)
      · cases q4 : (sent == 1000000000)
        · have h7 : l.length < 8 := by simp at q3; omega
          have hs2 : sent < 1000000000 := by simp at q4; omega
          have HO : Hid (pkOk ⟨l, sent, got⟩ amt = true) := hide (by have e : (l.length == 8) = false := by simp; omega
                                                                     simp only [pkOk, HQ.out, HQ2.out, e, q4]; rfl)
          rw [HO.out] at hno
          cases hno
        · have HO : Hid (pkOk ⟨l, sent, got⟩ amt = false) := hide (by simp [pkOk, q4])
          have HE : Hid _ := hide (pk_zero (fl := false) HA1.out.old)
          go_wp2_with (first | (go_at_call 47; refine (l1In_any _ _ _ _).mono ?_; rintro e w' ⟨rfl, hw'⟩; have hw'' := hw'.symm; subst hw''))
          refine bodyPost_ret (v := .tuple #[.agg #[.slice none 0 0, .int .i64 0, .int .i64 0], .agg #[.int .i64 0, .int .i64 0], .bool false]) (by simp [results, Try.results24, go_sem, r0, r1, r2, r3, r4]) rfl ?_
          rw [pkE_no HO.out, pkP_no HO.out, HO.out]
          exact HE.out
      · have HO : Hid (pkOk ⟨l, sent, got⟩ amt = false) := hide (by have e : (l.length == 8) = true := by simp at q3; simp; omega
                                                                    simp [pkOk, e])
        have HE : Hid _ := hide (pk_zero (fl := false) HA1.out.old)
        go_wp2_with (first | (go_at_call 47; refine (l1In_any _ _ _ _).mono ?_; rintro e w' ⟨rfl, hw'⟩; have hw'' := hw'.symm; subst hw''))
        refine bodyPost_ret (v := .tuple #[.agg #[.slice none 0 0, .int .i64 0, .int .i64 0], .agg #[.int .i64 0, .int .i64 0], .bool false]) (by simp [results, Try.results24, go_sem, r0, r1, r2, r3, r4]) rfl ?_
        rw [pkE_no HO.out, pkP_no HO.out, HO.out]
        exact HE.out
end Go.Proofs.Ytkcpoibhlnjldaa
