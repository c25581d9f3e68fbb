/- The law FnLedgerTexts. -/
import Derived.Test.YteaopalhbnhbaaaGreatDoorDrL
import Derived.Test.YteaopalhbnhbaaaGreatDoorLSl
import Derived.Test.YteaopalhbnhbaaaGreatDoorLwR
import Derived.Test.YteaopalhbnhbaaaGreatDoorLtI
namespace Go.Proofs.YteaopalhbnhbaaaGreatDoor
open Go.ChangeShapes Go.WideShapes Go.ChangeAt Go.RowKit
set_option linter.unusedVariables false
set_option maxRecDepth 100000
/-- a ledger's text is read as that ledger, or as none where it is not right -/
theorem read_led {D L : Led} {p : LP} {b : Bool} (h : RlIs (ledT D) L p b) : b = ledS D ∧ (ledS D = true → L = D) := by
  cases hs : ledS D
  · refine ⟨?_, fun z => (by cases z)⟩
    cases b
    · rfl
    · have h1 := h.yes rfl
      obtain ⟨t1, t2⟩ := ledP_text h1
      have e : ledT D = [] := by simp [ledT, hs]
      rw [e, ledT_eq t2] at t1
      simp [ldW] at t1
  · have k := text_ledP hs
    cases b
    · exact absurd k ((h.no rfl).1 D)
    · exact ⟨rfl, fun _ => ((h.yes rfl).inj k).1⟩
theorem big_any (a : Option Addr) (len cap : Nat) (w : World) : Calls Tryz.prog 5 #[.slice a len cap] w fun e w' => e = .returned (.bool (decide (1048576 < (len : Int)))) ∧ w' = w := by
  go_enter Tryz.func5, Tryz.ntmps5
  go_wp2
  go_ret
  exact ⟨rfl, rfl⟩

theorem Pool.ledRows {F : List Nat} {w x : World} {S : List (List Rs)} {i : Nat} {p : LP} {L : Led} (h : Pool F w S x) (hi : S[i]? = some (ledL p L)) : RowAt 4 accCells x p.aa L.acc ∧ RowAt 4 hldCells x p.ha L.hold ∧ RowAt 2 snCells x p.sa L.seen := by
  have st := h.get hi
  exact ⟨(st.get (r := orow 4 accCells p.aa p.ca L.acc) (by simp [ledL])).2.rows, (st.get (r := orow 4 hldCells p.ha p.ch L.hold) (by simp [ledL])).2.rows, (st.get (r := orow 2 snCells p.sa p.cs L.seen) (by simp [ledL])).2.rows⟩
theorem Pool.newLed {w x y : World} {S : List (List Rs)} {i : Nat} {p : LP} {L : Led} (h : Pool [] w S x) (hi : S[i]? = some []) (k : Pool [] x [ledL p L] y) : Pool [] w (S.set i (ledL p L)) y := h.call hi (by simpa [fps] using k)
set_option maxHeartbeats 16000000 in
theorem walkLedgerTexts (a0 : Option Addr) (len cap : Nat) (t td : TypeId) (v vd : Value) (w : World) (h : IsCode w a0 len) (E : Env t v w) (ED : w.cell? ⟨1, 0, none⟩ = some (.iface td vd)) : Calls Tryz.prog 3 #[.slice a0 len cap] w fun e w' => YesEnd w e w' := by
  have H : Hid _ := hide h
  have HE : Hid _ := hide E
  have HD : Hid _ := hide ED
  clear h E ED
  go_enter Tryz.func3, Tryz.ntmps3
  go_wp2_with fail
  refine (big_any a0 len cap w).mono ?_
  rintro e w' ⟨rfl, hw'⟩
  rw [hw']
  clear hw' w'
  by_cases hbig : (1048576 : Int) < (len : Int)
  · go_wp2
    go_ret
    exact ⟨rfl, Below.refl _ _⟩
  · go_wp2_with fail
    refine (drawLedgerText_any a0 len cap w H.out).mono ?_
    rintro e w1 ⟨p, D, hf, rfl, hp⟩
    have HF : Hid _ := hide hf
    have HN : Hid (D.acc.length ≤ 1048576 ∧ D.hold.length ≤ 1048576 ∧ D.seen.length ≤ 1048576) := hide ⟨by have := hf.a; omega, by have := hf.h; omega, by have := hf.s; omega⟩
    have HP1 : Hid (Pool [] w [ledL p D, [], [], [], [], [], [], []] w1) := hide (hp.cast (by simp))
    clear hf hp
    unfold ledV
    go_upto_region 4 with fail
    refine cnm_world (fun W2 hW2 => ?_)
    obtain ⟨A, hA⟩ : ∃ A, A = w1.heap.size := ⟨_, rfl⟩
    have HP2 : Hid (Pool [] w [ledL p D, [blk A (ledC p D)], [], [], [], [], [], []] W2) := hide (by
      have p1 := HP1.out.newBlk (i := 1) rfl (ledC p D) 28
      rw [hA, hW2]; exact p1)
    rw [← hA]
    clear hW2 HP1 hA
    have z0 := (HP2.out.blkAt (i := 1) rfl).c 0 _ rfl
    have z1 := (HP2.out.blkAt (i := 1) rfl).c 1 _ rfl
    have z2 := (HP2.out.blkAt (i := 1) rfl).c 2 _ rfl
    go_wp2_with fail
    refine (implLedText_any p.aa p.ha p.sa D p.ca p.ch p.cs td vd _ (HP2.out.ledAt (i := 0) rfl HF.out.w) (below_keeps HP2.out.below _ _ HD.out) (HE.out.below HP2.out.below).tab HN.out.1 HN.out.2.1 HN.out.2.2).mono ?_
    rintro e w3 ⟨rfl, hb3⟩
    have HP3 : Hid (Pool [] w [ledL p D, [blk A (ledC p D)], [], [], [], [], [], []] w3) := hide (HP2.out.keep hb3)
    clear hb3 HP2 z0 z1 z2
    have HTl : Hid ((ledT D).length ≤ 6000) := hide (ledT_lb D)
    go_wp2_with fail
    refine (implReadLedger_any (ledT D) t td v vd _ (HE.out.below HP3.out.below) (below_keeps HP3.out.below _ _ HD.out) (by have := HTl.out; omega)).mono ?_
    rintro e w4 ⟨L, q, b, hi, rfl, hq⟩
    obtain ⟨rfl, hL⟩ := read_led hi
    have HL : Hid _ := hide hL
    have HP4 : Hid (Pool [] w [ledL p D, [blk A (ledC p D)], ledL q L, [], [], [], [], []] w4) := hide (HP3.out.newLed (i := 2) rfl hq)
    clear hi hq HP3 hL
    unfold ledV
    go_upto_region 6 with fail
    refine cnm_world (fun W5 hW5 => ?_)
    obtain ⟨B, hB⟩ : ∃ B, B = w4.heap.size := ⟨_, rfl⟩
    have HP5 : Hid (Pool [] w [ledL p D, [blk A (ledC p D)], ledL q L, [blk B (ledC q L)], [], [], [], []] W5) := hide (by
      have p1 := HP4.out.newBlk (i := 3) rfl (ledC q L) 28
      rw [hB, hW5]; exact p1)
    rw [← hB]
    clear hW5 HP4 hB
    obtain ⟨x, hx⟩ : ∃ x, x = ledS D := ⟨_, rfl⟩
    rw [← hx] at HL ⊢
    have HX : Hid (ledS D = x) := hide hx.symm
    clear hx
    obtain ⟨T, hT⟩ : ∃ T, T = ledT D := ⟨_, rfl⟩
    have HT : Hid (ledT D = T) := hide hT.symm
    rw [← hT]
    clear hT
    go_cut [41] from 12 to 66 (fun sl wx => sl = .bool false ∧ Hid (Pool [] w [ledL p D, [blk A (ledC p D)], ledL q L, [blk B (ledC q L)], [], [], [], []] wx))
    case first =>
      have z0 := (HP5.out.blkAt (i := 1) rfl).c 0 _ rfl
      have z1 := (HP5.out.blkAt (i := 1) rfl).c 1 _ rfl
      have z2 := (HP5.out.blkAt (i := 1) rfl).c 2 _ rfl
      have hq : ((bs T).toList == (bs T).toList) = true := by simp
      have hx : (x != x) = false := by simp
      go_wp2_with fail
      refine (specLedText_any p.aa p.ha p.sa D p.ca p.ch p.cs _ (HP5.out.ledAt (i := 0) rfl HF.out.w) HN.out.1 HN.out.2.1 HN.out.2.2).mono ?_
      rintro e w6 ⟨rfl, hb6⟩
      rw [HT.out]
      have HP6 : Hid (Pool [] w [ledL p D, [blk A (ledC p D)], ledL q L, [blk B (ledC q L)], [], [], [], []] w6) := hide (HP5.out.keep hb6)
      clear hb6 HP5 z0 z1 z2
      have z0 := (HP6.out.blkAt (i := 1) rfl).c 0 _ rfl
      have z1 := (HP6.out.blkAt (i := 1) rfl).c 1 _ rfl
      have z2 := (HP6.out.blkAt (i := 1) rfl).c 2 _ rfl
      go_wp2_with fail
      refine (implLedgerOk_any p.aa p.ha p.sa D p.ca p.ch p.cs td vd _ (HP6.out.ledAt (i := 0) rfl HF.out.w) (below_keeps HP6.out.below _ _ HD.out) HN.out.1 HN.out.2.1 HN.out.2.2).mono ?_
      rintro e w7 ⟨rfl, hk7⟩
      rw [HX.out]
      have HP7 : Hid (Pool [] w [ledL p D, [blk A (ledC p D)], ledL q L, [blk B (ledC q L)], [], [], [], []] w7) := hide (HP6.out.keep hk7)
      clear hk7 HP6 z0 z1 z2
      cases x
      · go_wp2_with fail
        go_meet
        exact ⟨rfl, HP7⟩
      · have e := HL.out rfl
        subst e
        have z0 := (HP7.out.blkAt (i := 1) rfl).c 0 _ rfl
        have z1 := (HP7.out.blkAt (i := 1) rfl).c 1 _ rfl
        have z2 := (HP7.out.blkAt (i := 1) rfl).c 2 _ rfl
        have y0 := (HP7.out.blkAt (i := 3) rfl).c 0 _ rfl
        have y1 := (HP7.out.blkAt (i := 3) rfl).c 1 _ rfl
        have y2 := (HP7.out.blkAt (i := 3) rfl).c 2 _ rfl
        go_wp2_with fail
        refine (sameLedger_any q p L _ HN.out.1 HN.out.2.1 HN.out.2.2 (HP7.out.ledRows (i := 2) rfl) (HP7.out.ledRows (i := 0) rfl)).mono ?_
        rintro e w8 ⟨rfl, hb8⟩
        have HP8 : Hid (Pool [] w [ledL p L, [blk A (ledC p L)], ledL q L, [blk B (ledC q L)], [], [], [], []] w8) := hide (HP7.out.keep hb8)
        clear hb8 HP7 z0 z1 z2 y0 y1 y2
        go_wp2_with fail
        go_meet
        exact ⟨rfl, HP8⟩
    case rest =>
      obtain ⟨rfl, HP8⟩ := hcut
      clear HP5
      rename_i K0 hK0
      refine hK0 _ _ ?_
      rename World => W8
      go_wp2_with fail
      refine (drawReadLedger_any a0 len cap _ (H.out.below HP8.out.below)).mono ?_
      rintro e w9 ⟨⟨l, hl, rfl⟩, hb9⟩
      have HP9 : Hid (Pool [] w [ledL p D, [blk A (ledC p D)], ledL q L, [blk B (ledC q L)], [], [], [], []] w9) := hide (HP8.out.keep hb9)
      clear hb9 HP8
      go_wp2_with fail
      refine (implReadLedger_any l t td v vd _ (HE.out.below HP9.out.below) (below_keeps HP9.out.below _ _ HD.out) (by omega)).mono ?_
      rintro e wa ⟨M, m, c, hi, rfl, hm⟩
      have HI : Hid _ := hide hi
      have HPa : Hid (Pool [] w [ledL p D, [blk A (ledC p D)], ledL q L, [blk B (ledC q L)], ledL m M, [], [], []] wa) := hide (HP9.out.newLed (i := 4) rfl hm)
      clear hi hm HP9
      unfold ledV
      go_upto_region 10 with fail
      refine cnm_world (fun Wb hWb => ?_)
      obtain ⟨C, hC⟩ : ∃ C, C = wa.heap.size := ⟨_, rfl⟩
      have HPb : Hid (Pool [] w [ledL p D, [blk A (ledC p D)], ledL q L, [blk B (ledC q L)], ledL m M, [blk C (ledC m M)], [], []] Wb) := hide (by
        have p1 := HPa.out.newBlk (i := 5) rfl (ledC m M) 28
        rw [hC, hWb]; exact p1)
      rw [← hC]
      clear hWb HPa hC
      go_wp2_with fail
      refine (specReadLedger_any l _ (by omega)).mono ?_
      rintro e wc ⟨Y, y, d, hs, rfl, hy⟩
      obtain ⟨rfl, rfl⟩ := both_led HI.out hs
      have HPc : Hid (Pool [] w [ledL p D, [blk A (ledC p D)], ledL q L, [blk B (ledC q L)], ledL m M, [blk C (ledC m M)], ledL y M, []] wc) := hide (HPb.out.newLed (i := 6) rfl hy)
      clear hs hy HPb
      unfold ledV
      go_upto_region 11 with fail
      refine cnm_world (fun Wd hWd => ?_)
      have HPd : Hid (Pool [] w [ledL p D, [blk A (ledC p D)], ledL q L, [blk B (ledC q L)], ledL m M, [blk C (ledC m M)], ledL y M, [blk wc.heap.size (ledC y M)]] Wd) := hide (by
        have p1 := HPc.out.newBlk (i := 7) rfl (ledC y M) 28
        rw [hWd]; exact p1)
      clear hWd HPc
      cases c
      · go_wp2_with fail
        go_ret
        exact ⟨rfl, HPd.out.below⟩
      · have HT9 : Hid (ledT M = l) := hide (ledP_text (HI.out.yes rfl)).1
        have z0 := (HPd.out.blkAt (i := 5) rfl).c 0 _ rfl
        have z1 := (HPd.out.blkAt (i := 5) rfl).c 1 _ rfl
        have z2 := (HPd.out.blkAt (i := 5) rfl).c 2 _ rfl
        have hq : ((bs l).toList == (bs l).toList) = true := by simp
        go_wp2_with fail
        refine (implLedText_any m.aa m.ha m.sa M m.ca m.ch m.cs td vd _ (HPd.out.ledAt (i := 4) rfl HI.out.w) (below_keeps HPd.out.below _ _ HD.out) (HE.out.below HPd.out.below).tab HI.out.sz.1 HI.out.sz.2.1 HI.out.sz.2.2).mono ?_
        rintro e we ⟨rfl, hbe⟩
        rw [HT9.out]
        have HBe : Hid (Below w.heap.size w we) := hide (below_trans HPd.out.below hbe)
        clear hbe
        go_wp2_with fail
        go_ret
        exact ⟨rfl, HBe.out⟩
end Go.Proofs.YteaopalhbnhbaaaGreatDoor
