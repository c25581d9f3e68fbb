/- The law FnCommandTexts. -/
import Derived.Test.YtbcodlgpdehdhaaGreatDoorDrT
import Derived.Test.YtbcodlgpdehdhaaGreatDoorRcN
import Derived.Test.YtbcodlgpdehdhaaGreatDoorTxtI
namespace Go.Proofs.YtbcodlgpdehdhaaGreatDoor
open Go.ChangeShapes Go.WideShapes Go.ChangeAt Go.RowKit
set_option linter.unusedVariables false
set_option maxRecDepth 100000
theorem ParseOk.inj {l : List UInt8} {c c' : Cm} {r r' : List UInt8} (h : ParseOk l c r) (k : ParseOk l c' r') : c = c' := by
  obtain ⟨a1, r1, e1, k1, h1, _⟩ := h
  obtain ⟨a2, r1', e1', k1', h1', _⟩ := k
  rw [e1] at e1'
  cases e1'
  have ei := a1.inj a2
  have ek := wordL_inj ⟨k1.1, k1.2.1⟩ ⟨k1'.1, k1'.2.1⟩ (k1.2.2.trans k1'.2.2.symm)
  rcases h1 with ⟨q, r2, e2, n2, f2, t2, m2, e3⟩ | ⟨q, r2, r3, r4, e2, f2, e3, t2, e4, n2, z2, e5⟩
  · rcases h1' with ⟨q', r2', e2', n2', f2', t2', m2', e3'⟩ | ⟨q', _⟩
    · rw [e2] at e2'
      cases e2'
      have er := n2.inj n2'
      cases c; cases c'
      simp only at *
      subst ei ek er f2 t2 m2 f2' t2' m2'
      rfl
    · exact absurd (by rw [← ek]; exact q) q'
  · rcases h1' with ⟨q', _⟩ | ⟨q', r2', r3', r4', e2', f2', e3', t2', e4', n2', z2', e5'⟩
    · exact absurd (by rw [ek]; exact q') q
    · rw [e2] at e2'
      cases e2'
      rw [e3] at e3'
      cases e3'
      rw [e4] at e4'
      cases e4'
      have em := n2.inj n2'
      cases c; cases c'
      simp only at *
      subst ei ek em f2 t2 z2 f2' t2' z2'
      rfl
theorem T_some {c : Cm} (h : c.B = true) : c.T ≠ [] := by
  intro e
  by_cases k : c.kind = 4 ∨ c.kind = 5
  · rw [T_hold h k] at e
    simp at e
  · rw [T_else h k] at e
    simp at e
/-- a command's text is read as that command, or as none where it is not right -/
theorem read_own (c : Cm) {w w' : World} {e : Ending} (h : RwEnd c.T w e w') :
    Below w.heap.size w w' ∧ ∃ d : Cm, (c.B = true → d = c) ∧ e = .returned (.tuple #[d.v, .bool c.B]) := by
  obtain ⟨hb, h⟩ := h
  refine ⟨hb, ?_⟩
  cases hB : c.B
  · refine ⟨⟨0, 0, ⟨#[]⟩, ⟨#[]⟩, 0, 0⟩, (fun z => by cases z), ?_⟩
    have eT : c.T = [] := by
      unfold Cm.B at hB
      unfold Cm.T cmdT
      rw [hB]; rfl
    rcases h with ⟨c', hp, _⟩ | ⟨_, he⟩
    · obtain ⟨b', t'⟩ := parse_text hp
      rw [eT] at t'
      exact absurd t' (T_some b')
    · exact he
  · refine ⟨c, fun _ => rfl, ?_⟩
    have hp := text_parse hB rfl
    rcases h with ⟨c', hp', he⟩ | ⟨hn, _⟩
    · rw [hp'.inj hp] at he
      exact he
    · exact absurd hp (hn c)
theorem cmv_inj {c c' : Cm} {b b' : Bool} (h : Ending.returned (.tuple #[c.v, .bool b]) = .returned (.tuple #[c'.v, .bool b'])) : c = c' ∧ b = b' := by
  simp only [Ending.returned.injEq, Value.tuple.injEq] at h
  have h0 := congrArg (fun a : Array Value => a[0]?) h
  have h1 := congrArg (fun a : Array Value => a[1]?) h
  simp at h0 h1
  refine ⟨?_, h1⟩
  unfold Cm.v at h0
  cases c; cases c'
  simpa using h0
theorem cmd_size {c : Cm} (h : c.B = true) : c.fr.size ≤ 12 ∧ c.«to».size ≤ 12 := by
  obtain ⟨_, hp⟩ := cmd_parts h
  unfold Cm.B at h
  rcases hp with ⟨_, e1, e2, _⟩ | ⟨k, _⟩
  · rw [e1, e2]; decide
  · obtain ⟨_, s1, s2, _⟩ := cmd_abc k h
    exact ⟨s1, s2⟩
/-- what both answer at a text -/
theorem both_own {l : List UInt8} {w w' v v' : World} {e e' : Ending} (h : RwEnd l w e w') (h' : RsEnd l v e' v') :
    ∃ (c : Cm) (b : Bool), (b = true → c.T = l ∧ c.B = true) ∧ e = .returned (.tuple #[c.v, .bool b]) ∧ ∃ x : Cm, e' = .returned (.tuple #[x.v, .bool b]) := by
  obtain ⟨c, b, e1, e2⟩ := both h.2 h'.2
  refine ⟨c, b, fun hb => ?_, e1, _, e2⟩
  subst hb
  rcases h.2 with ⟨c', hp, he⟩ | ⟨_, he⟩
  · rw [e1] at he
    rw [(cmv_inj he).1]
    exact ⟨(parse_text hp).2, (parse_text hp).1⟩
  · rw [e1] at he
    simp only [Ending.returned.injEq, Value.tuple.injEq] at he
    have := congrArg (fun a : Array Value => a[1]?) he
    simp at this
theorem specReadCommand_any (l : List UInt8) (w : World) (hs : l.length ≤ 1048576) : Calls Tryz.prog 11 #[.string (bs l)] w fun e w' => RsEnd l w e w' := by
  by_cases h3 : 3 ≤ (wordsL l).length
  · exact sread_long l w hs h3
  · refine (sread_short l w hs (by omega)).mono ?_
    rintro e w' ⟨rfl, hb⟩
    exact ⟨hb, .inr ⟨.inl (by omega), rfl⟩⟩
theorem big_any (a : Option Addr) (len cap : Nat) (w : World) : Calls Tryz.prog 4 #[.slice a len cap] w fun e w' => e = .returned (.bool (decide (1048576 < (len : Int)))) ∧ w' = w := by
  go_enter Tryz.func4, Tryz.ntmps4
  go_wp2
  go_ret
  exact ⟨rfl, rfl⟩
def YesEnd (w : World) (e : Ending) (w' : World) : Prop := e = .returned (.bool true) ∧ Below w.heap.size w w'
set_option maxHeartbeats 16000000 in
theorem walkCommandTexts (a0 : Option Addr) (len cap : Nat) (t : TypeId) (v : Value) (w : World) (h : IsCode w a0 len) (E : Env t v w) : Calls Tryz.prog 3 #[.slice a0 len cap] w fun e w' => YesEnd w e w' := by
  have H : Hid _ := hide h
  have HE : Hid _ := hide E
  clear h E
  go_enter Tryz.func3, Tryz.ntmps3
  go_wp2_with fail
  refine (big_any a0 len cap w).mono ?_
  rintro e w' ⟨rfl, hw'⟩
  rw [hw']
  clear hw' w'
  by_cases hbig : (1048576 : Int) < (len : Int)
  · go_wp2
    go_ret
    exact ⟨rfl, Below.refl _ _⟩
  · go_wp2_with fail
    refine (drawCommandText_any a0 len cap w H.out).mono ?_
    rintro e w1 ⟨⟨c, hcf, hct, rfl⟩, hb1⟩
    have HC : Hid (c.fr.size ≤ maxLen ∧ c.«to».size ≤ maxLen) := hide ⟨Nat.le_trans hcf (by decide), Nat.le_trans hct (by decide)⟩
    have HP1 : Hid (Pool [] w [[], [], [], []] w1) := hide ((Pool.start w [[], [], [], []] rfl).keep hb1)
    clear hcf hct hb1
    unfold Cm.v
    go_upto_region 4 with fail
    refine cnm_world (fun W2 hW2 => ?_)
    have HP2 : Hid (Pool [] w [[blk w1.heap.size c.cells], [], [], []] W2) := hide (by
      have p1 := HP1.out.newBlk (i := 0) rfl c.cells 25
      rw [hW2]; exact p1)
    clear hW2 HP1
    obtain ⟨⟨z0, z1, z2, z3, z4, z5⟩, _⟩ := HP2.out.cells6 (i := 0) rfl
    go_wp2_with fail
    refine (implText_any c.id c.kind c.fr c.«to» c.am c.ref _ HC.out.1 HC.out.2 (HE.out.below HP2.out.below).tab (HE.out.below HP2.out.below).words).mono ?_
    rintro e w3 ⟨rfl, hb3⟩
    have HP3 : Hid (Pool [] w [[blk w1.heap.size c.cells], [], [], []] w3) := hide (HP2.out.keep hb3)
    clear hb3 HP2 z0 z1 z2 z3 z4 z5
    have HTl : Hid (c.T.length ≤ 100) := hide (cmdT_len _ _ _ _ _ _)
    have eT : cmdT c.id c.kind c.fr c.«to» c.am c.ref = c.T := rfl
    rw [eT]
    clear eT
    go_wp2_with fail
    refine (implReadCommand_any c.T t v _ (HE.out.below HP3.out.below) (by have := HTl.out; omega)).mono ?_
    rintro e w4 hrw
    obtain ⟨hb4, d, hd, rfl⟩ := read_own c hrw
    have HD : Hid (c.B = true → d = c) := hide hd
    have HP4 : Hid (Pool [] w [[blk w1.heap.size c.cells], [], [], []] w4) := hide (HP3.out.keep hb4)
    clear hrw hb4 HP3 hd
    unfold Cm.v
    go_upto_region 6 with fail
    refine cnm_world (fun W5 hW5 => ?_)
    have HP5 : Hid (Pool [] w [[blk w1.heap.size c.cells], [blk w4.heap.size d.cells], [], []] W5) := hide (by
      have p1 := HP4.out.newBlk (i := 1) rfl d.cells 25
      rw [hW5]; exact p1)
    clear hW5 HP4
    obtain ⟨x, hx⟩ : ∃ x, x = c.B := ⟨_, rfl⟩
    rw [← hx] at HD ⊢
    have HX : Hid (c.B = x) := hide hx.symm
    clear hx
    obtain ⟨T, hT⟩ : ∃ T, T = c.T := ⟨_, rfl⟩
    have HT : Hid (c.T = T) := hide hT.symm
    rw [← hT]
    clear hT
    go_cut [40] from 12 to 65 (fun sl wx => sl = .bool false ∧ Hid (Pool [] w [[blk w1.heap.size c.cells], [blk w4.heap.size d.cells], [], []] wx))
    case first =>
      obtain ⟨⟨z0, z1, z2, z3, z4, z5⟩, _⟩ := HP5.out.cells6 (i := 0) rfl
      have hq : ((bs T).toList == (bs T).toList) = true := by simp
      have hx : (x != x) = false := by simp
      go_wp2_with fail
      refine (specText_any c.id c.kind c.fr c.«to» c.am c.ref _ HC.out.1 HC.out.2).mono ?_
      rintro e w6 ⟨rfl, hb6⟩
      rw [show cmdT c.id c.kind c.fr c.«to» c.am c.ref = T from HT.out]
      have HP6 : Hid (Pool [] w [[blk w1.heap.size c.cells], [blk w4.heap.size d.cells], [], []] w6) := hide (HP5.out.keep hb6)
      clear hb6 HP5 z0 z1 z2 z3 z4 z5
      obtain ⟨⟨z0, z1, z2, z3, z4, z5⟩, _⟩ := HP6.out.cells6 (i := 0) rfl
      go_wp2_with fail
      refine (implCommandOk_any c.id c.kind c.fr c.«to» c.am c.ref _ HC.out.1 HC.out.2).mono ?_
      rintro e w7 ⟨rfl, hk7⟩
      rw [show cmdB c.id c.kind c.fr c.«to» c.am c.ref = x from HX.out]
      have HP7 : Hid (Pool [] w [[blk w1.heap.size c.cells], [blk w4.heap.size d.cells], [], []] w7) := hide (HP6.out.keep hk7.below)
      clear hk7 HP6 z0 z1 z2 z3 z4 z5
      cases x
      · go_wp2_with fail
        go_meet
        exact ⟨rfl, HP7⟩
      · have e := HD.out rfl
        subst e
        obtain ⟨⟨z0, z1, z2, z3, z4, z5⟩, _⟩ := HP7.out.cells6 (i := 0) rfl
        obtain ⟨⟨y0, y1, y2, y3, y4, y5⟩, _⟩ := HP7.out.cells6 (i := 1) rfl
        have b0 : (d.id == d.id) = true := by simp
        have b1 : (d.kind == d.kind) = true := by simp
        have b2 : (d.fr.toList == d.fr.toList) = true := by simp
        have b3 : (d.«to».toList == d.«to».toList) = true := by simp
        have b4 : (d.am == d.am) = true := by simp
        have b5 : (d.ref == d.ref) = true := by simp
        go_wp2_with fail
        go_meet
        exact ⟨rfl, HP7⟩
    case rest =>
      obtain ⟨rfl, HP8⟩ := hcut
      clear HP5
      rename_i K0 hK0
      refine hK0 _ _ ?_
      rename World => W8
      go_wp2_with fail
      refine (drawReadCommand_any a0 len cap _ (H.out.below HP8.out.below)).mono ?_
      rintro e w9 ⟨⟨l, hl, rfl⟩, hb9⟩
      have HP9 : Hid (Pool [] w [[blk w1.heap.size c.cells], [blk w4.heap.size d.cells], [], []] w9) := hide (HP8.out.keep hb9)
      clear hb9 HP8
      go_wp2_with fail
      refine (implReadCommand_any l t v _ (HE.out.below HP9.out.below) (by omega)).mono ?_
      rintro e wa hrw
      have HRw : Hid _ := hide hrw
      have HPa : Hid (Pool [] w [[blk w1.heap.size c.cells], [blk w4.heap.size d.cells], [], []] wa) := hide (HP9.out.keep hrw.1)
      obtain ⟨c9, b9, he9⟩ : ∃ (c9 : Cm) (b9 : Bool), e = .returned (.tuple #[c9.v, .bool b9]) := by
        rcases hrw.2 with ⟨c', _, he⟩ | ⟨_, he⟩
        · exact ⟨c', true, he⟩
        · exact ⟨⟨0, 0, ⟨#[]⟩, ⟨#[]⟩, 0, 0⟩, false, he⟩
      subst he9
      clear hrw HP9
      unfold Cm.v
      go_upto_region 10 with fail
      refine cnm_world (fun Wb hWb => ?_)
      have HPb : Hid (Pool [] w [[blk w1.heap.size c.cells], [blk w4.heap.size d.cells], [blk wa.heap.size c9.cells], []] Wb) := hide (by
        have p1 := HPa.out.newBlk (i := 2) rfl c9.cells 25
        rw [hWb]; exact p1)
      clear hWb HPa
      go_wp2_with fail
      refine (specReadCommand_any l _ (by omega)).mono ?_
      rintro e wc hrs
      obtain ⟨c2, b2, hb2, e1, c3, rfl⟩ := both_own HRw.out hrs
      have HPc : Hid (Pool [] w [[blk w1.heap.size c.cells], [blk w4.heap.size d.cells], [blk wa.heap.size c9.cells], []] wc) := hide (HPb.out.keep hrs.1)
      obtain ⟨rfl, rfl⟩ := cmv_inj e1
      have HB2 : Hid _ := hide hb2
      clear hrs hb2 e1 HPb HRw
      unfold Cm.v
      go_upto_region 11 with fail
      refine cnm_world (fun Wd hWd => ?_)
      have HPd : Hid (Pool [] w [[blk w1.heap.size c.cells], [blk w4.heap.size d.cells], [blk wa.heap.size c9.cells], [blk wc.heap.size c3.cells]] Wd) := hide (by
        have p1 := HPc.out.newBlk (i := 3) rfl c3.cells 25
        rw [hWd]; exact p1)
      clear hWd HPc
      cases b9
      · go_wp2_with fail
        go_ret
        exact ⟨rfl, HPd.out.below⟩
      · obtain ⟨e7, e8⟩ := HB2.out rfl
        have HT9 : Hid (c9.T = l) := hide e7
        have HZ : Hid (c9.fr.size ≤ maxLen ∧ c9.«to».size ≤ maxLen) := hide (by
          obtain ⟨_, hp⟩ := cmd_parts e8
          have hs := cmd_size e8
          unfold maxLen
          omega)
        clear e7 e8
        obtain ⟨⟨z0, z1, z2, z3, z4, z5⟩, _⟩ := HPd.out.cells6 (i := 2) rfl
        have hq : ((bs l).toList == (bs l).toList) = true := by simp
        go_wp2_with fail
        refine (implText_any c9.id c9.kind c9.fr c9.«to» c9.am c9.ref _ HZ.out.1 HZ.out.2 (HE.out.below HPd.out.below).tab (HE.out.below HPd.out.below).words).mono ?_
        rintro e we ⟨rfl, hbe⟩
        rw [show cmdT c9.id c9.kind c9.fr c9.«to» c9.am c9.ref = l from HT9.out]
        have HBe : Hid (Below w.heap.size w we) := hide (below_trans HPd.out.below hbe)
        clear hbe
        go_wp2_with fail
        go_ret
        exact ⟨rfl, HBe.out⟩
end Go.Proofs.YtbcodlgpdehdhaaGreatDoor
