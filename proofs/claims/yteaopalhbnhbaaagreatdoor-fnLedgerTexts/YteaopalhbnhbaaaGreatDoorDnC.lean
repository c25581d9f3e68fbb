/- A drawn command. -/
import Derived.Test.YteaopalhbnhbaaaGreatDoorGl
import Derived.Test.YteaopalhbnhbaaaGreatDoorGc
import Derived.Deep.CutBlock
namespace Go.Proofs.YteaopalhbnhbaaaGreatDoor
open Go.ChangeShapes Go.WideShapes Go.ChangeAt Go.RowKit
set_option linter.unusedVariables false
set_option maxRecDepth 100000
set_option maxHeartbeats 1000000 in
theorem amount_any (B : Nat) (w : World) (h : Rd B w) : Calls Tryz.prog 88 #[.pointer (some ⟨B, 0, none⟩)] w fun e w' => IntEnd B w e w' := by
  have H : Hid _ := hide h
  clear h
  go_enter Tryz.func88, Tryz.ntmps88
  go_wp2_with fail
  refine (once_any B 16 _ H.out (by omega) (by omega)).mono ?_
  rintro e w1 ⟨⟨b, rfl⟩, HR1, HA1⟩
  cases b
  · go_wp2_with fail
    refine (below_any B 60 _ HR1 (by omega)).mono ?_
    rintro e w2 ⟨⟨x, x0, _, x1, rfl⟩, HR2, HA2⟩
    go_wp2
    go_ret
    exact ⟨⟨x, by omega, by omega, rfl⟩, HR2, HA1.trans HA2⟩
  · go_wp2_with fail
    refine (off_any B _ _ _ HR1 (by omega) (by omega) (by omega)).mono ?_
    rintro e w2 ⟨⟨x, x0, x1, rfl⟩, HR2, HA2⟩
    go_wp2
    go_ret
    exact ⟨⟨x, by omega, by omega, rfl⟩, HR2, HA1.trans HA2⟩
theorem cnm_post {P : Program} {f : Func} {Q : Ending → World → Prop} {e : Exit} {a : Act} {w : World} (h : ∀ W, W = w → bodyPost P f Q e a W) : bodyPost P f Q e a w := h w rfl
def NameEnd (B : Nat) (w : World) (e : Ending) (w' : World) : Prop := (∃ s : ByteArray, s.size ≤ 8 ∧ e = .returned (.string s)) ∧ Rd B w' ∧ Aprt B w w'
set_option maxHeartbeats 1000000 in
theorem dname_any (B : Nat) (w : World) (h : Rd B w) : Calls Tryz.prog 87 #[.pointer (some ⟨B, 0, none⟩)] w fun e w' => NameEnd B w e w' := by
  have H : Hid _ := hide h
  clear h
  go_enter Tryz.func87, Tryz.ntmps87
  go_wp2_with fail
  have HP : Hid (RP B w [[blk w.heap.size [.string ⟨#[97, 110, 110]⟩, .string ⟨#[98, 111, 98]⟩, .string ⟨#[98, 97, 110, 107]⟩, .string ⟨#[99, 97, 114, 108]⟩]]] _) := hide ((RP.start H.out [[]] rfl).newBlk (i := 0) rfl [.string ⟨#[97, 110, 110]⟩, .string ⟨#[98, 111, 98]⟩, .string ⟨#[98, 97, 110, 107]⟩, .string ⟨#[99, 97, 114, 108]⟩] 9)
  refine (below_any B 4 _ HP.out.rd (by omega)).mono ?_
  rintro e w2 ⟨⟨r, r0, r4, _, rfl⟩, HR2, HA2⟩
  have r4 : r < 4 := by omega
  have HQ : Hid _ := hide (HP.out.read HR2 HA2)
  have c0 := (HQ.out.blkAt (i := 0) rfl).c 0 _ rfl
  have c1 := (HQ.out.blkAt (i := 0) rfl).c 1 _ rfl
  have c2 := (HQ.out.blkAt (i := 0) rfl).c 2 _ rfl
  have c3 := (HQ.out.blkAt (i := 0) rfl).c 3 _ rfl
  clear HA2 HP HR2
  obtain rfl | rfl | rfl | rfl : r = 0 ∨ r = 1 ∨ r = 2 ∨ r = 3 := by omega
  all_goals
    go_wp2
    go_ret
    exact ⟨⟨_, by decide, rfl⟩, HQ.out.rd, HQ.out.apart⟩
/-- a command, whatever it is; of what was there only the reader has turned -/
def CmdEnd (B : Nat) (w : World) (e : Ending) (w' : World) : Prop := (∃ c : Cm, c.fr.size ≤ 8 ∧ c.to.size ≤ 8 ∧ e = .returned c.v) ∧ Rd B w' ∧ Aprt B w w'
/-- a command that is being drawn, in block M -/
def CcS (B : Nat) (w : World) (p : LP) (D : Led) (M : Nat) (c : Cm) (x : World) : Prop := (c.fr.size ≤ 8 ∧ c.to.size ≤ 8) ∧ RP B w [[blk w.heap.size (ledC p D)], [blk (w.heap.size + 1) [.int .i64 0, .int .i64 0, .string ⟨#[]⟩, .string ⟨#[]⟩, .int .i64 0, .int .i64 0]], [blk M c.cells]] x
theorem CcS.read {B : Nat} {w : World} {p : LP} {D : Led} {M : Nat} {c : Cm} {x y : World} (h : CcS B w p D M c x) (hr : Rd B y) (ha : Aprt B x y) : CcS B w p D M c y := ⟨h.1, h.2.read hr ha⟩
theorem CcS.rd {B : Nat} {w : World} {p : LP} {D : Led} {M : Nat} {c : Cm} {x : World} (h : CcS B w p D M c x) : Rd B x := h.2.rd
theorem CcS.drew {B : Nat} {w : World} {p : LP} {D : Led} {M : Nat} {c : Cm} {x : World} (h : CcS B w p D M c x) : CcS B w p D M c x.drew := ⟨h.1, h.2.drew⟩
theorem CcS.alloc {B : Nat} {w : World} {p : LP} {D : Led} {M : Nat} {c : Cm} {x : World} (h : CcS B w p D M c x) (o : Obj) : CcS B w p D M c (x.alloc o) := ⟨h.1, h.2.alloc o⟩
theorem CcS.blkC {B : Nat} {w : World} {p : LP} {D : Led} {M : Nat} {c : Cm} {x : World} (h : CcS B w p D M c x) : Blk M c.cells x := h.2.blkAt (i := 2) rfl
theorem CcS.blkL {B : Nat} {w : World} {p : LP} {D : Led} {M : Nat} {c : Cm} {x : World} (h : CcS B w p D M c x) : Blk w.heap.size (ledC p D) x := h.2.blkAt (i := 0) rfl
theorem CcS.kind {B : Nat} {w : World} {p : LP} {D : Led} {M : Nat} {c : Cm} {x : World} (h : CcS B w p D M c x) (v : Int) : CcS B w p D M { c with kind := v } (x.setCell ⟨M, 1, none⟩ (.int .i64 v)) := ⟨h.1, RP.setBlk (i := 2) h.2 rfl 1 (.int .i64 v) (by simp [Cm.cells])⟩
theorem CcS.fr {B : Nat} {w : World} {p : LP} {D : Led} {M : Nat} {c : Cm} {x : World} (h : CcS B w p D M c x) (v : ByteArray) (hv : v.size ≤ 8) : CcS B w p D M { c with fr := v } (x.setCell ⟨M, 2, none⟩ (.string v)) := ⟨⟨hv, h.1.2⟩, RP.setBlk (i := 2) h.2 rfl 2 (.string v) (by simp [Cm.cells])⟩
theorem CcS.to {B : Nat} {w : World} {p : LP} {D : Led} {M : Nat} {c : Cm} {x : World} (h : CcS B w p D M c x) (v : ByteArray) (hv : v.size ≤ 8) : CcS B w p D M { c with «to» := v } (x.setCell ⟨M, 3, none⟩ (.string v)) := ⟨⟨h.1.1, hv⟩, RP.setBlk (i := 2) h.2 rfl 3 (.string v) (by simp [Cm.cells])⟩
theorem CcS.am {B : Nat} {w : World} {p : LP} {D : Led} {M : Nat} {c : Cm} {x : World} (h : CcS B w p D M c x) (v : Int) : CcS B w p D M { c with am := v } (x.setCell ⟨M, 4, none⟩ (.int .i64 v)) := ⟨h.1, RP.setBlk (i := 2) h.2 rfl 4 (.int .i64 v) (by simp [Cm.cells])⟩
theorem CcS.ref {B : Nat} {w : World} {p : LP} {D : Led} {M : Nat} {c : Cm} {x : World} (h : CcS B w p D M c x) (v : Int) : CcS B w p D M { c with ref := v } (x.setCell ⟨M, 5, none⟩ (.int .i64 v)) := ⟨h.1, RP.setBlk (i := 2) h.2 rfl 5 (.int .i64 v) (by simp [Cm.cells])⟩
theorem lit_cells {B : Nat} {x y : World} {l : List Value} {T : TypeId} (hB : B < x.heap.size) (ha : Aprt B (x.alloc (.cells l.toArray T)) y) (k : Nat) (v : Value) (h : l[k]? = some v) : y.cell? ⟨x.heap.size, k, none⟩ = some v :=
  (ha.cell (by simp) (by omega)).trans ((Blk.new (T := T)).c k v h)
theorem CcS.lt {B : Nat} {w : World} {p : LP} {D : Led} {M : Nat} {c : Cm} {x : World} (h : CcS B w p D M c x) : B < x.heap.size := h.rd.lt
structure CgF (B : Nat) (w : World) (p : LP) (D : Led) (M : Nat) (i0 : Int) (k0 : Int) (l0 l1 l2 l3 l4 l5 l6 l7 l8 l9 l10 l11 : Bool) (u38 u39 u40 u41 u42 u43 u44 u45 u46 u47 u48 : Value) (x : World) : Prop where
  cc : ∃ t : Int, CcS B w p D M ⟨i0, k0, ⟨#[]⟩, ⟨#[]⟩, 0, t⟩ x
  q44 : l6 = true → ∃ j : Nat, j < D.hold.length ∧ u44 = .int .i64 (j : Int)
  q45 : l7 = true → ∃ (j : Nat) (b off : Nat), j < D.hold.length ∧ p.ha = some ⟨b, off, none⟩ ∧ u45 = .pointer (some ⟨b, off + j * 4, none⟩)
  q46 : l8 = true → ∃ (j : Nat) (b off : Nat), j < D.hold.length ∧ p.ha = some ⟨b, off, none⟩ ∧ u46 = .pointer (some ⟨b, off + j * 4, none⟩)
  q47 : l9 = true → ∃ v : Int, u47 = .int .i64 v
  d7 : l7 = true → l6 = true
  p38 : l0 = true → u38 = .pointer (some ⟨w.heap.size, 1, none⟩)
  p41 : l3 = true → u41 = .pointer (some ⟨w.heap.size, 1, none⟩)
  p39 : l1 = true → u39 = .slice p.ha D.hold.length p.ch
  p42 : l4 = true → u42 = .slice p.ha D.hold.length p.ch
  p40 : l2 = true → u40 = .pointer (some ⟨B, 0, none⟩)
  p43 : l5 = true → u43 = .int .i64 (D.hold.length : Int)
  p48 : l10 = true → u48 = .pointer (some ⟨M, 5, none⟩)
theorem CgF.rd {B : Nat} {w : World} {p : LP} {D : Led} {M : Nat} {i0 : Int} {k0 : Int} {l0 l1 l2 l3 l4 l5 l6 l7 l8 l9 l10 l11 : Bool} {u38 u39 u40 u41 u42 u43 u44 u45 u46 u47 u48 : Value} {x : World} (h : CgF B w p D M i0 k0 l0 l1 l2 l3 l4 l5 l6 l7 l8 l9 l10 l11 u38 u39 u40 u41 u42 u43 u44 u45 u46 u47 u48 x) : Rd B x := by obtain ⟨_, hc⟩ := h.cc; exact hc.rd
theorem CgF.c6 {B : Nat} {w : World} {p : LP} {D : Led} {M : Nat} {i0 : Int} {k0 : Int} {l0 l1 l3 l4 l7 l8 l9 l10 l11 : Bool} {u38 u39 u40 u41 u42 u43 u44 u45 u46 u47 u48 : Value} {x : World} {y : World} {j : Int} (h : CgF B w p D M i0 k0 l0 l1 true l3 l4 true false l7 l8 l9 l10 l11 u38 u39 u40 u41 u42 u43 u44 u45 u46 u47 u48 x) (hr : Rd B y) (ha : Aprt B x y) (j0 : 0 ≤ j) (j1 : j < (D.hold.length : Int)) : CgF B w p D M i0 k0 l0 l1 true l3 l4 true true l7 l8 l9 l10 l11 u38 u39 u40 u41 u42 u43 (.int .i64 j) u45 u46 u47 u48 y := { h with cc := by (obtain ⟨t, hc⟩ := h.cc; exact ⟨t, hc.read hr ha⟩), q44 := fun _ => ⟨j.toNat, by omega, by rw [Int.toNat_of_nonneg j0]⟩, q45 := fun q => (by cases h.d7 q), d7 := fun _ => rfl }
set_option maxHeartbeats 4000000 in
theorem command_any (B : Nat) (p : LP) (D : Led) (w : World) (h : Rd B w) (n1 : D.acc.length ≤ 1048576) (n2 : D.hold.length ≤ 1048576) (hN : ∀ x, Aprt B w x → RowAt 4 hldCells x p.ha D.hold) : Calls Tryz.prog 51 #[.pointer (some ⟨B, 0, none⟩), ledV p D] w fun e w' => CmdEnd B w e w' := by
  have hB := h.lt
  have HN : Hid (∀ x, Aprt B w x → RowAt 4 hldCells x p.ha D.hold) := hide hN
  obtain ⟨W2, hW2⟩ : ∃ W2, W2 = (w.alloc (.cells #[.slice p.aa D.acc.length p.ca, .slice p.ha D.hold.length p.ch, .slice p.sa D.seen.length p.cs] 28)).alloc (.cells #[.int .i64 0, .int .i64 0, .string ⟨#[]⟩, .string ⟨#[]⟩, .int .i64 0, .int .i64 0] 83) := ⟨_, rfl⟩
  have HP0 : Hid (RP B w [[blk w.heap.size (ledC p D)], [blk (w.heap.size + 1) [.int .i64 0, .int .i64 0, .string ⟨#[]⟩, .string ⟨#[]⟩, .int .i64 0, .int .i64 0]], []] W2) := hide (by
    have p1 := (RP.start h [[], [], []] rfl).newBlk (i := 0) rfl (ledC p D) 28
    have s1 : (w.alloc (.cells (ledC p D).toArray 28)).heap.size = w.heap.size + 1 := by simp
    have p2 := p1.newBlk (i := 1) rfl [.int .i64 0, .int .i64 0, .string ⟨#[]⟩, .string ⟨#[]⟩, .int .i64 0, .int .i64 0] 83
    rw [s1] at p2
    rw [hW2]
    exact p2)
  have HW2 : Hid (_ = W2) := hide hW2.symm
  clear h hN hW2
  unfold ledV
  go_enter Tryz.func51, Tryz.ntmps51
  go_wp2_with fail
  rw [HW2.out]
  refine (below_any B 50 _ HP0.out.rd (by omega)).mono ?_
  rintro e w1 ⟨⟨r, r0, _, r1, rfl⟩, hr1, ha1⟩
  have HP1 : Hid _ := hide (HP0.out.read hr1 ha1)
  clear hr1 ha1 HP0 HW2
  go_wp2_with fail
  refine (below_any B 5 _ HP1.out.rd (by omega)).mono ?_
  rintro e w2 ⟨⟨s, s0, _, s1, rfl⟩, hr2, ha2⟩
  have HP2 : Hid _ := hide (HP1.out.read hr2 ha2)
  obtain ⟨W3, hW3⟩ : ∃ W3, W3 = w2.alloc (.cells #[.int .i64 (1 + r), .int .i64 (1 + s), .string ⟨#[]⟩, .string ⟨#[]⟩, .int .i64 0, .int .i64 0] 83) := ⟨_, rfl⟩
  have HA : Hid (CcS B w p D w2.heap.size ⟨1 + r, 1 + s, ⟨#[]⟩, ⟨#[]⟩, 0, 0⟩ W3) := hide ⟨⟨show (⟨#[]⟩ : ByteArray).size ≤ 8 by decide, show (⟨#[]⟩ : ByteArray).size ≤ 8 by decide⟩, by
    rw [hW3]; exact HP2.out.newBlk (i := 2) rfl [.int .i64 (1 + r), .int .i64 (1 + s), .string ⟨#[]⟩, .string ⟨#[]⟩, .int .i64 0, .int .i64 0] 83⟩
  have HW3 : Hid (_ = W3) := hide hW3.symm
  clear hr2 ha2 hW3 HP1 HP2
  go_upto_region 2 with fail
  rw [HW3.out]
  go_cut [21] from 13 to 92 (fun sl wx => Hid ((∃ b : Bool, sl = .bool b) ∧ CcS B w p D w2.heap.size ⟨1 + r, 1 + s, ⟨#[]⟩, ⟨#[]⟩, 0, 0⟩ wx))
  case first =>
    have d0 := HA.out.blkL.c 0 _ rfl
    by_cases hl : D.acc.length < 2
    · have hl' : (D.acc.length : Int) < 2 := by omega
      go_wp2_with fail
      refine (once_any B 4 _ HA.out.rd (by omega) (by omega)).mono ?_
      rintro e w4 ⟨⟨b, rfl⟩, hr4, ha4⟩
      have HA4 : Hid _ := hide (HA.out.read hr4 ha4)
      clear hr4 ha4 d0
      go_wp2_with fail
      go_meet
      exact hide ⟨⟨_, rfl⟩, HA4.out⟩
    · have hl' : ¬ (D.acc.length : Int) < 2 := by omega
      go_wp2_with fail
      go_meet
      exact hide ⟨⟨_, rfl⟩, HA.out⟩
  case rest =>
    obtain ⟨⟨b, rfl⟩, hc⟩ := hcut.out
    have HC : Hid _ := hide hc
    clear hcut hc HA HW3
    rename_i K0 hK0
    refine hK0 _ _ ?_
    go_cut [] from 13 to 92 (fun wx => Hid (∃ k : Int, CcS B w p D w2.heap.size ⟨1 + r, k, ⟨#[]⟩, ⟨#[]⟩, 0, 0⟩ wx))
    case first =>
      have c1 := HC.out.blkC.c 1 _ rfl
      have f1 := HC.out.blkC.f 1
      cases b
      · go_wp2_with fail
        go_meet
        exact hide ⟨_, HC.out⟩
      · go_wp2_with fail
        go_meet
        exact hide ⟨_, HC.out.kind 1⟩
    case rest =>
      obtain ⟨k, hc⟩ := hcut.out
      have HK : Hid _ := hide hc
      clear hcut hc HC
      have c1 := HK.out.blkC.c 1 _ rfl
      go_upto_block 0 with fail
      go_cut [] from 13 to 92 (fun wx => Hid (∃ c : Cm, CcS B w p D w2.heap.size c wx))
      case first =>
        clear c1
        by_cases k1 : k = 1
        · subst k1
          go_wp2_with fail
          refine (dname_any B _ HK.out.rd).mono ?_
          rintro e w4 ⟨⟨s1, z1, rfl⟩, hr, ha⟩
          have H4 : Hid _ := hide (HK.out.read hr ha)
          have c_ := H4.out.blkC.c 2 _ rfl
          have f_ := H4.out.blkC.f 2
          clear hr ha
          go_upto_region 10 with fail
          refine cnm_world (fun W5 hW5 => ?_)
          have H5 : Hid (∃ c : Cm, CcS B w p D w2.heap.size c W5) := hide ⟨_, by rw [hW5]; exact H4.out.fr s1 z1⟩
          clear hW5 H4 c_ f_ HK
          go_cut [] from 25 to 92 (fun wx => Hid (∃ c : Cm, CcS B w p D w2.heap.size c wx))
          case first =>
            obtain ⟨c, h5⟩ := H5.out
            have HC : Hid _ := hide h5
            clear H5 h5
            go_wp2_with fail
            refine (below_any B 3 _ (HC.out.alloc _).rd (by omega)).mono ?_
            rintro e w6 ⟨⟨q, q0, q3, _, rfl⟩, hr6, ha6⟩
            have H6 : Hid _ := hide ((HC.out.alloc _).read hr6 ha6)
            have l0 := lit_cells HC.out.lt ha6 0 _ rfl
            have l1 := lit_cells HC.out.lt ha6 1 _ rfl
            have l2 := lit_cells HC.out.lt ha6 2 _ rfl
            have c3 := H6.out.blkC.c 3 _ rfl
            have f3 := H6.out.blkC.f 3
            clear hr6 ha6 HC
            obtain rfl | rfl | rfl : q = 0 ∨ q = 1 ∨ q = 2 := by omega
            all_goals
              go_wp2_with fail
              go_meet
              exact hide ⟨_, H6.out.to _ (by decide)⟩
          case rest =>
            have HR := hcut
            clear hcut H5
            go_upto_region 11 with fail
            go_cut [] from 25 to 92 (fun wx => Hid (∃ c : Cm, CcS B w p D w2.heap.size c wx))
            case first =>
              obtain ⟨c, h5⟩ := HR.out
              have HC : Hid _ := hide h5
              clear HR h5
              go_wp2_with fail
              refine (below_any B 3 _ (HC.out.alloc _).rd (by omega)).mono ?_
              rintro e w6 ⟨⟨q, q0, q3, _, rfl⟩, hr6, ha6⟩
              have H6 : Hid _ := hide ((HC.out.alloc _).read hr6 ha6)
              have l0 := lit_cells HC.out.lt ha6 0 _ rfl
              have l1 := lit_cells HC.out.lt ha6 1 _ rfl
              have l2 := lit_cells HC.out.lt ha6 2 _ rfl
              have c4 := H6.out.blkC.c 4 _ rfl
              have f4 := H6.out.blkC.f 4
              clear hr6 ha6 HC
              obtain rfl | rfl | rfl : q = 0 ∨ q = 1 ∨ q = 2 := by omega
              all_goals
                go_wp2_with fail
                go_meet
                exact hide ⟨_, H6.out.am _⟩
            case rest =>
              obtain ⟨c, h5⟩ := hcut.out
              have HC : Hid _ := hide h5
              clear hcut HR h5
              have c2 := HC.out.blkC.c 2 _ rfl
              have c4 := HC.out.blkC.c 4 _ rfl
              have f4 := HC.out.blkC.f 4
              go_wp2_with fail
              all_goals
                go_meet
                first
                  | exact hide ⟨_, HC.out.am _⟩
                  | exact hide ⟨_, HC.out⟩
        · have k1' : (k == 1) = false := by simpa using k1
          by_cases k23 : k = 2 ∨ k = 3
          · obtain rfl | rfl := k23
            · go_wp2_with fail
              refine (dname_any B _ HK.out.rd).mono ?_
              rintro e w4 ⟨⟨s1, z1, rfl⟩, hr, ha⟩
              have H4 : Hid _ := hide (HK.out.read hr ha)
              have c_ := H4.out.blkC.c 2 _ rfl
              have f_ := H4.out.blkC.f 2
              clear hr ha
              go_wp2_with fail
              refine cnm_calls (fun W5 hW5 => ?_)
              have H5 : Hid _ := hide (by have q := H4.out.fr s1 z1; rw [← hW5] at q; exact q)
              clear hW5 H4 c_ f_
              refine (dname_any B _ H5.out.rd).mono ?_
              rintro e w6 ⟨⟨s2, z2, rfl⟩, hr, ha⟩
              have H6 : Hid _ := hide (H5.out.read hr ha)
              have c_ := H6.out.blkC.c 3 _ rfl
              have f_ := H6.out.blkC.f 3
              clear hr ha
              go_wp2_with fail
              refine cnm_calls (fun W7 hW7 => ?_)
              have H7 : Hid _ := hide (by have q := H6.out.to s2 z2; rw [← hW7] at q; exact q)
              clear hW7 H6 c_ f_ H5
              refine (once_any B 2 _ H7.out.rd (by omega) (by omega)).mono ?_
              rintro e w8 ⟨⟨b, rfl⟩, hr, ha⟩
              have H8 : Hid _ := hide (H7.out.read hr ha)
              clear hr ha H7
              cases b
              · go_wp2_with fail
                refine (amount_any B _ H8.out.rd).mono ?_
                rintro e w9 ⟨⟨m, m0, m1, rfl⟩, hr, ha⟩
                have H9 : Hid _ := hide (H8.out.read hr ha)
                have c4 := H9.out.blkC.c 4 _ rfl
                have f4 := H9.out.blkC.f 4
                clear hr ha H8
                go_wp2_with fail
                go_meet
                exact hide ⟨_, H9.out.am _⟩
              · have c2 := H8.out.blkC.c 2 _ rfl
                have f2 := H8.out.blkC.f 2
                go_wp2_with fail
                refine cnm_calls (fun W9 hW9 => ?_)
                have H9 : Hid _ := hide (by have q := H8.out.fr ⟨#[98, 97, 110, 107]⟩ (by decide); rw [← hW9] at q; exact q)
                clear hW9 H8 c2 f2
                refine (amount_any B _ H9.out.rd).mono ?_
                rintro e w10 ⟨⟨m, m0, m1, rfl⟩, hr, ha⟩
                have HX : Hid _ := hide (H9.out.read hr ha)
                have c4 := HX.out.blkC.c 4 _ rfl
                have f4 := HX.out.blkC.f 4
                clear hr ha H9
                go_wp2_with fail
                go_meet
                exact hide ⟨_, HX.out.am _⟩
            · go_wp2_with fail
              refine (dname_any B _ HK.out.rd).mono ?_
              rintro e w4 ⟨⟨s1, z1, rfl⟩, hr, ha⟩
              have H4 : Hid _ := hide (HK.out.read hr ha)
              have c_ := H4.out.blkC.c 2 _ rfl
              have f_ := H4.out.blkC.f 2
              clear hr ha
              go_wp2_with fail
              refine cnm_calls (fun W5 hW5 => ?_)
              have H5 : Hid _ := hide (by have q := H4.out.fr s1 z1; rw [← hW5] at q; exact q)
              clear hW5 H4 c_ f_
              refine (dname_any B _ H5.out.rd).mono ?_
              rintro e w6 ⟨⟨s2, z2, rfl⟩, hr, ha⟩
              have H6 : Hid _ := hide (H5.out.read hr ha)
              have c_ := H6.out.blkC.c 3 _ rfl
              have f_ := H6.out.blkC.f 3
              clear hr ha
              go_wp2_with fail
              refine cnm_calls (fun W7 hW7 => ?_)
              have H7 : Hid _ := hide (by have q := H6.out.to s2 z2; rw [← hW7] at q; exact q)
              clear hW7 H6 c_ f_ H5
              refine (once_any B 2 _ H7.out.rd (by omega) (by omega)).mono ?_
              rintro e w8 ⟨⟨b, rfl⟩, hr, ha⟩
              have H8 : Hid _ := hide (H7.out.read hr ha)
              clear hr ha H7
              cases b
              · go_wp2_with fail
                refine (amount_any B _ H8.out.rd).mono ?_
                rintro e w9 ⟨⟨m, m0, m1, rfl⟩, hr, ha⟩
                have H9 : Hid _ := hide (H8.out.read hr ha)
                have c4 := H9.out.blkC.c 4 _ rfl
                have f4 := H9.out.blkC.f 4
                clear hr ha H8
                go_wp2_with fail
                go_meet
                exact hide ⟨_, H9.out.am _⟩
              · have c2 := H8.out.blkC.c 2 _ rfl
                have f2 := H8.out.blkC.f 2
                go_wp2_with fail
                refine cnm_calls (fun W9 hW9 => ?_)
                have H9 : Hid _ := hide (by have q := H8.out.fr ⟨#[98, 97, 110, 107]⟩ (by decide); rw [← hW9] at q; exact q)
                clear hW9 H8 c2 f2
                refine (amount_any B _ H9.out.rd).mono ?_
                rintro e w10 ⟨⟨m, m0, m1, rfl⟩, hr, ha⟩
                have HX : Hid _ := hide (H9.out.read hr ha)
                have c4 := HX.out.blkC.c 4 _ rfl
                have f4 := HX.out.blkC.f 4
                clear hr ha H9
                go_wp2_with fail
                go_meet
                exact hide ⟨_, HX.out.am _⟩
          · have k2' : (k == 2) = false := by simp only [beq_eq_false_iff_ne]; omega
            have k3' : (k == 3) = false := by simp only [beq_eq_false_iff_ne]; omega
            go_wp2_with fail
            refine (below_any B 50 _ HK.out.rd (by omega)).mono ?_
            rintro e w4 ⟨⟨q, q0, _, q1, rfl⟩, hr4, ha4⟩
            have H4 : Hid _ := hide (HK.out.read hr4 ha4)
            have c5 := H4.out.blkC.c 5 _ rfl
            have f5 := H4.out.blkC.f 5
            have d1 := H4.out.blkL.c 1 _ rfl
            clear hr4 ha4 HK
            by_cases hp : 0 < D.hold.length
            · have hp' : (0 : Int) < (D.hold.length : Int) := by omega
              go_wp2_with fail
              refine cnm_calls (fun W5 hW5 => ?_)
              have H5 : Hid (CcS B w p D w2.heap.size ⟨1 + r, k, ⟨#[]⟩, ⟨#[]⟩, 0, 1 + q⟩ W5) := hide (by rw [hW5]; exact H4.out.ref (1 + q))
              clear hW5 H4 c5 f5 d1
              refine (once_any B 4 _ H5.out.rd (by omega) (by omega)).mono ?_
              rintro e w6 ⟨⟨bb, rfl⟩, hr6, ha6⟩
              have H6 : Hid (CcS B w p D w2.heap.size ⟨1 + r, k, ⟨#[]⟩, ⟨#[]⟩, 0, 1 + q⟩ w6) := hide (H5.out.read hr6 ha6)
              clear hr6 ha6 H5
              cases bb
              · go_upto_region 7 with fail
                refine wp_region_inv (by kernel_rfl) (fun L act x => ∃ l0 l1 l2 l3 l4 l5 l6 l7 l8 l9 l10 l11 : Bool, ∃ u38 u39 u40 u41 u42 u43 u44 u45 u46 u47 u48 : Value, L = #[l0, l1, l2, l3, l4, l5, l6, l7, l8, l9, l10, l11] ∧ act = { tmps := #[Value.pointer (some { block := B, off := 0 }), Value.agg #[Value.slice p.aa D.acc.length p.ca, Value.slice p.ha D.hold.length p.ch, Value.slice p.sa D.seen.length p.cs], undef, Value.pointer (some { block := w.heap.size, off := 0 }), Value.pointer (some { block := w.heap.size + 1, off := 0 }), Value.pointer (some { block := w2.heap.size, off := 0 }), Value.pointer (some { block := B, off := 0 }), Value.int IntKind.i64 r, Value.int IntKind.i64 (1 + r), Value.pointer (some { block := B, off := 0 }), Value.int IntKind.i64 s, Value.int IntKind.i64 (1 + s), Value.agg #[Value.int IntKind.i64 (1 + r), Value.int IntKind.i64 (1 + s), Value.string { data := #[] }, Value.string { data := #[] }, Value.int IntKind.i64 0, Value.int IntKind.i64 0], u13, u14, u15, u16, u17, u18, u19, u20, u21, u22, Value.pointer (some { block := w2.heap.size, off := 1 }), Value.int IntKind.i64 k, Value.pointer (some { block := B, off := 0 }), Value.int IntKind.i64 q, Value.int IntKind.i64 (1 + q), Value.pointer (some { block := w2.heap.size, off := 5 }), Value.pointer (some { block := w.heap.size, off := 1 }), Value.slice p.ha D.hold.length p.ch, Value.int IntKind.i64 ↑D.hold.length, Value.bool true, Value.bool true, Value.pointer (some { block := B, off := 0 }), Value.bool false, Value.bool true, Value.bool true, u38, u39, u40, u41, u42, u43, u44, u45, u46, u47, u48, Value.bool false, Value.bool false, u51, u52, u53, u54, u55, u56, u57, u58, u59, u60, u61, u62, u63, u64, u65, u66, u67, u68, u69, Value.bool false, Value.bool false, Value.bool false, u73, u74, u75, u76, u77, u78, u79, u80, u81, u82, u83, u84, u85, u86, u87, u88, u89, u90, u91], defers := [] } ∧ CgF B w p D w2.heap.size (1 + r) k l0 l1 l2 l3 l4 l5 l6 l7 l8 l9 l10 l11 u38 u39 u40 u41 u42 u43 u44 u45 u46 u47 u48 x) ?_ ?_ ?_
                rotate_left 2
                · exact ⟨false, false, false, false, false, false, false, false, false, false, false, false, (u38), (u39), (u40), (u41), (u42), (u43), (u44), (u45), (u46), (u47), (u48), rfl, rfl, ⟨⟨_, H6.out.drew⟩, fun q => (by cases q), fun q => (by cases q), fun q => (by cases q), fun q => (by cases q), fun q => (by cases q), fun q => (by cases q), fun q => (by cases q), fun q => (by cases q), fun q => (by cases q), fun q => (by cases q), fun q => (by cases q), fun q => (by cases q)⟩⟩
                · rintro L act x i ⟨l0, l1, l2, l3, l4, l5, l6, l7, l8, l9, l10, l11, u38, u39, u40, u41, u42, u43, u44, u45, u46, u47, u48, rfl, rfl, h⟩ hi K hK
                  have hi15 : i < 12 := by
                    obtain ⟨_, o, ho, _⟩ := mem_ready.1 hi
                    exact (Array.getElem?_eq_some_iff.1 ho).1
                  have hl := (mem_ready.1 hi).1
                  obtain rfl | rfl | rfl | rfl | rfl | rfl | rfl | rfl | rfl | rfl | rfl | rfl := (by omega : i = 0 ∨ i = 1 ∨ i = 2 ∨ i = 3 ∨ i = 4 ∨ i = 5 ∨ i = 6 ∨ i = 7 ∨ i = 8 ∨ i = 9 ∨ i = 10 ∨ i = 11)
                  · have e : l0 = false := hl
                    subst e
                    refine wpOp_run (v := .pointer (some ⟨w.heap.size, 1, none⟩)) (w' := x) (by rfl) (by rfl) ?_ (hK _ _ ⟨true, l1, l2, l3, l4, l5, l6, l7, l8, l9, l10, l11, (.pointer (some ⟨w.heap.size, 1, none⟩)), u39, u40, u41, u42, u43, u44, u45, u46, u47, u48, rfl, rfl, { h with p38 := fun _ => rfl }⟩)
                    go_simp
                  · have e : l1 = false := hl
                    subst e
                    have d0 : l0 = true := ready_on hi 0 (by kernel_rfl)
                    subst d0
                    obtain ⟨t, hc⟩ := h.cc
                    have c1 : x.cell? ⟨w.heap.size, 1, none⟩ = some (.slice p.ha D.hold.length p.ch) := hc.blkL.c 1 _ rfl
                    refine wpOp_run (v := .slice p.ha D.hold.length p.ch) (w' := x) (by rfl) (by rfl) ?_ (hK _ _ ⟨true, true, l2, l3, l4, l5, l6, l7, l8, l9, l10, l11, u38, (.slice p.ha D.hold.length p.ch), u40, u41, u42, u43, u44, u45, u46, u47, u48, rfl, rfl, { h with p39 := fun _ => rfl }⟩)
                    rw [h.p38 rfl]
                    go_simp
                  · have e : l2 = false := hl
                    subst e
                    refine wpOp_run (v := .pointer (some ⟨B, 0, none⟩)) (w' := x) (by rfl) (by rfl) ?_ (hK _ _ ⟨l0, l1, true, l3, l4, l5, l6, l7, l8, l9, l10, l11, u38, u39, (.pointer (some ⟨B, 0, none⟩)), u41, u42, u43, u44, u45, u46, u47, u48, rfl, rfl, { h with p40 := fun _ => rfl }⟩)
                    go_simp
                  · have e : l3 = false := hl
                    subst e
                    refine wpOp_run (v := .pointer (some ⟨w.heap.size, 1, none⟩)) (w' := x) (by rfl) (by rfl) ?_ (hK _ _ ⟨l0, l1, l2, true, l4, l5, l6, l7, l8, l9, l10, l11, u38, u39, u40, (.pointer (some ⟨w.heap.size, 1, none⟩)), u42, u43, u44, u45, u46, u47, u48, rfl, rfl, { h with p41 := fun _ => rfl }⟩)
                    go_simp
                  · have e : l4 = false := hl
                    subst e
                    have d3 : l3 = true := ready_on hi 3 (by kernel_rfl)
                    subst d3
                    obtain ⟨t, hc⟩ := h.cc
                    have c1 : x.cell? ⟨w.heap.size, 1, none⟩ = some (.slice p.ha D.hold.length p.ch) := hc.blkL.c 1 _ rfl
                    refine wpOp_run (v := .slice p.ha D.hold.length p.ch) (w' := x) (by rfl) (by rfl) ?_ (hK _ _ ⟨l0, l1, l2, true, true, l5, l6, l7, l8, l9, l10, l11, u38, u39, u40, u41, (.slice p.ha D.hold.length p.ch), u43, u44, u45, u46, u47, u48, rfl, rfl, { h with p42 := fun _ => rfl }⟩)
                    rw [h.p41 rfl]
                    go_simp
                  · have e : l5 = false := hl
                    subst e
                    have d4 : l4 = true := ready_on hi 4 (by kernel_rfl)
                    subst d4
                    refine wpOp_run (v := .int .i64 (D.hold.length : Int)) (w' := x) (by rfl) (by rfl) ?_ (hK _ _ ⟨l0, l1, l2, l3, true, true, l6, l7, l8, l9, l10, l11, u38, u39, u40, u41, u42, (.int .i64 (D.hold.length : Int)), u44, u45, u46, u47, u48, rfl, rfl, { h with p43 := fun _ => rfl }⟩)
                    rw [h.p42 rfl]
                    go_simp
                  · have e : l6 = false := hl
                    subst e
                    have d2 : l2 = true := ready_on hi 2 (by kernel_rfl)
                    subst d2
                    have d5 : l5 = true := ready_on hi 5 (by kernel_rfl)
                    subst d5
                    refine wpOp_call (by rfl) (by rfl) ?_ (below_any B (D.hold.length : Int) x h.rd (by omega)) ?_
                    · rw [h.p40 rfl, h.p43 rfl]; go_simp
                    · rintro e w' ⟨⟨j, j0, jj, j1, rfl⟩, hr, ha⟩
                      exact ⟨_, rfl, hK _ _ ⟨l0, l1, true, l3, l4, true, true, l7, l8, l9, l10, l11, u38, u39, u40, u41, u42, u43, (.int .i64 j), u45, u46, u47, u48, rfl, rfl, h.c6 hr ha j0 (by omega)⟩⟩
                  · have e : l7 = false := hl
                    subst e
                    have d1 : l1 = true := ready_on hi 1 (by kernel_rfl)
                    subst d1
                    have d6 : l6 = true := ready_on hi 6 (by kernel_rfl)
                    subst d6
                    obtain ⟨j, hj, e1⟩ := h.q44 rfl
                    obtain ⟨t, hc⟩ := h.cc
                    obtain ⟨b, off, e, _⟩ := (HN.out x (RP.apart hc.2)) j hj
                    refine wpOp_run (v := .pointer (some ⟨b, off + j * 4, none⟩)) (w' := x) (by rfl) (by rfl) ?_ (hK _ _ ⟨l0, true, l2, l3, l4, l5, true, true, l8, l9, l10, l11, u38, u39, u40, u41, u42, u43, u44, (.pointer (some ⟨b, off + j * 4, none⟩)), u46, u47, u48, rfl, rfl, { h with q45 := fun _ => ⟨j, b, off, hj, e, rfl⟩, d7 := fun _ => rfl }⟩)
                    rw [h.p39 rfl, e1, e]
                    have hj2 : (j : Int) < (D.hold.length : Int) := (by omega)
                    go_simp
                  · have e : l8 = false := hl
                    subst e
                    have d7 : l7 = true := ready_on hi 7 (by kernel_rfl)
                    subst d7
                    obtain ⟨j, b, off, hj, e, e1⟩ := h.q45 rfl
                    refine wpOp_run (v := .pointer (some ⟨b, off + j * 4, none⟩)) (w' := x) (by rfl) (by rfl) ?_ (hK _ _ ⟨l0, l1, l2, l3, l4, l5, l6, true, true, l9, l10, l11, u38, u39, u40, u41, u42, u43, u44, u45, (.pointer (some ⟨b, off + j * 4, none⟩)), u47, u48, rfl, rfl, { h with q46 := fun _ => ⟨j, b, off, hj, e, rfl⟩ }⟩)
                    rw [e1]
                    go_simp
                  · have e : l9 = false := hl
                    subst e
                    have d8 : l8 = true := ready_on hi 8 (by kernel_rfl)
                    subst d8
                    obtain ⟨j, b, off, hj, e, e1⟩ := h.q46 rfl
                    obtain ⟨t, hc⟩ := h.cc
                    obtain ⟨b2, off2, e2, _, cl⟩ := (HN.out x (RP.apart hc.2)) j hj
                    rw [e] at e2
                    simp only [Option.some.injEq, Addr.mk.injEq, and_true] at e2
                    obtain ⟨rfl, rfl⟩ := e2
                    have cc := cl 0 (.int .i64 (D.hold[j]).id) rfl
                    rw [Nat.add_zero] at cc
                    refine wpOp_run (v := .int .i64 (D.hold[j]).id) (w' := x) (by rfl) (by rfl) ?_ (hK _ _ ⟨l0, l1, l2, l3, l4, l5, l6, l7, true, true, l10, l11, u38, u39, u40, u41, u42, u43, u44, u45, u46, (.int .i64 (D.hold[j]).id), u48, rfl, rfl, { h with q47 := fun _ => ⟨_, rfl⟩ }⟩)
                    rw [e1]
                    go_simp
                  · have e : l10 = false := hl
                    subst e
                    have d0 : l0 = true := ready_on hi 0 (by kernel_rfl)
                    subst d0
                    have d1 : l1 = true := ready_on hi 1 (by kernel_rfl)
                    subst d1
                    have d2 : l2 = true := ready_on hi 2 (by kernel_rfl)
                    subst d2
                    have d3 : l3 = true := ready_on hi 3 (by kernel_rfl)
                    subst d3
                    have d4 : l4 = true := ready_on hi 4 (by kernel_rfl)
                    subst d4
                    have d5 : l5 = true := ready_on hi 5 (by kernel_rfl)
                    subst d5
                    have d6 : l6 = true := ready_on hi 6 (by kernel_rfl)
                    subst d6
                    have d7 : l7 = true := ready_on hi 7 (by kernel_rfl)
                    subst d7
                    have d8 : l8 = true := ready_on hi 8 (by kernel_rfl)
                    subst d8
                    have d9 : l9 = true := ready_on hi 9 (by kernel_rfl)
                    subst d9
                    refine wpOp_run (v := .pointer (some ⟨w2.heap.size, 5, none⟩)) (w' := x) (by rfl) (by rfl) ?_ (hK _ _ ⟨true, true, true, true, true, true, true, true, true, true, true, l11, u38, u39, u40, u41, u42, u43, u44, u45, u46, u47, (.pointer (some ⟨w2.heap.size, 5, none⟩)), rfl, rfl, { h with p48 := fun _ => rfl }⟩)
                    go_simp
                  · have e : l11 = false := hl
                    subst e
                    have d0 : l0 = true := ready_on hi 0 (by kernel_rfl)
                    subst d0
                    have d1 : l1 = true := ready_on hi 1 (by kernel_rfl)
                    subst d1
                    have d2 : l2 = true := ready_on hi 2 (by kernel_rfl)
                    subst d2
                    have d3 : l3 = true := ready_on hi 3 (by kernel_rfl)
                    subst d3
                    have d4 : l4 = true := ready_on hi 4 (by kernel_rfl)
                    subst d4
                    have d5 : l5 = true := ready_on hi 5 (by kernel_rfl)
                    subst d5
                    have d6 : l6 = true := ready_on hi 6 (by kernel_rfl)
                    subst d6
                    have d7 : l7 = true := ready_on hi 7 (by kernel_rfl)
                    subst d7
                    have d8 : l8 = true := ready_on hi 8 (by kernel_rfl)
                    subst d8
                    have d9 : l9 = true := ready_on hi 9 (by kernel_rfl)
                    subst d9
                    have d10 : l10 = true := ready_on hi 10 (by kernel_rfl)
                    subst d10
                    obtain ⟨v, e1⟩ := h.q47 rfl
                    obtain ⟨t, hc⟩ := h.cc
                    refine wpOp_skip (w' := x.setCell ⟨w2.heap.size, 5, none⟩ (.int .i64 v)) (by rfl) (by rfl) ?_ (hK _ _ ⟨true, true, true, true, true, true, true, true, true, true, true, true, u38, u39, u40, u41, u42, u43, u44, u45, u46, u47, u48, rfl, rfl, { h with cc := ⟨v, hc.ref v⟩ }⟩)
                    rw [h.p48 rfl, e1]
                    have c5 := hc.blkC.c 5 _ rfl
                    have fz5 := hc.blkC.f 5
                    go_simp
                · rintro L act x ⟨l0, l1, l2, l3, l4, l5, l6, l7, l8, l9, l10, l11, u38, u39, u40, u41, u42, u43, u44, u45, u46, u47, u48, rfl, rfl, h⟩ hr
                  have hall := ready_all hr rfl (by decide)
                  have t0 : l0 = true := hall 0 (by decide)
                  have t1 : l1 = true := hall 1 (by decide)
                  have t2 : l2 = true := hall 2 (by decide)
                  have t3 : l3 = true := hall 3 (by decide)
                  have t4 : l4 = true := hall 4 (by decide)
                  have t5 : l5 = true := hall 5 (by decide)
                  have t6 : l6 = true := hall 6 (by decide)
                  have t7 : l7 = true := hall 7 (by decide)
                  have t8 : l8 = true := hall 8 (by decide)
                  have t9 : l9 = true := hall 9 (by decide)
                  have t10 : l10 = true := hall 10 (by decide)
                  have t11 : l11 = true := hall 11 (by decide)
                  subst t0 t1 t2 t3 t4 t5 t6 t7 t8 t9 t10 t11
                  clear hall hr
                  obtain ⟨t, hc⟩ := h.cc
                  clear h
                  have H7 : Hid _ := hide hc
                  clear hc
                  try go_wp2_with fail
                  go_meet
                  exact hide ⟨_, H7.out⟩
              · go_wp2_with fail
                go_meet
                exact hide ⟨_, H6.out⟩
            · have hp' : ¬ (0 : Int) < (D.hold.length : Int) := by omega
              go_wp2_with fail
              go_meet
              exact hide ⟨_, H4.out.ref (1 + q)⟩
      case rest =>
        obtain ⟨c, hc⟩ := hcut.out
        have HC : Hid _ := hide hc
        clear hcut hc HK c1
        go_wp2_with fail
        refine (once_any B 40 _ HC.out.rd (by omega) (by omega)).mono ?_
        rintro e w6 ⟨⟨bb, rfl⟩, hr6, ha6⟩
        have H6 : Hid (CcS B w p D w2.heap.size c w6) := hide (HC.out.read hr6 ha6)
        clear hr6 ha6 HC
        cases bb
        · have HQ : Hid _ := hide (H6.out.2.set6 (i := 1) rfl (.int .i64 c.id) (.int .i64 c.kind) (.string c.fr) (.string c.to) (.int .i64 c.am) (.int .i64 c.ref))
          have m0_ := (H6.out.2.blkAt (i := 2) rfl).c 0 _ rfl
          have r0_ := (H6.out.2.blkAt (i := 1) rfl).c 0 _ rfl
          have rf0_ := (H6.out.2.blkAt (i := 1) rfl).f 0
          have m1_ := (H6.out.2.blkAt (i := 2) rfl).c 1 _ rfl
          have r1_ := (H6.out.2.blkAt (i := 1) rfl).c 1 _ rfl
          have rf1_ := (H6.out.2.blkAt (i := 1) rfl).f 1
          have m2_ := (H6.out.2.blkAt (i := 2) rfl).c 2 _ rfl
          have r2_ := (H6.out.2.blkAt (i := 1) rfl).c 2 _ rfl
          have rf2_ := (H6.out.2.blkAt (i := 1) rfl).f 2
          have m3_ := (H6.out.2.blkAt (i := 2) rfl).c 3 _ rfl
          have r3_ := (H6.out.2.blkAt (i := 1) rfl).c 3 _ rfl
          have rf3_ := (H6.out.2.blkAt (i := 1) rfl).f 3
          have m4_ := (H6.out.2.blkAt (i := 2) rfl).c 4 _ rfl
          have r4_ := (H6.out.2.blkAt (i := 1) rfl).c 4 _ rfl
          have rf4_ := (H6.out.2.blkAt (i := 1) rfl).f 4
          have m5_ := (H6.out.2.blkAt (i := 2) rfl).c 5 _ rfl
          have r5_ := (H6.out.2.blkAt (i := 1) rfl).c 5 _ rfl
          have rf5_ := (H6.out.2.blkAt (i := 1) rfl).f 5
          have z1_ := H6.out.1.1
          have z2_ := H6.out.1.2
          go_wp2
          refine cnm_post (fun W9 hW9 => ?_)
          have hq := HQ.out
          rw [← hW9] at hq
          have z_ := hq.blkAt (i := 1) rfl
          have g0_ := z_.c 0 _ rfl
          have g1_ := z_.c 1 _ rfl
          have g2_ := z_.c 2 _ rfl
          have g3_ := z_.c 3 _ rfl
          have g4_ := z_.c 4 _ rfl
          have g5_ := z_.c 5 _ rfl
          exact bodyPost_ret (v := Cm.v ⟨c.id, c.kind, c.fr, c.to, c.am, c.ref⟩) (by simp [results, Tryz.results51, go_sem, g0_, g1_, g2_, g3_, g4_, g5_, Cm.v]) rfl ⟨⟨⟨c.id, c.kind, c.fr, c.to, c.am, c.ref⟩, z1_, z2_, rfl⟩, hq.rd, hq.apart⟩
        · go_wp2_with fail
          refine (off_any B 0 1000000000000 _ H6.out.rd (by omega) (by omega) (by omega)).mono ?_
          rintro e w7 ⟨⟨m, m0, m1, rfl⟩, hr7, ha7⟩
          have H7 : Hid (CcS B w p D w2.heap.size c w7) := hide (H6.out.read hr7 ha7)
          have c4 := H7.out.blkC.c 4 _ rfl
          have f4 := H7.out.blkC.f 4
          clear hr7 ha7 H6
          go_upto_region 23 with fail
          refine cnm_world (fun W8 hW8 => ?_)
          have H8 : Hid (CcS B w p D w2.heap.size { c with am := m } W8) := hide (by rw [hW8]; exact H7.out.am m)
          clear hW8 H7 c4 f4
          have HQ : Hid _ := hide (H8.out.2.set6 (i := 1) rfl (.int .i64 c.id) (.int .i64 c.kind) (.string c.fr) (.string c.to) (.int .i64 m) (.int .i64 c.ref))
          have m0_ := (H8.out.2.blkAt (i := 2) rfl).c 0 _ rfl
          have r0_ := (H8.out.2.blkAt (i := 1) rfl).c 0 _ rfl
          have rf0_ := (H8.out.2.blkAt (i := 1) rfl).f 0
          have m1_ := (H8.out.2.blkAt (i := 2) rfl).c 1 _ rfl
          have r1_ := (H8.out.2.blkAt (i := 1) rfl).c 1 _ rfl
          have rf1_ := (H8.out.2.blkAt (i := 1) rfl).f 1
          have m2_ := (H8.out.2.blkAt (i := 2) rfl).c 2 _ rfl
          have r2_ := (H8.out.2.blkAt (i := 1) rfl).c 2 _ rfl
          have rf2_ := (H8.out.2.blkAt (i := 1) rfl).f 2
          have m3_ := (H8.out.2.blkAt (i := 2) rfl).c 3 _ rfl
          have r3_ := (H8.out.2.blkAt (i := 1) rfl).c 3 _ rfl
          have rf3_ := (H8.out.2.blkAt (i := 1) rfl).f 3
          have m4_ := (H8.out.2.blkAt (i := 2) rfl).c 4 _ rfl
          have r4_ := (H8.out.2.blkAt (i := 1) rfl).c 4 _ rfl
          have rf4_ := (H8.out.2.blkAt (i := 1) rfl).f 4
          have m5_ := (H8.out.2.blkAt (i := 2) rfl).c 5 _ rfl
          have r5_ := (H8.out.2.blkAt (i := 1) rfl).c 5 _ rfl
          have rf5_ := (H8.out.2.blkAt (i := 1) rfl).f 5
          have z1_ := H8.out.1.1
          have z2_ := H8.out.1.2
          go_wp2
          refine cnm_post (fun W9 hW9 => ?_)
          have hq := HQ.out
          rw [← hW9] at hq
          have z_ := hq.blkAt (i := 1) rfl
          have g0_ := z_.c 0 _ rfl
          have g1_ := z_.c 1 _ rfl
          have g2_ := z_.c 2 _ rfl
          have g3_ := z_.c 3 _ rfl
          have g4_ := z_.c 4 _ rfl
          have g5_ := z_.c 5 _ rfl
          exact bodyPost_ret (v := Cm.v ⟨c.id, c.kind, c.fr, c.to, m, c.ref⟩) (by simp [results, Tryz.results51, go_sem, g0_, g1_, g2_, g3_, g4_, g5_, Cm.v]) rfl ⟨⟨⟨c.id, c.kind, c.fr, c.to, m, c.ref⟩, z1_, z2_, rfl⟩, hq.rd, hq.apart⟩
end Go.Proofs.YteaopalhbnhbaaaGreatDoor
