/- The reader of texts: the next text, the next number, the kind of a command. -/
import Derived.Test.YteaopalhbnhbaaaGreatDoorNum
namespace Go.Proofs.YteaopalhbnhbaaaGreatDoor
open Go.ChangeShapes Go.WideShapes Go.ChangeAt Go.RowKit Go.Lib
set_option linter.unusedVariables false
set_option maxRecDepth 100000
theorem clone_any (s : ByteArray) (w : World) (h : s.size ≤ 1048576) : Calls Tryz.prog 114 #[.string s] w fun e w' => e = .returned (.string s) ∧ Below w.heap.size w w' := by
  go_enter Tryz.func114, Tryz.ntmps114
  go_wp2_with fail
  refine (Tryz.stringslite_Clone s w (by omega)).mono ?_
  rintro e w1 ⟨rfl, hb⟩
  have HB : Hid _ := hide hb
  clear hb
  go_wp2
  go_ret
  exact ⟨rfl, HB.out⟩
set_option maxHeartbeats 2000000 in
theorem nextText_yes (B : Nat) (r : List UInt8) (w : World) (h : Blk B [.string (bs (32 :: r))] w) (hl : r.length ≤ 1048576) :
    Calls Tryz.prog 94 #[.pointer (some ⟨B, 0, none⟩)] w fun e w' => e = .returned (.string (bs (wordOf r))) ∧ RdTo B (restOf r) w w' := by
  have HB : Hid _ := hide (next_yes B r w h hl)
  have hs := word_size r
  clear h
  go_enter Tryz.func94, Tryz.ntmps94
  go_wp2_with fail
  refine HB.out.mono ?_
  rintro e w1 ⟨rfl, hr1⟩
  have HR : Hid _ := hide hr1
  clear hr1 HB
  go_wp2_with fail
  refine (clone_any _ _ (by rw [bs_size]; omega)).mono ?_
  rintro e w2 ⟨rfl, hb2⟩
  have HR2 : Hid _ := hide (HR.out.below hb2)
  clear hb2
  go_wp2_with fail
  go_ret
  exact ⟨rfl, HR2.out⟩
set_option maxHeartbeats 2000000 in
theorem nextText_no (B : Nat) (l : List UInt8) (t : TypeId) (v : Value) (w0 w : World) (E : Env t v w0) (h : Rg w0 B l w) (hn : l.head? ≠ some 32) :
    Calls Tryz.prog 94 #[.pointer (some ⟨B, 0, none⟩)] w fun e w' => GvTo B t v w e w' := by
  have HB : Hid _ := hide (next_no B l t v w0 w E h hn)
  clear h E hn
  go_enter Tryz.func94, Tryz.ntmps94
  go_wp2_with fail
  refine HB.out.mono ?_
  rintro e w1 ⟨rfl, hr1⟩
  have HR : Hid _ := hide hr1
  clear hr1 HB
  unfold gaveUp
  go_wp2_with fail
  exact ⟨rfl, rfl, HR.out⟩
set_option maxHeartbeats 2000000 in
theorem nextNumber_yes (B : Nat) (r : List UInt8) (n : Int) (t : TypeId) (v : Value) (w0 w : World) (E : Env t v w0) (h : Rg w0 B (32 :: r) w) (hl : r.length ≤ 1048576) (hn : IsNum (wordOf r) n) :
    Calls Tryz.prog 95 #[.pointer (some ⟨B, 0, none⟩)] w fun e w' => e = .returned (.int .i64 n) ∧ RdTo B (restOf r) w w' := by
  have HB : Hid _ := hide (next_yes B r w h.r hl)
  have HE : Hid _ := hide E
  have HG : Hid _ := hide h
  have HN : Hid _ := hide hn
  clear h E hn
  go_enter Tryz.func95, Tryz.ntmps95
  go_wp2_with fail
  refine HB.out.mono ?_
  rintro e w1 ⟨rfl, hr1⟩
  have HR : Hid _ := hide hr1
  clear hr1 HB
  go_wp2_with fail
  refine (number_yes _ (wordOf r) n t v _ ((HG.out.tor HR.out).env HE.out) HN.out).mono ?_
  rintro e w2 ⟨rfl, hb2⟩
  have HR2 : Hid _ := hide (HR.out.below hb2)
  clear hb2
  go_wp2_with fail
  go_ret
  exact ⟨rfl, HR2.out⟩
set_option maxHeartbeats 2000000 in
theorem nextNumber_bad (B : Nat) (r : List UInt8) (t : TypeId) (v : Value) (w0 w : World) (E : Env t v w0) (h : Rg w0 B (32 :: r) w) (hl : r.length ≤ 1048576) (hn : ∀ n, ¬ IsNum (wordOf r) n) :
    Calls Tryz.prog 95 #[.pointer (some ⟨B, 0, none⟩)] w fun e w' => GvTo B t v w e w' := by
  have HB : Hid _ := hide (next_yes B r w h.r hl)
  have HE : Hid _ := hide E
  have HG : Hid _ := hide h
  have HN : Hid _ := hide hn
  have hs := word_size r
  clear h E hn
  go_enter Tryz.func95, Tryz.ntmps95
  go_wp2_with fail
  refine HB.out.mono ?_
  rintro e w1 ⟨rfl, hr1⟩
  have HR : Hid _ := hide hr1
  clear hr1 HB
  go_wp2_with fail
  refine (number_no _ (wordOf r) t v _ ((HG.out.tor HR.out).env HE.out) (by omega) HN.out).mono ?_
  rintro e w2 ⟨rfl, hb2⟩
  have HR2 : Hid _ := hide (HR.out.below hb2)
  clear hb2
  unfold gaveUp
  go_wp2_with fail
  exact ⟨rfl, rfl, _, HR2.out⟩
set_option maxHeartbeats 2000000 in
theorem nextNumber_no (B : Nat) (l : List UInt8) (t : TypeId) (v : Value) (w0 w : World) (E : Env t v w0) (h : Rg w0 B l w) (hn : l.head? ≠ some 32) :
    Calls Tryz.prog 95 #[.pointer (some ⟨B, 0, none⟩)] w fun e w' => GvTo B t v w e w' := by
  have HB : Hid _ := hide (next_no B l t v w0 w E h hn)
  clear h E hn
  go_enter Tryz.func95, Tryz.ntmps95
  go_wp2_with fail
  refine HB.out.mono ?_
  rintro e w1 ⟨rfl, hr1⟩
  have HR : Hid _ := hide hr1
  clear hr1 HB
  unfold gaveUp
  go_wp2_with fail
  exact ⟨rfl, rfl, HR.out⟩
end Go.Proofs.YteaopalhbnhbaaaGreatDoor
