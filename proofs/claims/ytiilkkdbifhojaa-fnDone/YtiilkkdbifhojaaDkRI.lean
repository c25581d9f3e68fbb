/- The contract of the program's ReadFile. -/
import Derived.Test.YtiilkkdbifhojaaDkR0
namespace Go.Proofs.Ytiilkkdbifhojaa
open Go.ChangeShapes Go.WideShapes Go.ChangeAt Go.RowKit
set_option linter.unusedVariables false
set_option maxRecDepth 100000
def rdS (live safe : List Fl) (ops : List Dp) (nm : ByteArray) : ByteArray × Bool := if diskB ⟨live, safe, ops⟩ then fndS live nm else (⟨#[]⟩, false)
set_option maxHeartbeats 4000000 in
theorem implReadFile_any (la sa oa : Option Addr) (lc sc oc : Nat) (live safe : List Fl) (ops : List Dp) (nm : ByteArray) (w : World) (hs : SmD live safe ops) (h : DkAt w la sa oa live safe ops) :
    Calls Try.prog 15 #[.agg #[.slice la live.length lc, .slice sa safe.length sc, .slice oa ops.length oc], .string nm] w fun e w' => e = .returned (.tuple #[.string (rdS live safe ops nm).1, .bool (rdS live safe ops nm).2]) ∧ Below w.heap.size w w' := by
  have HL : Hid _ := hide h
  have HM : Hid _ := hide hs
  clear h hs
  have KX0 : Hid (Blk w.heap.size [.slice la live.length lc, .slice sa safe.length sc, .slice oa ops.length oc] (w.alloc (.cells #[.slice la live.length lc, .slice sa safe.length sc, .slice oa ops.length oc] 27))) := hide Blk.new
  have HX0 : Hid (Below w.heap.size w (w.alloc (.cells #[.slice la live.length lc, .slice sa safe.length sc, .slice oa ops.length oc] 27))) := hide (below_alloc (Below.refl _ _) _)
  go_enter Try.func15, Try.ntmps15
  go_wp2_with fail
  refine (implDiskOk_any la sa oa lc sc oc live safe ops _ HM.out.1.1 HM.out.2.1.1 HM.out.2.2.1 HM.out.1.f HM.out.2.1.f HM.out.2.2.2 (HL.out.below HX0.out).r1 (HL.out.below HX0.out).r2 (HL.out.below HX0.out).r3).mono ?_
  rintro e w1 ⟨rfl, hb1⟩
  have HX1 : Hid _ := hide (below_trans HX0.out hb1)
  have KX1 : Hid _ := hide (KX0.out.below hb1)
  clear hb1 HX0 KX0
  cases qd : diskB ⟨live, safe, ops⟩
  · have HR : Hid (rdS live safe ops nm = (⟨#[]⟩, false)) := hide (by simp [rdS, qd])
    go_wp2
    exact bodyPost_ret (v := .tuple #[.string ⟨#[]⟩, .bool false]) (by simp [results, Try.results15, go_sem]) rfl ⟨by rw [HR.out], HX1.out⟩
  · have HR : Hid (rdS live safe ops nm = fndS live nm) := hide (by simp [rdS, qd])
    have x0 := KX1.out.c 0 _ rfl
    have xl := KX1.out.lt
    clear qd
    go_wp2_with fail
    refine (dataOf_any la live lc nm _ HM.out.1.1 (HL.out.r1.below HX1.out)).mono ?_
    rintro e w2 ⟨rfl, hb2⟩
    have HX2 : Hid _ := hide (below_trans HX1.out hb2)
    clear hb2
    generalize hfs : fndS live nm = fs at *
    have HFS : Hid (rdS live safe ops nm = fs) := hide HR.out
    clear hfs HR
    go_wp2
    exact bodyPost_ret (v := .tuple #[.string fs.1, .bool fs.2]) (by simp [results, Try.results15, go_sem]) rfl ⟨by rw [HFS.out], HX2.out⟩
end Go.Proofs.Ytiilkkdbifhojaa
