/- The contracts of ReadFile, of the program and of its model. -/
import Derived.Test.YtacbcmgpknhgdaaLDk1
namespace Go.Proofs.Ytacbcmgpknhgdaa
open Go.ChangeShapes Go.WideShapes Go.ChangeAt Go.RowKit
set_option linter.unusedVariables false
set_option maxRecDepth 100000
/-- the data under a name, and whether it is there -/
def fndS (l : List Fl) (nm : ByteArray) : ByteArray × Bool := match atL l nm with
  | none => (⟨#[]⟩, false)
  | some _ => (dataL l nm, true)
def rdS (live safe : List Fl) (ops : List Dp) (nm : ByteArray) : ByteArray × Bool := if diskB ⟨live, safe, ops⟩ then fndS live nm else (⟨#[]⟩, false)
set_option maxHeartbeats 2000000 in
theorem dataOf_any (a : Option Addr) (l : List Fl) (cap : Nat) (nm : ByteArray) (w : World) (hl : l.length ≤ 1048576) (h : RowAt 2 flCells w a l) :
    Calls Try.prog 38 #[.slice a l.length cap, .string nm] w fun e w' => e = .returned (.tuple #[.string (fndS l nm).1, .bool (fndS l nm).2]) ∧ Below w.heap.size w w' := by
  have HC : Hid _ := hide h
  clear h
  go_enter Try.func38, Try.ntmps38
  go_wp2
  go_loopw [10] (fun i wr => ∃ k : Nat, k ≤ l.length ∧ i = .int .i64 (k : Int) ∧ Hid (Below w.heap.size w wr) ∧ Hid (∀ j (hj : j < l.length), j < k → (l[j]).nm ≠ nm)) (fun i wr => l.length - (intOf i).toNat)
  case atStart => exact ⟨0, Nat.zero_le _, rfl, hide (Below.refl _ _), hide (fun j _ hj => by omega)⟩
  case round =>
    obtain ⟨k, hk, rfl, HB, HN⟩ := hrel
    by_cases hlt : k < l.length
    · obtain ⟨b, off, rfl, hb, c0, c1⟩ := fl_row (HC.out.below HB.out) k hlt
      have hlt' : (k : Int) < (l.length : Int) := by omega
      cases hq : ((l[k]).nm.toList == nm.toList)
      · have HN2 : Hid (∀ j (hj : j < l.length), j < k + 1 → (l[j]).nm ≠ nm) := hide (fun j hj hjk => by
          rcases Nat.lt_or_ge j k with h | h
          · exact HN.out j hj h
          · obtain rfl : j = k := by omega
            intro e; rw [beq_bytes.2 e] at hq; cases hq)
        go_wp2
        exact ⟨⟨k + 1, by omega, by go_num, hide (below_alloc HB.out _), HN2⟩, by simp [intOf]; omega⟩
      · have hat := at_hit hlt (beq_bytes.1 hq) HN.out
        have HE : Hid (fndS l nm = ((l[k]).da, true)) := hide (by simp [fndS, hat, data_at hat hlt])
        clear hat
        go_wp2
        exact bodyPost_ret (v := .tuple #[.string (l[k]).da, .bool true]) (by simp [results, Try.results38, go_sem]) rfl ⟨by rw [HE.out], below_alloc HB.out _⟩
    · have hk' : ¬ (k : Int) < (l.length : Int) := by omega
      have HE : Hid (fndS l nm = (⟨#[]⟩, false)) := hide (by simp [fndS, at_miss (fun j hj => HN.out j hj (by omega))])
      go_wp2
      exact bodyPost_ret (v := .tuple #[.string ⟨#[]⟩, .bool false]) (by simp [results, Try.results38, go_sem]) rfl ⟨by rw [HE.out], HB.out⟩
set_option maxHeartbeats 4000000 in
theorem specReadFile_any (la sa oa : Option Addr) (lc sc oc : Nat) (live safe : List Fl) (ops : List Dp) (nm : ByteArray) (w : World) (hs : SmD live safe ops) (hsc : sa = none → sc = 0) (h : DkAt w la sa oa live safe ops) :
    Calls Try.prog 15 #[.agg #[.slice la live.length lc, .slice sa safe.length sc, .slice oa ops.length oc], .string nm] w fun e w' => e = .returned (.tuple #[.string (rdS live safe ops nm).1, .bool (rdS live safe ops nm).2]) ∧ Below w.heap.size w w' := by
  have HL : Hid _ := hide h
  have HM : Hid _ := hide hs
  have HSC : Hid _ := hide hsc
  clear h hs
  have KX0 : Hid (Blk w.heap.size [.slice la live.length lc, .slice sa safe.length sc, .slice oa ops.length oc] (w.alloc (.cells #[.slice la live.length lc, .slice sa safe.length sc, .slice oa ops.length oc] 31))) := hide Blk.new
  have HX0 : Hid (Below w.heap.size w (w.alloc (.cells #[.slice la live.length lc, .slice sa safe.length sc, .slice oa ops.length oc] 31))) := hide (below_alloc (Below.refl _ _) _)
  go_enter Try.func15, Try.ntmps15
  go_wp2_with fail
  refine (specDiskOk_any la sa oa lc sc oc live safe ops _ HM.out.1.1 HM.out.2.1.1 HM.out.2.2.1 HM.out.1.f HM.out.2.1.f HM.out.2.2.2 HSC.out (HL.out.below HX0.out).r1 (HL.out.below HX0.out).r2 (HL.out.below HX0.out).r3).mono ?_
  rintro e w1 ⟨rfl, hb1⟩
  have HX1 : Hid _ := hide (below_trans HX0.out hb1)
  have KX1 : Hid _ := hide (KX0.out.below hb1)
  clear hb1 HX0 KX0
  cases qd : diskB ⟨live, safe, ops⟩
  · have HR : Hid (rdS live safe ops nm = (⟨#[]⟩, false)) := hide (by simp [rdS, qd])
    go_wp2
    exact bodyPost_ret (v := .tuple #[.string ⟨#[]⟩, .bool false]) (by simp [results, Try.results15, go_sem]) rfl ⟨by rw [HR.out], HX1.out⟩
  · have HR : Hid (rdS live safe ops nm = fndS live nm) := hide (by simp [rdS, qd])
    have x0 := KX1.out.c 0 _ rfl
    have xl := KX1.out.lt
    clear qd
    go_wp2_with fail
    refine (l8At_any la live lc nm _ HM.out.1.1 (HL.out.r1.below HX1.out)).mono ?_
    rintro e w2 ⟨rfl, hw2⟩
    have hw2' := hw2.symm
    subst hw2'
    cases hat : atL live nm with
    | none =>
      have HR2 : Hid (rdS live safe ops nm = (⟨#[]⟩, false)) := hide (by rw [HR.out]; simp [fndS, hat])
      simp only [ixV]
      go_wp2
      exact bodyPost_ret (v := .tuple #[.string ⟨#[]⟩, .bool false]) (by simp [results, Try.results15, go_sem]) rfl ⟨by rw [HR2.out], HX1.out⟩
    | some k =>
      obtain ⟨hk, hnm⟩ := at_some hat
      have hda := data_at hat hk
      obtain ⟨b, off, rfl, hb, c0, c1⟩ := fl_row (HL.out.r1.below HX1.out) k hk
      have hk' : (k : Int) < (live.length : Int) := by omega
      have HR2 : Hid (rdS live safe ops nm = ((live[k]).da, true)) := hide (by rw [HR.out]; simp [fndS, hat, hda])
      simp only [ixV]
      go_wp2
      exact bodyPost_ret (v := .tuple #[.string (live[k]).da, .bool true]) (by simp [results, Try.results15, go_sem]) rfl ⟨by rw [HR2.out], HX1.out⟩
set_option maxHeartbeats 4000000 in
theorem implReadFile_any (la sa oa : Option Addr) (lc sc oc : Nat) (live safe : List Fl) (ops : List Dp) (nm : ByteArray) (w : World) (hs : SmD live safe ops) (h : DkAt w la sa oa live safe ops) :
    Calls Try.prog 16 #[.agg #[.slice la live.length lc, .slice sa safe.length sc, .slice oa ops.length oc], .string nm] w fun e w' => e = .returned (.tuple #[.string (rdS live safe ops nm).1, .bool (rdS live safe ops nm).2]) ∧ Below w.heap.size w w' := by
  have HL : Hid _ := hide h
  have HM : Hid _ := hide hs
  clear h hs
  have KX0 : Hid (Blk w.heap.size [.slice la live.length lc, .slice sa safe.length sc, .slice oa ops.length oc] (w.alloc (.cells #[.slice la live.length lc, .slice sa safe.length sc, .slice oa ops.length oc] 31))) := hide Blk.new
  have HX0 : Hid (Below w.heap.size w (w.alloc (.cells #[.slice la live.length lc, .slice sa safe.length sc, .slice oa ops.length oc] 31))) := hide (below_alloc (Below.refl _ _) _)
  go_enter Try.func16, Try.ntmps16
  go_wp2_with fail
  refine (implDiskOk_any la sa oa lc sc oc live safe ops _ HM.out.1.1 HM.out.2.1.1 HM.out.2.2.1 HM.out.1.f HM.out.2.1.f HM.out.2.2.2 (HL.out.below HX0.out).r1 (HL.out.below HX0.out).r2 (HL.out.below HX0.out).r3).mono ?_
  rintro e w1 ⟨rfl, hb1⟩
  have HX1 : Hid _ := hide (below_trans HX0.out hb1)
  have KX1 : Hid _ := hide (KX0.out.below hb1)
  clear hb1 HX0 KX0
  cases qd : diskB ⟨live, safe, ops⟩
  · have HR : Hid (rdS live safe ops nm = (⟨#[]⟩, false)) := hide (by simp [rdS, qd])
    go_wp2
    exact bodyPost_ret (v := .tuple #[.string ⟨#[]⟩, .bool false]) (by simp [results, Try.results16, go_sem]) rfl ⟨by rw [HR.out], HX1.out⟩
  · have HR : Hid (rdS live safe ops nm = fndS live nm) := hide (by simp [rdS, qd])
    have x0 := KX1.out.c 0 _ rfl
    have xl := KX1.out.lt
    clear qd
    go_wp2_with fail
    refine (dataOf_any la live lc nm _ HM.out.1.1 (HL.out.r1.below HX1.out)).mono ?_
    rintro e w2 ⟨rfl, hb2⟩
    have HX2 : Hid _ := hide (below_trans HX1.out hb2)
    clear hb2
    generalize hfs : fndS live nm = fs at *
    have HFS : Hid (rdS live safe ops nm = fs) := hide HR.out
    clear hfs HR
    go_wp2
    exact bodyPost_ret (v := .tuple #[.string fs.1, .bool fs.2]) (by simp [results, Try.results16, go_sem]) rfl ⟨by rw [HFS.out], HX2.out⟩
end Go.Proofs.Ytacbcmgpknhgdaa
