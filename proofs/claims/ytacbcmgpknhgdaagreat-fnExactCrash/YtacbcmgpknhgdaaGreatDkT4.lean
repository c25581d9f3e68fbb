/- The contracts of the laws' eqFile, eqDOp, eqFileS, eqDOpS, eqDisk: equal disks are equal. -/
import Derived.Test.YtacbcmgpknhgdaaGreatDkT3
namespace Go.Proofs.YtacbcmgpknhgdaaGreat
open Go.ChangeShapes Go.WideShapes Go.ChangeAt Go.RowKit
set_option linter.unusedVariables false
set_option maxRecDepth 100000
set_option maxHeartbeats 1000000 in
theorem eqFile_any (f : Fl) (w : World) :
    Calls Tryz.prog 62 #[.agg #[.string f.nm, .string f.da], .agg #[.string f.nm, .string f.da]] w fun e w' => e = .returned (.bool true) ∧ Below w.heap.size w w' := by
  go_enter Tryz.func62, Tryz.ntmps62
  go_wp2
  go_ret
  exact ⟨rfl, below_alloc (below_alloc (Below.refl _ _) _) _⟩
set_option maxHeartbeats 1000000 in
theorem eqDOp_any (o : Dp) (w : World) :
    Calls Tryz.prog 63 #[.agg #[.int .i64 o.kind, .string o.nm, .string o.tn, .string o.da], .agg #[.int .i64 o.kind, .string o.nm, .string o.tn, .string o.da]] w fun e w' => e = .returned (.bool true) ∧ Below w.heap.size w w' := by
  have i0 : (o.kind != o.kind) = false := by simp
  go_enter Tryz.func63, Tryz.ntmps63
  go_wp2
  go_ret
  exact ⟨rfl, below_alloc (below_alloc (Below.refl _ _) _) _⟩
set_option maxHeartbeats 2000000 in
theorem eqFileS_any (a c : Option Addr) (l : List Fl) (ca cc : Nat) (w : World) (hn : l.length ≤ 1048576) (h : RowAt 2 flCells w a l) (h' : RowAt 2 flCells w c l) :
    Calls Tryz.prog 33 #[.slice a l.length ca, .slice c l.length cc] w fun e w' => e = .returned (.bool true) ∧ Below w.heap.size w w' := by
  have HC : Hid _ := hide h
  have HC' : Hid _ := hide h'
  clear h h'
  have hln : ((l.length : Int) != (l.length : Int)) = false := by simp
  go_enter Tryz.func33, Tryz.ntmps33
  go_wp2
  go_loopw [5] (fun i wr => ∃ k : Nat, k ≤ l.length ∧ i = .int .i64 (k : Int) ∧ Hid (Below w.heap.size w wr)) (fun i wr => l.length - (intOf i).toNat)
  case atStart => exact ⟨0, Nat.zero_le _, rfl, hide (Below.refl _ _)⟩
  case round =>
    obtain ⟨k, hk, rfl, HB⟩ := hrel
    by_cases hlt : k < l.length
    · have hlt' : (k : Int) < (l.length : Int) := by omega
      obtain ⟨b, off, rfl, hb, c0, c1⟩ := fl_row (HC.out.below HB.out) k hlt
      obtain ⟨b', off', rfl, hb', p0, p1⟩ := fl_row (HC'.out.below HB.out) k hlt
      have d0 := later_cell c0
      have q0 := later_cell p0
      have d1 := later_cell c1
      have q1 := later_cell p1
      have hne : Nonempty (Later wr) := later_there _
      go_wp2_with fail
      refine wp_region_later wr (by kernel_rfl) (by kernel_rfl) ((Below.refl _ _).drew) ?_
      repeat (go_big_quiet_step (first | (go_at_call 62; exact later_of (eqFile_any l[k] _))))
      refine wpQuiet_nil ?_
      intro _ hw'
      obtain ⟨nx, rfl⟩ := hw'
      go_wp2
      exact ⟨⟨k + 1, by omega, by go_num, hide (below_trans HB.out nx.below)⟩, by simp [intOf]; omega⟩
    · have hk' : ¬ (k : Int) < (l.length : Int) := by omega
      go_wp2
      go_ret
      exact ⟨rfl, HB.out⟩
set_option maxHeartbeats 2000000 in
theorem eqDOpS_any (a c : Option Addr) (l : List Dp) (ca cc : Nat) (w : World) (hn : l.length ≤ 1048576) (h : RowAt 4 dpCells w a l) (h' : RowAt 4 dpCells w c l) :
    Calls Tryz.prog 34 #[.slice a l.length ca, .slice c l.length cc] w fun e w' => e = .returned (.bool true) ∧ Below w.heap.size w w' := by
  have HC : Hid _ := hide h
  have HC' : Hid _ := hide h'
  clear h h'
  have hln : ((l.length : Int) != (l.length : Int)) = false := by simp
  go_enter Tryz.func34, Tryz.ntmps34
  go_wp2
  go_loopw [5] (fun i wr => ∃ k : Nat, k ≤ l.length ∧ i = .int .i64 (k : Int) ∧ Hid (Below w.heap.size w wr)) (fun i wr => l.length - (intOf i).toNat)
  case atStart => exact ⟨0, Nat.zero_le _, rfl, hide (Below.refl _ _)⟩
  case round =>
    obtain ⟨k, hk, rfl, HB⟩ := hrel
    by_cases hlt : k < l.length
    · have hlt' : (k : Int) < (l.length : Int) := by omega
      obtain ⟨b, off, rfl, hb, c0, c1, c2, c3⟩ := dp_row (HC.out.below HB.out) k hlt
      obtain ⟨b', off', rfl, hb', p0, p1, p2, p3⟩ := dp_row (HC'.out.below HB.out) k hlt
      have d0 := later_cell c0
      have q0 := later_cell p0
      have d1 := later_cell c1
      have q1 := later_cell p1
      have d2 := later_cell c2
      have q2 := later_cell p2
      have d3 := later_cell c3
      have q3 := later_cell p3
      have hne : Nonempty (Later wr) := later_there _
      go_wp2_with fail
      refine wp_region_later wr (by kernel_rfl) (by kernel_rfl) ((Below.refl _ _).drew) ?_
      repeat (go_big_quiet_step (first | (go_at_call 63; exact later_of (eqDOp_any l[k] _))))
      refine wpQuiet_nil ?_
      intro _ hw'
      obtain ⟨nx, rfl⟩ := hw'
      go_wp2
      exact ⟨⟨k + 1, by omega, by go_num, hide (below_trans HB.out nx.below)⟩, by simp [intOf]; omega⟩
    · have hk' : ¬ (k : Int) < (l.length : Int) := by omega
      go_wp2
      go_ret
      exact ⟨rfl, HB.out⟩
set_option maxHeartbeats 4000000 in
theorem eqDisk_any (la sa oa la' sa' oa' : Option Addr) (lc sc oc lc' sc' oc' : Nat) (live safe : List Fl) (ops : List Dp) (w : World) (hs : SmD live safe ops) (h : DkAt w la sa oa live safe ops) (h' : DkAt w la' sa' oa' live safe ops) :
    Calls Tryz.prog 12 #[.agg #[.slice la live.length lc, .slice sa safe.length sc, .slice oa ops.length oc], .agg #[.slice la' live.length lc', .slice sa' safe.length sc', .slice oa' ops.length oc']] w fun e w' => e = .returned (.bool true) ∧ Below w.heap.size w w' := by
  have H1 : Hid _ := hide h
  have H2 : Hid _ := hide h'
  have HM : Hid _ := hide hs
  clear h h' hs
  obtain ⟨wa, hwa⟩ : ∃ wa, wa = w.alloc (.cells #[.slice la live.length lc, .slice sa safe.length sc, .slice oa ops.length oc] 33) := ⟨_, rfl⟩
  obtain ⟨wb, hwb⟩ : ∃ wb, wb = wa.alloc (.cells #[.slice la' live.length lc', .slice sa' safe.length sc', .slice oa' ops.length oc'] 33) := ⟨_, rfl⟩
  have sa0 : wa.heap.size = w.heap.size + 1 := by rw [hwa]; simp
  have kA : Blk w.heap.size [.slice la live.length lc, .slice sa safe.length sc, .slice oa ops.length oc] wb := by rw [hwb, hwa]; exact Blk.new.alloc _
  have kB : Blk (w.heap.size + 1) [.slice la' live.length lc', .slice sa' safe.length sc', .slice oa' ops.length oc'] wb := by rw [← sa0, hwb]; exact Blk.new
  have b2 : Below w.heap.size w wb := by rw [hwb, hwa]; exact below_alloc (below_alloc (Below.refl _ _) _) _
  have HW : Hid ((w.alloc (.cells #[.slice la live.length lc, .slice sa safe.length sc, .slice oa ops.length oc] 33)).alloc (.cells #[.slice la' live.length lc', .slice sa' safe.length sc', .slice oa' ops.length oc'] 33) = wb) := hide (by rw [hwb, hwa])
  clear hwa hwb sa0
  have HB2 : Hid _ := hide b2
  have KA : Hid _ := hide kA
  have KB : Hid _ := hide kB
  clear kA kB b2
  go_enter Tryz.func12, Tryz.ntmps12
  go_wp2_with fail
  rw [HW.out]
  refine (eqFileS_any _ _ live _ _ wb HM.out.1.1 (H1.out.r1.below HB2.out) (H2.out.r1.below HB2.out)).mono ?_
  rintro e w1 ⟨rfl, hb1⟩
  have KA1 : Hid _ := hide (KA.out.below hb1)
  have KB1 : Hid _ := hide (KB.out.below hb1)
  have HB1 : Hid (Below w.heap.size w w1) := hide (below_trans HB2.out hb1)
  clear hb1
  have y1 := KA1.out.c 1 _ rfl
  have z1 := KB1.out.c 1 _ rfl
  go_wp2_with fail
  refine (eqFileS_any _ _ safe _ _ w1 HM.out.2.1.1 (H1.out.r2.below HB1.out) (H2.out.r2.below HB1.out)).mono ?_
  rintro e w2 ⟨rfl, hb2⟩
  have y2 := (KA1.out.below hb2).c 2 _ rfl
  have z2 := (KB1.out.below hb2).c 2 _ rfl
  have HB3 : Hid (Below w.heap.size w w2) := hide (below_trans HB1.out hb2)
  clear hb2 y1 z1
  go_wp2_with fail
  refine (eqDOpS_any _ _ ops _ _ w2 HM.out.2.2.1 (H1.out.r3.below HB3.out) (H2.out.r3.below HB3.out)).mono ?_
  rintro e w3 ⟨rfl, hb3⟩
  have HB4 : Hid (Below w.heap.size w w3) := hide (below_trans HB3.out hb3)
  clear hb3 y2 z2
  go_wp2
  go_ret
  exact ⟨rfl, HB4.out⟩
end Go.Proofs.YtacbcmgpknhgdaaGreat
