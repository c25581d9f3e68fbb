/- The contracts of the laws' eqLedger and its parts, at what is the same. -/
import Derived.Test.YtoedefamcjnklaaGreatDoorGh
import Derived.Test.YtoedefamcjnklaaGreatDoorGd
namespace Go.Proofs.YtoedefamcjnklaaGreatDoor
open Go.ChangeShapes Go.WideShapes Go.ChangeAt Go.RowKit
set_option linter.unusedVariables false
set_option maxRecDepth 100000
def YesEnd (w : World) (e : Ending) (w' : World) : Prop := e = .returned (.bool true) ∧ Below w.heap.size w w'
set_option maxHeartbeats 1000000 in
theorem eqAccount_any (nm cu : ByteArray) (li po : Int) (w : World) :
    Calls Tryz.prog 81 #[.agg #[.string nm, .string cu, .int .i64 li, .int .i64 po], .agg #[.string nm, .string cu, .int .i64 li, .int .i64 po]] w fun e w' => YesEnd w e w' := by
  have h0 : (nm.toList != nm.toList) = false := by simp
  have h1 : (cu.toList != cu.toList) = false := by simp
  have h2 : (li != li) = false := by simp
  have h3 : (po != po) = false := by simp
  go_enter Tryz.func81, Tryz.ntmps81
  go_wp2
  go_ret
  exact ⟨rfl, below_alloc (below_alloc (Below.refl _ _) _) _⟩
set_option maxHeartbeats 2000000 in
theorem eqAccountS_any (a c : Option Addr) (l : List Acc) (ca cc : Nat) (w : World) (hn : l.length ≤ 1048576) (h : AccAt w a l) (h' : AccAt w c l) :
    Calls Tryz.prog 29 #[.slice a l.length ca, .slice c l.length cc] w fun e w' => YesEnd w e w' := by
  have HL : Hid _ := hide h
  have HL' : Hid _ := hide h'
  clear h h'
  have hln : ((l.length : Int) != (l.length : Int)) = false := by simp
  go_enter Tryz.func29, Tryz.ntmps29
  go_wp2
  go_loopw [5] (fun i wr => ∃ k : Nat, k ≤ l.length ∧ i = .int .i64 (k : Int) ∧ Below w.heap.size w wr) (fun i wr => l.length - (intOf i).toNat)
  case atStart => exact ⟨0, Nat.zero_le _, rfl, Below.refl _ _⟩
  case round =>
    obtain ⟨k, hk, rfl, HB⟩ := hrel
    by_cases hlt : k < l.length
    · obtain ⟨b, off, rfl, hb, d0, d1, d2, d3, s1, s2, _, _⟩ := (HL.out.below HB) k hlt
      obtain ⟨b2, off2, rfl, hc, e0, e1, e2, e3, _, _, _, _⟩ := (HL'.out.below HB) k hlt
      have hlt' : (k : Int) < (l.length : Int) := by omega
      have d0' := fun y : Later wr => (y.below.cell hb).trans d0
      have d1' := fun y : Later wr => (y.below.cell hb).trans d1
      have d2' := fun y : Later wr => (y.below.cell hb).trans d2
      have d3' := fun y : Later wr => (y.below.cell hb).trans d3
      have e0' := fun y : Later wr => (y.below.cell hc).trans e0
      have e1' := fun y : Later wr => (y.below.cell hc).trans e1
      have e2' := fun y : Later wr => (y.below.cell hc).trans e2
      have e3' := fun y : Later wr => (y.below.cell hc).trans e3
      clear d0 d1 d2 d3 e0 e1 e2 e3
      have hne : Nonempty (Later wr) := later_there _
      go_wp2_with fail
      refine wp_region_later wr (by kernel_rfl) (by kernel_rfl) ((Below.refl _ _).drew) ?_
      repeat (go_big_quiet_step (first | (go_at_call 81; exact later_of (eqAccount_any _ _ _ _ _))))
      refine wpQuiet_nil ?_
      intro _ hw'
      obtain ⟨nx, rfl⟩ := hw'
      go_wp2
      exact ⟨⟨k + 1, by omega, by go_num, below_trans HB nx.below⟩, by simp [intOf]; omega⟩
    · have hk' : ¬ (k : Int) < (l.length : Int) := by omega
      go_wp2
      go_ret
      exact ⟨rfl, HB⟩
set_option maxHeartbeats 1000000 in
theorem eqHold_any (id : Int) (nm cu : ByteArray) (am : Int) (w : World) :
    Calls Tryz.prog 82 #[.agg #[.int .i64 id, .string nm, .string cu, .int .i64 am], .agg #[.int .i64 id, .string nm, .string cu, .int .i64 am]] w fun e w' => YesEnd w e w' := by
  have h0 : (id != id) = false := by simp
  have h1 : (nm.toList != nm.toList) = false := by simp
  have h2 : (cu.toList != cu.toList) = false := by simp
  have h3 : (am != am) = false := by simp
  go_enter Tryz.func82, Tryz.ntmps82
  go_wp2
  go_ret
  exact ⟨rfl, below_alloc (below_alloc (Below.refl _ _) _) _⟩
set_option maxHeartbeats 2000000 in
theorem eqHoldS_any (a c : Option Addr) (l : List Hld) (ca cc : Nat) (w : World) (hn : l.length ≤ 1048576) (h : HoldAt w a l) (h' : HoldAt w c l) :
    Calls Tryz.prog 30 #[.slice a l.length ca, .slice c l.length cc] w fun e w' => YesEnd w e w' := by
  have HL : Hid _ := hide h
  have HL' : Hid _ := hide h'
  clear h h'
  have hln : ((l.length : Int) != (l.length : Int)) = false := by simp
  go_enter Tryz.func30, Tryz.ntmps30
  go_wp2
  go_loopw [5] (fun i wr => ∃ k : Nat, k ≤ l.length ∧ i = .int .i64 (k : Int) ∧ Below w.heap.size w wr) (fun i wr => l.length - (intOf i).toNat)
  case atStart => exact ⟨0, Nat.zero_le _, rfl, Below.refl _ _⟩
  case round =>
    obtain ⟨k, hk, rfl, HB⟩ := hrel
    by_cases hlt : k < l.length
    · obtain ⟨b, off, rfl, hb, d0, d1, d2, d3, s1, s2, _, _⟩ := (HL.out.below HB) k hlt
      obtain ⟨b2, off2, rfl, hc, e0, e1, e2, e3, _, _, _, _⟩ := (HL'.out.below HB) k hlt
      have hlt' : (k : Int) < (l.length : Int) := by omega
      have d0' := fun y : Later wr => (y.below.cell hb).trans d0
      have d1' := fun y : Later wr => (y.below.cell hb).trans d1
      have d2' := fun y : Later wr => (y.below.cell hb).trans d2
      have d3' := fun y : Later wr => (y.below.cell hb).trans d3
      have e0' := fun y : Later wr => (y.below.cell hc).trans e0
      have e1' := fun y : Later wr => (y.below.cell hc).trans e1
      have e2' := fun y : Later wr => (y.below.cell hc).trans e2
      have e3' := fun y : Later wr => (y.below.cell hc).trans e3
      clear d0 d1 d2 d3 e0 e1 e2 e3
      have hne : Nonempty (Later wr) := later_there _
      go_wp2_with fail
      refine wp_region_later wr (by kernel_rfl) (by kernel_rfl) ((Below.refl _ _).drew) ?_
      repeat (go_big_quiet_step (first | (go_at_call 82; exact later_of (eqHold_any _ _ _ _ _))))
      refine wpQuiet_nil ?_
      intro _ hw'
      obtain ⟨nx, rfl⟩ := hw'
      go_wp2
      exact ⟨⟨k + 1, by omega, by go_num, below_trans HB nx.below⟩, by simp [intOf]; omega⟩
    · have hk' : ¬ (k : Int) < (l.length : Int) := by omega
      go_wp2
      go_ret
      exact ⟨rfl, HB⟩
set_option maxHeartbeats 1000000 in
theorem eqAnswered_any (id co : Int) (w : World) :
    Calls Tryz.prog 83 #[.agg #[.int .i64 id, .int .i64 co], .agg #[.int .i64 id, .int .i64 co]] w fun e w' => YesEnd w e w' := by
  have h0 : (id != id) = false := by simp
  have h1 : (co != co) = false := by simp
  go_enter Tryz.func83, Tryz.ntmps83
  go_wp2
  go_ret
  exact ⟨rfl, below_alloc (below_alloc (Below.refl _ _) _) _⟩
set_option maxHeartbeats 2000000 in
theorem eqAnsweredS_any (a c : Option Addr) (l : List Sn) (ca cc : Nat) (w : World) (hn : l.length ≤ 1048576) (h : AnsAt w a l) (h' : AnsAt w c l) :
    Calls Tryz.prog 31 #[.slice a l.length ca, .slice c l.length cc] w fun e w' => YesEnd w e w' := by
  have HL : Hid _ := hide h
  have HL' : Hid _ := hide h'
  clear h h'
  have hln : ((l.length : Int) != (l.length : Int)) = false := by simp
  go_enter Tryz.func31, Tryz.ntmps31
  go_wp2
  go_loopw [5] (fun i wr => ∃ k : Nat, k ≤ l.length ∧ i = .int .i64 (k : Int) ∧ Below w.heap.size w wr) (fun i wr => l.length - (intOf i).toNat)
  case atStart => exact ⟨0, Nat.zero_le _, rfl, Below.refl _ _⟩
  case round =>
    obtain ⟨k, hk, rfl, HB⟩ := hrel
    by_cases hlt : k < l.length
    · obtain ⟨b, off, rfl, hb, d0, d1, _, _⟩ := (HL.out.below HB) k hlt
      obtain ⟨b2, off2, rfl, hc, e0, e1, _, _⟩ := (HL'.out.below HB) k hlt
      have hlt' : (k : Int) < (l.length : Int) := by omega
      have d0' := fun y : Later wr => (y.below.cell hb).trans d0
      have d1' := fun y : Later wr => (y.below.cell hb).trans d1
      have e0' := fun y : Later wr => (y.below.cell hc).trans e0
      have e1' := fun y : Later wr => (y.below.cell hc).trans e1
      clear d0 d1 e0 e1
      have hne : Nonempty (Later wr) := later_there _
      go_wp2_with fail
      refine wp_region_later wr (by kernel_rfl) (by kernel_rfl) ((Below.refl _ _).drew) ?_
      repeat (go_big_quiet_step (first | (go_at_call 83; exact later_of (eqAnswered_any _ _ _))))
      refine wpQuiet_nil ?_
      intro _ hw'
      obtain ⟨nx, rfl⟩ := hw'
      go_wp2
      exact ⟨⟨k + 1, by omega, by go_num, below_trans HB nx.below⟩, by simp [intOf]; omega⟩
    · have hk' : ¬ (k : Int) < (l.length : Int) := by omega
      go_wp2
      go_ret
      exact ⟨rfl, HB⟩
theorem box33 {w x : World} {va vh vs : Value} (h : Below (w.alloc (.cells #[va, vh, vs] 35)).heap.size (w.alloc (.cells #[va, vh, vs] 35)) x) : x.cell? ⟨w.heap.size, 0, none⟩ = some va ∧ x.cell? ⟨w.heap.size, 1, none⟩ = some vh ∧ x.cell? ⟨w.heap.size, 2, none⟩ = some vs :=
  ⟨by rw [h.cell (by simp)]; simp, by rw [h.cell (by simp)]; simp, by rw [h.cell (by simp)]; simp⟩
theorem boxes33 {w x : World} {pa ph ps qa qh qs : Value} (h : Below ((w.alloc (.cells #[pa, ph, ps] 35)).alloc (.cells #[qa, qh, qs] 35)).heap.size ((w.alloc (.cells #[pa, ph, ps] 35)).alloc (.cells #[qa, qh, qs] 35)) x) :
    (x.cell? ⟨w.heap.size, 0, none⟩ = some pa ∧ x.cell? ⟨w.heap.size, 1, none⟩ = some ph ∧ x.cell? ⟨w.heap.size, 2, none⟩ = some ps) ∧ (x.cell? ⟨w.heap.size + 1, 0, none⟩ = some qa ∧ x.cell? ⟨w.heap.size + 1, 1, none⟩ = some qh ∧ x.cell? ⟨w.heap.size + 1, 2, none⟩ = some qs) := by
  have h1 := box33 (below_trans (below_alloc (Below.refl _ _) _) h)
  have h2 := box33 h
  rw [show (w.alloc (.cells #[pa, ph, ps] 35)).heap.size = w.heap.size + 1 by simp] at h2
  exact ⟨h1, h2⟩
set_option maxHeartbeats 2000000 in
theorem eqLedger_any (a h s a' h' s' : Option Addr) (L : Led) (ca ch cs ca' ch' cs' : Nat) (w : World) (hl : LedAt w a h s L) (hl' : LedAt w a' h' s' L) (n1 : L.acc.length ≤ 1048576) (n2 : L.hold.length ≤ 1048576) (n3 : L.seen.length ≤ 1048576) :
    Calls Tryz.prog 10 #[.agg #[.slice a L.acc.length ca, .slice h L.hold.length ch, .slice s L.seen.length cs], .agg #[.slice a' L.acc.length ca', .slice h' L.hold.length ch', .slice s' L.seen.length cs']] w fun e w' => YesEnd w e w' := by
  have HL : Hid _ := hide hl
  have HL' : Hid _ := hide hl'
  clear hl hl'
  have HX0 : Hid (Below ((w.alloc (.cells #[.slice a L.acc.length ca, .slice h L.hold.length ch, .slice s L.seen.length cs] 35)).alloc (.cells #[.slice a' L.acc.length ca', .slice h' L.hold.length ch', .slice s' L.seen.length cs'] 35)).heap.size ((w.alloc (.cells #[.slice a L.acc.length ca, .slice h L.hold.length ch, .slice s L.seen.length cs] 35)).alloc (.cells #[.slice a' L.acc.length ca', .slice h' L.hold.length ch', .slice s' L.seen.length cs'] 35)) ((w.alloc (.cells #[.slice a L.acc.length ca, .slice h L.hold.length ch, .slice s L.seen.length cs] 35)).alloc (.cells #[.slice a' L.acc.length ca', .slice h' L.hold.length ch', .slice s' L.seen.length cs'] 35))) := hide (Below.refl _ _)
  have HO : Hid (∀ x, Below ((w.alloc (.cells #[.slice a L.acc.length ca, .slice h L.hold.length ch, .slice s L.seen.length cs] 35)).alloc (.cells #[.slice a' L.acc.length ca', .slice h' L.hold.length ch', .slice s' L.seen.length cs'] 35)).heap.size ((w.alloc (.cells #[.slice a L.acc.length ca, .slice h L.hold.length ch, .slice s L.seen.length cs] 35)).alloc (.cells #[.slice a' L.acc.length ca', .slice h' L.hold.length ch', .slice s' L.seen.length cs'] 35)) x → Below w.heap.size w x) := hide (fun x hx => below_trans (below_alloc (below_alloc (Below.refl _ _) _) _) hx)
  go_enter Tryz.func10, Tryz.ntmps10
  go_wp2_with (first
    | (go_at_call 29; refine (eqAccountS_any _ _ L.acc _ _ _ n1 (HL.out.acc.below (HO.out _ HX0.out)) (HL'.out.acc.below (HO.out _ HX0.out))).mono ?_; rintro e w1 ⟨rfl, hb1⟩; have HX1 : Hid _ := hide (below_trans HX0.out hb1); obtain ⟨⟨x0, x1, x2⟩, y0, y1, y2⟩ := boxes33 HX1.out; clear hb1)
    | (go_at_call 30; refine (eqHoldS_any _ _ L.hold _ _ _ n2 (HL.out.hold.below (HO.out _ HX1.out)) (HL'.out.hold.below (HO.out _ HX1.out))).mono ?_; rintro e w2 ⟨rfl, hb2⟩; have HX2 : Hid _ := hide (below_trans HX1.out hb2); obtain ⟨⟨z0, z1, z2⟩, t0, t1, t2⟩ := boxes33 HX2.out; clear hb2)
    | (go_at_call 31; refine (eqAnsweredS_any _ _ L.seen _ _ _ n3 (HL.out.seen.below (HO.out _ HX2.out)) (HL'.out.seen.below (HO.out _ HX2.out))).mono ?_; rintro e w3 ⟨rfl, hb3⟩; have HX3 : Hid _ := hide (below_trans HX2.out hb3); clear hb3))
  go_ret
  exact ⟨rfl, HO.out _ HX3.out⟩
end Go.Proofs.YtoedefamcjnklaaGreatDoor
