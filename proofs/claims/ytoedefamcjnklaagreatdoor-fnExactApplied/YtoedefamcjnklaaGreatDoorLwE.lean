/- Comparison of ledgers by their rows; how long what Applied leaves is. -/
import Derived.Test.YtoedefamcjnklaaGreatDoorLwP
namespace Go.Proofs.YtoedefamcjnklaaGreatDoor
open Go.ChangeShapes Go.WideShapes Go.ChangeAt Go.RowKit
set_option linter.unusedVariables false
set_option maxRecDepth 100000
/-- a ledger's rows -/
structure Row3 (x : World) (a1 a2 a3 : Option Addr) (L : Led) : Prop where
  acc : RowAt 4 accCells x a1 L.acc
  hold : RowAt 4 hldCells x a2 L.hold
  seen : RowAt 2 snCells x a3 L.seen
theorem Row3.below {x y : World} {a1 a2 a3 : Option Addr} {L : Led} (h : Row3 x a1 a2 a3 L) (b : Below x.heap.size x y) : Row3 y a1 a2 a3 L := ⟨h.acc.below b, h.hold.below b, h.seen.below b⟩
theorem OwnR.r3 {lo hi : Nat} {a1 a2 a3 : Option Addr} {c1 c2 c3 g1 g2 g3 : Nat} {D : Led} {x : World} (h : OwnR lo hi a1 a2 a3 c1 c2 c3 g1 g2 g3 D.acc D.hold D.seen x) : Row3 x a1 a2 a3 D := ⟨h.o1.rows, h.o2.rows, h.o3.rows⟩
theorem LedAt.r3 {x : World} {a1 a2 a3 : Option Addr} {D : Led} (h : LedAt x a1 a2 a3 D) : Row3 x a1 a2 a3 D := ⟨h.acc.row, h.hold.row, h.seen.row⟩
def markD (Y : Led) : Led := ⟨accmarkL 1 Y.acc.length, hldmarkL (1 + 4 * Y.acc.length) Y.hold.length, snmarkL (1 + 4 * Y.acc.length + 4 * Y.hold.length) Y.seen.length⟩
set_option maxHeartbeats 2000000 in
theorem eqAccountS_row (a c : Option Addr) (l : List Acc) (ca cc : Nat) (w : World) (hn : l.length ≤ 1048576) (h : RowAt 4 accCells w a l) (h' : RowAt 4 accCells w c l) :
    Calls Tryz.prog 29 #[.slice a l.length ca, .slice c l.length cc] w fun e w' => YesEnd w e w' := by
  have HL : Hid _ := hide h
  have HL' : Hid _ := hide h'
  clear h h'
  have hln : ((l.length : Int) != (l.length : Int)) = false := by simp
  go_enter Tryz.func29, Tryz.ntmps29
  go_wp2
  go_loopw [5] (fun i wr => ∃ k : Nat, k ≤ l.length ∧ i = .int .i64 (k : Int) ∧ Below w.heap.size w wr) (fun i wr => l.length - (intOf i).toNat)
  case atStart => exact ⟨0, Nat.zero_le _, rfl, Below.refl _ _⟩
  case round =>
    obtain ⟨k, hk, rfl, HB⟩ := hrel
    by_cases hlt : k < l.length
    · obtain ⟨b, off, rfl, hb, d0, d1, d2, d3⟩ := acc_row (HL.out.below HB) k hlt
      obtain ⟨b2, off2, rfl, hc, e0, e1, e2, e3⟩ := acc_row (HL'.out.below HB) k hlt
      have hlt' : (k : Int) < (l.length : Int) := by omega
      have d0' := fun y : Later wr => (y.below.cell hb).trans d0
      have d1' := fun y : Later wr => (y.below.cell hb).trans d1
      have d2' := fun y : Later wr => (y.below.cell hb).trans d2
      have d3' := fun y : Later wr => (y.below.cell hb).trans d3
      have e0' := fun y : Later wr => (y.below.cell hc).trans e0
      have e1' := fun y : Later wr => (y.below.cell hc).trans e1
      have e2' := fun y : Later wr => (y.below.cell hc).trans e2
      have e3' := fun y : Later wr => (y.below.cell hc).trans e3
      clear d0 d1 d2 d3 e0 e1 e2 e3
      have hne : Nonempty (Later wr) := later_there _
      go_wp2_with fail
      refine wp_region_later wr (by kernel_rfl) (by kernel_rfl) ((Below.refl _ _).drew) ?_
      repeat (go_big_quiet_step (first | (go_at_call 81; exact later_of (eqAccount_any _ _ _ _ _))))
      refine wpQuiet_nil ?_
      intro _ hw'
      obtain ⟨nx, rfl⟩ := hw'
      go_wp2
      exact ⟨⟨k + 1, by omega, by go_num, below_trans HB nx.below⟩, by simp [intOf]; omega⟩
    · have hk' : ¬ (k : Int) < (l.length : Int) := by omega
      go_wp2
      go_ret
      exact ⟨rfl, HB⟩
set_option maxHeartbeats 2000000 in
theorem eqHoldS_row (a c : Option Addr) (l : List Hld) (ca cc : Nat) (w : World) (hn : l.length ≤ 1048576) (h : RowAt 4 hldCells w a l) (h' : RowAt 4 hldCells w c l) :
    Calls Tryz.prog 30 #[.slice a l.length ca, .slice c l.length cc] w fun e w' => YesEnd w e w' := by
  have HL : Hid _ := hide h
  have HL' : Hid _ := hide h'
  clear h h'
  have hln : ((l.length : Int) != (l.length : Int)) = false := by simp
  go_enter Tryz.func30, Tryz.ntmps30
  go_wp2
  go_loopw [5] (fun i wr => ∃ k : Nat, k ≤ l.length ∧ i = .int .i64 (k : Int) ∧ Below w.heap.size w wr) (fun i wr => l.length - (intOf i).toNat)
  case atStart => exact ⟨0, Nat.zero_le _, rfl, Below.refl _ _⟩
  case round =>
    obtain ⟨k, hk, rfl, HB⟩ := hrel
    by_cases hlt : k < l.length
    · obtain ⟨b, off, rfl, hb, d0, d1, d2, d3⟩ := hld_row (HL.out.below HB) k hlt
      obtain ⟨b2, off2, rfl, hc, e0, e1, e2, e3⟩ := hld_row (HL'.out.below HB) k hlt
      have hlt' : (k : Int) < (l.length : Int) := by omega
      have d0' := fun y : Later wr => (y.below.cell hb).trans d0
      have d1' := fun y : Later wr => (y.below.cell hb).trans d1
      have d2' := fun y : Later wr => (y.below.cell hb).trans d2
      have d3' := fun y : Later wr => (y.below.cell hb).trans d3
      have e0' := fun y : Later wr => (y.below.cell hc).trans e0
      have e1' := fun y : Later wr => (y.below.cell hc).trans e1
      have e2' := fun y : Later wr => (y.below.cell hc).trans e2
      have e3' := fun y : Later wr => (y.below.cell hc).trans e3
      clear d0 d1 d2 d3 e0 e1 e2 e3
      have hne : Nonempty (Later wr) := later_there _
      go_wp2_with fail
      refine wp_region_later wr (by kernel_rfl) (by kernel_rfl) ((Below.refl _ _).drew) ?_
      repeat (go_big_quiet_step (first | (go_at_call 82; exact later_of (eqHold_any _ _ _ _ _))))
      refine wpQuiet_nil ?_
      intro _ hw'
      obtain ⟨nx, rfl⟩ := hw'
      go_wp2
      exact ⟨⟨k + 1, by omega, by go_num, below_trans HB nx.below⟩, by simp [intOf]; omega⟩
    · have hk' : ¬ (k : Int) < (l.length : Int) := by omega
      go_wp2
      go_ret
      exact ⟨rfl, HB⟩
set_option maxHeartbeats 2000000 in
theorem eqAnsweredS_row (a c : Option Addr) (l : List Sn) (ca cc : Nat) (w : World) (hn : l.length ≤ 1048576) (h : RowAt 2 snCells w a l) (h' : RowAt 2 snCells w c l) :
    Calls Tryz.prog 31 #[.slice a l.length ca, .slice c l.length cc] w fun e w' => YesEnd w e w' := by
  have HL : Hid _ := hide h
  have HL' : Hid _ := hide h'
  clear h h'
  have hln : ((l.length : Int) != (l.length : Int)) = false := by simp
  go_enter Tryz.func31, Tryz.ntmps31
  go_wp2
  go_loopw [5] (fun i wr => ∃ k : Nat, k ≤ l.length ∧ i = .int .i64 (k : Int) ∧ Below w.heap.size w wr) (fun i wr => l.length - (intOf i).toNat)
  case atStart => exact ⟨0, Nat.zero_le _, rfl, Below.refl _ _⟩
  case round =>
    obtain ⟨k, hk, rfl, HB⟩ := hrel
    by_cases hlt : k < l.length
    · obtain ⟨b, off, rfl, hb, d0, d1⟩ := sn_row (HL.out.below HB) k hlt
      obtain ⟨b2, off2, rfl, hc, e0, e1⟩ := sn_row (HL'.out.below HB) k hlt
      have hlt' : (k : Int) < (l.length : Int) := by omega
      have d0' := fun y : Later wr => (y.below.cell hb).trans d0
      have d1' := fun y : Later wr => (y.below.cell hb).trans d1
      have e0' := fun y : Later wr => (y.below.cell hc).trans e0
      have e1' := fun y : Later wr => (y.below.cell hc).trans e1
      clear d0 d1 e0 e1
      have hne : Nonempty (Later wr) := later_there _
      go_wp2_with fail
      refine wp_region_later wr (by kernel_rfl) (by kernel_rfl) ((Below.refl _ _).drew) ?_
      repeat (go_big_quiet_step (first | (go_at_call 83; exact later_of (eqAnswered_any _ _ _))))
      refine wpQuiet_nil ?_
      intro _ hw'
      obtain ⟨nx, rfl⟩ := hw'
      go_wp2
      exact ⟨⟨k + 1, by omega, by go_num, below_trans HB nx.below⟩, by simp [intOf]; omega⟩
    · have hk' : ¬ (k : Int) < (l.length : Int) := by omega
      go_wp2
      go_ret
      exact ⟨rfl, HB⟩
set_option maxHeartbeats 2000000 in
theorem eqLedger_row (a h s a' h' s' : Option Addr) (L : Led) (ca ch cs ca' ch' cs' : Nat) (w : World) (hl : Row3 w a h s L) (hl' : Row3 w a' h' s' L) (n1 : L.acc.length ≤ 1048576) (n2 : L.hold.length ≤ 1048576) (n3 : L.seen.length ≤ 1048576) :
    Calls Tryz.prog 10 #[.agg #[.slice a L.acc.length ca, .slice h L.hold.length ch, .slice s L.seen.length cs], .agg #[.slice a' L.acc.length ca', .slice h' L.hold.length ch', .slice s' L.seen.length cs']] w fun e w' => YesEnd w e w' := by
  have HL : Hid _ := hide hl
  have HL' : Hid _ := hide hl'
  clear hl hl'
  have HX0 : Hid (Below ((w.alloc (.cells #[.slice a L.acc.length ca, .slice h L.hold.length ch, .slice s L.seen.length cs] 35)).alloc (.cells #[.slice a' L.acc.length ca', .slice h' L.hold.length ch', .slice s' L.seen.length cs'] 35)).heap.size ((w.alloc (.cells #[.slice a L.acc.length ca, .slice h L.hold.length ch, .slice s L.seen.length cs] 35)).alloc (.cells #[.slice a' L.acc.length ca', .slice h' L.hold.length ch', .slice s' L.seen.length cs'] 35)) ((w.alloc (.cells #[.slice a L.acc.length ca, .slice h L.hold.length ch, .slice s L.seen.length cs] 35)).alloc (.cells #[.slice a' L.acc.length ca', .slice h' L.hold.length ch', .slice s' L.seen.length cs'] 35))) := hide (Below.refl _ _)
  have HO : Hid (∀ x, Below ((w.alloc (.cells #[.slice a L.acc.length ca, .slice h L.hold.length ch, .slice s L.seen.length cs] 35)).alloc (.cells #[.slice a' L.acc.length ca', .slice h' L.hold.length ch', .slice s' L.seen.length cs'] 35)).heap.size ((w.alloc (.cells #[.slice a L.acc.length ca, .slice h L.hold.length ch, .slice s L.seen.length cs] 35)).alloc (.cells #[.slice a' L.acc.length ca', .slice h' L.hold.length ch', .slice s' L.seen.length cs'] 35)) x → Below w.heap.size w x) := hide (fun x hx => below_trans (below_alloc (below_alloc (Below.refl _ _) _) _) hx)
  go_enter Tryz.func10, Tryz.ntmps10
  go_wp2_with (first
    | (go_at_call 29; refine (eqAccountS_row _ _ L.acc _ _ _ n1 (HL.out.acc.below (HO.out _ HX0.out)) (HL'.out.acc.below (HO.out _ HX0.out))).mono ?_; rintro e w1 ⟨rfl, hb1⟩; have HX1 : Hid _ := hide (below_trans HX0.out hb1); obtain ⟨⟨x0, x1, x2⟩, y0, y1, y2⟩ := boxes33 HX1.out; clear hb1)
    | (go_at_call 30; refine (eqHoldS_row _ _ L.hold _ _ _ n2 (HL.out.hold.below (HO.out _ HX1.out)) (HL'.out.hold.below (HO.out _ HX1.out))).mono ?_; rintro e w2 ⟨rfl, hb2⟩; have HX2 : Hid _ := hide (below_trans HX1.out hb2); obtain ⟨⟨z0, z1, z2⟩, t0, t1, t2⟩ := boxes33 HX2.out; clear hb2)
    | (go_at_call 31; refine (eqAnsweredS_row _ _ L.seen _ _ _ n3 (HL.out.seen.below (HO.out _ HX2.out)) (HL'.out.seen.below (HO.out _ HX2.out))).mono ?_; rintro e w3 ⟨rfl, hb3⟩; have HX3 : Hid _ := hide (below_trans HX2.out hb3); clear hb3))
  go_ret
  exact ⟨rfl, HO.out _ HX3.out⟩
theorem doM_holdL (D : Led) (c : Cm) : (doM D c).1.hold.length ≤ D.hold.length + 1 := by
  have hp : ∀ (L : Led) i j am, (payM L i j am).1.hold = L.hold := fun L i j am => by
    unfold payM
    split
    · split <;> rfl
    · rfl
  have hf : (D.hold.filter (fun h => !(h.id == c.ref))).length ≤ D.hold.length := List.length_filter_le _ _
  unfold doM
  split
  · unfold openM
    split <;> simp
  · split
    · unfold moveM
      split
      · split
        · split
          · rw [hp]; omega
          · unfold holdM
            split
            · simp
            · split
              · have := (ins_perm (fun y : Hld => decide (y.id < c.id)) D.hold ⟨c.id, c.fr, c.to, c.am⟩).length_eq
                simp only [insH]
                simpa using Nat.le_of_eq this
              · simp
        · simp
      · simp
    · unfold endM
      split
      · simp
      · split
        · simp only; omega
        · split
          · split
            · rw [hp]; simp only; omega
            · simp
          · simp
theorem applM_len (D : Led) (c : Cm) : (applM D c).1.acc.length ≤ 1048576 ∧ (applM D c).1.hold.length ≤ 1048576 ∧ (applM D c).1.seen.length ≤ 1048576 := by
  cases hs : ledS D
  · have e : applM D c = (⟨[], [], []⟩, 1) := by unfold applM; rw [hs]; rfl
    rw [e]
    exact ⟨Nat.zero_le _, Nat.zero_le _, Nat.zero_le _⟩
  · have ok := led_ok hs
    have n1 := ok.a.1
    have n2 := ok.h.1
    have n3 := ok.s
    cases ha : admC D c with
    | some k =>
      rw [adm_some hs ha]
      exact ⟨by simp only; omega, by simp only; omega, by simp only; omega⟩
    | none =>
      obtain ⟨_, _, _, e⟩ := adm_none hs ha
      rw [e]
      have h1 := doM_lenA (c := c) n1
      have h2 := doM_holdL D c
      have h3 := (ins_perm (fun y : Sn => decide (y.id < c.id)) D.seen ⟨c.id, (doM D c).2⟩).length_eq
      refine ⟨by simp only; omega, by simp only; omega, ?_⟩
      simp only [seeL]
      rw [List.length_append] at h3
      simp only [List.length_append, List.length_cons, List.length_nil] at h3 ⊢
      omega
end Go.Proofs.YtoedefamcjnklaaGreatDoor
