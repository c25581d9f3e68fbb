/- The contracts of the laws' szLedger and its parts. -/
import Derived.Test.YtfdnijlcngjpiaaDoorSOk
namespace Go.Proofs.YtfdnijlcngjpiaaDoor
open Go.ChangeShapes Go.WideShapes Go.ChangeAt Go.RowKit
set_option linter.unusedVariables false
set_option maxRecDepth 100000
/-- some number, at most what was left -/
def SzEnd (left : Int) (n : Nat) (w : World) (e : Ending) (w' : World) : Prop := Below w.heap.size w w' ∧ ∃ r : Int, e = .returned (.int .i64 r) ∧ -1 ≤ r ∧ (0 ≤ r → r + n ≤ left)
set_option maxHeartbeats 1000000 in
theorem szAccount_any (nm cu : ByteArray) (li po : Int) (left : Int) (w : World) (h1 : nm.size ≤ maxLen) (h2 : cu.size ≤ maxLen) (hl : 0 ≤ left ∧ left ≤ 1048576) :
    Calls Tryd.prog 43 #[.agg #[.string nm, .string cu, .int .i64 li, .int .i64 po], .int .i64 left] w fun e w' => SzEnd left 0 w e w' := by
  obtain ⟨l0, l1⟩ := hl
  unfold maxLen at h1 h2
  by_cases a1 : left - (nm.size : Int) < 0
  · go_enter Tryd.func43, Tryd.ntmps43
    go_wp2
    go_ret
    exact ⟨below_alloc (Below.refl _ _) _, -1, rfl, by omega, fun h => by omega⟩
  · by_cases a2 : left - (nm.size : Int) - (cu.size : Int) < 0
    · go_enter Tryd.func43, Tryd.ntmps43
      go_wp2
      go_ret
      exact ⟨below_alloc (Below.refl _ _) _, -1, rfl, by omega, fun h => by omega⟩
    · go_enter Tryd.func43, Tryd.ntmps43
      go_wp2
      go_ret
      exact ⟨below_alloc (Below.refl _ _) _, _, rfl, by omega, fun h => by omega⟩
set_option maxHeartbeats 1000000 in
theorem szHold_any (id : Int) (nm cu : ByteArray) (am : Int) (left : Int) (w : World) (h1 : nm.size ≤ maxLen) (h2 : cu.size ≤ maxLen) (hl : 0 ≤ left ∧ left ≤ 1048576) :
    Calls Tryd.prog 44 #[.agg #[.int .i64 id, .string nm, .string cu, .int .i64 am], .int .i64 left] w fun e w' => SzEnd left 0 w e w' := by
  obtain ⟨l0, l1⟩ := hl
  unfold maxLen at h1 h2
  by_cases a1 : left - (nm.size : Int) < 0
  · go_enter Tryd.func44, Tryd.ntmps44
    go_wp2
    go_ret
    exact ⟨below_alloc (Below.refl _ _) _, -1, rfl, by omega, fun h => by omega⟩
  · by_cases a2 : left - (nm.size : Int) - (cu.size : Int) < 0
    · go_enter Tryd.func44, Tryd.ntmps44
      go_wp2
      go_ret
      exact ⟨below_alloc (Below.refl _ _) _, -1, rfl, by omega, fun h => by omega⟩
    · go_enter Tryd.func44, Tryd.ntmps44
      go_wp2
      go_ret
      exact ⟨below_alloc (Below.refl _ _) _, _, rfl, by omega, fun h => by omega⟩
set_option maxHeartbeats 1000000 in
theorem szAccountS_any (a : Option Addr) (l : List Acc) (cap : Nat) (left : Int) (w : World) (hn : l.length ≤ maxLen) (hl : 0 ≤ left ∧ left ≤ 1048576) (h : AccAt w a l) :
    Calls Tryd.prog 20 #[.slice a l.length cap, .int .i64 left] w fun e w' => SzEnd left l.length w e w' := by
  have HL : Hid _ := hide h
  clear h
  obtain ⟨l0, l1⟩ := hl
  unfold maxLen at hn
  by_cases a1 : left - (l.length : Int) < 0
  · go_enter Tryd.func20, Tryd.ntmps20
    go_wp2
    go_ret
    exact ⟨Below.refl _ _, -1, rfl, by omega, fun h => by omega⟩
  · go_enter Tryd.func20, Tryd.ntmps20
    go_wp2
    go_loopw [1, 5] (fun s i wr => ∃ (k : Nat) (r : Int), k ≤ l.length ∧ i = .int .i64 (k : Int) ∧ s = .int .i64 r ∧ 0 ≤ r ∧ r + l.length ≤ left ∧ Below w.heap.size w wr) (fun s i wr => l.length - (intOf i).toNat)
    case atStart => exact ⟨0, _, Nat.zero_le _, rfl, rfl, by omega, by omega, Below.refl _ _⟩
    case round =>
      obtain ⟨k, r, hk, rfl, rfl, r0, r1, HB⟩ := hrel
      by_cases hlt : k < l.length
      · obtain ⟨b, off, rfl, hb, d0, d1, d2, d3, s1, s2, _, _⟩ := (HL.out.below HB) k hlt
        have hlt' : (k : Int) < (l.length : Int) := by omega
        go_wp2_with fail
        refine (szAccount_any _ _ _ _ r wr s1 s2 ⟨r0, by omega⟩).mono ?_
        rintro e w1 ⟨hb1, r', rfl, q0, q1⟩
        have HB1 : Hid _ := hide (below_trans HB hb1)
        clear hb1
        by_cases q2 : r' < 0
        · go_wp2
          go_ret
          exact ⟨HB1.out, -1, rfl, by omega, fun h => by omega⟩
        · have q3 := q1 (by omega)
          clear q1
          go_wp2
          exact ⟨⟨k + 1, r', by omega, by go_num, rfl, by omega, by omega, HB1.out⟩, by simp [intOf]; omega⟩
      · have hk' : ¬ (k : Int) < (l.length : Int) := by omega
        go_wp2
        go_ret
        exact ⟨HB, r, rfl, by omega, fun _ => r1⟩
set_option maxHeartbeats 1000000 in
theorem szHoldS_any (a : Option Addr) (l : List Hld) (cap : Nat) (left : Int) (w : World) (hn : l.length ≤ maxLen) (hl : 0 ≤ left ∧ left ≤ 1048576) (h : HoldAt w a l) :
    Calls Tryd.prog 21 #[.slice a l.length cap, .int .i64 left] w fun e w' => SzEnd left l.length w e w' := by
  have HL : Hid _ := hide h
  clear h
  obtain ⟨l0, l1⟩ := hl
  unfold maxLen at hn
  by_cases a1 : left - (l.length : Int) < 0
  · go_enter Tryd.func21, Tryd.ntmps21
    go_wp2
    go_ret
    exact ⟨Below.refl _ _, -1, rfl, by omega, fun h => by omega⟩
  · go_enter Tryd.func21, Tryd.ntmps21
    go_wp2
    go_loopw [1, 5] (fun s i wr => ∃ (k : Nat) (r : Int), k ≤ l.length ∧ i = .int .i64 (k : Int) ∧ s = .int .i64 r ∧ 0 ≤ r ∧ r + l.length ≤ left ∧ Below w.heap.size w wr) (fun s i wr => l.length - (intOf i).toNat)
    case atStart => exact ⟨0, _, Nat.zero_le _, rfl, rfl, by omega, by omega, Below.refl _ _⟩
    case round =>
      obtain ⟨k, r, hk, rfl, rfl, r0, r1, HB⟩ := hrel
      by_cases hlt : k < l.length
      · obtain ⟨b, off, rfl, hb, d0, d1, d2, d3, s1, s2, _, _⟩ := (HL.out.below HB) k hlt
        have hlt' : (k : Int) < (l.length : Int) := by omega
        go_wp2_with fail
        refine (szHold_any _ _ _ _ r wr s1 s2 ⟨r0, by omega⟩).mono ?_
        rintro e w1 ⟨hb1, r', rfl, q0, q1⟩
        have HB1 : Hid _ := hide (below_trans HB hb1)
        clear hb1
        by_cases q2 : r' < 0
        · go_wp2
          go_ret
          exact ⟨HB1.out, -1, rfl, by omega, fun h => by omega⟩
        · have q3 := q1 (by omega)
          clear q1
          go_wp2
          exact ⟨⟨k + 1, r', by omega, by go_num, rfl, by omega, by omega, HB1.out⟩, by simp [intOf]; omega⟩
      · have hk' : ¬ (k : Int) < (l.length : Int) := by omega
        go_wp2
        go_ret
        exact ⟨HB, r, rfl, by omega, fun _ => r1⟩
theorem szAnsweredS_any (a : Option Addr) (n cap : Nat) (left : Int) (w : World) (hn : n ≤ maxLen) (hl : 0 ≤ left ∧ left ≤ 1048576) :
    Calls Tryd.prog 22 #[.slice a n cap, .int .i64 left] w fun e w' => SzEnd left n w e w' := by
  obtain ⟨l0, l1⟩ := hl
  unfold maxLen at hn
  by_cases a1 : left - (n : Int) < 0
  · go_enter Tryd.func22, Tryd.ntmps22
    go_wp2
    go_ret
    exact ⟨Below.refl _ _, -1, rfl, by omega, fun h => by omega⟩
  · go_enter Tryd.func22, Tryd.ntmps22
    go_wp2
    go_ret
    exact ⟨Below.refl _ _, _, rfl, by omega, fun h => by omega⟩
theorem box26 {w x : World} {va vh vs : Value} (h : Below (w.heap.size + 1) (w.alloc (.cells #[va, vh, vs] 33)) x) : x.cell? ⟨w.heap.size, 0, none⟩ = some va ∧ x.cell? ⟨w.heap.size, 1, none⟩ = some vh ∧ x.cell? ⟨w.heap.size, 2, none⟩ = some vs :=
  ⟨by rw [h.cell (by simp)]; simp, by rw [h.cell (by simp)]; simp, by rw [h.cell (by simp)]; simp⟩
theorem box_on {w a b : World} {o : Obj} (h : Below (w.heap.size + 1) (w.alloc o) a) (k : Below a.heap.size a b) : Below (w.heap.size + 1) (w.alloc o) b :=
  h.trans (k.mono (by have := h.size; simpa using this))
theorem box_old {w wr : World} {o : Obj} (h : Below (w.heap.size + 1) (w.alloc o) wr) : Below w.heap.size w wr :=
  (below_alloc (Below.refl _ _) o).trans (h.mono (by omega))
/-- a great ledger has no room; else its lists are short -/
def SzLed (L : Led) (w : World) (e : Ending) (w' : World) : Prop := Below w.heap.size w w' ∧ ∃ r : Int, e = .returned (.int .i64 r) ∧ (0 ≤ r → L.acc.length ≤ 1048576 ∧ L.hold.length ≤ 1048576 ∧ L.seen.length ≤ 1048576)
set_option maxHeartbeats 1000000 in
theorem szLedger_any (a h s : Option Addr) (L : Led) (ca ch cs : Nat) (w : World) (hl : LedAt w a h s L) (n1 : L.acc.length ≤ maxLen) (n2 : L.hold.length ≤ maxLen) (n3 : L.seen.length ≤ maxLen) :
    Calls Tryd.prog 9 #[.agg #[.slice a L.acc.length ca, .slice h L.hold.length ch, .slice s L.seen.length cs], .int .i64 1048576] w fun e w' => SzLed L w e w' := by
  have HL : Hid _ := hide hl
  clear hl
  have HX0 : Hid (Below (w.heap.size + 1) (w.alloc (.cells #[.slice a L.acc.length ca, .slice h L.hold.length ch, .slice s L.seen.length cs] 33)) (w.alloc (.cells #[.slice a L.acc.length ca, .slice h L.hold.length ch, .slice s L.seen.length cs] 33))) := hide (Below.refl _ _)
  go_enter Tryd.func9, Tryd.ntmps9
  go_wp2_with fail
  refine (szAccountS_any _ L.acc _ _ _ n1 (by omega) (HL.out.acc.below (box_old HX0.out))).mono ?_
  rintro e w1 ⟨hb1, r1, rfl, a0, a1⟩
  have HX1 : Hid _ := hide (box_on HX0.out hb1)
  clear hb1
  obtain ⟨x0, x1, x2⟩ := box26 HX1.out
  by_cases q1 : r1 < 0
  · go_wp2
    go_ret
    exact ⟨box_old HX1.out, -1, rfl, fun h => by omega⟩
  · have a2 := a1 (by omega)
    clear a1
    go_wp2_with fail
    refine (szHoldS_any _ L.hold _ _ _ n2 (by omega) (HL.out.hold.below (box_old HX1.out))).mono ?_
    rintro e w2 ⟨hb2, r2, rfl, b0, b1⟩
    have HX2 : Hid _ := hide (box_on HX1.out hb2)
    clear hb2 x0 x1 x2
    obtain ⟨x0, x1, x2⟩ := box26 HX2.out
    by_cases q2 : r2 < 0
    · go_wp2
      go_ret
      exact ⟨box_old HX2.out, -1, rfl, fun h => by omega⟩
    · have b2 := b1 (by omega)
      clear b1
      go_wp2_with fail
      refine (szAnsweredS_any _ L.seen.length _ _ _ n3 (by omega)).mono ?_
      rintro e w3 ⟨hb3, r3, rfl, c0, c1⟩
      have HX3 : Hid _ := hide (box_on HX2.out hb3)
      clear hb3 x0 x1 x2
      by_cases q3 : r3 < 0
      · go_wp2
        go_ret
        exact ⟨box_old HX3.out, -1, rfl, fun h => by omega⟩
      · have c2 := c1 (by omega)
        clear c1
        go_wp2
        go_ret
        exact ⟨box_old HX3.out, _, rfl, fun h => by omega⟩
end Go.Proofs.YtfdnijlcngjpiaaDoor
