/- The contracts of the laws' szLedger and its parts. -/
import Derived.Test.YtoedefamcjnklaaGreatDoorGc
namespace Go.Proofs.YtoedefamcjnklaaGreatDoor
open Go.ChangeShapes Go.WideShapes Go.ChangeAt Go.RowKit
set_option linter.unusedVariables false
set_option maxRecDepth 100000
/-- some number, at most what was left -/
def SzEnd (left : Int) (n : Nat) (w : World) (e : Ending) (w' : World) : Prop := Below w.heap.size w w' ∧ ∃ r : Int, e = .returned (.int .i64 r) ∧ -1 ≤ r ∧ (0 ≤ r → r + n ≤ left)
set_option maxHeartbeats 1000000 in
theorem szAccount_any (nm cu : ByteArray) (li po : Int) (left : Int) (w : World) (h1 : nm.size ≤ maxLen) (h2 : cu.size ≤ maxLen) (hl : 0 ≤ left ∧ left ≤ 1048576) :
    Calls Tryz.prog 38 #[.agg #[.string nm, .string cu, .int .i64 li, .int .i64 po], .int .i64 left] w fun e w' => SzEnd left 0 w e w' := by
  obtain ⟨l0, l1⟩ := hl
  unfold maxLen at h1 h2
  by_cases a1 : left - (nm.size : Int) < 0
  · go_enter Tryz.func38, Tryz.ntmps38
    go_wp2
    go_ret
    exact ⟨below_alloc (Below.refl _ _) _, -1, rfl, by omega, fun h => by omega⟩
  · by_cases a2 : left - (nm.size : Int) - (cu.size : Int) < 0
    · go_enter Tryz.func38, Tryz.ntmps38
      go_wp2
      go_ret
      exact ⟨below_alloc (Below.refl _ _) _, -1, rfl, by omega, fun h => by omega⟩
    · go_enter Tryz.func38, Tryz.ntmps38
      go_wp2
      go_ret
      exact ⟨below_alloc (Below.refl _ _) _, _, rfl, by omega, fun h => by omega⟩
set_option maxHeartbeats 1000000 in
theorem szHold_any (id : Int) (nm cu : ByteArray) (am : Int) (left : Int) (w : World) (h1 : nm.size ≤ maxLen) (h2 : cu.size ≤ maxLen) (hl : 0 ≤ left ∧ left ≤ 1048576) :
    Calls Tryz.prog 39 #[.agg #[.int .i64 id, .string nm, .string cu, .int .i64 am], .int .i64 left] w fun e w' => SzEnd left 0 w e w' := by
  obtain ⟨l0, l1⟩ := hl
  unfold maxLen at h1 h2
  by_cases a1 : left - (nm.size : Int) < 0
  · go_enter Tryz.func39, Tryz.ntmps39
    go_wp2
    go_ret
    exact ⟨below_alloc (Below.refl _ _) _, -1, rfl, by omega, fun h => by omega⟩
  · by_cases a2 : left - (nm.size : Int) - (cu.size : Int) < 0
    · go_enter Tryz.func39, Tryz.ntmps39
      go_wp2
      go_ret
      exact ⟨below_alloc (Below.refl _ _) _, -1, rfl, by omega, fun h => by omega⟩
    · go_enter Tryz.func39, Tryz.ntmps39
      go_wp2
      go_ret
      exact ⟨below_alloc (Below.refl _ _) _, _, rfl, by omega, fun h => by omega⟩
set_option maxHeartbeats 1000000 in
theorem szAccountS_any (a : Option Addr) (l : List Acc) (cap : Nat) (left : Int) (w : World) (hn : l.length ≤ maxLen) (hl : 0 ≤ left ∧ left ≤ 1048576) (h : AccAt w a l) :
    Calls Tryz.prog 13 #[.slice a l.length cap, .int .i64 left] w fun e w' => SzEnd left l.length w e w' := by
  have HL : Hid _ := hide h
  clear h
  obtain ⟨l0, l1⟩ := hl
  unfold maxLen at hn
  by_cases a1 : left - (l.length : Int) < 0
  · go_enter Tryz.func13, Tryz.ntmps13
    go_wp2
    go_ret
    exact ⟨Below.refl _ _, -1, rfl, by omega, fun h => by omega⟩
  · go_enter Tryz.func13, Tryz.ntmps13
    go_wp2
    go_loopw [1, 5] (fun s i wr => ∃ (k : Nat) (r : Int), k ≤ l.length ∧ i = .int .i64 (k : Int) ∧ s = .int .i64 r ∧ 0 ≤ r ∧ r + l.length ≤ left ∧ Below w.heap.size w wr) (fun s i wr => l.length - (intOf i).toNat)
    case atStart => exact ⟨0, _, Nat.zero_le _, rfl, rfl, by omega, by omega, Below.refl _ _⟩
    case round =>
      obtain ⟨k, r, hk, rfl, rfl, r0, r1, HB⟩ := hrel
      by_cases hlt : k < l.length
      · obtain ⟨b, off, rfl, hb, d0, d1, d2, d3, s1, s2, _, _⟩ := (HL.out.below HB) k hlt
        have hlt' : (k : Int) < (l.length : Int) := by omega
        go_wp2_with fail
        refine (szAccount_any _ _ _ _ r wr s1 s2 ⟨r0, by omega⟩).mono ?_
        rintro e w1 ⟨hb1, r', rfl, q0, q1⟩
        have HB1 : Hid _ := hide (below_trans HB hb1)
        clear hb1
        by_cases q2 : r' < 0
        · go_wp2
          go_ret
          exact ⟨HB1.out, -1, rfl, by omega, fun h => by omega⟩
        · have q3 := q1 (by omega)
          clear q1
          go_wp2
          exact ⟨⟨k + 1, r', by omega, by go_num, rfl, by omega, by omega, HB1.out⟩, by simp [intOf]; omega⟩
      · have hk' : ¬ (k : Int) < (l.length : Int) := by omega
        go_wp2
        go_ret
        exact ⟨HB, r, rfl, by omega, fun _ => r1⟩
set_option maxHeartbeats 1000000 in
theorem szHoldS_any (a : Option Addr) (l : List Hld) (cap : Nat) (left : Int) (w : World) (hn : l.length ≤ maxLen) (hl : 0 ≤ left ∧ left ≤ 1048576) (h : HoldAt w a l) :
    Calls Tryz.prog 14 #[.slice a l.length cap, .int .i64 left] w fun e w' => SzEnd left l.length w e w' := by
  have HL : Hid _ := hide h
  clear h
  obtain ⟨l0, l1⟩ := hl
  unfold maxLen at hn
  by_cases a1 : left - (l.length : Int) < 0
  · go_enter Tryz.func14, Tryz.ntmps14
    go_wp2
    go_ret
    exact ⟨Below.refl _ _, -1, rfl, by omega, fun h => by omega⟩
  · go_enter Tryz.func14, Tryz.ntmps14
    go_wp2
    go_loopw [1, 5] (fun s i wr => ∃ (k : Nat) (r : Int), k ≤ l.length ∧ i = .int .i64 (k : Int) ∧ s = .int .i64 r ∧ 0 ≤ r ∧ r + l.length ≤ left ∧ Below w.heap.size w wr) (fun s i wr => l.length - (intOf i).toNat)
    case atStart => exact ⟨0, _, Nat.zero_le _, rfl, rfl, by omega, by omega, Below.refl _ _⟩
    case round =>
      obtain ⟨k, r, hk, rfl, rfl, r0, r1, HB⟩ := hrel
      by_cases hlt : k < l.length
      · obtain ⟨b, off, rfl, hb, d0, d1, d2, d3, s1, s2, _, _⟩ := (HL.out.below HB) k hlt
        have hlt' : (k : Int) < (l.length : Int) := by omega
        go_wp2_with fail
        refine (szHold_any _ _ _ _ r wr s1 s2 ⟨r0, by omega⟩).mono ?_
        rintro e w1 ⟨hb1, r', rfl, q0, q1⟩
        have HB1 : Hid _ := hide (below_trans HB hb1)
        clear hb1
        by_cases q2 : r' < 0
        · go_wp2
          go_ret
          exact ⟨HB1.out, -1, rfl, by omega, fun h => by omega⟩
        · have q3 := q1 (by omega)
          clear q1
          go_wp2
          exact ⟨⟨k + 1, r', by omega, by go_num, rfl, by omega, by omega, HB1.out⟩, by simp [intOf]; omega⟩
      · have hk' : ¬ (k : Int) < (l.length : Int) := by omega
        go_wp2
        go_ret
        exact ⟨HB, r, rfl, by omega, fun _ => r1⟩
theorem szAnsweredS_any (a : Option Addr) (n cap : Nat) (left : Int) (w : World) (hn : n ≤ maxLen) (hl : 0 ≤ left ∧ left ≤ 1048576) :
    Calls Tryz.prog 15 #[.slice a n cap, .int .i64 left] w fun e w' => SzEnd left n w e w' := by
  obtain ⟨l0, l1⟩ := hl
  unfold maxLen at hn
  by_cases a1 : left - (n : Int) < 0
  · go_enter Tryz.func15, Tryz.ntmps15
    go_wp2
    go_ret
    exact ⟨Below.refl _ _, -1, rfl, by omega, fun h => by omega⟩
  · go_enter Tryz.func15, Tryz.ntmps15
    go_wp2
    go_ret
    exact ⟨Below.refl _ _, _, rfl, by omega, fun h => by omega⟩
theorem box26 {w x : World} {va vh vs : Value} (h : Below (w.heap.size + 1) (w.alloc (.cells #[va, vh, vs] 26)) x) : x.cell? ⟨w.heap.size, 0, none⟩ = some va ∧ x.cell? ⟨w.heap.size, 1, none⟩ = some vh ∧ x.cell? ⟨w.heap.size, 2, none⟩ = some vs :=
  ⟨by rw [h.cell (by simp)]; simp, by rw [h.cell (by simp)]; simp, by rw [h.cell (by simp)]; simp⟩
theorem box_on {w a b : World} {o : Obj} (h : Below (w.heap.size + 1) (w.alloc o) a) (k : Below a.heap.size a b) : Below (w.heap.size + 1) (w.alloc o) b :=
  h.trans (k.mono (by have := h.size; simpa using this))
theorem box_old {w wr : World} {o : Obj} (h : Below (w.heap.size + 1) (w.alloc o) wr) : Below w.heap.size w wr :=
  (below_alloc (Below.refl _ _) o).trans (h.mono (by omega))
/-- a great ledger has no room; else its lists are short -/
def SzLed (L : Led) (w : World) (e : Ending) (w' : World) : Prop := Below w.heap.size w w' ∧ ∃ r : Int, e = .returned (.int .i64 r) ∧ (0 ≤ r → L.acc.length ≤ 1048576 ∧ L.hold.length ≤ 1048576 ∧ L.seen.length ≤ 1048576)
set_option maxHeartbeats 1000000 in
theorem szLedger_any (a h s : Option Addr) (L : Led) (ca ch cs : Nat) (w : World) (hl : LedAt w a h s L) (n1 : L.acc.length ≤ maxLen) (n2 : L.hold.length ≤ maxLen) (n3 : L.seen.length ≤ maxLen) :
    Calls Tryz.prog 4 #[.agg #[.slice a L.acc.length ca, .slice h L.hold.length ch, .slice s L.seen.length cs], .int .i64 1048576] w fun e w' => SzLed L w e w' := by
  have HL : Hid _ := hide hl
  clear hl
  have HX0 : Hid (Below (w.heap.size + 1) (w.alloc (.cells #[.slice a L.acc.length ca, .slice h L.hold.length ch, .slice s L.seen.length cs] 26)) (w.alloc (.cells #[.slice a L.acc.length ca, .slice h L.hold.length ch, .slice s L.seen.length cs] 26))) := hide (Below.refl _ _)
  go_enter Tryz.func4, Tryz.ntmps4
  go_wp2_with fail
  refine (szAccountS_any _ L.acc _ _ _ n1 (by omega) (HL.out.acc.below (box_old HX0.out))).mono ?_
  rintro e w1 ⟨hb1, r1, rfl, a0, a1⟩
  have HX1 : Hid _ := hide (box_on HX0.out hb1)
  clear hb1
  obtain ⟨x0, x1, x2⟩ := box26 HX1.out
  by_cases q1 : r1 < 0
  · go_wp2
    go_ret
    exact ⟨box_old HX1.out, -1, rfl, fun h => by omega⟩
  · have a2 := a1 (by omega)
    clear a1
    go_wp2_with fail
    refine (szHoldS_any _ L.hold _ _ _ n2 (by omega) (HL.out.hold.below (box_old HX1.out))).mono ?_
    rintro e w2 ⟨hb2, r2, rfl, b0, b1⟩
    have HX2 : Hid _ := hide (box_on HX1.out hb2)
    clear hb2 x0 x1 x2
    obtain ⟨x0, x1, x2⟩ := box26 HX2.out
    by_cases q2 : r2 < 0
    · go_wp2
      go_ret
      exact ⟨box_old HX2.out, -1, rfl, fun h => by omega⟩
    · have b2 := b1 (by omega)
      clear b1
      go_wp2_with fail
      refine (szAnsweredS_any _ L.seen.length _ _ _ n3 (by omega)).mono ?_
      rintro e w3 ⟨hb3, r3, rfl, c0, c1⟩
      have HX3 : Hid _ := hide (box_on HX2.out hb3)
      clear hb3 x0 x1 x2
      by_cases q3 : r3 < 0
      · go_wp2
        go_ret
        exact ⟨box_old HX3.out, -1, rfl, fun h => by omega⟩
      · have c2 := c1 (by omega)
        clear c1
        go_wp2
        go_ret
        exact ⟨box_old HX3.out, _, rfl, fun h => by omega⟩
end Go.Proofs.YtoedefamcjnklaaGreatDoor
/- The contracts of the laws' toLedger and its parts. -/
namespace Go.Proofs.YtoedefamcjnklaaGreatDoor
open Go.ChangeShapes Go.WideShapes Go.ChangeAt Go.RowKit
set_option linter.unusedVariables false
set_option maxRecDepth 100000
theorem info44 : (Tryz.prog.info? 73).map (fun i => (i.zero, i.size, i.bytes)) = some (some (.agg #[.string ByteArray.empty, .string ByteArray.empty, .int .i64 0, .int .i64 0]), 4, 48) := by kernel_rfl
theorem rowMid_made {w x : World} {e : TypeId} {n size : Nat} {xs : List Value} {cells : Nat → List Value} (h : x.ownsRow w.heap.size e size (.slice (some ⟨w.heap.size, 0, none⟩) n n) n xs) : RowMid w.heap.size n size cells 0 x := by
  obtain ⟨hl, ⟨h0, _⟩ | ⟨g, cap, cur, h1, hb, hg, hn, hc, hz, ht⟩⟩ := h
  · cases h0
  · simp only [Value.slice.injEq, Option.some.injEq, Addr.mk.injEq, and_true, true_and] at h1
    obtain ⟨rfl, rfl⟩ := h1
    refine ⟨(Array.getElem?_eq_some_iff.1 hg).1, fun j hj => ?_, frozen_of_block hg, fun i r hi => by omega⟩
    have hj' : j < cur.size := by rw [hz]; exact hj
    exact ⟨cur[j], by simp [World.cell?, hg, Array.getElem?_eq_getElem hj']⟩
set_option maxHeartbeats 1000000 in
theorem toAccount_any (nm cu : ByteArray) (li po : Int) (w : World) :
    Calls Tryz.prog 54 #[.agg #[.string nm, .string cu, .int .i64 li, .int .i64 po]] w fun e w' => e = .returned (.agg #[.string nm, .string cu, .int .i64 li, .int .i64 po]) ∧ Below w.heap.size w w' := by
  go_enter Tryz.func54, Tryz.ntmps54
  go_wp2
  exact bodyPost_ret (v := .agg #[.string nm, .string cu, .int .i64 li, .int .i64 po]) (by simp [results, Tryz.results54, go_sem]) rfl ⟨rfl, below_alloc (below_alloc (below_alloc (Below.refl _ _) _) _) _⟩
set_option maxHeartbeats 1000000 in
theorem toHold_any (id : Int) (nm cu : ByteArray) (am : Int) (w : World) :
    Calls Tryz.prog 55 #[.agg #[.int .i64 id, .string nm, .string cu, .int .i64 am]] w fun e w' => e = .returned (.agg #[.int .i64 id, .string nm, .string cu, .int .i64 am]) ∧ Below w.heap.size w w' := by
  go_enter Tryz.func55, Tryz.ntmps55
  go_wp2
  exact bodyPost_ret (v := .agg #[.int .i64 id, .string nm, .string cu, .int .i64 am]) (by simp [results, Tryz.results55, go_sem]) rfl ⟨rfl, below_alloc (below_alloc (below_alloc (Below.refl _ _) _) _) _⟩
set_option maxHeartbeats 1000000 in
theorem toAnswered_any (id co : Int) (w : World) :
    Calls Tryz.prog 56 #[.agg #[.int .i64 id, .int .i64 co]] w fun e w' => e = .returned (.agg #[.int .i64 id, .int .i64 co]) ∧ Below w.heap.size w w' := by
  go_enter Tryz.func56, Tryz.ntmps56
  go_wp2
  exact bodyPost_ret (v := .agg #[.int .i64 id, .int .i64 co]) (by simp [results, Tryz.results56, go_sem]) rfl ⟨rfl, below_alloc (below_alloc (below_alloc (Below.refl _ _) _) _) _⟩
theorem toAccount_parts {w : World} {a : Option Addr} {l : List Acc} (h : AccAt w a l) : ∀ x ∈ l, x.name.size ≤ maxLen ∧ x.cur.size ≤ maxLen ∧ I64 x.limit ∧ I64 x.posted := fun x hx => by
  obtain ⟨i, hi, rfl⟩ := List.getElem_of_mem hx
  obtain ⟨_, _, _, _, _, _, _, _, r⟩ := h i hi
  exact r
theorem toAccount_done {g n : Nat} {l : List Acc} {x : World} (h : RowMid g n 4 (fun i => (l[i]?).elim [] accCells) l.length x) (hs : ∀ x ∈ l, x.name.size ≤ maxLen ∧ x.cur.size ≤ maxLen ∧ I64 x.limit ∧ I64 x.posted) : AccAt x (some ⟨g, 0, none⟩) l := fun i hi => by
  have hd : ∀ r, r < 4 → x.cell? ⟨g, 0 + i * 4 + r, none⟩ = ((l[i]?).elim [] accCells)[r]? := fun r hr => by rw [Nat.zero_add]; exact h.done i r hi hr
  exact ⟨g, 0, rfl, h.lt, by have := hd 0 (by decide); simpa [accCells, List.getElem?_eq_getElem hi] using this, by have := hd 1 (by decide); simpa [accCells, List.getElem?_eq_getElem hi] using this, by have := hd 2 (by decide); simpa [accCells, List.getElem?_eq_getElem hi] using this, by have := hd 3 (by decide); simpa [accCells, List.getElem?_eq_getElem hi] using this, hs _ (List.getElem_mem hi)⟩
/-- a row of the call's own that reads as the list -/
def ToAccount (l : List Acc) (w : World) (e : Ending) (w' : World) : Prop := Below w.heap.size w w' ∧ ∃ g, w.heap.size ≤ g ∧ e = .returned (.slice (some ⟨g, 0, none⟩) l.length l.length) ∧ AccAt w' (some ⟨g, 0, none⟩) l
set_option maxRecDepth 100000 in
set_option maxHeartbeats 2000000 in
theorem toAccountS_any (a : Option Addr) (l : List Acc) (cap : Nat) (w : World) (hn : l.length ≤ 1048576) (h : AccAt w a l) :
    Calls Tryz.prog 18 #[.slice a l.length cap] w fun e w' => ToAccount l w e w' := by
  obtain ⟨i0, hi, hz0, hz1, hz2⟩ := info_parts info44
  have HL : Hid _ := hide h
  clear h
  have uS : Tryz.prog.underlying 31 = some (.slice 73) := by kernel_rfl
  go_enter Tryz.func18, Tryz.ntmps18
  go_wp2_with (first | (at_make; refine Shut2.mk ?_) | go_in)
  refine Shut2.mk' ?_
  refine wpList_make_full _ rfl _ _ 31 rfl w.heap.size 73 i0 _ 4 uS hi hz0 hz1 .i64 .i64 _ _ l.length rfl rfl rfl rfl (by rw [hz2]; omega) (by unfold maxLen; omega) (Nat.le_refl _) ?_
  intro w0 hown hgrow
  have HB0 : Hid (Below w.heap.size w w0) := hide ((Below.refl _ _).grown hgrow (Nat.le_refl _) (fun j hj => by cases hj))
  have HM0 : Hid _ := hide (rowMid_made (cells := (fun i => (l[i]?).elim [] accCells)) hown)
  clear hown hgrow
  go_wp2
  go_loopw [4] (fun i wr => ∃ k : Nat, k ≤ l.length ∧ i = .int .i64 (k : Int) ∧ Below w.heap.size w wr ∧ Hid (RowMid w.heap.size l.length 4 (fun i => (l[i]?).elim [] accCells) k wr)) (fun i wr => l.length - (intOf i).toNat)
  case atStart => exact ⟨0, Nat.zero_le _, rfl, HB0.out, HM0⟩
  case round =>
    obtain ⟨k, hk, rfl, HB, HM⟩ := hrel
    by_cases hlt : k < l.length
    · obtain ⟨b, off, rfl, hb, d0, d1, d2, d3, s1, s2, _, _⟩ := (HL.out.below HB) k hlt
      have hlt' : (k : Int) < (l.length : Int) := by omega
      go_wp2_with fail
      refine (toAccount_any _ _ _ _ wr).mono ?_
      rintro e w1 ⟨rfl, hb1⟩
      have hM1 := HM.out.below hb1
      have HP : Hid _ := hide ((((((HM.out.below hb1).put).set hlt (by decide) (v := .string (l[k]).name) (by simp [List.getElem?_eq_getElem hlt, accCells]) rfl).set hlt (by decide) (v := .string (l[k]).cur) (by simp [List.getElem?_eq_getElem hlt, accCells]) rfl).set hlt (by decide) (v := .int .i64 (l[k]).limit) (by simp [List.getElem?_eq_getElem hlt, accCells]) rfl).set hlt (by decide) (v := .int .i64 (l[k]).posted) (by simp [List.getElem?_eq_getElem hlt, accCells]) rfl).whole
      have HB1 : Hid _ := hide (below_trans HB hb1)
      obtain ⟨v0, f0⟩ := hM1.there (k * 4 + 0) (by omega)
      obtain ⟨v1, f1⟩ := hM1.there (k * 4 + 1) (by omega)
      obtain ⟨v2, f2⟩ := hM1.there (k * 4 + 2) (by omega)
      obtain ⟨v3, f3⟩ := hM1.there (k * 4 + 3) (by omega)
      have z0 := hM1.free (k * 4 + 0)
      have z1 := hM1.free (k * 4 + 1)
      have z2 := hM1.free (k * 4 + 2)
      have z3 := hM1.free (k * 4 + 3)
      simp only [Nat.add_zero] at f0 z0
      clear hM1 hb1
      go_wp2
      exact ⟨⟨k + 1, by omega, by go_num, ((((HB1.out.setCell (Nat.le_refl _) _).setCell (Nat.le_refl _) _).setCell (Nat.le_refl _) _).setCell (Nat.le_refl _) _), HP⟩, by simp [intOf]; omega⟩
    · have hk' : ¬ (k : Int) < (l.length : Int) := by omega
      have HE : Hid (ToAccount l w (.returned (.slice (some ⟨w.heap.size, 0, none⟩) l.length l.length)) wr) := hide (by
        have M := HM.out
        rw [show k = l.length by omega] at M
        exact ⟨HB, w.heap.size, Nat.le_refl _, rfl, toAccount_done M (toAccount_parts HL.out)⟩)
      go_wp2
      go_ret
      exact HE.out
theorem toHold_parts {w : World} {a : Option Addr} {l : List Hld} (h : HoldAt w a l) : ∀ x ∈ l, x.fr.size ≤ maxLen ∧ x.to.size ≤ maxLen ∧ I64 x.id ∧ I64 x.amount := fun x hx => by
  obtain ⟨i, hi, rfl⟩ := List.getElem_of_mem hx
  obtain ⟨_, _, _, _, _, _, _, _, r⟩ := h i hi
  exact r
theorem toHold_done {g n : Nat} {l : List Hld} {x : World} (h : RowMid g n 4 (fun i => (l[i]?).elim [] hldCells) l.length x) (hs : ∀ x ∈ l, x.fr.size ≤ maxLen ∧ x.to.size ≤ maxLen ∧ I64 x.id ∧ I64 x.amount) : HoldAt x (some ⟨g, 0, none⟩) l := fun i hi => by
  have hd : ∀ r, r < 4 → x.cell? ⟨g, 0 + i * 4 + r, none⟩ = ((l[i]?).elim [] hldCells)[r]? := fun r hr => by rw [Nat.zero_add]; exact h.done i r hi hr
  exact ⟨g, 0, rfl, h.lt, by have := hd 0 (by decide); simpa [hldCells, List.getElem?_eq_getElem hi] using this, by have := hd 1 (by decide); simpa [hldCells, List.getElem?_eq_getElem hi] using this, by have := hd 2 (by decide); simpa [hldCells, List.getElem?_eq_getElem hi] using this, by have := hd 3 (by decide); simpa [hldCells, List.getElem?_eq_getElem hi] using this, hs _ (List.getElem_mem hi)⟩
/-- a row of the call's own that reads as the list -/
def ToHold (l : List Hld) (w : World) (e : Ending) (w' : World) : Prop := Below w.heap.size w w' ∧ ∃ g, w.heap.size ≤ g ∧ e = .returned (.slice (some ⟨g, 0, none⟩) l.length l.length) ∧ HoldAt w' (some ⟨g, 0, none⟩) l
set_option maxRecDepth 100000 in
set_option maxHeartbeats 2000000 in
theorem toHoldS_any (a : Option Addr) (l : List Hld) (cap : Nat) (w : World) (hn : l.length ≤ 1048576) (h : HoldAt w a l) :
    Calls Tryz.prog 19 #[.slice a l.length cap] w fun e w' => ToHold l w e w' := by
  obtain ⟨i0, hi, hz0, hz1, hz2⟩ := info_parts info46
  have HL : Hid _ := hide h
  clear h
  have uS : Tryz.prog.underlying 32 = some (.slice 74) := by kernel_rfl
  go_enter Tryz.func19, Tryz.ntmps19
  go_wp2_with (first | (at_make; refine Shut2.mk ?_) | go_in)
  refine Shut2.mk' ?_
  refine wpList_make_full _ rfl _ _ 32 rfl w.heap.size 74 i0 _ 4 uS hi hz0 hz1 .i64 .i64 _ _ l.length rfl rfl rfl rfl (by rw [hz2]; omega) (by unfold maxLen; omega) (Nat.le_refl _) ?_
  intro w0 hown hgrow
  have HB0 : Hid (Below w.heap.size w w0) := hide ((Below.refl _ _).grown hgrow (Nat.le_refl _) (fun j hj => by cases hj))
  have HM0 : Hid _ := hide (rowMid_made (cells := (fun i => (l[i]?).elim [] hldCells)) hown)
  clear hown hgrow
  go_wp2
  go_loopw [4] (fun i wr => ∃ k : Nat, k ≤ l.length ∧ i = .int .i64 (k : Int) ∧ Below w.heap.size w wr ∧ Hid (RowMid w.heap.size l.length 4 (fun i => (l[i]?).elim [] hldCells) k wr)) (fun i wr => l.length - (intOf i).toNat)
  case atStart => exact ⟨0, Nat.zero_le _, rfl, HB0.out, HM0⟩
  case round =>
    obtain ⟨k, hk, rfl, HB, HM⟩ := hrel
    by_cases hlt : k < l.length
    · obtain ⟨b, off, rfl, hb, d0, d1, d2, d3, s1, s2, _, _⟩ := (HL.out.below HB) k hlt
      have hlt' : (k : Int) < (l.length : Int) := by omega
      go_wp2_with fail
      refine (toHold_any _ _ _ _ wr).mono ?_
      rintro e w1 ⟨rfl, hb1⟩
      have hM1 := HM.out.below hb1
      have HP : Hid _ := hide ((((((HM.out.below hb1).put).set hlt (by decide) (v := .int .i64 (l[k]).id) (by simp [List.getElem?_eq_getElem hlt, hldCells]) rfl).set hlt (by decide) (v := .string (l[k]).fr) (by simp [List.getElem?_eq_getElem hlt, hldCells]) rfl).set hlt (by decide) (v := .string (l[k]).to) (by simp [List.getElem?_eq_getElem hlt, hldCells]) rfl).set hlt (by decide) (v := .int .i64 (l[k]).amount) (by simp [List.getElem?_eq_getElem hlt, hldCells]) rfl).whole
      have HB1 : Hid _ := hide (below_trans HB hb1)
      obtain ⟨v0, f0⟩ := hM1.there (k * 4 + 0) (by omega)
      obtain ⟨v1, f1⟩ := hM1.there (k * 4 + 1) (by omega)
      obtain ⟨v2, f2⟩ := hM1.there (k * 4 + 2) (by omega)
      obtain ⟨v3, f3⟩ := hM1.there (k * 4 + 3) (by omega)
      have z0 := hM1.free (k * 4 + 0)
      have z1 := hM1.free (k * 4 + 1)
      have z2 := hM1.free (k * 4 + 2)
      have z3 := hM1.free (k * 4 + 3)
      simp only [Nat.add_zero] at f0 z0
      clear hM1 hb1
      go_wp2
      exact ⟨⟨k + 1, by omega, by go_num, ((((HB1.out.setCell (Nat.le_refl _) _).setCell (Nat.le_refl _) _).setCell (Nat.le_refl _) _).setCell (Nat.le_refl _) _), HP⟩, by simp [intOf]; omega⟩
    · have hk' : ¬ (k : Int) < (l.length : Int) := by omega
      have HE : Hid (ToHold l w (.returned (.slice (some ⟨w.heap.size, 0, none⟩) l.length l.length)) wr) := hide (by
        have M := HM.out
        rw [show k = l.length by omega] at M
        exact ⟨HB, w.heap.size, Nat.le_refl _, rfl, toHold_done M (toHold_parts HL.out)⟩)
      go_wp2
      go_ret
      exact HE.out
theorem toAnswered_parts {w : World} {a : Option Addr} {l : List Sn} (h : AnsAt w a l) : ∀ x ∈ l, I64 x.id ∧ I64 x.code := fun x hx => by
  obtain ⟨i, hi, rfl⟩ := List.getElem_of_mem hx
  obtain ⟨_, _, _, _, _, _, r⟩ := h i hi
  exact r
theorem toAnswered_done {g n : Nat} {l : List Sn} {x : World} (h : RowMid g n 2 (fun i => (l[i]?).elim [] snCells) l.length x) (hs : ∀ x ∈ l, I64 x.id ∧ I64 x.code) : AnsAt x (some ⟨g, 0, none⟩) l := fun i hi => by
  have hd : ∀ r, r < 2 → x.cell? ⟨g, 0 + i * 2 + r, none⟩ = ((l[i]?).elim [] snCells)[r]? := fun r hr => by rw [Nat.zero_add]; exact h.done i r hi hr
  exact ⟨g, 0, rfl, h.lt, by have := hd 0 (by decide); simpa [snCells, List.getElem?_eq_getElem hi] using this, by have := hd 1 (by decide); simpa [snCells, List.getElem?_eq_getElem hi] using this, hs _ (List.getElem_mem hi)⟩
/-- a row of the call's own that reads as the list -/
def ToAnswered (l : List Sn) (w : World) (e : Ending) (w' : World) : Prop := Below w.heap.size w w' ∧ ∃ g, w.heap.size ≤ g ∧ e = .returned (.slice (some ⟨g, 0, none⟩) l.length l.length) ∧ AnsAt w' (some ⟨g, 0, none⟩) l
set_option maxRecDepth 100000 in
set_option maxHeartbeats 2000000 in
theorem toAnsweredS_any (a : Option Addr) (l : List Sn) (cap : Nat) (w : World) (hn : l.length ≤ 1048576) (h : AnsAt w a l) :
    Calls Tryz.prog 20 #[.slice a l.length cap] w fun e w' => ToAnswered l w e w' := by
  obtain ⟨i0, hi, hz0, hz1, hz2⟩ := info_parts info51
  have HL : Hid _ := hide h
  clear h
  have uS : Tryz.prog.underlying 33 = some (.slice 80) := by kernel_rfl
  go_enter Tryz.func20, Tryz.ntmps20
  go_wp2_with (first | (at_make; refine Shut2.mk ?_) | go_in)
  refine Shut2.mk' ?_
  refine wpList_make_full _ rfl _ _ 33 rfl w.heap.size 80 i0 _ 2 uS hi hz0 hz1 .i64 .i64 _ _ l.length rfl rfl rfl rfl (by rw [hz2]; omega) (by unfold maxLen; omega) (Nat.le_refl _) ?_
  intro w0 hown hgrow
  have HB0 : Hid (Below w.heap.size w w0) := hide ((Below.refl _ _).grown hgrow (Nat.le_refl _) (fun j hj => by cases hj))
  have HM0 : Hid _ := hide (rowMid_made (cells := (fun i => (l[i]?).elim [] snCells)) hown)
  clear hown hgrow
  go_wp2
  go_loopw [4] (fun i wr => ∃ k : Nat, k ≤ l.length ∧ i = .int .i64 (k : Int) ∧ Below w.heap.size w wr ∧ Hid (RowMid w.heap.size l.length 2 (fun i => (l[i]?).elim [] snCells) k wr)) (fun i wr => l.length - (intOf i).toNat)
  case atStart => exact ⟨0, Nat.zero_le _, rfl, HB0.out, HM0⟩
  case round =>
    obtain ⟨k, hk, rfl, HB, HM⟩ := hrel
    by_cases hlt : k < l.length
    · obtain ⟨b, off, rfl, hb, d0, d1, _, _⟩ := (HL.out.below HB) k hlt
      have hlt' : (k : Int) < (l.length : Int) := by omega
      go_wp2_with fail
      refine (toAnswered_any _ _ wr).mono ?_
      rintro e w1 ⟨rfl, hb1⟩
      have hM1 := HM.out.below hb1
      have HP : Hid _ := hide ((((HM.out.below hb1).put).set hlt (by decide) (v := .int .i64 (l[k]).id) (by simp [List.getElem?_eq_getElem hlt, snCells]) rfl).set hlt (by decide) (v := .int .i64 (l[k]).code) (by simp [List.getElem?_eq_getElem hlt, snCells]) rfl).whole
      have HB1 : Hid _ := hide (below_trans HB hb1)
      obtain ⟨v0, f0⟩ := hM1.there (k * 2 + 0) (by omega)
      obtain ⟨v1, f1⟩ := hM1.there (k * 2 + 1) (by omega)
      have z0 := hM1.free (k * 2 + 0)
      have z1 := hM1.free (k * 2 + 1)
      simp only [Nat.add_zero] at f0 z0
      clear hM1 hb1
      go_wp2
      exact ⟨⟨k + 1, by omega, by go_num, ((HB1.out.setCell (Nat.le_refl _) _).setCell (Nat.le_refl _) _), HP⟩, by simp [intOf]; omega⟩
    · have hk' : ¬ (k : Int) < (l.length : Int) := by omega
      have HE : Hid (ToAnswered l w (.returned (.slice (some ⟨w.heap.size, 0, none⟩) l.length l.length)) wr) := hide (by
        have M := HM.out
        rw [show k = l.length by omega] at M
        exact ⟨HB, w.heap.size, Nat.le_refl _, rfl, toAnswered_done M (toAnswered_parts HL.out)⟩)
      go_wp2
      go_ret
      exact HE.out
/-- toLedger's state -/
structure LedMid (w : World) (va vh vs v0 v1 v2 : Value) (x : World) : Prop where
  lt : w.heap.size + 1 + 1 < x.heap.size
  old : Below w.heap.size w x
  a0 : x.cell? ⟨w.heap.size, 0, none⟩ = some va
  a1 : x.cell? ⟨w.heap.size, 1, none⟩ = some vh
  a2 : x.cell? ⟨w.heap.size, 2, none⟩ = some vs
  r : ∀ j, j < 3 → ∃ v, x.cell? ⟨w.heap.size + 1, j, none⟩ = some v
  c0 : x.cell? ⟨w.heap.size + 1 + 1, 0, none⟩ = some v0
  c1 : x.cell? ⟨w.heap.size + 1 + 1, 1, none⟩ = some v1
  c2 : x.cell? ⟨w.heap.size + 1 + 1, 2, none⟩ = some v2
  f1 : ∀ j, x.frozen? ⟨w.heap.size + 1, j, none⟩ = false
  f2 : ∀ j, x.frozen? ⟨w.heap.size + 1 + 1, j, none⟩ = false
theorem LedMid.below {w : World} {va vh vs v0 v1 v2 : Value} {x y : World} (h : LedMid w va vh vs v0 v1 v2 x) (b : Below x.heap.size x y) : LedMid w va vh vs v0 v1 v2 y := by
  have hlt := h.lt
  have l0 : w.heap.size < x.heap.size := by omega
  have l1 : w.heap.size + 1 < x.heap.size := by omega
  exact ⟨Nat.lt_of_lt_of_le h.lt b.size, below_trans h.old b, (b.cell l0).trans h.a0, (b.cell l0).trans h.a1, (b.cell l0).trans h.a2, fun j hj => by obtain ⟨v, hv⟩ := h.r j hj; exact ⟨v, (b.cell l1).trans hv⟩,
    (b.cell hlt).trans h.c0, (b.cell hlt).trans h.c1, (b.cell hlt).trans h.c2, fun j => (b.frozen l1).trans (h.f1 j), fun j => (b.frozen hlt).trans (h.f2 j)⟩
theorem LedMid.set0 {w : World} {va vh vs v0 v1 v2 : Value} {x : World} (h : LedMid w va vh vs v0 v1 v2 x) (u : Value) : LedMid w va vh vs u v1 v2 (x.setCell ⟨w.heap.size + 1 + 1, 0, none⟩ u) :=
  ⟨by rw [size_setCell]; exact h.lt, h.old.setCell (by show w.heap.size ≤ w.heap.size + 1 + 1; omega) _, by rw [cell_set_other (.inl (by omega))]; exact h.a0, by rw [cell_set_other (.inl (by omega))]; exact h.a1, by rw [cell_set_other (.inl (by omega))]; exact h.a2, fun j hj => by rw [cell_set_other (.inl (by omega))]; exact h.r j hj,
    cell_set_same h.c0, by rw [cell_set_other (.inr (by omega))]; exact h.c1, by rw [cell_set_other (.inr (by omega))]; exact h.c2, fun j => by rw [frozen_set]; exact h.f1 j, fun j => by rw [frozen_set]; exact h.f2 j⟩
theorem LedMid.set1 {w : World} {va vh vs v0 v1 v2 : Value} {x : World} (h : LedMid w va vh vs v0 v1 v2 x) (u : Value) : LedMid w va vh vs v0 u v2 (x.setCell ⟨w.heap.size + 1 + 1, 1, none⟩ u) :=
  ⟨by rw [size_setCell]; exact h.lt, h.old.setCell (by show w.heap.size ≤ w.heap.size + 1 + 1; omega) _, by rw [cell_set_other (.inl (by omega))]; exact h.a0, by rw [cell_set_other (.inl (by omega))]; exact h.a1, by rw [cell_set_other (.inl (by omega))]; exact h.a2, fun j hj => by rw [cell_set_other (.inl (by omega))]; exact h.r j hj,
    by rw [cell_set_other (.inr (by omega))]; exact h.c0, cell_set_same h.c1, by rw [cell_set_other (.inr (by omega))]; exact h.c2, fun j => by rw [frozen_set]; exact h.f1 j, fun j => by rw [frozen_set]; exact h.f2 j⟩
theorem LedMid.set2 {w : World} {va vh vs v0 v1 v2 : Value} {x : World} (h : LedMid w va vh vs v0 v1 v2 x) (u : Value) : LedMid w va vh vs v0 v1 u (x.setCell ⟨w.heap.size + 1 + 1, 2, none⟩ u) :=
  ⟨by rw [size_setCell]; exact h.lt, h.old.setCell (by show w.heap.size ≤ w.heap.size + 1 + 1; omega) _, by rw [cell_set_other (.inl (by omega))]; exact h.a0, by rw [cell_set_other (.inl (by omega))]; exact h.a1, by rw [cell_set_other (.inl (by omega))]; exact h.a2, fun j hj => by rw [cell_set_other (.inl (by omega))]; exact h.r j hj,
    by rw [cell_set_other (.inr (by omega))]; exact h.c0, by rw [cell_set_other (.inr (by omega))]; exact h.c1, cell_set_same h.c2, fun j => by rw [frozen_set]; exact h.f1 j, fun j => by rw [frozen_set]; exact h.f2 j⟩
theorem AccAt.set {w : World} {g o : Nat} {l : List Acc} {b : Nat} {u : Value} (h : AccAt w (some ⟨g, 0, none⟩) l) (hne : b ≠ g) : AccAt (w.setCell ⟨b, o, none⟩ u) (some ⟨g, 0, none⟩) l := fun i hi => by
  obtain ⟨b', off, e, hb, h0, h1, h2, h3, r⟩ := h i hi
  cases e
  exact ⟨g, 0, rfl, by rw [size_setCell]; exact hb, by rw [cell_set_other (.inl hne)]; exact h0, by rw [cell_set_other (.inl hne)]; exact h1, by rw [cell_set_other (.inl hne)]; exact h2, by rw [cell_set_other (.inl hne)]; exact h3, r⟩
theorem HoldAt.set {w : World} {g o : Nat} {l : List Hld} {b : Nat} {u : Value} (h : HoldAt w (some ⟨g, 0, none⟩) l) (hne : b ≠ g) : HoldAt (w.setCell ⟨b, o, none⟩ u) (some ⟨g, 0, none⟩) l := fun i hi => by
  obtain ⟨b', off, e, hb, h0, h1, h2, h3, r⟩ := h i hi
  cases e
  exact ⟨g, 0, rfl, by rw [size_setCell]; exact hb, by rw [cell_set_other (.inl hne)]; exact h0, by rw [cell_set_other (.inl hne)]; exact h1, by rw [cell_set_other (.inl hne)]; exact h2, by rw [cell_set_other (.inl hne)]; exact h3, r⟩
theorem AnsAt.set {w : World} {g o : Nat} {l : List Sn} {b : Nat} {u : Value} (h : AnsAt w (some ⟨g, 0, none⟩) l) (hne : b ≠ g) : AnsAt (w.setCell ⟨b, o, none⟩ u) (some ⟨g, 0, none⟩) l := fun i hi => by
  obtain ⟨b', off, e, hb, h0, h1, r⟩ := h i hi
  cases e
  exact ⟨g, 0, rfl, by rw [size_setCell]; exact hb, by rw [cell_set_other (.inl hne)]; exact h0, by rw [cell_set_other (.inl hne)]; exact h1, r⟩
theorem three_set {X : World} {b : Nat} {u0 u1 u2 t0 t1 t2 : Value} (h0 : X.cell? ⟨b, 0, none⟩ = some t0) (h1 : X.cell? ⟨b, 1, none⟩ = some t1) (h2 : X.cell? ⟨b, 2, none⟩ = some t2) :
    (((X.setCell ⟨b, 0, none⟩ u0).setCell ⟨b, 1, none⟩ u1).setCell ⟨b, 2, none⟩ u2).cell? ⟨b, 0, none⟩ = some u0 ∧ (((X.setCell ⟨b, 0, none⟩ u0).setCell ⟨b, 1, none⟩ u1).setCell ⟨b, 2, none⟩ u2).cell? ⟨b, 1, none⟩ = some u1 ∧ (((X.setCell ⟨b, 0, none⟩ u0).setCell ⟨b, 1, none⟩ u1).setCell ⟨b, 2, none⟩ u2).cell? ⟨b, 2, none⟩ = some u2 := by
  refine ⟨?_, ?_, ?_⟩
  · rw [cell_set_other (.inr (by omega)), cell_set_other (.inr (by omega))]; exact cell_set_same h0
  · rw [cell_set_other (.inr (by omega))]; exact cell_set_same (by rw [cell_set_other (.inr (by omega))]; exact h1)
  · exact cell_set_same (by rw [cell_set_other (.inr (by omega)), cell_set_other (.inr (by omega))]; exact h2)
def ToLed (L : Led) (w : World) (e : Ending) (w' : World) : Prop := Below w.heap.size w w' ∧ ∃ a h s, e = .returned (.agg #[.slice a L.acc.length L.acc.length, .slice h L.hold.length L.hold.length, .slice s L.seen.length L.seen.length]) ∧ LedAt w' a h s L
theorem ledMid_start (w : World) (va vh vs : Value) : LedMid w va vh vs (.slice none 0 0) (.slice none 0 0) (.slice none 0 0) (((w.alloc (.cells #[va, vh, vs] 26)).alloc (.cells #[.slice none 0 0, .slice none 0 0, .slice none 0 0] 35)).alloc (.cells #[.slice none 0 0, .slice none 0 0, .slice none 0 0] 35)) := by
  have key : ∀ (x : World) (p q r : Value) (T : TypeId), (x.alloc (.cells #[p, q, r] T)).cell? ⟨x.heap.size, 0, none⟩ = some p ∧ (x.alloc (.cells #[p, q, r] T)).cell? ⟨x.heap.size, 1, none⟩ = some q ∧ (x.alloc (.cells #[p, q, r] T)).cell? ⟨x.heap.size, 2, none⟩ = some r ∧ ∀ j, (x.alloc (.cells #[p, q, r] T)).frozen? ⟨x.heap.size, j, none⟩ = false := fun x p q r T => ⟨by simp, by simp, by simp, fun j => frozen_of_block (heap_alloc_new x _) j⟩
  obtain ⟨p0, p1, p2, _⟩ := key w va vh vs 26
  have q := key (w.alloc (.cells #[va, vh, vs] 26)) (.slice none 0 0) (.slice none 0 0) (.slice none 0 0) 35
  have r := key ((w.alloc (.cells #[va, vh, vs] 26)).alloc (.cells #[.slice none 0 0, .slice none 0 0, .slice none 0 0] 35)) (.slice none 0 0) (.slice none 0 0) (.slice none 0 0) 35
  have e1 : (w.alloc (.cells #[va, vh, vs] 26)).heap.size = w.heap.size + 1 := by simp
  have e2 : ((w.alloc (.cells #[va, vh, vs] 26)).alloc (.cells #[.slice none 0 0, .slice none 0 0, .slice none 0 0] 35)).heap.size = w.heap.size + 1 + 1 := by simp
  rw [e1] at q
  rw [e2] at r
  obtain ⟨q0, q1, q2, qf⟩ := q
  obtain ⟨r0, r1, r2, rf⟩ := r
  have b1 : Below (w.alloc (.cells #[va, vh, vs] 26)).heap.size (w.alloc (.cells #[va, vh, vs] 26)) (((w.alloc (.cells #[va, vh, vs] 26)).alloc (.cells #[.slice none 0 0, .slice none 0 0, .slice none 0 0] 35)).alloc (.cells #[.slice none 0 0, .slice none 0 0, .slice none 0 0] 35)) := below_alloc (below_alloc (Below.refl _ _) _) _
  have b2 : Below ((w.alloc (.cells #[va, vh, vs] 26)).alloc (.cells #[.slice none 0 0, .slice none 0 0, .slice none 0 0] 35)).heap.size ((w.alloc (.cells #[va, vh, vs] 26)).alloc (.cells #[.slice none 0 0, .slice none 0 0, .slice none 0 0] 35)) (((w.alloc (.cells #[va, vh, vs] 26)).alloc (.cells #[.slice none 0 0, .slice none 0 0, .slice none 0 0] 35)).alloc (.cells #[.slice none 0 0, .slice none 0 0, .slice none 0 0] 35)) := below_alloc (Below.refl _ _) _
  have l1 : w.heap.size < (w.alloc (.cells #[va, vh, vs] 26)).heap.size := by rw [e1]; omega
  have l2 : w.heap.size + 1 < ((w.alloc (.cells #[va, vh, vs] 26)).alloc (.cells #[.slice none 0 0, .slice none 0 0, .slice none 0 0] 35)).heap.size := by rw [e2]; omega
  refine ⟨by simp, below_alloc (below_alloc (below_alloc (Below.refl _ _) _) _) _, (b1.cell l1).trans p0, (b1.cell l1).trans p1, (b1.cell l1).trans p2, fun j hj => ?_, r0, r1, r2, fun j => (b2.frozen l2).trans (qf j), rf⟩
  have : j = 0 ∨ j = 1 ∨ j = 2 := by omega
  rcases this with rfl | rfl | rfl
  · exact ⟨_, (b2.cell l2).trans q0⟩
  · exact ⟨_, (b2.cell l2).trans q1⟩
  · exact ⟨_, (b2.cell l2).trans q2⟩
set_option maxRecDepth 100000 in
set_option maxHeartbeats 4000000 in
theorem toLedger_any (a h s : Option Addr) (L : Led) (ca ch cs : Nat) (w : World) (hl : LedAt w a h s L) (n1 : L.acc.length ≤ 1048576) (n2 : L.hold.length ≤ 1048576) (n3 : L.seen.length ≤ 1048576) :
    Calls Tryz.prog 7 #[.agg #[.slice a L.acc.length ca, .slice h L.hold.length ch, .slice s L.seen.length cs]] w fun e w' => ToLed L w e w' := by
  have HL : Hid _ := hide hl
  clear hl
  have HM0 : Hid _ := hide (ledMid_start w (.slice a L.acc.length ca) (.slice h L.hold.length ch) (.slice s L.seen.length cs))
  go_enter Tryz.func7, Tryz.ntmps7
  go_wp2_with fail
  refine (toAccountS_any _ L.acc _ _ n1 (HL.out.acc.below HM0.out.old)).mono ?_
  rintro e w1 ⟨hb1, g1, hg1, rfl, ha1⟩
  have hM1 := HM0.out.below hb1
  have hw1 := hM1.lt
  have k1 : w.heap.size + 1 + 1 < g1 := Nat.lt_of_lt_of_le HM0.out.lt hg1
  have HM1 : Hid _ := hide (hM1.set0 (.slice (some ⟨g1, 0, none⟩) L.acc.length L.acc.length))
  have HA1 : Hid _ := hide (ha1.set (o := 0) (b := w.heap.size + 1 + 1) (u := .slice (some ⟨g1, 0, none⟩) L.acc.length L.acc.length) (by omega))
  have y0 := hM1.c0
  have z0 := hM1.f2 0
  clear hb1 ha1 hg1 hM1
  have x1 := HM1.out.a1
  go_wp2_with fail
  refine (toHoldS_any _ L.hold _ _ n2 (HL.out.hold.below HM1.out.old)).mono ?_
  rintro e w2 ⟨hb2, g2, hg2, rfl, ha2⟩
  have hM2 := HM1.out.below hb2
  have k2 : w.heap.size + 1 + 1 < g2 := Nat.lt_of_lt_of_le HM1.out.lt hg2
  have HM2 : Hid _ := hide (hM2.set1 (.slice (some ⟨g2, 0, none⟩) L.hold.length L.hold.length))
  have HA2 : Hid _ := hide ((HA1.out.below hb2).set (o := 1) (b := w.heap.size + 1 + 1) (u := .slice (some ⟨g2, 0, none⟩) L.hold.length L.hold.length) (by omega))
  have HH2 : Hid _ := hide (ha2.set (o := 1) (b := w.heap.size + 1 + 1) (u := .slice (some ⟨g2, 0, none⟩) L.hold.length L.hold.length) (by omega))
  clear y0 z0 x1
  have y0 := hM2.c1
  have z0 := hM2.f2 1
  clear hb2 ha2 hg2 hM2 HM1 HA1
  have x1 := HM2.out.a2
  go_wp2_with fail
  refine (toAnsweredS_any _ L.seen _ _ n3 (HL.out.seen.below HM2.out.old)).mono ?_
  rintro e w3 ⟨hb3, g3, hg3, rfl, ha3⟩
  have hM3 := HM2.out.below hb3
  have k3 : w.heap.size + 1 + 1 < g3 := Nat.lt_of_lt_of_le HM2.out.lt hg3
  have HM3 : Hid _ := hide (hM3.set2 (.slice (some ⟨g3, 0, none⟩) L.seen.length L.seen.length))
  have HA3 : Hid _ := hide ((HA2.out.below hb3).set (o := 2) (b := w.heap.size + 1 + 1) (u := .slice (some ⟨g3, 0, none⟩) L.seen.length L.seen.length) (by omega))
  have HH3 : Hid _ := hide ((HH2.out.below hb3).set (o := 2) (b := w.heap.size + 1 + 1) (u := .slice (some ⟨g3, 0, none⟩) L.seen.length L.seen.length) (by omega))
  have HS3 : Hid _ := hide (ha3.set (o := 2) (b := w.heap.size + 1 + 1) (u := .slice (some ⟨g3, 0, none⟩) L.seen.length L.seen.length) (by omega))
  clear y0 z0 x1
  have y0 := hM3.c2
  have z0 := hM3.f2 2
  clear hb3 ha3 hg3 hM3 HM2 HA2 HH2
  obtain ⟨t0, q0⟩ := HM3.out.r 0 (by decide)
  obtain ⟨t1, q1⟩ := HM3.out.r 1 (by decide)
  obtain ⟨t2, q2⟩ := HM3.out.r 2 (by decide)
  have c0 := HM3.out.c0
  have c1 := HM3.out.c1
  have c2 := HM3.out.c2
  have f0 := HM3.out.f1 0
  have f1 := HM3.out.f1 1
  have f2 := HM3.out.f1 2
  obtain ⟨e0, e1, e2⟩ := three_set (u0 := .slice (some ⟨g1, 0, none⟩) L.acc.length L.acc.length) (u1 := .slice (some ⟨g2, 0, none⟩) L.hold.length L.hold.length) (u2 := .slice (some ⟨g3, 0, none⟩) L.seen.length L.seen.length) q0 q1 q2
  have HEnd : Hid (ToLed L w (.returned (.agg #[.slice (some ⟨g1, 0, none⟩) L.acc.length L.acc.length, .slice (some ⟨g2, 0, none⟩) L.hold.length L.hold.length, .slice (some ⟨g3, 0, none⟩) L.seen.length L.seen.length])) _) := hide ⟨((HM3.out.old.setCell (p := ⟨w.heap.size + 1, 0, none⟩) (by show w.heap.size ≤ w.heap.size + 1; omega) (.slice (some ⟨g1, 0, none⟩) L.acc.length L.acc.length)).setCell (p := ⟨w.heap.size + 1, 1, none⟩) (by show w.heap.size ≤ w.heap.size + 1; omega) (.slice (some ⟨g2, 0, none⟩) L.hold.length L.hold.length)).setCell (p := ⟨w.heap.size + 1, 2, none⟩) (by show w.heap.size ≤ w.heap.size + 1; omega) (.slice (some ⟨g3, 0, none⟩) L.seen.length L.seen.length), _, _, _, rfl,
    ⟨((HA3.out.set (by omega)).set (by omega)).set (by omega), ((HH3.out.set (by omega)).set (by omega)).set (by omega), ((HS3.out.set (by omega)).set (by omega)).set (by omega)⟩⟩
  go_wp2
  exact bodyPost_ret (v := .agg #[.slice (some ⟨g1, 0, none⟩) L.acc.length L.acc.length, .slice (some ⟨g2, 0, none⟩) L.hold.length L.hold.length, .slice (some ⟨g3, 0, none⟩) L.seen.length L.seen.length]) (by simp [results, Tryz.results7, go_sem, e0, e1, e2]) rfl HEnd.out
end Go.Proofs.YtoedefamcjnklaaGreatDoor
