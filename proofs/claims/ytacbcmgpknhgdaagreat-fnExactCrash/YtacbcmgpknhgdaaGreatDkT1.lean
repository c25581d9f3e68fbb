/- The contracts of the laws' szFile, szDOp, szFileS, szDOpS, szDisk. -/
import Derived.Test.YtacbcmgpknhgdaaGreatDkS5
namespace Go.Proofs.YtacbcmgpknhgdaaGreat
open Go.ChangeShapes Go.WideShapes Go.ChangeAt Go.RowKit
set_option linter.unusedVariables false
set_option maxRecDepth 100000
def SzP (left : Int) (P : Prop) (w : World) (e : Ending) (w' : World) : Prop := Below w.heap.size w w' ∧ ∃ r : Int, e = .returned (.int .i64 r) ∧ -1 ≤ r ∧ r ≤ left ∧ (0 ≤ r → P)
def LimF (f : Fl) : Prop := f.nm.size ≤ maxLen ∧ f.da.size ≤ maxLen
def LimO (o : Dp) : Prop := o.nm.size ≤ maxLen ∧ o.tn.size ≤ maxLen ∧ o.da.size ≤ maxLen
def Sms {A : Type} (p : A → Prop) (l : List A) : Prop := l.length ≤ 1048576 ∧ ∀ x ∈ l, p x
def SmF1 (f : Fl) : Prop := f.nm.size ≤ 1048576 ∧ f.da.size ≤ 1048576
set_option maxHeartbeats 1000000 in
theorem szFile_any (f : Fl) (left : Int) (w : World) (hn : LimF f) (hl : 0 ≤ left ∧ left ≤ 1048576) :
    Calls Tryz.prog 49 #[.agg #[.string f.nm, .string f.da], .int .i64 left] w fun e w' => SzP left (SmF1 f) w e w' := by
  obtain ⟨l0, l1⟩ := hl
  obtain ⟨n1, n2⟩ := hn
  unfold maxLen at n1 n2
  by_cases a1 : left - (f.nm.size : Int) < 0
  · go_enter Tryz.func49, Tryz.ntmps49
    go_wp2
    go_ret
    exact ⟨below_alloc (Below.refl _ _) _, -1, rfl, by omega, by omega, fun h => by omega⟩
  · by_cases a2 : left - (f.nm.size : Int) - (f.da.size : Int) < 0
    · go_enter Tryz.func49, Tryz.ntmps49
      go_wp2
      go_ret
      exact ⟨below_alloc (Below.refl _ _) _, -1, rfl, by omega, by omega, fun h => by omega⟩
    · go_enter Tryz.func49, Tryz.ntmps49
      go_wp2
      go_ret
      exact ⟨below_alloc (Below.refl _ _) _, _, rfl, by omega, by omega, fun h => ⟨by omega, by omega⟩⟩
set_option maxHeartbeats 1000000 in
theorem szDOp_any (o : Dp) (left : Int) (w : World) (hn : LimO o) (hl : 0 ≤ left ∧ left ≤ 1048576) :
    Calls Tryz.prog 7 #[.agg #[.int .i64 o.kind, .string o.nm, .string o.tn, .string o.da], .int .i64 left] w fun e w' => SzP left (SmO o) w e w' := by
  obtain ⟨l0, l1⟩ := hl
  obtain ⟨n1, n2, n3⟩ := hn
  unfold maxLen at n1 n2 n3
  by_cases a1 : left - (o.nm.size : Int) < 0
  · go_enter Tryz.func7, Tryz.ntmps7
    go_wp2
    go_ret
    exact ⟨below_alloc (Below.refl _ _) _, -1, rfl, by omega, by omega, fun h => by omega⟩
  · by_cases a2 : left - (o.nm.size : Int) - (o.tn.size : Int) < 0
    · go_enter Tryz.func7, Tryz.ntmps7
      go_wp2
      go_ret
      exact ⟨below_alloc (Below.refl _ _) _, -1, rfl, by omega, by omega, fun h => by omega⟩
    · by_cases a3 : left - (o.nm.size : Int) - (o.tn.size : Int) - (o.da.size : Int) < 0
      · go_enter Tryz.func7, Tryz.ntmps7
        go_wp2
        go_ret
        exact ⟨below_alloc (Below.refl _ _) _, -1, rfl, by omega, by omega, fun h => by omega⟩
      · go_enter Tryz.func7, Tryz.ntmps7
        go_wp2
        go_ret
        exact ⟨below_alloc (Below.refl _ _) _, _, rfl, by omega, by omega, fun h => ⟨by omega, by omega, by omega⟩⟩
set_option maxHeartbeats 2000000 in
theorem szFileS_any (a : Option Addr) (l : List Fl) (cap : Nat) (left : Int) (w : World) (hn : l.length ≤ maxLen) (hm : ∀ x ∈ l, LimF x) (hl : 0 ≤ left ∧ left ≤ 1048576) (h : RowAt 2 flCells w a l) :
    Calls Tryz.prog 22 #[.slice a l.length cap, .int .i64 left] w fun e w' => SzP left (Sms SmF1 l) w e w' := by
  have HC : Hid _ := hide h
  have HM : Hid _ := hide hm
  clear h hm
  obtain ⟨l0, l1⟩ := hl
  unfold maxLen at hn
  by_cases a1 : left - (l.length : Int) < 0
  · go_enter Tryz.func22, Tryz.ntmps22
    go_wp2
    go_ret
    exact ⟨Below.refl _ _, -1, rfl, by omega, by omega, fun h => by omega⟩
  · have hln : l.length ≤ 1048576 := by omega
    go_enter Tryz.func22, Tryz.ntmps22
    go_wp2
    go_loopw [1, 5] (fun v i wr => ∃ (k : Nat) (r : Int), k ≤ l.length ∧ i = .int .i64 (k : Int) ∧ v = .int .i64 r ∧ 0 ≤ r ∧ r ≤ left ∧ Hid (Below w.heap.size w wr) ∧ Hid (∀ x ∈ l.take k, SmF1 x)) (fun v i wr => l.length - (intOf i).toNat)
    case atStart => exact ⟨0, _, Nat.zero_le _, rfl, rfl, by omega, by omega, hide (Below.refl _ _), hide (fun x hx => by simp at hx)⟩
    case round =>
      obtain ⟨k, r, hk, rfl, rfl, hr0, hr1, HB, HS⟩ := hrel
      by_cases hlt : k < l.length
      · have hlt' : (k : Int) < (l.length : Int) := by omega
        obtain ⟨b, off, rfl, hb, c0, c1⟩ := fl_row (HC.out.below HB.out) k hlt
        go_wp2_with fail
        refine (szFile_any l[k] r wr (HM.out _ (List.getElem_mem hlt)) (And.intro (by omega) (by omega))).mono ?_
        rintro e w1 ⟨hb1, r2, rfl, q0, q1, q2⟩
        have HB1 : Hid _ := hide (below_trans HB.out hb1)
        have HQ : Hid _ := hide q2
        clear hb1 q2
        by_cases q : r2 < 0
        · go_wp2
          go_ret
          exact ⟨HB1.out, -1, rfl, by omega, by omega, fun h => by omega⟩
        · have HS2 : Hid (∀ x ∈ l.take (k + 1), SmF1 x) := hide (by
            rw [take_next l k hlt]
            intro x hx
            simp only [List.mem_append, List.mem_singleton] at hx
            rcases hx with hx | rfl
            · exact HS.out x hx
            · exact HQ.out (by omega))
          go_wp2
          exact ⟨⟨k + 1, r2, by omega, by go_num, rfl, by omega, by omega, HB1, HS2⟩, by simp [intOf]; omega⟩
      · have hk' : ¬ (k : Int) < (l.length : Int) := by omega
        have HE : Hid (∀ x ∈ l, SmF1 x) := hide (by have := HS.out; rwa [List.take_of_length_le (by omega)] at this)
        go_wp2
        go_ret
        exact ⟨HB.out, r, rfl, by omega, by omega, fun h => ⟨hln, HE.out⟩⟩
set_option maxHeartbeats 2000000 in
theorem szDOpS_any (a : Option Addr) (l : List Dp) (cap : Nat) (left : Int) (w : World) (hn : l.length ≤ maxLen) (hm : ∀ x ∈ l, LimO x) (hl : 0 ≤ left ∧ left ≤ 1048576) (h : RowAt 4 dpCells w a l) :
    Calls Tryz.prog 23 #[.slice a l.length cap, .int .i64 left] w fun e w' => SzP left (Sms SmO l) w e w' := by
  have HC : Hid _ := hide h
  have HM : Hid _ := hide hm
  clear h hm
  obtain ⟨l0, l1⟩ := hl
  unfold maxLen at hn
  by_cases a1 : left - (l.length : Int) < 0
  · go_enter Tryz.func23, Tryz.ntmps23
    go_wp2
    go_ret
    exact ⟨Below.refl _ _, -1, rfl, by omega, by omega, fun h => by omega⟩
  · have hln : l.length ≤ 1048576 := by omega
    go_enter Tryz.func23, Tryz.ntmps23
    go_wp2
    go_loopw [1, 5] (fun v i wr => ∃ (k : Nat) (r : Int), k ≤ l.length ∧ i = .int .i64 (k : Int) ∧ v = .int .i64 r ∧ 0 ≤ r ∧ r ≤ left ∧ Hid (Below w.heap.size w wr) ∧ Hid (∀ x ∈ l.take k, SmO x)) (fun v i wr => l.length - (intOf i).toNat)
    case atStart => exact ⟨0, _, Nat.zero_le _, rfl, rfl, by omega, by omega, hide (Below.refl _ _), hide (fun x hx => by simp at hx)⟩
    case round =>
      obtain ⟨k, r, hk, rfl, rfl, hr0, hr1, HB, HS⟩ := hrel
      by_cases hlt : k < l.length
      · have hlt' : (k : Int) < (l.length : Int) := by omega
        obtain ⟨b, off, rfl, hb, c0, c1, c2, c3⟩ := dp_row (HC.out.below HB.out) k hlt
        go_wp2_with fail
        refine (szDOp_any l[k] r wr (HM.out _ (List.getElem_mem hlt)) (And.intro (by omega) (by omega))).mono ?_
        rintro e w1 ⟨hb1, r2, rfl, q0, q1, q2⟩
        have HB1 : Hid _ := hide (below_trans HB.out hb1)
        have HQ : Hid _ := hide q2
        clear hb1 q2
        by_cases q : r2 < 0
        · go_wp2
          go_ret
          exact ⟨HB1.out, -1, rfl, by omega, by omega, fun h => by omega⟩
        · have HS2 : Hid (∀ x ∈ l.take (k + 1), SmO x) := hide (by
            rw [take_next l k hlt]
            intro x hx
            simp only [List.mem_append, List.mem_singleton] at hx
            rcases hx with hx | rfl
            · exact HS.out x hx
            · exact HQ.out (by omega))
          go_wp2
          exact ⟨⟨k + 1, r2, by omega, by go_num, rfl, by omega, by omega, HB1, HS2⟩, by simp [intOf]; omega⟩
      · have hk' : ¬ (k : Int) < (l.length : Int) := by omega
        have HE : Hid (∀ x ∈ l, SmO x) := hide (by have := HS.out; rwa [List.take_of_length_le (by omega)] at this)
        go_wp2
        go_ret
        exact ⟨HB.out, r, rfl, by omega, by omega, fun h => ⟨hln, HE.out⟩⟩
def SmD (live safe : List Fl) (ops : List Dp) : Prop := Sms SmF1 live ∧ Sms SmF1 safe ∧ Sms SmO ops
structure DkAt (w : World) (la sa oa : Option Addr) (live safe : List Fl) (ops : List Dp) : Prop where
  r1 : RowAt 2 flCells w la live
  r2 : RowAt 2 flCells w sa safe
  r3 : RowAt 4 dpCells w oa ops
theorem DkAt.below {w w' : World} {la sa oa : Option Addr} {live safe : List Fl} {ops : List Dp} (h : DkAt w la sa oa live safe ops) (b : Below w.heap.size w w') : DkAt w' la sa oa live safe ops := ⟨h.r1.below b, h.r2.below b, h.r3.below b⟩
def LimD (live safe : List Fl) (ops : List Dp) : Prop := (live.length ≤ maxLen ∧ ∀ x ∈ live, LimF x) ∧ (safe.length ≤ maxLen ∧ ∀ x ∈ safe, LimF x) ∧ ops.length ≤ maxLen ∧ ∀ x ∈ ops, LimO x
set_option maxHeartbeats 2000000 in
theorem szDisk_any (la sa oa : Option Addr) (lc sc oc : Nat) (live safe : List Fl) (ops : List Dp) (left : Int) (w : World) (hn : LimD live safe ops) (hl : 0 ≤ left ∧ left ≤ 1048576) (h : DkAt w la sa oa live safe ops) :
    Calls Tryz.prog 6 #[.agg #[.slice la live.length lc, .slice sa safe.length sc, .slice oa ops.length oc], .int .i64 left] w fun e w' => SzP left (SmD live safe ops) w e w' := by
  have HC : Hid _ := hide h
  have HN : Hid _ := hide hn
  have HL : Hid _ := hide hl
  clear h hn
  have HX0 : Hid (Below (w.heap.size + 1) (w.alloc (.cells #[.slice la live.length lc, .slice sa safe.length sc, .slice oa ops.length oc] 25)) (w.alloc (.cells #[.slice la live.length lc, .slice sa safe.length sc, .slice oa ops.length oc] 25))) := hide (Below.refl _ _)
  go_enter Tryz.func6, Tryz.ntmps6
  go_wp2_with fail
  refine (szFileS_any la live lc left _ HN.out.1.1 HN.out.1.2 HL.out (HC.out.r1.below (box_old HX0.out))).mono ?_
  rintro e w1 ⟨hb1, r1, rfl, p0, p1, p2⟩
  have HX1 : Hid _ := hide (box_on HX0.out hb1)
  have HP : Hid _ := hide p2
  clear hb1 HX0 p2
  obtain ⟨x0, x1, x2⟩ := box3 HX1.out
  have xl := box_lt HX1.out
  by_cases q : r1 < 0
  · go_wp2
    go_ret
    exact ⟨box_old HX1.out, -1, rfl, by omega, by omega, fun h => by omega⟩
  · go_wp2_with fail
    refine (szFileS_any sa safe sc r1 _ HN.out.2.1.1 HN.out.2.1.2 (And.intro (by omega) (by omega)) (HC.out.r2.below (box_old HX1.out))).mono ?_
    rintro e w2 ⟨hb2, r2, rfl, p0', p1', p2'⟩
    have HX2 : Hid _ := hide (box_on HX1.out hb2)
    have HP2 : Hid _ := hide p2'
    clear hb2 HX1 p2' x0 x1 x2 xl
    obtain ⟨x0, x1, x2⟩ := box3 HX2.out
    have xl := box_lt HX2.out
    by_cases q2 : r2 < 0
    · go_wp2
      go_ret
      exact ⟨box_old HX2.out, -1, rfl, by omega, by omega, fun h => by omega⟩
    · go_wp2_with fail
      refine (szDOpS_any oa ops oc r2 _ HN.out.2.2.1 HN.out.2.2.2 (And.intro (by omega) (by omega)) (HC.out.r3.below (box_old HX2.out))).mono ?_
      rintro e w3 ⟨hb3, r3, rfl, p0'', p1'', p2''⟩
      have HX3 : Hid _ := hide (box_on HX2.out hb3)
      have HP3 : Hid _ := hide p2''
      clear hb3 HX2 p2'' x0 x1 x2 xl
      by_cases q3 : r3 < 0
      · go_wp2
        go_ret
        exact ⟨box_old HX3.out, -1, rfl, by omega, by omega, fun h => by omega⟩
      · go_wp2
        go_ret
        exact ⟨box_old HX3.out, r3, rfl, by omega, by omega, fun h => ⟨HP.out (by omega), HP2.out (by omega), HP3.out h⟩⟩
end Go.Proofs.YtacbcmgpknhgdaaGreat
