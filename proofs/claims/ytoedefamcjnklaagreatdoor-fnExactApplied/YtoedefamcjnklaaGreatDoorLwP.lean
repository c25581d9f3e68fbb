/- What holds in the midst of a law's region that asks for a ledger and lays it away. -/
import Derived.Test.YtoedefamcjnklaaGreatDoorGe
import Derived.Test.YtoedefamcjnklaaGreatDoorBkA
import Derived.Test.YtoedefamcjnklaaGreatDoorGd
import Derived.Test.YtoedefamcjnklaaGreatDoorEq
import Derived.Test.YtoedefamcjnklaaGreatDoorGb
namespace Go.Proofs.YtoedefamcjnklaaGreatDoor
open Go.ChangeShapes Go.WideShapes Go.ChangeAt Go.RowKit
set_option linter.unusedVariables false
set_option maxRecDepth 100000
/-- a ledger's rows of the call's own, between two places -/
def RowsL (lo hi : Nat) (Y : Led) (v1 v2 v3 : Value) (x : World) : Prop := ∃ a1 a2 a3 c1 c2 c3 g1 g2 g3, v1 = .slice a1 Y.acc.length c1 ∧ v2 = .slice a2 Y.hold.length c2 ∧ v3 = .slice a3 Y.seen.length c3 ∧ OwnR lo hi a1 a2 a3 c1 c2 c3 g1 g2 g3 Y.acc Y.hold Y.seen x
theorem RowsL.below {lo hi : Nat} {Y : Led} {v1 v2 v3 : Value} {x y : World} (h : RowsL lo hi Y v1 v2 v3 x) (b : Below x.heap.size x y) : RowsL lo hi Y v1 v2 v3 y := by
  obtain ⟨a1, a2, a3, c1, c2, c3, g1, g2, g3, e1, e2, e3, o⟩ := h
  exact ⟨a1, a2, a3, c1, c2, c3, g1, g2, g3, e1, e2, e3, o.below b⟩
theorem RowsL.setO {lo hi : Nat} {Y : Led} {v1 v2 v3 : Value} {x : World} {b o : Nat} {u : Value} (h : RowsL lo hi Y v1 v2 v3 x) (hd : b < lo ∨ hi ≤ b) : RowsL lo hi Y v1 v2 v3 (x.setCell ⟨b, o, none⟩ u) := by
  obtain ⟨a1, a2, a3, c1, c2, c3, g1, g2, g3, e1, e2, e3, w⟩ := h
  exact ⟨a1, a2, a3, c1, c2, c3, g1, g2, g3, e1, e2, e3, ⟨w.o1.keepB (fun q => Below.heap_setCell _ _ _ _ (by have := w.i1 q; show g1 ≠ b; omega)), w.o2.keepB (fun q => Below.heap_setCell _ _ _ _ (by have := w.i2 q; show g2 ≠ b; omega)), w.o3.keepB (fun q => Below.heap_setCell _ _ _ _ (by have := w.i3 q; show g3 ≠ b; omega)), w.d12, w.d13, w.d23, w.i1, w.i2, w.i3⟩⟩
theorem RowsL.open {lo hi : Nat} {Y : Led} {v1 v2 v3 : Value} {x : World} (h : RowsL lo hi Y v1 v2 v3 x) : ∃ a1 c1 a2 c2 a3 c3, v1 = .slice a1 Y.acc.length c1 ∧ v2 = .slice a2 Y.hold.length c2 ∧ v3 = .slice a3 Y.seen.length c3 := by
  obtain ⟨a1, a2, a3, c1, c2, c3, g1, g2, g3, e1, e2, e3, o⟩ := h
  exact ⟨a1, c1, a2, c2, a3, c3, e1, e2, e3⟩
/-- a ledger and a code that are the call's own -/
def LedC (cv : Int) (Y : Led) (w : World) (e : Ending) (w' : World) : Prop := Below w.heap.size w w' ∧ ∃ v1 v2 v3, e = .returned (.tuple #[.agg #[v1, v2, v3], .int .i64 cv]) ∧ RowsL w.heap.size w'.heap.size Y v1 v2 v3 w'
theorem orow_in {A : Type} {sz : Nat} {f : A → List Value} {a : Option Addr} {c : Nat} {l : List A} (h : 0 < l.length) : gOf a ∈ (orow sz f a c l).fp := by
  rw [orow_fp, if_neg (by omega)]
  simp
theorem ApplEnd.led {R : Led × Int} {w w' : World} {e : Ending} (h : ApplEnd R w e w') : LedC R.2 R.1 w e w' := by
  obtain ⟨p, rfl, hp, hq⟩ := h
  have st := hq.st
  simp only [List.flatten_cons, List.flatten_nil, List.append_nil] at st
  unfold ledL at st
  have nd := st.nd
  rw [fps_cons, fps_cons, fps_one, List.nodup_append, List.nodup_append] at nd
  obtain ⟨_, ⟨_, _, n23⟩, n1⟩ := nd
  have low : ∀ b ∈ fps [orow 4 accCells p.aa p.ca R.1.acc, orow 4 hldCells p.ha p.ch R.1.hold, orow 2 snCells p.sa p.cs R.1.seen], w.heap.size ≤ b ∧ b < w'.heap.size := fun b hb => ⟨(hq.hi b (by simpa [ledL] using hb)).resolve_left (by simp), st.lt b hb⟩
  refine ⟨hq.below, _, _, _, rfl, p.aa, p.ha, p.sa, p.ca, p.ch, p.cs, gOf p.aa, gOf p.ha, gOf p.sa, rfl, rfl, rfl, ⟨st.get (r := orow 4 accCells p.aa p.ca R.1.acc) (by simp), st.get (r := orow 4 hldCells p.ha p.ch R.1.hold) (by simp), st.get (r := orow 2 snCells p.sa p.cs R.1.seen) (by simp), fun p1 p2 => ?_, fun p1 p2 => ?_, fun p1 p2 => ?_, fun p1 => ?_, fun p1 => ?_, fun p1 => ?_⟩⟩
  · exact n1 _ (orow_in p1) _ (List.mem_append_left _ (orow_in p2))
  · exact n1 _ (orow_in p1) _ (List.mem_append_right _ (orow_in p2))
  · exact n23 _ (orow_in p1) _ (orow_in p2)
  · exact low _ (by rw [fps_cons]; exact List.mem_append_left _ (orow_in p1))
  · exact low _ (by rw [fps_cons, fps_cons]; exact List.mem_append_right _ (List.mem_append_left _ (orow_in p1)))
  · exact low _ (by rw [fps_cons, fps_cons, fps_one]; exact List.mem_append_right _ (List.mem_append_right _ (orow_in p1)))
/-- a great ledger has no room; else its lists are short, and so is what is left -/
def SzLed2 (L : Led) (w : World) (e : Ending) (w' : World) : Prop := Below w.heap.size w w' ∧ ∃ r : Int, e = .returned (.int .i64 r) ∧ -1 ≤ r ∧ r ≤ 1048576 ∧ (0 ≤ r → L.acc.length ≤ 1048576 ∧ L.hold.length ≤ 1048576 ∧ L.seen.length ≤ 1048576)
set_option maxHeartbeats 1000000 in
theorem szLedger_two (a h s : Option Addr) (L : Led) (ca ch cs : Nat) (w : World) (hl : LedAt w a h s L) (n1 : L.acc.length ≤ maxLen) (n2 : L.hold.length ≤ maxLen) (n3 : L.seen.length ≤ maxLen) :
    Calls Tryz.prog 4 #[.agg #[.slice a L.acc.length ca, .slice h L.hold.length ch, .slice s L.seen.length cs], .int .i64 1048576] w fun e w' => SzLed2 L w e w' := by
  have HL : Hid _ := hide hl
  clear hl
  have HX0 : Hid (Below (w.heap.size + 1) (w.alloc (.cells #[.slice a L.acc.length ca, .slice h L.hold.length ch, .slice s L.seen.length cs] 26)) (w.alloc (.cells #[.slice a L.acc.length ca, .slice h L.hold.length ch, .slice s L.seen.length cs] 26))) := hide (Below.refl _ _)
  go_enter Tryz.func4, Tryz.ntmps4
  go_wp2_with fail
  refine (szAccountS_any _ L.acc _ _ _ n1 (by omega) (HL.out.acc.below (box_old HX0.out))).mono ?_
  rintro e w1 ⟨hb1, r1, rfl, a0, a1⟩
  have HX1 : Hid _ := hide (box_on HX0.out hb1)
  clear hb1
  obtain ⟨x0, x1, x2⟩ := box26 HX1.out
  by_cases q1 : r1 < 0
  · go_wp2
    go_ret
    exact ⟨box_old HX1.out, -1, rfl, by omega, by omega, fun h => by omega⟩
  · have a2 := a1 (by omega)
    clear a1
    go_wp2_with fail
    refine (szHoldS_any _ L.hold _ _ _ n2 (by omega) (HL.out.hold.below (box_old HX1.out))).mono ?_
    rintro e w2 ⟨hb2, r2, rfl, b0, b1⟩
    have HX2 : Hid _ := hide (box_on HX1.out hb2)
    clear hb2 x0 x1 x2
    obtain ⟨x0, x1, x2⟩ := box26 HX2.out
    by_cases q2 : r2 < 0
    · go_wp2
      go_ret
      exact ⟨box_old HX2.out, -1, rfl, by omega, by omega, fun h => by omega⟩
    · have b2 := b1 (by omega)
      clear b1
      go_wp2_with fail
      refine (szAnsweredS_any _ L.seen.length _ _ _ n3 (by omega)).mono ?_
      rintro e w3 ⟨hb3, r3, rfl, c0, c1⟩
      have HX3 : Hid _ := hide (box_on HX2.out hb3)
      clear hb3 x0 x1 x2
      by_cases q3 : r3 < 0
      · go_wp2
        go_ret
        exact ⟨box_old HX3.out, -1, rfl, by omega, by omega, fun h => by omega⟩
      · have c2 := c1 (by omega)
        clear c1
        go_wp2
        go_ret
        exact ⟨box_old HX3.out, _, rfl, by omega, by omega, fun h => by omega⟩
set_option maxHeartbeats 400000 in
theorem szCommand_two (id kind : Int) (f t : ByteArray) (am ref left : Int) (w : World) (hf : f.size ≤ maxLen) (ht : t.size ≤ maxLen) (hl : 0 ≤ left ∧ left ≤ 1048576) :
    Calls Tryz.prog 5 #[.agg #[.int .i64 id, .int .i64 kind, .string f, .string t, .int .i64 am, .int .i64 ref], .int .i64 left] w fun e w' => Below w.heap.size w w' ∧ ∃ r : Int, e = .returned (.int .i64 r) := by
  unfold maxLen at hf ht
  have HB : Hid (Below w.heap.size w (w.alloc (.cells #[.int .i64 id, .int .i64 kind, .string f, .string t, .int .i64 am, .int .i64 ref] 28))) := hide (below_alloc (Below.refl _ _) _)
  by_cases h1 : left - f.size < 0
  · go_enter Tryz.func5, Tryz.ntmps5
    go_wp2
    go_ret
    exact ⟨HB.out, _, rfl⟩
  · by_cases h2 : left - f.size - t.size < 0
    · go_enter Tryz.func5, Tryz.ntmps5
      go_wp2
      go_ret
      exact ⟨HB.out, _, rfl⟩
    · go_enter Tryz.func5, Tryz.ntmps5
      go_wp2
      go_ret
      exact ⟨HB.out, _, rfl⟩
set_option maxHeartbeats 400000 in
theorem toCommand_bel (c : Cm) (w : World) :
    Calls Tryz.prog 8 #[.agg #[.int .i64 c.id, .int .i64 c.kind, .string c.fr, .string c.to, .int .i64 c.am, .int .i64 c.ref]] w fun e w' => e = .returned (.agg #[.int .i64 c.id, .int .i64 c.kind, .string c.fr, .string c.to, .int .i64 c.am, .int .i64 c.ref]) ∧ Below w.heap.size w w' := by
  go_enter Tryz.func8, Tryz.ntmps8
  go_wp2
  exact bodyPost_ret (v := .agg #[.int .i64 c.id, .int .i64 c.kind, .string c.fr, .string c.to, .int .i64 c.am, .int .i64 c.ref]) (by simp [results, Tryz.results8, go_sem]) rfl ⟨rfl, below_alloc (below_alloc (below_alloc (Below.refl _ _) _) _) _⟩
abbrev S6d (A B : Nat) (p0 p1 p2 q0 q1 q2 : Value) (W x : World) : Prop := x.cell? ⟨A, 0, none⟩ = some p0 ∧ x.cell? ⟨A, 1, none⟩ = some p1 ∧ x.cell? ⟨A, 2, none⟩ = some p2 ∧ x.cell? ⟨B, 0, none⟩ = some q0 ∧ x.cell? ⟨B, 1, none⟩ = some q1 ∧ x.cell? ⟨B, 2, none⟩ = some q2 ∧ Hid (Below W.heap.size W x)
theorem S6d.of {A B : Nat} {p0 p1 p2 q0 q1 q2 : Value} {W x : World} (h : Blk A [p0, p1, p2] W) (k : Blk B [q0, q1, q2] W) (b : Below W.heap.size W x) : S6d A B p0 p1 p2 q0 q1 q2 W x :=
  ⟨(h.below b).c 0 _ rfl, (h.below b).c 1 _ rfl, (h.below b).c 2 _ rfl, (k.below b).c 0 _ rfl, (k.below b).c 1 _ rfl, (k.below b).c 2 _ rfl, hide b⟩
theorem S6d.on {A B : Nat} {p0 p1 p2 q0 q1 q2 : Value} {W x y : World} (h : S6d A B p0 p1 p2 q0 q1 q2 W x) (b : Below x.heap.size x y) : S6d A B p0 p1 p2 q0 q1 q2 W y :=
  ⟨below_keeps b _ _ h.1, below_keeps b _ _ h.2.1, below_keeps b _ _ h.2.2.1, below_keeps b _ _ h.2.2.2.1, below_keeps b _ _ h.2.2.2.2.1, below_keeps b _ _ h.2.2.2.2.2.1, hide (below_trans h.2.2.2.2.2.2.out b)⟩
theorem S6d.old {A B : Nat} {p0 p1 p2 q0 q1 q2 : Value} {W x : World} (h : S6d A B p0 p1 p2 q0 q1 q2 W x) : Below W.heap.size W x := h.2.2.2.2.2.2.out
structure RegQ (W : Nat) (Y : Led) (c : Value) (l4 l5 l6 l7 l8 l9 l10 : Bool) (u31 u26 u32 u33 u6 u7 : Value) (x : World) (b lo hi : Nat) (v1 v2 v3 : Value) : Prop where
  al : l8 = true → u6 = .pointer (some ⟨b, 0, none⟩) ∧ W ≤ b ∧ b < x.heap.size
  az : l8 = true → l9 = false → Blk b [.slice none 0 0, .slice none 0 0, .slice none 0 0] x
  dn : l4 = true → W ≤ lo ∧ hi ≤ x.heap.size ∧ RowsL lo hi Y v1 v2 v3 x
  t4 : l4 = true → u31 = .tuple #[.agg #[v1, v2, v3], c]
  m5 : l5 = true → l4 = true ∧ u26 = .tuple #[.agg #[v1, v2, v3], c]
  e6 : l6 = true → l5 = true ∧ u32 = .agg #[v1, v2, v3]
  e7 : l7 = true → l5 = true ∧ u33 = c
  ap : l4 = true → l8 = true → b < lo ∨ hi ≤ b
  st : l9 = true → l6 = true ∧ l8 = true ∧ Blk b [v1, v2, v3] x
  a10 : l10 = true → l7 = true ∧ l9 = true ∧ u7 = c
def RegE (W : Nat) (Y : Led) (c : Value) (l4 l5 l6 l7 l8 l9 l10 : Bool) (u31 u26 u32 u33 u6 u7 : Value) (x : World) : Prop := ∃ b lo hi v1 v2 v3, RegQ W Y c l4 l5 l6 l7 l8 l9 l10 u31 u26 u32 u33 u6 u7 x b lo hi v1 v2 v3
section
variable {W : Nat} {Y : Led} {c : Value} {l4 l5 l6 l7 l8 l9 l10 : Bool} {u31 u26 u32 u33 u6 u7 : Value} {x y : World} {b lo hi : Nat} {v1 v2 v3 : Value}
theorem RegE.start : RegE W Y c false false false false false false false u31 u26 u32 u33 u6 u7 x :=
  ⟨0, 0, 0, .slice none 0 0, .slice none 0 0, .slice none 0 0, ⟨fun q => (by cases q), fun q => (by cases q), fun q => (by cases q), fun q => (by cases q), fun q => (by cases q), fun q => (by cases q), fun q => (by cases q), fun q => (by cases q), fun q => (by cases q), fun q => (by cases q)⟩⟩
theorem RegQ.keep (h : RegQ W Y c l4 l5 l6 l7 l8 l9 l10 u31 u26 u32 u33 u6 u7 x b lo hi v1 v2 v3) (hb : Below x.heap.size x y) : RegQ W Y c l4 l5 l6 l7 l8 l9 l10 u31 u26 u32 u33 u6 u7 y b lo hi v1 v2 v3 :=
  { h with
    al := fun q => ⟨(h.al q).1, (h.al q).2.1, Nat.lt_of_lt_of_le (h.al q).2.2 hb.size⟩
    az := fun q r => (h.az q r).below hb
    dn := fun q => ⟨(h.dn q).1, Nat.le_trans (h.dn q).2.1 hb.size, (h.dn q).2.2.below hb⟩
    st := fun q => ⟨(h.st q).1, (h.st q).2.1, (h.st q).2.2.below hb⟩ }
theorem RegE.keep (h : RegE W Y c l4 l5 l6 l7 l8 l9 l10 u31 u26 u32 u33 u6 u7 x) (hb : Below x.heap.size x y) : RegE W Y c l4 l5 l6 l7 l8 l9 l10 u31 u26 u32 u33 u6 u7 y := by
  obtain ⟨b, lo, hi, v1, v2, v3, Q⟩ := h
  exact ⟨b, lo, hi, v1, v2, v3, Q.keep hb⟩
theorem RegE.done (h : RegE W Y c false l5 l6 l7 l8 l9 l10 u31 u26 u32 u33 u6 u7 x) (hb : Below x.heap.size x y) (hW : W ≤ x.heap.size) (hr : RowsL x.heap.size y.heap.size Y v1 v2 v3 y) : RegE W Y c true l5 l6 l7 l8 l9 l10 (.tuple #[.agg #[v1, v2, v3], c]) u26 u32 u33 u6 u7 y := by
  obtain ⟨b, lo, hi, z1, z2, z3, Q⟩ := h
  have n5 : l5 = true → False := fun q => by have := (Q.m5 q).1; cases this
  have n6 : l6 = true → False := fun q => n5 (Q.e6 q).1
  have n7 : l7 = true → False := fun q => n5 (Q.e7 q).1
  have n9 : l9 = true → False := fun q => n6 (Q.st q).1
  refine ⟨b, x.heap.size, y.heap.size, v1, v2, v3, ⟨fun q => ⟨(Q.al q).1, (Q.al q).2.1, Nat.lt_of_lt_of_le (Q.al q).2.2 hb.size⟩, fun q r => (Q.az q r).below hb, fun _ => ⟨hW, Nat.le_refl _, hr⟩, fun _ => rfl, fun q => (n5 q).elim, fun q => (n6 q).elim, fun q => (n7 q).elim, fun _ q => .inl (Q.al q).2.2, fun q => (n9 q).elim, fun q => (n7 (Q.a10 q).1).elim⟩⟩
theorem RegE.alloc (h : RegE W Y c l4 l5 l6 l7 false l9 l10 u31 u26 u32 u33 u6 u7 x) (hW : W ≤ x.heap.size) {T : TypeId} : RegE W Y c l4 l5 l6 l7 true l9 l10 u31 u26 u32 u33 (.pointer (some ⟨x.heap.size, 0, none⟩)) u7 (x.alloc (.cells #[.slice none 0 0, .slice none 0 0, .slice none 0 0] T)) := by
  obtain ⟨b, lo, hi, v1, v2, v3, Q⟩ := h
  have hb : Below x.heap.size x (x.alloc (.cells #[.slice none 0 0, .slice none 0 0, .slice none 0 0] T)) := below_alloc (Below.refl _ _) _
  have n9 : l9 = true → False := fun q => by have := (Q.st q).2.1; cases this
  have Q' := Q.keep hb
  exact ⟨x.heap.size, lo, hi, v1, v2, v3, { Q' with
    al := fun _ => ⟨rfl, hW, by simp⟩
    az := fun _ _ => Blk.new
    ap := fun q _ => .inr (Q.dn q).2.1
    st := fun q => (n9 q).elim
    a10 := fun q => (n9 (Q.a10 q).2.1).elim }⟩
theorem RegE.mv5 (h : RegE W Y c true false l6 l7 l8 l9 l10 u31 u26 u32 u33 u6 u7 x) : RegE W Y c true true l6 l7 l8 l9 l10 u31 u31 u32 u33 u6 u7 x := by
  obtain ⟨b, lo, hi, v1, v2, v3, Q⟩ := h
  exact ⟨b, lo, hi, v1, v2, v3, { Q with m5 := fun _ => ⟨rfl, Q.t4 rfl⟩, e6 := fun q => ⟨rfl, (Q.e6 q).2⟩, e7 := fun q => ⟨rfl, (Q.e7 q).2⟩ }⟩
theorem RegQ.ex6 (Q : RegQ W Y c l4 true false l7 l8 l9 l10 u31 u26 u32 u33 u6 u7 x b lo hi v1 v2 v3) : RegQ W Y c l4 true true l7 l8 l9 l10 u31 u26 (.agg #[v1, v2, v3]) u33 u6 u7 x b lo hi v1 v2 v3 :=
  { Q with e6 := fun _ => ⟨rfl, rfl⟩, st := fun q => ⟨rfl, (Q.st q).2⟩ }
theorem RegQ.ex7 (Q : RegQ W Y c l4 true l6 false l8 l9 l10 u31 u26 u32 u33 u6 u7 x b lo hi v1 v2 v3) : RegQ W Y c l4 true l6 true l8 l9 l10 u31 u26 u32 c u6 u7 x b lo hi v1 v2 v3 :=
  { Q with e7 := fun _ => ⟨rfl, rfl⟩, a10 := fun q => ⟨rfl, (Q.a10 q).2⟩ }
theorem RegQ.as10 (Q : RegQ W Y c l4 l5 l6 true l8 true false u31 u26 u32 u33 u6 u7 x b lo hi v1 v2 v3) : RegQ W Y c l4 l5 l6 true l8 true true u31 u26 u32 u33 u6 c x b lo hi v1 v2 v3 :=
  { Q with a10 := fun _ => ⟨rfl, rfl, rfl⟩ }
theorem RegQ.sto (Q : RegQ W Y c true true true l7 true false l10 u31 u26 u32 u33 u6 u7 x b lo hi v1 v2 v3) : RegQ W Y c true true true l7 true true l10 u31 u26 u32 u33 u6 u7 (((x.setCell ⟨b, 0, none⟩ v1).setCell ⟨b, 1, none⟩ v2).setCell ⟨b, 2, none⟩ v3) b lo hi v1 v2 v3 := by
  have R := Q.az rfl rfl
  have D := (Q.dn rfl).2.2
  have A := Q.ap rfl rfl
  exact { Q with
    al := fun q => ⟨(Q.al q).1, (Q.al q).2.1, by rw [size_setCell, size_setCell, size_setCell]; exact (Q.al q).2.2⟩
    az := fun _ q => by cases q
    dn := fun q => ⟨(Q.dn q).1, by rw [size_setCell, size_setCell, size_setCell]; exact (Q.dn q).2.1, ((D.setO A).setO A).setO A⟩
    st := fun _ => ⟨rfl, rfl, ((R.set 0 v1 (by simp)).set 1 v2 (by simp)).set 2 v3 (by simp)⟩
    a10 := fun q => ⟨(Q.a10 q).1, rfl, (Q.a10 q).2.2⟩ }
/-- the ledger that was laid away -/
def RegEnd (W : Nat) (Y : Led) (c u6 u7 : Value) (x : World) : Prop :=
  ∃ b lo hi a1 a2 a3 c1 c2 c3 g1 g2 g3, u6 = .pointer (some ⟨b, 0, none⟩) ∧ u7 = c ∧ W ≤ b ∧ W ≤ lo ∧ hi ≤ x.heap.size ∧ (b < lo ∨ hi ≤ b) ∧ Blk b [.slice a1 Y.acc.length c1, .slice a2 Y.hold.length c2, .slice a3 Y.seen.length c3] x ∧ OwnR lo hi a1 a2 a3 c1 c2 c3 g1 g2 g3 Y.acc Y.hold Y.seen x
theorem RegE.fin (h : RegE W Y c true true true true true true true u31 u26 u32 u33 u6 u7 x) : RegEnd W Y c u6 u7 x := by
  obtain ⟨b, lo, hi, v1, v2, v3, Q⟩ := h
  obtain ⟨a1, a2, a3, c1, c2, c3, g1, g2, g3, rfl, rfl, rfl, R⟩ := (Q.dn rfl).2.2
  exact ⟨b, lo, hi, a1, a2, a3, c1, c2, c3, g1, g2, g3, (Q.al rfl).1, (Q.a10 rfl).2.2, (Q.al rfl).2.1, (Q.dn rfl).1, (Q.dn rfl).2.1, Q.ap rfl rfl, (Q.st rfl).2.2, R⟩
end
end Go.Proofs.YtoedefamcjnklaaGreatDoor
