/- The walk of the law FnExactDo. -/
import Derived.Test.YtoedefamcjnklaaGreatDoorLwE
import Derived.Deep.RegionHeld3
namespace Go.Proofs.YtoedefamcjnklaaGreatDoor
open Go.ChangeShapes Go.WideShapes Go.ChangeAt Go.RowKit
set_option linter.unusedVariables false
set_option maxRecDepth 100000
/-- a ledger whose rows begin their blocks -/
def OwnA (g h k : Nat) (D : Led) (x : World) : Prop := LedAt x (some ⟨g, 0, none⟩) (some ⟨h, 0, none⟩) (some ⟨k, 0, none⟩) D
theorem OwnA.below {g h k : Nat} {D : Led} {x y : World} (d : OwnA g h k D x) (b : Below x.heap.size x y) : OwnA g h k D y := LedAt.below d b
theorem plOk_own (D : Led) (g h k : Nat) : PlOk ⟨some ⟨g, 0, none⟩, D.acc.length, some ⟨h, 0, none⟩, D.hold.length, some ⟨k, 0, none⟩, D.seen.length⟩ D := ⟨⟨fun x hx => (by cases hx; exact ⟨_, _, rfl⟩), fun e => (by cases e), Nat.le_refl _⟩, ⟨fun x hx => (by cases hx; exact ⟨_, _, rfl⟩), fun e => (by cases e), Nat.le_refl _⟩, ⟨fun x hx => (by cases hx; exact ⟨_, _, rfl⟩), fun e => (by cases e), Nat.le_refl _⟩⟩
structure ApF27 (av ov : Value) (wp : World) (D Y : Led) (c : Value) (l0 l1 l2 l3 l4 l5 l6 l7 l8 l9 l10 : Bool) (u14 u15 u84 u85 u86 u87 u88 u89 u90 u91 : Value) (x : World) : Prop where
  bel : Below wp.heap.size wp x
  dk : l1 = true → l4 = false → ∃ g h k, u86 = .agg #[.slice (some ⟨g, 0, none⟩) D.acc.length D.acc.length, .slice (some ⟨h, 0, none⟩) D.hold.length D.hold.length, .slice (some ⟨k, 0, none⟩) D.seen.length D.seen.length] ∧ OwnA g h k D x
  p88 : l3 = true → u88 = ov
  q : RegE wp.heap.size Y c l4 l5 l6 l7 l8 l9 l10 u89 u84 u90 u91 u14 u15 x
  p85 : l0 = true → u85 = av
  p87 : l2 = true → u87 = ov
theorem ApF27.st1 {av ov : Value} {wp : World} {D Y : Led} {c : Value} {l2 l3 l4 l5 l6 l7 l8 l9 l10 : Bool} {u14 u15 u84 u85 u86 u87 u88 u89 u90 u91 : Value} {x : World} {y : World} {v : Value} (h : ApF27 av ov wp D Y c true false l2 l3 l4 l5 l6 l7 l8 l9 l10 u14 u15 u84 u85 u86 u87 u88 u89 u90 u91 x) (hb : Below x.heap.size x y) (hv : ∃ g h k, v = .agg #[.slice (some ⟨g, 0, none⟩) D.acc.length D.acc.length, .slice (some ⟨h, 0, none⟩) D.hold.length D.hold.length, .slice (some ⟨k, 0, none⟩) D.seen.length D.seen.length] ∧ OwnA g h k D y) : ApF27 av ov wp D Y c true true l2 l3 l4 l5 l6 l7 l8 l9 l10 u14 u15 u84 u85 v u87 u88 u89 u90 u91 y := { h with bel := below_trans h.bel hb, dk := fun _ _ => hv, q := h.q.keep hb }
theorem ApF27.st3 {av ov : Value} {wp : World} {D Y : Led} {c : Value} {l0 l4 l5 l6 l7 l8 l9 l10 : Bool} {u14 u15 u84 u85 u86 u87 u88 u89 u90 u91 : Value} {x : World} {y : World} (h : ApF27 av ov wp D Y c l0 true true false l4 l5 l6 l7 l8 l9 l10 u14 u15 u84 u85 u86 u87 u88 u89 u90 u91 x) (hb : Below x.heap.size x y) : ApF27 av ov wp D Y c l0 true true true l4 l5 l6 l7 l8 l9 l10 u14 u15 u84 u85 u86 u87 ov u89 u90 u91 y := { h with bel := below_trans h.bel hb, dk := fun q r => (by obtain ⟨g, hh, k, e, hd⟩ := h.dk q r; exact ⟨g, hh, k, e, hd.below hb⟩), p88 := fun _ => rfl, q := h.q.keep hb }
theorem ApF27.st4 {av ov : Value} {wp : World} {D Y : Led} {c : Value} {l0 l2 l5 l6 l7 l8 l9 l10 : Bool} {u14 u15 u84 u85 u86 u87 u88 u89 u90 u91 : Value} {x : World} {y : World} {v1 v2 v3 : Value} (h : ApF27 av ov wp D Y c l0 true l2 true false l5 l6 l7 l8 l9 l10 u14 u15 u84 u85 u86 u87 u88 u89 u90 u91 x) (hb : Below x.heap.size x y) (hr : RowsL x.heap.size y.heap.size Y v1 v2 v3 y) : ApF27 av ov wp D Y c l0 true l2 true true l5 l6 l7 l8 l9 l10 u14 u15 u84 u85 u86 u87 u88 (.tuple #[.agg #[v1, v2, v3], c]) u90 u91 y := { h with bel := below_trans h.bel hb, dk := fun _ r => (by cases r), q := h.q.done hb h.bel.size hr }
theorem ApF27.st8 {av ov : Value} {wp : World} {D Y : Led} {c : Value} {l0 l1 l2 l3 l4 l5 l6 l7 l9 l10 : Bool} {u14 u15 u84 u85 u86 u87 u88 u89 u90 u91 : Value} {x : World} (h : ApF27 av ov wp D Y c l0 l1 l2 l3 l4 l5 l6 l7 false l9 l10 u14 u15 u84 u85 u86 u87 u88 u89 u90 u91 x) : ApF27 av ov wp D Y c l0 l1 l2 l3 l4 l5 l6 l7 true l9 l10 (.pointer (some ⟨x.heap.size, 0, none⟩)) u15 u84 u85 u86 u87 u88 u89 u90 u91 (x.alloc (.cells #[.slice none 0 0, .slice none 0 0, .slice none 0 0] 35)) := { h with bel := below_trans h.bel (below_alloc (Below.refl _ _) _), dk := fun q r => (by obtain ⟨g, hh, k, e, hd⟩ := h.dk q r; exact ⟨g, hh, k, e, hd.below (below_alloc (Below.refl _ _) _)⟩), q := h.q.alloc h.bel.size }
theorem ApF27.st9 {av ov : Value} {wp : World} {D Y : Led} {c : Value} {l7 l10 : Bool} {u14 u15 u84 u85 u86 u87 u88 u89 u90 u91 : Value} {x : World} {b lo hi : Nat} {v1 v2 v3 : Value} (h : ApF27 av ov wp D Y c true true true true true true true l7 true false l10 u14 u15 u84 u85 u86 u87 u88 u89 u90 u91 x) (Q : RegQ wp.heap.size Y c true true true l7 true false l10 u89 u84 u90 u91 u14 u15 x b lo hi v1 v2 v3) : ApF27 av ov wp D Y c true true true true true true true l7 true true l10 u14 u15 u84 u85 u86 u87 u88 u89 u90 u91 (((x.setCell ⟨b, 0, none⟩ (v1)).setCell ⟨b, 1, none⟩ (v2)).setCell ⟨b, 2, none⟩ (v3)) := { h with bel := ((h.bel.setCell (p := ⟨b, 0, none⟩) (Q.al rfl).2.1 _).setCell (p := ⟨b, 1, none⟩) (Q.al rfl).2.1 _).setCell (p := ⟨b, 2, none⟩) (Q.al rfl).2.1 _, dk := fun _ r => (by cases r), q := ⟨b, lo, hi, v1, v2, v3, Q.sto⟩ }
structure ApF10 (av ov : Value) (wp : World) (D Y : Led) (c : Value) (l0 l1 l2 l3 l4 l5 l6 l7 l8 l9 : Bool) (u9 u10 u36 u37 u38 u39 u40 u41 u42 : Value) (x : World) : Prop where
  bel : Below wp.heap.size wp x
  p39 : l2 = true → u39 = ov
  q : RegE wp.heap.size Y c l3 l4 l5 l6 l7 l8 l9 u40 u36 u41 u42 u9 u10 x
  p37 : l0 = true → u37 = av
  p38 : l1 = true → u38 = ov
theorem ApF10.st2 {av ov : Value} {wp : World} {D Y : Led} {c : Value} {l0 l3 l4 l5 l6 l7 l8 l9 : Bool} {u9 u10 u36 u37 u38 u39 u40 u41 u42 : Value} {x : World} {y : World} (h : ApF10 av ov wp D Y c l0 true false l3 l4 l5 l6 l7 l8 l9 u9 u10 u36 u37 u38 u39 u40 u41 u42 x) (hb : Below x.heap.size x y) : ApF10 av ov wp D Y c l0 true true l3 l4 l5 l6 l7 l8 l9 u9 u10 u36 u37 u38 ov u40 u41 u42 y := { h with bel := below_trans h.bel hb, p39 := fun _ => rfl, q := h.q.keep hb }
theorem ApF10.st3 {av ov : Value} {wp : World} {D Y : Led} {c : Value} {l1 l4 l5 l6 l7 l8 l9 : Bool} {u9 u10 u36 u37 u38 u39 u40 u41 u42 : Value} {x : World} {y : World} {v1 v2 v3 : Value} (h : ApF10 av ov wp D Y c true l1 true false l4 l5 l6 l7 l8 l9 u9 u10 u36 u37 u38 u39 u40 u41 u42 x) (hb : Below x.heap.size x y) (hr : RowsL x.heap.size y.heap.size Y v1 v2 v3 y) : ApF10 av ov wp D Y c true l1 true true l4 l5 l6 l7 l8 l9 u9 u10 u36 u37 u38 u39 (.tuple #[.agg #[v1, v2, v3], c]) u41 u42 y := { h with bel := below_trans h.bel hb, q := h.q.done hb h.bel.size hr }
theorem ApF10.st7 {av ov : Value} {wp : World} {D Y : Led} {c : Value} {l0 l1 l2 l3 l4 l5 l6 l8 l9 : Bool} {u9 u10 u36 u37 u38 u39 u40 u41 u42 : Value} {x : World} (h : ApF10 av ov wp D Y c l0 l1 l2 l3 l4 l5 l6 false l8 l9 u9 u10 u36 u37 u38 u39 u40 u41 u42 x) : ApF10 av ov wp D Y c l0 l1 l2 l3 l4 l5 l6 true l8 l9 (.pointer (some ⟨x.heap.size, 0, none⟩)) u10 u36 u37 u38 u39 u40 u41 u42 (x.alloc (.cells #[.slice none 0 0, .slice none 0 0, .slice none 0 0] 35)) := { h with bel := below_trans h.bel (below_alloc (Below.refl _ _) _), q := h.q.alloc h.bel.size }
theorem ApF10.st8 {av ov : Value} {wp : World} {D Y : Led} {c : Value} {l6 l9 : Bool} {u9 u10 u36 u37 u38 u39 u40 u41 u42 : Value} {x : World} {b lo hi : Nat} {v1 v2 v3 : Value} (h : ApF10 av ov wp D Y c true true true true true true l6 true false l9 u9 u10 u36 u37 u38 u39 u40 u41 u42 x) (Q : RegQ wp.heap.size Y c true true true l6 true false l9 u40 u36 u41 u42 u9 u10 x b lo hi v1 v2 v3) : ApF10 av ov wp D Y c true true true true true true l6 true true l9 u9 u10 u36 u37 u38 u39 u40 u41 u42 (((x.setCell ⟨b, 0, none⟩ (v1)).setCell ⟨b, 1, none⟩ (v2)).setCell ⟨b, 2, none⟩ (v3)) := { h with bel := ((h.bel.setCell (p := ⟨b, 0, none⟩) (Q.al rfl).2.1 _).setCell (p := ⟨b, 1, none⟩) (Q.al rfl).2.1 _).setCell (p := ⟨b, 2, none⟩) (Q.al rfl).2.1 _, q := ⟨b, lo, hi, v1, v2, v3, Q.sto⟩ }
structure ApF8 (av ov : Value) (wp : World) (D Y : Led) (c : Value) (l0 l1 l2 l3 l4 l5 l6 l7 l8 l9 l10 : Bool) (u6 u7 u26 u27 u28 u29 u30 u31 u32 u33 : Value) (x : World) : Prop where
  bel : Below wp.heap.size wp x
  dk : l1 = true → l4 = false → ∃ g h k, u28 = .agg #[.slice (some ⟨g, 0, none⟩) D.acc.length D.acc.length, .slice (some ⟨h, 0, none⟩) D.hold.length D.hold.length, .slice (some ⟨k, 0, none⟩) D.seen.length D.seen.length] ∧ OwnA g h k D x
  p30 : l3 = true → u30 = ov
  q : RegE wp.heap.size Y c l4 l5 l6 l7 l8 l9 l10 u31 u26 u32 u33 u6 u7 x
  p27 : l0 = true → u27 = av
  p29 : l2 = true → u29 = ov
theorem ApF8.st1 {av ov : Value} {wp : World} {D Y : Led} {c : Value} {l2 l3 l4 l5 l6 l7 l8 l9 l10 : Bool} {u6 u7 u26 u27 u28 u29 u30 u31 u32 u33 : Value} {x : World} {y : World} {v : Value} (h : ApF8 av ov wp D Y c true false l2 l3 l4 l5 l6 l7 l8 l9 l10 u6 u7 u26 u27 u28 u29 u30 u31 u32 u33 x) (hb : Below x.heap.size x y) (hv : ∃ g h k, v = .agg #[.slice (some ⟨g, 0, none⟩) D.acc.length D.acc.length, .slice (some ⟨h, 0, none⟩) D.hold.length D.hold.length, .slice (some ⟨k, 0, none⟩) D.seen.length D.seen.length] ∧ OwnA g h k D y) : ApF8 av ov wp D Y c true true l2 l3 l4 l5 l6 l7 l8 l9 l10 u6 u7 u26 u27 v u29 u30 u31 u32 u33 y := { h with bel := below_trans h.bel hb, dk := fun _ _ => hv, q := h.q.keep hb }
theorem ApF8.st3 {av ov : Value} {wp : World} {D Y : Led} {c : Value} {l0 l4 l5 l6 l7 l8 l9 l10 : Bool} {u6 u7 u26 u27 u28 u29 u30 u31 u32 u33 : Value} {x : World} {y : World} (h : ApF8 av ov wp D Y c l0 true true false l4 l5 l6 l7 l8 l9 l10 u6 u7 u26 u27 u28 u29 u30 u31 u32 u33 x) (hb : Below x.heap.size x y) : ApF8 av ov wp D Y c l0 true true true l4 l5 l6 l7 l8 l9 l10 u6 u7 u26 u27 u28 u29 ov u31 u32 u33 y := { h with bel := below_trans h.bel hb, dk := fun q r => (by obtain ⟨g, hh, k, e, hd⟩ := h.dk q r; exact ⟨g, hh, k, e, hd.below hb⟩), p30 := fun _ => rfl, q := h.q.keep hb }
theorem ApF8.st4 {av ov : Value} {wp : World} {D Y : Led} {c : Value} {l0 l2 l5 l6 l7 l8 l9 l10 : Bool} {u6 u7 u26 u27 u28 u29 u30 u31 u32 u33 : Value} {x : World} {y : World} {v1 v2 v3 : Value} (h : ApF8 av ov wp D Y c l0 true l2 true false l5 l6 l7 l8 l9 l10 u6 u7 u26 u27 u28 u29 u30 u31 u32 u33 x) (hb : Below x.heap.size x y) (hr : RowsL x.heap.size y.heap.size Y v1 v2 v3 y) : ApF8 av ov wp D Y c l0 true l2 true true l5 l6 l7 l8 l9 l10 u6 u7 u26 u27 u28 u29 u30 (.tuple #[.agg #[v1, v2, v3], c]) u32 u33 y := { h with bel := below_trans h.bel hb, dk := fun _ r => (by cases r), q := h.q.done hb h.bel.size hr }
theorem ApF8.st8 {av ov : Value} {wp : World} {D Y : Led} {c : Value} {l0 l1 l2 l3 l4 l5 l6 l7 l9 l10 : Bool} {u6 u7 u26 u27 u28 u29 u30 u31 u32 u33 : Value} {x : World} (h : ApF8 av ov wp D Y c l0 l1 l2 l3 l4 l5 l6 l7 false l9 l10 u6 u7 u26 u27 u28 u29 u30 u31 u32 u33 x) : ApF8 av ov wp D Y c l0 l1 l2 l3 l4 l5 l6 l7 true l9 l10 (.pointer (some ⟨x.heap.size, 0, none⟩)) u7 u26 u27 u28 u29 u30 u31 u32 u33 (x.alloc (.cells #[.slice none 0 0, .slice none 0 0, .slice none 0 0] 35)) := { h with bel := below_trans h.bel (below_alloc (Below.refl _ _) _), dk := fun q r => (by obtain ⟨g, hh, k, e, hd⟩ := h.dk q r; exact ⟨g, hh, k, e, hd.below (below_alloc (Below.refl _ _) _)⟩), q := h.q.alloc h.bel.size }
theorem ApF8.st9 {av ov : Value} {wp : World} {D Y : Led} {c : Value} {l7 l10 : Bool} {u6 u7 u26 u27 u28 u29 u30 u31 u32 u33 : Value} {x : World} {b lo hi : Nat} {v1 v2 v3 : Value} (h : ApF8 av ov wp D Y c true true true true true true true l7 true false l10 u6 u7 u26 u27 u28 u29 u30 u31 u32 u33 x) (Q : RegQ wp.heap.size Y c true true true l7 true false l10 u31 u26 u32 u33 u6 u7 x b lo hi v1 v2 v3) : ApF8 av ov wp D Y c true true true true true true true l7 true true l10 u6 u7 u26 u27 u28 u29 u30 u31 u32 u33 (((x.setCell ⟨b, 0, none⟩ (v1)).setCell ⟨b, 1, none⟩ (v2)).setCell ⟨b, 2, none⟩ (v3)) := { h with bel := ((h.bel.setCell (p := ⟨b, 0, none⟩) (Q.al rfl).2.1 _).setCell (p := ⟨b, 1, none⟩) (Q.al rfl).2.1 _).setCell (p := ⟨b, 2, none⟩) (Q.al rfl).2.1 _, dk := fun _ r => (by cases r), q := ⟨b, lo, hi, v1, v2, v3, Q.sto⟩ }
set_option maxHeartbeats 8000000 in
theorem walkApplied (la sa oa : Option Addr) (lc sc oc : Nat) (D : Led) (o : Cm) (aA aD : Addr) (w : World) (hn : D.acc.length ≤ maxLen ∧ D.hold.length ≤ maxLen ∧ D.seen.length ≤ maxLen) (hno : o.fr.size ≤ maxLen ∧ o.to.size ≤ maxLen) (h : LedAt w la sa oa D) (hv : VarsAt aA aD w) :
    Calls Tryz.prog 3 #[.agg #[.slice la D.acc.length lc, .slice sa D.hold.length sc, .slice oa D.seen.length oc], .agg #[.int .i64 o.id, .int .i64 o.kind, .string o.fr, .string o.to, .int .i64 o.am, .int .i64 o.ref]] w fun e w' => YesEnd w e w' := by
  have HL : Hid _ := hide h
  have HN : Hid _ := hide hn
  have HNO : Hid _ := hide hno
  have HV : Hid _ := hide hv
  have HLW : Hid _ := hide h.wf
  clear h hn hno hv
  obtain ⟨w0, hwa⟩ : ∃ wa, wa = (w.alloc (.cells #[.slice la D.acc.length lc, .slice sa D.hold.length sc, .slice oa D.seen.length oc] 26)).alloc (.cells #[.int .i64 o.id, .int .i64 o.kind, .string o.fr, .string o.to, .int .i64 o.am, .int .i64 o.ref] 28) := ⟨_, rfl⟩
  have HW : Hid ((w.alloc (.cells #[.slice la D.acc.length lc, .slice sa D.hold.length sc, .slice oa D.seen.length oc] 26)).alloc (.cells #[.int .i64 o.id, .int .i64 o.kind, .string o.fr, .string o.to, .int .i64 o.am, .int .i64 o.ref] 28) = w0) := hide hwa.symm
  have KX0 : Hid (Blk w.heap.size [.slice la D.acc.length lc, .slice sa D.hold.length sc, .slice oa D.seen.length oc] w0) := hide (by rw [hwa]; exact Blk.new.alloc _)
  have KO0 : Hid (Blk (w.heap.size + 1) [.int .i64 o.id, .int .i64 o.kind, .string o.fr, .string o.to, .int .i64 o.am, .int .i64 o.ref] w0) := hide (by rw [hwa]; exact (by simpa using Blk.new (w := w.alloc (.cells #[.slice la D.acc.length lc, .slice sa D.hold.length sc, .slice oa D.seen.length oc] 26)) (cur := [.int .i64 o.id, .int .i64 o.kind, .string o.fr, .string o.to, .int .i64 o.am, .int .i64 o.ref]) (T := 28)))
  have HX0 : Hid (Below w.heap.size w w0) := hide (by rw [hwa]; exact below_alloc (below_alloc (Below.refl _ _) _) _)
  clear hwa
  go_enter Tryz.func3, Tryz.ntmps3
  go_wp2_with fail
  rw [HW.out]
  refine (szLedger_two la sa oa D lc sc oc _ (HL.out.below HX0.out) HN.out.1 HN.out.2.1 HN.out.2.2).mono ?_
  rintro e w1 ⟨hb1, r, rfl, hr1, hr2, hr⟩
  have HX1 : Hid _ := hide (below_trans HX0.out hb1)
  have KX1 : Hid _ := hide (KX0.out.below hb1)
  have KO1 : Hid _ := hide (KO0.out.below hb1)
  have HR : Hid _ := hide hr
  clear hb1 HX0 KX0 KO0 hr
  by_cases q : r < 0
  · go_wp2
    go_ret
    exact ⟨rfl, HX1.out⟩
  · have HM : Hid (D.acc.length ≤ 1048576 ∧ D.hold.length ≤ 1048576 ∧ D.seen.length ≤ 1048576) := hide (HR.out (by omega))
    clear HR
    have o0 := KO1.out.c 0 _ rfl
    have o1 := KO1.out.c 1 _ rfl
    have o2 := KO1.out.c 2 _ rfl
    have o3 := KO1.out.c 3 _ rfl
    have o4 := KO1.out.c 4 _ rfl
    have o5 := KO1.out.c 5 _ rfl
    go_wp2_with fail
    refine (szCommand_two o.id o.kind o.fr o.to o.am o.ref r _ HNO.out.1 HNO.out.2 (by omega)).mono ?_
    rintro e w2 ⟨hb2, r2, rfl⟩
    have HX2 : Hid _ := hide (below_trans HX1.out hb2)
    have KX2 : Hid _ := hide (KX1.out.below hb2)
    have KO2 : Hid _ := hide (KO1.out.below hb2)
    clear hb2 HX1 KX1 KO1 o0 o1 o2 o3 o4 o5
    by_cases q2 : r2 < 0
    · go_wp2
      go_ret
      exact ⟨rfl, HX2.out⟩
    · skip
      have hall : ∃ (Y : Led) (cv : Int), (Y.acc.length ≤ 1048576 ∧ Y.hold.length ≤ 1048576 ∧ Y.seen.length ≤ 1048576) ∧
          (∀ (g h k : Nat) (x : World), OwnA g h k D x → VarsAt aA aD x → Calls Tryz.prog 6 #[.agg #[.slice (some ⟨g, 0, none⟩) D.acc.length D.acc.length, .slice (some ⟨h, 0, none⟩) D.hold.length D.hold.length, .slice (some ⟨k, 0, none⟩) D.seen.length D.seen.length], .agg #[.int .i64 o.id, .int .i64 o.kind, .string o.fr, .string o.to, .int .i64 o.am, .int .i64 o.ref]] x fun e w' => LedC cv Y x e w') ∧
          (∀ (g h k : Nat) (x : World), OwnA g h k D x → VarsAt aA aD x → Calls Tryz.prog 9 #[.agg #[.slice (some ⟨g, 0, none⟩) D.acc.length D.acc.length, .slice (some ⟨h, 0, none⟩) D.hold.length D.hold.length, .slice (some ⟨k, 0, none⟩) D.seen.length D.seen.length], .agg #[.int .i64 o.id, .int .i64 o.kind, .string o.fr, .string o.to, .int .i64 o.am, .int .i64 o.ref]] x fun e w' => LedC cv Y x e w') :=
        ⟨_, _, applM_len D o, fun g h k x d _ => (specApplied_any ⟨some ⟨g, 0, none⟩, D.acc.length, some ⟨h, 0, none⟩, D.hold.length, some ⟨k, 0, none⟩, D.seen.length⟩ D o x HM.out.1 HM.out.2.1 HM.out.2.2 HNO.out.1 HNO.out.2 (plOk_own D g h k) d).mono (fun e w' q => q.led), fun g h k x d v => (implApplied_any ⟨some ⟨g, 0, none⟩, D.acc.length, some ⟨h, 0, none⟩, D.hold.length, some ⟨k, 0, none⟩, D.seen.length⟩ D o aA aD x HM.out.1 HM.out.2.1 HM.out.2.2 HNO.out.1 HNO.out.2 (plOk_own D g h k) d v).mono (fun e w' q => q.led)⟩
      obtain ⟨Y, cv, hml, hsm, him⟩ := hall
      have HML : Hid _ := hide hml
      have HSM : Hid _ := hide hsm
      have HIM : Hid _ := hide him
      clear hml hsm him
      have HX2S : Hid (w.heap.size + 2 ≤ w2.heap.size) := hide (by have := KO2.out.lt; omega)
      go_wp2_with fail
      rename_i hK0
      refine wp_region_inv (by kernel_rfl) (fun L act x => ∃ l0 l1 l2 l3 l4 l5 l6 l7 l8 l9 l10 : Bool, ∃ u6 u7 u26 u27 u28 u29 u30 u31 u32 u33 : Value, L = #[l0, l1, l2, l3, l4, l5, l6, l7, l8, l9, l10] ∧ act = { tmps := #[Value.agg #[Value.slice la D.acc.length lc, Value.slice sa D.hold.length sc, Value.slice oa D.seen.length oc], Value.agg #[Value.int IntKind.i64 o.id, Value.int IntKind.i64 o.kind, Value.string o.fr, Value.string o.to, Value.int IntKind.i64 o.am, Value.int IntKind.i64 o.ref], Value.pointer (some { block := w.heap.size, off := 0 }), Value.pointer (some { block := w.heap.size + 1, off := 0 }), Value.bool false, Value.int IntKind.i64 r2, u6, u7, undef, undef, undef, undef, undef, undef, undef, undef, Value.agg #[Value.slice la D.acc.length lc, Value.slice sa D.hold.length sc, Value.slice oa D.seen.length oc], Value.int IntKind.i64 1048576, Value.int IntKind.i64 r, Value.int IntKind.i64 r, Value.bool (decide (r < 0)), Value.agg #[Value.int IntKind.i64 o.id, Value.int IntKind.i64 o.kind, Value.string o.fr, Value.string o.to, Value.int IntKind.i64 o.am, Value.int IntKind.i64 o.ref], Value.int IntKind.i64 r, Value.int IntKind.i64 r2, Value.int IntKind.i64 r2, Value.bool (decide (r2 < 0)), u26, u27, u28, u29, u30, u31, u32, u33, undef, undef, undef, undef, undef, undef, undef, undef, undef, undef, undef, undef, undef, undef, undef, undef, undef, undef, undef, undef, undef, undef, undef, undef, undef, undef, undef, undef, undef, undef, undef, undef, undef, undef, undef, undef, undef, undef, undef, undef, undef, undef, undef, undef, undef, undef, undef, undef, undef, undef, undef, undef, undef, undef, undef, undef, undef, undef, undef, undef, undef, undef, undef, undef, undef, undef, undef, undef, undef, undef, undef, undef, undef, undef, undef], defers := [] } ∧ ApF8 (.agg #[.slice la D.acc.length lc, .slice sa D.hold.length sc, .slice oa D.seen.length oc]) (.agg #[.int .i64 o.id, .int .i64 o.kind, .string o.fr, .string o.to, .int .i64 o.am, .int .i64 o.ref]) w2 D Y (.int .i64 cv) l0 l1 l2 l3 l4 l5 l6 l7 l8 l9 l10 u6 u7 u26 u27 u28 u29 u30 u31 u32 u33 x) ?_ ?_ ?_
      rotate_left 2
      · exact ⟨false, false, false, false, false, false, false, false, false, false, false, (undef), (undef), (undef), (undef), (undef), (undef), (undef), (undef), (undef), (undef), rfl, rfl, ⟨(Below.refl _ _).drew, fun q => (by cases q), fun q => (by cases q), RegE.start, fun q => (by cases q), fun q => (by cases q)⟩⟩
      · rintro L act x i ⟨l0, l1, l2, l3, l4, l5, l6, l7, l8, l9, l10, u6, u7, u26, u27, u28, u29, u30, u31, u32, u33, rfl, rfl, h⟩ hi K hK
        have hi15 : i < 11 := by
          obtain ⟨_, o, ho, _⟩ := mem_ready.1 hi
          exact (Array.getElem?_eq_some_iff.1 ho).1
        have hl := (mem_ready.1 hi).1
        obtain rfl | rfl | rfl | rfl | rfl | rfl | rfl | rfl | rfl | rfl | rfl := (by omega : i = 0 ∨ i = 1 ∨ i = 2 ∨ i = 3 ∨ i = 4 ∨ i = 5 ∨ i = 6 ∨ i = 7 ∨ i = 8 ∨ i = 9 ∨ i = 10)
        · have e : l0 = false := hl
          subst e
          have kx := KX2.out.below h.bel
          have c0 := kx.c 0 _ rfl
          have c1 := kx.c 1 _ rfl
          have c2 := kx.c 2 _ rfl
          refine wpOp_run (v := .agg #[.slice la D.acc.length lc, .slice sa D.hold.length sc, .slice oa D.seen.length oc]) (w' := x) (by rfl) (by rfl) ?_ (hK _ _ ⟨true, l1, l2, l3, l4, l5, l6, l7, l8, l9, l10, u6, u7, u26, (.agg #[.slice la D.acc.length lc, .slice sa D.hold.length sc, .slice oa D.seen.length oc]), u28, u29, u30, u31, u32, u33, rfl, rfl, { h with p27 := fun _ => rfl }⟩)
          go_simp
        · have e : l1 = false := hl
          subst e
          have d0 : l0 = true := ready_on hi 0 (by kernel_rfl)
          subst d0
          refine wpOp_call (by rfl) (by rfl) ?_ (toLedger_own la sa oa D lc sc oc x (HL.out.below (below_trans HX2.out h.bel)) HM.out.1 HM.out.2.1 HM.out.2.2) ?_
          · rw [h.p27 rfl]; go_simp
          · rintro e w' ⟨hb, g, hh, k, rfl, hd⟩
            exact ⟨_, rfl, hK _ _ ⟨true, true, l2, l3, l4, l5, l6, l7, l8, l9, l10, u6, u7, u26, u27, (.agg #[.slice (some ⟨g, 0, none⟩) D.acc.length D.acc.length, .slice (some ⟨hh, 0, none⟩) D.hold.length D.hold.length, .slice (some ⟨k, 0, none⟩) D.seen.length D.seen.length]), u29, u30, u31, u32, u33, rfl, rfl, h.st1 hb ⟨g, hh, k, rfl, hd.led HLW.out⟩⟩⟩
        · have e : l2 = false := hl
          subst e
          have kx := KO2.out.below h.bel
          have c0 := kx.c 0 _ rfl
          have c1 := kx.c 1 _ rfl
          have c2 := kx.c 2 _ rfl
          have c3 := kx.c 3 _ rfl
          have c4 := kx.c 4 _ rfl
          have c5 := kx.c 5 _ rfl
          refine wpOp_run (v := .agg #[.int .i64 o.id, .int .i64 o.kind, .string o.fr, .string o.to, .int .i64 o.am, .int .i64 o.ref]) (w' := x) (by rfl) (by rfl) ?_ (hK _ _ ⟨l0, l1, true, l3, l4, l5, l6, l7, l8, l9, l10, u6, u7, u26, u27, u28, (.agg #[.int .i64 o.id, .int .i64 o.kind, .string o.fr, .string o.to, .int .i64 o.am, .int .i64 o.ref]), u30, u31, u32, u33, rfl, rfl, { h with p29 := fun _ => rfl }⟩)
          go_simp
        · have e : l3 = false := hl
          subst e
          have d1 : l1 = true := ready_on hi 1 (by kernel_rfl)
          subst d1
          have d2 : l2 = true := ready_on hi 2 (by kernel_rfl)
          subst d2
          refine wpOp_call (by rfl) (by rfl) ?_ (toCommand_bel o x) ?_
          · rw [h.p29 rfl]; go_simp
          · rintro e w' ⟨rfl, hb⟩
            exact ⟨_, rfl, hK _ _ ⟨l0, true, true, true, l4, l5, l6, l7, l8, l9, l10, u6, u7, u26, u27, u28, u29, (.agg #[.int .i64 o.id, .int .i64 o.kind, .string o.fr, .string o.to, .int .i64 o.am, .int .i64 o.ref]), u31, u32, u33, rfl, rfl, h.st3 hb⟩⟩
        · have e : l4 = false := hl
          subst e
          have d1 : l1 = true := ready_on hi 1 (by kernel_rfl)
          subst d1
          have d3 : l3 = true := ready_on hi 3 (by kernel_rfl)
          subst d3
          obtain ⟨g, hh, k, eg, hd⟩ := h.dk rfl rfl
          refine wpOp_call (by rfl) (by rfl) ?_ (HSM.out g hh k x hd (HV.out.below (below_trans HX2.out h.bel))) ?_
          · rw [h.p30 rfl]; rw [eg]; go_simp
          · rintro e w' ⟨hb, v1, v2, v3, rfl, hr⟩
            exact ⟨_, rfl, hK _ _ ⟨l0, true, l2, true, true, l5, l6, l7, l8, l9, l10, u6, u7, u26, u27, u28, u29, u30, (.tuple #[.agg #[v1, v2, v3], .int .i64 cv]), u32, u33, rfl, rfl, h.st4 hb hr⟩⟩
        · have e : l5 = false := hl
          subst e
          have d4 : l4 = true := ready_on hi 4 (by kernel_rfl)
          subst d4
          refine wpOp_run (v := u31) (w' := x) (by rfl) (by rfl) ?_ (hK _ _ ⟨l0, l1, l2, l3, true, true, l6, l7, l8, l9, l10, u6, u7, (u31), u27, u28, u29, u30, u31, u32, u33, rfl, rfl, { h with q := h.q.mv5 }⟩)
          go_simp
        · have e : l6 = false := hl
          subst e
          have d5 : l5 = true := ready_on hi 5 (by kernel_rfl)
          subst d5
          obtain ⟨b, lo, hi, v1, v2, v3, Q⟩ := h.q
          refine wpOp_run (v := .agg #[v1, v2, v3]) (w' := x) (by rfl) (by rfl) ?_ (hK _ _ ⟨l0, l1, l2, l3, l4, true, true, l7, l8, l9, l10, u6, u7, u26, u27, u28, u29, u30, u31, (.agg #[v1, v2, v3]), u33, rfl, rfl, { h with q := ⟨b, lo, hi, v1, v2, v3, Q.ex6⟩ }⟩)
          rw [(Q.m5 rfl).2]
          go_simp
        · have e : l7 = false := hl
          subst e
          have d5 : l5 = true := ready_on hi 5 (by kernel_rfl)
          subst d5
          obtain ⟨b, lo, hi, v1, v2, v3, Q⟩ := h.q
          refine wpOp_run (v := .int .i64 cv) (w' := x) (by rfl) (by rfl) ?_ (hK _ _ ⟨l0, l1, l2, l3, l4, true, l6, true, l8, l9, l10, u6, u7, u26, u27, u28, u29, u30, u31, u32, (.int .i64 cv), rfl, rfl, { h with q := ⟨b, lo, hi, v1, v2, v3, Q.ex7⟩ }⟩)
          rw [(Q.m5 rfl).2]
          go_simp
        · have e : l8 = false := hl
          subst e
          refine wpOp_run (v := .pointer (some ⟨x.heap.size, 0, none⟩)) (w' := x.alloc (.cells #[.slice none 0 0, .slice none 0 0, .slice none 0 0] 35)) (by rfl) (by rfl) ?_ (hK _ _ ⟨l0, l1, l2, l3, l4, l5, l6, l7, true, l9, l10, (.pointer (some ⟨x.heap.size, 0, none⟩)), u7, u26, u27, u28, u29, u30, u31, u32, u33, rfl, rfl, h.st8⟩)
          go_simp
        · have e : l9 = false := hl
          subst e
          have d0 : l0 = true := ready_on hi 0 (by kernel_rfl)
          subst d0
          have d1 : l1 = true := ready_on hi 1 (by kernel_rfl)
          subst d1
          have d2 : l2 = true := ready_on hi 2 (by kernel_rfl)
          subst d2
          have d3 : l3 = true := ready_on hi 3 (by kernel_rfl)
          subst d3
          have d4 : l4 = true := ready_on hi 4 (by kernel_rfl)
          subst d4
          have d5 : l5 = true := ready_on hi 5 (by kernel_rfl)
          subst d5
          have d6 : l6 = true := ready_on hi 6 (by kernel_rfl)
          subst d6
          have d8 : l8 = true := ready_on hi 8 (by kernel_rfl)
          subst d8
          obtain ⟨b, lo, hi, v1, v2, v3, Q⟩ := h.q
          obtain ⟨a1, c1, a2, c2, a3, c3, rfl, rfl, rfl⟩ := (Q.dn rfl).2.2.open
          have R := Q.az rfl rfl
          have r0 := R.c 0 _ rfl
          have r1 := R.c 1 _ rfl
          have r2 := R.c 2 _ rfl
          have f0 := R.f 0
          have f1 := R.f 1
          have f2 := R.f 2
          refine wpOp_skip (w' := (((x.setCell ⟨b, 0, none⟩ (.slice a1 Y.acc.length c1)).setCell ⟨b, 1, none⟩ (.slice a2 Y.hold.length c2)).setCell ⟨b, 2, none⟩ (.slice a3 Y.seen.length c3))) (by rfl) (by rfl) ?_ (hK _ _ ⟨true, true, true, true, true, true, true, l7, true, true, l10, u6, u7, u26, u27, u28, u29, u30, u31, u32, u33, rfl, rfl, h.st9 Q⟩)
          rw [(Q.al rfl).1, (Q.e6 rfl).2]
          go_simp
        · have e : l10 = false := hl
          subst e
          have d0 : l0 = true := ready_on hi 0 (by kernel_rfl)
          subst d0
          have d1 : l1 = true := ready_on hi 1 (by kernel_rfl)
          subst d1
          have d2 : l2 = true := ready_on hi 2 (by kernel_rfl)
          subst d2
          have d3 : l3 = true := ready_on hi 3 (by kernel_rfl)
          subst d3
          have d4 : l4 = true := ready_on hi 4 (by kernel_rfl)
          subst d4
          have d5 : l5 = true := ready_on hi 5 (by kernel_rfl)
          subst d5
          have d6 : l6 = true := ready_on hi 6 (by kernel_rfl)
          subst d6
          have d7 : l7 = true := ready_on hi 7 (by kernel_rfl)
          subst d7
          have d8 : l8 = true := ready_on hi 8 (by kernel_rfl)
          subst d8
          have d9 : l9 = true := ready_on hi 9 (by kernel_rfl)
          subst d9
          obtain ⟨b, lo, hi, v1, v2, v3, Q⟩ := h.q
          refine wpOp_run (v := .int .i64 cv) (w' := x) (by rfl) (by rfl) ?_ (hK _ _ ⟨true, true, true, true, true, true, true, true, true, true, true, u6, (.int .i64 cv), u26, u27, u28, u29, u30, u31, u32, u33, rfl, rfl, { h with q := ⟨b, lo, hi, v1, v2, v3, Q.as10⟩ }⟩)
          rw [(Q.e7 rfl).2]
          go_simp
      · rintro L act x ⟨l0, l1, l2, l3, l4, l5, l6, l7, l8, l9, l10, u6, u7, u26, u27, u28, u29, u30, u31, u32, u33, rfl, rfl, h⟩ hr
        have hall := ready_all hr rfl (by decide)
        have t0 : l0 = true := hall 0 (by decide)
        have t1 : l1 = true := hall 1 (by decide)
        have t2 : l2 = true := hall 2 (by decide)
        have t3 : l3 = true := hall 3 (by decide)
        have t4 : l4 = true := hall 4 (by decide)
        have t5 : l5 = true := hall 5 (by decide)
        have t6 : l6 = true := hall 6 (by decide)
        have t7 : l7 = true := hall 7 (by decide)
        have t8 : l8 = true := hall 8 (by decide)
        have t9 : l9 = true := hall 9 (by decide)
        have t10 : l10 = true := hall 10 (by decide)
        subst t0 t1 t2 t3 t4 t5 t6 t7 t8 t9 t10
        clear hall hr
        obtain ⟨b4, lo4, hi4, a1, a2, a3, ac1, ac2, ac3, ag1, ag2, ag3, rfl, rfl, hW4, hl4, hh4, hd4, hk4, hr4⟩ := h.q.fin
        have hX := below_trans HX2.out h.bel
        have HX3 : Hid _ := hide hX
        have KX3 : Hid _ := hide (KX2.out.below h.bel)
        have KO3 : Hid _ := hide (KO2.out.below h.bel)
        have R43 : Hid _ := hide hr4
        have K43 : Hid _ := hide hk4
        have N4 : Hid (w.heap.size + 2 ≤ w2.heap.size ∧ w2.heap.size ≤ b4 ∧ w2.heap.size ≤ lo4 ∧ hi4 ≤ x.heap.size ∧ b4 < x.heap.size) := hide ⟨HX2S.out, hW4, hl4, hh4, hk4.lt⟩
        clear h hX hW4 hl4 hh4 hd4 hk4 hr4 HX2 KX2 KO2
        have x0 := KX3.out.c 0 _ rfl
        have x1 := KX3.out.c 1 _ rfl
        have x2 := KX3.out.c 2 _ rfl
        refine hK0 _ _ ?_
        go_wp2_with fail
        refine (toLedger_own la sa oa D lc sc oc _ (HL.out.below HX3.out) HM.out.1 HM.out.2.1 HM.out.2.2).mono ?_
        rintro e w5 ⟨hb5, g5, h5, k5, rfl, hr5⟩
        have bn5 : Below w5.heap.size w5 (w5.alloc (.cells #[.slice (some ⟨g5, 0, none⟩) D.acc.length D.acc.length, .slice (some ⟨h5, 0, none⟩) D.hold.length D.hold.length, .slice (some ⟨k5, 0, none⟩) D.seen.length D.seen.length] 35)) := below_alloc (Below.refl _ _) _
        have b45 := below_trans hb5 bn5
        have HX6 : Hid _ := hide (below_trans HX3.out b45)
        have KX6 : Hid _ := hide (KX3.out.below b45)
        have KO6 : Hid _ := hide (KO3.out.below b45)
        have R46 : Hid _ := hide (R43.out.below b45)
        have K46 : Hid _ := hide (K43.out.below b45)
        have D5 : Hid (OwnA g5 h5 k5 D _) := hide (OwnA.below (hr5.led HLW.out) bn5)
        have R5 : Hid _ := hide (hr5.below bn5)
        have K5 : Hid (Blk w5.heap.size [.slice (some ⟨g5, 0, none⟩) D.acc.length D.acc.length, .slice (some ⟨h5, 0, none⟩) D.hold.length D.hold.length, .slice (some ⟨k5, 0, none⟩) D.seen.length D.seen.length] (w5.alloc (.cells #[.slice (some ⟨g5, 0, none⟩) D.acc.length D.acc.length, .slice (some ⟨h5, 0, none⟩) D.hold.length D.hold.length, .slice (some ⟨k5, 0, none⟩) D.seen.length D.seen.length] 35))) := hide Blk.new
        have N5 : Hid (x.heap.size ≤ w5.heap.size ∧ w5.heap.size < (w5.alloc (.cells #[.slice (some ⟨g5, 0, none⟩) D.acc.length D.acc.length, .slice (some ⟨h5, 0, none⟩) D.hold.length D.hold.length, .slice (some ⟨k5, 0, none⟩) D.seen.length D.seen.length] 35)).heap.size) := hide ⟨hb5.size, by simp⟩
        clear hb5 hr5 bn5 b45 HX3 KX3 KO3 R43 K43 x0 x1 x2
        go_wp2_with fail
        obtain ⟨w6, hw6⟩ : ∃ w6, w6 = w5.alloc (.cells #[.slice (some ⟨g5, 0, none⟩) D.acc.length D.acc.length, .slice (some ⟨h5, 0, none⟩) D.hold.length D.hold.length, .slice (some ⟨k5, 0, none⟩) D.seen.length D.seen.length] 35) := ⟨_, rfl⟩
        rw [← hw6] at HX6 KX6 KO6 R46 K46 D5 R5 K5 N5 ⊢
        clear hw6
        have HIM5 : Hid (∀ x : World, Below w6.heap.size w6 x → Calls Tryz.prog 9 #[.agg #[.slice (some ⟨g5, 0, none⟩) D.acc.length D.acc.length, .slice (some ⟨h5, 0, none⟩) D.hold.length D.hold.length, .slice (some ⟨k5, 0, none⟩) D.seen.length D.seen.length], .agg #[.int .i64 o.id, .int .i64 o.kind, .string o.fr, .string o.to, .int .i64 o.am, .int .i64 o.ref]] x fun e w' => LedC cv Y x e w') := hide (fun x hx => HIM.out g5 h5 k5 x (D5.out.below hx) (HV.out.below (below_trans HX6.out hx)))
        rename_i hK1
        refine wp_region_inv (by kernel_rfl) (fun L act x => ∃ l0 l1 l2 l3 l4 l5 l6 l7 l8 l9 : Bool, ∃ u9 u10 u36 u37 u38 u39 u40 u41 u42 : Value, L = #[l0, l1, l2, l3, l4, l5, l6, l7, l8, l9] ∧ act = { tmps := #[Value.agg #[Value.slice la D.acc.length lc, Value.slice sa D.hold.length sc, Value.slice oa D.seen.length oc], Value.agg #[Value.int IntKind.i64 o.id, Value.int IntKind.i64 o.kind, Value.string o.fr, Value.string o.to, Value.int IntKind.i64 o.am, Value.int IntKind.i64 o.ref], Value.pointer (some { block := w.heap.size, off := 0 }), Value.pointer (some { block := w.heap.size + 1, off := 0 }), Value.bool false, Value.int IntKind.i64 r2, Value.pointer (some { block := b4, off := 0 }), Value.int IntKind.i64 cv, Value.pointer (some { block := w5.heap.size, off := 0 }), u9, u10, undef, undef, undef, undef, undef, Value.agg #[Value.slice la D.acc.length lc, Value.slice sa D.hold.length sc, Value.slice oa D.seen.length oc], Value.int IntKind.i64 1048576, Value.int IntKind.i64 r, Value.int IntKind.i64 r, Value.bool (decide (r < 0)), Value.agg #[Value.int IntKind.i64 o.id, Value.int IntKind.i64 o.kind, Value.string o.fr, Value.string o.to, Value.int IntKind.i64 o.am, Value.int IntKind.i64 o.ref], Value.int IntKind.i64 r, Value.int IntKind.i64 r2, Value.int IntKind.i64 r2, Value.bool (decide (r2 < 0)), u26, u27, u28, u29, u30, u31, u32, u33, Value.agg #[Value.slice la D.acc.length lc, Value.slice sa D.hold.length sc, Value.slice oa D.seen.length oc], Value.agg #[Value.slice (some { block := g5, off := 0 }) D.acc.length D.acc.length, Value.slice (some { block := h5, off := 0 }) D.hold.length D.hold.length, Value.slice (some { block := k5, off := 0 }) D.seen.length D.seen.length], u36, u37, u38, u39, u40, u41, u42, undef, undef, undef, undef, undef, undef, undef, undef, undef, undef, undef, undef, undef, undef, undef, undef, undef, undef, undef, undef, undef, undef, undef, undef, undef, undef, undef, undef, undef, undef, undef, undef, undef, undef, undef, undef, undef, undef, undef, undef, undef, undef, undef, undef, undef, undef, undef, undef, undef, undef, undef, undef, undef, undef, undef, undef, undef, undef, undef, undef, undef, undef, undef, undef, undef, undef], defers := [] } ∧ ApF10 (.agg #[.slice (some ⟨g5, 0, none⟩) D.acc.length D.acc.length, .slice (some ⟨h5, 0, none⟩) D.hold.length D.hold.length, .slice (some ⟨k5, 0, none⟩) D.seen.length D.seen.length]) (.agg #[.int .i64 o.id, .int .i64 o.kind, .string o.fr, .string o.to, .int .i64 o.am, .int .i64 o.ref]) w6 D Y (.int .i64 cv) l0 l1 l2 l3 l4 l5 l6 l7 l8 l9 u9 u10 u36 u37 u38 u39 u40 u41 u42 x) ?_ ?_ ?_
        rotate_left 2
        · exact ⟨false, false, false, false, false, false, false, false, false, false, (undef), (undef), (undef), (undef), (undef), (undef), (undef), (undef), (undef), rfl, rfl, ⟨(Below.refl _ _).drew, fun q => (by cases q), RegE.start, fun q => (by cases q), fun q => (by cases q)⟩⟩
        · rintro L act x i ⟨l0, l1, l2, l3, l4, l5, l6, l7, l8, l9, u9, u10, u36, u37, u38, u39, u40, u41, u42, rfl, rfl, h⟩ hi K hK
          have hi15 : i < 10 := by
            obtain ⟨_, o, ho, _⟩ := mem_ready.1 hi
            exact (Array.getElem?_eq_some_iff.1 ho).1
          have hl := (mem_ready.1 hi).1
          obtain rfl | rfl | rfl | rfl | rfl | rfl | rfl | rfl | rfl | rfl := (by omega : i = 0 ∨ i = 1 ∨ i = 2 ∨ i = 3 ∨ i = 4 ∨ i = 5 ∨ i = 6 ∨ i = 7 ∨ i = 8 ∨ i = 9)
          · have e : l0 = false := hl
            subst e
            have kx := K5.out.below h.bel
            have c0 := kx.c 0 _ rfl
            have c1 := kx.c 1 _ rfl
            have c2 := kx.c 2 _ rfl
            refine wpOp_run (v := .agg #[.slice (some ⟨g5, 0, none⟩) D.acc.length D.acc.length, .slice (some ⟨h5, 0, none⟩) D.hold.length D.hold.length, .slice (some ⟨k5, 0, none⟩) D.seen.length D.seen.length]) (w' := x) (by rfl) (by rfl) ?_ (hK _ _ ⟨true, l1, l2, l3, l4, l5, l6, l7, l8, l9, u9, u10, u36, (.agg #[.slice (some ⟨g5, 0, none⟩) D.acc.length D.acc.length, .slice (some ⟨h5, 0, none⟩) D.hold.length D.hold.length, .slice (some ⟨k5, 0, none⟩) D.seen.length D.seen.length]), u38, u39, u40, u41, u42, rfl, rfl, { h with p37 := fun _ => rfl }⟩)
            go_simp
          · have e : l1 = false := hl
            subst e
            have kx := KO6.out.below h.bel
            have c0 := kx.c 0 _ rfl
            have c1 := kx.c 1 _ rfl
            have c2 := kx.c 2 _ rfl
            have c3 := kx.c 3 _ rfl
            have c4 := kx.c 4 _ rfl
            have c5 := kx.c 5 _ rfl
            refine wpOp_run (v := .agg #[.int .i64 o.id, .int .i64 o.kind, .string o.fr, .string o.to, .int .i64 o.am, .int .i64 o.ref]) (w' := x) (by rfl) (by rfl) ?_ (hK _ _ ⟨l0, true, l2, l3, l4, l5, l6, l7, l8, l9, u9, u10, u36, u37, (.agg #[.int .i64 o.id, .int .i64 o.kind, .string o.fr, .string o.to, .int .i64 o.am, .int .i64 o.ref]), u39, u40, u41, u42, rfl, rfl, { h with p38 := fun _ => rfl }⟩)
            go_simp
          · have e : l2 = false := hl
            subst e
            have d1 : l1 = true := ready_on hi 1 (by kernel_rfl)
            subst d1
            refine wpOp_call (by rfl) (by rfl) ?_ (toCommand_bel o x) ?_
            · rw [h.p38 rfl]; go_simp
            · rintro e w' ⟨rfl, hb⟩
              exact ⟨_, rfl, hK _ _ ⟨l0, true, true, l3, l4, l5, l6, l7, l8, l9, u9, u10, u36, u37, u38, (.agg #[.int .i64 o.id, .int .i64 o.kind, .string o.fr, .string o.to, .int .i64 o.am, .int .i64 o.ref]), u40, u41, u42, rfl, rfl, h.st2 hb⟩⟩
          · have e : l3 = false := hl
            subst e
            have d0 : l0 = true := ready_on hi 0 (by kernel_rfl)
            subst d0
            have d2 : l2 = true := ready_on hi 2 (by kernel_rfl)
            subst d2
            refine wpOp_call (by rfl) (by rfl) ?_ (HIM5.out x h.bel) ?_
            · rw [h.p37 rfl, h.p39 rfl]; go_simp
            · rintro e w' ⟨hb, v1, v2, v3, rfl, hr⟩
              exact ⟨_, rfl, hK _ _ ⟨true, l1, true, true, l4, l5, l6, l7, l8, l9, u9, u10, u36, u37, u38, u39, (.tuple #[.agg #[v1, v2, v3], .int .i64 cv]), u41, u42, rfl, rfl, h.st3 hb hr⟩⟩
          · have e : l4 = false := hl
            subst e
            have d3 : l3 = true := ready_on hi 3 (by kernel_rfl)
            subst d3
            refine wpOp_run (v := u40) (w' := x) (by rfl) (by rfl) ?_ (hK _ _ ⟨l0, l1, l2, true, true, l5, l6, l7, l8, l9, u9, u10, (u40), u37, u38, u39, u40, u41, u42, rfl, rfl, { h with q := h.q.mv5 }⟩)
            go_simp
          · have e : l5 = false := hl
            subst e
            have d4 : l4 = true := ready_on hi 4 (by kernel_rfl)
            subst d4
            obtain ⟨b, lo, hi, v1, v2, v3, Q⟩ := h.q
            refine wpOp_run (v := .agg #[v1, v2, v3]) (w' := x) (by rfl) (by rfl) ?_ (hK _ _ ⟨l0, l1, l2, l3, true, true, l6, l7, l8, l9, u9, u10, u36, u37, u38, u39, u40, (.agg #[v1, v2, v3]), u42, rfl, rfl, { h with q := ⟨b, lo, hi, v1, v2, v3, Q.ex6⟩ }⟩)
            rw [(Q.m5 rfl).2]
            go_simp
          · have e : l6 = false := hl
            subst e
            have d4 : l4 = true := ready_on hi 4 (by kernel_rfl)
            subst d4
            obtain ⟨b, lo, hi, v1, v2, v3, Q⟩ := h.q
            refine wpOp_run (v := .int .i64 cv) (w' := x) (by rfl) (by rfl) ?_ (hK _ _ ⟨l0, l1, l2, l3, true, l5, true, l7, l8, l9, u9, u10, u36, u37, u38, u39, u40, u41, (.int .i64 cv), rfl, rfl, { h with q := ⟨b, lo, hi, v1, v2, v3, Q.ex7⟩ }⟩)
            rw [(Q.m5 rfl).2]
            go_simp
          · have e : l7 = false := hl
            subst e
            refine wpOp_run (v := .pointer (some ⟨x.heap.size, 0, none⟩)) (w' := x.alloc (.cells #[.slice none 0 0, .slice none 0 0, .slice none 0 0] 35)) (by rfl) (by rfl) ?_ (hK _ _ ⟨l0, l1, l2, l3, l4, l5, l6, true, l8, l9, (.pointer (some ⟨x.heap.size, 0, none⟩)), u10, u36, u37, u38, u39, u40, u41, u42, rfl, rfl, h.st7⟩)
            go_simp
          · have e : l8 = false := hl
            subst e
            have d0 : l0 = true := ready_on hi 0 (by kernel_rfl)
            subst d0
            have d1 : l1 = true := ready_on hi 1 (by kernel_rfl)
            subst d1
            have d2 : l2 = true := ready_on hi 2 (by kernel_rfl)
            subst d2
            have d3 : l3 = true := ready_on hi 3 (by kernel_rfl)
            subst d3
            have d4 : l4 = true := ready_on hi 4 (by kernel_rfl)
            subst d4
            have d5 : l5 = true := ready_on hi 5 (by kernel_rfl)
            subst d5
            have d7 : l7 = true := ready_on hi 7 (by kernel_rfl)
            subst d7
            obtain ⟨b, lo, hi, v1, v2, v3, Q⟩ := h.q
            obtain ⟨a1, c1, a2, c2, a3, c3, rfl, rfl, rfl⟩ := (Q.dn rfl).2.2.open
            have R := Q.az rfl rfl
            have r0 := R.c 0 _ rfl
            have r1 := R.c 1 _ rfl
            have r2 := R.c 2 _ rfl
            have f0 := R.f 0
            have f1 := R.f 1
            have f2 := R.f 2
            refine wpOp_skip (w' := (((x.setCell ⟨b, 0, none⟩ (.slice a1 Y.acc.length c1)).setCell ⟨b, 1, none⟩ (.slice a2 Y.hold.length c2)).setCell ⟨b, 2, none⟩ (.slice a3 Y.seen.length c3))) (by rfl) (by rfl) ?_ (hK _ _ ⟨true, true, true, true, true, true, l6, true, true, l9, u9, u10, u36, u37, u38, u39, u40, u41, u42, rfl, rfl, h.st8 Q⟩)
            rw [(Q.al rfl).1, (Q.e6 rfl).2]
            go_simp
          · have e : l9 = false := hl
            subst e
            have d0 : l0 = true := ready_on hi 0 (by kernel_rfl)
            subst d0
            have d1 : l1 = true := ready_on hi 1 (by kernel_rfl)
            subst d1
            have d2 : l2 = true := ready_on hi 2 (by kernel_rfl)
            subst d2
            have d3 : l3 = true := ready_on hi 3 (by kernel_rfl)
            subst d3
            have d4 : l4 = true := ready_on hi 4 (by kernel_rfl)
            subst d4
            have d5 : l5 = true := ready_on hi 5 (by kernel_rfl)
            subst d5
            have d6 : l6 = true := ready_on hi 6 (by kernel_rfl)
            subst d6
            have d7 : l7 = true := ready_on hi 7 (by kernel_rfl)
            subst d7
            have d8 : l8 = true := ready_on hi 8 (by kernel_rfl)
            subst d8
            obtain ⟨b, lo, hi, v1, v2, v3, Q⟩ := h.q
            refine wpOp_run (v := .int .i64 cv) (w' := x) (by rfl) (by rfl) ?_ (hK _ _ ⟨true, true, true, true, true, true, true, true, true, true, u9, (.int .i64 cv), u36, u37, u38, u39, u40, u41, u42, rfl, rfl, { h with q := ⟨b, lo, hi, v1, v2, v3, Q.as10⟩ }⟩)
            rw [(Q.e7 rfl).2]
            go_simp
        · rintro L act x ⟨l0, l1, l2, l3, l4, l5, l6, l7, l8, l9, u9, u10, u36, u37, u38, u39, u40, u41, u42, rfl, rfl, h⟩ hr
          have hall := ready_all hr rfl (by decide)
          have t0 : l0 = true := hall 0 (by decide)
          have t1 : l1 = true := hall 1 (by decide)
          have t2 : l2 = true := hall 2 (by decide)
          have t3 : l3 = true := hall 3 (by decide)
          have t4 : l4 = true := hall 4 (by decide)
          have t5 : l5 = true := hall 5 (by decide)
          have t6 : l6 = true := hall 6 (by decide)
          have t7 : l7 = true := hall 7 (by decide)
          have t8 : l8 = true := hall 8 (by decide)
          have t9 : l9 = true := hall 9 (by decide)
          subst t0 t1 t2 t3 t4 t5 t6 t7 t8 t9
          clear hall hr
          obtain ⟨b6, lo6, hi6, b1, b2, b3, bc1, bc2, bc3, bg1, bg2, bg3, rfl, rfl, hW6, hl6, hh6, hd6, hk6, hr6⟩ := h.q.fin
          have HX8 : Hid _ := hide (below_trans HX6.out h.bel)
          have KX8 : Hid _ := hide (KX6.out.below h.bel)
          have KO8 : Hid _ := hide (KO6.out.below h.bel)
          have R48 : Hid _ := hide (R46.out.below h.bel)
          have K48 : Hid _ := hide (K46.out.below h.bel)
          have R58 : Hid _ := hide (R5.out.below h.bel)
          have K58 : Hid _ := hide (K5.out.below h.bel)
          have R6 : Hid _ := hide hr6
          have K6 : Hid _ := hide hk6
          have N7 : Hid (w6.heap.size ≤ b6 ∧ w6.heap.size ≤ lo6 ∧ (b6 < lo6 ∨ hi6 ≤ b6)) := hide ⟨hW6, hl6, hd6⟩
          clear h hW6 hl6 hh6 hd6 hk6 hr6 HX6 KX6 KO6 R46 K46 D5 R5 K5 HIM5
          have s0 := K48.out.c 0 _ rfl
          have s1 := K48.out.c 1 _ rfl
          have s2 := K48.out.c 2 _ rfl
          have p0 := K6.out.c 0 _ rfl
          have p1 := K6.out.c 1 _ rfl
          have p2 := K6.out.c 2 _ rfl
          have hcc : (cv != cv) = false := by simp
          refine hK1 _ _ ?_
          go_wp2_with fail
          refine (eqLedger_row _ _ _ _ _ _ Y _ _ _ _ _ _ _ R6.out.r3 R48.out.r3 HML.out.1 HML.out.2.1 HML.out.2.2).mono ?_
          rintro e w9 ⟨rfl, hb9⟩
          have HX9 : Hid _ := hide (below_trans HX8.out hb9)
          have KX9 : Hid _ := hide (KX8.out.below hb9)
          have KO9 : Hid _ := hide (KO8.out.below hb9)
          have R49 : Hid _ := hide (R48.out.below hb9)
          have K49 : Hid _ := hide (K48.out.below hb9)
          have R59 : Hid _ := hide (R58.out.below hb9)
          have K59 : Hid _ := hide (K58.out.below hb9)
          have R69 : Hid _ := hide (R6.out.below hb9)
          have K69 : Hid _ := hide (K6.out.below hb9)
          clear hb9 HX8 KX8 KO8 R48 K48 R58 K58 R6 K6 s0 s1 s2 p0 p1 p2
          go_wp2_with fail
          go_region_held3 (fun x => x.cell? ⟨w5.heap.size, 0, none⟩ = some (.slice (some ⟨g5, 0, none⟩) D.acc.length D.acc.length) ∧ x.cell? ⟨w5.heap.size, 1, none⟩ = some (.slice (some ⟨h5, 0, none⟩) D.hold.length D.hold.length) ∧ x.cell? ⟨w5.heap.size, 2, none⟩ = some (.slice (some ⟨k5, 0, none⟩) D.seen.length D.seen.length) ∧ x.cell? ⟨w.heap.size, 0, none⟩ = some (.slice la D.acc.length lc) ∧ x.cell? ⟨w.heap.size, 1, none⟩ = some (.slice sa D.hold.length sc) ∧ x.cell? ⟨w.heap.size, 2, none⟩ = some (.slice oa D.seen.length oc) ∧ Hid (Below w9.heap.size w9 x))
            (first | with_reducible exact S6d.of K59.out KX9.out (Below.refl _ _).drew | with_reducible exact S6d.on (by assumption) (by assumption) | with_reducible assumption)
            (first
              | (go_at_call 7; refine (toLedger_own la sa oa D lc sc oc _ (HL.out.below (below_trans HX9.out (S6d.old (by assumption : S6d w5.heap.size w.heap.size (.slice (some ⟨g5, 0, none⟩) D.acc.length D.acc.length) (.slice (some ⟨h5, 0, none⟩) D.hold.length D.hold.length) (.slice (some ⟨k5, 0, none⟩) D.seen.length D.seen.length) (.slice la D.acc.length lc) (.slice sa D.hold.length sc) (.slice oa D.seen.length oc) w9 _)))) HM.out.1 HM.out.2.1 HM.out.2.2).mono ?_; rintro e wt ⟨hbt, gt, ht, kt, rfl, hdt⟩)
              | (go_at_call 10; refine (eqLedger_row _ _ _ _ _ _ D _ _ _ _ _ _ _ (R59.out.r3.below (S6d.old (by assumption : S6d w5.heap.size w.heap.size (.slice (some ⟨g5, 0, none⟩) D.acc.length D.acc.length) (.slice (some ⟨h5, 0, none⟩) D.hold.length D.hold.length) (.slice (some ⟨k5, 0, none⟩) D.seen.length D.seen.length) (.slice la D.acc.length lc) (.slice sa D.hold.length sc) (.slice oa D.seen.length oc) w9 _))) hdt.r3 HM.out.1 HM.out.2.1 HM.out.2.2).mono ?_; rintro e w10 ⟨rfl, hb10⟩))
          have hB : Below w9.heap.size w9 w10 := S6d.old (by assumption : S6d w5.heap.size w.heap.size (.slice (some ⟨g5, 0, none⟩) D.acc.length D.acc.length) (.slice (some ⟨h5, 0, none⟩) D.hold.length D.hold.length) (.slice (some ⟨k5, 0, none⟩) D.seen.length D.seen.length) (.slice la D.acc.length lc) (.slice sa D.hold.length sc) (.slice oa D.seen.length oc) w9 w10)
          have HX10 : Hid _ := hide (below_trans HX9.out hB)
          have KX10 : Hid _ := hide (KX9.out.below hB)
          have KO10 : Hid _ := hide (KO9.out.below hB)
          have R410 : Hid _ := hide (R49.out.below hB)
          have K410 : Hid _ := hide (K49.out.below hB)
          have R510 : Hid _ := hide (R59.out.below hB)
          have K510 : Hid _ := hide (K59.out.below hB)
          have R610 : Hid _ := hide (R69.out.below hB)
          have K610 : Hid _ := hide (K69.out.below hB)
          clear hB hbt hdt hb10 HX9 KX9 KO9 R49 K49 R59 K59 R69 K69
          have f0 := K510.out.c 0 _ rfl
          have f1 := K510.out.c 1 _ rfl
          have f2 := K510.out.c 2 _ rfl
          go_wp2_with fail
          refine (markLedger_any _ _ 1 _ _ _ _ _ _ _ _ _ D.acc D.hold D.seen _ HM.out.1 HM.out.2.1 HM.out.2.2 (by omega) (by omega) R510.out).mono ?_
          rintro e w11 ⟨rfl, hc11, _⟩
          have HX11 : Hid (Below w.heap.size w w11) := hide (HX10.out.trans (hc11.low (by have := N4.out; omega) HX10.out.size))
          have KX11 : Hid _ := hide (hc11.blk KX10.out (.inl (by have := N4.out; omega)))
          have KO11 : Hid _ := hide (hc11.blk KO10.out (.inl (by have := N4.out; omega)))
          have R411 : Hid _ := hide (hc11.keep R410.out (.inl (by have := N4.out; omega)))
          have K411 : Hid _ := hide (hc11.blk K410.out (.inl (by have := N4.out; omega)))
          have R611 : Hid _ := hide (hc11.keep R610.out (.inr (by have := N5.out; have := N7.out; omega)))
          have K611 : Hid _ := hide (hc11.blk K610.out (.inr (by have := N5.out; have := N7.out; omega)))
          have HQ : Hid (0 ≤ 1 + 4 * D.acc.length + 4 * D.hold.length + 2 * D.seen.length ∧ 1 + 4 * D.acc.length + 4 * D.hold.length + 2 * D.seen.length ≤ 20000000) := hide (by have := HM.out; omega)
          clear hc11 HX10 KX10 KO10 R410 K410 R510 K510 R610 K610 f0 f1 f2
          generalize 1 + 4 * D.acc.length + 4 * D.hold.length + 2 * D.seen.length = m1 at *
          have j1 : ¬ ((m1 : Int) < 0) := by omega
          have s0 := K411.out.c 0 _ rfl
          have s1 := K411.out.c 1 _ rfl
          have s2 := K411.out.c 2 _ rfl
          have p0 := K611.out.c 0 _ rfl
          have p1 := K611.out.c 1 _ rfl
          have p2 := K611.out.c 2 _ rfl
          go_wp2_with fail
          refine (eqLedger_row _ _ _ _ _ _ Y _ _ _ _ _ _ _ R611.out.r3 R411.out.r3 HML.out.1 HML.out.2.1 HML.out.2.2).mono ?_
          rintro e w12 ⟨rfl, hb12⟩
          have HX12 : Hid _ := hide (below_trans HX11.out hb12)
          have KX12 : Hid _ := hide (KX11.out.below hb12)
          have KO12 : Hid _ := hide (KO11.out.below hb12)
          have R412 : Hid _ := hide (R411.out.below hb12)
          have K412 : Hid _ := hide (K411.out.below hb12)
          have R612 : Hid _ := hide (R611.out.below hb12)
          have K612 : Hid _ := hide (K611.out.below hb12)
          clear hb12 HX11 KX11 KO11 R411 K411 R611 K611 s0 s1 s2 p0 p1 p2
          have p0 := K612.out.c 0 _ rfl
          have p1 := K612.out.c 1 _ rfl
          have p2 := K612.out.c 2 _ rfl
          go_wp2_with fail
          refine (markLedger_any _ _ 1 _ _ _ _ _ _ _ _ _ Y.acc Y.hold Y.seen _ HML.out.1 HML.out.2.1 HML.out.2.2 (by omega) (by omega) R612.out).mono ?_
          rintro e w13 ⟨rfl, hc13, hr13⟩
          have HX13 : Hid (Below w.heap.size w w13) := hide (HX12.out.trans (hc13.low (by have := N4.out; have := N5.out; have := N7.out; omega) HX12.out.size))
          have KX13 : Hid _ := hide (hc13.blk KX12.out (.inl (by have := N4.out; have := N5.out; have := N7.out; omega)))
          have KO13 : Hid _ := hide (hc13.blk KO12.out (.inl (by have := N4.out; have := N5.out; have := N7.out; omega)))
          have R413 : Hid _ := hide (hc13.keep R412.out (.inl (by have := N4.out; have := N5.out; have := N7.out; omega)))
          have K413 : Hid _ := hide (hc13.blk K412.out (.inl (by have := N4.out; have := N5.out; have := N7.out; omega)))
          have K613 : Hid _ := hide (hc13.blk K612.out N7.out.2.2)
          have R613 : Hid (Row3 w13 b1 b2 b3 (markD Y)) := hide ⟨hr13.o1.rows, hr13.o2.rows, hr13.o3.rows⟩
          have HQ2 : Hid (1 + 4 * Y.acc.length + 4 * Y.hold.length + 2 * Y.seen.length ≤ 20000000) := hide (by have := HML.out; omega)
          clear hc13 hr13 HX12 KX12 KO12 R412 K412 R612 K612 p0 p1 p2
          have HH : Hid (∀ x : World, Row3 x b1 b2 b3 (markD Y) → Calls Tryz.prog 12 #[.agg #[.slice b1 Y.acc.length bc1, .slice b2 Y.hold.length bc2, .slice b3 Y.seen.length bc3], .int .i64 1] x fun e w' => HeldEnd (1 + 4 * Y.acc.length + 4 * Y.hold.length + 2 * Y.seen.length) x e w') := hide (fun x hx => heldLedger_any 1 b1 b2 b3 bc1 bc2 bc3 Y.acc.length Y.hold.length Y.seen.length x HML.out.1 HML.out.2.1 HML.out.2.2 (by omega) (by omega) ⟨hx.acc, hx.hold, hx.seen⟩)
          generalize 1 + 4 * Y.acc.length + 4 * Y.hold.length + 2 * Y.seen.length = m2 at *
          have j2 : ¬ ((m2 : Int) < 0) := by omega
          have j3 : ((m2 : Int) != (m2 : Int)) = false := by simp
          have p0 := K613.out.c 0 _ rfl
          have p1 := K613.out.c 1 _ rfl
          have p2 := K613.out.c 2 _ rfl
          go_wp2_with fail
          refine (HH.out w13 R613.out).mono ?_
          rintro e w14 ⟨rfl, hb14⟩
          have HX14 : Hid _ := hide (below_trans HX13.out hb14)
          have KX14 : Hid _ := hide (KX13.out.below hb14)
          have KO14 : Hid _ := hide (KO13.out.below hb14)
          have R414 : Hid _ := hide (R413.out.below hb14)
          have K414 : Hid _ := hide (K413.out.below hb14)
          have R614 : Hid _ := hide (R613.out.below hb14)
          have K614 : Hid _ := hide (K613.out.below hb14)
          clear hb14 HX13 KX13 KO13 R413 K413 R613 K613 p0 p1 p2
          go_wp2_with fail
          rename_i hK2
          refine wp_region_inv (by kernel_rfl) (fun L act x => ∃ l0 l1 l2 l3 l4 l5 l6 l7 l8 l9 l10 : Bool, ∃ u14 u15 u84 u85 u86 u87 u88 u89 u90 u91 : Value, L = #[l0, l1, l2, l3, l4, l5, l6, l7, l8, l9, l10] ∧ act = { tmps := #[Value.agg #[Value.slice la D.acc.length lc, Value.slice sa D.hold.length sc, Value.slice oa D.seen.length oc], Value.agg #[Value.int IntKind.i64 o.id, Value.int IntKind.i64 o.kind, Value.string o.fr, Value.string o.to, Value.int IntKind.i64 o.am, Value.int IntKind.i64 o.ref], Value.pointer (some { block := w.heap.size, off := 0 }), Value.pointer (some { block := w.heap.size + 1, off := 0 }), Value.bool false, Value.int IntKind.i64 r2, Value.pointer (some { block := b4, off := 0 }), Value.int IntKind.i64 cv, Value.pointer (some { block := w5.heap.size, off := 0 }), Value.pointer (some { block := b6, off := 0 }), Value.int IntKind.i64 cv, Value.int IntKind.i64 ↑m1, Value.int IntKind.i64 ↑m2, Value.int IntKind.i64 ↑m2, u14, u15, Value.agg #[Value.slice la D.acc.length lc, Value.slice sa D.hold.length sc, Value.slice oa D.seen.length oc], Value.int IntKind.i64 1048576, Value.int IntKind.i64 r, Value.int IntKind.i64 r, Value.bool (decide (r < 0)), Value.agg #[Value.int IntKind.i64 o.id, Value.int IntKind.i64 o.kind, Value.string o.fr, Value.string o.to, Value.int IntKind.i64 o.am, Value.int IntKind.i64 o.ref], Value.int IntKind.i64 r, Value.int IntKind.i64 r2, Value.int IntKind.i64 r2, Value.bool (decide (r2 < 0)), u26, u27, u28, u29, u30, u31, u32, u33, Value.agg #[Value.slice la D.acc.length lc, Value.slice sa D.hold.length sc, Value.slice oa D.seen.length oc], Value.agg #[Value.slice (some { block := g5, off := 0 }) D.acc.length D.acc.length, Value.slice (some { block := h5, off := 0 }) D.hold.length D.hold.length, Value.slice (some { block := k5, off := 0 }) D.seen.length D.seen.length], u36, u37, u38, u39, u40, u41, u42, Value.agg #[Value.slice b1 Y.acc.length bc1, Value.slice b2 Y.hold.length bc2, Value.slice b3 Y.seen.length bc3], Value.agg #[Value.slice a1 Y.acc.length ac1, Value.slice a2 Y.hold.length ac2, Value.slice a3 Y.seen.length ac3], Value.bool true, Value.bool false, Value.bool false, Value.int IntKind.i64 cv, Value.int IntKind.i64 cv, Value.bool false, Value.bool false, Value.agg #[Value.slice (some { block := g5, off := 0 }) D.acc.length D.acc.length, Value.slice (some { block := h5, off := 0 }) D.hold.length D.hold.length, Value.slice (some { block := k5, off := 0 }) D.seen.length D.seen.length], Value.agg #[Value.slice la D.acc.length lc, Value.slice sa D.hold.length sc, Value.slice oa D.seen.length oc], Value.agg #[Value.slice (some { block := gt, off := 0 }) D.acc.length D.acc.length, Value.slice (some { block := ht, off := 0 }) D.hold.length D.hold.length, Value.slice (some { block := kt, off := 0 }) D.seen.length D.seen.length], Value.bool true, Value.bool false, Value.agg #[Value.slice (some { block := g5, off := 0 }) D.acc.length D.acc.length, Value.slice (some { block := h5, off := 0 }) D.hold.length D.hold.length, Value.slice (some { block := k5, off := 0 }) D.seen.length D.seen.length], Value.int IntKind.i64 1, Value.int IntKind.i64 ↑m1, Value.int IntKind.i64 ↑m1, Value.bool (decide (↑m1 < 0)), Value.bool (decide (↑m1 < 0)), Value.agg #[Value.slice b1 Y.acc.length bc1, Value.slice b2 Y.hold.length bc2, Value.slice b3 Y.seen.length bc3], Value.agg #[Value.slice a1 Y.acc.length ac1, Value.slice a2 Y.hold.length ac2, Value.slice a3 Y.seen.length ac3], Value.bool true, Value.bool false, Value.bool (decide (↑m1 < 0)), Value.bool (decide (↑m1 < 0)), Value.int IntKind.i64 cv, Value.int IntKind.i64 cv, Value.bool false, Value.bool (decide (↑m1 < 0)), Value.agg #[Value.slice b1 Y.acc.length bc1, Value.slice b2 Y.hold.length bc2, Value.slice b3 Y.seen.length bc3], Value.int IntKind.i64 1, Value.int IntKind.i64 ↑m2, Value.agg #[Value.slice b1 Y.acc.length bc1, Value.slice b2 Y.hold.length bc2, Value.slice b3 Y.seen.length bc3], Value.int IntKind.i64 1, Value.int IntKind.i64 ↑m2, Value.int IntKind.i64 ↑m2, Value.bool (decide (↑m2 < 0)), Value.int IntKind.i64 ↑m2, Value.int IntKind.i64 ↑m2, Value.bool false, u84, u85, u86, u87, u88, u89, u90, u91, undef, undef, undef, undef, undef, undef, undef, undef, undef, undef, undef, undef, undef, undef, undef, undef, undef], defers := [] } ∧ ApF27 (.agg #[.slice la D.acc.length lc, .slice sa D.hold.length sc, .slice oa D.seen.length oc]) (.agg #[.int .i64 o.id, .int .i64 o.kind, .string o.fr, .string o.to, .int .i64 o.am, .int .i64 o.ref]) w14 D Y (.int .i64 cv) l0 l1 l2 l3 l4 l5 l6 l7 l8 l9 l10 u14 u15 u84 u85 u86 u87 u88 u89 u90 u91 x) ?_ ?_ ?_
          rotate_left 2
          · exact ⟨false, false, false, false, false, false, false, false, false, false, false, (undef), (undef), (undef), (undef), (undef), (undef), (undef), (undef), (undef), (undef), rfl, rfl, ⟨(Below.refl _ _).drew, fun q => (by cases q), fun q => (by cases q), RegE.start, fun q => (by cases q), fun q => (by cases q)⟩⟩
          · rintro L act x i ⟨l0, l1, l2, l3, l4, l5, l6, l7, l8, l9, l10, u14, u15, u84, u85, u86, u87, u88, u89, u90, u91, rfl, rfl, h⟩ hi K hK
            have hi15 : i < 11 := by
              obtain ⟨_, o, ho, _⟩ := mem_ready.1 hi
              exact (Array.getElem?_eq_some_iff.1 ho).1
            have hl := (mem_ready.1 hi).1
            obtain rfl | rfl | rfl | rfl | rfl | rfl | rfl | rfl | rfl | rfl | rfl := (by omega : i = 0 ∨ i = 1 ∨ i = 2 ∨ i = 3 ∨ i = 4 ∨ i = 5 ∨ i = 6 ∨ i = 7 ∨ i = 8 ∨ i = 9 ∨ i = 10)
            · have e : l0 = false := hl
              subst e
              have kx := KX14.out.below h.bel
              have c0 := kx.c 0 _ rfl
              have c1 := kx.c 1 _ rfl
              have c2 := kx.c 2 _ rfl
              refine wpOp_run (v := .agg #[.slice la D.acc.length lc, .slice sa D.hold.length sc, .slice oa D.seen.length oc]) (w' := x) (by rfl) (by rfl) ?_ (hK _ _ ⟨true, l1, l2, l3, l4, l5, l6, l7, l8, l9, l10, u14, u15, u84, (.agg #[.slice la D.acc.length lc, .slice sa D.hold.length sc, .slice oa D.seen.length oc]), u86, u87, u88, u89, u90, u91, rfl, rfl, { h with p85 := fun _ => rfl }⟩)
              go_simp
            · have e : l1 = false := hl
              subst e
              have d0 : l0 = true := ready_on hi 0 (by kernel_rfl)
              subst d0
              refine wpOp_call (by rfl) (by rfl) ?_ (toLedger_own la sa oa D lc sc oc x (HL.out.below (below_trans HX14.out h.bel)) HM.out.1 HM.out.2.1 HM.out.2.2) ?_
              · rw [h.p85 rfl]; go_simp
              · rintro e w' ⟨hb, g, hh, k, rfl, hd⟩
                exact ⟨_, rfl, hK _ _ ⟨true, true, l2, l3, l4, l5, l6, l7, l8, l9, l10, u14, u15, u84, u85, (.agg #[.slice (some ⟨g, 0, none⟩) D.acc.length D.acc.length, .slice (some ⟨hh, 0, none⟩) D.hold.length D.hold.length, .slice (some ⟨k, 0, none⟩) D.seen.length D.seen.length]), u87, u88, u89, u90, u91, rfl, rfl, h.st1 hb ⟨g, hh, k, rfl, hd.led HLW.out⟩⟩⟩
            · have e : l2 = false := hl
              subst e
              have kx := KO14.out.below h.bel
              have c0 := kx.c 0 _ rfl
              have c1 := kx.c 1 _ rfl
              have c2 := kx.c 2 _ rfl
              have c3 := kx.c 3 _ rfl
              have c4 := kx.c 4 _ rfl
              have c5 := kx.c 5 _ rfl
              refine wpOp_run (v := .agg #[.int .i64 o.id, .int .i64 o.kind, .string o.fr, .string o.to, .int .i64 o.am, .int .i64 o.ref]) (w' := x) (by rfl) (by rfl) ?_ (hK _ _ ⟨l0, l1, true, l3, l4, l5, l6, l7, l8, l9, l10, u14, u15, u84, u85, u86, (.agg #[.int .i64 o.id, .int .i64 o.kind, .string o.fr, .string o.to, .int .i64 o.am, .int .i64 o.ref]), u88, u89, u90, u91, rfl, rfl, { h with p87 := fun _ => rfl }⟩)
              go_simp
            · have e : l3 = false := hl
              subst e
              have d1 : l1 = true := ready_on hi 1 (by kernel_rfl)
              subst d1
              have d2 : l2 = true := ready_on hi 2 (by kernel_rfl)
              subst d2
              refine wpOp_call (by rfl) (by rfl) ?_ (toCommand_bel o x) ?_
              · rw [h.p87 rfl]; go_simp
              · rintro e w' ⟨rfl, hb⟩
                exact ⟨_, rfl, hK _ _ ⟨l0, true, true, true, l4, l5, l6, l7, l8, l9, l10, u14, u15, u84, u85, u86, u87, (.agg #[.int .i64 o.id, .int .i64 o.kind, .string o.fr, .string o.to, .int .i64 o.am, .int .i64 o.ref]), u89, u90, u91, rfl, rfl, h.st3 hb⟩⟩
            · have e : l4 = false := hl
              subst e
              have d1 : l1 = true := ready_on hi 1 (by kernel_rfl)
              subst d1
              have d3 : l3 = true := ready_on hi 3 (by kernel_rfl)
              subst d3
              obtain ⟨g, hh, k, eg, hd⟩ := h.dk rfl rfl
              refine wpOp_call (by rfl) (by rfl) ?_ (HIM.out g hh k x hd (HV.out.below (below_trans HX14.out h.bel))) ?_
              · rw [h.p88 rfl]; rw [eg]; go_simp
              · rintro e w' ⟨hb, v1, v2, v3, rfl, hr⟩
                exact ⟨_, rfl, hK _ _ ⟨l0, true, l2, true, true, l5, l6, l7, l8, l9, l10, u14, u15, u84, u85, u86, u87, u88, (.tuple #[.agg #[v1, v2, v3], .int .i64 cv]), u90, u91, rfl, rfl, h.st4 hb hr⟩⟩
            · have e : l5 = false := hl
              subst e
              have d4 : l4 = true := ready_on hi 4 (by kernel_rfl)
              subst d4
              refine wpOp_run (v := u89) (w' := x) (by rfl) (by rfl) ?_ (hK _ _ ⟨l0, l1, l2, l3, true, true, l6, l7, l8, l9, l10, u14, u15, (u89), u85, u86, u87, u88, u89, u90, u91, rfl, rfl, { h with q := h.q.mv5 }⟩)
              go_simp
            · have e : l6 = false := hl
              subst e
              have d5 : l5 = true := ready_on hi 5 (by kernel_rfl)
              subst d5
              obtain ⟨b, lo, hi, v1, v2, v3, Q⟩ := h.q
              refine wpOp_run (v := .agg #[v1, v2, v3]) (w' := x) (by rfl) (by rfl) ?_ (hK _ _ ⟨l0, l1, l2, l3, l4, true, true, l7, l8, l9, l10, u14, u15, u84, u85, u86, u87, u88, u89, (.agg #[v1, v2, v3]), u91, rfl, rfl, { h with q := ⟨b, lo, hi, v1, v2, v3, Q.ex6⟩ }⟩)
              rw [(Q.m5 rfl).2]
              go_simp
            · have e : l7 = false := hl
              subst e
              have d5 : l5 = true := ready_on hi 5 (by kernel_rfl)
              subst d5
              obtain ⟨b, lo, hi, v1, v2, v3, Q⟩ := h.q
              refine wpOp_run (v := .int .i64 cv) (w' := x) (by rfl) (by rfl) ?_ (hK _ _ ⟨l0, l1, l2, l3, l4, true, l6, true, l8, l9, l10, u14, u15, u84, u85, u86, u87, u88, u89, u90, (.int .i64 cv), rfl, rfl, { h with q := ⟨b, lo, hi, v1, v2, v3, Q.ex7⟩ }⟩)
              rw [(Q.m5 rfl).2]
              go_simp
            · have e : l8 = false := hl
              subst e
              refine wpOp_run (v := .pointer (some ⟨x.heap.size, 0, none⟩)) (w' := x.alloc (.cells #[.slice none 0 0, .slice none 0 0, .slice none 0 0] 35)) (by rfl) (by rfl) ?_ (hK _ _ ⟨l0, l1, l2, l3, l4, l5, l6, l7, true, l9, l10, (.pointer (some ⟨x.heap.size, 0, none⟩)), u15, u84, u85, u86, u87, u88, u89, u90, u91, rfl, rfl, h.st8⟩)
              go_simp
            · have e : l9 = false := hl
              subst e
              have d0 : l0 = true := ready_on hi 0 (by kernel_rfl)
              subst d0
              have d1 : l1 = true := ready_on hi 1 (by kernel_rfl)
              subst d1
              have d2 : l2 = true := ready_on hi 2 (by kernel_rfl)
              subst d2
              have d3 : l3 = true := ready_on hi 3 (by kernel_rfl)
              subst d3
              have d4 : l4 = true := ready_on hi 4 (by kernel_rfl)
              subst d4
              have d5 : l5 = true := ready_on hi 5 (by kernel_rfl)
              subst d5
              have d6 : l6 = true := ready_on hi 6 (by kernel_rfl)
              subst d6
              have d8 : l8 = true := ready_on hi 8 (by kernel_rfl)
              subst d8
              obtain ⟨b, lo, hi, v1, v2, v3, Q⟩ := h.q
              obtain ⟨a1, c1, a2, c2, a3, c3, rfl, rfl, rfl⟩ := (Q.dn rfl).2.2.open
              have R := Q.az rfl rfl
              have r0 := R.c 0 _ rfl
              have r1 := R.c 1 _ rfl
              have r2 := R.c 2 _ rfl
              have f0 := R.f 0
              have f1 := R.f 1
              have f2 := R.f 2
              refine wpOp_skip (w' := (((x.setCell ⟨b, 0, none⟩ (.slice a1 Y.acc.length c1)).setCell ⟨b, 1, none⟩ (.slice a2 Y.hold.length c2)).setCell ⟨b, 2, none⟩ (.slice a3 Y.seen.length c3))) (by rfl) (by rfl) ?_ (hK _ _ ⟨true, true, true, true, true, true, true, l7, true, true, l10, u14, u15, u84, u85, u86, u87, u88, u89, u90, u91, rfl, rfl, h.st9 Q⟩)
              rw [(Q.al rfl).1, (Q.e6 rfl).2]
              go_simp
            · have e : l10 = false := hl
              subst e
              have d0 : l0 = true := ready_on hi 0 (by kernel_rfl)
              subst d0
              have d1 : l1 = true := ready_on hi 1 (by kernel_rfl)
              subst d1
              have d2 : l2 = true := ready_on hi 2 (by kernel_rfl)
              subst d2
              have d3 : l3 = true := ready_on hi 3 (by kernel_rfl)
              subst d3
              have d4 : l4 = true := ready_on hi 4 (by kernel_rfl)
              subst d4
              have d5 : l5 = true := ready_on hi 5 (by kernel_rfl)
              subst d5
              have d6 : l6 = true := ready_on hi 6 (by kernel_rfl)
              subst d6
              have d7 : l7 = true := ready_on hi 7 (by kernel_rfl)
              subst d7
              have d8 : l8 = true := ready_on hi 8 (by kernel_rfl)
              subst d8
              have d9 : l9 = true := ready_on hi 9 (by kernel_rfl)
              subst d9
              obtain ⟨b, lo, hi, v1, v2, v3, Q⟩ := h.q
              refine wpOp_run (v := .int .i64 cv) (w' := x) (by rfl) (by rfl) ?_ (hK _ _ ⟨true, true, true, true, true, true, true, true, true, true, true, u14, (.int .i64 cv), u84, u85, u86, u87, u88, u89, u90, u91, rfl, rfl, { h with q := ⟨b, lo, hi, v1, v2, v3, Q.as10⟩ }⟩)
              rw [(Q.e7 rfl).2]
              go_simp
          · rintro L act x ⟨l0, l1, l2, l3, l4, l5, l6, l7, l8, l9, l10, u14, u15, u84, u85, u86, u87, u88, u89, u90, u91, rfl, rfl, h⟩ hr
            have hall := ready_all hr rfl (by decide)
            have t0 : l0 = true := hall 0 (by decide)
            have t1 : l1 = true := hall 1 (by decide)
            have t2 : l2 = true := hall 2 (by decide)
            have t3 : l3 = true := hall 3 (by decide)
            have t4 : l4 = true := hall 4 (by decide)
            have t5 : l5 = true := hall 5 (by decide)
            have t6 : l6 = true := hall 6 (by decide)
            have t7 : l7 = true := hall 7 (by decide)
            have t8 : l8 = true := hall 8 (by decide)
            have t9 : l9 = true := hall 9 (by decide)
            have t10 : l10 = true := hall 10 (by decide)
            subst t0 t1 t2 t3 t4 t5 t6 t7 t8 t9 t10
            clear hall hr
            obtain ⟨b9, lo9, hi9, d1, d2, d3, dc1, dc2, dc3, dg1, dg2, dg3, rfl, rfl, _, _, _, _, hk9, hr9⟩ := h.q.fin
            have HX17 : Hid _ := hide (below_trans HX14.out h.bel)
            have R417 : Hid _ := hide (R414.out.below h.bel)
            have K417 : Hid _ := hide (K414.out.below h.bel)
            have R617 : Hid _ := hide (R614.out.below h.bel)
            have K617 : Hid _ := hide (K614.out.below h.bel)
            have R10 : Hid _ := hide hr9
            have K10 : Hid _ := hide hk9
            clear h hk9 hr9 HX14 KX14 KO14 R414 K414 R614 K614
            have s0 := K417.out.c 0 _ rfl
            have s1 := K417.out.c 1 _ rfl
            have s2 := K417.out.c 2 _ rfl
            have t0 := K10.out.c 0 _ rfl
            have t1 := K10.out.c 1 _ rfl
            have t2 := K10.out.c 2 _ rfl
            refine hK2 _ _ ?_
            go_wp2_with fail
            refine (eqLedger_row _ _ _ _ _ _ Y _ _ _ _ _ _ _ R10.out.r3 R417.out.r3 HML.out.1 HML.out.2.1 HML.out.2.2).mono ?_
            rintro e w18 ⟨rfl, hb18⟩
            have HX18 : Hid _ := hide (below_trans HX17.out hb18)
            have R618 : Hid _ := hide (R617.out.below hb18)
            have K618 : Hid _ := hide (K617.out.below hb18)
            clear hb18 HX17 R417 K417 R617 K617 R10 K10 s0 s1 s2 t0 t1 t2
            have p0 := K618.out.c 0 _ rfl
            have p1 := K618.out.c 1 _ rfl
            have p2 := K618.out.c 2 _ rfl
            go_wp2_with fail
            refine (HH.out w18 R618.out).mono ?_
            rintro e w19 ⟨rfl, hb19⟩
            have HE : Hid (Below w.heap.size w w19) := hide (below_trans HX18.out hb19)
            clear hb19 p0 p1 p2
            go_wp2
            go_ret
            exact ⟨rfl, HE.out⟩
end Go.Proofs.YtoedefamcjnklaaGreatDoor
