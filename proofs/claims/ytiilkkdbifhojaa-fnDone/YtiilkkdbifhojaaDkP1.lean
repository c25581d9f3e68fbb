/- Rows of disks that share no block; the model's l8Copy. -/
import Derived.Test.YtiilkkdbifhojaaDkK3
namespace Go.Proofs.Ytiilkkdbifhojaa
open Go.ChangeShapes Go.WideShapes Go.ChangeAt Go.RowKit
set_option linter.unusedVariables false
set_option maxRecDepth 100000
/-- two rows that share no block -/
def Sep (v v' : Value) : Prop := ∀ g, v.ownBlock = some g → v'.ownBlock ≠ some g
theorem Sep.ne {v v' : Value} (h : Sep v v') : v.ownBlock = none ∨ v.ownBlock ≠ v'.ownBlock := by
  cases e : v.ownBlock with
  | none => exact .inl rfl
  | some g => exact .inr (fun q => h g e q.symm)
theorem Sep.en {v v' : Value} (h : Sep v v') : v'.ownBlock = none ∨ v'.ownBlock ≠ v.ownBlock := by
  cases e : v'.ownBlock with
  | none => exact .inl rfl
  | some g => exact .inr (fun q => h g q.symm e)
theorem Sep.symm {v v' : Value} (h : Sep v v') : Sep v' v := fun g hg q => h g q hg
theorem Sep.newl {x : World} {base : Nat} {T : TypeId} {sz n c : Nat} {v : Value} {xs : List Value} (h : x.ownsRow base T sz v n xs) : Sep (.slice (some ⟨x.heap.size, 0, none⟩) 0 c) v := fun g hg q => by
  have := (h.lt g q).2
  simp only [Value.ownBlock, Option.some.injEq] at hg
  omega
theorem Sep.newr {x : World} {base : Nat} {T : TypeId} {sz n c : Nat} {v : Value} {xs : List Value} (h : x.ownsRow base T sz v n xs) : Sep v (.slice (some ⟨x.heap.size, 0, none⟩) 0 c) := fun g hg q => by
  have := (h.lt g hg).2
  simp only [Value.ownBlock, Option.some.injEq] at q
  omega
theorem Sep.grow {x : World} {base : Nat} {T : TypeId} {sz n : Nat} {u v v' : Value} {xs : List Value} (h : Sep u v') (hl : v.ownBlock = u.ownBlock ∨ v.ownBlock = some x.heap.size) (hr : x.ownsRow base T sz v' n xs) : Sep v v' := fun g hg q => by
  rcases hl with e | e
  · exact h g (e ▸ hg) q
  · have := (hr.lt g q).2
    rw [e] at hg
    simp only [Option.some.injEq] at hg
    omega
theorem Sep.growr {x : World} {base : Nat} {T : TypeId} {sz n : Nat} {u v v' : Value} {xs : List Value} (h : Sep v u) (hl : v'.ownBlock = u.ownBlock ∨ v'.ownBlock = some x.heap.size) (hr : x.ownsRow base T sz v n xs) : Sep v v' := fun g hg q => by
  rcases hl with e | e
  · exact h g hg (e ▸ q)
  · have := (hr.lt g hg).2
    rw [e] at q
    simp only [Option.some.injEq] at q
    omega
/-- a row that was there, and a newer one -/
theorem Sep.old {x y : World} {base base' : Nat} {T T' : TypeId} {sz sz' n n' : Nat} {v v' : Value} {xs xs' : List Value} (h : x.ownsRow base T sz v n xs) (k : y.ownsRow base' T' sz' v' n' xs') (hb : x.heap.size ≤ base') : Sep v v' := fun g hg q => by
  have := (h.lt g hg).2
  have := (k.lt g q).1
  omega
theorem own_mono {w : World} {base base' : Nat} {T : TypeId} {sz n : Nat} {v : Value} {xs : List Value} (h : w.ownsRow base' T sz v n xs) (hb : base ≤ base') : w.ownsRow base T sz v n xs := by
  obtain ⟨hl, h0 | ⟨g, cap, cur, h1, hg, r⟩⟩ := h
  · exact ⟨hl, .inl h0⟩
  · exact ⟨hl, .inr ⟨g, cap, cur, h1, Nat.le_trans hb hg, r⟩⟩
/-- a disk's three rows, of the call's own, apart -/
structure RowsD (base : Nat) (L S : List Fl) (O : List Dp) (v1 v2 v3 : Value) (x : World) : Prop where
  r1 : x.ownsRow base 52 2 v1 L.length (L.flatMap flCells)
  r2 : x.ownsRow base 52 2 v2 S.length (S.flatMap flCells)
  r3 : x.ownsRow base 36 4 v3 O.length (O.flatMap dpCells)
  s12 : Sep v1 v2
  s13 : Sep v1 v3
  s23 : Sep v2 v3
theorem RowsD.below {base : Nat} {L S : List Fl} {O : List Dp} {v1 v2 v3 : Value} {x y : World} (h : RowsD base L S O v1 v2 v3 x) (b : Below x.heap.size x y) : RowsD base L S O v1 v2 v3 y :=
  ⟨own_keep h.r1 b, own_keep h.r2 b, own_keep h.r3 b, h.s12, h.s13, h.s23⟩
theorem RowsD.mono {base base' : Nat} {L S : List Fl} {O : List Dp} {v1 v2 v3 : Value} {x : World} (h : RowsD base' L S O v1 v2 v3 x) (b : base ≤ base') : RowsD base L S O v1 v2 v3 x :=
  ⟨own_mono h.r1 b, own_mono h.r2 b, own_mono h.r3 b, h.s12, h.s13, h.s23⟩
/-- a cell outside of the rows is written -/
theorem RowsD.set {base : Nat} {L S : List Fl} {O : List Dp} {v1 v2 v3 : Value} {x : World} (h : RowsD base L S O v1 v2 v3 x) {g o : Nat} {u : Value} (hg : g < base) : RowsD base L S O v1 v2 v3 (x.setCell ⟨g, o, none⟩ u) :=
  ⟨h.r1.kept (grown_set _ _ _ _) (.inr (fun q => by have := (h.r1.lt _ q).1; omega)), h.r2.kept (grown_set _ _ _ _) (.inr (fun q => by have := (h.r2.lt _ q).1; omega)), h.r3.kept (grown_set _ _ _ _) (.inr (fun q => by have := (h.r3.lt _ q).1; omega)), h.s12, h.s13, h.s23⟩
def DiskV (L S : List Fl) (O : List Dp) (w : World) (e : Ending) (w' : World) : Prop := Below w.heap.size w w' ∧ ∃ v1 v2 v3, e = .returned (.agg #[v1, v2, v3]) ∧ RowsD w.heap.size L S O v1 v2 v3 w'
/-- what holds in the midst of its region -/
structure CyF (s n1 n2 n3 : Nat) (wp : World) (v1 v2 v3 : Value) (xs1 xs2 xs3 : List Value) (l0 l1 l2 l3 l4 l5 l6 l7 l8 l9 l10 l11 l12 l13 : Bool) (u3 u4 u5 u6 u7 u8 u9 u10 u11 u12 u13 u14 u15 : Value) (x : World) : Prop where
  bel : Below (s + 1) wp x
  sz : s + 2 ≤ x.heap.size
  res : Blk (s + 1) [.slice none 0 0, .slice none 0 0, .slice none 0 0] x ∨ l13 = true
  a0 : l0 = true → l3 = false → x.ownsRow (s + 2) 52 2 u3 0 []
  a1 : l3 = true → x.ownsRow (s + 2) 52 2 u6 n1 xs1
  b0 : l4 = true → l7 = false → x.ownsRow (s + 2) 52 2 u7 0 []
  b1 : l7 = true → x.ownsRow (s + 2) 52 2 u10 n2 xs2
  c0 : l8 = true → l11 = false → x.ownsRow (s + 2) 36 4 u11 0 []
  c1 : l11 = true → x.ownsRow (s + 2) 36 4 u14 n3 xs3
  sab00 : l0 = true → l3 = false → l4 = true → l7 = false → Sep u3 u7
  sab10 : l3 = true → l4 = true → l7 = false → Sep u6 u7
  sab11 : l7 = true → Sep u6 u10
  sac00 : l0 = true → l3 = false → l8 = true → l11 = false → Sep u3 u11
  sac10 : l3 = true → l8 = true → l11 = false → Sep u6 u11
  sac11 : l11 = true → Sep u6 u14
  sbc00 : l4 = true → l7 = false → l8 = true → l11 = false → Sep u7 u11
  sbc10 : l7 = true → l8 = true → l11 = false → Sep u10 u11
  sbc11 : l11 = true → Sep u10 u14
  d7 : l7 = true → l3 = true
  d11 : l11 = true → l7 = true
  q15 : l12 = true → u15 = .agg #[u6, u10, u14]
  d12 : l12 = true → l11 = true
  d13 : l13 = true → l12 = true
  fin : l13 = true → Blk (s + 1) [u6, u10, u14] x
  p4 : l1 = true → u4 = .pointer (some ⟨s, 0, none⟩)
  p5 : l2 = true → u5 = v1
  p8 : l5 = true → u8 = .pointer (some ⟨s, 1, none⟩)
  p9 : l6 = true → u9 = v2
  p12 : l9 = true → u12 = .pointer (some ⟨s, 2, none⟩)
  p13 : l10 = true → u13 = v3
theorem CyF.st0 {s n1 n2 n3 : Nat} {wp : World} {v1 v2 v3 : Value} {xs1 xs2 xs3 : List Value} {l1 l2 l3 l4 l5 l6 l7 l8 l9 l10 l11 l12 l13 : Bool} {u3 u4 u5 u6 u7 u8 u9 u10 u11 u12 u13 u14 u15 : Value} {x : World} (h : CyF s n1 n2 n3 wp v1 v2 v3 xs1 xs2 xs3 false l1 l2 l3 l4 l5 l6 l7 l8 l9 l10 l11 l12 l13 u3 u4 u5 u6 u7 u8 u9 u10 u11 u12 u13 u14 u15 x) : CyF s n1 n2 n3 wp v1 v2 v3 xs1 xs2 xs3 true l1 l2 l3 l4 l5 l6 l7 l8 l9 l10 l11 l12 l13 (.slice (some ⟨x.heap.size, 0, none⟩) 0 0) u4 u5 u6 u7 u8 u9 u10 u11 u12 u13 u14 u15 (x.alloc (.cells #[] 52)) := by
  have hsz := h.sz
  have ba : Below x.heap.size x (x.alloc (.cells #[] 52)) := below_alloc (Below.refl _ _) _
  exact { h with
    bel := h.bel.alloc (by omega) _
    sz := Nat.le_trans hsz ba.size
    res := h.res.imp (fun r => r.below ba) id
    fin := fun q => (h.fin q).below ba
    a0 := fun _ _ => World.ownsRow_made x #[] 0 hsz (by unfold maxLen; omega) rfl
    a1 := fun a => (h.a1 a).alloc _
    b0 := fun a b => (h.b0 a b).alloc _
    b1 := fun a => (h.b1 a).alloc _
    c0 := fun a b => (h.c0 a b).alloc _
    c1 := fun a => (h.c1 a).alloc _
    sab00 := fun _ _ c d => Sep.newl (h.b0 c d)
    sac00 := fun _ _ c d => Sep.newl (h.c0 c d) }
theorem CyF.st4 {s n1 n2 n3 : Nat} {wp : World} {v1 v2 v3 : Value} {xs1 xs2 xs3 : List Value} {l0 l1 l2 l3 l5 l6 l7 l8 l9 l10 l11 l12 l13 : Bool} {u3 u4 u5 u6 u7 u8 u9 u10 u11 u12 u13 u14 u15 : Value} {x : World} (h : CyF s n1 n2 n3 wp v1 v2 v3 xs1 xs2 xs3 l0 l1 l2 l3 false l5 l6 l7 l8 l9 l10 l11 l12 l13 u3 u4 u5 u6 u7 u8 u9 u10 u11 u12 u13 u14 u15 x) : CyF s n1 n2 n3 wp v1 v2 v3 xs1 xs2 xs3 l0 l1 l2 l3 true l5 l6 l7 l8 l9 l10 l11 l12 l13 u3 u4 u5 u6 (.slice (some ⟨x.heap.size, 0, none⟩) 0 0) u8 u9 u10 u11 u12 u13 u14 u15 (x.alloc (.cells #[] 52)) := by
  have hsz := h.sz
  have ba : Below x.heap.size x (x.alloc (.cells #[] 52)) := below_alloc (Below.refl _ _) _
  exact { h with
    bel := h.bel.alloc (by omega) _
    sz := Nat.le_trans hsz ba.size
    res := h.res.imp (fun r => r.below ba) id
    fin := fun q => (h.fin q).below ba
    a0 := fun a b => (h.a0 a b).alloc _
    a1 := fun a => (h.a1 a).alloc _
    b0 := fun _ _ => World.ownsRow_made x #[] 0 hsz (by unfold maxLen; omega) rfl
    b1 := fun a => (h.b1 a).alloc _
    c0 := fun a b => (h.c0 a b).alloc _
    c1 := fun a => (h.c1 a).alloc _
    sab00 := fun a b _ _ => Sep.newr (h.a0 a b)
    sab10 := fun a _ _ => Sep.newr (h.a1 a)
    sbc00 := fun _ _ c d => Sep.newl (h.c0 c d) }
theorem CyF.st8 {s n1 n2 n3 : Nat} {wp : World} {v1 v2 v3 : Value} {xs1 xs2 xs3 : List Value} {l0 l1 l2 l3 l4 l5 l6 l7 l9 l10 l11 l12 l13 : Bool} {u3 u4 u5 u6 u7 u8 u9 u10 u11 u12 u13 u14 u15 : Value} {x : World} (h : CyF s n1 n2 n3 wp v1 v2 v3 xs1 xs2 xs3 l0 l1 l2 l3 l4 l5 l6 l7 false l9 l10 l11 l12 l13 u3 u4 u5 u6 u7 u8 u9 u10 u11 u12 u13 u14 u15 x) : CyF s n1 n2 n3 wp v1 v2 v3 xs1 xs2 xs3 l0 l1 l2 l3 l4 l5 l6 l7 true l9 l10 l11 l12 l13 u3 u4 u5 u6 u7 u8 u9 u10 (.slice (some ⟨x.heap.size, 0, none⟩) 0 0) u12 u13 u14 u15 (x.alloc (.cells #[] 36)) := by
  have hsz := h.sz
  have ba : Below x.heap.size x (x.alloc (.cells #[] 36)) := below_alloc (Below.refl _ _) _
  exact { h with
    bel := h.bel.alloc (by omega) _
    sz := Nat.le_trans hsz ba.size
    res := h.res.imp (fun r => r.below ba) id
    fin := fun q => (h.fin q).below ba
    a0 := fun a b => (h.a0 a b).alloc _
    a1 := fun a => (h.a1 a).alloc _
    b0 := fun a b => (h.b0 a b).alloc _
    b1 := fun a => (h.b1 a).alloc _
    c0 := fun _ _ => World.ownsRow_made x #[] 0 hsz (by unfold maxLen; omega) rfl
    c1 := fun a => (h.c1 a).alloc _
    sac00 := fun a b _ _ => Sep.newr (h.a0 a b)
    sac10 := fun a _ _ => Sep.newr (h.a1 a)
    sbc00 := fun a b _ _ => Sep.newr (h.b0 a b)
    sbc10 := fun a _ _ => Sep.newr (h.b1 a) }
theorem CyF.st3 {s n1 n2 n3 : Nat} {wp : World} {v1 v2 v3 : Value} {xs1 xs2 xs3 : List Value} {l1 l4 l5 l6 l7 l8 l9 l10 l11 l12 l13 : Bool} {u3 u4 u5 u6 u7 u8 u9 u10 u11 u12 u13 u14 u15 : Value} {x : World} {y : World} {v : Value} (h : CyF s n1 n2 n3 wp v1 v2 v3 xs1 xs2 xs3 true l1 true false l4 l5 l6 l7 l8 l9 l10 l11 l12 l13 u3 u4 u5 u6 u7 u8 u9 u10 u11 u12 u13 u14 u15 x) (ho : y.ownsRow (s + 2) 52 2 v n1 xs1) (hg : x.grownBy y u3.ownBlock) (hl : v.ownBlock = u3.ownBlock ∨ v.ownBlock = some x.heap.size) : CyF s n1 n2 n3 wp v1 v2 v3 xs1 xs2 xs3 true l1 true true l4 l5 l6 l7 l8 l9 l10 l11 l12 l13 u3 u4 u5 v u7 u8 u9 u10 u11 u12 u13 u14 u15 y := by
  have hsz := h.sz
  have own := h.a0 rfl rfl
  have lo : ∀ k, u3.ownBlock = some k → s + 2 ≤ k := fun k hk => (own.lt k hk).1
  have nx : l7 = true → False := fun q => by have := h.d7 q; cases this
  exact { h with
    bel := h.bel.grown hg (by omega) (fun k hk => by have := lo k hk; omega)
    sz := Nat.le_trans hsz hg.size
    res := h.res.imp (fun r => r.grown hg (fun q => by have := lo _ q.symm; omega)) id
    a0 := fun _ q => by cases q
    a1 := fun _ => ho
    b0 := fun a b => (h.b0 a b).kept hg (Sep.en (h.sab00 rfl rfl a b))
    b1 := fun q => (nx q).elim
    c0 := fun a b => (h.c0 a b).kept hg (Sep.en (h.sac00 rfl rfl a b))
    c1 := fun q => (nx (h.d11 q)).elim
    sab00 := fun _ q => by cases q
    sab10 := fun _ a b => Sep.grow (h.sab00 rfl rfl a b) hl (h.b0 a b)
    sab11 := fun q => (nx q).elim
    sac00 := fun _ q => by cases q
    sac10 := fun _ a b => Sep.grow (h.sac00 rfl rfl a b) hl (h.c0 a b)
    sac11 := fun q => (nx (h.d11 q)).elim
    d7 := fun _ => rfl
    q15 := fun q => (nx (h.d11 (h.d12 q))).elim
    fin := fun q => (nx (h.d11 (h.d12 (h.d13 q)))).elim }
theorem CyF.st7 {s n1 n2 n3 : Nat} {wp : World} {v1 v2 v3 : Value} {xs1 xs2 xs3 : List Value} {l0 l1 l2 l5 l8 l9 l10 l11 l12 l13 : Bool} {u3 u4 u5 u6 u7 u8 u9 u10 u11 u12 u13 u14 u15 : Value} {x : World} {y : World} {v : Value} (h : CyF s n1 n2 n3 wp v1 v2 v3 xs1 xs2 xs3 l0 l1 l2 true true l5 true false l8 l9 l10 l11 l12 l13 u3 u4 u5 u6 u7 u8 u9 u10 u11 u12 u13 u14 u15 x) (ho : y.ownsRow (s + 2) 52 2 v n2 xs2) (hg : x.grownBy y u7.ownBlock) (hl : v.ownBlock = u7.ownBlock ∨ v.ownBlock = some x.heap.size) : CyF s n1 n2 n3 wp v1 v2 v3 xs1 xs2 xs3 l0 l1 l2 true true l5 true true l8 l9 l10 l11 l12 l13 u3 u4 u5 u6 u7 u8 u9 v u11 u12 u13 u14 u15 y := by
  have hsz := h.sz
  have own := h.b0 rfl rfl
  have lo : ∀ k, u7.ownBlock = some k → s + 2 ≤ k := fun k hk => (own.lt k hk).1
  have nx : l11 = true → False := fun q => by have := h.d11 q; cases this
  exact { h with
    bel := h.bel.grown hg (by omega) (fun k hk => by have := lo k hk; omega)
    sz := Nat.le_trans hsz hg.size
    res := h.res.imp (fun r => r.grown hg (fun q => by have := lo _ q.symm; omega)) id
    a0 := fun _ q => by cases q
    a1 := fun _ => (h.a1 rfl).kept hg (Sep.ne (h.sab10 rfl rfl rfl))
    b0 := fun _ q => by cases q
    b1 := fun _ => ho
    c0 := fun a b => (h.c0 a b).kept hg (Sep.en (h.sbc00 rfl rfl a b))
    c1 := fun q => (nx q).elim
    sab00 := fun _ _ _ q => by cases q
    sab10 := fun _ _ q => by cases q
    sab11 := fun _ => Sep.growr (h.sab10 rfl rfl rfl) hl (h.a1 rfl)
    sbc00 := fun _ q => by cases q
    sbc10 := fun _ a b => Sep.grow (h.sbc00 rfl rfl a b) hl (h.c0 a b)
    sbc11 := fun q => (nx q).elim
    d7 := fun _ => rfl
    d11 := fun _ => rfl
    q15 := fun q => (nx (h.d12 q)).elim
    fin := fun q => (nx (h.d12 (h.d13 q))).elim }
theorem CyF.st11 {s n1 n2 n3 : Nat} {wp : World} {v1 v2 v3 : Value} {xs1 xs2 xs3 : List Value} {l0 l1 l2 l3 l4 l5 l6 l9 l12 l13 : Bool} {u3 u4 u5 u6 u7 u8 u9 u10 u11 u12 u13 u14 u15 : Value} {x : World} {y : World} {v : Value} (h : CyF s n1 n2 n3 wp v1 v2 v3 xs1 xs2 xs3 l0 l1 l2 l3 l4 l5 l6 true true l9 true false l12 l13 u3 u4 u5 u6 u7 u8 u9 u10 u11 u12 u13 u14 u15 x) (ho : y.ownsRow (s + 2) 36 4 v n3 xs3) (hg : x.grownBy y u11.ownBlock) (hl : v.ownBlock = u11.ownBlock ∨ v.ownBlock = some x.heap.size) : CyF s n1 n2 n3 wp v1 v2 v3 xs1 xs2 xs3 l0 l1 l2 l3 l4 l5 l6 true true l9 true true l12 l13 u3 u4 u5 u6 u7 u8 u9 u10 u11 u12 u13 v u15 y := by
  have hz3 : l3 = true := h.d7 rfl
  subst hz3
  have hsz := h.sz
  have own := h.c0 rfl rfl
  have lo : ∀ k, u11.ownBlock = some k → s + 2 ≤ k := fun k hk => (own.lt k hk).1
  have nx : l12 = true → False := fun q => by have := h.d12 q; cases this
  exact { h with
    bel := h.bel.grown hg (by omega) (fun k hk => by have := lo k hk; omega)
    sz := Nat.le_trans hsz hg.size
    res := h.res.imp (fun r => r.grown hg (fun q => by have := lo _ q.symm; omega)) id
    a0 := fun _ q => by cases q
    a1 := fun _ => (h.a1 rfl).kept hg (Sep.ne (h.sac10 rfl rfl rfl))
    b0 := fun _ q => by cases q
    b1 := fun _ => (h.b1 rfl).kept hg (Sep.ne (h.sbc10 rfl rfl rfl))
    c0 := fun _ q => by cases q
    c1 := fun _ => ho
    sac00 := fun _ _ _ q => by cases q
    sac10 := fun _ _ q => by cases q
    sac11 := fun _ => Sep.growr (h.sac10 rfl rfl rfl) hl (h.a1 rfl)
    sbc00 := fun _ _ _ q => by cases q
    sbc10 := fun _ _ q => by cases q
    sbc11 := fun _ => Sep.growr (h.sbc10 rfl rfl rfl) hl (h.b1 rfl)
    d11 := fun _ => rfl
    d12 := fun _ => rfl
    q15 := fun q => (nx q).elim
    fin := fun q => (nx (h.d13 q)).elim }
theorem CyF.st13 {s n1 n2 n3 : Nat} {wp : World} {v1 v2 v3 : Value} {xs1 xs2 xs3 : List Value} {u3 u4 u5 u6 u7 u8 u9 u10 u11 u12 u13 u14 u15 : Value} {x : World} (h : CyF s n1 n2 n3 wp v1 v2 v3 xs1 xs2 xs3 true true true true true true true true true true true true true false u3 u4 u5 u6 u7 u8 u9 u10 u11 u12 u13 u14 u15 x) : CyF s n1 n2 n3 wp v1 v2 v3 xs1 xs2 xs3 true true true true true true true true true true true true true true u3 u4 u5 u6 u7 u8 u9 u10 u11 u12 u13 u14 u15 (((x.setCell ⟨s + 1, 0, none⟩ u6).setCell ⟨s + 1, 1, none⟩ u10).setCell ⟨s + 1, 2, none⟩ u14) := by
  have hsz := h.sz
  have R := h.res.resolve_right (by simp)
  have hna : u6.ownBlock = none ∨ u6.ownBlock ≠ some (s + 1) := .inr (fun q => by have := ((h.a1 rfl).lt _ q).1; omega)
  have hnb : u10.ownBlock = none ∨ u10.ownBlock ≠ some (s + 1) := .inr (fun q => by have := ((h.b1 rfl).lt _ q).1; omega)
  have hnc : u14.ownBlock = none ∨ u14.ownBlock ≠ some (s + 1) := .inr (fun q => by have := ((h.c1 rfl).lt _ q).1; omega)
  exact { h with
    bel := ((h.bel.setCell (p := ⟨s + 1, 0, none⟩) (Nat.le_refl _) _).setCell (p := ⟨s + 1, 1, none⟩) (Nat.le_refl _) _).setCell (p := ⟨s + 1, 2, none⟩) (Nat.le_refl _) _
    sz := by simpa [World.setCell] using hsz
    res := .inr rfl
    a0 := fun _ q => by cases q
    a1 := fun _ => (((h.a1 rfl).kept (grown_set _ _ _ _) hna).kept (grown_set _ _ _ _) hna).kept (grown_set _ _ _ _) hna
    b0 := fun _ q => by cases q
    b1 := fun _ => (((h.b1 rfl).kept (grown_set _ _ _ _) hnb).kept (grown_set _ _ _ _) hnb).kept (grown_set _ _ _ _) hnb
    c0 := fun _ q => by cases q
    c1 := fun _ => (((h.c1 rfl).kept (grown_set _ _ _ _) hnc).kept (grown_set _ _ _ _) hnc).kept (grown_set _ _ _ _) hnc
    d13 := fun _ => rfl
    fin := fun _ => ((R.set 0 u6 (by simp)).set 1 u10 (by simp)).set 2 u14 (by simp) }
set_option maxHeartbeats 8000000 in
theorem l8Copy_any (la sa oa : Option Addr) (lc sc oc : Nat) (live safe : List Fl) (ops : List Dp) (w : World) (n1 : live.length ≤ 1048576) (n2 : safe.length ≤ 1048576) (n3 : ops.length ≤ 1048576) (hc1 : la = none → lc = 0) (hc2 : sa = none → sc = 0) (hc3 : oa = none → oc = 0) (h : DkAt w la sa oa live safe ops) :
    Calls Try.prog 57 #[.agg #[.slice la live.length lc, .slice sa safe.length sc, .slice oa ops.length oc]] w fun e w' => DiskV live safe ops w e w' := by
  have HL : Hid _ := hide h
  have HC1 : Hid _ := hide hc1
  have HC2 : Hid _ := hide hc2
  have HC3 : Hid _ := hide hc3
  have HZ : Hid _ := hide (And.intro n1 (And.intro n2 n3))
  clear h hc1 hc2 hc3 n1 n2 n3
  obtain ⟨w1, hwa⟩ : ∃ wa, wa = (w.alloc (.cells #[.slice la live.length lc, .slice sa safe.length sc, .slice oa ops.length oc] 27)).alloc (.cells #[.slice none 0 0, .slice none 0 0, .slice none 0 0] 27) := ⟨_, rfl⟩
  have HW : Hid ((w.alloc (.cells #[.slice la live.length lc, .slice sa safe.length sc, .slice oa ops.length oc] 27)).alloc (.cells #[.slice none 0 0, .slice none 0 0, .slice none 0 0] 27) = w1) := hide hwa.symm
  have KX1 : Hid (Blk w.heap.size [.slice la live.length lc, .slice sa safe.length sc, .slice oa ops.length oc] w1) := hide (by rw [hwa]; exact Blk.new.alloc _)
  have KR1 : Hid (Blk (w.heap.size + 1) [.slice none 0 0, .slice none 0 0, .slice none 0 0] w1) := hide (by rw [hwa]; exact (by simpa using Blk.new (w := w.alloc (.cells #[.slice la live.length lc, .slice sa safe.length sc, .slice oa ops.length oc] 27)) (cur := [.slice none 0 0, .slice none 0 0, .slice none 0 0]) (T := 27)))
  have HX1 : Hid (Below w.heap.size w w1 ∧ w.heap.size + 2 ≤ w1.heap.size) := hide ⟨by rw [hwa]; exact below_alloc (below_alloc (Below.refl _ _) _) _, by rw [hwa]; simp⟩
  clear hwa
  obtain ⟨i0, hi0, hz0, hz1, hz2⟩ := info_parts infoF
  have hu := huF
  obtain ⟨j0, hj0, hy0, hy1, hy2⟩ := info_parts infoO
  have hv := huO
  have HN1 : Hid _ := hide (HL.out.r1.news_any flLen (by decide))
  have HN2 : Hid _ := hide (HL.out.r2.news_any flLen (by decide))
  have HN3 : Hid _ := hide (HL.out.r3.news_any dpLen (by decide))
  go_enter Try.func57, Try.ntmps57
  go_wp2_with fail
  rw [HW.out]
  have HB1 : Hid (Below (w.heap.size + 1) w1 w1.drew) := hide (Below.refl _ _).drew
  have HSZ : Hid (w.heap.size + 2 ≤ w1.drew.heap.size) := hide HX1.out.2
  have HR : Hid (Blk (w.heap.size + 1) [.slice none 0 0, .slice none 0 0, .slice none 0 0] w1.drew) := hide (KR1.out.below (Below.refl _ _).drew)
  rename_i hK0
  refine wp_region_inv (by kernel_rfl) (fun L act x => ∃ l0 l1 l2 l3 l4 l5 l6 l7 l8 l9 l10 l11 l12 l13 : Bool, ∃ u3 u4 u5 u6 u7 u8 u9 u10 u11 u12 u13 u14 u15 : Value, L = #[l0, l1, l2, l3, l4, l5, l6, l7, l8, l9, l10, l11, l12, l13] ∧ act = { tmps := #[Value.agg #[Value.slice la live.length lc, Value.slice sa safe.length sc, Value.slice oa ops.length oc], Value.pointer (some { block := w.heap.size, off := 0 }), Value.pointer (some { block := w.heap.size + 1, off := 0 }), u3, u4, u5, u6, u7, u8, u9, u10, u11, u12, u13, u14, u15], defers := [] } ∧ CyF w.heap.size live.length safe.length ops.length w1 (.slice la live.length lc) (.slice sa safe.length sc) (.slice oa ops.length oc) (live.flatMap flCells) (safe.flatMap flCells) (ops.flatMap dpCells) l0 l1 l2 l3 l4 l5 l6 l7 l8 l9 l10 l11 l12 l13 u3 u4 u5 u6 u7 u8 u9 u10 u11 u12 u13 u14 u15 x) ?_ ?_ ?_
  rotate_left 2
  · exact ⟨false, false, false, false, false, false, false, false, false, false, false, false, false, false, (undef), (undef), (undef), (undef), (undef), (undef), (undef), (undef), (undef), (undef), (undef), (undef), (undef), rfl, rfl, ⟨HB1.out, HSZ.out, .inl HR.out, fun q => (by cases q), fun q => (by cases q), fun q => (by cases q), fun q => (by cases q), fun q => (by cases q), fun q => (by cases q), fun q => (by cases q), fun q => (by cases q), fun q => (by cases q), fun q => (by cases q), fun q => (by cases q), fun q => (by cases q), fun q => (by cases q), fun q => (by cases q), fun q => (by cases q), fun q => (by cases q), fun q => (by cases q), fun q => (by cases q), fun q => (by cases q), fun q => (by cases q), fun q => (by cases q), fun q => (by cases q), fun q => (by cases q), fun q => (by cases q), fun q => (by cases q), fun q => (by cases q), fun q => (by cases q)⟩⟩
  · rintro L act x i ⟨l0, l1, l2, l3, l4, l5, l6, l7, l8, l9, l10, l11, l12, l13, u3, u4, u5, u6, u7, u8, u9, u10, u11, u12, u13, u14, u15, rfl, rfl, h⟩ hi K hK
    have hi15 : i < 14 := by
      obtain ⟨_, o, ho, _⟩ := mem_ready.1 hi
      exact (Array.getElem?_eq_some_iff.1 ho).1
    have hl := (mem_ready.1 hi).1
    obtain rfl | rfl | rfl | rfl | rfl | rfl | rfl | rfl | rfl | rfl | rfl | rfl | rfl | rfl := (by omega : i = 0 ∨ i = 1 ∨ i = 2 ∨ i = 3 ∨ i = 4 ∨ i = 5 ∨ i = 6 ∨ i = 7 ∨ i = 8 ∨ i = 9 ∨ i = 10 ∨ i = 11 ∨ i = 12 ∨ i = 13)
    · have e : l0 = false := hl
      subst e
      refine wpOp_run (v := .slice (some ⟨x.heap.size, 0, none⟩) 0 0) (w' := x.alloc (.cells #[] 52)) (by rfl) (by rfl) ?_ (hK _ _ ⟨true, l1, l2, l3, l4, l5, l6, l7, l8, l9, l10, l11, l12, l13, (.slice (some ⟨x.heap.size, 0, none⟩) 0 0), u4, u5, u6, u7, u8, u9, u10, u11, u12, u13, u14, u15, rfl, rfl, h.st0⟩)
      go_simp
    · have e : l1 = false := hl
      subst e
      refine wpOp_run (v := .pointer (some ⟨w.heap.size, 0, none⟩)) (w' := x) (by rfl) (by rfl) ?_ (hK _ _ ⟨l0, true, l2, l3, l4, l5, l6, l7, l8, l9, l10, l11, l12, l13, u3, (.pointer (some ⟨w.heap.size, 0, none⟩)), u5, u6, u7, u8, u9, u10, u11, u12, u13, u14, u15, rfl, rfl, { h with p4 := fun _ => rfl }⟩)
      go_simp
    · have e : l2 = false := hl
      subst e
      have d1 : l1 = true := ready_on hi 1 (by kernel_rfl)
      subst d1
      have c0 : x.cell? ⟨w.heap.size, 0, none⟩ = some (.slice la live.length lc) := (h.bel.cell (by show w.heap.size < _; omega)).trans (KX1.out.c 0 _ rfl)
      refine wpOp_run (v := .slice la live.length lc) (w' := x) (by rfl) (by rfl) ?_ (hK _ _ ⟨l0, true, true, l3, l4, l5, l6, l7, l8, l9, l10, l11, l12, l13, u3, u4, (.slice la live.length lc), u6, u7, u8, u9, u10, u11, u12, u13, u14, u15, rfl, rfl, { h with p5 := fun _ => rfl }⟩)
      rw [h.p4 rfl]
      go_simp
    · have e : l3 = false := hl
      subst e
      have d0 : l0 = true := ready_on hi 0 (by kernel_rfl)
      subst d0
      have d2 : l2 = true := ready_on hi 2 (by kernel_rfl)
      subst d2
      have hsz := h.sz
      have HZ1 := HZ.out.1
      obtain ⟨v', y, hr, ho, hg, hlie⟩ := run_append_any (P := Try.prog) (w := x) (w.heap.size + 2) 24 24 52 i0 _ 2 32 hu hi0 hz0 hz1 hz2 rfl (by decide) _ 0 [] (h.a0 rfl rfl) la live.length lc (live.flatMap flCells) (flat_len flCells 2 flLen live) (fun e => ⟨row_none HL.out.r1 e, HC1.out e⟩) (fun ad had j u hj => below_keeps (HX1.out.1.trans (h.bel.mono (by omega))) _ _ (HN1.out ad had j u hj)) (fl_one live) (by unfold maxLen; omega) (by omega) hsz
      rw [Nat.zero_add, List.nil_append] at ho
      refine wpOp_run (v := v') (w' := y) (by rfl) (by rfl) ?_ (hK _ _ ⟨true, l1, true, true, l4, l5, l6, l7, l8, l9, l10, l11, l12, l13, u3, u4, u5, (v'), u7, u8, u9, u10, u11, u12, u13, u14, u15, rfl, rfl, h.st3 ho hg hlie⟩)
      exact exec_append rfl (by rfl) (h.p5 rfl) hr
    · have e : l4 = false := hl
      subst e
      refine wpOp_run (v := .slice (some ⟨x.heap.size, 0, none⟩) 0 0) (w' := x.alloc (.cells #[] 52)) (by rfl) (by rfl) ?_ (hK _ _ ⟨l0, l1, l2, l3, true, l5, l6, l7, l8, l9, l10, l11, l12, l13, u3, u4, u5, u6, (.slice (some ⟨x.heap.size, 0, none⟩) 0 0), u8, u9, u10, u11, u12, u13, u14, u15, rfl, rfl, h.st4⟩)
      go_simp
    · have e : l5 = false := hl
      subst e
      refine wpOp_run (v := .pointer (some ⟨w.heap.size, 1, none⟩)) (w' := x) (by rfl) (by rfl) ?_ (hK _ _ ⟨l0, l1, l2, l3, l4, true, l6, l7, l8, l9, l10, l11, l12, l13, u3, u4, u5, u6, u7, (.pointer (some ⟨w.heap.size, 1, none⟩)), u9, u10, u11, u12, u13, u14, u15, rfl, rfl, { h with p8 := fun _ => rfl }⟩)
      go_simp
    · have e : l6 = false := hl
      subst e
      have d5 : l5 = true := ready_on hi 5 (by kernel_rfl)
      subst d5
      have c0 : x.cell? ⟨w.heap.size, 1, none⟩ = some (.slice sa safe.length sc) := (h.bel.cell (by show w.heap.size < _; omega)).trans (KX1.out.c 1 _ rfl)
      refine wpOp_run (v := .slice sa safe.length sc) (w' := x) (by rfl) (by rfl) ?_ (hK _ _ ⟨l0, l1, l2, l3, l4, true, true, l7, l8, l9, l10, l11, l12, l13, u3, u4, u5, u6, u7, u8, (.slice sa safe.length sc), u10, u11, u12, u13, u14, u15, rfl, rfl, { h with p9 := fun _ => rfl }⟩)
      rw [h.p8 rfl]
      go_simp
    · have e : l7 = false := hl
      subst e
      have d3 : l3 = true := ready_on hi 3 (by kernel_rfl)
      subst d3
      have d4 : l4 = true := ready_on hi 4 (by kernel_rfl)
      subst d4
      have d6 : l6 = true := ready_on hi 6 (by kernel_rfl)
      subst d6
      have hsz := h.sz
      have HZ1 := HZ.out.2.1
      obtain ⟨v', y, hr, ho, hg, hlie⟩ := run_append_any (P := Try.prog) (w := x) (w.heap.size + 2) 24 24 52 i0 _ 2 32 hu hi0 hz0 hz1 hz2 rfl (by decide) _ 0 [] (h.b0 rfl rfl) sa safe.length sc (safe.flatMap flCells) (flat_len flCells 2 flLen safe) (fun e => ⟨row_none HL.out.r2 e, HC2.out e⟩) (fun ad had j u hj => below_keeps (HX1.out.1.trans (h.bel.mono (by omega))) _ _ (HN2.out ad had j u hj)) (fl_one safe) (by unfold maxLen; omega) (by omega) hsz
      rw [Nat.zero_add, List.nil_append] at ho
      refine wpOp_run (v := v') (w' := y) (by rfl) (by rfl) ?_ (hK _ _ ⟨l0, l1, l2, true, true, l5, true, true, l8, l9, l10, l11, l12, l13, u3, u4, u5, u6, u7, u8, u9, (v'), u11, u12, u13, u14, u15, rfl, rfl, h.st7 ho hg hlie⟩)
      exact exec_append rfl (by rfl) (h.p9 rfl) hr
    · have e : l8 = false := hl
      subst e
      refine wpOp_run (v := .slice (some ⟨x.heap.size, 0, none⟩) 0 0) (w' := x.alloc (.cells #[] 36)) (by rfl) (by rfl) ?_ (hK _ _ ⟨l0, l1, l2, l3, l4, l5, l6, l7, true, l9, l10, l11, l12, l13, u3, u4, u5, u6, u7, u8, u9, u10, (.slice (some ⟨x.heap.size, 0, none⟩) 0 0), u12, u13, u14, u15, rfl, rfl, h.st8⟩)
      go_simp
    · have e : l9 = false := hl
      subst e
      refine wpOp_run (v := .pointer (some ⟨w.heap.size, 2, none⟩)) (w' := x) (by rfl) (by rfl) ?_ (hK _ _ ⟨l0, l1, l2, l3, l4, l5, l6, l7, l8, true, l10, l11, l12, l13, u3, u4, u5, u6, u7, u8, u9, u10, u11, (.pointer (some ⟨w.heap.size, 2, none⟩)), u13, u14, u15, rfl, rfl, { h with p12 := fun _ => rfl }⟩)
      go_simp
    · have e : l10 = false := hl
      subst e
      have d9 : l9 = true := ready_on hi 9 (by kernel_rfl)
      subst d9
      have c0 : x.cell? ⟨w.heap.size, 2, none⟩ = some (.slice oa ops.length oc) := (h.bel.cell (by show w.heap.size < _; omega)).trans (KX1.out.c 2 _ rfl)
      refine wpOp_run (v := .slice oa ops.length oc) (w' := x) (by rfl) (by rfl) ?_ (hK _ _ ⟨l0, l1, l2, l3, l4, l5, l6, l7, l8, true, true, l11, l12, l13, u3, u4, u5, u6, u7, u8, u9, u10, u11, u12, (.slice oa ops.length oc), u14, u15, rfl, rfl, { h with p13 := fun _ => rfl }⟩)
      rw [h.p12 rfl]
      go_simp
    · have e : l11 = false := hl
      subst e
      have d7 : l7 = true := ready_on hi 7 (by kernel_rfl)
      subst d7
      have d8 : l8 = true := ready_on hi 8 (by kernel_rfl)
      subst d8
      have d10 : l10 = true := ready_on hi 10 (by kernel_rfl)
      subst d10
      have hsz := h.sz
      have HZ1 := HZ.out.2.2
      obtain ⟨v', y, hr, ho, hg, hlie⟩ := run_append_any (P := Try.prog) (w := x) (w.heap.size + 2) 25 25 36 j0 _ 4 56 hv hj0 hy0 hy1 hy2 rfl (by decide) _ 0 [] (h.c0 rfl rfl) oa ops.length oc (ops.flatMap dpCells) (flat_len dpCells 4 dpLen ops) (fun e => ⟨row_none HL.out.r3 e, HC3.out e⟩) (fun ad had j u hj => below_keeps (HX1.out.1.trans (h.bel.mono (by omega))) _ _ (HN3.out ad had j u hj)) (dp_one ops) (by unfold maxLen; omega) (by omega) hsz
      rw [Nat.zero_add, List.nil_append] at ho
      refine wpOp_run (v := v') (w' := y) (by rfl) (by rfl) ?_ (hK _ _ ⟨l0, l1, l2, l3, l4, l5, l6, true, true, l9, true, true, l12, l13, u3, u4, u5, u6, u7, u8, u9, u10, u11, u12, u13, (v'), u15, rfl, rfl, h.st11 ho hg hlie⟩)
      exact exec_append rfl (by rfl) (h.p13 rfl) hr
    · have e : l12 = false := hl
      subst e
      have d3 : l3 = true := ready_on hi 3 (by kernel_rfl)
      subst d3
      have d7 : l7 = true := ready_on hi 7 (by kernel_rfl)
      subst d7
      have d11 : l11 = true := ready_on hi 11 (by kernel_rfl)
      subst d11
      obtain ⟨a4, c4, e4⟩ := row_shape (h.a1 rfl)
      obtain ⟨a5, c5, e5⟩ := row_shape (h.b1 rfl)
      obtain ⟨a6, c6, e6⟩ := row_shape (h.c1 rfl)
      refine wpOp_run (v := .agg #[u6, u10, u14]) (w' := x) (by rfl) (by rfl) ?_ (hK _ _ ⟨l0, l1, l2, true, l4, l5, l6, true, l8, l9, l10, true, true, l13, u3, u4, u5, u6, u7, u8, u9, u10, u11, u12, u13, u14, (.agg #[u6, u10, u14]), rfl, rfl, { h with q15 := fun _ => rfl, d12 := fun _ => rfl, d13 := fun _ => rfl }⟩)
      rw [e4, e5, e6]
      go_simp
    · have e : l13 = false := hl
      subst e
      have d0 : l0 = true := ready_on hi 0 (by kernel_rfl)
      subst d0
      have d1 : l1 = true := ready_on hi 1 (by kernel_rfl)
      subst d1
      have d2 : l2 = true := ready_on hi 2 (by kernel_rfl)
      subst d2
      have d3 : l3 = true := ready_on hi 3 (by kernel_rfl)
      subst d3
      have d4 : l4 = true := ready_on hi 4 (by kernel_rfl)
      subst d4
      have d5 : l5 = true := ready_on hi 5 (by kernel_rfl)
      subst d5
      have d6 : l6 = true := ready_on hi 6 (by kernel_rfl)
      subst d6
      have d7 : l7 = true := ready_on hi 7 (by kernel_rfl)
      subst d7
      have d8 : l8 = true := ready_on hi 8 (by kernel_rfl)
      subst d8
      have d9 : l9 = true := ready_on hi 9 (by kernel_rfl)
      subst d9
      have d10 : l10 = true := ready_on hi 10 (by kernel_rfl)
      subst d10
      have d11 : l11 = true := ready_on hi 11 (by kernel_rfl)
      subst d11
      have d12 : l12 = true := ready_on hi 12 (by kernel_rfl)
      subst d12
      obtain ⟨a4, c4, e4⟩ := row_shape (h.a1 rfl)
      obtain ⟨a5, c5, e5⟩ := row_shape (h.b1 rfl)
      obtain ⟨a6, c6, e6⟩ := row_shape (h.c1 rfl)
      have R := h.res.resolve_right (by simp)
      have r0 := R.c 0 _ rfl
      have r1 := R.c 1 _ rfl
      have r2 := R.c 2 _ rfl
      have f0 := R.f 0
      have f1 := R.f 1
      have f2 := R.f 2
      refine wpOp_skip (w' := (((x.setCell ⟨w.heap.size + 1, 0, none⟩ u6).setCell ⟨w.heap.size + 1, 1, none⟩ u10).setCell ⟨w.heap.size + 1, 2, none⟩ u14)) (by rfl) (by rfl) ?_ (hK _ _ ⟨true, true, true, true, true, true, true, true, true, true, true, true, true, true, u3, u4, u5, u6, u7, u8, u9, u10, u11, u12, u13, u14, u15, rfl, rfl, h.st13⟩)
      rw [h.q15 rfl, e4, e5, e6]
      go_simp
  · rintro L act x ⟨l0, l1, l2, l3, l4, l5, l6, l7, l8, l9, l10, l11, l12, l13, u3, u4, u5, u6, u7, u8, u9, u10, u11, u12, u13, u14, u15, rfl, rfl, h⟩ hr
    have hall := ready_all hr rfl (by decide)
    have t0 : l0 = true := hall 0 (by decide)
    have t1 : l1 = true := hall 1 (by decide)
    have t2 : l2 = true := hall 2 (by decide)
    have t3 : l3 = true := hall 3 (by decide)
    have t4 : l4 = true := hall 4 (by decide)
    have t5 : l5 = true := hall 5 (by decide)
    have t6 : l6 = true := hall 6 (by decide)
    have t7 : l7 = true := hall 7 (by decide)
    have t8 : l8 = true := hall 8 (by decide)
    have t9 : l9 = true := hall 9 (by decide)
    have t10 : l10 = true := hall 10 (by decide)
    have t11 : l11 = true := hall 11 (by decide)
    have t12 : l12 = true := hall 12 (by decide)
    have t13 : l13 = true := hall 13 (by decide)
    subst t0 t1 t2 t3 t4 t5 t6 t7 t8 t9 t10 t11 t12 t13
    clear hall hr
    have kY := h.fin rfl
    have z0 := kY.c 0 _ rfl
    have z1 := kY.c 1 _ rfl
    have z2 := kY.c 2 _ rfl
    have HE : Hid (DiskV live safe ops w (.returned (.agg #[u6, u10, u14])) x) := hide ⟨HX1.out.1.trans (h.bel.mono (by omega)), u6, u10, u14, rfl, own_mono (h.a1 rfl) (by omega), own_mono (h.b1 rfl) (by omega), own_mono (h.c1 rfl) (by omega), h.sab11 rfl, h.sac11 rfl, h.sbc11 rfl⟩
    obtain ⟨a4, c4, e4⟩ := row_shape (h.a1 rfl)
    obtain ⟨a5, c5, e5⟩ := row_shape (h.b1 rfl)
    obtain ⟨a6, c6, e6⟩ := row_shape (h.c1 rfl)
    rw [e4] at z0 HE
    rw [e5] at z1 HE
    rw [e6] at z2 HE
    clear h kY e4 e5 e6
    refine hK0 _ _ ?_
    go_wp2
    exact bodyPost_ret (v := .agg #[.slice a4 live.length c4, .slice a5 safe.length c5, .slice a6 ops.length c6]) (by simp [results, Try.results57, go_sem, z0, z1, z2]) rfl HE.out
end Go.Proofs.Ytiilkkdbifhojaa
