/- Rows of disks that share no block; the model's l8Copy. -/
import Derived.Test.YtiilkkdbifhojaaGreatBc
import Derived.Test.YtiilkkdbifhojaaGreatBd
namespace Go.Proofs.YtiilkkdbifhojaaGreat
open Go.ChangeShapes Go.WideShapes Go.ChangeAt Go.RowKit
set_option linter.unusedVariables false
set_option maxRecDepth 100000
/-- two rows that share no block -/
def Sep (v v' : Value) : Prop := ∀ g, v.ownBlock = some g → v'.ownBlock ≠ some g
theorem Sep.ne {v v' : Value} (h : Sep v v') : v.ownBlock = none ∨ v.ownBlock ≠ v'.ownBlock := by
  cases e : v.ownBlock with
  | none => exact .inl rfl
  | some g => exact .inr (fun q => h g e q.symm)
theorem Sep.en {v v' : Value} (h : Sep v v') : v'.ownBlock = none ∨ v'.ownBlock ≠ v.ownBlock := by
  cases e : v'.ownBlock with
  | none => exact .inl rfl
  | some g => exact .inr (fun q => h g q.symm e)
theorem Sep.symm {v v' : Value} (h : Sep v v') : Sep v' v := fun g hg q => h g q hg
theorem Sep.newl {x : World} {base : Nat} {T : TypeId} {sz n c : Nat} {v : Value} {xs : List Value} (h : x.ownsRow base T sz v n xs) : Sep (.slice (some ⟨x.heap.size, 0, none⟩) 0 c) v := fun g hg q => by
  have := (h.lt g q).2
  simp only [Value.ownBlock, Option.some.injEq] at hg
  omega
theorem Sep.newr {x : World} {base : Nat} {T : TypeId} {sz n c : Nat} {v : Value} {xs : List Value} (h : x.ownsRow base T sz v n xs) : Sep v (.slice (some ⟨x.heap.size, 0, none⟩) 0 c) := fun g hg q => by
  have := (h.lt g hg).2
  simp only [Value.ownBlock, Option.some.injEq] at q
  omega
theorem Sep.grow {x : World} {base : Nat} {T : TypeId} {sz n : Nat} {u v v' : Value} {xs : List Value} (h : Sep u v') (hl : v.ownBlock = u.ownBlock ∨ v.ownBlock = some x.heap.size) (hr : x.ownsRow base T sz v' n xs) : Sep v v' := fun g hg q => by
  rcases hl with e | e
  · exact h g (e ▸ hg) q
  · have := (hr.lt g q).2
    rw [e] at hg
    simp only [Option.some.injEq] at hg
    omega
theorem Sep.growr {x : World} {base : Nat} {T : TypeId} {sz n : Nat} {u v v' : Value} {xs : List Value} (h : Sep v u) (hl : v'.ownBlock = u.ownBlock ∨ v'.ownBlock = some x.heap.size) (hr : x.ownsRow base T sz v n xs) : Sep v v' := fun g hg q => by
  rcases hl with e | e
  · exact h g hg (e ▸ q)
  · have := (hr.lt g hg).2
    rw [e] at q
    simp only [Option.some.injEq] at q
    omega
/-- a row that was there, and a newer one -/
theorem Sep.old {x y : World} {base base' : Nat} {T T' : TypeId} {sz sz' n n' : Nat} {v v' : Value} {xs xs' : List Value} (h : x.ownsRow base T sz v n xs) (k : y.ownsRow base' T' sz' v' n' xs') (hb : x.heap.size ≤ base') : Sep v v' := fun g hg q => by
  have := (h.lt g hg).2
  have := (k.lt g q).1
  omega
theorem own_mono {w : World} {base base' : Nat} {T : TypeId} {sz n : Nat} {v : Value} {xs : List Value} (h : w.ownsRow base' T sz v n xs) (hb : base ≤ base') : w.ownsRow base T sz v n xs := by
  obtain ⟨hl, h0 | ⟨g, cap, cur, h1, hg, r⟩⟩ := h
  · exact ⟨hl, .inl h0⟩
  · exact ⟨hl, .inr ⟨g, cap, cur, h1, Nat.le_trans hb hg, r⟩⟩
/-- a disk's three rows, of the call's own, apart -/
structure RowsD (base : Nat) (L S : List Fl) (O : List Dp) (v1 v2 v3 : Value) (x : World) : Prop where
  r1 : x.ownsRow base 71 2 v1 L.length (L.flatMap flCells)
  r2 : x.ownsRow base 71 2 v2 S.length (S.flatMap flCells)
  r3 : x.ownsRow base 50 4 v3 O.length (O.flatMap dpCells)
  s12 : Sep v1 v2
  s13 : Sep v1 v3
  s23 : Sep v2 v3
theorem RowsD.below {base : Nat} {L S : List Fl} {O : List Dp} {v1 v2 v3 : Value} {x y : World} (h : RowsD base L S O v1 v2 v3 x) (b : Below x.heap.size x y) : RowsD base L S O v1 v2 v3 y :=
  ⟨own_keep h.r1 b, own_keep h.r2 b, own_keep h.r3 b, h.s12, h.s13, h.s23⟩
theorem RowsD.mono {base base' : Nat} {L S : List Fl} {O : List Dp} {v1 v2 v3 : Value} {x : World} (h : RowsD base' L S O v1 v2 v3 x) (b : base ≤ base') : RowsD base L S O v1 v2 v3 x :=
  ⟨own_mono h.r1 b, own_mono h.r2 b, own_mono h.r3 b, h.s12, h.s13, h.s23⟩
/-- a cell outside of the rows is written -/
theorem RowsD.set {base : Nat} {L S : List Fl} {O : List Dp} {v1 v2 v3 : Value} {x : World} (h : RowsD base L S O v1 v2 v3 x) {g o : Nat} {u : Value} (hg : g < base) : RowsD base L S O v1 v2 v3 (x.setCell ⟨g, o, none⟩ u) :=
  ⟨h.r1.kept (grown_set _ _ _ _) (.inr (fun q => by have := (h.r1.lt _ q).1; omega)), h.r2.kept (grown_set _ _ _ _) (.inr (fun q => by have := (h.r2.lt _ q).1; omega)), h.r3.kept (grown_set _ _ _ _) (.inr (fun q => by have := (h.r3.lt _ q).1; omega)), h.s12, h.s13, h.s23⟩
def DiskV (L S : List Fl) (O : List Dp) (w : World) (e : Ending) (w' : World) : Prop := Below w.heap.size w w' ∧ ∃ v1 v2 v3, e = .returned (.agg #[v1, v2, v3]) ∧ RowsD w.heap.size L S O v1 v2 v3 w'
/-- what holds in the midst of its region -/
structure CyF (s n1 n2 n3 : Nat) (wp : World) (v1 v2 v3 : Value) (xs1 xs2 xs3 : List Value) (l0 l1 l2 l3 l4 l5 l6 l7 l8 l9 l10 l11 l12 l13 : Bool) (u3 u4 u5 u6 u7 u8 u9 u10 u11 u12 u13 u14 u15 : Value) (x : World) : Prop where
  bel : Below (s + 1) wp x
  sz : s + 2 ≤ x.heap.size
  res : Blk (s + 1) [.slice none 0 0, .slice none 0 0, .slice none 0 0] x ∨ l13 = true
  a0 : l0 = true → l3 = false → x.ownsRow (s + 2) 71 2 u3 0 []
  a1 : l3 = true → x.ownsRow (s + 2) 71 2 u6 n1 xs1
  b0 : l4 = true → l7 = false → x.ownsRow (s + 2) 71 2 u7 0 []
  b1 : l7 = true → x.ownsRow (s + 2) 71 2 u10 n2 xs2
  c0 : l8 = true → l11 = false → x.ownsRow (s + 2) 50 4 u11 0 []
  c1 : l11 = true → x.ownsRow (s + 2) 50 4 u14 n3 xs3
  sab00 : l0 = true → l3 = false → l4 = true → l7 = false → Sep u3 u7
  sab10 : l3 = true → l4 = true → l7 = false → Sep u6 u7
  sab11 : l7 = true → Sep u6 u10
  sac00 : l0 = true → l3 = false → l8 = true → l11 = false → Sep u3 u11
  sac10 : l3 = true → l8 = true → l11 = false → Sep u6 u11
  sac11 : l11 = true → Sep u6 u14
  sbc00 : l4 = true → l7 = false → l8 = true → l11 = false → Sep u7 u11
  sbc10 : l7 = true → l8 = true → l11 = false → Sep u10 u11
  sbc11 : l11 = true → Sep u10 u14
  d7 : l7 = true → l3 = true
  d11 : l11 = true → l7 = true
  q15 : l12 = true → u15 = .agg #[u6, u10, u14]
  d12 : l12 = true → l11 = true
  d13 : l13 = true → l12 = true
  fin : l13 = true → Blk (s + 1) [u6, u10, u14] x
  p4 : l1 = true → u4 = .pointer (some ⟨s, 0, none⟩)
  p5 : l2 = true → u5 = v1
  p8 : l5 = true → u8 = .pointer (some ⟨s, 1, none⟩)
  p9 : l6 = true → u9 = v2
  p12 : l9 = true → u12 = .pointer (some ⟨s, 2, none⟩)
  p13 : l10 = true → u13 = v3
theorem CyF.st0 {s n1 n2 n3 : Nat} {wp : World} {v1 v2 v3 : Value} {xs1 xs2 xs3 : List Value} {l1 l2 l3 l4 l5 l6 l7 l8 l9 l10 l11 l12 l13 : Bool} {u3 u4 u5 u6 u7 u8 u9 u10 u11 u12 u13 u14 u15 : Value} {x : World} (h : CyF s n1 n2 n3 wp v1 v2 v3 xs1 xs2 xs3 false l1 l2 l3 l4 l5 l6 l7 l8 l9 l10 l11 l12 l13 u3 u4 u5 u6 u7 u8 u9 u10 u11 u12 u13 u14 u15 x) : CyF s n1 n2 n3 wp v1 v2 v3 xs1 xs2 xs3 true l1 l2 l3 l4 l5 l6 l7 l8 l9 l10 l11 l12 l13 (.slice (some ⟨x.heap.size, 0, none⟩) 0 0) u4 u5 u6 u7 u8 u9 u10 u11 u12 u13 u14 u15 (x.alloc (.cells #[] 71)) := by
  have hsz := h.sz
  have ba : Below x.heap.size x (x.alloc (.cells #[] 71)) := below_alloc (Below.refl _ _) _
  exact { h with
    bel := h.bel.alloc (by omega) _
    sz := Nat.le_trans hsz ba.size
    res := h.res.imp (fun r => r.below ba) id
    fin := fun q => (h.fin q).below ba
    a0 := fun _ _ => World.ownsRow_made x #[] 0 hsz (by unfold maxLen; omega) rfl
    a1 := fun a => (h.a1 a).alloc _
    b0 := fun a b => (h.b0 a b).alloc _
    b1 := fun a => (h.b1 a).alloc _
    c0 := fun a b => (h.c0 a b).alloc _
    c1 := fun a => (h.c1 a).alloc _
    sab00 := fun _ _ c d => Sep.newl (h.b0 c d)
    sac00 := fun _ _ c d => Sep.newl (h.c0 c d) }
theorem CyF.st4 {s n1 n2 n3 : Nat} {wp : World} {v1 v2 v3 : Value} {xs1 xs2 xs3 : List Value} {l0 l1 l2 l3 l5 l6 l7 l8 l9 l10 l11 l12 l13 : Bool} {u3 u4 u5 u6 u7 u8 u9 u10 u11 u12 u13 u14 u15 : Value} {x : World} (h : CyF s n1 n2 n3 wp v1 v2 v3 xs1 xs2 xs3 l0 l1 l2 l3 false l5 l6 l7 l8 l9 l10 l11 l12 l13 u3 u4 u5 u6 u7 u8 u9 u10 u11 u12 u13 u14 u15 x) : CyF s n1 n2 n3 wp v1 v2 v3 xs1 xs2 xs3 l0 l1 l2 l3 true l5 l6 l7 l8 l9 l10 l11 l12 l13 u3 u4 u5 u6 (.slice (some ⟨x.heap.size, 0, none⟩) 0 0) u8 u9 u10 u11 u12 u13 u14 u15 (x.alloc (.cells #[] 71)) := by
  have hsz := h.sz
  have ba : Below x.heap.size x (x.alloc (.cells #[] 71)) := below_alloc (Below.refl _ _) _
  exact { h with
    bel := h.bel.alloc (by omega) _
    sz := Nat.le_trans hsz ba.size
    res := h.res.imp (fun r => r.below ba) id
    fin := fun q => (h.fin q).below ba
    a0 := fun a b => (h.a0 a b).alloc _
    a1 := fun a => (h.a1 a).alloc _
    b0 := fun _ _ => World.ownsRow_made x #[] 0 hsz (by unfold maxLen; omega) rfl
    b1 := fun a => (h.b1 a).alloc _
    c0 := fun a b => (h.c0 a b).alloc _
    c1 := fun a => (h.c1 a).alloc _
    sab00 := fun a b _ _ => Sep.newr (h.a0 a b)
    sab10 := fun a _ _ => Sep.newr (h.a1 a)
    sbc00 := fun _ _ c d => Sep.newl (h.c0 c d) }
theorem CyF.st8 {s n1 n2 n3 : Nat} {wp : World} {v1 v2 v3 : Value} {xs1 xs2 xs3 : List Value} {l0 l1 l2 l3 l4 l5 l6 l7 l9 l10 l11 l12 l13 : Bool} {u3 u4 u5 u6 u7 u8 u9 u10 u11 u12 u13 u14 u15 : Value} {x : World} (h : CyF s n1 n2 n3 wp v1 v2 v3 xs1 xs2 xs3 l0 l1 l2 l3 l4 l5 l6 l7 false l9 l10 l11 l12 l13 u3 u4 u5 u6 u7 u8 u9 u10 u11 u12 u13 u14 u15 x) : CyF s n1 n2 n3 wp v1 v2 v3 xs1 xs2 xs3 l0 l1 l2 l3 l4 l5 l6 l7 true l9 l10 l11 l12 l13 u3 u4 u5 u6 u7 u8 u9 u10 (.slice (some ⟨x.heap.size, 0, none⟩) 0 0) u12 u13 u14 u15 (x.alloc (.cells #[] 50)) := by
  have hsz := h.sz
  have ba : Below x.heap.size x (x.alloc (.cells #[] 50)) := below_alloc (Below.refl _ _) _
  exact { h with
    bel := h.bel.alloc (by omega) _
    sz := Nat.le_trans hsz ba.size
    res := h.res.imp (fun r => r.below ba) id
    fin := fun q => (h.fin q).below ba
    a0 := fun a b => (h.a0 a b).alloc _
    a1 := fun a => (h.a1 a).alloc _
    b0 := fun a b => (h.b0 a b).alloc _
    b1 := fun a => (h.b1 a).alloc _
    c0 := fun _ _ => World.ownsRow_made x #[] 0 hsz (by unfold maxLen; omega) rfl
    c1 := fun a => (h.c1 a).alloc _
    sac00 := fun a b _ _ => Sep.newr (h.a0 a b)
    sac10 := fun a _ _ => Sep.newr (h.a1 a)
    sbc00 := fun a b _ _ => Sep.newr (h.b0 a b)
    sbc10 := fun a _ _ => Sep.newr (h.b1 a) }
theorem CyF.st3 {s n1 n2 n3 : Nat} {wp : World} {v1 v2 v3 : Value} {xs1 xs2 xs3 : List Value} {l1 l4 l5 l6 l7 l8 l9 l10 l11 l12 l13 : Bool} {u3 u4 u5 u6 u7 u8 u9 u10 u11 u12 u13 u14 u15 : Value} {x : World} {y : World} {v : Value} (h : CyF s n1 n2 n3 wp v1 v2 v3 xs1 xs2 xs3 true l1 true false l4 l5 l6 l7 l8 l9 l10 l11 l12 l13 u3 u4 u5 u6 u7 u8 u9 u10 u11 u12 u13 u14 u15 x) (ho : y.ownsRow (s + 2) 71 2 v n1 xs1) (hg : x.grownBy y u3.ownBlock) (hl : v.ownBlock = u3.ownBlock ∨ v.ownBlock = some x.heap.size) : CyF s n1 n2 n3 wp v1 v2 v3 xs1 xs2 xs3 true l1 true true l4 l5 l6 l7 l8 l9 l10 l11 l12 l13 u3 u4 u5 v u7 u8 u9 u10 u11 u12 u13 u14 u15 y := by
  have hsz := h.sz
  have own := h.a0 rfl rfl
  have lo : ∀ k, u3.ownBlock = some k → s + 2 ≤ k := fun k hk => (own.lt k hk).1
  have nx : l7 = true → False := fun q => by have := h.d7 q; cases this
  exact { h with
    bel := h.bel.grown hg (by omega) (fun k hk => by have := lo k hk; omega)
    sz := Nat.le_trans hsz hg.size
    res := h.res.imp (fun r => r.grown hg (fun q => by have := lo _ q.symm; omega)) id
    a0 := fun _ q => by cases q
    a1 := fun _ => ho
    b0 := fun a b => (h.b0 a b).kept hg (Sep.en (h.sab00 rfl rfl a b))
    b1 := fun q => (nx q).elim
    c0 := fun a b => (h.c0 a b).kept hg (Sep.en (h.sac00 rfl rfl a b))
    c1 := fun q => (nx (h.d11 q)).elim
    sab00 := fun _ q => by cases q
    sab10 := fun _ a b => Sep.grow (h.sab00 rfl rfl a b) hl (h.b0 a b)
    sab11 := fun q => (nx q).elim
    sac00 := fun _ q => by cases q
    sac10 := fun _ a b => Sep.grow (h.sac00 rfl rfl a b) hl (h.c0 a b)
    sac11 := fun q => (nx (h.d11 q)).elim
    d7 := fun _ => rfl
    q15 := fun q => (nx (h.d11 (h.d12 q))).elim
    fin := fun q => (nx (h.d11 (h.d12 (h.d13 q)))).elim }
theorem CyF.st7 {s n1 n2 n3 : Nat} {wp : World} {v1 v2 v3 : Value} {xs1 xs2 xs3 : List Value} {l0 l1 l2 l5 l8 l9 l10 l11 l12 l13 : Bool} {u3 u4 u5 u6 u7 u8 u9 u10 u11 u12 u13 u14 u15 : Value} {x : World} {y : World} {v : Value} (h : CyF s n1 n2 n3 wp v1 v2 v3 xs1 xs2 xs3 l0 l1 l2 true true l5 true false l8 l9 l10 l11 l12 l13 u3 u4 u5 u6 u7 u8 u9 u10 u11 u12 u13 u14 u15 x) (ho : y.ownsRow (s + 2) 71 2 v n2 xs2) (hg : x.grownBy y u7.ownBlock) (hl : v.ownBlock = u7.ownBlock ∨ v.ownBlock = some x.heap.size) : CyF s n1 n2 n3 wp v1 v2 v3 xs1 xs2 xs3 l0 l1 l2 true true l5 true true l8 l9 l10 l11 l12 l13 u3 u4 u5 u6 u7 u8 u9 v u11 u12 u13 u14 u15 y := by
  have hsz := h.sz
  have own := h.b0 rfl rfl
  have lo : ∀ k, u7.ownBlock = some k → s + 2 ≤ k := fun k hk => (own.lt k hk).1
  have nx : l11 = true → False := fun q => by have := h.d11 q; cases this
  exact { h with
    bel := h.bel.grown hg (by omega) (fun k hk => by have := lo k hk; omega)
    sz := Nat.le_trans hsz hg.size
    res := h.res.imp (fun r => r.grown hg (fun q => by have := lo _ q.symm; omega)) id
    a0 := fun _ q => by cases q
    a1 := fun _ => (h.a1 rfl).kept hg (Sep.ne (h.sab10 rfl rfl rfl))
    b0 := fun _ q => by cases q
    b1 := fun _ => ho
    c0 := fun a b => (h.c0 a b).kept hg (Sep.en (h.sbc00 rfl rfl a b))
    c1 := fun q => (nx q).elim
    sab00 := fun _ _ _ q => by cases q
    sab10 := fun _ _ q => by cases q
    sab11 := fun _ => Sep.growr (h.sab10 rfl rfl rfl) hl (h.a1 rfl)
    sbc00 := fun _ q => by cases q
    sbc10 := fun _ a b => Sep.grow (h.sbc00 rfl rfl a b) hl (h.c0 a b)
    sbc11 := fun q => (nx q).elim
    d7 := fun _ => rfl
    d11 := fun _ => rfl
    q15 := fun q => (nx (h.d12 q)).elim
    fin := fun q => (nx (h.d12 (h.d13 q))).elim }
theorem CyF.st11 {s n1 n2 n3 : Nat} {wp : World} {v1 v2 v3 : Value} {xs1 xs2 xs3 : List Value} {l0 l1 l2 l3 l4 l5 l6 l9 l12 l13 : Bool} {u3 u4 u5 u6 u7 u8 u9 u10 u11 u12 u13 u14 u15 : Value} {x : World} {y : World} {v : Value} (h : CyF s n1 n2 n3 wp v1 v2 v3 xs1 xs2 xs3 l0 l1 l2 l3 l4 l5 l6 true true l9 true false l12 l13 u3 u4 u5 u6 u7 u8 u9 u10 u11 u12 u13 u14 u15 x) (ho : y.ownsRow (s + 2) 50 4 v n3 xs3) (hg : x.grownBy y u11.ownBlock) (hl : v.ownBlock = u11.ownBlock ∨ v.ownBlock = some x.heap.size) : CyF s n1 n2 n3 wp v1 v2 v3 xs1 xs2 xs3 l0 l1 l2 l3 l4 l5 l6 true true l9 true true l12 l13 u3 u4 u5 u6 u7 u8 u9 u10 u11 u12 u13 v u15 y := by
  have hz3 : l3 = true := h.d7 rfl
  subst hz3
  have hsz := h.sz
  have own := h.c0 rfl rfl
  have lo : ∀ k, u11.ownBlock = some k → s + 2 ≤ k := fun k hk => (own.lt k hk).1
  have nx : l12 = true → False := fun q => by have := h.d12 q; cases this
  exact { h with
    bel := h.bel.grown hg (by omega) (fun k hk => by have := lo k hk; omega)
    sz := Nat.le_trans hsz hg.size
    res := h.res.imp (fun r => r.grown hg (fun q => by have := lo _ q.symm; omega)) id
    a0 := fun _ q => by cases q
    a1 := fun _ => (h.a1 rfl).kept hg (Sep.ne (h.sac10 rfl rfl rfl))
    b0 := fun _ q => by cases q
    b1 := fun _ => (h.b1 rfl).kept hg (Sep.ne (h.sbc10 rfl rfl rfl))
    c0 := fun _ q => by cases q
    c1 := fun _ => ho
    sac00 := fun _ _ _ q => by cases q
    sac10 := fun _ _ q => by cases q
    sac11 := fun _ => Sep.growr (h.sac10 rfl rfl rfl) hl (h.a1 rfl)
    sbc00 := fun _ _ _ q => by cases q
    sbc10 := fun _ _ q => by cases q
    sbc11 := fun _ => Sep.growr (h.sbc10 rfl rfl rfl) hl (h.b1 rfl)
    d11 := fun _ => rfl
    d12 := fun _ => rfl
    q15 := fun q => (nx q).elim
    fin := fun q => (nx (h.d13 q)).elim }
theorem CyF.st13 {s n1 n2 n3 : Nat} {wp : World} {v1 v2 v3 : Value} {xs1 xs2 xs3 : List Value} {u3 u4 u5 u6 u7 u8 u9 u10 u11 u12 u13 u14 u15 : Value} {x : World} (h : CyF s n1 n2 n3 wp v1 v2 v3 xs1 xs2 xs3 true true true true true true true true true true true true true false u3 u4 u5 u6 u7 u8 u9 u10 u11 u12 u13 u14 u15 x) : CyF s n1 n2 n3 wp v1 v2 v3 xs1 xs2 xs3 true true true true true true true true true true true true true true u3 u4 u5 u6 u7 u8 u9 u10 u11 u12 u13 u14 u15 (((x.setCell ⟨s + 1, 0, none⟩ u6).setCell ⟨s + 1, 1, none⟩ u10).setCell ⟨s + 1, 2, none⟩ u14) := by
  have hsz := h.sz
  have R := h.res.resolve_right (by simp)
  have hna : u6.ownBlock = none ∨ u6.ownBlock ≠ some (s + 1) := .inr (fun q => by have := ((h.a1 rfl).lt _ q).1; omega)
  have hnb : u10.ownBlock = none ∨ u10.ownBlock ≠ some (s + 1) := .inr (fun q => by have := ((h.b1 rfl).lt _ q).1; omega)
  have hnc : u14.ownBlock = none ∨ u14.ownBlock ≠ some (s + 1) := .inr (fun q => by have := ((h.c1 rfl).lt _ q).1; omega)
  exact { h with
    bel := ((h.bel.setCell (p := ⟨s + 1, 0, none⟩) (Nat.le_refl _) _).setCell (p := ⟨s + 1, 1, none⟩) (Nat.le_refl _) _).setCell (p := ⟨s + 1, 2, none⟩) (Nat.le_refl _) _
    sz := by simpa [World.setCell] using hsz
    res := .inr rfl
    a0 := fun _ q => by cases q
    a1 := fun _ => (((h.a1 rfl).kept (grown_set _ _ _ _) hna).kept (grown_set _ _ _ _) hna).kept (grown_set _ _ _ _) hna
    b0 := fun _ q => by cases q
    b1 := fun _ => (((h.b1 rfl).kept (grown_set _ _ _ _) hnb).kept (grown_set _ _ _ _) hnb).kept (grown_set _ _ _ _) hnb
    c0 := fun _ q => by cases q
    c1 := fun _ => (((h.c1 rfl).kept (grown_set _ _ _ _) hnc).kept (grown_set _ _ _ _) hnc).kept (grown_set _ _ _ _) hnc
    d13 := fun _ => rfl
    fin := fun _ => ((R.set 0 u6 (by simp)).set 1 u10 (by simp)).set 2 u14 (by simp) }
set_option maxHeartbeats 8000000 in
theorem l8Copy_any (la sa oa : Option Addr) (lc sc oc : Nat) (live safe : List Fl) (ops : List Dp) (w : World) (n1 : live.length ≤ 1048576) (n2 : safe.length ≤ 1048576) (n3 : ops.length ≤ 1048576) (hc1 : la = none → lc = 0) (hc2 : sa = none → sc = 0) (hc3 : oa = none → oc = 0) (h : DkAt w la sa oa live safe ops) :
    Calls Tryz.prog 24 #[.agg #[.slice la live.length lc, .slice sa safe.length sc, .slice oa ops.length oc]] w fun e w' => DiskV live safe ops w e w' := by
  have HL : Hid _ := hide h
  have HC1 : Hid _ := hide hc1
  have HC2 : Hid _ := hide hc2
  have HC3 : Hid _ := hide hc3
  have HZ : Hid _ := hide (And.intro n1 (And.intro n2 n3))
  clear h hc1 hc2 hc3 n1 n2 n3
  obtain ⟨w1, hwa⟩ : ∃ wa, wa = (w.alloc (.cells #[.slice la live.length lc, .slice sa safe.length sc, .slice oa ops.length oc] 27)).alloc (.cells #[.slice none 0 0, .slice none 0 0, .slice none 0 0] 27) := ⟨_, rfl⟩
  have HW : Hid ((w.alloc (.cells #[.slice la live.length lc, .slice sa safe.length sc, .slice oa ops.length oc] 27)).alloc (.cells #[.slice none 0 0, .slice none 0 0, .slice none 0 0] 27) = w1) := hide hwa.symm
  have KX1 : Hid (Blk w.heap.size [.slice la live.length lc, .slice sa safe.length sc, .slice oa ops.length oc] w1) := hide (by rw [hwa]; exact Blk.new.alloc _)
  have KR1 : Hid (Blk (w.heap.size + 1) [.slice none 0 0, .slice none 0 0, .slice none 0 0] w1) := hide (by rw [hwa]; exact (by simpa using Blk.new (w := w.alloc (.cells #[.slice la live.length lc, .slice sa safe.length sc, .slice oa ops.length oc] 27)) (cur := [.slice none 0 0, .slice none 0 0, .slice none 0 0]) (T := 27)))
  have HX1 : Hid (Below w.heap.size w w1 ∧ w.heap.size + 2 ≤ w1.heap.size) := hide ⟨by rw [hwa]; exact below_alloc (below_alloc (Below.refl _ _) _) _, by rw [hwa]; simp⟩
  clear hwa
  obtain ⟨i0, hi0, hz0, hz1, hz2⟩ := info_parts infoF
  have hu := huF
  obtain ⟨j0, hj0, hy0, hy1, hy2⟩ := info_parts infoO
  have hv := huO
  have HN1 : Hid _ := hide (HL.out.r1.news_any flLen (by decide))
  have HN2 : Hid _ := hide (HL.out.r2.news_any flLen (by decide))
  have HN3 : Hid _ := hide (HL.out.r3.news_any dpLen (by decide))
  go_enter Tryz.func24, Tryz.ntmps24
  go_wp2_with fail
  rw [HW.out]
  have HB1 : Hid (Below (w.heap.size + 1) w1 w1.drew) := hide (Below.refl _ _).drew
  have HSZ : Hid (w.heap.size + 2 ≤ w1.drew.heap.size) := hide HX1.out.2
  have HR : Hid (Blk (w.heap.size + 1) [.slice none 0 0, .slice none 0 0, .slice none 0 0] w1.drew) := hide (KR1.out.below (Below.refl _ _).drew)
  rename_i hK0
  refine wp_region_inv (by kernel_rfl) (fun L act x => ∃ l0 l1 l2 l3 l4 l5 l6 l7 l8 l9 l10 l11 l12 l13 : Bool, ∃ u3 u4 u5 u6 u7 u8 u9 u10 u11 u12 u13 u14 u15 : Value, L = #[l0, l1, l2, l3, l4, l5, l6, l7, l8, l9, l10, l11, l12, l13] ∧ act = { tmps := #[Value.agg #[Value.slice la live.length lc, Value.slice sa safe.length sc, Value.slice oa ops.length oc], Value.pointer (some { block := w.heap.size, off := 0 }), Value.pointer (some { block := w.heap.size + 1, off := 0 }), u3, u4, u5, u6, u7, u8, u9, u10, u11, u12, u13, u14, u15], defers := [] } ∧ CyF w.heap.size live.length safe.length ops.length w1 (.slice la live.length lc) (.slice sa safe.length sc) (.slice oa ops.length oc) (live.flatMap flCells) (safe.flatMap flCells) (ops.flatMap dpCells) l0 l1 l2 l3 l4 l5 l6 l7 l8 l9 l10 l11 l12 l13 u3 u4 u5 u6 u7 u8 u9 u10 u11 u12 u13 u14 u15 x) ?_ ?_ ?_
  rotate_left 2
  · exact ⟨false, false, false, false, false, false, false, false, false, false, false, false, false, false, (undef), (undef), (undef), (undef), (undef), (undef), (undef), (undef), (undef), (undef), (undef), (undef), (undef), rfl, rfl, ⟨HB1.out, HSZ.out, .inl HR.out, fun q => (by cases q), fun q => (by cases q), fun q => (by cases q), fun q => (by cases q), fun q => (by cases q), fun q => (by cases q), fun q => (by cases q), fun q => (by cases q), fun q => (by cases q), fun q => (by cases q), fun q => (by cases q), fun q => (by cases q), fun q => (by cases q), fun q => (by cases q), fun q => (by cases q), fun q => (by cases q), fun q => (by cases q), fun q => (by cases q), fun q => (by cases q), fun q => (by cases q), fun q => (by cases q), fun q => (by cases q), fun q => (by cases q), fun q => (by cases q), fun q => (by cases q), fun q => (by cases q), fun q => (by cases q)⟩⟩
  · rintro L act x i ⟨l0, l1, l2, l3, l4, l5, l6, l7, l8, l9, l10, l11, l12, l13, u3, u4, u5, u6, u7, u8, u9, u10, u11, u12, u13, u14, u15, rfl, rfl, h⟩ hi K hK
    have hi15 : i < 14 := by
      obtain ⟨_, o, ho, _⟩ := mem_ready.1 hi
      exact (Array.getElem?_eq_some_iff.1 ho).1
    have hl := (mem_ready.1 hi).1
    obtain rfl | rfl | rfl | rfl | rfl | rfl | rfl | rfl | rfl | rfl | rfl | rfl | rfl | rfl := (by omega : i = 0 ∨ i = 1 ∨ i = 2 ∨ i = 3 ∨ i = 4 ∨ i = 5 ∨ i = 6 ∨ i = 7 ∨ i = 8 ∨ i = 9 ∨ i = 10 ∨ i = 11 ∨ i = 12 ∨ i = 13)
    · have e : l0 = false := hl
      subst e
      refine wpOp_run (v := .slice (some ⟨x.heap.size, 0, none⟩) 0 0) (w' := x.alloc (.cells #[] 71)) (by rfl) (by rfl) ?_ (hK _ _ ⟨true, l1, l2, l3, l4, l5, l6, l7, l8, l9, l10, l11, l12, l13, (.slice (some ⟨x.heap.size, 0, none⟩) 0 0), u4, u5, u6, u7, u8, u9, u10, u11, u12, u13, u14, u15, rfl, rfl, h.st0⟩)
      go_simp
    · have e : l1 = false := hl
      subst e
      refine wpOp_run (v := .pointer (some ⟨w.heap.size, 0, none⟩)) (w' := x) (by rfl) (by rfl) ?_ (hK _ _ ⟨l0, true, l2, l3, l4, l5, l6, l7, l8, l9, l10, l11, l12, l13, u3, (.pointer (some ⟨w.heap.size, 0, none⟩)), u5, u6, u7, u8, u9, u10, u11, u12, u13, u14, u15, rfl, rfl, { h with p4 := fun _ => rfl }⟩)
      go_simp
    · have e : l2 = false := hl
      subst e
      have d1 : l1 = true := ready_on hi 1 (by kernel_rfl)
      subst d1
      have c0 : x.cell? ⟨w.heap.size, 0, none⟩ = some (.slice la live.length lc) := (h.bel.cell (by show w.heap.size < _; omega)).trans (KX1.out.c 0 _ rfl)
      refine wpOp_run (v := .slice la live.length lc) (w' := x) (by rfl) (by rfl) ?_ (hK _ _ ⟨l0, true, true, l3, l4, l5, l6, l7, l8, l9, l10, l11, l12, l13, u3, u4, (.slice la live.length lc), u6, u7, u8, u9, u10, u11, u12, u13, u14, u15, rfl, rfl, { h with p5 := fun _ => rfl }⟩)
      rw [h.p4 rfl]
      go_simp
    · have e : l3 = false := hl
      subst e
      have d0 : l0 = true := ready_on hi 0 (by kernel_rfl)
      subst d0
      have d2 : l2 = true := ready_on hi 2 (by kernel_rfl)
      subst d2
      have hsz := h.sz
      have HZ1 := HZ.out.1
      obtain ⟨v', y, hr, ho, hg, hlie⟩ := run_append_any (P := Tryz.prog) (w := x) (w.heap.size + 2) 24 24 71 i0 _ 2 32 hu hi0 hz0 hz1 hz2 rfl (by decide) _ 0 [] (h.a0 rfl rfl) la live.length lc (live.flatMap flCells) (flat_len flCells 2 flLen live) (fun e => ⟨row_none HL.out.r1 e, HC1.out e⟩) (fun ad had j u hj => below_keeps (HX1.out.1.trans (h.bel.mono (by omega))) _ _ (HN1.out ad had j u hj)) (fl_one live) (by unfold maxLen; omega) (by omega) hsz
      rw [Nat.zero_add, List.nil_append] at ho
      refine wpOp_run (v := v') (w' := y) (by rfl) (by rfl) ?_ (hK _ _ ⟨true, l1, true, true, l4, l5, l6, l7, l8, l9, l10, l11, l12, l13, u3, u4, u5, (v'), u7, u8, u9, u10, u11, u12, u13, u14, u15, rfl, rfl, h.st3 ho hg hlie⟩)
      exact exec_append rfl (by rfl) (h.p5 rfl) hr
    · have e : l4 = false := hl
      subst e
      refine wpOp_run (v := .slice (some ⟨x.heap.size, 0, none⟩) 0 0) (w' := x.alloc (.cells #[] 71)) (by rfl) (by rfl) ?_ (hK _ _ ⟨l0, l1, l2, l3, true, l5, l6, l7, l8, l9, l10, l11, l12, l13, u3, u4, u5, u6, (.slice (some ⟨x.heap.size, 0, none⟩) 0 0), u8, u9, u10, u11, u12, u13, u14, u15, rfl, rfl, h.st4⟩)
      go_simp
    · have e : l5 = false := hl
      subst e
      refine wpOp_run (v := .pointer (some ⟨w.heap.size, 1, none⟩)) (w' := x) (by rfl) (by rfl) ?_ (hK _ _ ⟨l0, l1, l2, l3, l4, true, l6, l7, l8, l9, l10, l11, l12, l13, u3, u4, u5, u6, u7, (.pointer (some ⟨w.heap.size, 1, none⟩)), u9, u10, u11, u12, u13, u14, u15, rfl, rfl, { h with p8 := fun _ => rfl }⟩)
      go_simp
    · have e : l6 = false := hl
      subst e
      have d5 : l5 = true := ready_on hi 5 (by kernel_rfl)
      subst d5
      have c0 : x.cell? ⟨w.heap.size, 1, none⟩ = some (.slice sa safe.length sc) := (h.bel.cell (by show w.heap.size < _; omega)).trans (KX1.out.c 1 _ rfl)
      refine wpOp_run (v := .slice sa safe.length sc) (w' := x) (by rfl) (by rfl) ?_ (hK _ _ ⟨l0, l1, l2, l3, l4, true, true, l7, l8, l9, l10, l11, l12, l13, u3, u4, u5, u6, u7, u8, (.slice sa safe.length sc), u10, u11, u12, u13, u14, u15, rfl, rfl, { h with p9 := fun _ => rfl }⟩)
      rw [h.p8 rfl]
      go_simp
    · have e : l7 = false := hl
      subst e
      have d3 : l3 = true := ready_on hi 3 (by kernel_rfl)
      subst d3
      have d4 : l4 = true := ready_on hi 4 (by kernel_rfl)
      subst d4
      have d6 : l6 = true := ready_on hi 6 (by kernel_rfl)
      subst d6
      have hsz := h.sz
      have HZ1 := HZ.out.2.1
      obtain ⟨v', y, hr, ho, hg, hlie⟩ := run_append_any (P := Tryz.prog) (w := x) (w.heap.size + 2) 24 24 71 i0 _ 2 32 hu hi0 hz0 hz1 hz2 rfl (by decide) _ 0 [] (h.b0 rfl rfl) sa safe.length sc (safe.flatMap flCells) (flat_len flCells 2 flLen safe) (fun e => ⟨row_none HL.out.r2 e, HC2.out e⟩) (fun ad had j u hj => below_keeps (HX1.out.1.trans (h.bel.mono (by omega))) _ _ (HN2.out ad had j u hj)) (fl_one safe) (by unfold maxLen; omega) (by omega) hsz
      rw [Nat.zero_add, List.nil_append] at ho
      refine wpOp_run (v := v') (w' := y) (by rfl) (by rfl) ?_ (hK _ _ ⟨l0, l1, l2, true, true, l5, true, true, l8, l9, l10, l11, l12, l13, u3, u4, u5, u6, u7, u8, u9, (v'), u11, u12, u13, u14, u15, rfl, rfl, h.st7 ho hg hlie⟩)
      exact exec_append rfl (by rfl) (h.p9 rfl) hr
    · have e : l8 = false := hl
      subst e
      refine wpOp_run (v := .slice (some ⟨x.heap.size, 0, none⟩) 0 0) (w' := x.alloc (.cells #[] 50)) (by rfl) (by rfl) ?_ (hK _ _ ⟨l0, l1, l2, l3, l4, l5, l6, l7, true, l9, l10, l11, l12, l13, u3, u4, u5, u6, u7, u8, u9, u10, (.slice (some ⟨x.heap.size, 0, none⟩) 0 0), u12, u13, u14, u15, rfl, rfl, h.st8⟩)
      go_simp
    · have e : l9 = false := hl
      subst e
      refine wpOp_run (v := .pointer (some ⟨w.heap.size, 2, none⟩)) (w' := x) (by rfl) (by rfl) ?_ (hK _ _ ⟨l0, l1, l2, l3, l4, l5, l6, l7, l8, true, l10, l11, l12, l13, u3, u4, u5, u6, u7, u8, u9, u10, u11, (.pointer (some ⟨w.heap.size, 2, none⟩)), u13, u14, u15, rfl, rfl, { h with p12 := fun _ => rfl }⟩)
      go_simp
    · have e : l10 = false := hl
      subst e
      have d9 : l9 = true := ready_on hi 9 (by kernel_rfl)
      subst d9
      have c0 : x.cell? ⟨w.heap.size, 2, none⟩ = some (.slice oa ops.length oc) := (h.bel.cell (by show w.heap.size < _; omega)).trans (KX1.out.c 2 _ rfl)
      refine wpOp_run (v := .slice oa ops.length oc) (w' := x) (by rfl) (by rfl) ?_ (hK _ _ ⟨l0, l1, l2, l3, l4, l5, l6, l7, l8, true, true, l11, l12, l13, u3, u4, u5, u6, u7, u8, u9, u10, u11, u12, (.slice oa ops.length oc), u14, u15, rfl, rfl, { h with p13 := fun _ => rfl }⟩)
      rw [h.p12 rfl]
      go_simp
    · have e : l11 = false := hl
      subst e
      have d7 : l7 = true := ready_on hi 7 (by kernel_rfl)
      subst d7
      have d8 : l8 = true := ready_on hi 8 (by kernel_rfl)
      subst d8
      have d10 : l10 = true := ready_on hi 10 (by kernel_rfl)
      subst d10
      have hsz := h.sz
      have HZ1 := HZ.out.2.2
      obtain ⟨v', y, hr, ho, hg, hlie⟩ := run_append_any (P := Tryz.prog) (w := x) (w.heap.size + 2) 25 25 50 j0 _ 4 56 hv hj0 hy0 hy1 hy2 rfl (by decide) _ 0 [] (h.c0 rfl rfl) oa ops.length oc (ops.flatMap dpCells) (flat_len dpCells 4 dpLen ops) (fun e => ⟨row_none HL.out.r3 e, HC3.out e⟩) (fun ad had j u hj => below_keeps (HX1.out.1.trans (h.bel.mono (by omega))) _ _ (HN3.out ad had j u hj)) (dp_one ops) (by unfold maxLen; omega) (by omega) hsz
      rw [Nat.zero_add, List.nil_append] at ho
      refine wpOp_run (v := v') (w' := y) (by rfl) (by rfl) ?_ (hK _ _ ⟨l0, l1, l2, l3, l4, l5, l6, true, true, l9, true, true, l12, l13, u3, u4, u5, u6, u7, u8, u9, u10, u11, u12, u13, (v'), u15, rfl, rfl, h.st11 ho hg hlie⟩)
      exact exec_append rfl (by rfl) (h.p13 rfl) hr
    · have e : l12 = false := hl
      subst e
      have d3 : l3 = true := ready_on hi 3 (by kernel_rfl)
      subst d3
      have d7 : l7 = true := ready_on hi 7 (by kernel_rfl)
      subst d7
      have d11 : l11 = true := ready_on hi 11 (by kernel_rfl)
      subst d11
      obtain ⟨a4, c4, e4⟩ := row_shape (h.a1 rfl)
      obtain ⟨a5, c5, e5⟩ := row_shape (h.b1 rfl)
      obtain ⟨a6, c6, e6⟩ := row_shape (h.c1 rfl)
      refine wpOp_run (v := .agg #[u6, u10, u14]) (w' := x) (by rfl) (by rfl) ?_ (hK _ _ ⟨l0, l1, l2, true, l4, l5, l6, true, l8, l9, l10, true, true, l13, u3, u4, u5, u6, u7, u8, u9, u10, u11, u12, u13, u14, (.agg #[u6, u10, u14]), rfl, rfl, { h with q15 := fun _ => rfl, d12 := fun _ => rfl, d13 := fun _ => rfl }⟩)
      rw [e4, e5, e6]
      go_simp
    · have e : l13 = false := hl
      subst e
      have d0 : l0 = true := ready_on hi 0 (by kernel_rfl)
      subst d0
      have d1 : l1 = true := ready_on hi 1 (by kernel_rfl)
      subst d1
      have d2 : l2 = true := ready_on hi 2 (by kernel_rfl)
      subst d2
      have d3 : l3 = true := ready_on hi 3 (by kernel_rfl)
      subst d3
      have d4 : l4 = true := ready_on hi 4 (by kernel_rfl)
      subst d4
      have d5 : l5 = true := ready_on hi 5 (by kernel_rfl)
      subst d5
      have d6 : l6 = true := ready_on hi 6 (by kernel_rfl)
      subst d6
      have d7 : l7 = true := ready_on hi 7 (by kernel_rfl)
      subst d7
      have d8 : l8 = true := ready_on hi 8 (by kernel_rfl)
      subst d8
      have d9 : l9 = true := ready_on hi 9 (by kernel_rfl)
      subst d9
      have d10 : l10 = true := ready_on hi 10 (by kernel_rfl)
      subst d10
      have d11 : l11 = true := ready_on hi 11 (by kernel_rfl)
      subst d11
      have d12 : l12 = true := ready_on hi 12 (by kernel_rfl)
      subst d12
      obtain ⟨a4, c4, e4⟩ := row_shape (h.a1 rfl)
      obtain ⟨a5, c5, e5⟩ := row_shape (h.b1 rfl)
      obtain ⟨a6, c6, e6⟩ := row_shape (h.c1 rfl)
      have R := h.res.resolve_right (by simp)
      have r0 := R.c 0 _ rfl
      have r1 := R.c 1 _ rfl
      have r2 := R.c 2 _ rfl
      have f0 := R.f 0
      have f1 := R.f 1
      have f2 := R.f 2
      refine wpOp_skip (w' := (((x.setCell ⟨w.heap.size + 1, 0, none⟩ u6).setCell ⟨w.heap.size + 1, 1, none⟩ u10).setCell ⟨w.heap.size + 1, 2, none⟩ u14)) (by rfl) (by rfl) ?_ (hK _ _ ⟨true, true, true, true, true, true, true, true, true, true, true, true, true, true, u3, u4, u5, u6, u7, u8, u9, u10, u11, u12, u13, u14, u15, rfl, rfl, h.st13⟩)
      rw [h.q15 rfl, e4, e5, e6]
      go_simp
  · rintro L act x ⟨l0, l1, l2, l3, l4, l5, l6, l7, l8, l9, l10, l11, l12, l13, u3, u4, u5, u6, u7, u8, u9, u10, u11, u12, u13, u14, u15, rfl, rfl, h⟩ hr
    have hall := ready_all hr rfl (by decide)
    have t0 : l0 = true := hall 0 (by decide)
    have t1 : l1 = true := hall 1 (by decide)
    have t2 : l2 = true := hall 2 (by decide)
    have t3 : l3 = true := hall 3 (by decide)
    have t4 : l4 = true := hall 4 (by decide)
    have t5 : l5 = true := hall 5 (by decide)
    have t6 : l6 = true := hall 6 (by decide)
    have t7 : l7 = true := hall 7 (by decide)
    have t8 : l8 = true := hall 8 (by decide)
    have t9 : l9 = true := hall 9 (by decide)
    have t10 : l10 = true := hall 10 (by decide)
    have t11 : l11 = true := hall 11 (by decide)
    have t12 : l12 = true := hall 12 (by decide)
    have t13 : l13 = true := hall 13 (by decide)
    subst t0 t1 t2 t3 t4 t5 t6 t7 t8 t9 t10 t11 t12 t13
    clear hall hr
    have kY := h.fin rfl
    have z0 := kY.c 0 _ rfl
    have z1 := kY.c 1 _ rfl
    have z2 := kY.c 2 _ rfl
    have HE : Hid (DiskV live safe ops w (.returned (.agg #[u6, u10, u14])) x) := hide ⟨HX1.out.1.trans (h.bel.mono (by omega)), u6, u10, u14, rfl, own_mono (h.a1 rfl) (by omega), own_mono (h.b1 rfl) (by omega), own_mono (h.c1 rfl) (by omega), h.sab11 rfl, h.sac11 rfl, h.sbc11 rfl⟩
    obtain ⟨a4, c4, e4⟩ := row_shape (h.a1 rfl)
    obtain ⟨a5, c5, e5⟩ := row_shape (h.b1 rfl)
    obtain ⟨a6, c6, e6⟩ := row_shape (h.c1 rfl)
    rw [e4] at z0 HE
    rw [e5] at z1 HE
    rw [e6] at z2 HE
    clear h kY e4 e5 e6
    refine hK0 _ _ ?_
    go_wp2
    exact bodyPost_ret (v := .agg #[.slice a4 live.length c4, .slice a5 safe.length c5, .slice a6 ops.length c6]) (by simp [results, Tryz.results24, go_sem, z0, z1, z2]) rfl HE.out
end Go.Proofs.YtiilkkdbifhojaaGreat
/- slices.Clone of files and of operations, the program's diskCopy. -/
namespace Go.Proofs.YtiilkkdbifhojaaGreat
open Go.ChangeShapes Go.WideShapes Go.ChangeAt Go.RowKit
set_option linter.unusedVariables false
set_option maxRecDepth 100000
def NewO (l : List Dp) (w : World) (e : Ending) (w' : World) : Prop := Below w.heap.size w w' ∧ ∃ v, e = .returned v ∧ w'.ownsRow w.heap.size 50 4 v l.length (l.flatMap dpCells)
set_option maxHeartbeats 2000000 in
theorem cloneF_own (a : Option Addr) (l : List Fl) (cap : Nat) (w : World) (hl : l.length ≤ 1048576) (hc : a = none → cap = 0) (h : RowAt 2 flCells w a l) :
    Calls Tryz.prog 39 #[.slice a l.length cap] w fun e w' => NewF l w e w' := by
  obtain ⟨i0, hi0, hz0, hz1, hz2⟩ := info_parts infoF
  have hu := huF
  have HN : Hid _ := hide (h.news_any flLen (by decide))
  cases a with
  | none =>
    have e0 : l = [] := List.eq_nil_of_length_eq_zero (row_none h rfl)
    subst e0
    obtain rfl := hc rfl
    clear h
    have he : ∀ w : World, (binOp .eql 24 (.slice none 0 0) (.slice none 0 0)).run Tryz.prog w = .ok (.bool true) w := fun _ => rfl
    go_enter Tryz.func39, Tryz.ntmps39
    go_wp2
    go_ret
    exact ⟨Below.refl _ _, _, rfl, ⟨by simp, .inl ⟨rfl, rfl⟩⟩⟩
  | some ad =>
    clear h
    have he : ∀ w : World, (binOp .eql 24 (.slice (some ad) l.length cap) (.slice none 0 0)).run Tryz.prog w = .ok (.bool false) w := fun _ => rfl
    go_enter Tryz.func39, Tryz.ntmps39
    go_wp2_with (first | (at_builtin; refine Shut2.mk ?_) | go_in)
    refine Shut2.mk' ?_
    refine wpList_append_own_at _ rfl _ _ 24 rfl w.heap.size 71 i0 _ 2 32 hu hi0 hz0 hz1 hz2 rfl (by decide) _ 0 [] rfl ?own ad l.length cap (l.flatMap flCells) rfl (flat_len flCells 2 flLen l) ?news (fl_one l) (by unfold maxLen; omega) (by omega) ?base ?_
    case own => exact World.ownsRow_made w #[] 0 (Nat.le_refl _) (by unfold maxLen; omega) rfl
    case news => exact fun j u hj => (World.grownBy_alloc w _ none).cell (HN.out ad rfl j u hj) (by simp)
    case base => simp
    intro v' w1 hown' hgrow hnil hloc
    have HB : Hid (Below w.heap.size w w1) := hide (below_grown hgrow (below_alloc (Below.refl _ _) _) (fun j hj => by cases hj; exact Nat.le_refl _))
    have HO : Hid _ := hide hown'
    clear hown' hgrow hnil hloc
    go_wp2
    go_ret
    have ho := HO.out
    rw [List.nil_append, Nat.zero_add] at ho
    exact ⟨HB.out, v', rfl, ho⟩
set_option maxHeartbeats 2000000 in
theorem cloneO_own (a : Option Addr) (l : List Dp) (cap : Nat) (w : World) (hl : l.length ≤ 1048576) (hc : a = none → cap = 0) (h : RowAt 4 dpCells w a l) :
    Calls Tryz.prog 40 #[.slice a l.length cap] w fun e w' => NewO l w e w' := by
  obtain ⟨i0, hi0, hz0, hz1, hz2⟩ := info_parts infoO
  have hu := huO
  have HN : Hid _ := hide (h.news_any dpLen (by decide))
  cases a with
  | none =>
    have e0 : l = [] := List.eq_nil_of_length_eq_zero (row_none h rfl)
    subst e0
    obtain rfl := hc rfl
    clear h
    have he : ∀ w : World, (binOp .eql 25 (.slice none 0 0) (.slice none 0 0)).run Tryz.prog w = .ok (.bool true) w := fun _ => rfl
    go_enter Tryz.func40, Tryz.ntmps40
    go_wp2
    go_ret
    exact ⟨Below.refl _ _, _, rfl, ⟨by simp, .inl ⟨rfl, rfl⟩⟩⟩
  | some ad =>
    clear h
    have he : ∀ w : World, (binOp .eql 25 (.slice (some ad) l.length cap) (.slice none 0 0)).run Tryz.prog w = .ok (.bool false) w := fun _ => rfl
    go_enter Tryz.func40, Tryz.ntmps40
    go_wp2_with (first | (at_builtin; refine Shut2.mk ?_) | go_in)
    refine Shut2.mk' ?_
    refine wpList_append_own_at _ rfl _ _ 25 rfl w.heap.size 50 i0 _ 4 56 hu hi0 hz0 hz1 hz2 rfl (by decide) _ 0 [] rfl ?own ad l.length cap (l.flatMap dpCells) rfl (flat_len dpCells 4 dpLen l) ?news (dp_one l) (by unfold maxLen; omega) (by omega) ?base ?_
    case own => exact World.ownsRow_made w #[] 0 (Nat.le_refl _) (by unfold maxLen; omega) rfl
    case news => exact fun j u hj => (World.grownBy_alloc w _ none).cell (HN.out ad rfl j u hj) (by simp)
    case base => simp
    intro v' w1 hown' hgrow hnil hloc
    have HB : Hid (Below w.heap.size w w1) := hide (below_grown hgrow (below_alloc (Below.refl _ _) _) (fun j hj => by cases hj; exact Nat.le_refl _))
    have HO : Hid _ := hide hown'
    clear hown' hgrow hnil hloc
    go_wp2
    go_ret
    have ho := HO.out
    rw [List.nil_append, Nat.zero_add] at ho
    exact ⟨HB.out, v', rfl, ho⟩
/-- what holds in the midst of its region -/
structure CzF (s n1 n2 n3 : Nat) (wp : World) (v1 v2 v3 : Value) (xs1 xs2 xs3 : List Value) (l0 l1 l2 l3 l4 l5 l6 l7 l8 l9 l10 : Bool) (u3 u4 u5 u6 u7 u8 u9 u10 u11 u12 : Value) (x : World) : Prop where
  bel : Below (s + 1) wp x
  sz : s + 2 ≤ x.heap.size
  res : Blk (s + 1) [.slice none 0 0, .slice none 0 0, .slice none 0 0] x ∨ l10 = true
  a1 : l2 = true → x.ownsRow (s + 2) 71 2 u5 n1 xs1
  b1 : l5 = true → x.ownsRow (s + 2) 71 2 u8 n2 xs2
  c1 : l8 = true → x.ownsRow (s + 2) 50 4 u11 n3 xs3
  sab : l2 = true → l5 = true → Sep u5 u8
  sac : l2 = true → l8 = true → Sep u5 u11
  sbc : l5 = true → l8 = true → Sep u8 u11
  d5 : l5 = true → l2 = true
  d8 : l8 = true → l5 = true
  d9 : l9 = true → l8 = true
  d10 : l10 = true → l9 = true
  q12 : l9 = true → u12 = .agg #[u5, u8, u11]
  fin : l10 = true → Blk (s + 1) [u5, u8, u11] x
  p3 : l0 = true → u3 = .pointer (some ⟨s, 0, none⟩)
  p4 : l1 = true → u4 = v1
  p6 : l3 = true → u6 = .pointer (some ⟨s, 1, none⟩)
  p7 : l4 = true → u7 = v2
  p9 : l6 = true → u9 = .pointer (some ⟨s, 2, none⟩)
  p10 : l7 = true → u10 = v3
theorem CzF.st2 {s n1 n2 n3 : Nat} {wp : World} {v1 v2 v3 : Value} {xs1 xs2 xs3 : List Value} {l0 l3 l4 l5 l6 l7 l8 l9 l10 : Bool} {u3 u4 u5 u6 u7 u8 u9 u10 u11 u12 : Value} {x : World} {y : World} {v : Value} (h : CzF s n1 n2 n3 wp v1 v2 v3 xs1 xs2 xs3 l0 true false l3 l4 l5 l6 l7 l8 l9 l10 u3 u4 u5 u6 u7 u8 u9 u10 u11 u12 x) (hb : Below x.heap.size x y) (ho : y.ownsRow x.heap.size 71 2 v n1 xs1) : CzF s n1 n2 n3 wp v1 v2 v3 xs1 xs2 xs3 l0 true true l3 l4 l5 l6 l7 l8 l9 l10 u3 u4 v u6 u7 u8 u9 u10 u11 u12 y := by
  have hsz := h.sz
  have nx : l5 = true → False := fun q => by have := h.d5 q; cases this
  exact { h with
    bel := h.bel.trans (hb.mono (by omega))
    sz := Nat.le_trans hsz hb.size
    res := h.res.imp (fun r => r.below hb) id
    a1 := fun _ => own_mono ho hsz
    b1 := fun q => (nx q).elim
    c1 := fun q => (nx (h.d8 q)).elim
    sab := fun _ q => (nx q).elim
    sac := fun _ q => (nx (h.d8 q)).elim
    d5 := fun _ => rfl
    q12 := fun q => (nx (h.d8 (h.d9 q))).elim
    fin := fun q => (nx (h.d8 (h.d9 (h.d10 q)))).elim }
theorem CzF.st5 {s n1 n2 n3 : Nat} {wp : World} {v1 v2 v3 : Value} {xs1 xs2 xs3 : List Value} {l0 l1 l3 l6 l7 l8 l9 l10 : Bool} {u3 u4 u5 u6 u7 u8 u9 u10 u11 u12 : Value} {x : World} {y : World} {v : Value} (h : CzF s n1 n2 n3 wp v1 v2 v3 xs1 xs2 xs3 l0 l1 true l3 true false l6 l7 l8 l9 l10 u3 u4 u5 u6 u7 u8 u9 u10 u11 u12 x) (hb : Below x.heap.size x y) (ho : y.ownsRow x.heap.size 71 2 v n2 xs2) : CzF s n1 n2 n3 wp v1 v2 v3 xs1 xs2 xs3 l0 l1 true l3 true true l6 l7 l8 l9 l10 u3 u4 u5 u6 u7 v u9 u10 u11 u12 y := by
  have hsz := h.sz
  have nx : l8 = true → False := fun q => by have := h.d8 q; cases this
  exact { h with
    bel := h.bel.trans (hb.mono (by omega))
    sz := Nat.le_trans hsz hb.size
    res := h.res.imp (fun r => r.below hb) id
    a1 := fun q => own_keep (h.a1 q) hb
    b1 := fun _ => own_mono ho hsz
    c1 := fun q => (nx q).elim
    sab := fun a _ => Sep.old (h.a1 a) ho (Nat.le_refl _)
    sbc := fun _ q => (nx q).elim
    d5 := fun _ => rfl
    d8 := fun _ => rfl
    q12 := fun q => (nx (h.d9 q)).elim
    fin := fun q => (nx (h.d9 (h.d10 q))).elim }
theorem CzF.st8 {s n1 n2 n3 : Nat} {wp : World} {v1 v2 v3 : Value} {xs1 xs2 xs3 : List Value} {l0 l1 l2 l3 l4 l6 l9 l10 : Bool} {u3 u4 u5 u6 u7 u8 u9 u10 u11 u12 : Value} {x : World} {y : World} {v : Value} (h : CzF s n1 n2 n3 wp v1 v2 v3 xs1 xs2 xs3 l0 l1 l2 l3 l4 true l6 true false l9 l10 u3 u4 u5 u6 u7 u8 u9 u10 u11 u12 x) (hb : Below x.heap.size x y) (ho : y.ownsRow x.heap.size 50 4 v n3 xs3) : CzF s n1 n2 n3 wp v1 v2 v3 xs1 xs2 xs3 l0 l1 l2 l3 l4 true l6 true true l9 l10 u3 u4 u5 u6 u7 u8 u9 u10 v u12 y := by
  have hsz := h.sz
  have nx : l9 = true → False := fun q => by have := h.d9 q; cases this
  exact { h with
    bel := h.bel.trans (hb.mono (by omega))
    sz := Nat.le_trans hsz hb.size
    res := h.res.imp (fun r => r.below hb) id
    a1 := fun q => own_keep (h.a1 q) hb
    b1 := fun q => own_keep (h.b1 q) hb
    c1 := fun _ => own_mono ho hsz
    sac := fun a _ => Sep.old (h.a1 a) ho (Nat.le_refl _)
    sbc := fun a _ => Sep.old (h.b1 a) ho (Nat.le_refl _)
    d8 := fun _ => rfl
    d9 := fun _ => rfl
    q12 := fun q => (nx q).elim
    fin := fun q => (nx (h.d10 q)).elim }
theorem CzF.st10 {s n1 n2 n3 : Nat} {wp : World} {v1 v2 v3 : Value} {xs1 xs2 xs3 : List Value} {u3 u4 u5 u6 u7 u8 u9 u10 u11 u12 : Value} {x : World} (h : CzF s n1 n2 n3 wp v1 v2 v3 xs1 xs2 xs3 true true true true true true true true true true false u3 u4 u5 u6 u7 u8 u9 u10 u11 u12 x) : CzF s n1 n2 n3 wp v1 v2 v3 xs1 xs2 xs3 true true true true true true true true true true true u3 u4 u5 u6 u7 u8 u9 u10 u11 u12 (((x.setCell ⟨s + 1, 0, none⟩ u5).setCell ⟨s + 1, 1, none⟩ u8).setCell ⟨s + 1, 2, none⟩ u11) := by
  have hsz := h.sz
  have R := h.res.resolve_right (by simp)
  have hna : u5.ownBlock = none ∨ u5.ownBlock ≠ some (s + 1) := .inr (fun q => by have := ((h.a1 rfl).lt _ q).1; omega)
  have hnb : u8.ownBlock = none ∨ u8.ownBlock ≠ some (s + 1) := .inr (fun q => by have := ((h.b1 rfl).lt _ q).1; omega)
  have hnc : u11.ownBlock = none ∨ u11.ownBlock ≠ some (s + 1) := .inr (fun q => by have := ((h.c1 rfl).lt _ q).1; omega)
  exact { h with
    bel := ((h.bel.setCell (p := ⟨s + 1, 0, none⟩) (Nat.le_refl _) _).setCell (p := ⟨s + 1, 1, none⟩) (Nat.le_refl _) _).setCell (p := ⟨s + 1, 2, none⟩) (Nat.le_refl _) _
    sz := by simpa [World.setCell] using hsz
    res := .inr rfl
    a1 := fun _ => (((h.a1 rfl).kept (grown_set _ _ _ _) hna).kept (grown_set _ _ _ _) hna).kept (grown_set _ _ _ _) hna
    b1 := fun _ => (((h.b1 rfl).kept (grown_set _ _ _ _) hnb).kept (grown_set _ _ _ _) hnb).kept (grown_set _ _ _ _) hnb
    c1 := fun _ => (((h.c1 rfl).kept (grown_set _ _ _ _) hnc).kept (grown_set _ _ _ _) hnc).kept (grown_set _ _ _ _) hnc
    d10 := fun _ => rfl
    fin := fun _ => ((R.set 0 u5 (by simp)).set 1 u8 (by simp)).set 2 u11 (by simp) }
set_option maxHeartbeats 8000000 in
theorem diskCopy_any (la sa oa : Option Addr) (lc sc oc : Nat) (live safe : List Fl) (ops : List Dp) (w : World) (n1 : live.length ≤ 1048576) (n2 : safe.length ≤ 1048576) (n3 : ops.length ≤ 1048576) (hc1 : la = none → lc = 0) (hc2 : sa = none → sc = 0) (hc3 : oa = none → oc = 0) (h : DkAt w la sa oa live safe ops) :
    Calls Tryz.prog 20 #[.agg #[.slice la live.length lc, .slice sa safe.length sc, .slice oa ops.length oc]] w fun e w' => DiskV live safe ops w e w' := by
  have HL : Hid _ := hide h
  have HC1 : Hid _ := hide hc1
  have HC2 : Hid _ := hide hc2
  have HC3 : Hid _ := hide hc3
  have HZ : Hid _ := hide (And.intro n1 (And.intro n2 n3))
  clear h hc1 hc2 hc3 n1 n2 n3
  obtain ⟨w1, hwa⟩ : ∃ wa, wa = (w.alloc (.cells #[.slice la live.length lc, .slice sa safe.length sc, .slice oa ops.length oc] 27)).alloc (.cells #[.slice none 0 0, .slice none 0 0, .slice none 0 0] 27) := ⟨_, rfl⟩
  have HW : Hid ((w.alloc (.cells #[.slice la live.length lc, .slice sa safe.length sc, .slice oa ops.length oc] 27)).alloc (.cells #[.slice none 0 0, .slice none 0 0, .slice none 0 0] 27) = w1) := hide hwa.symm
  have KX1 : Hid (Blk w.heap.size [.slice la live.length lc, .slice sa safe.length sc, .slice oa ops.length oc] w1) := hide (by rw [hwa]; exact Blk.new.alloc _)
  have KR1 : Hid (Blk (w.heap.size + 1) [.slice none 0 0, .slice none 0 0, .slice none 0 0] w1) := hide (by rw [hwa]; exact (by simpa using Blk.new (w := w.alloc (.cells #[.slice la live.length lc, .slice sa safe.length sc, .slice oa ops.length oc] 27)) (cur := [.slice none 0 0, .slice none 0 0, .slice none 0 0]) (T := 27)))
  have HX1 : Hid (Below w.heap.size w w1 ∧ w.heap.size + 2 ≤ w1.heap.size) := hide ⟨by rw [hwa]; exact below_alloc (below_alloc (Below.refl _ _) _) _, by rw [hwa]; simp⟩
  clear hwa
  go_enter Tryz.func20, Tryz.ntmps20
  go_wp2_with fail
  rw [HW.out]
  have HB1 : Hid (Below (w.heap.size + 1) w1 w1.drew) := hide (Below.refl _ _).drew
  have HSZ : Hid (w.heap.size + 2 ≤ w1.drew.heap.size) := hide HX1.out.2
  have HR : Hid (Blk (w.heap.size + 1) [.slice none 0 0, .slice none 0 0, .slice none 0 0] w1.drew) := hide (KR1.out.below (Below.refl _ _).drew)
  rename_i hK0
  refine wp_region_inv (by kernel_rfl) (fun L act x => ∃ l0 l1 l2 l3 l4 l5 l6 l7 l8 l9 l10 : Bool, ∃ u3 u4 u5 u6 u7 u8 u9 u10 u11 u12 : Value, L = #[l0, l1, l2, l3, l4, l5, l6, l7, l8, l9, l10] ∧ act = { tmps := #[Value.agg #[Value.slice la live.length lc, Value.slice sa safe.length sc, Value.slice oa ops.length oc], Value.pointer (some { block := w.heap.size, off := 0 }), Value.pointer (some { block := w.heap.size + 1, off := 0 }), u3, u4, u5, u6, u7, u8, u9, u10, u11, u12], defers := [] } ∧ CzF w.heap.size live.length safe.length ops.length w1 (.slice la live.length lc) (.slice sa safe.length sc) (.slice oa ops.length oc) (live.flatMap flCells) (safe.flatMap flCells) (ops.flatMap dpCells) l0 l1 l2 l3 l4 l5 l6 l7 l8 l9 l10 u3 u4 u5 u6 u7 u8 u9 u10 u11 u12 x) ?_ ?_ ?_
  rotate_left 2
  · exact ⟨false, false, false, false, false, false, false, false, false, false, false, (undef), (undef), (undef), (undef), (undef), (undef), (undef), (undef), (undef), (undef), rfl, rfl, ⟨HB1.out, HSZ.out, .inl HR.out, fun q => (by cases q), fun q => (by cases q), fun q => (by cases q), fun q => (by cases q), fun q => (by cases q), fun q => (by cases q), fun q => (by cases q), fun q => (by cases q), fun q => (by cases q), fun q => (by cases q), fun q => (by cases q), fun q => (by cases q), fun q => (by cases q), fun q => (by cases q), fun q => (by cases q), fun q => (by cases q), fun q => (by cases q), fun q => (by cases q)⟩⟩
  · rintro L act x i ⟨l0, l1, l2, l3, l4, l5, l6, l7, l8, l9, l10, u3, u4, u5, u6, u7, u8, u9, u10, u11, u12, rfl, rfl, h⟩ hi K hK
    have hi15 : i < 11 := by
      obtain ⟨_, o, ho, _⟩ := mem_ready.1 hi
      exact (Array.getElem?_eq_some_iff.1 ho).1
    have hl := (mem_ready.1 hi).1
    obtain rfl | rfl | rfl | rfl | rfl | rfl | rfl | rfl | rfl | rfl | rfl := (by omega : i = 0 ∨ i = 1 ∨ i = 2 ∨ i = 3 ∨ i = 4 ∨ i = 5 ∨ i = 6 ∨ i = 7 ∨ i = 8 ∨ i = 9 ∨ i = 10)
    · have e : l0 = false := hl
      subst e
      refine wpOp_run (v := .pointer (some ⟨w.heap.size, 0, none⟩)) (w' := x) (by rfl) (by rfl) ?_ (hK _ _ ⟨true, l1, l2, l3, l4, l5, l6, l7, l8, l9, l10, (.pointer (some ⟨w.heap.size, 0, none⟩)), u4, u5, u6, u7, u8, u9, u10, u11, u12, rfl, rfl, { h with p3 := fun _ => rfl }⟩)
      go_simp
    · have e : l1 = false := hl
      subst e
      have d0 : l0 = true := ready_on hi 0 (by kernel_rfl)
      subst d0
      have c0 : x.cell? ⟨w.heap.size, 0, none⟩ = some (.slice la live.length lc) := (h.bel.cell (by show w.heap.size < _; omega)).trans (KX1.out.c 0 _ rfl)
      refine wpOp_run (v := .slice la live.length lc) (w' := x) (by rfl) (by rfl) ?_ (hK _ _ ⟨true, true, l2, l3, l4, l5, l6, l7, l8, l9, l10, u3, (.slice la live.length lc), u5, u6, u7, u8, u9, u10, u11, u12, rfl, rfl, { h with p4 := fun _ => rfl }⟩)
      rw [h.p3 rfl]
      go_simp
    · have e : l2 = false := hl
      subst e
      have d1 : l1 = true := ready_on hi 1 (by kernel_rfl)
      subst d1
      refine wpOp_call (by rfl) (by rfl) ?_ (cloneF_own la live lc x (HZ.out.1) (HC1.out) (HL.out.r1.below (HX1.out.1.trans (h.bel.mono (by omega))))) ?_
      · rw [h.p4 rfl]; go_simp
      · rintro e w' ⟨hb, v', rfl, ho⟩
        exact ⟨_, rfl, hK _ _ ⟨l0, true, true, l3, l4, l5, l6, l7, l8, l9, l10, u3, u4, (v'), u6, u7, u8, u9, u10, u11, u12, rfl, rfl, h.st2 hb ho⟩⟩
    · have e : l3 = false := hl
      subst e
      refine wpOp_run (v := .pointer (some ⟨w.heap.size, 1, none⟩)) (w' := x) (by rfl) (by rfl) ?_ (hK _ _ ⟨l0, l1, l2, true, l4, l5, l6, l7, l8, l9, l10, u3, u4, u5, (.pointer (some ⟨w.heap.size, 1, none⟩)), u7, u8, u9, u10, u11, u12, rfl, rfl, { h with p6 := fun _ => rfl }⟩)
      go_simp
    · have e : l4 = false := hl
      subst e
      have d3 : l3 = true := ready_on hi 3 (by kernel_rfl)
      subst d3
      have c0 : x.cell? ⟨w.heap.size, 1, none⟩ = some (.slice sa safe.length sc) := (h.bel.cell (by show w.heap.size < _; omega)).trans (KX1.out.c 1 _ rfl)
      refine wpOp_run (v := .slice sa safe.length sc) (w' := x) (by rfl) (by rfl) ?_ (hK _ _ ⟨l0, l1, l2, true, true, l5, l6, l7, l8, l9, l10, u3, u4, u5, u6, (.slice sa safe.length sc), u8, u9, u10, u11, u12, rfl, rfl, { h with p7 := fun _ => rfl }⟩)
      rw [h.p6 rfl]
      go_simp
    · have e : l5 = false := hl
      subst e
      have d2 : l2 = true := ready_on hi 2 (by kernel_rfl)
      subst d2
      have d4 : l4 = true := ready_on hi 4 (by kernel_rfl)
      subst d4
      refine wpOp_call (by rfl) (by rfl) ?_ (cloneF_own sa safe sc x (HZ.out.2.1) (HC2.out) (HL.out.r2.below (HX1.out.1.trans (h.bel.mono (by omega))))) ?_
      · rw [h.p7 rfl]; go_simp
      · rintro e w' ⟨hb, v', rfl, ho⟩
        exact ⟨_, rfl, hK _ _ ⟨l0, l1, true, l3, true, true, l6, l7, l8, l9, l10, u3, u4, u5, u6, u7, (v'), u9, u10, u11, u12, rfl, rfl, h.st5 hb ho⟩⟩
    · have e : l6 = false := hl
      subst e
      refine wpOp_run (v := .pointer (some ⟨w.heap.size, 2, none⟩)) (w' := x) (by rfl) (by rfl) ?_ (hK _ _ ⟨l0, l1, l2, l3, l4, l5, true, l7, l8, l9, l10, u3, u4, u5, u6, u7, u8, (.pointer (some ⟨w.heap.size, 2, none⟩)), u10, u11, u12, rfl, rfl, { h with p9 := fun _ => rfl }⟩)
      go_simp
    · have e : l7 = false := hl
      subst e
      have d6 : l6 = true := ready_on hi 6 (by kernel_rfl)
      subst d6
      have c0 : x.cell? ⟨w.heap.size, 2, none⟩ = some (.slice oa ops.length oc) := (h.bel.cell (by show w.heap.size < _; omega)).trans (KX1.out.c 2 _ rfl)
      refine wpOp_run (v := .slice oa ops.length oc) (w' := x) (by rfl) (by rfl) ?_ (hK _ _ ⟨l0, l1, l2, l3, l4, l5, true, true, l8, l9, l10, u3, u4, u5, u6, u7, u8, u9, (.slice oa ops.length oc), u11, u12, rfl, rfl, { h with p10 := fun _ => rfl }⟩)
      rw [h.p9 rfl]
      go_simp
    · have e : l8 = false := hl
      subst e
      have d5 : l5 = true := ready_on hi 5 (by kernel_rfl)
      subst d5
      have d7 : l7 = true := ready_on hi 7 (by kernel_rfl)
      subst d7
      refine wpOp_call (by rfl) (by rfl) ?_ (cloneO_own oa ops oc x (HZ.out.2.2) (HC3.out) (HL.out.r3.below (HX1.out.1.trans (h.bel.mono (by omega))))) ?_
      · rw [h.p10 rfl]; go_simp
      · rintro e w' ⟨hb, v', rfl, ho⟩
        exact ⟨_, rfl, hK _ _ ⟨l0, l1, l2, l3, l4, true, l6, true, true, l9, l10, u3, u4, u5, u6, u7, u8, u9, u10, (v'), u12, rfl, rfl, h.st8 hb ho⟩⟩
    · have e : l9 = false := hl
      subst e
      have d2 : l2 = true := ready_on hi 2 (by kernel_rfl)
      subst d2
      have d5 : l5 = true := ready_on hi 5 (by kernel_rfl)
      subst d5
      have d8 : l8 = true := ready_on hi 8 (by kernel_rfl)
      subst d8
      obtain ⟨a4, c4, e4⟩ := row_shape (h.a1 rfl)
      obtain ⟨a5, c5, e5⟩ := row_shape (h.b1 rfl)
      obtain ⟨a6, c6, e6⟩ := row_shape (h.c1 rfl)
      refine wpOp_run (v := .agg #[u5, u8, u11]) (w' := x) (by rfl) (by rfl) ?_ (hK _ _ ⟨l0, l1, true, l3, l4, true, l6, l7, true, true, l10, u3, u4, u5, u6, u7, u8, u9, u10, u11, (.agg #[u5, u8, u11]), rfl, rfl, { h with q12 := fun _ => rfl, d9 := fun _ => rfl, d10 := fun _ => rfl }⟩)
      rw [e4, e5, e6]
      go_simp
    · have e : l10 = false := hl
      subst e
      have d0 : l0 = true := ready_on hi 0 (by kernel_rfl)
      subst d0
      have d1 : l1 = true := ready_on hi 1 (by kernel_rfl)
      subst d1
      have d2 : l2 = true := ready_on hi 2 (by kernel_rfl)
      subst d2
      have d3 : l3 = true := ready_on hi 3 (by kernel_rfl)
      subst d3
      have d4 : l4 = true := ready_on hi 4 (by kernel_rfl)
      subst d4
      have d5 : l5 = true := ready_on hi 5 (by kernel_rfl)
      subst d5
      have d6 : l6 = true := ready_on hi 6 (by kernel_rfl)
      subst d6
      have d7 : l7 = true := ready_on hi 7 (by kernel_rfl)
      subst d7
      have d8 : l8 = true := ready_on hi 8 (by kernel_rfl)
      subst d8
      have d9 : l9 = true := ready_on hi 9 (by kernel_rfl)
      subst d9
      obtain ⟨a4, c4, e4⟩ := row_shape (h.a1 rfl)
      obtain ⟨a5, c5, e5⟩ := row_shape (h.b1 rfl)
      obtain ⟨a6, c6, e6⟩ := row_shape (h.c1 rfl)
      have R := h.res.resolve_right (by simp)
      have r0 := R.c 0 _ rfl
      have r1 := R.c 1 _ rfl
      have r2 := R.c 2 _ rfl
      have f0 := R.f 0
      have f1 := R.f 1
      have f2 := R.f 2
      refine wpOp_skip (w' := (((x.setCell ⟨w.heap.size + 1, 0, none⟩ u5).setCell ⟨w.heap.size + 1, 1, none⟩ u8).setCell ⟨w.heap.size + 1, 2, none⟩ u11)) (by rfl) (by rfl) ?_ (hK _ _ ⟨true, true, true, true, true, true, true, true, true, true, true, u3, u4, u5, u6, u7, u8, u9, u10, u11, u12, rfl, rfl, h.st10⟩)
      rw [h.q12 rfl, e4, e5, e6]
      go_simp
  · rintro L act x ⟨l0, l1, l2, l3, l4, l5, l6, l7, l8, l9, l10, u3, u4, u5, u6, u7, u8, u9, u10, u11, u12, rfl, rfl, h⟩ hr
    have hall := ready_all hr rfl (by decide)
    have t0 : l0 = true := hall 0 (by decide)
    have t1 : l1 = true := hall 1 (by decide)
    have t2 : l2 = true := hall 2 (by decide)
    have t3 : l3 = true := hall 3 (by decide)
    have t4 : l4 = true := hall 4 (by decide)
    have t5 : l5 = true := hall 5 (by decide)
    have t6 : l6 = true := hall 6 (by decide)
    have t7 : l7 = true := hall 7 (by decide)
    have t8 : l8 = true := hall 8 (by decide)
    have t9 : l9 = true := hall 9 (by decide)
    have t10 : l10 = true := hall 10 (by decide)
    subst t0 t1 t2 t3 t4 t5 t6 t7 t8 t9 t10
    clear hall hr
    have kY := h.fin rfl
    have z0 := kY.c 0 _ rfl
    have z1 := kY.c 1 _ rfl
    have z2 := kY.c 2 _ rfl
    have HE : Hid (DiskV live safe ops w (.returned (.agg #[u5, u8, u11])) x) := hide ⟨HX1.out.1.trans (h.bel.mono (by omega)), u5, u8, u11, rfl, own_mono (h.a1 rfl) (by omega), own_mono (h.b1 rfl) (by omega), own_mono (h.c1 rfl) (by omega), h.sab rfl rfl, h.sac rfl rfl, h.sbc rfl rfl⟩
    obtain ⟨a4, c4, e4⟩ := row_shape (h.a1 rfl)
    obtain ⟨a5, c5, e5⟩ := row_shape (h.b1 rfl)
    obtain ⟨a6, c6, e6⟩ := row_shape (h.c1 rfl)
    rw [e4] at z0 HE
    rw [e5] at z1 HE
    rw [e6] at z2 HE
    clear h kY e4 e5 e6
    refine hK0 _ _ ?_
    go_wp2
    exact bodyPost_ret (v := .agg #[.slice a4 live.length c4, .slice a5 safe.length c5, .slice a6 ops.length c6]) (by simp [results, Tryz.results20, go_sem, z0, z1, z2]) rfl HE.out
end Go.Proofs.YtiilkkdbifhojaaGreat
/- The model's l8Act and Do. -/
namespace Go.Proofs.YtiilkkdbifhojaaGreat
open Go.ChangeShapes Go.WideShapes Go.ChangeAt Go.RowKit
set_option linter.unusedVariables false
set_option maxRecDepth 100000
theorem news4 {x : World} {g : Nat} {v0 v1 v2 v3 : Value} (c0 : x.cell? ⟨g, 0, none⟩ = some v0) (c1 : x.cell? ⟨g, 1, none⟩ = some v1) (c2 : x.cell? ⟨g, 2, none⟩ = some v2) (c3 : x.cell? ⟨g, 3, none⟩ = some v3) (j : Nat) (u : Value) (hj : [v0, v1, v2, v3][j]? = some u) : x.cell? ((⟨g, 0, none⟩ : Addr).add j) = some u := by
  rw [addr_add]
  match j, hj with
  | 0, hj => simp at hj; rw [← hj]; exact c0
  | 1, hj => simp at hj; rw [← hj]; exact c1
  | 2, hj => simp at hj; rw [← hj]; exact c2
  | 3, hj => simp at hj; rw [← hj]; exact c3
/-- the code that an operation gives on a right disk -/
def actC (live : List Fl) (ops : List Dp) (o : Dp) : Int := if formB o then (if (doL live o).2 then (if decide ((ops.length : Int) = 200) || !filesB (doL live o).1 then 4 else 0) else 3) else 2
def actL (live : List Fl) (ops : List Dp) (o : Dp) : List Fl := if actC live ops o = 0 then (doL live o).1 else live
def actO (live : List Fl) (ops : List Dp) (o : Dp) : List Dp := if actC live ops o = 0 then ops ++ [o] else ops
theorem act_no {live : List Fl} {ops : List Dp} {o : Dp} {c : Int} (h : actC live ops o = c) (hc : c ≠ 0) : actL live ops o = live ∧ actO live ops o = ops := by
  subst h
  exact ⟨if_neg hc, if_neg hc⟩
theorem act_yes {live : List Fl} {ops : List Dp} {o : Dp} (h : actC live ops o = 0) : actL live ops o = (doL live o).1 ∧ actO live ops o = ops ++ [o] := ⟨if_pos h, if_pos h⟩
def DiskC (c : Int) (L S : List Fl) (O : List Dp) (w : World) (e : Ending) (w' : World) : Prop := Below w.heap.size w w' ∧ ∃ v1 v2 v3, e = .returned (.tuple #[.agg #[v1, v2, v3], .int .i64 c]) ∧ RowsD w.heap.size L S O v1 v2 v3 w'
theorem shape_f {x : World} {base : Nat} {l : List Fl} {v : Value} (h : x.ownsRow base 71 2 v l.length (l.flatMap flCells)) : ∃ a c, v = .slice a l.length c ∧ (a = none → c = 0) := by
  obtain ⟨a, c, e, _, hn⟩ := own_read h
  exact ⟨a, c, e, hn⟩
theorem nil_cap {x : World} {base : Nat} {T : TypeId} {sz n : Nat} {a : Option Addr} {m c : Nat} {xs : List Value} (h : x.ownsRow base T sz (.slice a m c) n xs) : a = none → c = 0 := fun ha => by
  obtain ⟨_, ⟨h0, h1⟩ | ⟨g', cap', cur, h1, _⟩⟩ := h
  · simp only [Value.slice.injEq] at h0; exact h0.2.2
  · rw [ha] at h1; simp at h1
theorem row_dps {x : World} {base : Nat} {l : List Dp} {v : Value} (h : x.ownsRow base 50 4 v l.length (l.flatMap dpCells)) : ∃ a cap, v = .slice a l.length cap ∧ RowAt 4 dpCells x a l := by
  obtain ⟨g, a, cap, _, e, ho⟩ := own_of_row dpLen h
  exact ⟨a, cap, e, ho.rows⟩
/-- the rows of a disk, with their shapes -/
theorem RowsD.open {base : Nat} {L S : List Fl} {O : List Dp} {v1 v2 v3 : Value} {x : World} (h : RowsD base L S O v1 v2 v3 x) : ∃ a1 c1 a2 c2 a3 c3, v1 = .slice a1 L.length c1 ∧ v2 = .slice a2 S.length c2 ∧ v3 = .slice a3 O.length c3 := by
  obtain ⟨a1, c1, e1⟩ := row_shape h.r1
  obtain ⟨a2, c2, e2⟩ := row_shape h.r2
  obtain ⟨a3, c3, e3⟩ := row_shape h.r3
  exact ⟨a1, c1, a2, c2, a3, c3, e1, e2, e3⟩
theorem RowsD.at {base : Nat} {L S : List Fl} {O : List Dp} {a1 a2 a3 : Option Addr} {n1 n2 n3 c1 c2 c3 : Nat} {x : World} (h : RowsD base L S O (.slice a1 n1 c1) (.slice a2 n2 c2) (.slice a3 n3 c3) x) : DkAt x a1 a2 a3 L S O := by
  obtain ⟨b1, d1, e1, r1, _⟩ := own_read h.r1
  obtain ⟨b2, d2, e2, r2, _⟩ := own_read h.r2
  obtain ⟨b3, d3, e3, r3⟩ := row_dps h.r3
  simp only [Value.slice.injEq] at e1 e2 e3
  obtain ⟨rfl, _, _⟩ := e1
  obtain ⟨rfl, _, _⟩ := e2
  obtain ⟨rfl, _, _⟩ := e3
  exact ⟨r1, r2, r3⟩
theorem disk_end {w y : World} {base : Nat} {c : Int} {L S : List Fl} {O : List Dp} {u1 u2 u3 : Value} (hy : Below w.heap.size w y) (hs : w.heap.size + 3 ≤ base) (h : RowsD base L S O u1 u2 u3 y) :
    DiskC c L S O w (.returned (.tuple #[.agg #[u1, u2, u3], .int .i64 c])) (((y.setCell ⟨w.heap.size + 1 + 1, 0, none⟩ (u1)).setCell ⟨w.heap.size + 1 + 1, 1, none⟩ (u2)).setCell ⟨w.heap.size + 1 + 1, 2, none⟩ (u3)) :=
  ⟨((hy.setCell (p := ⟨w.heap.size + 1 + 1, 0, none⟩) (by show w.heap.size ≤ w.heap.size + 1 + 1; omega) _).setCell (p := ⟨w.heap.size + 1 + 1, 1, none⟩) (by show w.heap.size ≤ w.heap.size + 1 + 1; omega) _).setCell (p := ⟨w.heap.size + 1 + 1, 2, none⟩) (by show w.heap.size ≤ w.heap.size + 1 + 1; omega) _, u1, u2, u3, rfl, (((h.set (by omega)).set (by omega)).set (by omega)).mono (by omega)⟩
theorem disk_zero {w y : World} {c : Int} (hy : Below w.heap.size w y) :
    DiskC c [] [] [] w (.returned (.tuple #[.agg #[.slice none 0 0, .slice none 0 0, .slice none 0 0], .int .i64 c])) (((y.setCell ⟨w.heap.size + 1 + 1, 0, none⟩ (.slice none 0 0)).setCell ⟨w.heap.size + 1 + 1, 1, none⟩ (.slice none 0 0)).setCell ⟨w.heap.size + 1 + 1, 2, none⟩ (.slice none 0 0)) :=
  ⟨((hy.setCell (p := ⟨w.heap.size + 1 + 1, 0, none⟩) (by show w.heap.size ≤ w.heap.size + 1 + 1; omega) _).setCell (p := ⟨w.heap.size + 1 + 1, 1, none⟩) (by show w.heap.size ≤ w.heap.size + 1 + 1; omega) _).setCell (p := ⟨w.heap.size + 1 + 1, 2, none⟩) (by show w.heap.size ≤ w.heap.size + 1 + 1; omega) _, _, _, _, rfl, ⟨⟨by simp, .inl ⟨rfl, rfl⟩⟩, ⟨by simp, .inl ⟨rfl, rfl⟩⟩, ⟨by simp, .inl ⟨rfl, rfl⟩⟩, fun g hg => (by cases hg), fun g hg => (by cases hg), fun g hg => (by cases hg)⟩⟩
set_option maxHeartbeats 8000000 in
theorem l8Act_any (la sa oa : Option Addr) (lc sc oc : Nat) (live safe : List Fl) (ops : List Dp) (o : Dp) (w : World) (hf : filesB live = true) (n2 : safe.length ≤ 1048576) (n3 : ops.length ≤ 1000000) (ho : SmO o) (hc1 : la = none → lc = 0) (hc2 : sa = none → sc = 0) (hc3 : oa = none → oc = 0) (h : DkAt w la sa oa live safe ops) :
    Calls Tryz.prog 23 #[.agg #[.slice la live.length lc, .slice sa safe.length sc, .slice oa ops.length oc], .agg #[.int .i64 o.kind, .string o.nm, .string o.tn, .string o.da]] w fun e w' => DiskC (actC live ops o) (actL live ops o) safe (actO live ops o) w e w' := by
  have HL : Hid _ := hide h
  have HO : Hid _ := hide ho
  have HC1 : Hid _ := hide hc1
  have HC2 : Hid _ := hide hc2
  have HC3 : Hid _ := hide hc3
  have HF : Hid _ := hide hf
  have HZ : Hid (live.length ≤ 1048576 ∧ safe.length ≤ 1048576 ∧ ops.length ≤ 1048576) := hide ⟨by have := (filesB_parts hf).1; omega, n2, by omega⟩
  have HSM : Hid _ := hide (doL_small hf ho)
  have hn3 : (ops.length : Int) ≤ 1000000 := by omega
  clear hf n2 n3
  clear h ho hc1 hc2 hc3
  obtain ⟨w0, hwa⟩ : ∃ wa, wa = (((w.alloc (.cells #[.slice la live.length lc, .slice sa safe.length sc, .slice oa ops.length oc] 27)).alloc (.cells #[.int .i64 o.kind, .string o.nm, .string o.tn, .string o.da] 50)).alloc (.cells #[.slice none 0 0, .slice none 0 0, .slice none 0 0] 27)) := ⟨_, rfl⟩
  have HW : Hid ((((w.alloc (.cells #[.slice la live.length lc, .slice sa safe.length sc, .slice oa ops.length oc] 27)).alloc (.cells #[.int .i64 o.kind, .string o.nm, .string o.tn, .string o.da] 50)).alloc (.cells #[.slice none 0 0, .slice none 0 0, .slice none 0 0] 27)) = w0) := hide hwa.symm
  have KX0 : Hid (Blk w.heap.size [.slice la live.length lc, .slice sa safe.length sc, .slice oa ops.length oc] w0) := hide (by rw [hwa]; exact (Blk.new.alloc _).alloc _)
  have KO0 : Hid (Blk (w.heap.size + 1) [.int .i64 o.kind, .string o.nm, .string o.tn, .string o.da] w0) := hide (by rw [hwa]; exact Blk.alloc (by simpa using Blk.new (w := w.alloc (.cells #[.slice la live.length lc, .slice sa safe.length sc, .slice oa ops.length oc] 27)) (cur := [.int .i64 o.kind, .string o.nm, .string o.tn, .string o.da]) (T := 50)) _)
  have KR0 : Hid (Blk (w.heap.size + 1 + 1) [.slice none 0 0, .slice none 0 0, .slice none 0 0] w0) := hide (by rw [hwa]; exact (by simpa using Blk.new (w := (w.alloc (.cells #[.slice la live.length lc, .slice sa safe.length sc, .slice oa ops.length oc] 27)).alloc (.cells #[.int .i64 o.kind, .string o.nm, .string o.tn, .string o.da] 50)) (cur := [.slice none 0 0, .slice none 0 0, .slice none 0 0]) (T := 27)))
  have HX0 : Hid (Below w.heap.size w w0 ∧ w.heap.size + 3 ≤ w0.heap.size) := hide ⟨by rw [hwa]; exact below_alloc (below_alloc (below_alloc (Below.refl _ _) _) _) _, by rw [hwa]; simp⟩
  clear hwa
  go_enter Tryz.func23, Tryz.ntmps23
  go_wp2_with fail
  rw [HW.out]
  refine (l8Form_any o w0 HO.out).mono ?_
  rintro e w1 ⟨rfl, hb1⟩
  have HX1 : Hid (Below w.heap.size w w1 ∧ w.heap.size + 3 ≤ w1.heap.size) := hide ⟨below_trans HX0.out.1 hb1, Nat.le_trans HX0.out.2 hb1.size⟩
  have KX1 : Hid _ := hide (KX0.out.below hb1)
  have KO1 : Hid _ := hide (KO0.out.below hb1)
  have KR1 : Hid _ := hide (KR0.out.below hb1)
  clear hb1 KX0 KO0 KR0 HX0
  have x0 := KX1.out.c 0 _ rfl
  have x1 := KX1.out.c 1 _ rfl
  have x2 := KX1.out.c 2 _ rfl
  have o0 := KO1.out.c 0 _ rfl
  have o1 := KO1.out.c 1 _ rfl
  have o2 := KO1.out.c 2 _ rfl
  have o3 := KO1.out.c 3 _ rfl
  cases hfo : formB o
  · have HA : Hid (actC live ops o = 2) := hide (by simp [actC, hfo])
    have hd := HL.out.below HX1.out.1
    go_wp2_with fail
    refine (l8Copy_any la sa oa lc sc oc live safe ops w1 HZ.out.1 HZ.out.2.1 HZ.out.2.2 HC1.out HC2.out HC3.out hd).mono ?_
    rintro e wc ⟨hbc, v1, v2, v3, rfl, hrow⟩
    obtain ⟨a1, c1, a2, c2, a3, c3, rfl, rfl, rfl⟩ := hrow.open
    obtain ⟨eL, eO⟩ := act_no HA.out (by decide)
    have KRc := KR1.out.below hbc
    have HE : Hid (DiskC (actC live ops o) (actL live ops o) (safe) (actO live ops o) w (.returned (.tuple #[.agg #[.slice a1 live.length c1, .slice a2 safe.length c2, .slice a3 ops.length c3], .int .i64 (2)])) (((wc.setCell ⟨w.heap.size + 1 + 1, 0, none⟩ (.slice a1 live.length c1)).setCell ⟨w.heap.size + 1 + 1, 1, none⟩ (.slice a2 safe.length c2)).setCell ⟨w.heap.size + 1 + 1, 2, none⟩ (.slice a3 ops.length c3))) := hide (by
        rw [HA.out, eL, eO]
        exact disk_end (below_trans HX1.out.1 hbc) HX1.out.2 hrow)
    have HS : Hid (∃ Y, (((wc.setCell ⟨w.heap.size + 1 + 1, 0, none⟩ (.slice a1 live.length c1)).setCell ⟨w.heap.size + 1 + 1, 1, none⟩ (.slice a2 safe.length c2)).setCell ⟨w.heap.size + 1 + 1, 2, none⟩ (.slice a3 ops.length c3)) = Y ∧ Blk (w.heap.size + 1 + 1) [.slice a1 live.length c1, .slice a2 safe.length c2, .slice a3 ops.length c3] Y) := hide ⟨_, rfl, (((KRc).set 0 (.slice a1 live.length c1) (by simp)).set 1 (.slice a2 safe.length c2) (by simp)).set 2 (.slice a3 ops.length c3) (by simp)⟩
    have y0 := (KRc).c 0 _ rfl
    have y1 := (KRc).c 1 _ rfl
    have y2 := (KRc).c 2 _ rfl
    have f0 := (KRc).f 0
    have f1 := (KRc).f 1
    have f2 := (KRc).f 2
    clear hd KRc hbc hrow
    go_wp2
    obtain ⟨Y, hY, kY⟩ := HS.out
    rw [hY] at HE ⊢
    have z0 := kY.c 0 _ rfl
    have z1 := kY.c 1 _ rfl
    have z2 := kY.c 2 _ rfl
    exact bodyPost_ret (v := .tuple #[.agg #[.slice a1 live.length c1, .slice a2 safe.length c2, .slice a3 ops.length c3], .int .i64 (2)]) (by simp [results, Tryz.results23, go_sem, z0, z1, z2]) rfl HE.out
  · go_wp2_with fail
    refine (l8Do_any la live lc o w1 (by have := (filesB_parts HF.out).1; omega) HC1.out (fun f hf => by have := filesB_small HF.out f hf; exact ⟨by omega, by omega⟩) HO.out (HL.out.r1.below HX1.out.1)).mono ?_
    rintro e w2 ⟨hb2, v, rfl, hnr⟩
    obtain ⟨na, nc, rfl, hnn⟩ := shape_f hnr
    have HX2 : Hid (Below w.heap.size w w2 ∧ w.heap.size + 3 ≤ w2.heap.size) := hide ⟨below_trans HX1.out.1 hb2, Nat.le_trans HX1.out.2 hb2.size⟩
    have KX2 : Hid _ := hide (KX1.out.below hb2)
    have KO2 : Hid _ := hide (KO1.out.below hb2)
    have KR2 : Hid _ := hide (KR1.out.below hb2)
    have HNR : Hid _ := hide hnr
    have HNL : Hid (w.heap.size + 3 ≤ w1.heap.size) := hide HX1.out.2
    clear hb2 hnr hnn KX1 KO1 KR1 HX1 x0 x1 x2 o0 o1 o2 o3
    have x0 := KX2.out.c 0 _ rfl
    have x1 := KX2.out.c 1 _ rfl
    have x2 := KX2.out.c 2 _ rfl
    have o0 := KO2.out.c 0 _ rfl
    have o1 := KO2.out.c 1 _ rfl
    have o2 := KO2.out.c 2 _ rfl
    have o3 := KO2.out.c 3 _ rfl
    cases hdo : (doL live o).2
    · have HA : Hid (actC live ops o = 3) := hide (by simp [actC, hfo, hdo])
      have hd := HL.out.below HX2.out.1
      go_wp2_with fail
      refine (l8Copy_any la sa oa lc sc oc live safe ops w2 HZ.out.1 HZ.out.2.1 HZ.out.2.2 HC1.out HC2.out HC3.out hd).mono ?_
      rintro e wc ⟨hbc, v1, v2, v3, rfl, hrow⟩
      obtain ⟨a1, c1, a2, c2, a3, c3, rfl, rfl, rfl⟩ := hrow.open
      obtain ⟨eL, eO⟩ := act_no HA.out (by decide)
      have KRc := KR2.out.below hbc
      have HE : Hid (DiskC (actC live ops o) (actL live ops o) (safe) (actO live ops o) w (.returned (.tuple #[.agg #[.slice a1 live.length c1, .slice a2 safe.length c2, .slice a3 ops.length c3], .int .i64 (3)])) (((wc.setCell ⟨w.heap.size + 1 + 1, 0, none⟩ (.slice a1 live.length c1)).setCell ⟨w.heap.size + 1 + 1, 1, none⟩ (.slice a2 safe.length c2)).setCell ⟨w.heap.size + 1 + 1, 2, none⟩ (.slice a3 ops.length c3))) := hide (by
          rw [HA.out, eL, eO]
          exact disk_end (below_trans HX2.out.1 hbc) HX2.out.2 hrow)
      have HS : Hid (∃ Y, (((wc.setCell ⟨w.heap.size + 1 + 1, 0, none⟩ (.slice a1 live.length c1)).setCell ⟨w.heap.size + 1 + 1, 1, none⟩ (.slice a2 safe.length c2)).setCell ⟨w.heap.size + 1 + 1, 2, none⟩ (.slice a3 ops.length c3)) = Y ∧ Blk (w.heap.size + 1 + 1) [.slice a1 live.length c1, .slice a2 safe.length c2, .slice a3 ops.length c3] Y) := hide ⟨_, rfl, (((KRc).set 0 (.slice a1 live.length c1) (by simp)).set 1 (.slice a2 safe.length c2) (by simp)).set 2 (.slice a3 ops.length c3) (by simp)⟩
      have y0 := (KRc).c 0 _ rfl
      have y1 := (KRc).c 1 _ rfl
      have y2 := (KRc).c 2 _ rfl
      have f0 := (KRc).f 0
      have f1 := (KRc).f 1
      have f2 := (KRc).f 2
      clear hd KRc hbc hrow
      go_wp2
      obtain ⟨Y, hY, kY⟩ := HS.out
      rw [hY] at HE ⊢
      have z0 := kY.c 0 _ rfl
      have z1 := kY.c 1 _ rfl
      have z2 := kY.c 2 _ rfl
      exact bodyPost_ret (v := .tuple #[.agg #[.slice a1 live.length c1, .slice a2 safe.length c2, .slice a3 ops.length c3], .int .i64 (3)]) (by simp [results, Tryz.results23, go_sem, z0, z1, z2]) rfl HE.out
    · by_cases h200 : (ops.length : Int) = 200
      · have HA : Hid (actC live ops o = 4) := hide (by simp [actC, hfo, hdo, h200])
        have hd := HL.out.below HX2.out.1
        go_wp2_with fail
        refine (l8Copy_any la sa oa lc sc oc live safe ops w2 HZ.out.1 HZ.out.2.1 HZ.out.2.2 HC1.out HC2.out HC3.out hd).mono ?_
        rintro e wc ⟨hbc, v1, v2, v3, rfl, hrow⟩
        obtain ⟨a1, c1, a2, c2, a3, c3, rfl, rfl, rfl⟩ := hrow.open
        obtain ⟨eL, eO⟩ := act_no HA.out (by decide)
        have KRc := KR2.out.below hbc
        have HE : Hid (DiskC (actC live ops o) (actL live ops o) (safe) (actO live ops o) w (.returned (.tuple #[.agg #[.slice a1 live.length c1, .slice a2 safe.length c2, .slice a3 ops.length c3], .int .i64 (4)])) (((wc.setCell ⟨w.heap.size + 1 + 1, 0, none⟩ (.slice a1 live.length c1)).setCell ⟨w.heap.size + 1 + 1, 1, none⟩ (.slice a2 safe.length c2)).setCell ⟨w.heap.size + 1 + 1, 2, none⟩ (.slice a3 ops.length c3))) := hide (by
            rw [HA.out, eL, eO]
            exact disk_end (below_trans HX2.out.1 hbc) HX2.out.2 hrow)
        have HS : Hid (∃ Y, (((wc.setCell ⟨w.heap.size + 1 + 1, 0, none⟩ (.slice a1 live.length c1)).setCell ⟨w.heap.size + 1 + 1, 1, none⟩ (.slice a2 safe.length c2)).setCell ⟨w.heap.size + 1 + 1, 2, none⟩ (.slice a3 ops.length c3)) = Y ∧ Blk (w.heap.size + 1 + 1) [.slice a1 live.length c1, .slice a2 safe.length c2, .slice a3 ops.length c3] Y) := hide ⟨_, rfl, (((KRc).set 0 (.slice a1 live.length c1) (by simp)).set 1 (.slice a2 safe.length c2) (by simp)).set 2 (.slice a3 ops.length c3) (by simp)⟩
        have y0 := (KRc).c 0 _ rfl
        have y1 := (KRc).c 1 _ rfl
        have y2 := (KRc).c 2 _ rfl
        have f0 := (KRc).f 0
        have f1 := (KRc).f 1
        have f2 := (KRc).f 2
        clear hd KRc hbc hrow
        go_wp2
        obtain ⟨Y, hY, kY⟩ := HS.out
        rw [hY] at HE ⊢
        have z0 := kY.c 0 _ rfl
        have z1 := kY.c 1 _ rfl
        have z2 := kY.c 2 _ rfl
        exact bodyPost_ret (v := .tuple #[.agg #[.slice a1 live.length c1, .slice a2 safe.length c2, .slice a3 ops.length c3], .int .i64 (4)]) (by simp [results, Tryz.results23, go_sem, z0, z1, z2]) rfl HE.out
      · have HRW : Hid _ := hide (own_read HNR.out)
        go_wp2_with fail
        refine (l8Files_any na (doL live o).1 nc w2 (by have := HSM.out.2; omega) HSM.out.1.up (by
          obtain ⟨a', c', e', r', _⟩ := HRW.out
          simp only [Value.slice.injEq] at e'
          obtain ⟨rfl, _, _⟩ := e'
          exact r')).mono ?_
        rintro e w3 ⟨rfl, hb3⟩
        have HX3 : Hid (Below w.heap.size w w3 ∧ w.heap.size + 3 ≤ w3.heap.size) := hide ⟨below_trans HX2.out.1 hb3, Nat.le_trans HX2.out.2 hb3.size⟩
        have KX3 : Hid _ := hide (KX2.out.below hb3)
        have KO3 : Hid _ := hide (KO2.out.below hb3)
        have KR3 : Hid _ := hide (KR2.out.below hb3)
        have HNR3 : Hid _ := hide (own_keep HNR.out hb3)
        clear hb3 HNR KX2 KO2 KR2 HX2 HRW x0 x1 x2 o0 o1 o2 o3
        have x0 := KX3.out.c 0 _ rfl
        have x1 := KX3.out.c 1 _ rfl
        have x2 := KX3.out.c 2 _ rfl
        have o0 := KO3.out.c 0 _ rfl
        have o1 := KO3.out.c 1 _ rfl
        have o2 := KO3.out.c 2 _ rfl
        have o3 := KO3.out.c 3 _ rfl
        cases hfl : filesB (doL live o).1
        · have HA : Hid (actC live ops o = 4) := hide (by simp [actC, hfo, hdo, hfl])
          have hd := HL.out.below HX3.out.1
          go_wp2_with fail
          refine (l8Copy_any la sa oa lc sc oc live safe ops w3 HZ.out.1 HZ.out.2.1 HZ.out.2.2 HC1.out HC2.out HC3.out hd).mono ?_
          rintro e wc ⟨hbc, v1, v2, v3, rfl, hrow⟩
          obtain ⟨a1, c1, a2, c2, a3, c3, rfl, rfl, rfl⟩ := hrow.open
          obtain ⟨eL, eO⟩ := act_no HA.out (by decide)
          have KRc := KR3.out.below hbc
          have HE : Hid (DiskC (actC live ops o) (actL live ops o) (safe) (actO live ops o) w (.returned (.tuple #[.agg #[.slice a1 live.length c1, .slice a2 safe.length c2, .slice a3 ops.length c3], .int .i64 (4)])) (((wc.setCell ⟨w.heap.size + 1 + 1, 0, none⟩ (.slice a1 live.length c1)).setCell ⟨w.heap.size + 1 + 1, 1, none⟩ (.slice a2 safe.length c2)).setCell ⟨w.heap.size + 1 + 1, 2, none⟩ (.slice a3 ops.length c3))) := hide (by
              rw [HA.out, eL, eO]
              exact disk_end (below_trans HX3.out.1 hbc) HX3.out.2 hrow)
          have HS : Hid (∃ Y, (((wc.setCell ⟨w.heap.size + 1 + 1, 0, none⟩ (.slice a1 live.length c1)).setCell ⟨w.heap.size + 1 + 1, 1, none⟩ (.slice a2 safe.length c2)).setCell ⟨w.heap.size + 1 + 1, 2, none⟩ (.slice a3 ops.length c3)) = Y ∧ Blk (w.heap.size + 1 + 1) [.slice a1 live.length c1, .slice a2 safe.length c2, .slice a3 ops.length c3] Y) := hide ⟨_, rfl, (((KRc).set 0 (.slice a1 live.length c1) (by simp)).set 1 (.slice a2 safe.length c2) (by simp)).set 2 (.slice a3 ops.length c3) (by simp)⟩
          have y0 := (KRc).c 0 _ rfl
          have y1 := (KRc).c 1 _ rfl
          have y2 := (KRc).c 2 _ rfl
          have f0 := (KRc).f 0
          have f1 := (KRc).f 1
          have f2 := (KRc).f 2
          clear hd KRc hbc hrow
          go_wp2
          obtain ⟨Y, hY, kY⟩ := HS.out
          rw [hY] at HE ⊢
          have z0 := kY.c 0 _ rfl
          have z1 := kY.c 1 _ rfl
          have z2 := kY.c 2 _ rfl
          exact bodyPost_ret (v := .tuple #[.agg #[.slice a1 live.length c1, .slice a2 safe.length c2, .slice a3 ops.length c3], .int .i64 (4)]) (by simp [results, Tryz.results23, go_sem, z0, z1, z2]) rfl HE.out
        · have HA : Hid (actC live ops o = 0) := hide (by simp [actC, hfo, hdo, hfl, h200])
          have hd := HL.out.below HX3.out.1
          go_wp2_with fail
          refine (l8Copy_any la sa oa lc sc oc live safe ops w3 HZ.out.1 HZ.out.2.1 HZ.out.2.2 HC1.out HC2.out HC3.out hd).mono ?_
          rintro e w4 ⟨hb4, v1, v2, v3, rfl, hrow⟩
          obtain ⟨a1, c1, a2, c2, a3, c3, rfl, rfl, rfl⟩ := hrow.open
          have bw : Below w4.heap.size w4 (w4.alloc (.cells #[.slice na (doL live o).1.length nc, .slice a2 safe.length c2, .slice a3 ops.length c3] 27)) := below_alloc (Below.refl _ _) _
          have KB : Hid (Blk w4.heap.size [.slice na (doL live o).1.length nc, .slice a2 safe.length c2, .slice a3 ops.length c3] (w4.alloc (.cells #[.slice na (doL live o).1.length nc, .slice a2 safe.length c2, .slice a3 ops.length c3] 27))) := hide Blk.new
          have hb34 := below_trans hb4 bw
          have HX5 : Hid (Below w.heap.size w (w4.alloc (.cells #[.slice na (doL live o).1.length nc, .slice a2 safe.length c2, .slice a3 ops.length c3] 27)) ∧ w.heap.size + 3 ≤ w3.heap.size ∧ w3.heap.size ≤ w4.heap.size) := hide ⟨below_trans HX3.out.1 hb34, HX3.out.2, hb4.size⟩
          have KO5 : Hid _ := hide (KO3.out.below hb34)
          have KR5 : Hid _ := hide (KR3.out.below hb34)
          have HRO : Hid (RowsD w3.heap.size live safe ops (.slice a1 live.length c1) (.slice a2 safe.length c2) (.slice a3 ops.length c3) (w4.alloc (.cells #[.slice na (doL live o).1.length nc, .slice a2 safe.length c2, .slice a3 ops.length c3] 27))) := hide (hrow.below bw)
          have HNR5 : Hid _ := hide (own_keep HNR3.out hb34)
          have HN3 : Hid (Sep (.slice na (doL live o).1.length nc) (.slice a2 safe.length c2) ∧ Sep (.slice na (doL live o).1.length nc) (.slice a3 ops.length c3)) := hide ⟨Sep.old HNR3.out hrow.r2 (Nat.le_refl _), Sep.old HNR3.out hrow.r3 (Nat.le_refl _)⟩
          have hr2 := (hrow.r2.lt)
          have HB4 : Hid (∀ g, g < w4.heap.size → w4.heap.size ≠ g) := hide (fun g hg => by omega)
          have HLT : Hid ((∀ g, (Value.slice na (doL live o).1.length nc).ownBlock = some g → g < w4.heap.size) ∧ (∀ g, (Value.slice a2 safe.length c2).ownBlock = some g → g < w4.heap.size) ∧ (∀ g, (Value.slice a3 ops.length c3).ownBlock = some g → g < w4.heap.size)) := hide ⟨fun g hg => ((own_keep HNR3.out hb4).lt g hg).2, fun g hg => (hrow.r2.lt g hg).2, fun g hg => (hrow.r3.lt g hg).2⟩
          clear bw hb34 hb4 hrow hd hr2 HNR3 KX3 KO3 KR3 HX3 HB4 x0 x1 x2 o0 o1 o2 o3
          have b2 := KB.out.c 2 _ rfl
          have o0 := KO5.out.c 0 _ rfl
          have o1 := KO5.out.c 1 _ rfl
          have o2 := KO5.out.c 2 _ rfl
          have o3 := KO5.out.c 3 _ rfl
          obtain ⟨j0, hj0, hy0, hy1, hy2⟩ := info_parts infoO
          have hv := huO
          go_wp2_with (first | (at_builtin; refine Shut2.mk ?_) | fail)
          refine Shut2.mk' ?_
          obtain ⟨w5, hw5⟩ : ∃ w5, w5 = (w4.alloc (.cells #[.slice na (doL live o).1.length nc, .slice a2 safe.length c2, .slice a3 ops.length c3] 27)) := ⟨_, rfl⟩
          rw [← hw5] at KB HX5 KO5 KR5 HRO HNR5 b2 o0 o1 o2 o3 ⊢
          have HS5 : Hid (w5.heap.size = w4.heap.size + 1) := hide (by rw [hw5]; simp)
          clear hw5
          refine wpList_append_own_at _ rfl _ _ 25 rfl w3.heap.size 50 j0 _ 4 56 hv hj0 hy0 hy1 hy2 rfl (by decide) (.slice a3 ops.length c3) ops.length (ops.flatMap dpCells) rfl ?own ⟨w4.heap.size + 1, 0, none⟩ 1 1 [.int .i64 o.kind, .string o.nm, .string o.tn, .string o.da] rfl rfl ?news (by simp [Value.oneCell']) (by unfold maxLen; omega) (by omega) ?base ?_
          case own => exact own_keep HRO.out.r3 (below_alloc (Below.refl _ _) _)
          case news => rw [← HS5.out]; exact news4 (World.cell?_alloc_at _ _ _ _ rfl) (World.cell?_alloc_at _ _ _ _ rfl) (World.cell?_alloc_at _ _ _ _ rfl) (World.cell?_alloc_at _ _ _ _ rfl)
          case base => have := HX5.out.1.size; have := HX5.out.2; have := HS5.out; simp; omega
          intro v6 w6 ho6 hg6 _ hl6
          obtain ⟨x5, hx5⟩ : ∃ x5, x5 = w5.alloc (.cells #[.int .i64 o.kind, .string o.nm, .string o.tn, .string o.da] 50) := ⟨_, rfl⟩
          have ba : Below w5.heap.size w5 x5 := by rw [hx5]; exact below_alloc (Below.refl _ _) _
          have sx : x5.heap.size = w4.heap.size + 1 + 1 := by rw [hx5, ← HS5.out]; simp
          rw [← hx5] at hg6 hl6
          have lo3 : ∀ j, (Value.slice a3 ops.length c3).ownBlock = some j → w3.heap.size ≤ j := fun j hj => (HRO.out.r3.lt j hj).1
          have HB6 : Below w.heap.size w w6 := (below_trans HX5.out.1 ba).grown hg6 (by have := HX5.out.2; omega) (fun j hj => by have := lo3 j hj; have := HX5.out.2; omega)
          have KB6 := (KB.out.below ba).grown hg6 (fun q => by have := HLT.out.2.2 _ q.symm; omega)
          have KR6 := (KR5.out.below ba).grown hg6 (fun q => by have := lo3 _ q.symm; have := HX5.out.2; omega)
          have hn5 := own_keep HNR5.out ba
          have h25 := own_keep HRO.out.r2 ba
          have r1 := hn5.kept hg6 (Sep.ne HN3.out.2)
          have r2 := h25.kept hg6 (Sep.ne HRO.out.s23)
          have r3 : w6.ownsRow w3.heap.size 50 4 v6 (ops ++ [o]).length ((ops ++ [o]).flatMap dpCells) := by
            rw [List.flatMap_append]
            simpa [dpCells] using ho6
          have hsh := row_shape ho6
          have s13 := Sep.growr HN3.out.2 hl6 hn5
          have s23 := Sep.growr HRO.out.s23 hl6 h25
          have l6 : ∀ g, v6.ownBlock = some g → g ≠ w4.heap.size := fun g hg => by
            rcases hl6 with q | q
            · have := HLT.out.2.2 g (q ▸ hg); omega
            · rw [q] at hg; simp only [Option.some.injEq] at hg; omega
          obtain ⟨a6, c6, rfl⟩ := hsh
          have hrow : RowsD (w.heap.size + 3) (doL live o).1 safe (ops ++ [o]) (.slice na (doL live o).1.length nc) (.slice a2 safe.length c2) (.slice a6 (ops.length + 1) c6) (w6.setCell ⟨w4.heap.size, 2, none⟩ (.slice a6 (ops.length + 1) c6)) :=
            ⟨own_mono (r1.kept (grown_set _ _ _ _) (.inr (fun q => by have := HLT.out.1 _ q; omega))) HNL.out, own_mono (r2.kept (grown_set _ _ _ _) (.inr (fun q => by have := HLT.out.2.1 _ q; omega))) HX5.out.2.1, own_mono (r3.kept (grown_set _ _ _ _) (.inr (fun q => l6 _ q rfl))) HX5.out.2.1, HN3.out.1, s13, s23⟩
          have hy := HB6.setCell (p := ⟨w4.heap.size, 2, none⟩) (by show w.heap.size ≤ w4.heap.size; have := HX5.out.2; omega) (.slice a6 (ops.length + 1) c6)
          have KRc : Blk (w.heap.size + 1 + 1) [.slice none 0 0, .slice none 0 0, .slice none 0 0] (w6.setCell ⟨w4.heap.size, 2, none⟩ (.slice a6 (ops.length + 1) c6)) := KR6.other 2 _ (by have := HX5.out.2; omega)
          have KBc := KB6.set 2 (.slice a6 (ops.length + 1) c6) (by simp)
          have g2 := KB6.c 2 _ rfl
          have fg := KB6.f 2
          have k0 := KBc.c 0 _ rfl
          have k1 := KBc.c 1 _ rfl
          have k2 := KBc.c 2 _ rfl
          obtain ⟨eL, eO⟩ := act_yes HA.out
          have HE : Hid (DiskC (actC live ops o) (actL live ops o) (safe) (actO live ops o) w (.returned (.tuple #[.agg #[.slice na (doL live o).1.length nc, .slice a2 safe.length c2, .slice a6 (ops.length + 1) c6], .int .i64 0])) ((((w6.setCell ⟨w4.heap.size, 2, none⟩ (.slice a6 (ops.length + 1) c6)).setCell ⟨w.heap.size + 1 + 1, 0, none⟩ (.slice na (doL live o).1.length nc)).setCell ⟨w.heap.size + 1 + 1, 1, none⟩ (.slice a2 safe.length c2)).setCell ⟨w.heap.size + 1 + 1, 2, none⟩ (.slice a6 (ops.length + 1) c6))) := hide (by
              rw [HA.out, eL, eO]
              exact disk_end hy (Nat.le_refl _) hrow)
          have HS : Hid (∃ Y, ((((w6.setCell ⟨w4.heap.size, 2, none⟩ (.slice a6 (ops.length + 1) c6)).setCell ⟨w.heap.size + 1 + 1, 0, none⟩ (.slice na (doL live o).1.length nc)).setCell ⟨w.heap.size + 1 + 1, 1, none⟩ (.slice a2 safe.length c2)).setCell ⟨w.heap.size + 1 + 1, 2, none⟩ (.slice a6 (ops.length + 1) c6)) = Y ∧ Blk (w.heap.size + 1 + 1) [.slice na (doL live o).1.length nc, .slice a2 safe.length c2, .slice a6 (ops.length + 1) c6] Y) := hide ⟨_, rfl, (((KRc).set 0 (.slice na (doL live o).1.length nc) (by simp)).set 1 (.slice a2 safe.length c2) (by simp)).set 2 (.slice a6 (ops.length + 1) c6) (by simp)⟩
          have y0 := (KRc).c 0 _ rfl
          have y1 := (KRc).c 1 _ rfl
          have y2 := (KRc).c 2 _ rfl
          have f0 := (KRc).f 0
          have f1 := (KRc).f 1
          have f2 := (KRc).f 2
          clear KRc KBc hy hrow l6 s13 s23 hl6 hg6 ho6 r1 r2 r3 h25 hn5 KR6 KB6 HB6 lo3 sx ba hx5 b2 o0 o1 o2 o3
          go_wp2
          obtain ⟨Y, hY, kY⟩ := HS.out
          rw [hY] at HE ⊢
          have z0 := kY.c 0 _ rfl
          have z1 := kY.c 1 _ rfl
          have z2 := kY.c 2 _ rfl
          exact bodyPost_ret (v := .tuple #[.agg #[.slice na (doL live o).1.length nc, .slice a2 safe.length c2, .slice a6 (ops.length + 1) c6], .int .i64 0]) (by simp [results, Tryz.results23, go_sem, z0, z1, z2]) rfl HE.out
end Go.Proofs.YtiilkkdbifhojaaGreat
/- Do of the model and of the program. -/
namespace Go.Proofs.YtiilkkdbifhojaaGreat
open Go.ChangeShapes Go.WideShapes Go.ChangeAt Go.RowKit
set_option linter.unusedVariables false
set_option maxRecDepth 100000
def doCv (live safe : List Fl) (ops : List Dp) (o : Dp) : Int := bif diskB ⟨live, safe, ops⟩ then actC live ops o else 1
def doLv (live safe : List Fl) (ops : List Dp) (o : Dp) : List Fl := bif diskB ⟨live, safe, ops⟩ then actL live ops o else []
def doSv (live safe : List Fl) (ops : List Dp) (o : Dp) : List Fl := bif diskB ⟨live, safe, ops⟩ then safe else []
def doOv (live safe : List Fl) (ops : List Dp) (o : Dp) : List Dp := bif diskB ⟨live, safe, ops⟩ then actO live ops o else []
theorem diskB_parts {live safe : List Fl} {ops : List Dp} (h : diskB ⟨live, safe, ops⟩ = true) : filesB live = true ∧ filesB safe = true ∧ ops.length ≤ 200 := by
  simp only [diskB, Bool.and_eq_true, decide_eq_true_eq] at h
  exact ⟨h.1.1.1, h.1.1.2, h.1.2⟩
theorem do_no {live safe : List Fl} {ops : List Dp} {o : Dp} (h : diskB ⟨live, safe, ops⟩ = false) : doCv live safe ops o = 1 ∧ doLv live safe ops o = [] ∧ doSv live safe ops o = [] ∧ doOv live safe ops o = [] := by simp [doCv, doLv, doSv, doOv, h]
theorem do_yes {live safe : List Fl} {ops : List Dp} {o : Dp} (h : diskB ⟨live, safe, ops⟩ = true) : doCv live safe ops o = actC live ops o ∧ doLv live safe ops o = actL live ops o ∧ doSv live safe ops o = safe ∧ doOv live safe ops o = actO live ops o := by simp [doCv, doLv, doSv, doOv, h]
/-- the program's code and the model's -/
theorem did_act {live : List Fl} {ops : List Dp} {o : Dp} (h : filesB live = true) : (didV live o = 2 ∧ actC live ops o = 2) ∨ (didV live o = 3 ∧ actC live ops o = 3) ∨ (didV live o = 4 ∧ actC live ops o = 4) ∨
    (didV live o = 0 ∧ formB o = true ∧ (doL live o).2 = true ∧ filesB (doL live o).1 = true) := by
  unfold didV actC
  cases hf : formB o with
  | false => exact .inl ⟨by simp, by simp⟩
  | true =>
    cases hd : (doL live o).2 with
    | false => exact .inr (.inl ⟨by simp, by simp⟩)
    | true =>
      rw [doL_files h hf]
      cases hq : fitB (doL live o).1 with
      | false => exact .inr (.inr (.inl ⟨by simp, by simp⟩))
      | true => exact .inr (.inr (.inr ⟨by simp, rfl, rfl, rfl⟩))
theorem RowsD.setN {base : Nat} {L S : List Fl} {O : List Dp} {v1 v2 v3 : Value} {x : World} (h : RowsD base L S O v1 v2 v3 x) {g o : Nat} {u : Value} (hg : x.heap.size ≤ g) : RowsD base L S O v1 v2 v3 (x.setCell ⟨g, o, none⟩ u) :=
  ⟨h.r1.kept (grown_set _ _ _ _) (.inr (fun q => by have := (h.r1.lt _ q).2; omega)), h.r2.kept (grown_set _ _ _ _) (.inr (fun q => by have := (h.r2.lt _ q).2; omega)), h.r3.kept (grown_set _ _ _ _) (.inr (fun q => by have := (h.r3.lt _ q).2; omega)), h.s12, h.s13, h.s23⟩
set_option maxHeartbeats 8000000 in
theorem specDo_any (la sa oa : Option Addr) (lc sc oc : Nat) (live safe : List Fl) (ops : List Dp) (o : Dp) (w : World) (hm : SmD live safe ops) (ho : SmO o) (hc1 : la = none → lc = 0) (hc2 : sa = none → sc = 0) (hc3 : oa = none → oc = 0) (h : DkAt w la sa oa live safe ops) :
    Calls Tryz.prog 33 #[.agg #[.slice la live.length lc, .slice sa safe.length sc, .slice oa ops.length oc], .agg #[.int .i64 o.kind, .string o.nm, .string o.tn, .string o.da]] w fun e w' => DiskC (doCv live safe ops o) (doLv live safe ops o) (doSv live safe ops o) (doOv live safe ops o) w e w' := by
  have HL : Hid _ := hide h
  have HO : Hid _ := hide ho
  have HC1 : Hid _ := hide hc1
  have HC2 : Hid _ := hide hc2
  have HC3 : Hid _ := hide hc3
  have HM : Hid _ := hide hm
  have HZ : Hid (live.length ≤ 1048576 ∧ safe.length ≤ 1048576 ∧ ops.length ≤ 1048576) := hide ⟨hm.1.1, hm.2.1.1, hm.2.2.1⟩
  clear hm
  clear h ho hc1 hc2 hc3
  obtain ⟨w0, hwa⟩ : ∃ wa, wa = (((w.alloc (.cells #[.slice la live.length lc, .slice sa safe.length sc, .slice oa ops.length oc] 27)).alloc (.cells #[.int .i64 o.kind, .string o.nm, .string o.tn, .string o.da] 50)).alloc (.cells #[.slice none 0 0, .slice none 0 0, .slice none 0 0] 27)) := ⟨_, rfl⟩
  have HW : Hid ((((w.alloc (.cells #[.slice la live.length lc, .slice sa safe.length sc, .slice oa ops.length oc] 27)).alloc (.cells #[.int .i64 o.kind, .string o.nm, .string o.tn, .string o.da] 50)).alloc (.cells #[.slice none 0 0, .slice none 0 0, .slice none 0 0] 27)) = w0) := hide hwa.symm
  have KX0 : Hid (Blk w.heap.size [.slice la live.length lc, .slice sa safe.length sc, .slice oa ops.length oc] w0) := hide (by rw [hwa]; exact (Blk.new.alloc _).alloc _)
  have KO0 : Hid (Blk (w.heap.size + 1) [.int .i64 o.kind, .string o.nm, .string o.tn, .string o.da] w0) := hide (by rw [hwa]; exact Blk.alloc (by simpa using Blk.new (w := w.alloc (.cells #[.slice la live.length lc, .slice sa safe.length sc, .slice oa ops.length oc] 27)) (cur := [.int .i64 o.kind, .string o.nm, .string o.tn, .string o.da]) (T := 50)) _)
  have KR0 : Hid (Blk (w.heap.size + 1 + 1) [.slice none 0 0, .slice none 0 0, .slice none 0 0] w0) := hide (by rw [hwa]; exact (by simpa using Blk.new (w := (w.alloc (.cells #[.slice la live.length lc, .slice sa safe.length sc, .slice oa ops.length oc] 27)).alloc (.cells #[.int .i64 o.kind, .string o.nm, .string o.tn, .string o.da] 50)) (cur := [.slice none 0 0, .slice none 0 0, .slice none 0 0]) (T := 27)))
  have HX0 : Hid (Below w.heap.size w w0 ∧ w.heap.size + 3 ≤ w0.heap.size) := hide ⟨by rw [hwa]; exact below_alloc (below_alloc (below_alloc (Below.refl _ _) _) _) _, by rw [hwa]; simp⟩
  clear hwa
  go_enter Tryz.func33, Tryz.ntmps33
  go_wp2_with fail
  rw [HW.out]
  have hd0 := HL.out.below HX0.out.1
  refine (specDiskOk_any la sa oa lc sc oc live safe ops w0 HM.out.1.1 HM.out.2.1.1 HM.out.2.2.1 HM.out.1.f HM.out.2.1.f HM.out.2.2.2 HC2.out hd0.r1 hd0.r2 hd0.r3).mono ?_
  rintro e w1 ⟨rfl, hb1⟩
  clear hd0
  have HX1 : Hid (Below w.heap.size w w1 ∧ w.heap.size + 3 ≤ w1.heap.size) := hide ⟨below_trans HX0.out.1 hb1, Nat.le_trans HX0.out.2 hb1.size⟩
  have KX1 : Hid _ := hide (KX0.out.below hb1)
  have KO1 : Hid _ := hide (KO0.out.below hb1)
  have KR1 : Hid _ := hide (KR0.out.below hb1)
  clear hb1 KX0 KO0 KR0 HX0
  have x0 := KX1.out.c 0 _ rfl
  have x1 := KX1.out.c 1 _ rfl
  have x2 := KX1.out.c 2 _ rfl
  have o0 := KO1.out.c 0 _ rfl
  have o1 := KO1.out.c 1 _ rfl
  have o2 := KO1.out.c 2 _ rfl
  have o3 := KO1.out.c 3 _ rfl
  cases hB : diskB ⟨live, safe, ops⟩
  · obtain ⟨e1, e2, e3, e4⟩ := do_no (o := o) hB
    have HE : Hid (DiskC (doCv live safe ops o) (doLv live safe ops o) (doSv live safe ops o) (doOv live safe ops o) w (.returned (.tuple #[.agg #[.slice none 0 0, .slice none 0 0, .slice none 0 0], .int .i64 1])) (((w1.setCell ⟨w.heap.size + 1 + 1, 0, none⟩ (.slice none 0 0)).setCell ⟨w.heap.size + 1 + 1, 1, none⟩ (.slice none 0 0)).setCell ⟨w.heap.size + 1 + 1, 2, none⟩ (.slice none 0 0))) := hide (by
        rw [e1, e2, e3, e4]
        exact disk_zero HX1.out.1)
    have HS : Hid (∃ Y, (((w1.setCell ⟨w.heap.size + 1 + 1, 0, none⟩ (.slice none 0 0)).setCell ⟨w.heap.size + 1 + 1, 1, none⟩ (.slice none 0 0)).setCell ⟨w.heap.size + 1 + 1, 2, none⟩ (.slice none 0 0)) = Y ∧ Blk (w.heap.size + 1 + 1) [.slice none 0 0, .slice none 0 0, .slice none 0 0] Y) := hide ⟨_, rfl, (((KR1.out).set 0 (.slice none 0 0) (by simp)).set 1 (.slice none 0 0) (by simp)).set 2 (.slice none 0 0) (by simp)⟩
    have y0 := (KR1.out).c 0 _ rfl
    have y1 := (KR1.out).c 1 _ rfl
    have y2 := (KR1.out).c 2 _ rfl
    have f0 := (KR1.out).f 0
    have f1 := (KR1.out).f 1
    have f2 := (KR1.out).f 2
    go_wp2
    obtain ⟨Y, hY, kY⟩ := HS.out
    rw [hY] at HE ⊢
    have z0 := kY.c 0 _ rfl
    have z1 := kY.c 1 _ rfl
    have z2 := kY.c 2 _ rfl
    exact bodyPost_ret (v := .tuple #[.agg #[.slice none 0 0, .slice none 0 0, .slice none 0 0], .int .i64 1]) (by simp [results, Tryz.results33, go_sem, z0, z1, z2]) rfl HE.out
  · obtain ⟨e1, e2, e3, e4⟩ := do_yes (o := o) hB
    obtain ⟨q1, q2, q3⟩ := diskB_parts hB
    go_wp2_with fail
    refine (l8Act_any la sa oa lc sc oc live safe ops o w1 q1 HZ.out.2.1 (by omega) HO.out HC1.out HC2.out HC3.out (HL.out.below HX1.out.1)).mono ?_
    rintro e w2 ⟨hb2, v1, v2, v3, rfl, hrow⟩
    obtain ⟨a1, c1, a2, c2, a3, c3, rfl, rfl, rfl⟩ := hrow.open
    have KR2 := KR1.out.below hb2
    have hy := below_trans HX1.out.1 hb2
    have HE : Hid (DiskC (doCv live safe ops o) (doLv live safe ops o) (doSv live safe ops o) (doOv live safe ops o) w (.returned (.tuple #[.agg #[.slice a1 (actL live ops o).length c1, .slice a2 safe.length c2, .slice a3 (actO live ops o).length c3], .int .i64 (actC live ops o)])) (((w2.setCell ⟨w.heap.size + 1 + 1, 0, none⟩ (.slice a1 (actL live ops o).length c1)).setCell ⟨w.heap.size + 1 + 1, 1, none⟩ (.slice a2 safe.length c2)).setCell ⟨w.heap.size + 1 + 1, 2, none⟩ (.slice a3 (actO live ops o).length c3))) := hide (by
        rw [e1, e2, e3, e4]
        exact disk_end hy HX1.out.2 hrow)
    have HS : Hid (∃ Y, (((w2.setCell ⟨w.heap.size + 1 + 1, 0, none⟩ (.slice a1 (actL live ops o).length c1)).setCell ⟨w.heap.size + 1 + 1, 1, none⟩ (.slice a2 safe.length c2)).setCell ⟨w.heap.size + 1 + 1, 2, none⟩ (.slice a3 (actO live ops o).length c3)) = Y ∧ Blk (w.heap.size + 1 + 1) [.slice a1 (actL live ops o).length c1, .slice a2 safe.length c2, .slice a3 (actO live ops o).length c3] Y) := hide ⟨_, rfl, (((KR2).set 0 (.slice a1 (actL live ops o).length c1) (by simp)).set 1 (.slice a2 safe.length c2) (by simp)).set 2 (.slice a3 (actO live ops o).length c3) (by simp)⟩
    have y0 := (KR2).c 0 _ rfl
    have y1 := (KR2).c 1 _ rfl
    have y2 := (KR2).c 2 _ rfl
    have f0 := (KR2).f 0
    have f1 := (KR2).f 1
    have f2 := (KR2).f 2
    clear KR2 hy hrow hb2 e1 e2 e3 e4 x0 x1 x2 o0 o1 o2 o3
    go_wp2
    obtain ⟨Y, hY, kY⟩ := HS.out
    rw [hY] at HE ⊢
    have z0 := kY.c 0 _ rfl
    have z1 := kY.c 1 _ rfl
    have z2 := kY.c 2 _ rfl
    exact bodyPost_ret (v := .tuple #[.agg #[.slice a1 (actL live ops o).length c1, .slice a2 safe.length c2, .slice a3 (actO live ops o).length c3], .int .i64 (actC live ops o)]) (by simp [results, Tryz.results33, go_sem, z0, z1, z2]) rfl HE.out
set_option maxHeartbeats 8000000 in
theorem implDo_any (la sa oa : Option Addr) (lc sc oc : Nat) (live safe : List Fl) (ops : List Dp) (o : Dp) (w : World) (hm : SmD live safe ops) (ho : SmO o) (hc1 : la = none → lc = 0) (hc2 : sa = none → sc = 0) (hc3 : oa = none → oc = 0) (h : DkAt w la sa oa live safe ops) :
    Calls Tryz.prog 19 #[.agg #[.slice la live.length lc, .slice sa safe.length sc, .slice oa ops.length oc], .agg #[.int .i64 o.kind, .string o.nm, .string o.tn, .string o.da]] w fun e w' => DiskC (doCv live safe ops o) (doLv live safe ops o) (doSv live safe ops o) (doOv live safe ops o) w e w' := by
  have HL : Hid _ := hide h
  have HO : Hid _ := hide ho
  have HC1 : Hid _ := hide hc1
  have HC2 : Hid _ := hide hc2
  have HC3 : Hid _ := hide hc3
  have HM : Hid _ := hide hm
  have HZ : Hid (live.length ≤ 1048576 ∧ safe.length ≤ 1048576 ∧ ops.length ≤ 1048576) := hide ⟨hm.1.1, hm.2.1.1, hm.2.2.1⟩
  clear hm
  clear h ho hc1 hc2 hc3
  obtain ⟨w0, hwa⟩ : ∃ wa, wa = (((w.alloc (.cells #[.slice la live.length lc, .slice sa safe.length sc, .slice oa ops.length oc] 27)).alloc (.cells #[.int .i64 o.kind, .string o.nm, .string o.tn, .string o.da] 50)).alloc (.cells #[.slice none 0 0, .slice none 0 0, .slice none 0 0] 27)) := ⟨_, rfl⟩
  have HW : Hid ((((w.alloc (.cells #[.slice la live.length lc, .slice sa safe.length sc, .slice oa ops.length oc] 27)).alloc (.cells #[.int .i64 o.kind, .string o.nm, .string o.tn, .string o.da] 50)).alloc (.cells #[.slice none 0 0, .slice none 0 0, .slice none 0 0] 27)) = w0) := hide hwa.symm
  have KX0 : Hid (Blk w.heap.size [.slice la live.length lc, .slice sa safe.length sc, .slice oa ops.length oc] w0) := hide (by rw [hwa]; exact (Blk.new.alloc _).alloc _)
  have KO0 : Hid (Blk (w.heap.size + 1) [.int .i64 o.kind, .string o.nm, .string o.tn, .string o.da] w0) := hide (by rw [hwa]; exact Blk.alloc (by simpa using Blk.new (w := w.alloc (.cells #[.slice la live.length lc, .slice sa safe.length sc, .slice oa ops.length oc] 27)) (cur := [.int .i64 o.kind, .string o.nm, .string o.tn, .string o.da]) (T := 50)) _)
  have KR0 : Hid (Blk (w.heap.size + 1 + 1) [.slice none 0 0, .slice none 0 0, .slice none 0 0] w0) := hide (by rw [hwa]; exact (by simpa using Blk.new (w := (w.alloc (.cells #[.slice la live.length lc, .slice sa safe.length sc, .slice oa ops.length oc] 27)).alloc (.cells #[.int .i64 o.kind, .string o.nm, .string o.tn, .string o.da] 50)) (cur := [.slice none 0 0, .slice none 0 0, .slice none 0 0]) (T := 27)))
  have HX0 : Hid (Below w.heap.size w w0 ∧ w.heap.size + 3 ≤ w0.heap.size) := hide ⟨by rw [hwa]; exact below_alloc (below_alloc (below_alloc (Below.refl _ _) _) _) _, by rw [hwa]; simp⟩
  clear hwa
  go_enter Tryz.func19, Tryz.ntmps19
  go_wp2_with fail
  rw [HW.out]
  have hd0 := HL.out.below HX0.out.1
  refine (implDiskOk_any la sa oa lc sc oc live safe ops w0 HM.out.1.1 HM.out.2.1.1 HM.out.2.2.1 HM.out.1.f HM.out.2.1.f HM.out.2.2.2 hd0.r1 hd0.r2 hd0.r3).mono ?_
  rintro e w1 ⟨rfl, hb1⟩
  clear hd0
  have HX1 : Hid (Below w.heap.size w w1 ∧ w.heap.size + 3 ≤ w1.heap.size) := hide ⟨below_trans HX0.out.1 hb1, Nat.le_trans HX0.out.2 hb1.size⟩
  have KX1 : Hid _ := hide (KX0.out.below hb1)
  have KO1 : Hid _ := hide (KO0.out.below hb1)
  have KR1 : Hid _ := hide (KR0.out.below hb1)
  clear hb1 KX0 KO0 KR0 HX0
  have x0 := KX1.out.c 0 _ rfl
  have x1 := KX1.out.c 1 _ rfl
  have x2 := KX1.out.c 2 _ rfl
  have o0 := KO1.out.c 0 _ rfl
  have o1 := KO1.out.c 1 _ rfl
  have o2 := KO1.out.c 2 _ rfl
  have o3 := KO1.out.c 3 _ rfl
  cases hB : diskB ⟨live, safe, ops⟩
  · obtain ⟨e1, e2, e3, e4⟩ := do_no (o := o) hB
    have HE : Hid (DiskC (doCv live safe ops o) (doLv live safe ops o) (doSv live safe ops o) (doOv live safe ops o) w (.returned (.tuple #[.agg #[.slice none 0 0, .slice none 0 0, .slice none 0 0], .int .i64 1])) (((w1.setCell ⟨w.heap.size + 1 + 1, 0, none⟩ (.slice none 0 0)).setCell ⟨w.heap.size + 1 + 1, 1, none⟩ (.slice none 0 0)).setCell ⟨w.heap.size + 1 + 1, 2, none⟩ (.slice none 0 0))) := hide (by
        rw [e1, e2, e3, e4]
        exact disk_zero HX1.out.1)
    have HS : Hid (∃ Y, (((w1.setCell ⟨w.heap.size + 1 + 1, 0, none⟩ (.slice none 0 0)).setCell ⟨w.heap.size + 1 + 1, 1, none⟩ (.slice none 0 0)).setCell ⟨w.heap.size + 1 + 1, 2, none⟩ (.slice none 0 0)) = Y ∧ Blk (w.heap.size + 1 + 1) [.slice none 0 0, .slice none 0 0, .slice none 0 0] Y) := hide ⟨_, rfl, (((KR1.out).set 0 (.slice none 0 0) (by simp)).set 1 (.slice none 0 0) (by simp)).set 2 (.slice none 0 0) (by simp)⟩
    have y0 := (KR1.out).c 0 _ rfl
    have y1 := (KR1.out).c 1 _ rfl
    have y2 := (KR1.out).c 2 _ rfl
    have f0 := (KR1.out).f 0
    have f1 := (KR1.out).f 1
    have f2 := (KR1.out).f 2
    go_wp2
    obtain ⟨Y, hY, kY⟩ := HS.out
    rw [hY] at HE ⊢
    have z0 := kY.c 0 _ rfl
    have z1 := kY.c 1 _ rfl
    have z2 := kY.c 2 _ rfl
    exact bodyPost_ret (v := .tuple #[.agg #[.slice none 0 0, .slice none 0 0, .slice none 0 0], .int .i64 1]) (by simp [results, Tryz.results19, go_sem, z0, z1, z2]) rfl HE.out
  · obtain ⟨e1, e2, e3, e4⟩ := do_yes (o := o) hB
    obtain ⟨q1, q2, q3⟩ := diskB_parts hB
    have hd := HL.out.below HX1.out.1
    go_wp2_with fail
    refine (diskCopy_any la sa oa lc sc oc live safe ops w1 HZ.out.1 HZ.out.2.1 HZ.out.2.2 HC1.out HC2.out HC3.out hd).mono ?_
    rintro e w2 ⟨hb2, v1, v2, v3, rfl, hrow⟩
    obtain ⟨a1, c1, a2, c2, a3, c3, rfl, rfl, rfl⟩ := hrow.open
    have bw : Below w2.heap.size w2 (w2.alloc (.cells #[.slice a1 live.length c1, .slice a2 safe.length c2, .slice a3 ops.length c3] 27)) := below_alloc (Below.refl _ _) _
    have hb23 := below_trans hb2 bw
    have HX1L : Hid (w.heap.size + 3 ≤ w1.heap.size) := hide HX1.out.2
    have HX3 : Hid (Below w.heap.size w (w2.alloc (.cells #[.slice a1 live.length c1, .slice a2 safe.length c2, .slice a3 ops.length c3] 27)) ∧ w.heap.size + 3 ≤ (w2.alloc (.cells #[.slice a1 live.length c1, .slice a2 safe.length c2, .slice a3 ops.length c3] 27)).heap.size) := hide ⟨below_trans HX1.out.1 hb23, Nat.le_trans HX1.out.2 hb23.size⟩
    have KX3 : Hid _ := hide (KX1.out.below hb23)
    have KO3 : Hid _ := hide (KO1.out.below hb23)
    have KR3 : Hid _ := hide (KR1.out.below hb23)
    have KB3 : Hid (Blk w2.heap.size [.slice a1 live.length c1, .slice a2 safe.length c2, .slice a3 ops.length c3] (w2.alloc (.cells #[.slice a1 live.length c1, .slice a2 safe.length c2, .slice a3 ops.length c3] 27))) := hide Blk.new
    have HRO2 : Hid _ := hide hrow
    have HB23 : Hid _ := hide bw
    have HS3 : Hid ((w2.alloc (.cells #[.slice a1 live.length c1, .slice a2 safe.length c2, .slice a3 ops.length c3] 27)).heap.size = w2.heap.size + 1 ∧ w1.heap.size ≤ w2.heap.size) := hide ⟨by simp, hb2.size⟩
    clear bw hb23 hb2 hrow hd KX1 KO1 KR1 HX1 x0 x1 x2 o0 o1 o2 o3
    have b0 := KB3.out.c 0 _ rfl
    go_wp2_with fail
    obtain ⟨w3, hw3⟩ : ∃ w3, w3 = (w2.alloc (.cells #[.slice a1 live.length c1, .slice a2 safe.length c2, .slice a3 ops.length c3] 27)) := ⟨_, rfl⟩
    rw [← hw3] at HX3 KX3 KO3 KR3 KB3 HB23 HS3 b0 ⊢
    clear hw3
    refine (shelfOf_any a1 live c1 w3 (filesB_parts q1).1 (fun f hf => by have := filesB_small q1 f hf; exact ⟨by omega, by omega⟩) (filesB_srt q1) (HRO2.out.at.r1.below HB23.out)).mono ?_
    rintro e w4 ⟨hb4, m, β, rfl, hsh⟩
    have HSH : Hid _ := hide hsh
    have HB4 : Hid _ := hide hb4
    have KO4 : Hid _ := hide (KO3.out.below hb4)
    clear hb4 hsh b0
    have o0 := KO4.out.c 0 _ rfl
    have o1 := KO4.out.c 1 _ rfl
    have o2 := KO4.out.c 2 _ rfl
    have o3 := KO4.out.c 3 _ rfl
    go_wp2_with fail
    refine (did_any w3.heap.size m live.length live β o w4 HO.out (by have := (filesB_parts q1).1; omega) (by have := (filesB_parts q1).2.2; omega) (doL_dat q1 HO.out) HSH.out).mono ?_
    rintro e w5 ⟨rfl, hb5, hsh5⟩
    have hb35 : Below w3.heap.size w3 w5 := HB4.out.trans hb5
    have HSH5 : Hid _ := hide hsh5
    have HX5 : Hid (Below w.heap.size w w5 ∧ w.heap.size + 3 ≤ w5.heap.size) := hide ⟨below_trans HX3.out.1 hb35, Nat.le_trans HX3.out.2 hb35.size⟩
    have KX5 : Hid _ := hide (KX3.out.below hb35)
    have KO5 : Hid _ := hide (KO3.out.below hb35)
    have KR5 : Hid _ := hide (KR3.out.below hb35)
    have KB5 : Hid _ := hide (KB3.out.below hb35)
    have HRO : Hid (RowsD w1.heap.size live safe ops (.slice a1 live.length c1) (.slice a2 safe.length c2) (.slice a3 ops.length c3) w5) := hide (HRO2.out.below (below_trans HB23.out hb35))
    have HS5 : Hid (w2.heap.size + 1 ≤ w5.heap.size) := hide (by have := hb35.size; have := HS3.out.1; omega)
    have HDL : Hid ((∀ g, (Value.slice a2 safe.length c2).ownBlock = some g → g < w2.heap.size) ∧ (∀ g, (Value.slice a3 ops.length c3).ownBlock = some g → g < w2.heap.size)) := hide ⟨fun g hg => (HRO2.out.r2.lt g hg).2, fun g hg => (HRO2.out.r3.lt g hg).2⟩
    clear hb35 hb5 hsh5 HB4 KO4 KX3 KO3 KR3 HX3 KB3 HSH HRO2 HB23 o0 o1 o2 o3
    have hn3 : (ops.length : Int) ≤ 200 := by omega
    have b0 := KB5.out.c 0 _ rfl
    have b1 := KB5.out.c 1 _ rfl
    have b2 := KB5.out.c 2 _ rfl
    rcases did_act (ops := ops) (o := o) q1 with ⟨dv, ha⟩ | ⟨dv, ha⟩ | ⟨dv, ha⟩ | ⟨dv, hfo, hdo, hfl⟩
    · have HA : Hid (actC live ops o = 2) := hide ha
      rw [dv]
      clear dv ha HSH5
      obtain ⟨eL, eO⟩ := act_no HA.out (by decide)
      have HE : Hid (DiskC (doCv live safe ops o) (doLv live safe ops o) (doSv live safe ops o) (doOv live safe ops o) w (.returned (.tuple #[.agg #[.slice a1 live.length c1, .slice a2 safe.length c2, .slice a3 ops.length c3], .int .i64 2])) (((w5.setCell ⟨w.heap.size + 1 + 1, 0, none⟩ (.slice a1 live.length c1)).setCell ⟨w.heap.size + 1 + 1, 1, none⟩ (.slice a2 safe.length c2)).setCell ⟨w.heap.size + 1 + 1, 2, none⟩ (.slice a3 ops.length c3))) := hide (by
          rw [e1, e2, e3, e4, HA.out, eL, eO]
          exact disk_end HX5.out.1 HX1L.out HRO.out)
      have HS : Hid (∃ Y, (((w5.setCell ⟨w.heap.size + 1 + 1, 0, none⟩ (.slice a1 live.length c1)).setCell ⟨w.heap.size + 1 + 1, 1, none⟩ (.slice a2 safe.length c2)).setCell ⟨w.heap.size + 1 + 1, 2, none⟩ (.slice a3 ops.length c3)) = Y ∧ Blk (w.heap.size + 1 + 1) [.slice a1 live.length c1, .slice a2 safe.length c2, .slice a3 ops.length c3] Y) := hide ⟨_, rfl, (((KR5.out).set 0 (.slice a1 live.length c1) (by simp)).set 1 (.slice a2 safe.length c2) (by simp)).set 2 (.slice a3 ops.length c3) (by simp)⟩
      have y0 := (KR5.out).c 0 _ rfl
      have y1 := (KR5.out).c 1 _ rfl
      have y2 := (KR5.out).c 2 _ rfl
      have f0 := (KR5.out).f 0
      have f1 := (KR5.out).f 1
      have f2 := (KR5.out).f 2
      clear e1 e2 e3 e4
      go_wp2
      obtain ⟨Y, hY, kY⟩ := HS.out
      rw [hY] at HE ⊢
      have z0 := kY.c 0 _ rfl
      have z1 := kY.c 1 _ rfl
      have z2 := kY.c 2 _ rfl
      exact bodyPost_ret (v := .tuple #[.agg #[.slice a1 live.length c1, .slice a2 safe.length c2, .slice a3 ops.length c3], .int .i64 2]) (by simp [results, Tryz.results19, go_sem, z0, z1, z2]) rfl HE.out
    · have HA : Hid (actC live ops o = 3) := hide ha
      rw [dv]
      clear dv ha HSH5
      obtain ⟨eL, eO⟩ := act_no HA.out (by decide)
      have HE : Hid (DiskC (doCv live safe ops o) (doLv live safe ops o) (doSv live safe ops o) (doOv live safe ops o) w (.returned (.tuple #[.agg #[.slice a1 live.length c1, .slice a2 safe.length c2, .slice a3 ops.length c3], .int .i64 3])) (((w5.setCell ⟨w.heap.size + 1 + 1, 0, none⟩ (.slice a1 live.length c1)).setCell ⟨w.heap.size + 1 + 1, 1, none⟩ (.slice a2 safe.length c2)).setCell ⟨w.heap.size + 1 + 1, 2, none⟩ (.slice a3 ops.length c3))) := hide (by
          rw [e1, e2, e3, e4, HA.out, eL, eO]
          exact disk_end HX5.out.1 HX1L.out HRO.out)
      have HS : Hid (∃ Y, (((w5.setCell ⟨w.heap.size + 1 + 1, 0, none⟩ (.slice a1 live.length c1)).setCell ⟨w.heap.size + 1 + 1, 1, none⟩ (.slice a2 safe.length c2)).setCell ⟨w.heap.size + 1 + 1, 2, none⟩ (.slice a3 ops.length c3)) = Y ∧ Blk (w.heap.size + 1 + 1) [.slice a1 live.length c1, .slice a2 safe.length c2, .slice a3 ops.length c3] Y) := hide ⟨_, rfl, (((KR5.out).set 0 (.slice a1 live.length c1) (by simp)).set 1 (.slice a2 safe.length c2) (by simp)).set 2 (.slice a3 ops.length c3) (by simp)⟩
      have y0 := (KR5.out).c 0 _ rfl
      have y1 := (KR5.out).c 1 _ rfl
      have y2 := (KR5.out).c 2 _ rfl
      have f0 := (KR5.out).f 0
      have f1 := (KR5.out).f 1
      have f2 := (KR5.out).f 2
      clear e1 e2 e3 e4
      go_wp2
      obtain ⟨Y, hY, kY⟩ := HS.out
      rw [hY] at HE ⊢
      have z0 := kY.c 0 _ rfl
      have z1 := kY.c 1 _ rfl
      have z2 := kY.c 2 _ rfl
      exact bodyPost_ret (v := .tuple #[.agg #[.slice a1 live.length c1, .slice a2 safe.length c2, .slice a3 ops.length c3], .int .i64 3]) (by simp [results, Tryz.results19, go_sem, z0, z1, z2]) rfl HE.out
    · have HA : Hid (actC live ops o = 4) := hide ha
      rw [dv]
      clear dv ha HSH5
      obtain ⟨eL, eO⟩ := act_no HA.out (by decide)
      have HE : Hid (DiskC (doCv live safe ops o) (doLv live safe ops o) (doSv live safe ops o) (doOv live safe ops o) w (.returned (.tuple #[.agg #[.slice a1 live.length c1, .slice a2 safe.length c2, .slice a3 ops.length c3], .int .i64 4])) (((w5.setCell ⟨w.heap.size + 1 + 1, 0, none⟩ (.slice a1 live.length c1)).setCell ⟨w.heap.size + 1 + 1, 1, none⟩ (.slice a2 safe.length c2)).setCell ⟨w.heap.size + 1 + 1, 2, none⟩ (.slice a3 ops.length c3))) := hide (by
          rw [e1, e2, e3, e4, HA.out, eL, eO]
          exact disk_end HX5.out.1 HX1L.out HRO.out)
      have HS : Hid (∃ Y, (((w5.setCell ⟨w.heap.size + 1 + 1, 0, none⟩ (.slice a1 live.length c1)).setCell ⟨w.heap.size + 1 + 1, 1, none⟩ (.slice a2 safe.length c2)).setCell ⟨w.heap.size + 1 + 1, 2, none⟩ (.slice a3 ops.length c3)) = Y ∧ Blk (w.heap.size + 1 + 1) [.slice a1 live.length c1, .slice a2 safe.length c2, .slice a3 ops.length c3] Y) := hide ⟨_, rfl, (((KR5.out).set 0 (.slice a1 live.length c1) (by simp)).set 1 (.slice a2 safe.length c2) (by simp)).set 2 (.slice a3 ops.length c3) (by simp)⟩
      have y0 := (KR5.out).c 0 _ rfl
      have y1 := (KR5.out).c 1 _ rfl
      have y2 := (KR5.out).c 2 _ rfl
      have f0 := (KR5.out).f 0
      have f1 := (KR5.out).f 1
      have f2 := (KR5.out).f 2
      clear e1 e2 e3 e4
      go_wp2
      obtain ⟨Y, hY, kY⟩ := HS.out
      rw [hY] at HE ⊢
      have z0 := kY.c 0 _ rfl
      have z1 := kY.c 1 _ rfl
      have z2 := kY.c 2 _ rfl
      exact bodyPost_ret (v := .tuple #[.agg #[.slice a1 live.length c1, .slice a2 safe.length c2, .slice a3 ops.length c3], .int .i64 4]) (by simp [results, Tryz.results19, go_sem, z0, z1, z2]) rfl HE.out
    · rw [dv]
      clear dv
      by_cases h200 : (ops.length : Int) = 200
      · have HA : Hid (actC live ops o = 4) := hide (by simp [actC, hfo, hdo, h200])
        clear HSH5
        obtain ⟨eL, eO⟩ := act_no HA.out (by decide)
        have HE : Hid (DiskC (doCv live safe ops o) (doLv live safe ops o) (doSv live safe ops o) (doOv live safe ops o) w (.returned (.tuple #[.agg #[.slice a1 live.length c1, .slice a2 safe.length c2, .slice a3 ops.length c3], .int .i64 4])) (((w5.setCell ⟨w.heap.size + 1 + 1, 0, none⟩ (.slice a1 live.length c1)).setCell ⟨w.heap.size + 1 + 1, 1, none⟩ (.slice a2 safe.length c2)).setCell ⟨w.heap.size + 1 + 1, 2, none⟩ (.slice a3 ops.length c3))) := hide (by
            rw [e1, e2, e3, e4, HA.out, eL, eO]
            exact disk_end HX5.out.1 HX1L.out HRO.out)
        have HS : Hid (∃ Y, (((w5.setCell ⟨w.heap.size + 1 + 1, 0, none⟩ (.slice a1 live.length c1)).setCell ⟨w.heap.size + 1 + 1, 1, none⟩ (.slice a2 safe.length c2)).setCell ⟨w.heap.size + 1 + 1, 2, none⟩ (.slice a3 ops.length c3)) = Y ∧ Blk (w.heap.size + 1 + 1) [.slice a1 live.length c1, .slice a2 safe.length c2, .slice a3 ops.length c3] Y) := hide ⟨_, rfl, (((KR5.out).set 0 (.slice a1 live.length c1) (by simp)).set 1 (.slice a2 safe.length c2) (by simp)).set 2 (.slice a3 ops.length c3) (by simp)⟩
        have y0 := (KR5.out).c 0 _ rfl
        have y1 := (KR5.out).c 1 _ rfl
        have y2 := (KR5.out).c 2 _ rfl
        have f0 := (KR5.out).f 0
        have f1 := (KR5.out).f 1
        have f2 := (KR5.out).f 2
        clear e1 e2 e3 e4
        go_wp2
        obtain ⟨Y, hY, kY⟩ := HS.out
        rw [hY] at HE ⊢
        have z0 := kY.c 0 _ rfl
        have z1 := kY.c 1 _ rfl
        have z2 := kY.c 2 _ rfl
        exact bodyPost_ret (v := .tuple #[.agg #[.slice a1 live.length c1, .slice a2 safe.length c2, .slice a3 ops.length c3], .int .i64 4]) (by simp [results, Tryz.results19, go_sem, z0, z1, z2]) rfl HE.out
      · have HA : Hid (actC live ops o = 0) := hide (by simp [actC, hfo, hdo, hfl, h200])
        have HF : Hid _ := hide hfl
        obtain ⟨β5, hsh5⟩ := HSH5.out hfo hdo
        have HSH6 : Hid _ := hide hsh5
        clear HSH5 hsh5
        go_wp2_with fail
        refine (files_any w3.heap.size m (live.length + 1) (doL live o).1 β5 w5 (by have := (filesB_parts HF.out).1; omega) (by have := (filesB_parts q1).1; omega) (by have := (filesB_parts HF.out).2.2; omega) HSH6.out).mono ?_
        rintro e w6 ⟨hb6, v, rfl, hnr⟩
        obtain ⟨na, nc, rfl, _⟩ := shape_f hnr
        have g0 := (KB5.out.below hb6).c 0 _ rfl
        have fg0 := (KB5.out.below hb6).f 0
        have s6 := hb6.size
        have s5 := HS5.out
        have KB6 : Hid (Blk w2.heap.size [.slice na (doL live o).1.length nc, .slice a2 safe.length c2, .slice a3 ops.length c3] (w6.setCell ⟨w2.heap.size, 0, none⟩ (.slice na (doL live o).1.length nc))) := hide ((KB5.out.below hb6).set 0 (.slice na (doL live o).1.length nc) (by simp))
        have KO6 : Hid (Blk (w.heap.size + 1) [.int .i64 o.kind, .string o.nm, .string o.tn, .string o.da] (w6.setCell ⟨w2.heap.size, 0, none⟩ (.slice na (doL live o).1.length nc))) := hide ((KO5.out.below hb6).other 0 _ (by have := HX1L.out; have := HS3.out.2; omega))
        have KR6 : Hid (Blk (w.heap.size + 1 + 1) [.slice none 0 0, .slice none 0 0, .slice none 0 0] (w6.setCell ⟨w2.heap.size, 0, none⟩ (.slice na (doL live o).1.length nc))) := hide ((KR5.out.below hb6).other 0 _ (by have := HX1L.out; have := HS3.out.2; omega))
        have HX6 : Hid (Below w.heap.size w (w6.setCell ⟨w2.heap.size, 0, none⟩ (.slice na (doL live o).1.length nc))) := hide ((below_trans HX5.out.1 hb6).setCell (p := ⟨w2.heap.size, 0, none⟩) (by show w.heap.size ≤ w2.heap.size; have := HX1L.out; have := HS3.out.2; omega) _)
        have HR2 : Hid (World.ownsRow (w6.setCell ⟨w2.heap.size, 0, none⟩ (.slice na (doL live o).1.length nc)) w1.heap.size 71 2 (.slice a2 safe.length c2) safe.length (safe.flatMap flCells)) := hide ((own_keep HRO.out.r2 hb6).kept (grown_set _ _ _ _) (.inr (fun q => by have := HDL.out.1 _ q; omega)))
        have HR3 : Hid (World.ownsRow (w6.setCell ⟨w2.heap.size, 0, none⟩ (.slice na (doL live o).1.length nc)) w1.heap.size 50 4 (.slice a3 ops.length c3) ops.length (ops.flatMap dpCells)) := hide ((own_keep HRO.out.r3 hb6).kept (grown_set _ _ _ _) (.inr (fun q => by have := HDL.out.2 _ q; omega)))
        have HNR : Hid (World.ownsRow (w6.setCell ⟨w2.heap.size, 0, none⟩ (.slice na (doL live o).1.length nc)) w5.heap.size 71 2 (.slice na (doL live o).1.length nc) (doL live o).1.length ((doL live o).1.flatMap flCells)) := hide (hnr.kept (grown_set _ _ _ _) (.inr (fun q => by have := (hnr.lt _ q).1; omega)))
        have HSN : Hid (Sep (.slice na (doL live o).1.length nc) (.slice a2 safe.length c2) ∧ Sep (.slice na (doL live o).1.length nc) (.slice a3 ops.length c3)) := hide ⟨(Sep.old HRO.out.r2 hnr (Nat.le_refl _)).symm, (Sep.old HRO.out.r3 hnr (Nat.le_refl _)).symm⟩
        have HS6 : Hid ((w6.setCell ⟨w2.heap.size, 0, none⟩ (.slice na (doL live o).1.length nc)).heap.size = w6.heap.size ∧ w5.heap.size ≤ w6.heap.size) := hide ⟨size_setCell _ _ _, s6⟩
        clear hb6 hnr s6 s5 b0 b1 b2
        have b2 := KB6.out.c 2 _ rfl
        have o0 := KO6.out.c 0 _ rfl
        have o1 := KO6.out.c 1 _ rfl
        have o2 := KO6.out.c 2 _ rfl
        have o3 := KO6.out.c 3 _ rfl
        obtain ⟨j0, hj0, hy0, hy1, hy2⟩ := info_parts infoO
        have hv := huO
        go_wp2_with (first | (at_builtin; refine Shut2.mk ?_) | fail)
        refine Shut2.mk' ?_
        obtain ⟨x6, hx6⟩ : ∃ x6, x6 = (w6.setCell ⟨w2.heap.size, 0, none⟩ (.slice na (doL live o).1.length nc)) := ⟨_, rfl⟩
        rw [← hx6] at KB6 KO6 KR6 HX6 HR2 HR3 HNR HS6 b2 o0 o1 o2 o3 ⊢
        clear hx6
        refine wpList_append_own_at _ rfl _ _ 25 rfl w1.heap.size 50 j0 _ 4 56 hv hj0 hy0 hy1 hy2 rfl (by decide) (.slice a3 ops.length c3) ops.length (ops.flatMap dpCells) rfl ?own ⟨w6.heap.size, 0, none⟩ 1 1 [.int .i64 o.kind, .string o.nm, .string o.tn, .string o.da] rfl rfl ?news (by simp [Value.oneCell']) (by unfold maxLen; omega) (by omega) ?base ?_
        case own => exact own_keep HR3.out (below_alloc (Below.refl _ _) _)
        case news => rw [← HS6.out.1]; exact news4 (World.cell?_alloc_at _ _ _ _ rfl) (World.cell?_alloc_at _ _ _ _ rfl) (World.cell?_alloc_at _ _ _ _ rfl) (World.cell?_alloc_at _ _ _ _ rfl)
        case base => have := HS6.out; have := HS5.out; have := HS3.out; simp; omega
        intro v6 w7 ho6 hg6 _ hl6
        obtain ⟨x7, hx7⟩ : ∃ x7, x7 = x6.alloc (.cells #[.int .i64 o.kind, .string o.nm, .string o.tn, .string o.da] 50) := ⟨_, rfl⟩
        have ba : Below x6.heap.size x6 x7 := by rw [hx7]; exact below_alloc (Below.refl _ _) _
        have sx : x7.heap.size = w6.heap.size + 1 := by rw [hx7, ← HS6.out.1]; simp
        rw [← hx7] at hg6 hl6
        have lo3 : ∀ j, (Value.slice a3 ops.length c3).ownBlock = some j → w1.heap.size ≤ j := fun j hj => (HR3.out.lt j hj).1
        have n5 := HS5.out
        have n6 := HS6.out.2
        have n1 := HX1L.out
        have n2 := HS3.out.2
        have HB6 : Below w.heap.size w w7 := (below_trans HX6.out ba).grown hg6 (by omega) (fun j hj => by have := lo3 j hj; omega)
        have kB := (KB6.out.below ba).grown hg6 (fun q => by have := HDL.out.2 _ q.symm; omega)
        have kR := (KR6.out.below ba).grown hg6 (fun q => by have := lo3 _ q.symm; omega)
        have hn5 := own_keep HNR.out ba
        have h25 := own_keep HR2.out ba
        have r1 := hn5.kept hg6 (Sep.ne HSN.out.2)
        have r2 := h25.kept hg6 (Sep.ne HRO.out.s23)
        have r3 : w7.ownsRow w1.heap.size 50 4 v6 (ops ++ [o]).length ((ops ++ [o]).flatMap dpCells) := by
          rw [List.flatMap_append]
          simpa [dpCells] using ho6
        have hsh := row_shape ho6
        have s13 := Sep.growr HSN.out.2 hl6 hn5
        have s23 := Sep.growr HRO.out.s23 hl6 h25
        have l6 : ∀ g, v6.ownBlock = some g → g ≠ w2.heap.size := fun g hg => by
          rcases hl6 with q | q
          · have := HDL.out.2 g (q ▸ hg); omega
          · rw [q] at hg; simp only [Option.some.injEq] at hg; omega
        obtain ⟨a6, c6, rfl⟩ := hsh
        have hrow : RowsD (w.heap.size + 3) (doL live o).1 safe (ops ++ [o]) (.slice na (doL live o).1.length nc) (.slice a2 safe.length c2) (.slice a6 (ops.length + 1) c6) (w7.setCell ⟨w2.heap.size, 2, none⟩ (.slice a6 (ops.length + 1) c6)) :=
          ⟨own_mono (r1.kept (grown_set _ _ _ _) (.inr (fun q => by have := (hn5.lt _ q).1; omega))) (by omega), own_mono (r2.kept (grown_set _ _ _ _) (.inr (fun q => by have := HDL.out.1 _ q; omega))) n1, own_mono (r3.kept (grown_set _ _ _ _) (.inr (fun q => l6 _ q rfl))) n1, HSN.out.1, s13, s23⟩
        have hy := HB6.setCell (p := ⟨w2.heap.size, 2, none⟩) (by show w.heap.size ≤ w2.heap.size; omega) (.slice a6 (ops.length + 1) c6)
        have KRc : Blk (w.heap.size + 1 + 1) [.slice none 0 0, .slice none 0 0, .slice none 0 0] (w7.setCell ⟨w2.heap.size, 2, none⟩ (.slice a6 (ops.length + 1) c6)) := kR.other 2 _ (by omega)
        have KBc := kB.set 2 (.slice a6 (ops.length + 1) c6) (by simp)
        have g2 := kB.c 2 _ rfl
        have fg := kB.f 2
        have k0 := KBc.c 0 _ rfl
        have k1 := KBc.c 1 _ rfl
        have k2 := KBc.c 2 _ rfl
        obtain ⟨eL, eO⟩ := act_yes HA.out
        have HE : Hid (DiskC (doCv live safe ops o) (doLv live safe ops o) (doSv live safe ops o) (doOv live safe ops o) w (.returned (.tuple #[.agg #[.slice na (doL live o).1.length nc, .slice a2 safe.length c2, .slice a6 (ops.length + 1) c6], .int .i64 0])) ((((w7.setCell ⟨w2.heap.size, 2, none⟩ (.slice a6 (ops.length + 1) c6)).setCell ⟨w.heap.size + 1 + 1, 0, none⟩ (.slice na (doL live o).1.length nc)).setCell ⟨w.heap.size + 1 + 1, 1, none⟩ (.slice a2 safe.length c2)).setCell ⟨w.heap.size + 1 + 1, 2, none⟩ (.slice a6 (ops.length + 1) c6))) := hide (by
            rw [e1, e2, e3, e4, HA.out, eL, eO]
            exact disk_end hy (Nat.le_refl _) hrow)
        have HS : Hid (∃ Y, ((((w7.setCell ⟨w2.heap.size, 2, none⟩ (.slice a6 (ops.length + 1) c6)).setCell ⟨w.heap.size + 1 + 1, 0, none⟩ (.slice na (doL live o).1.length nc)).setCell ⟨w.heap.size + 1 + 1, 1, none⟩ (.slice a2 safe.length c2)).setCell ⟨w.heap.size + 1 + 1, 2, none⟩ (.slice a6 (ops.length + 1) c6)) = Y ∧ Blk (w.heap.size + 1 + 1) [.slice na (doL live o).1.length nc, .slice a2 safe.length c2, .slice a6 (ops.length + 1) c6] Y) := hide ⟨_, rfl, (((KRc).set 0 (.slice na (doL live o).1.length nc) (by simp)).set 1 (.slice a2 safe.length c2) (by simp)).set 2 (.slice a6 (ops.length + 1) c6) (by simp)⟩
        have y0 := (KRc).c 0 _ rfl
        have y1 := (KRc).c 1 _ rfl
        have y2 := (KRc).c 2 _ rfl
        have f0 := (KRc).f 0
        have f1 := (KRc).f 1
        have f2 := (KRc).f 2
        clear KRc KBc hy hrow l6 s13 s23 hl6 hg6 ho6 r1 r2 r3 h25 hn5 kR kB HB6 lo3 sx ba hx7 b2 o0 o1 o2 o3 n1 n2 n5 n6 e1 e2 e3 e4 g0 fg0
        go_wp2
        obtain ⟨Y, hY, kY⟩ := HS.out
        rw [hY] at HE ⊢
        have z0 := kY.c 0 _ rfl
        have z1 := kY.c 1 _ rfl
        have z2 := kY.c 2 _ rfl
        exact bodyPost_ret (v := .tuple #[.agg #[.slice na (doL live o).1.length nc, .slice a2 safe.length c2, .slice a6 (ops.length + 1) c6], .int .i64 0]) (by simp [results, Tryz.results19, go_sem, z0, z1, z2]) rfl HE.out
end Go.Proofs.YtiilkkdbifhojaaGreat
/- What holds in the midst of a law's region that asks for a disk and lays it away. -/
namespace Go.Proofs.YtiilkkdbifhojaaGreat
open Go.ChangeShapes Go.WideShapes Go.ChangeAt Go.RowKit
set_option linter.unusedVariables false
set_option maxRecDepth 100000
structure RegQ (W : Nat) (L S : List Fl) (O : List Dp) (c : Value) (l4 l5 l6 l7 l8 l9 l10 : Bool) (u31 u26 u32 u33 u6 u7 : Value) (x : World) (b lo hi : Nat) (v1 v2 v3 : Value) : Prop where
  al : l8 = true → u6 = .pointer (some ⟨b, 0, none⟩) ∧ W ≤ b ∧ b < x.heap.size
  az : l8 = true → l9 = false → Blk b [.slice none 0 0, .slice none 0 0, .slice none 0 0] x
  dn : l4 = true → W ≤ lo ∧ hi ≤ x.heap.size ∧ RowsD lo L S O v1 v2 v3 x
  top : l4 = true → (∀ g, v1.ownBlock = some g → g < hi) ∧ (∀ g, v2.ownBlock = some g → g < hi) ∧ (∀ g, v3.ownBlock = some g → g < hi)
  t4 : l4 = true → u31 = .tuple #[.agg #[v1, v2, v3], c]
  m5 : l5 = true → l4 = true ∧ u26 = .tuple #[.agg #[v1, v2, v3], c]
  e6 : l6 = true → l5 = true ∧ u32 = .agg #[v1, v2, v3]
  e7 : l7 = true → l5 = true ∧ u33 = c
  ap : l4 = true → l8 = true → b < lo ∨ hi ≤ b
  st : l9 = true → l6 = true ∧ l8 = true ∧ Blk b [v1, v2, v3] x
  a10 : l10 = true → l7 = true ∧ l9 = true ∧ u7 = c
def RegE (W : Nat) (L S : List Fl) (O : List Dp) (c : Value) (l4 l5 l6 l7 l8 l9 l10 : Bool) (u31 u26 u32 u33 u6 u7 : Value) (x : World) : Prop := ∃ b lo hi v1 v2 v3, RegQ W L S O c l4 l5 l6 l7 l8 l9 l10 u31 u26 u32 u33 u6 u7 x b lo hi v1 v2 v3
section
variable {W : Nat} {L S : List Fl} {O : List Dp} {c : Value} {l4 l5 l6 l7 l8 l9 l10 : Bool} {u31 u26 u32 u33 u6 u7 : Value} {x y : World} {b lo hi : Nat} {v1 v2 v3 : Value}
theorem RegE.start : RegE W L S O c false false false false false false false u31 u26 u32 u33 u6 u7 x :=
  ⟨0, 0, 0, .slice none 0 0, .slice none 0 0, .slice none 0 0, ⟨fun q => (by cases q), fun q => (by cases q), fun q => (by cases q), fun q => (by cases q), fun q => (by cases q), fun q => (by cases q), fun q => (by cases q), fun q => (by cases q), fun q => (by cases q), fun q => (by cases q), fun q => (by cases q)⟩⟩
theorem RegQ.keep (h : RegQ W L S O c l4 l5 l6 l7 l8 l9 l10 u31 u26 u32 u33 u6 u7 x b lo hi v1 v2 v3) (hb : Below x.heap.size x y) : RegQ W L S O c l4 l5 l6 l7 l8 l9 l10 u31 u26 u32 u33 u6 u7 y b lo hi v1 v2 v3 :=
  { h with
    al := fun q => ⟨(h.al q).1, (h.al q).2.1, Nat.lt_of_lt_of_le (h.al q).2.2 hb.size⟩
    az := fun q r => (h.az q r).below hb
    dn := fun q => ⟨(h.dn q).1, Nat.le_trans (h.dn q).2.1 hb.size, (h.dn q).2.2.below hb⟩
    st := fun q => ⟨(h.st q).1, (h.st q).2.1, (h.st q).2.2.below hb⟩ }
theorem RegE.keep (h : RegE W L S O c l4 l5 l6 l7 l8 l9 l10 u31 u26 u32 u33 u6 u7 x) (hb : Below x.heap.size x y) : RegE W L S O c l4 l5 l6 l7 l8 l9 l10 u31 u26 u32 u33 u6 u7 y := by
  obtain ⟨b, lo, hi, v1, v2, v3, Q⟩ := h
  exact ⟨b, lo, hi, v1, v2, v3, Q.keep hb⟩
theorem RegE.done (h : RegE W L S O c false l5 l6 l7 l8 l9 l10 u31 u26 u32 u33 u6 u7 x) (hb : Below x.heap.size x y) (hW : W ≤ x.heap.size) (hr : RowsD x.heap.size L S O v1 v2 v3 y) : RegE W L S O c true l5 l6 l7 l8 l9 l10 (.tuple #[.agg #[v1, v2, v3], c]) u26 u32 u33 u6 u7 y := by
  obtain ⟨b, lo, hi, z1, z2, z3, Q⟩ := h
  have n5 : l5 = true → False := fun q => by have := (Q.m5 q).1; cases this
  have n6 : l6 = true → False := fun q => n5 (Q.e6 q).1
  have n7 : l7 = true → False := fun q => n5 (Q.e7 q).1
  have n9 : l9 = true → False := fun q => n6 (Q.st q).1
  refine ⟨b, x.heap.size, y.heap.size, v1, v2, v3, ⟨fun q => ⟨(Q.al q).1, (Q.al q).2.1, Nat.lt_of_lt_of_le (Q.al q).2.2 hb.size⟩, fun q r => (Q.az q r).below hb, fun _ => ⟨hW, Nat.le_refl _, hr⟩, fun _ => ⟨fun g hg => (hr.r1.lt g hg).2, fun g hg => (hr.r2.lt g hg).2, fun g hg => (hr.r3.lt g hg).2⟩, fun _ => rfl, fun q => (n5 q).elim, fun q => (n6 q).elim, fun q => (n7 q).elim, fun _ q => .inl (Q.al q).2.2, fun q => (n9 q).elim, fun q => (n7 (Q.a10 q).1).elim⟩⟩
theorem RegE.alloc (h : RegE W L S O c l4 l5 l6 l7 false l9 l10 u31 u26 u32 u33 u6 u7 x) (hW : W ≤ x.heap.size) {T : TypeId} : RegE W L S O c l4 l5 l6 l7 true l9 l10 u31 u26 u32 u33 (.pointer (some ⟨x.heap.size, 0, none⟩)) u7 (x.alloc (.cells #[.slice none 0 0, .slice none 0 0, .slice none 0 0] T)) := by
  obtain ⟨b, lo, hi, v1, v2, v3, Q⟩ := h
  have hb : Below x.heap.size x (x.alloc (.cells #[.slice none 0 0, .slice none 0 0, .slice none 0 0] T)) := below_alloc (Below.refl _ _) _
  have n9 : l9 = true → False := fun q => by have := (Q.st q).2.1; cases this
  have Q' := Q.keep hb
  exact ⟨x.heap.size, lo, hi, v1, v2, v3, { Q' with
    al := fun _ => ⟨rfl, hW, by simp⟩
    az := fun _ _ => Blk.new
    ap := fun q _ => .inr (Q.dn q).2.1
    st := fun q => (n9 q).elim
    a10 := fun q => (n9 (Q.a10 q).2.1).elim }⟩
theorem RegE.mv5 (h : RegE W L S O c true false l6 l7 l8 l9 l10 u31 u26 u32 u33 u6 u7 x) : RegE W L S O c true true l6 l7 l8 l9 l10 u31 u31 u32 u33 u6 u7 x := by
  obtain ⟨b, lo, hi, v1, v2, v3, Q⟩ := h
  exact ⟨b, lo, hi, v1, v2, v3, { Q with m5 := fun _ => ⟨rfl, Q.t4 rfl⟩, e6 := fun q => ⟨rfl, (Q.e6 q).2⟩, e7 := fun q => ⟨rfl, (Q.e7 q).2⟩ }⟩
theorem RegQ.ex6 (Q : RegQ W L S O c l4 true false l7 l8 l9 l10 u31 u26 u32 u33 u6 u7 x b lo hi v1 v2 v3) : RegQ W L S O c l4 true true l7 l8 l9 l10 u31 u26 (.agg #[v1, v2, v3]) u33 u6 u7 x b lo hi v1 v2 v3 :=
  { Q with e6 := fun _ => ⟨rfl, rfl⟩, st := fun q => ⟨rfl, (Q.st q).2⟩ }
theorem RegQ.ex7 (Q : RegQ W L S O c l4 true l6 false l8 l9 l10 u31 u26 u32 u33 u6 u7 x b lo hi v1 v2 v3) : RegQ W L S O c l4 true l6 true l8 l9 l10 u31 u26 u32 c u6 u7 x b lo hi v1 v2 v3 :=
  { Q with e7 := fun _ => ⟨rfl, rfl⟩, a10 := fun q => ⟨rfl, (Q.a10 q).2⟩ }
theorem RegQ.as10 (Q : RegQ W L S O c l4 l5 l6 true l8 true false u31 u26 u32 u33 u6 u7 x b lo hi v1 v2 v3) : RegQ W L S O c l4 l5 l6 true l8 true true u31 u26 u32 u33 u6 c x b lo hi v1 v2 v3 :=
  { Q with a10 := fun _ => ⟨rfl, rfl, rfl⟩ }
theorem RegQ.sto (Q : RegQ W L S O c true true true l7 true false l10 u31 u26 u32 u33 u6 u7 x b lo hi v1 v2 v3) : RegQ W L S O c true true true l7 true true l10 u31 u26 u32 u33 u6 u7 (((x.setCell ⟨b, 0, none⟩ v1).setCell ⟨b, 1, none⟩ v2).setCell ⟨b, 2, none⟩ v3) b lo hi v1 v2 v3 := by
  have R := Q.az rfl rfl
  have D := (Q.dn rfl).2.2
  obtain ⟨t1, t2, t3⟩ := Q.top rfl
  have A := Q.ap rfl rfl
  have m1 : v1.ownBlock = none ∨ v1.ownBlock ≠ some b := .inr (fun q => by have := (D.r1.lt _ q).1; have := t1 _ q; omega)
  have m2 : v2.ownBlock = none ∨ v2.ownBlock ≠ some b := .inr (fun q => by have := (D.r2.lt _ q).1; have := t2 _ q; omega)
  have m3 : v3.ownBlock = none ∨ v3.ownBlock ≠ some b := .inr (fun q => by have := (D.r3.lt _ q).1; have := t3 _ q; omega)
  exact { Q with
    al := fun q => ⟨(Q.al q).1, (Q.al q).2.1, by rw [size_setCell, size_setCell, size_setCell]; exact (Q.al q).2.2⟩
    az := fun _ q => by cases q
    dn := fun q => ⟨(Q.dn q).1, by rw [size_setCell, size_setCell, size_setCell]; exact (Q.dn q).2.1, ⟨((D.r1.kept (grown_set _ _ _ _) m1).kept (grown_set _ _ _ _) m1).kept (grown_set _ _ _ _) m1, ((D.r2.kept (grown_set _ _ _ _) m2).kept (grown_set _ _ _ _) m2).kept (grown_set _ _ _ _) m2, ((D.r3.kept (grown_set _ _ _ _) m3).kept (grown_set _ _ _ _) m3).kept (grown_set _ _ _ _) m3, D.s12, D.s13, D.s23⟩⟩
    st := fun _ => ⟨rfl, rfl, ((R.set 0 v1 (by simp)).set 1 v2 (by simp)).set 2 v3 (by simp)⟩
    a10 := fun q => ⟨(Q.a10 q).1, rfl, (Q.a10 q).2.2⟩ }
/-- the disk that was laid away -/
def RegEnd (W : Nat) (L S : List Fl) (O : List Dp) (c u6 u7 : Value) (x : World) : Prop :=
  ∃ b lo hi a1 a2 a3 c1 c2 c3 g1 g2 g3, u6 = .pointer (some ⟨b, 0, none⟩) ∧ u7 = c ∧ W ≤ b ∧ W ≤ lo ∧ hi ≤ x.heap.size ∧ (b < lo ∨ hi ≤ b) ∧ Blk b [.slice a1 L.length c1, .slice a2 S.length c2, .slice a3 O.length c3] x ∧ OwnR lo hi a1 a2 a3 c1 c2 c3 g1 g2 g3 L S O x
theorem own_blk {A : Type} {sz : Nat} {f : A → List Value} {w : World} {g n cap : Nat} {a : Option Addr} {l : List A} (h : OwnRow sz f w g a cap l) (h0 : 0 < l.length) : (Value.slice a n cap).ownBlock = some g := by
  rw [(h.own h0).1]; rfl
theorem RowsD.ownR (h : RowsD lo L S O v1 v2 v3 x) (t : (∀ g, v1.ownBlock = some g → g < hi) ∧ (∀ g, v2.ownBlock = some g → g < hi) ∧ (∀ g, v3.ownBlock = some g → g < hi)) : ∃ a1 a2 a3 c1 c2 c3 g1 g2 g3, v1 = .slice a1 L.length c1 ∧ v2 = .slice a2 S.length c2 ∧ v3 = .slice a3 O.length c3 ∧ OwnR lo hi a1 a2 a3 c1 c2 c3 g1 g2 g3 L S O x := by
  obtain ⟨g1, a1, c1, b1, rfl, o1⟩ := own_of_row flLen h.r1
  obtain ⟨g2, a2, c2, b2, rfl, o2⟩ := own_of_row flLen h.r2
  obtain ⟨g3, a3, c3, b3, rfl, o3⟩ := own_of_row dpLen h.r3
  exact ⟨a1, a2, a3, c1, c2, c3, g1, g2, g3, rfl, rfl, rfl, o1, o2, o3, fun p q e => h.s12 g1 (own_blk o1 p) (by rw [own_blk o2 q, e]), fun p q e => h.s13 g1 (own_blk o1 p) (by rw [own_blk o3 q, e]), fun p q e => h.s23 g2 (own_blk o2 p) (by rw [own_blk o3 q, e]), fun p => ⟨b1, t.1 g1 (own_blk o1 p)⟩, fun p => ⟨b2, t.2.1 g2 (own_blk o2 p)⟩, fun p => ⟨b3, t.2.2 g3 (own_blk o3 p)⟩⟩
theorem RegE.fin (h : RegE W L S O c true true true true true true true u31 u26 u32 u33 u6 u7 x) : RegEnd W L S O c u6 u7 x := by
  obtain ⟨b, lo, hi, v1, v2, v3, Q⟩ := h
  obtain ⟨a1, a2, a3, c1, c2, c3, g1, g2, g3, rfl, rfl, rfl, R⟩ := (Q.dn rfl).2.2.ownR (Q.top rfl)
  exact ⟨b, lo, hi, a1, a2, a3, c1, c2, c3, g1, g2, g3, (Q.al rfl).1, (Q.a10 rfl).2.2, (Q.al rfl).2.1, (Q.dn rfl).1, (Q.dn rfl).2.1, Q.ap rfl rfl, (Q.st rfl).2.2, R⟩
end
end Go.Proofs.YtiilkkdbifhojaaGreat
/- The contract of the program's Sync. -/
namespace Go.Proofs.YtiilkkdbifhojaaGreat
open Go.ChangeShapes Go.WideShapes Go.ChangeAt Go.RowKit
set_option linter.unusedVariables false
set_option maxRecDepth 100000
def syncL (live safe : List Fl) (ops : List Dp) : List Fl := bif diskB ⟨live, safe, ops⟩ then live else []
set_option maxHeartbeats 4000000 in
theorem implSync_any (la sa oa : Option Addr) (lc sc oc : Nat) (live safe : List Fl) (ops : List Dp) (w : World) (hm : SmD live safe ops) (hc : la = none → lc = 0) (h : DkAt w la sa oa live safe ops) :
    Calls Tryz.prog 6 #[.agg #[.slice la live.length lc, .slice sa safe.length sc, .slice oa ops.length oc]] w fun e w' => DiskEnd (syncL live safe ops) (syncL live safe ops) [] w e w' := by
  have HM : Hid _ := hide hm
  have HL : Hid _ := hide h
  have HC : Hid _ := hide hc
  clear hm h hc
  obtain ⟨wa, hwa⟩ : ∃ wa, wa = (w.alloc (.cells #[.slice la live.length lc, .slice sa safe.length sc, .slice oa ops.length oc] 27)).alloc (.cells #[.slice none 0 0, .slice none 0 0, .slice none 0 0] 27) := ⟨_, rfl⟩
  have HW : Hid ((w.alloc (.cells #[.slice la live.length lc, .slice sa safe.length sc, .slice oa ops.length oc] 27)).alloc (.cells #[.slice none 0 0, .slice none 0 0, .slice none 0 0] 27) = wa) := hide hwa.symm
  have KX0 : Hid (Blk w.heap.size [.slice la live.length lc, .slice sa safe.length sc, .slice oa ops.length oc] wa) := hide (by rw [hwa]; exact Blk.new.alloc _)
  have KR0 : Hid (Blk (w.heap.size + 1) [.slice none 0 0, .slice none 0 0, .slice none 0 0] wa) := hide (by rw [hwa]; exact (by simpa using Blk.new (w := w.alloc (.cells #[.slice la live.length lc, .slice sa safe.length sc, .slice oa ops.length oc] 27)) (cur := [.slice none 0 0, .slice none 0 0, .slice none 0 0]) (T := 27)))
  have HX0 : Hid (Below w.heap.size w wa ∧ w.heap.size + 2 ≤ wa.heap.size) := hide ⟨by rw [hwa]; exact below_alloc (below_alloc (Below.refl _ _) _) _, by rw [hwa]; simp⟩
  clear hwa
  go_enter Tryz.func6, Tryz.ntmps6
  go_wp2_with fail
  rw [HW.out]
  have hd := HL.out.below HX0.out.1
  refine (implDiskOk_any la sa oa lc sc oc live safe ops wa HM.out.1.1 HM.out.2.1.1 HM.out.2.2.1 HM.out.1.f HM.out.2.1.f HM.out.2.2.2 hd.r1 hd.r2 hd.r3).mono ?_
  rintro e w1 ⟨rfl, hb1⟩
  clear hd
  have HX1 : Hid (Below w.heap.size w w1 ∧ w.heap.size + 2 ≤ w1.heap.size) := hide ⟨below_trans HX0.out.1 hb1, by have := hb1.size; have := HX0.out.2; omega⟩
  have KX1 : Hid _ := hide (KX0.out.below hb1)
  have KR1 : Hid _ := hide (KR0.out.below hb1)
  clear hb1 KX0 KR0
  have x0 := KX1.out.c 0 _ rfl
  have y0 := KR1.out.c 0 _ rfl
  have y1 := KR1.out.c 1 _ rfl
  have y2 := KR1.out.c 2 _ rfl
  have f0 := KR1.out.f 0
  have f1 := KR1.out.f 1
  have f2 := KR1.out.f 2
  cases hB : diskB ⟨live, safe, ops⟩
  · have HE : Hid (DiskEnd (syncL live safe ops) (syncL live safe ops) [] w (.returned (.agg #[.slice none 0 0, .slice none 0 0, .slice none 0 0])) (((w1.setCell ⟨w.heap.size + 1, 0, none⟩ (.slice none 0 0)).setCell ⟨w.heap.size + 1, 1, none⟩ (.slice none 0 0)).setCell ⟨w.heap.size + 1, 2, none⟩ (.slice none 0 0))) := hide (by
      rw [show syncL live safe ops = [] by simp [syncL, hB]]
      exact ⟨((HX1.out.1.setCell (p := ⟨w.heap.size + 1, 0, none⟩) (Nat.le_succ _) _).setCell (p := ⟨w.heap.size + 1, 1, none⟩) (Nat.le_succ _) _).setCell (p := ⟨w.heap.size + 1, 2, none⟩) (Nat.le_succ _) _, none, none, none, 0, 0, 0, 0, 0, 0, rfl, ⟨fun _ => rfl, fun _ => rfl, fun _ => rfl⟩, OwnR.none3⟩)
    have HS : Hid (∃ Y, (((w1.setCell ⟨w.heap.size + 1, 0, none⟩ (.slice none 0 0)).setCell ⟨w.heap.size + 1, 1, none⟩ (.slice none 0 0)).setCell ⟨w.heap.size + 1, 2, none⟩ (.slice none 0 0)) = Y ∧ Blk (w.heap.size + 1) [.slice none 0 0, .slice none 0 0, .slice none 0 0] Y) := hide ⟨_, rfl, (((KR1.out).set 0 (.slice none 0 0) (by simp)).set 1 (.slice none 0 0) (by simp)).set 2 (.slice none 0 0) (by simp)⟩
    go_wp2
    obtain ⟨Y, hY, kY⟩ := HS.out
    rw [hY] at HE ⊢
    have z0 := kY.c 0 _ rfl
    have z1 := kY.c 1 _ rfl
    have z2 := kY.c 2 _ rfl
    exact bodyPost_ret (v := .agg #[.slice none 0 0, .slice none 0 0, .slice none 0 0]) (by simp [results, Tryz.results6, go_sem, z0, z1, z2]) rfl HE.out
  · clear y0 y1 y2 f0 f1 f2
    go_wp2_with fail
    refine (resting_any la live lc w1 HM.out.1.1 HC.out (HL.out.r1.below HX1.out.1)).mono ?_
    rintro e w2 ⟨hb2, a1, a2, a3, c1, c2, c3, g1, g2, g3, rfl, hn, ho⟩
    have y := KR1.out.below hb2
    have y0 := y.c 0 _ rfl
    have y1 := y.c 1 _ rfl
    have y2 := y.c 2 _ rfl
    have f0 := y.f 0
    have f1 := y.f 1
    have f2 := y.f 2
    have HE : Hid (DiskEnd (syncL live safe ops) (syncL live safe ops) [] w (.returned (.agg #[.slice a1 live.length c1, .slice a2 live.length c2, .slice a3 0 c3])) (((w2.setCell ⟨w.heap.size + 1, 0, none⟩ (.slice a1 live.length c1)).setCell ⟨w.heap.size + 1, 1, none⟩ (.slice a2 live.length c2)).setCell ⟨w.heap.size + 1, 2, none⟩ (.slice a3 0 c3))) := hide (by
      rw [show syncL live safe ops = live by simp [syncL, hB]]
      obtain ⟨Y, hY⟩ : ∃ Y, Y = (((w2.setCell ⟨w.heap.size + 1, 0, none⟩ (.slice a1 live.length c1)).setCell ⟨w.heap.size + 1, 1, none⟩ (.slice a2 live.length c2)).setCell ⟨w.heap.size + 1, 2, none⟩ (.slice a3 0 c3)) := ⟨_, rfl⟩
      rw [← hY]
      have eY : ∀ g, w.heap.size + 2 ≤ g → Y.heap[g]? = w2.heap[g]? := fun g hg => by rw [hY, set_block _ _ (by omega), set_block _ _ (by omega), set_block _ _ (by omega)]
      have sY : Y.heap.size = w2.heap.size := by rw [hY, size_setCell, size_setCell, size_setCell]
      have bY : Below w.heap.size w Y := by
        rw [hY]
        exact (((below_trans HX1.out.1 hb2).setCell (p := ⟨w.heap.size + 1, 0, none⟩) (Nat.le_succ _) _).setCell (p := ⟨w.heap.size + 1, 1, none⟩) (Nat.le_succ _) _).setCell (p := ⟨w.heap.size + 1, 2, none⟩) (Nat.le_succ _) _
      have l1 := HX1.out.2
      exact ⟨bY, a1, a2, a3, c1, c2, c3, g1, g2, g3, rfl, hn, ho.o1.keepB (fun p => eY g1 (by have := ho.i1 p; omega)), ho.o2.keepB (fun p => eY g2 (by have := ho.i2 p; omega)), OwnRow.nil, ho.d12, ho.d13, ho.d23, fun p => by have := ho.i1 p; omega, fun p => by have := ho.i2 p; omega, fun p => by simp at p⟩)
    have HS : Hid (∃ Y, (((w2.setCell ⟨w.heap.size + 1, 0, none⟩ (.slice a1 live.length c1)).setCell ⟨w.heap.size + 1, 1, none⟩ (.slice a2 live.length c2)).setCell ⟨w.heap.size + 1, 2, none⟩ (.slice a3 0 c3)) = Y ∧ Blk (w.heap.size + 1) [.slice a1 live.length c1, .slice a2 live.length c2, .slice a3 0 c3] Y) := hide ⟨_, rfl, (((y).set 0 (.slice a1 live.length c1) (by simp)).set 1 (.slice a2 live.length c2) (by simp)).set 2 (.slice a3 0 c3) (by simp)⟩
    clear y hb2 ho hn
    go_wp2
    obtain ⟨Y, hY, kY⟩ := HS.out
    rw [hY] at HE ⊢
    have z0 := kY.c 0 _ rfl
    have z1 := kY.c 1 _ rfl
    have z2 := kY.c 2 _ rfl
    exact bodyPost_ret (v := .agg #[.slice a1 live.length c1, .slice a2 live.length c2, .slice a3 0 c3]) (by simp [results, Tryz.results6, go_sem, z0, z1, z2]) rfl HE.out
end Go.Proofs.YtiilkkdbifhojaaGreat
/- The contract of the model's Sync. -/
namespace Go.Proofs.YtiilkkdbifhojaaGreat
open Go.ChangeShapes Go.WideShapes Go.ChangeAt Go.RowKit
set_option linter.unusedVariables false
set_option maxRecDepth 100000
/-- what holds in the midst of its region -/
structure SyF (s n : Nat) (wp : World) (la : Option Addr) (lc : Nat) (xs : List Value) (l0 l1 l2 l3 l4 l5 l6 l7 l8 l9 : Bool) (u7 u8 u9 u10 u11 u12 u13 u14 u15 : Value) (x : World) : Prop where
  bel : Below (s + 1) wp x
  sz : s + 2 ≤ x.heap.size
  res : Blk (s + 1) [.slice none 0 0, .slice none 0 0, .slice none 0 0] x ∨ l9 = true
  a0 : l0 = true → l3 = false → x.ownsRow (s + 2) 71 2 u7 0 []
  a1 : l3 = true → x.ownsRow (s + 2) 71 2 u10 n xs
  b0 : l4 = true → l7 = false → x.ownsRow (s + 2) 71 2 u11 0 []
  b1 : l7 = true → x.ownsRow (s + 2) 71 2 u14 n xs
  s00 : l0 = true → l3 = false → l4 = true → l7 = false → Sep u7 u11
  s10 : l3 = true → l4 = true → l7 = false → Sep u10 u11
  s11 : l7 = true → Sep u10 u14
  d7 : l7 = true → l3 = true
  q15 : l8 = true → u15 = .agg #[u10, u14, .slice none 0 0]
  d8 : l8 = true → l7 = true
  d9 : l9 = true → l8 = true
  fin : l9 = true → Blk (s + 1) [u10, u14, .slice none 0 0] x
  p8 : l1 = true → u8 = .pointer (some ⟨s, 0, none⟩)
  p9 : l2 = true → u9 = .slice la n lc
  p12 : l5 = true → u12 = .pointer (some ⟨s, 0, none⟩)
  p13 : l6 = true → u13 = .slice la n lc
theorem SyF.st0 {s n : Nat} {wp : World} {la : Option Addr} {lc : Nat} {xs : List Value} {l1 l2 l3 l4 l5 l6 l7 l8 l9 : Bool} {u7 u8 u9 u10 u11 u12 u13 u14 u15 : Value} {x : World} (h : SyF s n wp la lc xs false l1 l2 l3 l4 l5 l6 l7 l8 l9 u7 u8 u9 u10 u11 u12 u13 u14 u15 x) : SyF s n wp la lc xs true l1 l2 l3 l4 l5 l6 l7 l8 l9 (.slice (some ⟨x.heap.size, 0, none⟩) 0 0) u8 u9 u10 u11 u12 u13 u14 u15 (x.alloc (.cells #[] 71)) := by
  have hsz := h.sz
  have ba : Below x.heap.size x (x.alloc (.cells #[] 71)) := below_alloc (Below.refl _ _) _
  exact { h with
    bel := h.bel.alloc (by omega) _
    sz := Nat.le_trans hsz ba.size
    res := h.res.imp (fun r => r.below ba) id
    a0 := fun _ _ => World.ownsRow_made x #[] 0 hsz (by unfold maxLen; omega) rfl
    a1 := fun a => (h.a1 a).alloc _
    b0 := fun a b => (h.b0 a b).alloc _
    b1 := fun a => (h.b1 a).alloc _
    s00 := fun _ _ c d => Sep.newl (h.b0 c d)
    fin := fun q => (h.fin q).below ba }
theorem SyF.st4 {s n : Nat} {wp : World} {la : Option Addr} {lc : Nat} {xs : List Value} {l0 l1 l2 l3 l5 l6 l7 l8 l9 : Bool} {u7 u8 u9 u10 u11 u12 u13 u14 u15 : Value} {x : World} (h : SyF s n wp la lc xs l0 l1 l2 l3 false l5 l6 l7 l8 l9 u7 u8 u9 u10 u11 u12 u13 u14 u15 x) : SyF s n wp la lc xs l0 l1 l2 l3 true l5 l6 l7 l8 l9 u7 u8 u9 u10 (.slice (some ⟨x.heap.size, 0, none⟩) 0 0) u12 u13 u14 u15 (x.alloc (.cells #[] 71)) := by
  have hsz := h.sz
  have ba : Below x.heap.size x (x.alloc (.cells #[] 71)) := below_alloc (Below.refl _ _) _
  exact { h with
    bel := h.bel.alloc (by omega) _
    sz := Nat.le_trans hsz ba.size
    res := h.res.imp (fun r => r.below ba) id
    a0 := fun a b => (h.a0 a b).alloc _
    a1 := fun a => (h.a1 a).alloc _
    b0 := fun _ _ => World.ownsRow_made x #[] 0 hsz (by unfold maxLen; omega) rfl
    b1 := fun a => (h.b1 a).alloc _
    s00 := fun a b _ _ => Sep.newr (h.a0 a b)
    s10 := fun a _ _ => Sep.newr (h.a1 a)
    fin := fun q => (h.fin q).below ba }
theorem SyF.st3 {s n : Nat} {wp : World} {la : Option Addr} {lc : Nat} {xs : List Value} {l1 l4 l5 l6 l7 l8 l9 : Bool} {u7 u8 u9 u10 u11 u12 u13 u14 u15 : Value} {x : World} {y : World} {v : Value} (h : SyF s n wp la lc xs true l1 true false l4 l5 l6 l7 l8 l9 u7 u8 u9 u10 u11 u12 u13 u14 u15 x) (ho : y.ownsRow (s + 2) 71 2 v n xs) (hg : x.grownBy y u7.ownBlock) (hl : v.ownBlock = u7.ownBlock ∨ v.ownBlock = some x.heap.size) : SyF s n wp la lc xs true l1 true true l4 l5 l6 l7 l8 l9 u7 u8 u9 v u11 u12 u13 u14 u15 y := by
  have hsz := h.sz
  have own := h.a0 rfl rfl
  have lo : ∀ k, u7.ownBlock = some k → s + 2 ≤ k := fun k hk => (own.lt k hk).1
  have n7 : l7 = true → False := fun q => by have := h.d7 q; cases this
  exact { h with
    bel := h.bel.grown hg (by omega) (fun k hk => by have := lo k hk; omega)
    sz := Nat.le_trans hsz hg.size
    res := h.res.imp (fun r => r.grown hg (fun q => by have := lo _ q.symm; omega)) id
    a0 := fun _ q => by cases q
    a1 := fun _ => ho
    b0 := fun a b => (h.b0 a b).kept hg (Sep.en (h.s00 rfl rfl a b))
    b1 := fun q => (n7 q).elim
    s00 := fun _ q => by cases q
    s10 := fun _ a b => Sep.grow (h.s00 rfl rfl a b) hl (h.b0 a b)
    s11 := fun q => (n7 q).elim
    d7 := fun _ => rfl
    q15 := fun q => (n7 (h.d8 q)).elim
    fin := fun q => (n7 (h.d8 (h.d9 q))).elim }
theorem SyF.st7 {s n : Nat} {wp : World} {la : Option Addr} {lc : Nat} {xs : List Value} {l0 l1 l2 l5 l8 l9 : Bool} {u7 u8 u9 u10 u11 u12 u13 u14 u15 : Value} {x : World} {y : World} {v : Value} (h : SyF s n wp la lc xs l0 l1 l2 true true l5 true false l8 l9 u7 u8 u9 u10 u11 u12 u13 u14 u15 x) (ho : y.ownsRow (s + 2) 71 2 v n xs) (hg : x.grownBy y u11.ownBlock) (hl : v.ownBlock = u11.ownBlock ∨ v.ownBlock = some x.heap.size) : SyF s n wp la lc xs l0 l1 l2 true true l5 true true l8 l9 u7 u8 u9 u10 u11 u12 u13 v u15 y := by
  have hsz := h.sz
  have own := h.b0 rfl rfl
  have lo : ∀ k, u11.ownBlock = some k → s + 2 ≤ k := fun k hk => (own.lt k hk).1
  have n8 : l8 = true → False := fun q => by have := h.d8 q; cases this
  exact { h with
    bel := h.bel.grown hg (by omega) (fun k hk => by have := lo k hk; omega)
    sz := Nat.le_trans hsz hg.size
    res := h.res.imp (fun r => r.grown hg (fun q => by have := lo _ q.symm; omega)) id
    a0 := fun _ q => by cases q
    a1 := fun _ => (h.a1 rfl).kept hg (Sep.ne (h.s10 rfl rfl rfl))
    b0 := fun _ q => by cases q
    b1 := fun _ => ho
    s00 := fun _ q => by cases q
    s10 := fun _ _ q => by cases q
    s11 := fun _ => Sep.growr (h.s10 rfl rfl rfl) hl (h.a1 rfl)
    d7 := fun _ => rfl
    q15 := fun q => (n8 q).elim
    d8 := fun _ => rfl
    fin := fun q => (n8 (h.d9 q)).elim }
theorem SyF.st9 {s n : Nat} {wp : World} {la : Option Addr} {lc : Nat} {xs : List Value} {u7 u8 u9 u10 u11 u12 u13 u14 u15 : Value} {x : World} (h : SyF s n wp la lc xs true true true true true true true true true false u7 u8 u9 u10 u11 u12 u13 u14 u15 x) : SyF s n wp la lc xs true true true true true true true true true true u7 u8 u9 u10 u11 u12 u13 u14 u15 (((x.setCell ⟨s + 1, 0, none⟩ u10).setCell ⟨s + 1, 1, none⟩ u14).setCell ⟨s + 1, 2, none⟩ (.slice none 0 0)) := by
  have hsz := h.sz
  have R := h.res.resolve_right (by simp)
  have hn : u10.ownBlock = none ∨ u10.ownBlock ≠ some (s + 1) := .inr (fun q => by have := ((h.a1 rfl).lt _ q).1; omega)
  have hn2 : u14.ownBlock = none ∨ u14.ownBlock ≠ some (s + 1) := .inr (fun q => by have := ((h.b1 rfl).lt _ q).1; omega)
  exact { h with
    bel := ((h.bel.setCell (p := ⟨s + 1, 0, none⟩) (Nat.le_refl _) _).setCell (p := ⟨s + 1, 1, none⟩) (Nat.le_refl _) _).setCell (p := ⟨s + 1, 2, none⟩) (Nat.le_refl _) _
    sz := by simpa [World.setCell] using hsz
    res := .inr rfl
    a0 := fun _ q => by cases q
    a1 := fun _ => (((h.a1 rfl).kept (grown_set _ _ _ _) hn).kept (grown_set _ _ _ _) hn).kept (grown_set _ _ _ _) hn
    b0 := fun _ q => by cases q
    b1 := fun _ => (((h.b1 rfl).kept (grown_set _ _ _ _) hn2).kept (grown_set _ _ _ _) hn2).kept (grown_set _ _ _ _) hn2
    d9 := fun _ => rfl
    fin := fun _ => ((R.set 0 u10 (by simp)).set 1 u14 (by simp)).set 2 (.slice none 0 0) (by simp) }
set_option maxHeartbeats 8000000 in
theorem specSync_any (la sa oa : Option Addr) (lc sc oc : Nat) (live safe : List Fl) (ops : List Dp) (w : World) (hm : SmD live safe ops) (hc : la = none → lc = 0) (hsc : sa = none → sc = 0) (h : DkAt w la sa oa live safe ops) :
    Calls Tryz.prog 32 #[.agg #[.slice la live.length lc, .slice sa safe.length sc, .slice oa ops.length oc]] w fun e w' => DiskV (syncL live safe ops) (syncL live safe ops) [] w e w' := by
  have HM : Hid _ := hide hm
  have HL : Hid _ := hide h
  have HC : Hid _ := hide hc
  clear hm h hc
  obtain ⟨wa, hwa⟩ : ∃ wa, wa = (w.alloc (.cells #[.slice la live.length lc, .slice sa safe.length sc, .slice oa ops.length oc] 27)).alloc (.cells #[.slice none 0 0, .slice none 0 0, .slice none 0 0] 27) := ⟨_, rfl⟩
  have HW : Hid ((w.alloc (.cells #[.slice la live.length lc, .slice sa safe.length sc, .slice oa ops.length oc] 27)).alloc (.cells #[.slice none 0 0, .slice none 0 0, .slice none 0 0] 27) = wa) := hide hwa.symm
  have KX0 : Hid (Blk w.heap.size [.slice la live.length lc, .slice sa safe.length sc, .slice oa ops.length oc] wa) := hide (by rw [hwa]; exact Blk.new.alloc _)
  have KR0 : Hid (Blk (w.heap.size + 1) [.slice none 0 0, .slice none 0 0, .slice none 0 0] wa) := hide (by rw [hwa]; exact (by simpa using Blk.new (w := w.alloc (.cells #[.slice la live.length lc, .slice sa safe.length sc, .slice oa ops.length oc] 27)) (cur := [.slice none 0 0, .slice none 0 0, .slice none 0 0]) (T := 27)))
  have HX0 : Hid (Below w.heap.size w wa ∧ w.heap.size + 2 ≤ wa.heap.size) := hide ⟨by rw [hwa]; exact below_alloc (below_alloc (Below.refl _ _) _) _, by rw [hwa]; simp⟩
  clear hwa
  go_enter Tryz.func32, Tryz.ntmps32
  go_wp2_with fail
  rw [HW.out]
  have hd := HL.out.below HX0.out.1
  refine (specDiskOk_any la sa oa lc sc oc live safe ops wa HM.out.1.1 HM.out.2.1.1 HM.out.2.2.1 HM.out.1.f HM.out.2.1.f HM.out.2.2.2 hsc hd.r1 hd.r2 hd.r3).mono ?_
  rintro e w1 ⟨rfl, hb1⟩
  clear hd
  have HX1 : Hid (Below w.heap.size w w1 ∧ w.heap.size + 2 ≤ w1.heap.size) := hide ⟨below_trans HX0.out.1 hb1, by have := hb1.size; have := HX0.out.2; omega⟩
  have KX1 : Hid _ := hide (KX0.out.below hb1)
  have KR1 : Hid _ := hide (KR0.out.below hb1)
  clear hb1 KX0 KR0
  have x0 := KX1.out.c 0 _ rfl
  have y0 := KR1.out.c 0 _ rfl
  have y1 := KR1.out.c 1 _ rfl
  have y2 := KR1.out.c 2 _ rfl
  have f0 := KR1.out.f 0
  have f1 := KR1.out.f 1
  have f2 := KR1.out.f 2
  cases hB : diskB ⟨live, safe, ops⟩
  · have HE : Hid (DiskV (syncL live safe ops) (syncL live safe ops) [] w (.returned (.agg #[.slice none 0 0, .slice none 0 0, .slice none 0 0])) (((w1.setCell ⟨w.heap.size + 1, 0, none⟩ (.slice none 0 0)).setCell ⟨w.heap.size + 1, 1, none⟩ (.slice none 0 0)).setCell ⟨w.heap.size + 1, 2, none⟩ (.slice none 0 0))) := hide (by
      rw [show syncL live safe ops = [] by simp [syncL, hB]]
      exact ⟨((HX1.out.1.setCell (p := ⟨w.heap.size + 1, 0, none⟩) (Nat.le_succ _) _).setCell (p := ⟨w.heap.size + 1, 1, none⟩) (Nat.le_succ _) _).setCell (p := ⟨w.heap.size + 1, 2, none⟩) (Nat.le_succ _) _, _, _, _, rfl, ⟨⟨by simp, .inl ⟨rfl, rfl⟩⟩, ⟨by simp, .inl ⟨rfl, rfl⟩⟩, ⟨by simp, .inl ⟨rfl, rfl⟩⟩, fun g hg => (by cases hg), fun g hg => (by cases hg), fun g hg => (by cases hg)⟩⟩)
    have HS : Hid (∃ Y, (((w1.setCell ⟨w.heap.size + 1, 0, none⟩ (.slice none 0 0)).setCell ⟨w.heap.size + 1, 1, none⟩ (.slice none 0 0)).setCell ⟨w.heap.size + 1, 2, none⟩ (.slice none 0 0)) = Y ∧ Blk (w.heap.size + 1) [.slice none 0 0, .slice none 0 0, .slice none 0 0] Y) := hide ⟨_, rfl, (((KR1.out).set 0 (.slice none 0 0) (by simp)).set 1 (.slice none 0 0) (by simp)).set 2 (.slice none 0 0) (by simp)⟩
    go_wp2
    obtain ⟨Y, hY, kY⟩ := HS.out
    rw [hY] at HE ⊢
    have z0 := kY.c 0 _ rfl
    have z1 := kY.c 1 _ rfl
    have z2 := kY.c 2 _ rfl
    exact bodyPost_ret (v := .agg #[.slice none 0 0, .slice none 0 0, .slice none 0 0]) (by simp [results, Tryz.results32, go_sem, z0, z1, z2]) rfl HE.out
  · clear y0 y1 y2 f0 f1 f2 x0
    obtain ⟨i0, hi0, hz0, hz1, hz2⟩ := info_parts infoF
    have hu := huF
    have HN : Hid _ := hide (HL.out.r1.news_any flLen (by decide))
    have HZ : Hid (live.length ≤ 1048576) := hide HM.out.1.1
    go_wp2_with fail
    have HB1 : Hid (Below (w.heap.size + 1) w1 w1.drew) := hide (Below.refl _ _).drew
    have HSZ : Hid (w.heap.size + 2 ≤ w1.drew.heap.size) := hide HX1.out.2
    have HR : Hid (Blk (w.heap.size + 1) [.slice none 0 0, .slice none 0 0, .slice none 0 0] w1.drew) := hide (KR1.out.below (Below.refl _ _).drew)
    rename_i hK0
    refine wp_region_inv (by kernel_rfl) (fun L act x => ∃ l0 l1 l2 l3 l4 l5 l6 l7 l8 l9 : Bool, ∃ u7 u8 u9 u10 u11 u12 u13 u14 u15 : Value, L = #[l0, l1, l2, l3, l4, l5, l6, l7, l8, l9] ∧ act = { tmps := #[Value.agg #[Value.slice la live.length lc, Value.slice sa safe.length sc, Value.slice oa ops.length oc], Value.pointer (some { block := w.heap.size, off := 0 }), Value.pointer (some { block := w.heap.size + 1, off := 0 }), Value.agg #[Value.slice la live.length lc, Value.slice sa safe.length sc, Value.slice oa ops.length oc], Value.bool true, Value.bool false, undef, u7, u8, u9, u10, u11, u12, u13, u14, u15], defers := [] } ∧ SyF w.heap.size live.length w1 la lc (live.flatMap flCells) l0 l1 l2 l3 l4 l5 l6 l7 l8 l9 u7 u8 u9 u10 u11 u12 u13 u14 u15 x) ?_ ?_ ?_
    rotate_left 2
    · exact ⟨false, false, false, false, false, false, false, false, false, false, (undef), (undef), (undef), (undef), (undef), (undef), (undef), (undef), (undef), rfl, rfl, ⟨HB1.out, HSZ.out, .inl HR.out, fun q => (by cases q), fun q => (by cases q), fun q => (by cases q), fun q => (by cases q), fun q => (by cases q), fun q => (by cases q), fun q => (by cases q), fun q => (by cases q), fun q => (by cases q), fun q => (by cases q), fun q => (by cases q), fun q => (by cases q), fun q => (by cases q), fun q => (by cases q), fun q => (by cases q), fun q => (by cases q)⟩⟩
    · rintro L act x i ⟨l0, l1, l2, l3, l4, l5, l6, l7, l8, l9, u7, u8, u9, u10, u11, u12, u13, u14, u15, rfl, rfl, h⟩ hi K hK
      have hi15 : i < 10 := by
        obtain ⟨_, o, ho, _⟩ := mem_ready.1 hi
        exact (Array.getElem?_eq_some_iff.1 ho).1
      have hl := (mem_ready.1 hi).1
      obtain rfl | rfl | rfl | rfl | rfl | rfl | rfl | rfl | rfl | rfl := (by omega : i = 0 ∨ i = 1 ∨ i = 2 ∨ i = 3 ∨ i = 4 ∨ i = 5 ∨ i = 6 ∨ i = 7 ∨ i = 8 ∨ i = 9)
      · have e : l0 = false := hl
        subst e
        refine wpOp_run (v := .slice (some ⟨x.heap.size, 0, none⟩) 0 0) (w' := x.alloc (.cells #[] 71)) (by rfl) (by rfl) ?_ (hK _ _ ⟨true, l1, l2, l3, l4, l5, l6, l7, l8, l9, (.slice (some ⟨x.heap.size, 0, none⟩) 0 0), u8, u9, u10, u11, u12, u13, u14, u15, rfl, rfl, h.st0⟩)
        go_simp
      · have e : l1 = false := hl
        subst e
        refine wpOp_run (v := .pointer (some ⟨w.heap.size, 0, none⟩)) (w' := x) (by rfl) (by rfl) ?_ (hK _ _ ⟨l0, true, l2, l3, l4, l5, l6, l7, l8, l9, u7, (.pointer (some ⟨w.heap.size, 0, none⟩)), u9, u10, u11, u12, u13, u14, u15, rfl, rfl, { h with p8 := fun _ => rfl }⟩)
        go_simp
      · have e : l2 = false := hl
        subst e
        have d1 : l1 = true := ready_on hi 1 (by kernel_rfl)
        subst d1
        have c0 : x.cell? ⟨w.heap.size, 0, none⟩ = some (.slice la live.length lc) := (h.bel.cell (by show w.heap.size < _; omega)).trans (KX1.out.c 0 _ rfl)
        refine wpOp_run (v := .slice la live.length lc) (w' := x) (by rfl) (by rfl) ?_ (hK _ _ ⟨l0, true, true, l3, l4, l5, l6, l7, l8, l9, u7, u8, (.slice la live.length lc), u10, u11, u12, u13, u14, u15, rfl, rfl, { h with p9 := fun _ => rfl }⟩)
        rw [h.p8 rfl]
        go_simp
      · have e : l3 = false := hl
        subst e
        have d0 : l0 = true := ready_on hi 0 (by kernel_rfl)
        subst d0
        have d2 : l2 = true := ready_on hi 2 (by kernel_rfl)
        subst d2
        have hsz := h.sz
        have HZ1 := HZ.out
        obtain ⟨v', y, hr, ho, hg, hlie⟩ := run_append_any (P := Tryz.prog) (w := x) (w.heap.size + 2) 24 24 71 i0 _ 2 32 hu hi0 hz0 hz1 hz2 rfl (by decide) _ 0 [] (h.a0 rfl rfl) la live.length lc (live.flatMap flCells) (flat_len flCells 2 flLen live) (fun e => ⟨row_none HL.out.r1 e, HC.out e⟩) (fun ad had j u hj => below_keeps (HX1.out.1.trans (h.bel.mono (by omega))) _ _ (HN.out ad had j u hj)) (fl_one live) (by unfold maxLen; omega) (by omega) hsz
        rw [Nat.zero_add, List.nil_append] at ho
        refine wpOp_run (v := v') (w' := y) (by rfl) (by rfl) ?_ (hK _ _ ⟨true, l1, true, true, l4, l5, l6, l7, l8, l9, u7, u8, u9, (v'), u11, u12, u13, u14, u15, rfl, rfl, h.st3 ho hg hlie⟩)
        exact exec_append rfl (by rfl) (h.p9 rfl) hr
      · have e : l4 = false := hl
        subst e
        refine wpOp_run (v := .slice (some ⟨x.heap.size, 0, none⟩) 0 0) (w' := x.alloc (.cells #[] 71)) (by rfl) (by rfl) ?_ (hK _ _ ⟨l0, l1, l2, l3, true, l5, l6, l7, l8, l9, u7, u8, u9, u10, (.slice (some ⟨x.heap.size, 0, none⟩) 0 0), u12, u13, u14, u15, rfl, rfl, h.st4⟩)
        go_simp
      · have e : l5 = false := hl
        subst e
        refine wpOp_run (v := .pointer (some ⟨w.heap.size, 0, none⟩)) (w' := x) (by rfl) (by rfl) ?_ (hK _ _ ⟨l0, l1, l2, l3, l4, true, l6, l7, l8, l9, u7, u8, u9, u10, u11, (.pointer (some ⟨w.heap.size, 0, none⟩)), u13, u14, u15, rfl, rfl, { h with p12 := fun _ => rfl }⟩)
        go_simp
      · have e : l6 = false := hl
        subst e
        have d5 : l5 = true := ready_on hi 5 (by kernel_rfl)
        subst d5
        have c0 : x.cell? ⟨w.heap.size, 0, none⟩ = some (.slice la live.length lc) := (h.bel.cell (by show w.heap.size < _; omega)).trans (KX1.out.c 0 _ rfl)
        refine wpOp_run (v := .slice la live.length lc) (w' := x) (by rfl) (by rfl) ?_ (hK _ _ ⟨l0, l1, l2, l3, l4, true, true, l7, l8, l9, u7, u8, u9, u10, u11, u12, (.slice la live.length lc), u14, u15, rfl, rfl, { h with p13 := fun _ => rfl }⟩)
        rw [h.p12 rfl]
        go_simp
      · have e : l7 = false := hl
        subst e
        have d3 : l3 = true := ready_on hi 3 (by kernel_rfl)
        subst d3
        have d4 : l4 = true := ready_on hi 4 (by kernel_rfl)
        subst d4
        have d6 : l6 = true := ready_on hi 6 (by kernel_rfl)
        subst d6
        have hsz := h.sz
        have HZ1 := HZ.out
        obtain ⟨v', y, hr, ho, hg, hlie⟩ := run_append_any (P := Tryz.prog) (w := x) (w.heap.size + 2) 24 24 71 i0 _ 2 32 hu hi0 hz0 hz1 hz2 rfl (by decide) _ 0 [] (h.b0 rfl rfl) la live.length lc (live.flatMap flCells) (flat_len flCells 2 flLen live) (fun e => ⟨row_none HL.out.r1 e, HC.out e⟩) (fun ad had j u hj => below_keeps (HX1.out.1.trans (h.bel.mono (by omega))) _ _ (HN.out ad had j u hj)) (fl_one live) (by unfold maxLen; omega) (by omega) hsz
        rw [Nat.zero_add, List.nil_append] at ho
        refine wpOp_run (v := v') (w' := y) (by rfl) (by rfl) ?_ (hK _ _ ⟨l0, l1, l2, true, true, l5, true, true, l8, l9, u7, u8, u9, u10, u11, u12, u13, (v'), u15, rfl, rfl, h.st7 ho hg hlie⟩)
        exact exec_append rfl (by rfl) (h.p13 rfl) hr
      · have e : l8 = false := hl
        subst e
        have d3 : l3 = true := ready_on hi 3 (by kernel_rfl)
        subst d3
        have d7 : l7 = true := ready_on hi 7 (by kernel_rfl)
        subst d7
        obtain ⟨a4, c4, e4⟩ := row_shape (h.a1 rfl)
        obtain ⟨a5, c5, e5⟩ := row_shape (h.b1 rfl)
        refine wpOp_run (v := .agg #[u10, u14, .slice none 0 0]) (w' := x) (by rfl) (by rfl) ?_ (hK _ _ ⟨l0, l1, l2, true, l4, l5, l6, true, true, l9, u7, u8, u9, u10, u11, u12, u13, u14, (.agg #[u10, u14, .slice none 0 0]), rfl, rfl, { h with q15 := fun _ => rfl, d8 := fun _ => rfl, d9 := fun _ => rfl }⟩)
        rw [e4, e5]
        go_simp
      · have e : l9 = false := hl
        subst e
        have d0 : l0 = true := ready_on hi 0 (by kernel_rfl)
        subst d0
        have d1 : l1 = true := ready_on hi 1 (by kernel_rfl)
        subst d1
        have d2 : l2 = true := ready_on hi 2 (by kernel_rfl)
        subst d2
        have d3 : l3 = true := ready_on hi 3 (by kernel_rfl)
        subst d3
        have d4 : l4 = true := ready_on hi 4 (by kernel_rfl)
        subst d4
        have d5 : l5 = true := ready_on hi 5 (by kernel_rfl)
        subst d5
        have d6 : l6 = true := ready_on hi 6 (by kernel_rfl)
        subst d6
        have d7 : l7 = true := ready_on hi 7 (by kernel_rfl)
        subst d7
        have d8 : l8 = true := ready_on hi 8 (by kernel_rfl)
        subst d8
        obtain ⟨a4, c4, e4⟩ := row_shape (h.a1 rfl)
        obtain ⟨a5, c5, e5⟩ := row_shape (h.b1 rfl)
        have R := h.res.resolve_right (by simp)
        have r0 := R.c 0 _ rfl
        have r1 := R.c 1 _ rfl
        have r2 := R.c 2 _ rfl
        have f0 := R.f 0
        have f1 := R.f 1
        have f2 := R.f 2
        refine wpOp_skip (w' := (((x.setCell ⟨w.heap.size + 1, 0, none⟩ u10).setCell ⟨w.heap.size + 1, 1, none⟩ u14).setCell ⟨w.heap.size + 1, 2, none⟩ (.slice none 0 0))) (by rfl) (by rfl) ?_ (hK _ _ ⟨true, true, true, true, true, true, true, true, true, true, u7, u8, u9, u10, u11, u12, u13, u14, u15, rfl, rfl, h.st9⟩)
        rw [h.q15 rfl, e4, e5]
        go_simp
    · rintro L act x ⟨l0, l1, l2, l3, l4, l5, l6, l7, l8, l9, u7, u8, u9, u10, u11, u12, u13, u14, u15, rfl, rfl, h⟩ hr
      have hall := ready_all hr rfl (by decide)
      have t0 : l0 = true := hall 0 (by decide)
      have t1 : l1 = true := hall 1 (by decide)
      have t2 : l2 = true := hall 2 (by decide)
      have t3 : l3 = true := hall 3 (by decide)
      have t4 : l4 = true := hall 4 (by decide)
      have t5 : l5 = true := hall 5 (by decide)
      have t6 : l6 = true := hall 6 (by decide)
      have t7 : l7 = true := hall 7 (by decide)
      have t8 : l8 = true := hall 8 (by decide)
      have t9 : l9 = true := hall 9 (by decide)
      subst t0 t1 t2 t3 t4 t5 t6 t7 t8 t9
      clear hall hr
      obtain ⟨g4, a4, c4, hb4, e4, n4, o4⟩ := own_of_row2 flLen (h.a1 rfl)
      obtain ⟨g5, a5, c5, hb5, e5, n5, o5⟩ := own_of_row2 flLen (h.b1 rfl)
      have kY := h.fin rfl
      have sp := h.s11 rfl
      rw [e4, e5] at kY sp
      have z0 := kY.c 0 _ rfl
      have z1 := kY.c 1 _ rfl
      have z2 := kY.c 2 _ rfl
      have HE : Hid (DiskV (syncL live safe ops) (syncL live safe ops) [] w (.returned (.agg #[.slice a4 live.length c4, .slice a5 live.length c5, .slice none 0 0])) x) := hide (by
        rw [show syncL live safe ops = live by simp [syncL, hB]]
        have q1 := h.a1 rfl
        have q2 := h.b1 rfl
        rw [e4] at q1
        rw [e5] at q2
        exact ⟨HX1.out.1.trans (h.bel.mono (by omega)), _, _, _, rfl, ⟨own_mono q1 (by omega), own_mono q2 (by omega), ⟨by simp, .inl ⟨rfl, rfl⟩⟩, sp, fun g _ q => (by cases q), fun g _ q => (by cases q)⟩⟩)
      clear h o4 o5 hb4 hb5 e4 e5 kY sp
      refine hK0 _ _ ?_
      go_wp2
      exact bodyPost_ret (v := .agg #[.slice a4 live.length c4, .slice a5 live.length c5, .slice none 0 0]) (by simp [results, Tryz.results32, go_sem, z0, z1, z2]) rfl HE.out
end Go.Proofs.YtiilkkdbifhojaaGreat
