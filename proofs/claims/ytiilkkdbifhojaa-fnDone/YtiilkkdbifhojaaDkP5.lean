/- What holds in the midst of a law's region that asks for a disk and lays it away. -/
import Derived.Test.YtiilkkdbifhojaaDkP4
namespace Go.Proofs.Ytiilkkdbifhojaa
open Go.ChangeShapes Go.WideShapes Go.ChangeAt Go.RowKit
set_option linter.unusedVariables false
set_option maxRecDepth 100000
structure RegQ (W : Nat) (L S : List Fl) (O : List Dp) (c : Value) (l4 l5 l6 l7 l8 l9 l10 : Bool) (u31 u26 u32 u33 u6 u7 : Value) (x : World) (b lo hi : Nat) (v1 v2 v3 : Value) : Prop where
  al : l8 = true → u6 = .pointer (some ⟨b, 0, none⟩) ∧ W ≤ b ∧ b < x.heap.size
  az : l8 = true → l9 = false → Blk b [.slice none 0 0, .slice none 0 0, .slice none 0 0] x
  dn : l4 = true → W ≤ lo ∧ hi ≤ x.heap.size ∧ RowsD lo L S O v1 v2 v3 x
  top : l4 = true → (∀ g, v1.ownBlock = some g → g < hi) ∧ (∀ g, v2.ownBlock = some g → g < hi) ∧ (∀ g, v3.ownBlock = some g → g < hi)
  t4 : l4 = true → u31 = .tuple #[.agg #[v1, v2, v3], c]
  m5 : l5 = true → l4 = true ∧ u26 = .tuple #[.agg #[v1, v2, v3], c]
  e6 : l6 = true → l5 = true ∧ u32 = .agg #[v1, v2, v3]
  e7 : l7 = true → l5 = true ∧ u33 = c
  ap : l4 = true → l8 = true → b < lo ∨ hi ≤ b
  st : l9 = true → l6 = true ∧ l8 = true ∧ Blk b [v1, v2, v3] x
  a10 : l10 = true → l7 = true ∧ l9 = true ∧ u7 = c
def RegE (W : Nat) (L S : List Fl) (O : List Dp) (c : Value) (l4 l5 l6 l7 l8 l9 l10 : Bool) (u31 u26 u32 u33 u6 u7 : Value) (x : World) : Prop := ∃ b lo hi v1 v2 v3, RegQ W L S O c l4 l5 l6 l7 l8 l9 l10 u31 u26 u32 u33 u6 u7 x b lo hi v1 v2 v3
section
variable {W : Nat} {L S : List Fl} {O : List Dp} {c : Value} {l4 l5 l6 l7 l8 l9 l10 : Bool} {u31 u26 u32 u33 u6 u7 : Value} {x y : World} {b lo hi : Nat} {v1 v2 v3 : Value}
theorem RegE.start : RegE W L S O c false false false false false false false u31 u26 u32 u33 u6 u7 x :=
  ⟨0, 0, 0, .slice none 0 0, .slice none 0 0, .slice none 0 0, ⟨fun q => (by cases q), fun q => (by cases q), fun q => (by cases q), fun q => (by cases q), fun q => (by cases q), fun q => (by cases q), fun q => (by cases q), fun q => (by cases q), fun q => (by cases q), fun q => (by cases q), fun q => (by cases q)⟩⟩
theorem RegQ.keep (h : RegQ W L S O c l4 l5 l6 l7 l8 l9 l10 u31 u26 u32 u33 u6 u7 x b lo hi v1 v2 v3) (hb : Below x.heap.size x y) : RegQ W L S O c l4 l5 l6 l7 l8 l9 l10 u31 u26 u32 u33 u6 u7 y b lo hi v1 v2 v3 :=
  { h with
    al := fun q => ⟨(h.al q).1, (h.al q).2.1, Nat.lt_of_lt_of_le (h.al q).2.2 hb.size⟩
    az := fun q r => (h.az q r).below hb
    dn := fun q => ⟨(h.dn q).1, Nat.le_trans (h.dn q).2.1 hb.size, (h.dn q).2.2.below hb⟩
    st := fun q => ⟨(h.st q).1, (h.st q).2.1, (h.st q).2.2.below hb⟩ }
theorem RegE.keep (h : RegE W L S O c l4 l5 l6 l7 l8 l9 l10 u31 u26 u32 u33 u6 u7 x) (hb : Below x.heap.size x y) : RegE W L S O c l4 l5 l6 l7 l8 l9 l10 u31 u26 u32 u33 u6 u7 y := by
  obtain ⟨b, lo, hi, v1, v2, v3, Q⟩ := h
  exact ⟨b, lo, hi, v1, v2, v3, Q.keep hb⟩
theorem RegE.done (h : RegE W L S O c false l5 l6 l7 l8 l9 l10 u31 u26 u32 u33 u6 u7 x) (hb : Below x.heap.size x y) (hW : W ≤ x.heap.size) (hr : RowsD x.heap.size L S O v1 v2 v3 y) : RegE W L S O c true l5 l6 l7 l8 l9 l10 (.tuple #[.agg #[v1, v2, v3], c]) u26 u32 u33 u6 u7 y := by
  obtain ⟨b, lo, hi, z1, z2, z3, Q⟩ := h
  have n5 : l5 = true → False := fun q => by have := (Q.m5 q).1; cases this
  have n6 : l6 = true → False := fun q => n5 (Q.e6 q).1
  have n7 : l7 = true → False := fun q => n5 (Q.e7 q).1
  have n9 : l9 = true → False := fun q => n6 (Q.st q).1
  refine ⟨b, x.heap.size, y.heap.size, v1, v2, v3, ⟨fun q => ⟨(Q.al q).1, (Q.al q).2.1, Nat.lt_of_lt_of_le (Q.al q).2.2 hb.size⟩, fun q r => (Q.az q r).below hb, fun _ => ⟨hW, Nat.le_refl _, hr⟩, fun _ => ⟨fun g hg => (hr.r1.lt g hg).2, fun g hg => (hr.r2.lt g hg).2, fun g hg => (hr.r3.lt g hg).2⟩, fun _ => rfl, fun q => (n5 q).elim, fun q => (n6 q).elim, fun q => (n7 q).elim, fun _ q => .inl (Q.al q).2.2, fun q => (n9 q).elim, fun q => (n7 (Q.a10 q).1).elim⟩⟩
theorem RegE.alloc (h : RegE W L S O c l4 l5 l6 l7 false l9 l10 u31 u26 u32 u33 u6 u7 x) (hW : W ≤ x.heap.size) {T : TypeId} : RegE W L S O c l4 l5 l6 l7 true l9 l10 u31 u26 u32 u33 (.pointer (some ⟨x.heap.size, 0, none⟩)) u7 (x.alloc (.cells #[.slice none 0 0, .slice none 0 0, .slice none 0 0] T)) := by
  obtain ⟨b, lo, hi, v1, v2, v3, Q⟩ := h
  have hb : Below x.heap.size x (x.alloc (.cells #[.slice none 0 0, .slice none 0 0, .slice none 0 0] T)) := below_alloc (Below.refl _ _) _
  have n9 : l9 = true → False := fun q => by have := (Q.st q).2.1; cases this
  have Q' := Q.keep hb
  exact ⟨x.heap.size, lo, hi, v1, v2, v3, { Q' with
    al := fun _ => ⟨rfl, hW, by simp⟩
    az := fun _ _ => Blk.new
    ap := fun q _ => .inr (Q.dn q).2.1
    st := fun q => (n9 q).elim
    a10 := fun q => (n9 (Q.a10 q).2.1).elim }⟩
theorem RegE.mv5 (h : RegE W L S O c true false l6 l7 l8 l9 l10 u31 u26 u32 u33 u6 u7 x) : RegE W L S O c true true l6 l7 l8 l9 l10 u31 u31 u32 u33 u6 u7 x := by
  obtain ⟨b, lo, hi, v1, v2, v3, Q⟩ := h
  exact ⟨b, lo, hi, v1, v2, v3, { Q with m5 := fun _ => ⟨rfl, Q.t4 rfl⟩, e6 := fun q => ⟨rfl, (Q.e6 q).2⟩, e7 := fun q => ⟨rfl, (Q.e7 q).2⟩ }⟩
theorem RegQ.ex6 (Q : RegQ W L S O c l4 true false l7 l8 l9 l10 u31 u26 u32 u33 u6 u7 x b lo hi v1 v2 v3) : RegQ W L S O c l4 true true l7 l8 l9 l10 u31 u26 (.agg #[v1, v2, v3]) u33 u6 u7 x b lo hi v1 v2 v3 :=
  { Q with e6 := fun _ => ⟨rfl, rfl⟩, st := fun q => ⟨rfl, (Q.st q).2⟩ }
theorem RegQ.ex7 (Q : RegQ W L S O c l4 true l6 false l8 l9 l10 u31 u26 u32 u33 u6 u7 x b lo hi v1 v2 v3) : RegQ W L S O c l4 true l6 true l8 l9 l10 u31 u26 u32 c u6 u7 x b lo hi v1 v2 v3 :=
  { Q with e7 := fun _ => ⟨rfl, rfl⟩, a10 := fun q => ⟨rfl, (Q.a10 q).2⟩ }
theorem RegQ.as10 (Q : RegQ W L S O c l4 l5 l6 true l8 true false u31 u26 u32 u33 u6 u7 x b lo hi v1 v2 v3) : RegQ W L S O c l4 l5 l6 true l8 true true u31 u26 u32 u33 u6 c x b lo hi v1 v2 v3 :=
  { Q with a10 := fun _ => ⟨rfl, rfl, rfl⟩ }
theorem RegQ.sto (Q : RegQ W L S O c true true true l7 true false l10 u31 u26 u32 u33 u6 u7 x b lo hi v1 v2 v3) : RegQ W L S O c true true true l7 true true l10 u31 u26 u32 u33 u6 u7 (((x.setCell ⟨b, 0, none⟩ v1).setCell ⟨b, 1, none⟩ v2).setCell ⟨b, 2, none⟩ v3) b lo hi v1 v2 v3 := by
  have R := Q.az rfl rfl
  have D := (Q.dn rfl).2.2
  obtain ⟨t1, t2, t3⟩ := Q.top rfl
  have A := Q.ap rfl rfl
  have m1 : v1.ownBlock = none ∨ v1.ownBlock ≠ some b := .inr (fun q => by have := (D.r1.lt _ q).1; have := t1 _ q; omega)
  have m2 : v2.ownBlock = none ∨ v2.ownBlock ≠ some b := .inr (fun q => by have := (D.r2.lt _ q).1; have := t2 _ q; omega)
  have m3 : v3.ownBlock = none ∨ v3.ownBlock ≠ some b := .inr (fun q => by have := (D.r3.lt _ q).1; have := t3 _ q; omega)
  exact { Q with
    al := fun q => ⟨(Q.al q).1, (Q.al q).2.1, by rw [size_setCell, size_setCell, size_setCell]; exact (Q.al q).2.2⟩
    az := fun _ q => by cases q
    dn := fun q => ⟨(Q.dn q).1, by rw [size_setCell, size_setCell, size_setCell]; exact (Q.dn q).2.1, ⟨((D.r1.kept (grown_set _ _ _ _) m1).kept (grown_set _ _ _ _) m1).kept (grown_set _ _ _ _) m1, ((D.r2.kept (grown_set _ _ _ _) m2).kept (grown_set _ _ _ _) m2).kept (grown_set _ _ _ _) m2, ((D.r3.kept (grown_set _ _ _ _) m3).kept (grown_set _ _ _ _) m3).kept (grown_set _ _ _ _) m3, D.s12, D.s13, D.s23⟩⟩
    st := fun _ => ⟨rfl, rfl, ((R.set 0 v1 (by simp)).set 1 v2 (by simp)).set 2 v3 (by simp)⟩
    a10 := fun q => ⟨(Q.a10 q).1, rfl, (Q.a10 q).2.2⟩ }
/-- the disk that was laid away -/
def RegEnd (W : Nat) (L S : List Fl) (O : List Dp) (c u6 u7 : Value) (x : World) : Prop :=
  ∃ b lo hi a1 a2 a3 c1 c2 c3 g1 g2 g3, u6 = .pointer (some ⟨b, 0, none⟩) ∧ u7 = c ∧ W ≤ b ∧ W ≤ lo ∧ hi ≤ x.heap.size ∧ (b < lo ∨ hi ≤ b) ∧ Blk b [.slice a1 L.length c1, .slice a2 S.length c2, .slice a3 O.length c3] x ∧ OwnR lo hi a1 a2 a3 c1 c2 c3 g1 g2 g3 L S O x
theorem own_blk {A : Type} {sz : Nat} {f : A → List Value} {w : World} {g n cap : Nat} {a : Option Addr} {l : List A} (h : OwnRow sz f w g a cap l) (h0 : 0 < l.length) : (Value.slice a n cap).ownBlock = some g := by
  rw [(h.own h0).1]; rfl
theorem RowsD.ownR (h : RowsD lo L S O v1 v2 v3 x) (t : (∀ g, v1.ownBlock = some g → g < hi) ∧ (∀ g, v2.ownBlock = some g → g < hi) ∧ (∀ g, v3.ownBlock = some g → g < hi)) : ∃ a1 a2 a3 c1 c2 c3 g1 g2 g3, v1 = .slice a1 L.length c1 ∧ v2 = .slice a2 S.length c2 ∧ v3 = .slice a3 O.length c3 ∧ OwnR lo hi a1 a2 a3 c1 c2 c3 g1 g2 g3 L S O x := by
  obtain ⟨g1, a1, c1, b1, rfl, o1⟩ := own_of_row flLen h.r1
  obtain ⟨g2, a2, c2, b2, rfl, o2⟩ := own_of_row flLen h.r2
  obtain ⟨g3, a3, c3, b3, rfl, o3⟩ := own_of_row dpLen h.r3
  exact ⟨a1, a2, a3, c1, c2, c3, g1, g2, g3, rfl, rfl, rfl, o1, o2, o3, fun p q e => h.s12 g1 (own_blk o1 p) (by rw [own_blk o2 q, e]), fun p q e => h.s13 g1 (own_blk o1 p) (by rw [own_blk o3 q, e]), fun p q e => h.s23 g2 (own_blk o2 p) (by rw [own_blk o3 q, e]), fun p => ⟨b1, t.1 g1 (own_blk o1 p)⟩, fun p => ⟨b2, t.2.1 g2 (own_blk o2 p)⟩, fun p => ⟨b3, t.2.2 g3 (own_blk o3 p)⟩⟩
theorem RegE.fin (h : RegE W L S O c true true true true true true true u31 u26 u32 u33 u6 u7 x) : RegEnd W L S O c u6 u7 x := by
  obtain ⟨b, lo, hi, v1, v2, v3, Q⟩ := h
  obtain ⟨a1, a2, a3, c1, c2, c3, g1, g2, g3, rfl, rfl, rfl, R⟩ := (Q.dn rfl).2.2.ownR (Q.top rfl)
  exact ⟨b, lo, hi, a1, a2, a3, c1, c2, c3, g1, g2, g3, (Q.al rfl).1, (Q.a10 rfl).2.2, (Q.al rfl).2.1, (Q.dn rfl).1, (Q.dn rfl).2.1, Q.ap rfl rfl, (Q.st rfl).2.2, R⟩
end
end Go.Proofs.Ytiilkkdbifhojaa
