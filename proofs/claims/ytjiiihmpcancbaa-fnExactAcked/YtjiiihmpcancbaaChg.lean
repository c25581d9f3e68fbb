/- Facts that are carried through a law: boxes, blocks of three cells, rows, through growth and through the turning of one block. -/
import Derived.Test.YtjiiihmpcancbaaRcv
import Derived.Deep.DeepCutAuto
namespace Go.Proofs.Ytjiiihmpcancbaa
open Go.ChangeShapes Go.WideShapes Go.ChangeAt Go.RowKit
set_option linter.unusedVariables false
/-- a block of three cells -/
structure Cells3 (B : Nat) (v0 v1 v2 : Value) (x : World) : Prop where
  lt : B < x.heap.size
  c0 : x.cell? ⟨B, 0, none⟩ = some v0
  c1 : x.cell? ⟨B, 1, none⟩ = some v1
  c2 : x.cell? ⟨B, 2, none⟩ = some v2
theorem Cells3.on {B : Nat} {v0 v1 v2 : Value} {x y : World} (h : Cells3 B v0 v1 v2 x) (b : Below x.heap.size x y) : Cells3 B v0 v1 v2 y :=
  ⟨Nat.lt_of_lt_of_le h.lt b.size, (b.cell h.lt).trans h.c0, (b.cell h.lt).trans h.c1, (b.cell h.lt).trans h.c2⟩
/-- new blocks, and one block turns -/
def Chg (g : Nat) (x y : World) : Prop := ∃ z, Below x.heap.size x z ∧ Turned g z y
theorem Cells3.chg {B g : Nat} {v0 v1 v2 : Value} {x y : World} (h : Cells3 B v0 v1 v2 x) (k : Chg g x y) (hne : B ≠ g) : Cells3 B v0 v1 v2 y := by
  obtain ⟨z, b, t⟩ := k
  have h' := h.on b
  exact ⟨by rw [t.size]; exact h'.lt, (t.cell hne).trans h'.c0, (t.cell hne).trans h'.c1, (t.cell hne).trans h'.c2⟩
theorem Chg.below {g B : Nat} {x y : World} (k : Chg g x y) (hB : B ≤ g) (hx : B ≤ x.heap.size) : Below B x y := by
  obtain ⟨z, b, t⟩ := k
  exact (b.mono hx).trans (t.below hB)
theorem Chg.size {g : Nat} {x y : World} (k : Chg g x y) : x.heap.size ≤ y.heap.size := by
  obtain ⟨z, b, t⟩ := k
  rw [t.size]; exact b.size
theorem chg_row {sz : Nat} {A : Type} {f : A → List Value} {g : Nat} {x y : World} {a : Option Addr} {l : List A} (h : RowAt sz f x a l) (k : Chg g x y) (hne : ∀ b off, 0 < l.length → a = some ⟨b, off, none⟩ → b ≠ g) : RowAt sz f y a l := by
  obtain ⟨z, b, t⟩ := k
  exact (h.below b).turned t hne
theorem chg_own {sz : Nat} {A : Type} {f : A → List Value} {g g' cap : Nat} {x y : World} {a : Option Addr} {l : List A} (h : OwnRow sz f x g' a cap l) (k : Chg g x y) (hne : 0 < l.length → g' ≠ g) : OwnRow sz f y g' a cap l := by
  obtain ⟨z, b, t⟩ := k
  exact (h.below b).turned t hne
theorem res_new {w x : World} {v0 v1 v2 : Value} {T : TypeId} (h : Below (w.alloc (.cells #[v0, v1, v2] T)).heap.size (w.alloc (.cells #[v0, v1, v2] T)) x) : ResMid w.heap.size x := by
  obtain ⟨⟨x0, x1, x2⟩, f⟩ := new_block (by simpa using h)
  refine ⟨cell_lt x0, fun j hj => ?_, f⟩
  match j, hj with
  | 0, _ => exact ⟨_, x0⟩
  | 1, _ => exact ⟨_, x1⟩
  | 2, _ => exact ⟨_, x2⟩
theorem res_new_drew {w x : World} {v0 v1 v2 : Value} {T : TypeId} (h : Below (w.alloc (.cells #[v0, v1, v2] T)).drew.heap.size (w.alloc (.cells #[v0, v1, v2] T)).drew x) : ResMid w.heap.size x :=
  res_new (below_trans ((Below.refl (w.alloc (.cells #[v0, v1, v2] T)).heap.size _).drew) h)
theorem ResMid.next {b : Nat} {x y : World} (h : ResMid b x) (k : Below x.heap.size x y) : ResMid b y := h.keep (k.block b h.lt) k.size
/-- the laws' boxes: an end and a parcel -/
structure Boxes (w : World) (v0 : Value) (sent got ps pa : Int) (x : World) : Prop where
  old : Below w.heap.size w x
  lt : w.heap.size + 2 ≤ x.heap.size
  e0 : x.cell? ⟨w.heap.size, 0, none⟩ = some v0
  e1 : x.cell? ⟨w.heap.size, 1, none⟩ = some (.int .i64 sent)
  e2 : x.cell? ⟨w.heap.size, 2, none⟩ = some (.int .i64 got)
  p0 : x.cell? ⟨w.heap.size + 1, 0, none⟩ = some (.int .i64 ps)
  p1 : x.cell? ⟨w.heap.size + 1, 1, none⟩ = some (.int .i64 pa)
theorem boxes_start (w : World) (v0 : Value) (sent got ps pa : Int) : Boxes w v0 sent got ps pa ((w.alloc (.cells #[v0, .int .i64 sent, .int .i64 got] 24)).alloc (.cells #[.int .i64 ps, .int .i64 pa] 40)) := by
  obtain ⟨wa, hwa⟩ : ∃ wa, wa = w.alloc (.cells #[v0, .int .i64 sent, .int .i64 got] 24) := ⟨_, rfl⟩
  have sa : wa.heap.size = w.heap.size + 1 := by rw [hwa]; simp
  have b1 : Below (w.heap.size + 1) (w.alloc (.cells #[v0, .int .i64 sent, .int .i64 got] 24)) (wa.alloc (.cells #[.int .i64 ps, .int .i64 pa] 40)) := by
    rw [← hwa]; exact (Below.refl _ _).alloc (by omega) _
  rw [← hwa]
  obtain ⟨x0, x1, x2⟩ := box3 b1
  have p0 : (wa.alloc (.cells #[.int .i64 ps, .int .i64 pa] 40)).cell? ⟨wa.heap.size, 0, none⟩ = some (.int .i64 ps) := World.cell?_alloc_at _ _ _ _ rfl
  have p1 : (wa.alloc (.cells #[.int .i64 ps, .int .i64 pa] 40)).cell? ⟨wa.heap.size, 1, none⟩ = some (.int .i64 pa) := World.cell?_alloc_at _ _ _ _ rfl
  rw [sa] at p0 p1
  exact ⟨box_old b1, by simp [sa], x0, x1, x2, p0, p1⟩
theorem Boxes.on {w x y : World} {v0 : Value} {sent got ps pa : Int} (h : Boxes w v0 sent got ps pa x) {B : Nat} (hB : w.heap.size + 2 ≤ B) (b : Below B x y) : Boxes w v0 sent got ps pa y :=
  ⟨h.old.trans (b.mono (by omega)), Nat.le_trans h.lt b.size, (b.cell (by show w.heap.size < B; omega)).trans h.e0, (b.cell (by show w.heap.size < B; omega)).trans h.e1, (b.cell (by show w.heap.size < B; omega)).trans h.e2,
    (b.cell (by show w.heap.size + 1 < B; omega)).trans h.p0, (b.cell (by show w.heap.size + 1 < B; omega)).trans h.p1⟩
theorem Boxes.next {w x y : World} {v0 : Value} {sent got ps pa : Int} (h : Boxes w v0 sent got ps pa x) (b : Below x.heap.size x y) : Boxes w v0 sent got ps pa y := h.on h.lt b
/-- cells that a region reads: the boxes -/
def SB (w : World) (v0 : Value) (sent got ps pa : Int) (W0 x : World) : Prop := x.cell? ⟨w.heap.size, 0, none⟩ = some v0 ∧ x.cell? ⟨w.heap.size, 1, none⟩ = some (.int .i64 sent) ∧ x.cell? ⟨w.heap.size, 2, none⟩ = some (.int .i64 got) ∧ x.cell? ⟨w.heap.size + 1, 0, none⟩ = some (.int .i64 ps) ∧ x.cell? ⟨w.heap.size + 1, 1, none⟩ = some (.int .i64 pa) ∧ Hid (Boxes w v0 sent got ps pa x ∧ Below W0.heap.size W0 x)
theorem SB.of {w W0 x : World} {v0 : Value} {sent got ps pa : Int} (h : Boxes w v0 sent got ps pa x) (b : Below W0.heap.size W0 x) : SB w v0 sent got ps pa W0 x := ⟨h.e0, h.e1, h.e2, h.p0, h.p1, h, b⟩
theorem SB.on {w W0 x y : World} {v0 : Value} {sent got ps pa : Int} (h : SB w v0 sent got ps pa W0 x) (b : Below x.heap.size x y) : SB w v0 sent got ps pa W0 y := SB.of (h.2.2.2.2.2.out.1.next b) (below_trans h.2.2.2.2.2.out.2 b)
theorem SB.set {w W0 x : World} {v0 : Value} {sent got ps pa : Int} {B : Nat} (h : SB w v0 sent got ps pa W0 x) (hB : W0.heap.size ≤ B) (hW : w.heap.size + 2 ≤ W0.heap.size) {a b c : Value} : SB w v0 sent got ps pa W0 (((x.setCell ⟨B, 0, none⟩ a).setCell ⟨B, 1, none⟩ b).setCell ⟨B, 2, none⟩ c) :=
  SB.of (h.2.2.2.2.2.out.1.on (Nat.le_trans hW hB) ((((Below.refl B x).setCell (Nat.le_refl _) _).setCell (Nat.le_refl _) _).setCell (Nat.le_refl _) _)) (((h.2.2.2.2.2.out.2.setCell (p := ⟨B, 0, none⟩) hB _).setCell (p := ⟨B, 1, none⟩) hB _).setCell (p := ⟨B, 2, none⟩) hB _)
/-- cells that a region reads: a block of three cells and the parcel's box -/
def SP (w : World) (v0 : Value) (sent got ps pa : Int) (W0 : World) (C : Nat) (q0 q1 q2 : Value) (x : World) : Prop := x.cell? ⟨C, 0, none⟩ = some q0 ∧ x.cell? ⟨C, 1, none⟩ = some q1 ∧ x.cell? ⟨C, 2, none⟩ = some q2 ∧ x.cell? ⟨w.heap.size + 1, 0, none⟩ = some (.int .i64 ps) ∧ x.cell? ⟨w.heap.size + 1, 1, none⟩ = some (.int .i64 pa) ∧ Hid (Boxes w v0 sent got ps pa x ∧ Below W0.heap.size W0 x)
theorem SP.of {w W0 x : World} {v0 : Value} {sent got ps pa : Int} {C : Nat} {q0 q1 q2 : Value} (h : Boxes w v0 sent got ps pa x) (c : Cells3 C q0 q1 q2 W0) (b : Below W0.heap.size W0 x) : SP w v0 sent got ps pa W0 C q0 q1 q2 x := ⟨(c.on b).c0, (c.on b).c1, (c.on b).c2, h.p0, h.p1, h, b⟩
theorem SP.on {w W0 x y : World} {v0 : Value} {sent got ps pa : Int} {C : Nat} {q0 q1 q2 : Value} (c : Cells3 C q0 q1 q2 W0) (h : SP w v0 sent got ps pa W0 C q0 q1 q2 x) (b : Below x.heap.size x y) : SP w v0 sent got ps pa W0 C q0 q1 q2 y := SP.of (h.2.2.2.2.2.out.1.next b) c (below_trans h.2.2.2.2.2.out.2 b)
theorem SP.set {w W0 x : World} {v0 : Value} {sent got ps pa : Int} {C : Nat} {q0 q1 q2 : Value} {B : Nat} (c : Cells3 C q0 q1 q2 W0) (h : SP w v0 sent got ps pa W0 C q0 q1 q2 x) (hB : W0.heap.size ≤ B) (hW : w.heap.size + 2 ≤ W0.heap.size) {a b d : Value} : SP w v0 sent got ps pa W0 C q0 q1 q2 (((x.setCell ⟨B, 0, none⟩ a).setCell ⟨B, 1, none⟩ b).setCell ⟨B, 2, none⟩ d) :=
  SP.of (h.2.2.2.2.2.out.1.on (Nat.le_trans hW hB) ((((Below.refl B x).setCell (Nat.le_refl _) _).setCell (Nat.le_refl _) _).setCell (Nat.le_refl _) _)) c (((h.2.2.2.2.2.out.2.setCell (p := ⟨B, 0, none⟩) hB _).setCell (p := ⟨B, 1, none⟩) hB _).setCell (p := ⟨B, 2, none⟩) hB _)
/-- an answer that a law keeps: its end in a block of its own, its row -/
structure Kept1 (E : En) (B : Nat) (a : Option Addr) (cap g : Nat) (lo : Nat) (x : World) : Prop where
  lo1 : lo ≤ B
  lo2 : lo ≤ g
  ne : B ≠ g
  cells : Cells3 B (.slice a E.out.length cap) (.int .i64 E.sent) (.int .i64 E.got) x
  own : OwnRow 2 prcCells x g a cap E.out
theorem Kept1.on {E : En} {B : Nat} {a : Option Addr} {cap g lo : Nat} {x y : World} (h : Kept1 E B a cap g lo x) (b : Below x.heap.size x y) : Kept1 E B a cap g lo y := ⟨h.lo1, h.lo2, h.ne, h.cells.on b, h.own.below b⟩
theorem kept_alloc {E : En} {a : Option Addr} {cap g lo : Nat} {x : World} (hg : lo ≤ g) (hlo : lo ≤ x.heap.size) (ho : OwnRow 2 prcCells x g a cap E.out) (hgx : g < x.heap.size ∨ E.out.length = 0) : ∃ g', Kept1 E x.heap.size a cap g' lo (x.alloc (.cells #[.slice a E.out.length cap, .int .i64 E.sent, .int .i64 E.got] 29)) := by
  have hc : Cells3 x.heap.size (.slice a E.out.length cap) (.int .i64 E.sent) (.int .i64 E.got) (x.alloc (.cells #[.slice a E.out.length cap, .int .i64 E.sent, .int .i64 E.got] 29)) :=
    ⟨by simp, World.cell?_alloc_at _ _ _ _ rfl, World.cell?_alloc_at _ _ _ _ rfl, World.cell?_alloc_at _ _ _ _ rfl⟩
  rcases hgx with hgx | hgx
  · exact ⟨g, hlo, hg, by omega, hc, ho.below (below_alloc (Below.refl _ _) _)⟩
  · refine ⟨x.heap.size + 1, hlo, by omega, by omega, hc, ⟨(ho.below (below_alloc (Below.refl _ _) _)).rows, fun h0 => by omega, ho.room⟩⟩
theorem kept_set {E : En} {B : Nat} {a : Option Addr} {cap g lo : Nat} {x : World} (hB : lo ≤ B) (hg : lo ≤ g) (hne : B ≠ g) (hr : ResMid B x) (ho : OwnRow 2 prcCells x g a cap E.out) : Kept1 E B a cap g lo (((x.setCell ⟨B, 0, none⟩ (.slice a E.out.length cap)).setCell ⟨B, 1, none⟩ (.int .i64 E.sent)).setCell ⟨B, 2, none⟩ (.int .i64 E.got)) := by
  obtain ⟨⟨t0, r0⟩, ⟨t1, r1⟩, ⟨t2, r2⟩⟩ := And.intro (hr.c 0 (by omega)) (And.intro (hr.c 1 (by omega)) (hr.c 2 (by omega)))
  refine ⟨hB, hg, hne, ⟨by rw [size_setCell, size_setCell, size_setCell]; exact hr.lt, ?_, ?_, ?_⟩, ho.turned ((((Turned.refl B x).setCell _).setCell _).setCell _) (fun _ h => hne h.symm)⟩
  · rw [cell_set_other (.inr (by omega)), cell_set_other (.inr (by omega))]; exact cell_set_same r0
  · rw [cell_set_other (.inr (by omega))]
    exact cell_set_same (by rw [cell_set_other (.inr (by omega))]; exact r1)
  · exact cell_set_same (by rw [cell_set_other (.inr (by omega)), cell_set_other (.inr (by omega))]; exact r2)
/-- what a law has behind a call of Received -/
def Mid (E : En) (X Y : Int) (w : World) (v0 : Value) (sent got ps pa : Int) (W0 : World) (s6 s7 s8 : Value) (x : World) : Prop :=
  ∃ B a cap g, s6 = .pointer (some ⟨B, 0, none⟩) ∧ s7 = .int .i64 X ∧ s8 = .int .i64 Y ∧ Boxes w v0 sent got ps pa x ∧ Kept1 E B a cap g W0.heap.size x ∧ Below W0.heap.size W0 x
theorem own_lt_or {A : Type} {sz : Nat} {f : A → List Value} {w : World} {g : Nat} {a : Option Addr} {cap : Nat} {l : List A} (h : OwnRow sz f w g a cap l) : g < w.heap.size ∨ l.length = 0 := by
  by_cases h0 : 0 < l.length
  · exact .inl (h.lt h0)
  · exact .inr (by omega)
theorem mid_alloc {E : En} {X Y : Int} {w : World} {v0 : Value} {sent got ps pa : Int} {W0 x : World} {g cap : Nat} {a : Option Addr} (hb : Boxes w v0 sent got ps pa x ∧ Below W0.heap.size W0 x) (hg : W0.heap.size ≤ g) (ho : OwnRow 2 prcCells x g a cap E.out) :
    Mid E X Y w v0 sent got ps pa W0 (.pointer (some ⟨x.heap.size, 0, none⟩)) (.int .i64 X) (.int .i64 Y) (x.alloc (.cells #[.slice a E.out.length cap, .int .i64 E.sent, .int .i64 E.got] 29)) := by
  obtain ⟨g', hk⟩ := kept_alloc hg hb.2.size ho (own_lt_or ho)
  exact ⟨_, a, cap, g', rfl, rfl, rfl, hb.1.next (below_alloc (Below.refl _ _) _), hk, below_alloc hb.2 _⟩
theorem mid_set {E : En} {X Y : Int} {w : World} {v0 : Value} {sent got ps pa : Int} {W0 x : World} {B g cap : Nat} {a : Option Addr} (hb : Boxes w v0 sent got ps pa x ∧ Below W0.heap.size W0 x) (hB : W0.heap.size ≤ B) (hW : w.heap.size + 2 ≤ W0.heap.size) (hne : B < g) (hr : ResMid B x) (ho : OwnRow 2 prcCells x g a cap E.out) :
    Mid E X Y w v0 sent got ps pa W0 (.pointer (some ⟨B, 0, none⟩)) (.int .i64 X) (.int .i64 Y) (((x.setCell ⟨B, 0, none⟩ (.slice a E.out.length cap)).setCell ⟨B, 1, none⟩ (.int .i64 E.sent)).setCell ⟨B, 2, none⟩ (.int .i64 E.got)) :=
  ⟨_, a, cap, g, rfl, rfl, rfl, hb.1.on (Nat.le_trans hW hB) ((((Below.refl B x).setCell (Nat.le_refl _) _).setCell (Nat.le_refl _) _).setCell (Nat.le_refl _) _), kept_set hB (by omega) (by omega) hr ho, ((hb.2.setCell (p := ⟨B, 0, none⟩) hB _).setCell (p := ⟨B, 1, none⟩) hB _).setCell (p := ⟨B, 2, none⟩) hB _⟩
end Go.Proofs.Ytjiiihmpcancbaa
