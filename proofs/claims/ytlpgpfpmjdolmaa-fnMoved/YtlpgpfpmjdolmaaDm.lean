/- The drawn list of slots and the drawn move of the law FnMoved. -/
import Derived.Test.YtlpgpfpmjdolmaaSl
import Derived.Deep.RegionHeld3
import Derived.Deep.Cut
import Derived.Deep.CutRange
import Derived.Deep.DeepCutAuto
namespace Go.Proofs.Ytlpgpfpmjdolmaa
open Go.ChangeShapes Go.WideShapes Go.ChangeAt Go.RowKit
set_option linter.unusedVariables false
theorem OwnRow.keep {x y : World} {g cap : Nat} {l : List Slt} (h : OwnRow 3 sltCells x g (some ⟨g, 0, none⟩) cap l) (hl : 0 < l.length) (e : y.heap[g]? = x.heap[g]?) : OwnRow 3 sltCells y g (some ⟨g, 0, none⟩) cap l := by
  have hg := h.lt hl
  have hgy : g < y.heap.size := by
    rcases Nat.lt_or_ge g y.heap.size with k | k
    · exact k
    · rw [Array.getElem?_eq_none k, Array.getElem?_eq_getElem hg] at e; cases e
  refine ⟨fun i hi => ?_, fun h0 => ⟨rfl, fun j => ?_⟩, h.room⟩
  · obtain ⟨b, off, e2, _, hc⟩ := h.rows i hi
    simp only [Option.some.injEq, Addr.mk.injEq, and_true] at e2
    obtain ⟨rfl, rfl⟩ := e2
    exact ⟨g, 0, rfl, hgy, fun r v hv => (World.cell?_of_block (w := x) e).trans (hc r v hv)⟩
  · exact (World.frozen?_of_block (w := x) e).trans ((h.own h0).2 j)
/-- what DrawMoved carries on: the reader in B, the slots in g, the result's block R -/
structure Dm (w : World) (R B g cap : Nat) (l : List Slt) (x : World) : Prop where
  rd : Rd B x
  row : OwnRow 3 sltCells x g (some ⟨g, 0, none⟩) cap l
  low : Below w.heap.size w x
  pos : 0 < l.length
  r0 : w.heap.size ≤ R
  rb : R < B
  bg : B < g
  res : ∀ j, j < 3 → ∃ v, x.cell? ⟨R, j, none⟩ = some v
  free : ∀ j, x.frozen? ⟨R, j, none⟩ = false
theorem Dm.glt {w : World} {R B g cap : Nat} {l : List Slt} {x : World} (h : Dm w R B g cap l x) : g < x.heap.size := h.row.lt h.pos
theorem Dm.apart {w : World} {R B g cap : Nat} {l : List Slt} {x y : World} (h : Dm w R B g cap l x) (k : Apart B x y) (hr : Rd B y) : Dm w R B g cap l y := by
  have hg := h.glt
  have h1 := h.rb
  have h2 := h.bg
  have h3 := h.r0
  refine ⟨hr, h.row.keep h.pos (k.block g hg (by omega)), below_apart h.low (by omega) k, h.pos, h.r0, h.rb, h.bg, fun j hj => ?_, fun j => ?_⟩
  · obtain ⟨v, hv⟩ := h.res j hj
    exact ⟨v, (World.cell?_of_block (w := x) (k.block R (by omega) (by omega))).trans hv⟩
  · exact (World.frozen?_of_block (w := x) (k.block R (by omega) (by omega))).trans (h.free j)
theorem Dm.below {w : World} {R B g cap : Nat} {l : List Slt} {x y : World} (h : Dm w R B g cap l x) (k : Below x.heap.size x y) : Dm w R B g cap l y := by
  have hg := h.glt
  have h1 := h.rb
  have h2 := h.bg
  refine ⟨h.rd.below (k.mono (by omega)), h.row.below k, below_trans h.low k, h.pos, h.r0, h.rb, h.bg, fun j hj => ?_, fun j => ?_⟩
  · obtain ⟨v, hv⟩ := h.res j hj
    exact ⟨v, (k.cell (by show R < _; omega)).trans hv⟩
  · exact (k.frozen (by show R < _; omega)).trans (h.free j)
theorem Dm.set {w : World} {R B g cap : Nat} {l : List Slt} {x : World} (h : Dm w R B g cap l x) {M o : Nat} (hM : g < M) (v : Value) : Dm w R B g cap l (x.setCell ⟨M, o, none⟩ v) := by
  have hg := h.glt
  have h1 := h.rb
  have h2 := h.bg
  have h3 := h.r0
  refine ⟨rd_new h.rd (by omega) v, h.row.keep h.pos (Below.heap_setCell _ _ _ _ (show g ≠ M by omega)), h.low.setCell (by show _ ≤ M; omega) v, h.pos, h.r0, h.rb, h.bg, fun j hj => ?_, fun j => by rw [frozen_set]; exact h.free j⟩
  obtain ⟨u, hu⟩ := h.res j hj
  exact ⟨u, (cell_set_other (.inl (by omega))).trans hu⟩
/-- the move in block M -/
structure MvAt (M : Nat) (f t a : Int) (x : World) : Prop where
  c0 : x.cell? ⟨M, 0, none⟩ = some (.int .i64 f)
  c1 : x.cell? ⟨M, 1, none⟩ = some (.int .i64 t)
  c2 : x.cell? ⟨M, 2, none⟩ = some (.int .i64 a)
  free : ∀ j, x.frozen? ⟨M, j, none⟩ = false
theorem MvAt.apart {M B : Nat} {f t a : Int} {x y : World} (h : MvAt M f t a x) (k : Apart B x y) (hM : M ≠ B) : MvAt M f t a y := by
  have hlt : M < x.heap.size := cell_lt h.c0
  have e := k.block M hlt hM
  exact ⟨(World.cell?_of_block (w := x) e).trans h.c0, (World.cell?_of_block (w := x) e).trans h.c1, (World.cell?_of_block (w := x) e).trans h.c2, fun j => (World.frozen?_of_block (w := x) e).trans (h.free j)⟩
theorem mv_new (x : World) (f t a : Int) (T : TypeId) : MvAt x.heap.size f t a (x.alloc (.cells #[.int .i64 f, .int .i64 t, .int .i64 a] T)) :=
  ⟨World.cell?_alloc_at _ _ _ _ rfl, World.cell?_alloc_at _ _ _ _ rfl, World.cell?_alloc_at _ _ _ _ rfl, fun j => by simp⟩
theorem mv_set {x : World} {M : Nat} {f t a f' t' a' : Int} (h : MvAt M f t a x) : MvAt M f' t' a' (((x.setCell ⟨M, 0, none⟩ (.int .i64 f')).setCell ⟨M, 1, none⟩ (.int .i64 t')).setCell ⟨M, 2, none⟩ (.int .i64 a')) := by
  refine ⟨?_, ?_, ?_, fun j => by rw [frozen_set, frozen_set, frozen_set]; exact h.free j⟩
  · rw [cell_set_other (.inr (by omega)), cell_set_other (.inr (by omega))]; exact cell_set_same h.c0
  · rw [cell_set_other (.inr (by omega))]
    exact cell_set_same ((cell_set_other (.inr (by omega))).trans h.c1)
  · exact cell_set_same ((cell_set_other (.inr (by omega))).trans ((cell_set_other (.inr (by omega))).trans h.c2))
/-- behind the region that makes the move -/
def MvBox (w : World) (R B g cap : Nat) (l : List Slt) (s : Value) (x : World) : Prop := ∃ (M : Nat) (f t a : Int), s = .pointer (some ⟨M, 0, none⟩) ∧ g < M ∧ (1 ≤ a ∧ a ≤ 30) ∧ Dm w R B g cap l x ∧ MvAt M f t a x
theorem box_new {w : World} {R B g cap : Nat} {l : List Slt} {x : World} {f t a : Int} (h : Dm w R B g cap l x) (ha : 1 ≤ a ∧ a ≤ 30) : MvBox w R B g cap l (.pointer (some ⟨x.heap.size, 0, none⟩)) (x.alloc (.cells #[.int .i64 f, .int .i64 t, .int .i64 a] 26)) :=
  ⟨x.heap.size, f, t, a, rfl, h.glt, ha, h.below (below_alloc (Below.refl _ _) _), mv_new x f t a 26⟩
theorem box_set {w : World} {R B g cap : Nat} {l : List Slt} {x : World} {M : Nat} {f t a : Int} (h : Dm w R B g cap l x) (hM : g < M) (hz : MvAt M 0 0 0 x) (ha : 1 ≤ a ∧ a ≤ 30) : MvBox w R B g cap l (.pointer (some ⟨M, 0, none⟩)) (((x.setCell ⟨M, 0, none⟩ (.int .i64 f)).setCell ⟨M, 1, none⟩ (.int .i64 t)).setCell ⟨M, 2, none⟩ (.int .i64 a)) :=
  ⟨M, f, t, a, rfl, hM, ha, ((h.set hM _).set hM _).set hM _, mv_set hz⟩
theorem wrapI (x : Int) (h0 : -9223372036854775808 ≤ x) (h1 : x ≤ 9223372036854775807) : IntKind.i64.wrap x = x := by
  simp only [IntKind.wrap, IntKind.signed, IntKind.bits]; simp; omega
theorem Dm.fin {w : World} {R B g cap : Nat} {l : List Slt} {x : World} (h : Dm w R B g cap l x) (hp : ∀ y ∈ l, SltI y) (u v z : Value) : SlotAt (((x.setCell ⟨R, 0, none⟩ u).setCell ⟨R, 1, none⟩ v).setCell ⟨R, 2, none⟩ z) (some ⟨g, 0, none⟩) l ∧ Below w.heap.size w (((x.setCell ⟨R, 0, none⟩ u).setCell ⟨R, 1, none⟩ v).setCell ⟨R, 2, none⟩ z) := by
  have h1 := h.rb
  have h2 := h.bg
  have h3 := h.r0
  have hne : g ≠ R := by omega
  refine ⟨slot_of_row (h.row.keep h.pos ?_).rows hp, ((h.low.setCell (by exact h3) u).setCell (by exact h3) v).setCell (by exact h3) z⟩
  exact ((Below.heap_setCell _ _ _ _ hne).trans (Below.heap_setCell _ _ _ _ hne)).trans (Below.heap_setCell _ _ _ _ hne)
theorem MvAt.set2 {x : World} {M : Nat} {f t a u : Int} (h : MvAt M f t a x) : MvAt M f t u (x.setCell ⟨M, 2, none⟩ (.int .i64 u)) :=
  ⟨by rw [cell_set_other (.inr (by omega))]; exact h.c0, by rw [cell_set_other (.inr (by omega))]; exact h.c1, cell_set_same h.c2, fun j => by rw [frozen_set]; exact h.free j⟩
theorem zero_apart {W w5 : World} {B : Nat} {T : TypeId} (HA : Apart B (W.alloc (.cells #[.int .i64 0, .int .i64 0, .int .i64 0] T)).drew w5) (hB : B < W.heap.size) : MvAt W.heap.size 0 0 0 w5 :=
  (⟨World.cell?_alloc_at _ _ _ _ rfl, World.cell?_alloc_at _ _ _ _ rfl, World.cell?_alloc_at _ _ _ _ rfl, fun j => by simp⟩ : MvAt W.heap.size 0 0 0 (W.alloc (.cells #[.int .i64 0, .int .i64 0, .int .i64 0] T)).drew).apart HA (by omega)
theorem zero_apart2 {W w5 : World} {B : Nat} {T : TypeId} (HA : Apart B (W.drew.alloc (.cells #[.int .i64 0, .int .i64 0, .int .i64 0] T)) w5) (hB : B < W.heap.size) : MvAt W.heap.size 0 0 0 w5 := zero_apart (W := W) HA hB
/-- what the region that makes the move reads and keeps -/
abbrev SX (X : Nat) (f t : Int) (w : World) (R B g cap : Nat) (l : List Slt) (x : World) : Prop := x.cell? ⟨X, 0, none⟩ = some (.int .i64 f) ∧ x.cell? ⟨X, 1, none⟩ = some (.int .i64 t) ∧ Hid (Dm w R B g cap l x)
theorem SX.ap {X : Nat} {f t : Int} {w : World} {R B g cap : Nat} {l : List Slt} {x y : World} (h : SX X f t w R B g cap l x) (k : Apart B x y) (hr : Rd B y) (hX : X ≠ B) : SX X f t w R B g cap l y := by
  have hlt : X < x.heap.size := cell_lt h.1
  have e := k.block X hlt hX
  exact ⟨(World.cell?_of_block (w := x) e).trans h.1, (World.cell?_of_block (w := x) e).trans h.2.1, hide (h.2.2.out.apart k hr)⟩
theorem SX.on {X : Nat} {f t : Int} {w : World} {R B g cap : Nat} {l : List Slt} {x y : World} (h : SX X f t w R B g cap l x) (k : Below x.heap.size x y) : SX X f t w R B g cap l y :=
  ⟨below_keeps k _ _ h.1, below_keeps k _ _ h.2.1, hide (h.2.2.out.below k)⟩
theorem SX.set3 {X : Nat} {f t : Int} {w : World} {R B g cap : Nat} {l : List Slt} {x : World} (h : SX X f t w R B g cap l x) {M : Nat} {u v z : Value} (hM : g < M) (hX : M ≠ X) : SX X f t w R B g cap l (((x.setCell ⟨M, 0, none⟩ u).setCell ⟨M, 1, none⟩ v).setCell ⟨M, 2, none⟩ z) :=
  ⟨by rw [cell_set_other (.inl hX), cell_set_other (.inl hX), cell_set_other (.inl hX)]; exact h.1, by rw [cell_set_other (.inl hX), cell_set_other (.inl hX), cell_set_other (.inl hX)]; exact h.2.1, hide (((h.2.2.out.set hM _).set hM _).set hM _)⟩
def DrawMvEnd (w : World) (e : Ending) (w' : World) : Prop := ∃ (l : List Slt) (g cap : Nat) (f t a : Int), l.length ≤ 7 ∧ I64 a ∧ l.length ≤ cap ∧ (∀ x ∈ l, SltI x) ∧ e = .returned (.tuple #[.slice (some ⟨g, 0, none⟩) l.length cap, .agg #[.int .i64 f, .int .i64 t, .int .i64 a]]) ∧ SlotAt w' (some ⟨g, 0, none⟩) l ∧ Below w.heap.size w w'
set_option maxHeartbeats 400000 in
set_option maxRecDepth 100000 in
theorem drawMoved_any (a : Option Addr) (len cap : Nat) (w : World) (h : IsCode w a len) : Calls Try.prog 5 #[.slice a len cap] w fun e w' => DrawMvEnd w e w' := by
  have HC : Hid _ := hide h
  clear h
  have HB0 : Hid (Below w.heap.size w (w.alloc (.cells #[.int .i64 0, .int .i64 0, .int .i64 0] 26))) := hide (below_alloc (Below.refl _ _) _)
  go_enter Try.func5, Try.ntmps5
  go_wp2_with fail
  refine (l1Open_any a len cap _).mono ?_
  rintro e w1 ⟨rfl, rfl⟩
  have hz0 : (w.alloc (.cells #[.int .i64 0, .int .i64 0, .int .i64 0] 26)).heap.size = w.heap.size + 1 := by simp
  have HR : Hid (Rd (w.heap.size + 1) ((w.alloc (.cells #[.int .i64 0, .int .i64 0, .int .i64 0] 26)).alloc (.cells #[.slice a len cap, .int .i64 0] 49))) := hide (by
    have k := rd_open (cap := cap) (HC.out.below HB0.out)
    rw [hz0] at k
    exact k)
  go_wp2_with fail
  refine (slots_any (w.heap.size + 1) _ HR.out).mono ?_
  rintro e w2 ⟨⟨l, g, gc, hl1, hl7, hp, hg, rfl, ho⟩, hr2, ha2⟩
  have HD2 : Hid (Dm w w.heap.size (w.heap.size + 1) g gc l w2) := hide (by
    have hg2 : w.heap.size + 2 ≤ g := by simpa using hg
    have hs2 : w.heap.size < ((w.alloc (.cells #[.int .i64 0, .int .i64 0, .int .i64 0] 26)).alloc (.cells #[.slice a len cap, .int .i64 0] 49)).heap.size := by simp; omega
    have e2 := ha2.block w.heap.size hs2 (by omega)
    refine ⟨hr2, ho, below_apart (below_alloc HB0.out _) (by omega) ha2, by omega, Nat.le_refl _, by omega, by omega, fun j hj => ?_, fun j => ?_⟩
    · refine ⟨.int .i64 0, (World.cell?_of_block (w := _) e2).trans ?_⟩
      rw [World.cell?_alloc_past _ _ _ (by simp)]
      match j, hj with
      | 0, _ => exact World.cell?_alloc_at _ _ _ _ rfl
      | 1, _ => exact World.cell?_alloc_at _ _ _ _ rfl
      | 2, _ => exact World.cell?_alloc_at _ _ _ _ rfl
    · refine (World.frozen?_of_block (w := _) e2).trans ?_
      simp)
  have HP : Hid _ := hide hp
  have HGC : Hid (l.length ≤ gc) := hide ho.room
  have hl7' : (l.length : Int) ≤ 7 := by omega
  have hl1' : (1 : Int) ≤ (l.length : Int) := by omega
  clear hp hg ho hr2 ha2 HR HB0 hz0 HC
  go_wp2_with fail
  refine (below_any (w.heap.size + 1) (l.length : Int) _ HD2.out.rd (by omega)).mono ?_
  rintro e w3 ⟨⟨y, y0, y2, y1, rfl⟩, hr3, ha3⟩
  obtain ⟨m, rfl⟩ := Int.eq_ofNat_of_zero_le y0
  have m3 : m < l.length := by omega
  have m3' : (m : Int) < (l.length : Int) := by omega
  have HD3 : Hid _ := hide (HD2.out.apart ha3 hr3)
  obtain ⟨b, off, eb, _, d0, d1, d2⟩ := slt_row HD3.out.row.rows m m3
  simp only [Option.some.injEq, Addr.mk.injEq, and_true] at eb
  obtain ⟨rfl, rfl⟩ := eb
  simp only [Nat.zero_add] at d0 d1 d2
  generalize l[m].id = p0 at *
  generalize l[m].up = p1 at *
  generalize l[m].has = p2 at *
  have HGX : Hid (g < w3.heap.size) := hide HD3.out.glt
  have HXB : Hid (w3.heap.size ≠ w.heap.size + 1) := hide (by have := HGX.out; have := HD3.out.bg; omega)
  have HBX : Hid (w.heap.size + 1 < (w3.alloc (.cells #[.int .i64 p0, .int .i64 p1, .int .i64 p2] 39)).heap.size) := hide (by have := HGX.out; have := HD3.out.bg; simp; omega)
  have HZM : Hid ((w3.alloc (.cells #[.int .i64 p0, .int .i64 p1, .int .i64 p2] 39)).heap.size = w3.heap.size + 1) := hide (by simp)
  have HMX : Hid (w3.heap.size + 1 ≠ w3.heap.size) := hide (by omega)
  have HGM : Hid (g < w3.heap.size + 1) := hide (by have := HGX.out; omega)
  have HS4 : Hid (SX w3.heap.size p0 p1 w w.heap.size (w.heap.size + 1) g gc l (w3.alloc (.cells #[.int .i64 p0, .int .i64 p1, .int .i64 p2] 39))) := hide ⟨World.cell?_alloc_at _ _ _ _ rfl, World.cell?_alloc_at _ _ _ _ rfl, hide (HD3.out.below (below_alloc (Below.refl _ _) _))⟩
  have HS4d : Hid (SX w3.heap.size p0 p1 w w.heap.size (w.heap.size + 1) g gc l (w3.alloc (.cells #[.int .i64 p0, .int .i64 p1, .int .i64 p2] 39)).drew) := hide (HS4.out.on (Below.refl _ _).drew)
  clear hr3 ha3 y2 y1 y0 HD2 HD3
  go_wp2_with fail
  go_cut [7] (fun s7 wx => Hid (MvBox w w.heap.size (w.heap.size + 1) g gc l s7 wx))
  case first =>
    go_region_held3 (fun x => x.cell? ⟨w3.heap.size, 0, none⟩ = some (.int .i64 p0) ∧ x.cell? ⟨w3.heap.size, 1, none⟩ = some (.int .i64 p1) ∧ Hid (Dm w w.heap.size (w.heap.size + 1) g gc l x))
      (first | with_reducible exact HS4d.out | with_reducible exact HS5.out | with_reducible exact SX.on HS5.out (below_alloc (Below.refl _ _) _) | with_reducible exact SX.on HS4.out ((below_alloc (Below.refl _ _) _).drew) | with_reducible exact SX.on HS4d.out (below_alloc (Below.refl _ _) _) | with_reducible exact SX.set3 HS5.out HGM.out HMX.out | with_reducible assumption)
      (first | (go_at_call 14; refine (below_any (w.heap.size + 1) 30 _ ((by with_reducible assumption : SX w3.heap.size p0 p1 w w.heap.size (w.heap.size + 1) g gc l _).2.2.out.rd) (by omega)).mono ?_; rintro e w5 ⟨⟨r, r0, r2, r1, rfl⟩, hr5, ha5⟩; have HS5 : Hid (SX w3.heap.size p0 p1 w w.heap.size (w.heap.size + 1) g gc l w5) := hide (SX.ap (by with_reducible assumption : SX w3.heap.size p0 p1 w w.heap.size (w.heap.size + 1) g gc l _) ha5 hr5 HXB.out); have r30 : r < 30 := (by omega); have ew : IntKind.i64.wrap (1 + r) = 1 + r := wrapI _ (by omega) (by omega); try (have HKZ : Hid (MvAt (w3.heap.size + 1) 0 0 0 w5) := hide (by have k := zero_apart ha5 HBX.out; rw [HZM.out] at k; exact k); have kz0 := HKZ.out.c0; have kz1 := HKZ.out.c1; have kz2 := HKZ.out.c2; have kzf := HKZ.out.free)))
    all_goals (go_wp2_with fail; go_meet)
    all_goals first
      | exact hide (box_new HS5.out.2.2.out ⟨by omega, by omega⟩)
      | exact hide (box_set HS5.out.2.2.out HGM.out HKZ.out ⟨by omega, by omega⟩)
  case rest =>
    rename World => w6
    obtain ⟨M, f, t, am, rfl, hM, ham, hd6, hm6⟩ := hcut.out
    have HD6 : Hid _ := hide hd6
    have HM6 : Hid _ := hide hm6
    have HGM : Hid (g < M) := hide hM
    have HMB : Hid (M ≠ w.heap.size + 1) := hide (by have := hd6.bg; omega)
    clear hcut hd6 hm6 HS4 HS4d HGX HXB HBX HZM HMX
    go_wp2_with fail
    refine (once_any (w.heap.size + 1) 2 _ HD6.out.rd (by omega) (by omega)).mono ?_
    rintro e w7 ⟨⟨b1, rfl⟩, hr7, ha7⟩
    have HD7 : Hid _ := hide (HD6.out.apart ha7 hr7)
    have HM7 : Hid _ := hide (HM6.out.apart ha7 HMB.out)
    clear hr7 ha7
    cases b1
    · go_wp2_with fail
      refine (once_any (w.heap.size + 1) 8 _ HD7.out.rd (by omega) (by omega)).mono ?_
      rintro e w8 ⟨⟨b2, rfl⟩, hr8, ha8⟩
      have HD8 : Hid _ := hide (HD7.out.apart ha8 hr8)
      have HM8 : Hid _ := hide (HM7.out.apart ha8 HMB.out)
      clear hr8 ha8
      cases b2
      · have x0 := HM8.out.c0
        have x1 := HM8.out.c1
        have x2 := HM8.out.c2
        obtain ⟨v0, q0⟩ := HD8.out.res 0 (by omega)
        obtain ⟨v1, q1⟩ := HD8.out.res 1 (by omega)
        obtain ⟨v2, q2⟩ := HD8.out.res 2 (by omega)
        have qf := HD8.out.free
        have HF : Hid _ := hide (HD8.out.fin HP.out (.int .i64 f) (.int .i64 t) (.int .i64 am))
        have HIA : Hid (I64 am) := hide (by unfold I64; omega)
        go_wp2_with fail
        go_region
        all_goals go_wp2
        all_goals exact bodyPost_ret (v := .tuple #[.slice (some ⟨g, 0, none⟩) l.length gc, .agg #[.int .i64 f, .int .i64 t, .int .i64 am]]) (by simp [results, Try.results5, go_sem, q0, q1, q2]) rfl ⟨l, g, gc, f, t, am, hl7, HIA.out, HGC.out, HP.out, rfl, HF.out.1.below (Below.refl _ _).drew, HF.out.2.drew⟩
      · go_wp2_with fail
        refine (off_any (w.heap.size + 1) 0 99 _ HD8.out.rd (by omega) (by omega) (by omega)).mono ?_
        rintro e w9 ⟨⟨u, u0, u1, rfl⟩, hr9, ha9⟩
        have HM9 : Hid _ := hide (HM8.out.apart ha9 HMB.out)
        have k2 := HM9.out.c2
        have kf := HM9.out.free
        have HD9 : Hid _ := hide ((HD8.out.apart ha9 hr9).set (o := 2) HGM.out (.int .i64 u))
        have HMA : Hid (MvAt M f t u _) := hide HM9.out.set2
        clear hr9 ha9
        have x0 := HMA.out.c0
        have x1 := HMA.out.c1
        have x2 := HMA.out.c2
        obtain ⟨v0, q0⟩ := HD9.out.res 0 (by omega)
        obtain ⟨v1, q1⟩ := HD9.out.res 1 (by omega)
        obtain ⟨v2, q2⟩ := HD9.out.res 2 (by omega)
        have qf := HD9.out.free
        have HF : Hid _ := hide (HD9.out.fin HP.out (.int .i64 f) (.int .i64 t) (.int .i64 u))
        have HIA : Hid (I64 u) := hide (by unfold I64; omega)
        go_wp2_with fail
        go_region
        all_goals go_wp2
        all_goals exact bodyPost_ret (v := .tuple #[.slice (some ⟨g, 0, none⟩) l.length gc, .agg #[.int .i64 f, .int .i64 t, .int .i64 u]]) (by simp [results, Try.results5, go_sem, q0, q1, q2]) rfl ⟨l, g, gc, f, t, u, hl7, HIA.out, HGC.out, HP.out, rfl, HF.out.1.below (Below.refl _ _).drew, HF.out.2.drew⟩
    · have j0 := HM7.out.c0
      have j1 := HM7.out.c1
      have j2 := HM7.out.c2
      have jf := HM7.out.free
      have HDB : Hid _ := hide (((HD7.out.set (o := 0) HGM.out (.int .i64 t)).set (o := 1) HGM.out (.int .i64 f)).set (o := 2) HGM.out (.int .i64 am))
      have HMC : Hid (MvAt M t f am _) := hide (mv_set (f' := t) (t' := f) (a' := am) HM7.out)
      go_wp2_with fail
      refine (once_any (w.heap.size + 1) 8 _ HDB.out.rd (by omega) (by omega)).mono ?_
      rintro e w8 ⟨⟨b2, rfl⟩, hr8, ha8⟩
      have HD8 : Hid _ := hide (HDB.out.apart ha8 hr8)
      have HM8 : Hid _ := hide (HMC.out.apart ha8 HMB.out)
      clear hr8 ha8
      cases b2
      · have x0 := HM8.out.c0
        have x1 := HM8.out.c1
        have x2 := HM8.out.c2
        obtain ⟨v0, q0⟩ := HD8.out.res 0 (by omega)
        obtain ⟨v1, q1⟩ := HD8.out.res 1 (by omega)
        obtain ⟨v2, q2⟩ := HD8.out.res 2 (by omega)
        have qf := HD8.out.free
        have HF : Hid _ := hide (HD8.out.fin HP.out (.int .i64 t) (.int .i64 f) (.int .i64 am))
        have HIA : Hid (I64 am) := hide (by unfold I64; omega)
        go_wp2_with fail
        go_region
        all_goals go_wp2
        all_goals exact bodyPost_ret (v := .tuple #[.slice (some ⟨g, 0, none⟩) l.length gc, .agg #[.int .i64 t, .int .i64 f, .int .i64 am]]) (by simp [results, Try.results5, go_sem, q0, q1, q2]) rfl ⟨l, g, gc, t, f, am, hl7, HIA.out, HGC.out, HP.out, rfl, HF.out.1.below (Below.refl _ _).drew, HF.out.2.drew⟩
      · go_wp2_with fail
        refine (off_any (w.heap.size + 1) 0 99 _ HD8.out.rd (by omega) (by omega) (by omega)).mono ?_
        rintro e w9 ⟨⟨u, u0, u1, rfl⟩, hr9, ha9⟩
        have HM9 : Hid _ := hide (HM8.out.apart ha9 HMB.out)
        have k2 := HM9.out.c2
        have kf := HM9.out.free
        have HD9 : Hid _ := hide ((HD8.out.apart ha9 hr9).set (o := 2) HGM.out (.int .i64 u))
        have HMA : Hid (MvAt M t f u _) := hide HM9.out.set2
        clear hr9 ha9
        have x0 := HMA.out.c0
        have x1 := HMA.out.c1
        have x2 := HMA.out.c2
        obtain ⟨v0, q0⟩ := HD9.out.res 0 (by omega)
        obtain ⟨v1, q1⟩ := HD9.out.res 1 (by omega)
        obtain ⟨v2, q2⟩ := HD9.out.res 2 (by omega)
        have qf := HD9.out.free
        have HF : Hid _ := hide (HD9.out.fin HP.out (.int .i64 t) (.int .i64 f) (.int .i64 u))
        have HIA : Hid (I64 u) := hide (by unfold I64; omega)
        go_wp2_with fail
        go_region
        all_goals go_wp2
        all_goals exact bodyPost_ret (v := .tuple #[.slice (some ⟨g, 0, none⟩) l.length gc, .agg #[.int .i64 t, .int .i64 f, .int .i64 u]]) (by simp [results, Try.results5, go_sem, q0, q1, q2]) rfl ⟨l, g, gc, t, f, u, hl7, HIA.out, HGC.out, HP.out, rfl, HF.out.1.below (Below.refl _ _).drew, HF.out.2.drew⟩
end Go.Proofs.Ytlpgpfpmjdolmaa
