/- The drawn end and parcel. -/
import Derived.Test.YtjmkppajfebidaaDrE
import Derived.Test.YtjmkppajfebidaaInv2
import Derived.Test.YtjmkppajfebidaaRd5
namespace Go.Proofs.Ytjmkppajfebidaa
open Go.ChangeShapes Go.WideShapes Go.ChangeAt Go.RowKit
set_option linter.unusedVariables false
/-- a drawn end in a variable, the reader, and all that was there ahead of the reader -/
structure Dk (W0 : World) (E : En) (a : Option Addr) (cap g K : Nat) (x : World) : Prop where
  rd : Rd W0.heap.size x
  bel : Below W0.heap.size W0 x
  kB : W0.heap.size < K
  kx : K < x.heap.size
  c0 : x.cell? ⟨K, 0, none⟩ = some (.slice a E.out.length cap)
  c1 : x.cell? ⟨K, 1, none⟩ = some (.int .i64 E.sent)
  c2 : x.cell? ⟨K, 2, none⟩ = some (.int .i64 E.got)
  hg : W0.heap.size < g
  ne : 0 < E.out.length → g ≠ K
  row : OwnRow 2 prcCells x g a cap E.out
theorem Dk.move {W0 : World} {E : En} {a : Option Addr} {cap g K : Nat} {x y : World} (h : Dk W0 E a cap g K x) (hs : x.heap.size ≤ y.heap.size) (rd : Rd W0.heap.size y) (bel : Below W0.heap.size W0 y) (hK : y.heap[K]? = x.heap[K]?) (hG : 0 < E.out.length → y.heap[g]? = x.heap[g]?) : Dk W0 E a cap g K y :=
  ⟨rd, bel, h.kB, Nat.lt_of_lt_of_le h.kx hs, (World.cell?_of_block hK).trans h.c0, (World.cell?_of_block hK).trans h.c1, (World.cell?_of_block hK).trans h.c2, h.hg, h.ne, h.row.keepB hG⟩
theorem Dk.apart {W0 : World} {E : En} {a : Option Addr} {cap g K : Nat} {x y : World} (h : Dk W0 E a cap g K x) (rd : Rd W0.heap.size y) (k : Apart W0.heap.size x y) : Dk W0 E a cap g K y :=
  h.move k.size rd (below_apart h.bel (Nat.le_refl _) k) (k.block _ h.kx (by have := h.kB; omega)) (fun q => k.block _ (h.row.lt q) (by have := h.hg; omega))
theorem Dk.below {W0 : World} {E : En} {a : Option Addr} {cap g K : Nat} {x y : World} (h : Dk W0 E a cap g K x) (k : Below x.heap.size x y) : Dk W0 E a cap g K y :=
  h.move k.size (h.rd.below (k.mono h.rd.lt)) (h.bel.trans (k.mono h.bel.size)) (k.block _ h.kx) (fun q => k.block _ (h.row.lt q))
/-- behind the call that draws the end: it is laid into a variable -/
theorem dk_new {W0 x y : World} {E : En} {a : Option Addr} {cap g : Nat} (hB : Below (W0.heap.size + 1) x x) (hx : Below W0.heap.size W0 x) (hx1 : W0.heap.size < x.heap.size) (ap : Apart W0.heap.size x y) (rd : Rd W0.heap.size y) (hg : x.heap.size ≤ g) (row : OwnRow 2 prcCells y g a cap E.out) :
    Dk W0 E a cap (if 0 < E.out.length then g else y.heap.size + 1) y.heap.size (y.alloc (.cells #[.slice a E.out.length cap, .int .i64 E.sent, .int .i64 E.got] 26)) := by
  have hs := ap.size
  have b := below_alloc (Below.refl y.heap.size y) (.cells #[.slice a E.out.length cap, .int .i64 E.sent, .int .i64 E.got] 26)
  refine ⟨rd.below (b.mono rd.lt), (below_apart hx (Nat.le_refl _) ap).trans (b.mono (by omega)), by omega, by simp, World.cell?_alloc_at _ _ _ _ rfl, World.cell?_alloc_at _ _ _ _ rfl, World.cell?_alloc_at _ _ _ _ rfl, ?_, ?_, ?_⟩
  · split <;> omega
  · intro q; rw [if_pos q]; have := row.lt q; omega
  · have r := row.below b
    by_cases q : 0 < E.out.length
    · rw [if_pos q]; exact r
    · rw [if_neg q]; exact ⟨r.rows, fun h => absurd h q, r.room, r.nocap⟩
/-- a parcel in a variable -/
structure PrcB (W0 : World) (E : En) (g M k : Nat) (x : World) : Prop where
  lo : W0.heap.size < k
  lt : k < x.heap.size
  nM : k ≠ M
  ng : 0 < E.out.length → k ≠ g
  fz : ∀ j, x.frozen? ⟨k, j, none⟩ = false
  c0 : ∃ v, x.cell? ⟨k, 0, none⟩ = some v
  c1 : ∃ v, x.cell? ⟨k, 1, none⟩ = some v
theorem PrcB.keep {W0 : World} {E : En} {g M k : Nat} {x y : World} (h : PrcB W0 E g M k x) (hs : x.heap.size ≤ y.heap.size) (e : y.heap[k]? = x.heap[k]?) : PrcB W0 E g M k y :=
  ⟨h.lo, Nat.lt_of_lt_of_le h.lt hs, h.nM, h.ng, fun j => (World.frozen?_of_block e).trans (h.fz j), by obtain ⟨v, hv⟩ := h.c0; exact ⟨v, (World.cell?_of_block e).trans hv⟩, by obtain ⟨v, hv⟩ := h.c1; exact ⟨v, (World.cell?_of_block e).trans hv⟩⟩
theorem Dk.put2 {W0 : World} {E : En} {a : Option Addr} {cap g M k : Nat} {x : World} (h : Dk W0 E a cap g M x) (hk : PrcB W0 E g M k x) (o : Nat) (v : Value) : Dk W0 E a cap g M (x.setCell ⟨k, o, none⟩ v) :=
  h.move (by simp [World.setCell]) (rd_new h.rd hk.lo _) (h.bel.setCell (p := ⟨k, o, none⟩) (Nat.le_of_lt hk.lo) _) (Below.heap_setCell _ _ _ _ (Ne.symm hk.nM)) (fun q => Below.heap_setCell _ _ _ _ (Ne.symm (hk.ng q)))
theorem PrcB.put {W0 : World} {E : En} {g M k : Nat} {x : World} (h : PrcB W0 E g M k x) {o : Nat} (ho : o < 2) (v : Value) : PrcB W0 E g M k (x.setCell ⟨k, o, none⟩ v) := by
  obtain ⟨v0, c0⟩ := h.c0
  obtain ⟨v1, c1⟩ := h.c1
  refine ⟨h.lo, by simpa [World.setCell] using h.lt, h.nM, h.ng, fun j => by simp [h.fz], ?_, ?_⟩
  · obtain rfl | rfl : o = 0 ∨ o = 1 := by omega
    · exact ⟨_, cell_set_same c0⟩
    · exact ⟨_, by rw [cell_set_other (.inr (by simp))]; exact c0⟩
  · obtain rfl | rfl : o = 0 ∨ o = 1 := by omega
    · exact ⟨_, by rw [cell_set_other (.inr (by simp))]; exact c1⟩
    · exact ⟨_, cell_set_same c1⟩
theorem wrap_i64 (n : Int) : I64 (IntKind.i64.wrap n) := by
  simp only [I64, IntKind.wrap, IntKind.bits, IntKind.signed]
  simp
  omega
/-- what holds in the midst of the region that makes the parcel -/
structure DpF (W0 : World) (E : En) (a : Option Addr) (cap g M : Nat) (l0 l1 l2 l3 l4 l5 l6 l7 l8 : Bool) (u6 u11 u12 u13 u14 u15 u16 u17 : Value) (x : World) : Prop where
  dk : Dk W0 E a cap g M x
  q15 : l4 = true → ∃ r : Int, u15 = .int .i64 r
  q16 : l5 = true → ∃ r : Int, I64 r ∧ u16 = .int .i64 r
  q17 : l6 = true → ∃ r : Int, I64 r ∧ u17 = .agg #[.int .i64 (E.got + 1), .int .i64 r]
  e6 : l7 = true → ∃ k, u6 = .pointer (some ⟨k, 0, none⟩) ∧ PrcB W0 E g M k x ∧ (l8 = true → ∃ r : Int, I64 r ∧ x.cell? ⟨k, 0, none⟩ = some (.int .i64 (E.got + 1)) ∧ x.cell? ⟨k, 1, none⟩ = some (.int .i64 r))
  d8 : l8 = true → l7 = true
  p11 : l0 = true → u11 = .pointer (some ⟨M, 2, none⟩)
  p12 : l1 = true → u12 = .int .i64 E.got
  p13 : l2 = true → u13 = .int .i64 (E.got + 1)
  p14 : l3 = true → u14 = .pointer (some ⟨W0.heap.size, 0, none⟩)
theorem DpF.s4 {W0 : World} {E : En} {a : Option Addr} {cap g M : Nat} {l0 l1 l2 l5 l6 l7 l8 : Bool} {u6 u11 u12 u13 u14 u15 u16 u17 : Value} {x : World} {y : World} {r : Int} (h : DpF W0 E a cap g M l0 l1 l2 true false l5 l6 l7 l8 u6 u11 u12 u13 u14 u15 u16 u17 x) (hr : Rd W0.heap.size y) (ha : Apart W0.heap.size x y) : DpF W0 E a cap g M l0 l1 l2 true true l5 l6 l7 l8 u6 u11 u12 u13 u14 (.int .i64 r) u16 u17 y :=
  { h with
    dk := h.dk.apart hr ha
    q15 := fun _ => ⟨r, rfl⟩
    e6 := fun q => by
      obtain ⟨k, e, hk, hc⟩ := h.e6 q
      have hb := ha.block k hk.lt (by have := hk.lo; omega)
      exact ⟨k, e, hk.keep ha.size hb, fun q => by
        obtain ⟨r, hr, c0, c1⟩ := hc q
        exact ⟨r, hr, (World.cell?_of_block hb).trans c0, (World.cell?_of_block hb).trans c1⟩⟩ }
theorem DpF.s7 {W0 : World} {E : En} {a : Option Addr} {cap g M : Nat} {l0 l1 l2 l3 l4 l5 l6 l8 : Bool} {u6 u11 u12 u13 u14 u15 u16 u17 : Value} {x : World} (h : DpF W0 E a cap g M l0 l1 l2 l3 l4 l5 l6 false l8 u6 u11 u12 u13 u14 u15 u16 u17 x) : DpF W0 E a cap g M l0 l1 l2 l3 l4 l5 l6 true l8 (.pointer (some ⟨x.heap.size, 0, none⟩)) u11 u12 u13 u14 u15 u16 u17 (x.alloc (.cells #[.int .i64 0, .int .i64 0] 30)) :=
  { h with
    dk := h.dk.below (below_alloc (Below.refl _ _) _)
    d8 := fun _ => rfl
    e6 := fun _ => ⟨x.heap.size, rfl, ⟨h.dk.rd.lt, by simp, by have := h.dk.kx; omega, fun q => by have := h.dk.row.lt q; omega, frozen_of_block (heap_alloc_new x _), ⟨_, World.cell?_alloc_at _ _ _ _ rfl⟩, ⟨_, World.cell?_alloc_at _ _ _ _ rfl⟩⟩, fun q => absurd (h.d8 q) (by simp)⟩ }
theorem DpF.s8 {W0 : World} {E : En} {a : Option Addr} {cap g M : Nat} {u6 u11 u12 u13 u14 u15 u16 u17 : Value} {x : World} {k : Nat} {r : Int} (h : DpF W0 E a cap g M true true true true true true true true false u6 u11 u12 u13 u14 u15 u16 u17 x) (ek : u6 = .pointer (some ⟨k, 0, none⟩)) (hk : PrcB W0 E g M k x) (hr : I64 r) : DpF W0 E a cap g M true true true true true true true true true u6 u11 u12 u13 u14 u15 u16 u17 ((x.setCell ⟨k, 0, none⟩ (.int .i64 (E.got + 1))).setCell ⟨k, 1, none⟩ (.int .i64 r)) := by
  have hk1 := hk.put (o := 0) (by omega) (.int .i64 (E.got + 1))
  obtain ⟨v0, c0⟩ := hk.c0
  obtain ⟨v1, c1⟩ := hk.c1
  exact { h with
    dk := (h.dk.put2 hk 0 _).put2 hk1 1 _
    d8 := fun _ => rfl
    e6 := fun _ => ⟨k, ek, hk1.put (by omega) _, fun _ => ⟨r, hr, by rw [cell_set_other (.inr (by simp))]; exact cell_set_same c0, cell_set_same (by rw [cell_set_other (.inr (by simp))]; exact c1)⟩⟩ }
def DrRcv (w : World) (e : Ending) (w' : World) : Prop := ∃ (E : En) (a : Option Addr) (cap : Nat) (ps pa : Int), e = .returned (.tuple #[.agg #[.slice a E.out.length cap, .int .i64 E.sent, .int .i64 E.got], .agg #[.int .i64 ps, .int .i64 pa]]) ∧ E.out.length ≤ 8 ∧ I64 E.sent ∧ I64 E.got ∧ I64 ps ∧ I64 pa ∧ (a = none → cap = 0) ∧ RowAt 2 prcCells w' a E.out ∧ Below w.heap.size w w'
structure PrcB0 (k : Nat) (x : World) : Prop where
  c0 : ∃ v, x.cell? ⟨k, 0, none⟩ = some v
  c1 : ∃ v, x.cell? ⟨k, 1, none⟩ = some v
  fz : ∀ j, x.frozen? ⟨k, j, none⟩ = false
theorem res_two {w x : World} (b : Below ((w.alloc (.cells #[.slice none 0 0, .int .i64 0, .int .i64 0] 26)).alloc (.cells #[.int .i64 0, .int .i64 0] 30)).heap.size ((w.alloc (.cells #[.slice none 0 0, .int .i64 0, .int .i64 0] 26)).alloc (.cells #[.int .i64 0, .int .i64 0] 30)) x) : ResMid w.heap.size x ∧ PrcB0 (w.heap.size + 1) x := by
  obtain ⟨wa, hwa⟩ : ∃ wa, wa = w.alloc (.cells #[.slice none 0 0, .int .i64 0, .int .i64 0] 26) := ⟨_, rfl⟩
  have sa : wa.heap.size = w.heap.size + 1 := by rw [hwa]; simp
  have hra : ResMid w.heap.size wa := by
    rw [hwa]
    refine ⟨by simp, fun j hj => ?_, frozen_of_block (heap_alloc_new w _)⟩
    match j, hj with
    | 0, _ => exact ⟨_, World.cell?_alloc_at _ _ _ _ rfl⟩
    | 1, _ => exact ⟨_, World.cell?_alloc_at _ _ _ _ rfl⟩
    | 2, _ => exact ⟨_, World.cell?_alloc_at _ _ _ _ rfl⟩
  rw [← hwa] at b
  have b2 := below_alloc (Below.refl wa.heap.size wa) (.cells #[.int .i64 0, .int .i64 0] 30)
  have hb := b.block wa.heap.size (by simp)
  refine ⟨(hra.keep (b2.block _ (by omega)) b2.size).keep (b.block _ (by simp [sa]; omega)) b.size, ?_⟩
  rw [← sa]
  exact ⟨⟨_, (World.cell?_of_block (a := ⟨wa.heap.size, 0, none⟩) hb).trans (World.cell?_alloc_at _ _ _ _ rfl)⟩, ⟨_, (World.cell?_of_block (a := ⟨wa.heap.size, 1, none⟩) hb).trans (World.cell?_alloc_at _ _ _ _ rfl)⟩, fun j => (World.frozen?_of_block (a := ⟨wa.heap.size, j, none⟩) hb).trans (frozen_of_block (heap_alloc_new wa _) j)⟩
theorem drr_row {w W0 x : World} {E : En} {a : Option Addr} {cap g M : Nat} (h : Dk W0 E a cap g M x) (sW : W0.heap.size = w.heap.size + 2) {u0 u1 u2 u3 u4 : Value} : RowAt 2 prcCells (((((x.setCell ⟨w.heap.size, 0, none⟩ u0).setCell ⟨w.heap.size, 1, none⟩ u1).setCell ⟨w.heap.size, 2, none⟩ u2).setCell ⟨w.heap.size + 1, 0, none⟩ u3).setCell ⟨w.heap.size + 1, 1, none⟩ u4).drew a E.out := by
  have hg := h.hg
  exact ((((h.row.turned ((((Turned.refl w.heap.size x).setCell _).setCell _).setCell _) (fun _ => by omega)).turned (((Turned.refl (w.heap.size + 1) _).setCell _).setCell _) (fun _ => by omega)).below ((Below.refl _ _).drew)).rows)
theorem drr_bel {w W0 x : World} {E : En} {a : Option Addr} {cap g M : Nat} (h : Dk W0 E a cap g M x) (HW0 : (w.alloc (.cells #[.slice none 0 0, .int .i64 0, .int .i64 0] 26)).alloc (.cells #[.int .i64 0, .int .i64 0] 30) = W0) {u0 u1 u2 u3 u4 : Value} : Below w.heap.size w (((((x.setCell ⟨w.heap.size, 0, none⟩ u0).setCell ⟨w.heap.size, 1, none⟩ u1).setCell ⟨w.heap.size, 2, none⟩ u2).setCell ⟨w.heap.size + 1, 0, none⟩ u3).setCell ⟨w.heap.size + 1, 1, none⟩ u4).drew := by
  have b0 : Below w.heap.size w W0 := by rw [← HW0]; exact below_trans (below_alloc (Below.refl _ _) _) (below_alloc (Below.refl _ _) _)
  have b := b0.trans (h.bel.mono b0.size)
  have h1 : w.heap.size ≤ w.heap.size + 1 := by omega
  exact (((((b.setCell (p := ⟨w.heap.size, 0, none⟩) (Nat.le_refl _) _).setCell (p := ⟨w.heap.size, 1, none⟩) (Nat.le_refl _) _).setCell (p := ⟨w.heap.size, 2, none⟩) (Nat.le_refl _) _).setCell (p := ⟨w.heap.size + 1, 0, none⟩) h1 _).setCell (p := ⟨w.heap.size + 1, 1, none⟩) h1 _).drew
end Go.Proofs.Ytjmkppajfebidaa
