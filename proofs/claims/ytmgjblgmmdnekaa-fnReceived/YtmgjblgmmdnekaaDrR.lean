/- The drawn end and parcel. -/
import Derived.Test.YtmgjblgmmdnekaaDrE
import Derived.Test.YtmgjblgmmdnekaaInv2
import Derived.Test.YtmgjblgmmdnekaaRd5
namespace Go.Proofs.Ytmgjblgmmdnekaa
open Go.ChangeShapes Go.WideShapes Go.ChangeAt Go.RowKit
set_option linter.unusedVariables false
/-- a drawn end in a variable, the reader, and all that was there ahead of the reader -/
structure Dk (W0 : World) (E : En) (a : Option Addr) (cap g K : Nat) (x : World) : Prop where
  rd : Rd W0.heap.size x
  bel : Below W0.heap.size W0 x
  kB : W0.heap.size < K
  kx : K < x.heap.size
  c0 : x.cell? ⟨K, 0, none⟩ = some (.slice a E.out.length cap)
  c1 : x.cell? ⟨K, 1, none⟩ = some (.int .i64 E.sent)
  c2 : x.cell? ⟨K, 2, none⟩ = some (.int .i64 E.got)
  hg : W0.heap.size < g
  ne : 0 < E.out.length → g ≠ K
  row : OwnRow 2 prcCells x g a cap E.out
theorem Dk.move {W0 : World} {E : En} {a : Option Addr} {cap g K : Nat} {x y : World} (h : Dk W0 E a cap g K x) (hs : x.heap.size ≤ y.heap.size) (rd : Rd W0.heap.size y) (bel : Below W0.heap.size W0 y) (hK : y.heap[K]? = x.heap[K]?) (hG : 0 < E.out.length → y.heap[g]? = x.heap[g]?) : Dk W0 E a cap g K y :=
  ⟨rd, bel, h.kB, Nat.lt_of_lt_of_le h.kx hs, (World.cell?_of_block hK).trans h.c0, (World.cell?_of_block hK).trans h.c1, (World.cell?_of_block hK).trans h.c2, h.hg, h.ne, h.row.keepB hG⟩
theorem Dk.apart {W0 : World} {E : En} {a : Option Addr} {cap g K : Nat} {x y : World} (h : Dk W0 E a cap g K x) (rd : Rd W0.heap.size y) (k : Apart W0.heap.size x y) : Dk W0 E a cap g K y :=
  h.move k.size rd (below_apart h.bel (Nat.le_refl _) k) (k.block _ h.kx (by have := h.kB; omega)) (fun q => k.block _ (h.row.lt q) (by have := h.hg; omega))
theorem Dk.below {W0 : World} {E : En} {a : Option Addr} {cap g K : Nat} {x y : World} (h : Dk W0 E a cap g K x) (k : Below x.heap.size x y) : Dk W0 E a cap g K y :=
  h.move k.size (h.rd.below (k.mono h.rd.lt)) (h.bel.trans (k.mono h.bel.size)) (k.block _ h.kx) (fun q => k.block _ (h.row.lt q))
/-- behind the call that draws the end: it is laid into a variable -/
theorem dk_new {W0 x y : World} {E : En} {a : Option Addr} {cap g : Nat} (hB : Below (W0.heap.size + 1) x x) (hx : Below W0.heap.size W0 x) (hx1 : W0.heap.size < x.heap.size) (ap : Apart W0.heap.size x y) (rd : Rd W0.heap.size y) (hg : x.heap.size ≤ g) (row : OwnRow 2 prcCells y g a cap E.out) :
    Dk W0 E a cap (if 0 < E.out.length then g else y.heap.size + 1) y.heap.size (y.alloc (.cells #[.slice a E.out.length cap, .int .i64 E.sent, .int .i64 E.got] 26)) := by
  have hs := ap.size
  have b := below_alloc (Below.refl y.heap.size y) (.cells #[.slice a E.out.length cap, .int .i64 E.sent, .int .i64 E.got] 26)
  refine ⟨rd.below (b.mono rd.lt), (below_apart hx (Nat.le_refl _) ap).trans (b.mono (by omega)), by omega, by simp, World.cell?_alloc_at _ _ _ _ rfl, World.cell?_alloc_at _ _ _ _ rfl, World.cell?_alloc_at _ _ _ _ rfl, ?_, ?_, ?_⟩
  · split <;> omega
  · intro q; rw [if_pos q]; have := row.lt q; omega
  · have r := row.below b
    by_cases q : 0 < E.out.length
    · rw [if_pos q]; exact r
    · rw [if_neg q]; exact ⟨r.rows, fun h => absurd h q, r.room, r.nocap⟩
/-- a parcel in a variable -/
structure PrcB (W0 : World) (E : En) (g M k : Nat) (x : World) : Prop where
  lo : W0.heap.size < k
  lt : k < x.heap.size
  nM : k ≠ M
  ng : 0 < E.out.length → k ≠ g
  fz : ∀ j, x.frozen? ⟨k, j, none⟩ = false
  c0 : ∃ v, x.cell? ⟨k, 0, none⟩ = some v
  c1 : ∃ v, x.cell? ⟨k, 1, none⟩ = some v
theorem PrcB.keep {W0 : World} {E : En} {g M k : Nat} {x y : World} (h : PrcB W0 E g M k x) (hs : x.heap.size ≤ y.heap.size) (e : y.heap[k]? = x.heap[k]?) : PrcB W0 E g M k y :=
  ⟨h.lo, Nat.lt_of_lt_of_le h.lt hs, h.nM, h.ng, fun j => (World.frozen?_of_block e).trans (h.fz j), by obtain ⟨v, hv⟩ := h.c0; exact ⟨v, (World.cell?_of_block e).trans hv⟩, by obtain ⟨v, hv⟩ := h.c1; exact ⟨v, (World.cell?_of_block e).trans hv⟩⟩
theorem Dk.put2 {W0 : World} {E : En} {a : Option Addr} {cap g M k : Nat} {x : World} (h : Dk W0 E a cap g M x) (hk : PrcB W0 E g M k x) (o : Nat) (v : Value) : Dk W0 E a cap g M (x.setCell ⟨k, o, none⟩ v) :=
  h.move (by simp [World.setCell]) (rd_new h.rd hk.lo _) (h.bel.setCell (p := ⟨k, o, none⟩) (Nat.le_of_lt hk.lo) _) (Below.heap_setCell _ _ _ _ (Ne.symm hk.nM)) (fun q => Below.heap_setCell _ _ _ _ (Ne.symm (hk.ng q)))
theorem PrcB.put {W0 : World} {E : En} {g M k : Nat} {x : World} (h : PrcB W0 E g M k x) {o : Nat} (ho : o < 2) (v : Value) : PrcB W0 E g M k (x.setCell ⟨k, o, none⟩ v) := by
  obtain ⟨v0, c0⟩ := h.c0
  obtain ⟨v1, c1⟩ := h.c1
  refine ⟨h.lo, by simpa [World.setCell] using h.lt, h.nM, h.ng, fun j => by simp [h.fz], ?_, ?_⟩
  · obtain rfl | rfl : o = 0 ∨ o = 1 := by omega
    · exact ⟨_, cell_set_same c0⟩
    · exact ⟨_, by rw [cell_set_other (.inr (by simp))]; exact c0⟩
  · obtain rfl | rfl : o = 0 ∨ o = 1 := by omega
    · exact ⟨_, by rw [cell_set_other (.inr (by simp))]; exact c1⟩
    · exact ⟨_, cell_set_same c1⟩
theorem wrap_i64 (n : Int) : I64 (IntKind.i64.wrap n) := by
  simp only [I64, IntKind.wrap, IntKind.bits, IntKind.signed]
  simp
  omega
/-- what holds in the midst of the region that makes the parcel -/
structure DpF (W0 : World) (E : En) (a : Option Addr) (cap g M : Nat) (l0 l1 l2 l3 l4 l5 l6 l7 l8 : Bool) (u6 u11 u12 u13 u14 u15 u16 u17 : Value) (x : World) : Prop where
  dk : Dk W0 E a cap g M x
  q15 : l4 = true → ∃ r : Int, u15 = .int .i64 r
  q16 : l5 = true → ∃ r : Int, I64 r ∧ u16 = .int .i64 r
  q17 : l6 = true → ∃ r : Int, I64 r ∧ u17 = .agg #[.int .i64 (E.got + 1), .int .i64 r]
  e6 : l7 = true → ∃ k, u6 = .pointer (some ⟨k, 0, none⟩) ∧ PrcB W0 E g M k x ∧ (l8 = true → ∃ r : Int, I64 r ∧ x.cell? ⟨k, 0, none⟩ = some (.int .i64 (E.got + 1)) ∧ x.cell? ⟨k, 1, none⟩ = some (.int .i64 r))
  d8 : l8 = true → l7 = true
  p11 : l0 = true → u11 = .pointer (some ⟨M, 2, none⟩)
  p12 : l1 = true → u12 = .int .i64 E.got
  p13 : l2 = true → u13 = .int .i64 (E.got + 1)
  p14 : l3 = true → u14 = .pointer (some ⟨W0.heap.size, 0, none⟩)
theorem DpF.s4 {W0 : World} {E : En} {a : Option Addr} {cap g M : Nat} {l0 l1 l2 l5 l6 l7 l8 : Bool} {u6 u11 u12 u13 u14 u15 u16 u17 : Value} {x : World} {y : World} {r : Int} (h : DpF W0 E a cap g M l0 l1 l2 true false l5 l6 l7 l8 u6 u11 u12 u13 u14 u15 u16 u17 x) (hr : Rd W0.heap.size y) (ha : Apart W0.heap.size x y) : DpF W0 E a cap g M l0 l1 l2 true true l5 l6 l7 l8 u6 u11 u12 u13 u14 (.int .i64 r) u16 u17 y :=
  { h with
    dk := h.dk.apart hr ha
    q15 := fun _ => ⟨r, rfl⟩
    e6 := fun q => by
      obtain ⟨k, e, hk, hc⟩ := h.e6 q
      have hb := ha.block k hk.lt (by have := hk.lo; omega)
      exact ⟨k, e, hk.keep ha.size hb, fun q => by
        obtain ⟨r, hr, c0, c1⟩ := hc q
        exact ⟨r, hr, (World.cell?_of_block hb).trans c0, (World.cell?_of_block hb).trans c1⟩⟩ }
theorem DpF.s7 {W0 : World} {E : En} {a : Option Addr} {cap g M : Nat} {l0 l1 l2 l3 l4 l5 l6 l8 : Bool} {u6 u11 u12 u13 u14 u15 u16 u17 : Value} {x : World} (h : DpF W0 E a cap g M l0 l1 l2 l3 l4 l5 l6 false l8 u6 u11 u12 u13 u14 u15 u16 u17 x) : DpF W0 E a cap g M l0 l1 l2 l3 l4 l5 l6 true l8 (.pointer (some ⟨x.heap.size, 0, none⟩)) u11 u12 u13 u14 u15 u16 u17 (x.alloc (.cells #[.int .i64 0, .int .i64 0] 28)) :=
  { h with
    dk := h.dk.below (below_alloc (Below.refl _ _) _)
    d8 := fun _ => rfl
    e6 := fun _ => ⟨x.heap.size, rfl, ⟨h.dk.rd.lt, by simp, by have := h.dk.kx; omega, fun q => by have := h.dk.row.lt q; omega, frozen_of_block (heap_alloc_new x _), ⟨_, World.cell?_alloc_at _ _ _ _ rfl⟩, ⟨_, World.cell?_alloc_at _ _ _ _ rfl⟩⟩, fun q => absurd (h.d8 q) (by simp)⟩ }
theorem DpF.s8 {W0 : World} {E : En} {a : Option Addr} {cap g M : Nat} {u6 u11 u12 u13 u14 u15 u16 u17 : Value} {x : World} {k : Nat} {r : Int} (h : DpF W0 E a cap g M true true true true true true true true false u6 u11 u12 u13 u14 u15 u16 u17 x) (ek : u6 = .pointer (some ⟨k, 0, none⟩)) (hk : PrcB W0 E g M k x) (hr : I64 r) : DpF W0 E a cap g M true true true true true true true true true u6 u11 u12 u13 u14 u15 u16 u17 ((x.setCell ⟨k, 0, none⟩ (.int .i64 (E.got + 1))).setCell ⟨k, 1, none⟩ (.int .i64 r)) := by
  have hk1 := hk.put (o := 0) (by omega) (.int .i64 (E.got + 1))
  obtain ⟨v0, c0⟩ := hk.c0
  obtain ⟨v1, c1⟩ := hk.c1
  exact { h with
    dk := (h.dk.put2 hk 0 _).put2 hk1 1 _
    d8 := fun _ => rfl
    e6 := fun _ => ⟨k, ek, hk1.put (by omega) _, fun _ => ⟨r, hr, by rw [cell_set_other (.inr (by simp))]; exact cell_set_same c0, cell_set_same (by rw [cell_set_other (.inr (by simp))]; exact c1)⟩⟩ }
def DrRcv (w : World) (e : Ending) (w' : World) : Prop := ∃ (E : En) (a : Option Addr) (cap : Nat) (ps pa : Int), e = .returned (.tuple #[.agg #[.slice a E.out.length cap, .int .i64 E.sent, .int .i64 E.got], .agg #[.int .i64 ps, .int .i64 pa]]) ∧ E.out.length ≤ 8 ∧ I64 E.sent ∧ I64 E.got ∧ I64 ps ∧ I64 pa ∧ (a = none → cap = 0) ∧ RowAt 2 prcCells w' a E.out ∧ Below w.heap.size w w'
structure PrcB0 (k : Nat) (x : World) : Prop where
  c0 : ∃ v, x.cell? ⟨k, 0, none⟩ = some v
  c1 : ∃ v, x.cell? ⟨k, 1, none⟩ = some v
  fz : ∀ j, x.frozen? ⟨k, j, none⟩ = false
theorem res_two {w x : World} (b : Below ((w.alloc (.cells #[.slice none 0 0, .int .i64 0, .int .i64 0] 26)).alloc (.cells #[.int .i64 0, .int .i64 0] 28)).heap.size ((w.alloc (.cells #[.slice none 0 0, .int .i64 0, .int .i64 0] 26)).alloc (.cells #[.int .i64 0, .int .i64 0] 28)) x) : ResMid w.heap.size x ∧ PrcB0 (w.heap.size + 1) x := by
  obtain ⟨wa, hwa⟩ : ∃ wa, wa = w.alloc (.cells #[.slice none 0 0, .int .i64 0, .int .i64 0] 26) := ⟨_, rfl⟩
  have sa : wa.heap.size = w.heap.size + 1 := by rw [hwa]; simp
  have hra : ResMid w.heap.size wa := by
    rw [hwa]
    refine ⟨by simp, fun j hj => ?_, frozen_of_block (heap_alloc_new w _)⟩
    match j, hj with
    | 0, _ => exact ⟨_, World.cell?_alloc_at _ _ _ _ rfl⟩
    | 1, _ => exact ⟨_, World.cell?_alloc_at _ _ _ _ rfl⟩
    | 2, _ => exact ⟨_, World.cell?_alloc_at _ _ _ _ rfl⟩
  rw [← hwa] at b
  have b2 := below_alloc (Below.refl wa.heap.size wa) (.cells #[.int .i64 0, .int .i64 0] 28)
  have hb := b.block wa.heap.size (by simp)
  refine ⟨(hra.keep (b2.block _ (by omega)) b2.size).keep (b.block _ (by simp [sa]; omega)) b.size, ?_⟩
  rw [← sa]
  exact ⟨⟨_, (World.cell?_of_block (a := ⟨wa.heap.size, 0, none⟩) hb).trans (World.cell?_alloc_at _ _ _ _ rfl)⟩, ⟨_, (World.cell?_of_block (a := ⟨wa.heap.size, 1, none⟩) hb).trans (World.cell?_alloc_at _ _ _ _ rfl)⟩, fun j => (World.frozen?_of_block (a := ⟨wa.heap.size, j, none⟩) hb).trans (frozen_of_block (heap_alloc_new wa _) j)⟩
theorem drr_row {w W0 x : World} {E : En} {a : Option Addr} {cap g M : Nat} (h : Dk W0 E a cap g M x) (sW : W0.heap.size = w.heap.size + 2) {u0 u1 u2 u3 u4 : Value} : RowAt 2 prcCells (((((x.setCell ⟨w.heap.size, 0, none⟩ u0).setCell ⟨w.heap.size, 1, none⟩ u1).setCell ⟨w.heap.size, 2, none⟩ u2).setCell ⟨w.heap.size + 1, 0, none⟩ u3).setCell ⟨w.heap.size + 1, 1, none⟩ u4).drew a E.out := by
  have hg := h.hg
  exact ((((h.row.turned ((((Turned.refl w.heap.size x).setCell _).setCell _).setCell _) (fun _ => by omega)).turned (((Turned.refl (w.heap.size + 1) _).setCell _).setCell _) (fun _ => by omega)).below ((Below.refl _ _).drew)).rows)
theorem drr_bel {w W0 x : World} {E : En} {a : Option Addr} {cap g M : Nat} (h : Dk W0 E a cap g M x) (HW0 : (w.alloc (.cells #[.slice none 0 0, .int .i64 0, .int .i64 0] 26)).alloc (.cells #[.int .i64 0, .int .i64 0] 28) = W0) {u0 u1 u2 u3 u4 : Value} : Below w.heap.size w (((((x.setCell ⟨w.heap.size, 0, none⟩ u0).setCell ⟨w.heap.size, 1, none⟩ u1).setCell ⟨w.heap.size, 2, none⟩ u2).setCell ⟨w.heap.size + 1, 0, none⟩ u3).setCell ⟨w.heap.size + 1, 1, none⟩ u4).drew := by
  have b0 : Below w.heap.size w W0 := by rw [← HW0]; exact below_trans (below_alloc (Below.refl _ _) _) (below_alloc (Below.refl _ _) _)
  have b := b0.trans (h.bel.mono b0.size)
  have h1 : w.heap.size ≤ w.heap.size + 1 := by omega
  exact (((((b.setCell (p := ⟨w.heap.size, 0, none⟩) (Nat.le_refl _) _).setCell (p := ⟨w.heap.size, 1, none⟩) (Nat.le_refl _) _).setCell (p := ⟨w.heap.size, 2, none⟩) (Nat.le_refl _) _).setCell (p := ⟨w.heap.size + 1, 0, none⟩) h1 _).setCell (p := ⟨w.heap.size + 1, 1, none⟩) h1 _).drew
set_option maxRecDepth 100000 in
set_option maxHeartbeats 4000000 in
theorem drawReceived_any (a0 : Option Addr) (len cp : Nat) (w : World) (h : IsCode w a0 len) : Calls Try.prog 5 #[.slice a0 len cp] w fun e w' => DrRcv w e w' := by
  obtain ⟨W0, hW0⟩ : ∃ W0, W0 = (w.alloc (.cells #[.slice none 0 0, .int .i64 0, .int .i64 0] 26)).alloc (.cells #[.int .i64 0, .int .i64 0] 28) := ⟨_, rfl⟩
  have HW0 : Hid ((w.alloc (.cells #[.slice none 0 0, .int .i64 0, .int .i64 0] 26)).alloc (.cells #[.int .i64 0, .int .i64 0] 28) = W0) := hide hW0.symm
  have HC0 : Hid (IsCode W0 a0 len) := hide (by rw [hW0]; exact (h.below (below_alloc (Below.refl _ _) _)).below (below_alloc (Below.refl _ _) _))
  clear hW0 h
  go_enter Try.func5, Try.ntmps5
  go_wp2_with fail
  rw [HW0.out]
  refine (l1Open_any a0 len cp W0).mono ?_
  rintro e w1 ⟨rfl, hw1⟩
  have HR1 : Hid (Rd W0.heap.size w1) := hide (by rw [hw1]; exact rd_open HC0.out)
  have HB1 : Hid (Below W0.heap.size W0 w1) := hide (by rw [hw1]; exact below_alloc (Below.refl _ _) _)
  have HS1 : Hid (W0.heap.size < w1.heap.size) := hide (by rw [hw1]; simp)
  clear hw1
  go_wp2_with fail
  refine (end_drawn W0.heap.size w1 HR1.out).mono ?_
  rintro e w2 ⟨E, a, cap, g, rfl, h8, hs, hg, hgl, hrow, hrd, hap⟩
  obtain ⟨w3, hw3⟩ : ∃ w3, w3 = w2.alloc (.cells #[.slice a E.out.length cap, .int .i64 E.sent, .int .i64 E.got] 26) := ⟨_, rfl⟩
  have HW3 : Hid (w2.alloc (.cells #[.slice a E.out.length cap, .int .i64 E.sent, .int .i64 E.got] 26) = w3) := hide hw3.symm
  have HD3 : Hid (∃ gg, Dk W0 E a cap gg w2.heap.size w3) := hide ⟨_, by rw [hw3]; exact dk_new (Below.refl _ _) HB1.out HS1.out hap hrd (by omega) hrow⟩
  obtain ⟨gg, hd3⟩ := HD3.out
  obtain ⟨M, hM⟩ : ∃ M, M = w2.heap.size := ⟨_, rfl⟩
  have HD : Hid (Dk W0 E a cap gg M w3) := hide (by rw [hM]; exact hd3)
  clear hgl hrow hrd hap hw3 HD3 hd3 HR1 HB1 HS1
  go_wp2_with fail
  rw [HW3.out]
  rw [← hM]
  clear HW3 hM
  rename_i K0 hK0
  have HDd : Hid (Dk W0 E a cap gg M w3.drew) := hide (HD.out.below ((Below.refl _ _).drew))
  refine wp_region_inv (by kernel_rfl) (fun L act x => ∃ l0 l1 l2 l3 l4 l5 l6 l7 l8 : Bool, ∃ u6 u11 u12 u13 u14 u15 u16 u17 : Value, L = #[l0, l1, l2, l3, l4, l5, l6, l7, l8] ∧ act = { tmps := #[Value.slice a0 len cp, undef, Value.pointer (some { block := w.heap.size, off := 0 }), Value.pointer (some { block := w.heap.size + 1, off := 0 }), Value.pointer (some { block := W0.heap.size, off := 0 }), Value.pointer (some { block := M, off := 0 }), u6, Value.slice a0 len cp, Value.pointer (some { block := W0.heap.size, off := 0 }), Value.pointer (some { block := W0.heap.size, off := 0 }), Value.agg #[Value.slice a E.out.length cap, Value.int IntKind.i64 E.sent, Value.int IntKind.i64 E.got], u11, u12, u13, u14, u15, u16, u17, undef, undef, undef, undef, undef, undef, undef], defers := [] } ∧ DpF W0 E a cap gg M l0 l1 l2 l3 l4 l5 l6 l7 l8 u6 u11 u12 u13 u14 u15 u16 u17 x) ?_ ?_ ?_
  rotate_left 2
  · exact ⟨false, false, false, false, false, false, false, false, false, (undef), (undef), (undef), (undef), (undef), (undef), (undef), (undef), rfl, rfl, ⟨HDd.out, fun q => (by cases q), fun q => (by cases q), fun q => (by cases q), fun q => (by cases q), fun q => (by cases q), fun q => (by cases q), fun q => (by cases q), fun q => (by cases q), fun q => (by cases q)⟩⟩
  · rintro L act x i ⟨l0, l1, l2, l3, l4, l5, l6, l7, l8, u6, u11, u12, u13, u14, u15, u16, u17, rfl, rfl, h⟩ hi K hK
    have hi15 : i < 9 := by
      obtain ⟨_, o, ho, _⟩ := mem_ready.1 hi
      exact (Array.getElem?_eq_some_iff.1 ho).1
    have hl := (mem_ready.1 hi).1
    obtain rfl | rfl | rfl | rfl | rfl | rfl | rfl | rfl | rfl := (by omega : i = 0 ∨ i = 1 ∨ i = 2 ∨ i = 3 ∨ i = 4 ∨ i = 5 ∨ i = 6 ∨ i = 7 ∨ i = 8)
    · have e : l0 = false := hl
      subst e
      refine wpOp_run (v := .pointer (some ⟨M, 2, none⟩)) (w' := x) (by rfl) (by rfl) ?_ (hK _ _ ⟨true, l1, l2, l3, l4, l5, l6, l7, l8, u6, (.pointer (some ⟨M, 2, none⟩)), u12, u13, u14, u15, u16, u17, rfl, rfl, { h with p11 := fun _ => rfl }⟩)
      go_simp
    · have e : l1 = false := hl
      subst e
      have d0 : l0 = true := ready_on hi 0 (by kernel_rfl)
      subst d0
      have c2 := h.dk.c2
      refine wpOp_run (v := .int .i64 E.got) (w' := x) (by rfl) (by rfl) ?_ (hK _ _ ⟨true, true, l2, l3, l4, l5, l6, l7, l8, u6, u11, (.int .i64 E.got), u13, u14, u15, u16, u17, rfl, rfl, { h with p12 := fun _ => rfl }⟩)
      rw [h.p11 rfl]
      go_simp
    · have e : l2 = false := hl
      subst e
      have d1 : l1 = true := ready_on hi 1 (by kernel_rfl)
      subst d1
      refine wpOp_run (v := .int .i64 (E.got + 1)) (w' := x) (by rfl) (by rfl) ?_ (hK _ _ ⟨l0, true, true, l3, l4, l5, l6, l7, l8, u6, u11, u12, (.int .i64 (E.got + 1)), u14, u15, u16, u17, rfl, rfl, { h with p13 := fun _ => rfl }⟩)
      rw [h.p12 rfl]
      go_simp
      simp [IntKind.wrap, IntKind.bits, IntKind.signed]
      omega
    · have e : l3 = false := hl
      subst e
      refine wpOp_run (v := .pointer (some ⟨W0.heap.size, 0, none⟩)) (w' := x) (by rfl) (by rfl) ?_ (hK _ _ ⟨l0, l1, l2, true, l4, l5, l6, l7, l8, u6, u11, u12, u13, (.pointer (some ⟨W0.heap.size, 0, none⟩)), u15, u16, u17, rfl, rfl, { h with p14 := fun _ => rfl }⟩)
      go_simp
    · have e : l4 = false := hl
      subst e
      have d3 : l3 = true := ready_on hi 3 (by kernel_rfl)
      subst d3
      refine wpOp_call (by rfl) (by rfl) ?_ (amount_any W0.heap.size x h.dk.rd) ?_
      · rw [h.p14 rfl]; go_simp
      · rintro e w' ⟨⟨r, r0, r1, rfl⟩, hr, ha⟩
        exact ⟨_, rfl, hK _ _ ⟨l0, l1, l2, true, true, l5, l6, l7, l8, u6, u11, u12, u13, u14, (.int .i64 r), u16, u17, rfl, rfl, h.s4 hr ha⟩⟩
    · have e : l5 = false := hl
      subst e
      have d4 : l4 = true := ready_on hi 4 (by kernel_rfl)
      subst d4
      obtain ⟨r, e1⟩ := h.q15 rfl
      refine wpOp_run (v := .int .i64 (IntKind.i64.wrap (1 + r))) (w' := x) (by rfl) (by rfl) ?_ (hK _ _ ⟨l0, l1, l2, l3, true, true, l6, l7, l8, u6, u11, u12, u13, u14, u15, (.int .i64 (IntKind.i64.wrap (1 + r))), u17, rfl, rfl, { h with q16 := fun _ => ⟨_, wrap_i64 _, rfl⟩ }⟩)
      rw [e1]
      go_simp
    · have e : l6 = false := hl
      subst e
      have d2 : l2 = true := ready_on hi 2 (by kernel_rfl)
      subst d2
      have d5 : l5 = true := ready_on hi 5 (by kernel_rfl)
      subst d5
      obtain ⟨r, hr, e1⟩ := h.q16 rfl
      refine wpOp_run (v := .agg #[.int .i64 (E.got + 1), .int .i64 r]) (w' := x) (by rfl) (by rfl) ?_ (hK _ _ ⟨l0, l1, true, l3, l4, true, true, l7, l8, u6, u11, u12, u13, u14, u15, u16, (.agg #[.int .i64 (E.got + 1), .int .i64 r]), rfl, rfl, { h with q17 := fun _ => ⟨_, hr, rfl⟩ }⟩)
      rw [h.p13 rfl, e1]
      go_simp
    · have e : l7 = false := hl
      subst e
      refine wpOp_run (v := .pointer (some ⟨x.heap.size, 0, none⟩)) (w' := x.alloc (.cells #[.int .i64 0, .int .i64 0] 28)) (by rfl) (by rfl) ?_ (hK _ _ ⟨l0, l1, l2, l3, l4, l5, l6, true, l8, (.pointer (some ⟨x.heap.size, 0, none⟩)), u11, u12, u13, u14, u15, u16, u17, rfl, rfl, h.s7⟩)
      go_simp
    · have e : l8 = false := hl
      subst e
      have d0 : l0 = true := ready_on hi 0 (by kernel_rfl)
      subst d0
      have d1 : l1 = true := ready_on hi 1 (by kernel_rfl)
      subst d1
      have d2 : l2 = true := ready_on hi 2 (by kernel_rfl)
      subst d2
      have d3 : l3 = true := ready_on hi 3 (by kernel_rfl)
      subst d3
      have d4 : l4 = true := ready_on hi 4 (by kernel_rfl)
      subst d4
      have d5 : l5 = true := ready_on hi 5 (by kernel_rfl)
      subst d5
      have d6 : l6 = true := ready_on hi 6 (by kernel_rfl)
      subst d6
      have d7 : l7 = true := ready_on hi 7 (by kernel_rfl)
      subst d7
      obtain ⟨r, hr, e1⟩ := h.q17 rfl
      obtain ⟨k, ek, hk, _⟩ := h.e6 rfl
      refine wpOp_skip (w' := ((x.setCell ⟨k, 0, none⟩ (.int .i64 (E.got + 1))).setCell ⟨k, 1, none⟩ (.int .i64 r))) (by rfl) (by rfl) ?_ (hK _ _ ⟨true, true, true, true, true, true, true, true, true, u6, u11, u12, u13, u14, u15, u16, u17, rfl, rfl, h.s8 ek hk hr⟩)
      rw [e1, ek]
      obtain ⟨v0, c0⟩ := hk.c0
      obtain ⟨v1, c1⟩ := hk.c1
      have f0 := hk.fz 0
      have f1 := hk.fz 1
      go_simp
  · rintro L act x ⟨l0, l1, l2, l3, l4, l5, l6, l7, l8, u6, u11, u12, u13, u14, u15, u16, u17, rfl, rfl, h⟩ hr
    have hall := ready_all hr rfl (by decide)
    have t0 : l0 = true := hall 0 (by decide)
    have t1 : l1 = true := hall 1 (by decide)
    have t2 : l2 = true := hall 2 (by decide)
    have t3 : l3 = true := hall 3 (by decide)
    have t4 : l4 = true := hall 4 (by decide)
    have t5 : l5 = true := hall 5 (by decide)
    have t6 : l6 = true := hall 6 (by decide)
    have t7 : l7 = true := hall 7 (by decide)
    have t8 : l8 = true := hall 8 (by decide)
    subst t0 t1 t2 t3 t4 t5 t6 t7 t8
    clear hall hr
    obtain ⟨k6, ek, hk6, hc⟩ := h.e6 rfl
    obtain ⟨r6, hr6, c60, c61⟩ := hc rfl
    have HD4 : Hid (Dk W0 E a cap gg M x) := hide h.dk
    have HK4 : Hid (PrcB W0 E gg M k6 x) := hide hk6
    rw [ek]
    clear h hc hk6 ek
    refine hK0 _ _ ?_
    go_wp2_with fail
    refine (once_any W0.heap.size 2 _ HD4.out.rd (by omega) (by omega)).mono ?_
    rintro e w5 ⟨⟨b5, rfl⟩, hr5, ha5⟩
    have HD5 : Hid _ := hide (HD4.out.apart hr5 ha5)
    have hb5 := ha5.block k6 HK4.out.lt (by have := HK4.out.lo; omega)
    have HK5 : Hid _ := hide (HK4.out.keep ha5.size hb5)
    have p0 := (World.cell?_of_block (a := ⟨k6, 0, none⟩) hb5).trans c60
    have p1 := (World.cell?_of_block (a := ⟨k6, 1, none⟩) hb5).trans c61
    clear hr5 ha5 hb5 HD4 HK4 c60 c61
    cases b5
    · skip
      have c0 := HD5.out.c0
      have c1 := HD5.out.c1
      have c2 := HD5.out.c2
      have HV : Hid (ResMid w.heap.size w5 ∧ PrcB0 (w.heap.size + 1) w5) := hide (res_two (by rw [HW0.out]; exact HD5.out.bel))
      obtain ⟨⟨t0, r0'⟩, ⟨t1, r1'⟩, ⟨t2, r2'⟩⟩ := And.intro (HV.out.1.c 0 (by omega)) (And.intro (HV.out.1.c 1 (by omega)) (HV.out.1.c 2 (by omega)))
      obtain ⟨t3, r3'⟩ := HV.out.2.c0
      obtain ⟨t4, r4'⟩ := HV.out.2.c1
      have f0 := HV.out.1.f 0
      have f1 := HV.out.1.f 1
      have f2 := HV.out.1.f 2
      have f3 := HV.out.2.fz 0
      have f4 := HV.out.2.fz 1
      have sW : W0.heap.size = w.heap.size + 2 := by rw [← HW0.out]; simp
      have n1 : M ≠ w.heap.size := by have := HD5.out.kB; omega
      have n2 : M ≠ w.heap.size + 1 := by have := HD5.out.kB; omega
      have n3 : k6 ≠ w.heap.size := by have := HK5.out.lo; omega
      have n4 : k6 ≠ w.heap.size + 1 := by have := HK5.out.lo; omega
      have HE : Hid (∀ (u0 u1 u2 u3 u4 : Value), DrRcv w (.returned (.tuple #[.agg #[.slice a E.out.length cap, .int .i64 E.sent, .int .i64 E.got], .agg #[.int .i64 (E.got + 1), .int .i64 r6]])) (((((w5.setCell ⟨w.heap.size, 0, none⟩ u0).setCell ⟨w.heap.size, 1, none⟩ u1).setCell ⟨w.heap.size, 2, none⟩ u2).setCell ⟨w.heap.size + 1, 0, none⟩ u3).setCell ⟨w.heap.size + 1, 1, none⟩ u4).drew) := hide (fun u0 u1 u2 u3 u4 => ⟨E, a, cap, _, _, rfl, h8, hs, by unfold I64; omega, by unfold I64; omega, hr6, HD5.out.row.nocap, drr_row HD5.out sW, drr_bel (HW0 := HW0.out) HD5.out⟩)
      go_wp2_with fail
      go_region
      all_goals
        go_wp2
        exact bodyPost_ret (v := .tuple #[.agg #[.slice a E.out.length cap, .int .i64 E.sent, .int .i64 E.got], .agg #[.int .i64 (E.got + 1), .int .i64 r6]]) (by simp [results, Try.results5, go_sem, r0', r1', r2', r3', r4']) rfl (HE.out _ _ _ _ _)
    · go_wp2_with fail
      refine (off_any W0.heap.size 1 5 _ HD5.out.rd (by omega) (by omega) (by omega)).mono ?_
      rintro e w6 ⟨⟨n6, i0, i1, rfl⟩, hr6', ha6⟩
      have HD6 : Hid _ := hide (HD5.out.apart hr6' ha6)
      have hb6 := ha6.block k6 HK5.out.lt (by have := HK5.out.lo; omega)
      have HK6 : Hid _ := hide (HK5.out.keep ha6.size hb6)
      have p0' := (World.cell?_of_block (a := ⟨k6, 0, none⟩) hb6).trans p0
      have p1' := (World.cell?_of_block (a := ⟨k6, 1, none⟩) hb6).trans p1
      have g0 := HK6.out.fz 0
      clear hr6' ha6 hb6 HD5 HK5 p0 p1
      go_wp2_with fail
      obtain ⟨w7, hw7⟩ : ∃ w7, w7 = w6.setCell ⟨k6, 0, none⟩ (.int .i64 n6) := ⟨_, rfl⟩
      rw [← hw7]
      have HD7 : Hid (Dk W0 E a cap gg M w7) := hide (by rw [hw7]; exact HD6.out.put2 HK6.out 0 _)
      have HK7 : Hid (PrcB W0 E gg M k6 w7) := hide (by rw [hw7]; exact HK6.out.put (by omega) _)
      have p0 : w7.cell? ⟨k6, 0, none⟩ = some (.int .i64 n6) := by rw [hw7]; exact cell_set_same p0'
      have p1 : w7.cell? ⟨k6, 1, none⟩ = some (.int .i64 r6) := by rw [hw7, cell_set_other (.inr (by simp))]; exact p1'
      clear hw7 p0' p1' g0 HD6 HK6
      have c0 := HD7.out.c0
      have c1 := HD7.out.c1
      have c2 := HD7.out.c2
      have HV : Hid (ResMid w.heap.size w7 ∧ PrcB0 (w.heap.size + 1) w7) := hide (res_two (by rw [HW0.out]; exact HD7.out.bel))
      obtain ⟨⟨t0, r0'⟩, ⟨t1, r1'⟩, ⟨t2, r2'⟩⟩ := And.intro (HV.out.1.c 0 (by omega)) (And.intro (HV.out.1.c 1 (by omega)) (HV.out.1.c 2 (by omega)))
      obtain ⟨t3, r3'⟩ := HV.out.2.c0
      obtain ⟨t4, r4'⟩ := HV.out.2.c1
      have f0 := HV.out.1.f 0
      have f1 := HV.out.1.f 1
      have f2 := HV.out.1.f 2
      have f3 := HV.out.2.fz 0
      have f4 := HV.out.2.fz 1
      have sW : W0.heap.size = w.heap.size + 2 := by rw [← HW0.out]; simp
      have n1 : M ≠ w.heap.size := by have := HD7.out.kB; omega
      have n2 : M ≠ w.heap.size + 1 := by have := HD7.out.kB; omega
      have n3 : k6 ≠ w.heap.size := by have := HK7.out.lo; omega
      have n4 : k6 ≠ w.heap.size + 1 := by have := HK7.out.lo; omega
      have HE : Hid (∀ (u0 u1 u2 u3 u4 : Value), DrRcv w (.returned (.tuple #[.agg #[.slice a E.out.length cap, .int .i64 E.sent, .int .i64 E.got], .agg #[.int .i64 n6, .int .i64 r6]])) (((((w7.setCell ⟨w.heap.size, 0, none⟩ u0).setCell ⟨w.heap.size, 1, none⟩ u1).setCell ⟨w.heap.size, 2, none⟩ u2).setCell ⟨w.heap.size + 1, 0, none⟩ u3).setCell ⟨w.heap.size + 1, 1, none⟩ u4).drew) := hide (fun u0 u1 u2 u3 u4 => ⟨E, a, cap, _, _, rfl, h8, hs, by unfold I64; omega, by unfold I64; omega, hr6, HD7.out.row.nocap, drr_row HD7.out sW, drr_bel (HW0 := HW0.out) HD7.out⟩)
      go_wp2_with fail
      go_region
      all_goals
        go_wp2
        exact bodyPost_ret (v := .tuple #[.agg #[.slice a E.out.length cap, .int .i64 E.sent, .int .i64 E.got], .agg #[.int .i64 n6, .int .i64 r6]]) (by simp [results, Try.results5, go_sem, r0', r1', r2', r3', r4']) rfl (HE.out _ _ _ _ _)
end Go.Proofs.Ytmgjblgmmdnekaa
