/- The specification's WorldNew. -/
import Derived.Test.YtilacamcedjbmaaIWn
import Derived.Test.YtilacamcedjbmaaSOk
namespace Go.Proofs.Ytilacamcedjbmaa
open Go.ChangeShapes Go.WideShapes Go.ChangeAt Go.RowKit
set_option linter.unusedVariables false
/-- one node more, and its row is stored -/
theorem grow_one {w : World} {K : Nat} {st : Int} {l : List Slt} {k : Nat} {va : Option Addr} {vc : Nat} {L : List Nd} {x y : World} {pa : Option Addr} {pc : Nat} {v : Value} (HW : Wn w K st l k (.slice va L.length vc) L x) (hk : k < l.length)
    (hp : x.ownsRow (K + 1) 50 4 (.slice pa (peersL l l[k]).length pc) (peersL l l[k]).length ((peersL l l[k]).flatMap prCells)) (hpv : Apt (.slice pa (peersL l l[k]).length pc) (.slice va L.length vc)) (hpp : ∀ i (h : i < L.length), Apt (.slice pa (peersL l l[k]).length pc) L[i].pv ∧ Apt L[i].pv (.slice pa (peersL l l[k]).length pc))
    (ho : y.ownsRow (K + 1) 35 6 v (L.length + 1) (L.flatMap ndCells ++ [.int .i64 l[k].id, .int .i64 l[k].has, .int .i64 0, .int .i64 0, .slice none 0 0, .slice pa (peersL l l[k]).length pc])) (hg : x.grownBy y (Value.ownBlock (.slice va L.length vc))) (hl : v.ownBlock = Value.ownBlock (.slice va L.length vc) ∨ v.ownBlock = some x.heap.size) :
    Below w.heap.size w y ∧ Res3 w.heap.size y ∧ w.heap.size < K ∧ Res3 K y ∧ y.cell? ⟨K, 0, none⟩ = some (.int .i64 st) ∧ y.cell? ⟨K, 2, none⟩ = some (.slice none 0 0) ∧ Fst (K + 1) l (k + 1) v (L ++ [mkN l l[k] pa pc]) y := by
  have lo : ∀ j, Value.ownBlock (.slice va L.length vc) = some j → K + 1 ≤ j := fun j hj => (HW.fst.row.lt j hj).1
  have hlo := HW.lo
  have bk : y.heap[K]? = x.heap[K]? := hg.block _ HW.var.lt (fun q => by have := lo _ q.symm; omega)
  have bw : y.heap[w.heap.size]? = x.heap[w.heap.size]? := hg.block _ HW.res.lt (fun q => by have := lo _ q.symm; omega)
  exact ⟨HW.old.grown hg (Nat.le_trans HW.old.size (Nat.le_refl _)) (fun j hj => by have := lo j hj; omega), HW.res.keep bw hg.size, hlo, HW.var.keep bk hg.size, (World.cell?_of_block bk).trans HW.c0, (World.cell?_of_block bk).trans HW.c2, HW.fst.grow hk rfl hp hpv hpp hg (by simpa [ndCells, mkN, List.flatMap_append] using ho) hl⟩
theorem wn_store {w : World} {K : Nat} {st : Int} {l : List Slt} {k : Nat} {v : Value} {L : List Nd} {y : World} (h : Below w.heap.size w y ∧ Res3 w.heap.size y ∧ w.heap.size < K ∧ Res3 K y ∧ y.cell? ⟨K, 0, none⟩ = some (.int .i64 st) ∧ y.cell? ⟨K, 2, none⟩ = some (.slice none 0 0) ∧ Fst (K + 1) l k v L y) : Wn w K st l k v L (y.setCell ⟨K, 1, none⟩ v) := by
  obtain ⟨y1, y2, y3, y4, y5, y6, y7⟩ := h
  obtain ⟨t1, r1⟩ := y4.c 1 (by omega)
  exact ⟨y1.setCell (p := ⟨K, 1, none⟩) (Nat.le_of_lt y3) _, y2.keep (Below.heap_setCell _ _ _ _ (fun e => by have : w.heap.size = K := e; omega)) (by simp [World.setCell]), y3, y4.set 1 v, by rw [cell_set_other (.inr (by simp))]; exact y5, cell_set_same r1, by rw [cell_set_other (.inr (by simp))]; exact y6, y7.put (by omega) _⟩
structure Bk6 (G : Nat) (vs : List Value) (x : World) : Prop where
  lt : G < x.heap.size
  c : ∀ j v, vs[j]? = some v → x.cell? ⟨G, j, none⟩ = some v
  f : ∀ j, x.frozen? ⟨G, j, none⟩ = false
theorem Bk6.set {G : Nat} {vs : List Value} {x : World} (h : Bk6 G vs x) (o : Nat) (ho : o < vs.length) (u : Value) : Bk6 G (vs.set o u) (x.setCell ⟨G, o, none⟩ u) := by
  refine ⟨by simpa [World.setCell] using h.lt, fun j v hj => ?_, fun j => by rw [frozen_set]; exact h.f j⟩
  by_cases e : o = j
  · subst e
    have hv : vs[o]? = some vs[o] := by simp [ho]
    rw [List.getElem?_set_self ho] at hj
    simp only [Option.some.injEq] at hj
    subst hj
    exact cell_set_same (h.c _ _ hv)
  · rw [List.getElem?_set_ne e] at hj
    exact (cell_set_other (.inr e)).trans (h.c j v hj)
theorem Bk6.keep {G : Nat} {vs : List Value} {x y : World} (h : Bk6 G vs x) (hb : y.heap[G]? = x.heap[G]?) (hs : x.heap.size ≤ y.heap.size) : Bk6 G vs y :=
  ⟨Nat.lt_of_lt_of_le h.lt hs, fun j v hj => (World.cell?_of_block hb).trans (h.c j v hj), fun j => (World.frozen?_of_block hb).trans (h.f j)⟩
theorem Bk6.new {x : World} {vs : Array Value} {T : TypeId} : Bk6 x.heap.size vs.toList (x.alloc (.cells vs T)) :=
  ⟨by simp, fun j v hj => (World.cell?_alloc_at _ _ _ _ rfl).trans (by simpa using hj), frozen_of_block (heap_alloc_new x _)⟩
structure SwA (W : World) (s : Slt) (k n b off cap : Nat) (l0 l1 l2 l3 l4 l5 l6 l7 l8 l9 l10 l11 l12 : Bool) (u6 u21 u22 u23 u24 u25 u26 u27 u28 u29 u30 u31 : Value) (x : World) : Prop where
  bel : Below W.heap.size W x
  a0 : l11 = false → x = W
  a1 : l11 = true → l12 = false → u6 = .pointer (some ⟨W.heap.size, 0, none⟩) ∧ Bk6 W.heap.size [.int .i64 0, .int .i64 0, .int .i64 0, .int .i64 0, .slice none 0 0, .slice none 0 0] x
  a2 : l12 = true → l11 = true ∧ u6 = .pointer (some ⟨W.heap.size, 0, none⟩) ∧ Bk6 W.heap.size [.int .i64 s.id, .int .i64 s.has, .int .i64 0, .int .i64 0, .slice none 0 0, .slice none 0 0] x
  p21 : l0 = true → u21 = .slice (some ⟨b, off, none⟩) n cap
  p22 : l1 = true → u22 = .int .i64 (k : Int)
  p23 : l2 = true → u23 = .pointer (some ⟨b, off + k * 3, none⟩)
  p24 : l3 = true → u24 = .pointer (some ⟨b, off + k * 3, none⟩)
  p25 : l4 = true → u25 = .int .i64 s.id
  p26 : l5 = true → u26 = .slice (some ⟨b, off, none⟩) n cap
  p27 : l6 = true → u27 = .int .i64 (k : Int)
  p28 : l7 = true → u28 = .pointer (some ⟨b, off + k * 3, none⟩)
  p29 : l8 = true → u29 = .pointer (some ⟨b, off + k * 3 + 2, none⟩)
  p30 : l9 = true → u30 = .int .i64 s.has
  p31 : l10 = true → u31 = .agg #[.int .i64 s.id, .int .i64 s.has, .int .i64 0, .int .i64 0, .slice none 0 0, .slice none 0 0]
theorem SwA.s11 {W : World} {s : Slt} {k n b off cap : Nat} {l0 l1 l2 l3 l4 l5 l6 l7 l8 l9 l10 l12 : Bool} {u6 u21 u22 u23 u24 u25 u26 u27 u28 u29 u30 u31 : Value} {x : World} (h : SwA W s k n b off cap l0 l1 l2 l3 l4 l5 l6 l7 l8 l9 l10 false l12 u6 u21 u22 u23 u24 u25 u26 u27 u28 u29 u30 u31 x) : SwA W s k n b off cap l0 l1 l2 l3 l4 l5 l6 l7 l8 l9 l10 true l12 (.pointer (some ⟨x.heap.size, 0, none⟩)) u21 u22 u23 u24 u25 u26 u27 u28 u29 u30 u31 (x.alloc (.cells #[.int .i64 0, .int .i64 0, .int .i64 0, .int .i64 0, .slice none 0 0, .slice none 0 0] 35)) := by
  have e := h.a0 rfl
  subst e
  have n12 : l12 = true → False := fun q => by have := (h.a2 q).1; simp at this
  exact { h with
    bel := below_alloc (Below.refl _ _) _
    a0 := fun q => by cases q
    a1 := fun _ _ => ⟨rfl, Bk6.new⟩
    a2 := fun q => (n12 q).elim }
theorem SwA.s12 {W : World} {s : Slt} {k n b off cap : Nat} {l0 l1 l2 l3 l4 l5 l6 l7 l8 l9 l10 : Bool} {u6 u21 u22 u23 u24 u25 u26 u27 u28 u29 u30 u31 : Value} {x : World} (h : SwA W s k n b off cap l0 l1 l2 l3 l4 l5 l6 l7 l8 l9 l10 true false u6 u21 u22 u23 u24 u25 u26 u27 u28 u29 u30 u31 x) : SwA W s k n b off cap l0 l1 l2 l3 l4 l5 l6 l7 l8 l9 l10 true true u6 u21 u22 u23 u24 u25 u26 u27 u28 u29 u30 u31 ((((((x.setCell ⟨W.heap.size, 0, none⟩ (.int .i64 s.id)).setCell ⟨W.heap.size, 1, none⟩ (.int .i64 s.has)).setCell ⟨W.heap.size, 2, none⟩ (.int .i64 0)).setCell ⟨W.heap.size, 3, none⟩ (.int .i64 0)).setCell ⟨W.heap.size, 4, none⟩ (.slice none 0 0)).setCell ⟨W.heap.size, 5, none⟩ (.slice none 0 0)) := by
  obtain ⟨hu, hB⟩ := h.a1 rfl rfl
  exact { h with
    bel := (((((h.bel.setCell (p := ⟨W.heap.size, 0, none⟩) (Nat.le_refl _) _).setCell (p := ⟨W.heap.size, 1, none⟩) (Nat.le_refl _) _).setCell (p := ⟨W.heap.size, 2, none⟩) (Nat.le_refl _) _).setCell (p := ⟨W.heap.size, 3, none⟩) (Nat.le_refl _) _).setCell (p := ⟨W.heap.size, 4, none⟩) (Nat.le_refl _) _).setCell (p := ⟨W.heap.size, 5, none⟩) (Nat.le_refl _) _
    a0 := fun q => by cases q
    a1 := fun _ q => by cases q
    a2 := fun _ => ⟨rfl, hu, (((((hB.set 0 (by simp) _).set 1 (by simp) _).set 2 (by simp) _).set 3 (by simp) _).set 4 (by simp) _).set 5 (by simp) _⟩ }
structure SwB (W : World) (G : Nat) (i0 h0 : Int) (s : Slt) (m n b off cap : Nat) (pa : Option Addr) (pn pc : Nat) (xs : List Value) (l0 l1 l2 l3 l4 l5 l6 l7 l8 l9 l10 l11 : Bool) (u62 u63 u64 u65 u66 u67 u68 u69 u70 u71 u72 : Value) (x : World) : Prop where
  bel : Below G W x
  sW : W.heap.size = G
  sz : G < x.heap.size
  blk : l11 = false → Bk6 G [.int .i64 i0, .int .i64 h0, .int .i64 0, .int .i64 0, .slice none 0 0, .slice pa pn pc] x
  row : l9 = false → x.ownsRow (G + 1) 50 4 (.slice pa pn pc) pn xs
  q70 : l8 = true → l9 = false → ∃ g, u70 = .slice (some ⟨g, 0, none⟩) 1 1 ∧ ∀ (j : Nat) (u : Value), [.int .i64 s.id, .slice none 0 0, .int .i64 0, .int .i64 0][j]? = some u → x.cell? ⟨g, j, none⟩ = some u
  row9 : l9 = true → x.ownsRow (G + 1) 50 4 u71 (pn + 1) (xs ++ [.int .i64 s.id, .slice none 0 0, .int .i64 0, .int .i64 0])
  b11 : l11 = true → Bk6 G [.int .i64 i0, .int .i64 h0, .int .i64 0, .int .i64 0, .slice none 0 0, u71] x
  d9 : l9 = true → l1 = true ∧ l8 = true
  d11 : l11 = true → l1 = true ∧ l9 = true ∧ l10 = true
  p62 : l0 = true → u62 = .pointer (some ⟨G, 5, none⟩)
  p63 : l1 = true → u63 = .slice pa pn pc
  p64 : l2 = true → u64 = .slice (some ⟨b, off, none⟩) n cap
  p65 : l3 = true → u65 = .int .i64 (m : Int)
  p66 : l4 = true → u66 = .pointer (some ⟨b, off + m * 3, none⟩)
  p67 : l5 = true → u67 = .pointer (some ⟨b, off + m * 3, none⟩)
  p68 : l6 = true → u68 = .int .i64 s.id
  p69 : l7 = true → u69 = .agg #[.int .i64 s.id, .slice none 0 0, .int .i64 0, .int .i64 0]
  p72 : l10 = true → u72 = .pointer (some ⟨G, 5, none⟩)
theorem SwB.s8 {W : World} {G : Nat} {i0 h0 : Int} {s : Slt} {m n b off cap : Nat} {pa : Option Addr} {pn pc : Nat} {xs : List Value} {l0 l1 l2 l3 l4 l5 l6 l9 l10 l11 : Bool} {u62 u63 u64 u65 u66 u67 u68 u69 u70 u71 u72 : Value} {x : World} (h : SwB W G i0 h0 s m n b off cap pa pn pc xs l0 l1 l2 l3 l4 l5 l6 true false l9 l10 l11 u62 u63 u64 u65 u66 u67 u68 u69 u70 u71 u72 x) : SwB W G i0 h0 s m n b off cap pa pn pc xs l0 l1 l2 l3 l4 l5 l6 true true l9 l10 l11 u62 u63 u64 u65 u66 u67 u68 u69 (.slice (some ⟨x.heap.size, 0, none⟩) 1 1) u71 u72 (x.alloc (.cells #[.int .i64 s.id, .slice none 0 0, .int .i64 0, .int .i64 0] 50)) := by
  have n9 : l9 = true → False := fun q => by have := (h.d9 q).2; simp at this
  have n11 : l11 = true → False := fun q => n9 (h.d11 q).2.1
  have hb := below_alloc (Below.refl x.heap.size x) (.cells #[.int .i64 s.id, .slice none 0 0, .int .i64 0, .int .i64 0] 50)
  exact { h with
    bel := h.bel.trans (hb.mono (by have := h.sz; omega))
    sz := Nat.lt_of_lt_of_le h.sz hb.size
    blk := fun q => (h.blk q).keep (hb.block _ h.sz) hb.size
    row := fun q => own_keep (h.row q) hb
    q70 := fun _ _ => ⟨_, rfl, fun j u hj => (World.cell?_alloc_at _ _ _ _ rfl).trans (by simpa using hj)⟩
    row9 := fun q => (n9 q).elim
    b11 := fun q => (n11 q).elim
    d9 := fun q => (n9 q).elim }
theorem SwB.s9 {W : World} {G : Nat} {i0 h0 : Int} {s : Slt} {m n b off cap : Nat} {pa : Option Addr} {pn pc : Nat} {xs : List Value} {l0 l2 l3 l4 l5 l6 l7 l10 l11 : Bool} {u62 u63 u64 u65 u66 u67 u68 u69 u70 u71 u72 : Value} {x : World} {y : World} {v : Value} (h : SwB W G i0 h0 s m n b off cap pa pn pc xs l0 true l2 l3 l4 l5 l6 l7 true false l10 l11 u62 u63 u64 u65 u66 u67 u68 u69 u70 u71 u72 x) (ho : y.ownsRow (G + 1) 50 4 v (pn + 1) (xs ++ [.int .i64 s.id, .slice none 0 0, .int .i64 0, .int .i64 0])) (hg : x.grownBy y (Value.ownBlock (.slice pa pn pc))) : SwB W G i0 h0 s m n b off cap pa pn pc xs l0 true l2 l3 l4 l5 l6 l7 true true l10 l11 u62 u63 u64 u65 u66 u67 u68 u69 u70 v u72 y := by
  have n11 : l11 = true → False := fun q => by have := (h.d11 q).2.1; simp at this
  have lo : ∀ j, Value.ownBlock (.slice pa pn pc) = some j → G + 1 ≤ j := fun j hj => ((h.row rfl).lt j hj).1
  have hsz := h.sz
  exact { h with
    bel := h.bel.grown hg (by omega) (fun j hj => by have := lo j hj; omega)
    sz := Nat.lt_of_lt_of_le h.sz hg.size
    blk := fun q => (h.blk q).keep (hg.block _ h.sz (fun q => by have := lo _ q.symm; omega)) hg.size
    row := fun q => by cases q
    q70 := fun _ q => by cases q
    row9 := fun _ => ho
    b11 := fun q => (n11 q).elim
    d9 := fun _ => ⟨rfl, rfl⟩
    d11 := fun q => (n11 q).elim }
theorem SwB.s11 {W : World} {G : Nat} {i0 h0 : Int} {s : Slt} {m n b off cap : Nat} {pa : Option Addr} {pn pc : Nat} {xs : List Value} {l0 l2 l3 l4 l5 l6 l7 l8 : Bool} {u62 u63 u64 u65 u66 u67 u68 u69 u70 u71 u72 : Value} {x : World} (h : SwB W G i0 h0 s m n b off cap pa pn pc xs l0 true l2 l3 l4 l5 l6 l7 l8 true true false u62 u63 u64 u65 u66 u67 u68 u69 u70 u71 u72 x) : SwB W G i0 h0 s m n b off cap pa pn pc xs l0 true l2 l3 l4 l5 l6 l7 l8 true true true u62 u63 u64 u65 u66 u67 u68 u69 u70 u71 u72 (x.setCell ⟨G, 5, none⟩ u71) := by
  have hsz := h.sz
  exact { h with
    bel := h.bel.setCell (p := ⟨G, 5, none⟩) (Nat.le_refl _) _
    sz := by simpa [World.setCell] using h.sz
    blk := fun q => by cases q
    row := fun q => by cases q
    q70 := fun _ q => by cases q
    row9 := fun _ => own_put (h.row9 rfl) (by omega) _
    b11 := fun _ => (h.blk rfl).set 5 (by simp) _
    d11 := fun _ => ⟨rfl, rfl, rfl⟩ }
set_option maxRecDepth 100000 in
set_option maxHeartbeats 4000000 in
theorem specWorldNew_any (a : Option Addr) (l : List Slt) (cap : Nat) (w : World) (hl : l.length ≤ 1048576) (hcap : l.length ≤ cap) (h : SlotAt w a l) :
    Calls Try.prog 7 #[.slice a l.length cap] w fun e w' => NewW l w e w' := by
  have HC : Hid _ := hide h
  clear h
  obtain ⟨i0, hi0, hz0, hz1, hz2⟩ := info_parts infoN
  have huN := huN
  obtain ⟨j0, hj0, hy0, hy1, hy2⟩ := info_parts infoP
  have huP := huP
  have HR0 : Hid _ := hide (res3_new w (.int .i64 0) (.slice none 0 0) (.slice none 0 0) 29)
  have HB0 : Hid (Below w.heap.size w (w.alloc (.cells #[.int .i64 0, .slice none 0 0, .slice none 0 0] 29))) := hide (below_alloc (Below.refl _ _) _)
  go_enter Try.func7, Try.ntmps7
  go_wp2_with fail
  refine (specRightsOk_any a l cap _ hl hcap (HC.out.below HB0.out)).mono ?_
  rintro e w1 ⟨rfl, hb1⟩
  have HR1 : Hid _ := hide (HR0.out.keep (hb1.block _ (by simp)) hb1.size)
  have HB1 : Hid _ := hide (below_trans HB0.out hb1)
  clear hb1 HR0 HB0
  cases hr : rightsB l
  · obtain ⟨⟨t0, r0⟩, ⟨t1, r1⟩, ⟨t2, r2⟩⟩ := And.intro (HR1.out.c 0 (by omega)) (And.intro (HR1.out.c 1 (by omega)) (HR1.out.c 2 (by omega)))
    have f0 := HR1.out.f 0
    have f1 := HR1.out.f 1
    have f2 := HR1.out.f 2
    have HE : Hid (NewW l w (.returned (.tuple #[.agg #[.int .i64 0, .slice none 0 0, .slice none 0 0], .bool false])) (((w1.setCell ⟨w.heap.size, 0, none⟩ (.int .i64 0)).setCell ⟨w.heap.size, 1, none⟩ (.slice none 0 0)).setCell ⟨w.heap.size, 2, none⟩ (.slice none 0 0))) := hide ⟨((HB1.out.setCell (p := ⟨w.heap.size, 0, none⟩) (Nat.le_refl _) _).setCell (p := ⟨w.heap.size, 1, none⟩) (Nat.le_refl _) _).setCell (p := ⟨w.heap.size, 2, none⟩) (Nat.le_refl _) _, .slice none 0 0, [], 0, w.heap.size, Nat.le_refl _, by rw [hr], fun q => (by rw [hr] at q; cases q), fun _ => ⟨rfl, rfl, rfl⟩⟩
    go_wp2
    exact bodyPost_ret (v := .tuple #[.agg #[.int .i64 0, .slice none 0 0, .slice none 0 0], .bool false]) (by simp [results, Try.results7, go_sem, r0, r1, r2]) rfl HE.out
  · have HR : Hid _ := hide hr
    have hsm := rightsB_small hr
    have h8 := hsm.1
    clear hr
    go_wp2_with fail
    refine (l4Sum_any a l cap w1 hsm (HC.out.below HB1.out)).mono ?_
    rintro e w2 ⟨rfl, hw2⟩
    subst hw2
    have HR2 := HR1
    have HB2 := HB1
    clear HR1 HB1
    generalize hst : sumL l = st at *
    have HST : Hid (sumL l = st) := hide hst
    clear hst
    have HW3 : Hid (Wn w w2.heap.size st l 0 (.slice none 0 0) [] (w2.alloc (.cells #[.int .i64 st, .slice none 0 0, .slice none 0 0] 29))) := hide (by
      have b := below_alloc (Below.refl w2.heap.size w2) (.cells #[.int .i64 st, .slice none 0 0, .slice none 0 0] 29)
      exact ⟨below_trans HB2.out b, HR2.out.keep (b.block _ HR2.out.lt) b.size, HR2.out.lt, res3_new _ _ _ _ _, World.cell?_alloc_at _ _ _ _ rfl, World.cell?_alloc_at _ _ _ _ rfl, World.cell?_alloc_at _ _ _ _ rfl, Fst.nil⟩)
    obtain ⟨K, hK⟩ : ∃ K, K = w2.heap.size := ⟨_, rfl⟩
    rw [← hK] at HW3
    go_wp2
    rw [← hK]
    clear hK HR2 HB2
    go_loopw [5] (fun i wr => ∃ (k : Nat) (v : Value) (L : List Nd), k ≤ l.length ∧ i = .int .i64 (k : Int) ∧ Hid (Wn w K st l k v L wr)) (fun i wr => l.length - (intOf i).toNat)
    case atStart => exact ⟨0, _, [], by omega, rfl, HW3⟩
    case round =>
      obtain ⟨k, v, L, hk, rfl, HW⟩ := hrel
      clear HW3
      obtain ⟨va, vc, rfl⟩ := row_shape HW.out.fst.row
      by_cases hlt : k < l.length
      · have hlt' : (k : Int) < (l.length : Int) := by omega
        obtain ⟨b, off, rfl, hb, c0, c1, c2, hi⟩ := (HC.out.below HW.out.old) k hlt
        clear c0 c1 c2
        go_wp2_with fail
        rename_i K0 hK0
        have HWd : Hid _ := hide (HW.out.below ((Below.refl _ _).drew))
        clear HW
        obtain ⟨W, HWW⟩ : ∃ W, Hid (wr.drew = W) := ⟨_, hide rfl⟩
        rw [HWW.out] at HWd
        refine wp_region_inv (by kernel_rfl) (fun Lx act x => ∃ l0 l1 l2 l3 l4 l5 l6 l7 l8 l9 l10 l11 l12 : Bool, ∃ u6 u21 u22 u23 u24 u25 u26 u27 u28 u29 u30 u31 : Value, Lx = #[l0, l1, l2, l3, l4, l5, l6, l7, l8, l9, l10, l11, l12] ∧ act = { tmps := #[Value.slice (some { block := b, off := off }) l.length cap, undef, Value.pointer (some { block := w.heap.size, off := 0 }), Value.bool false, Value.pointer (some { block := K, off := 0 }), Value.int IntKind.i64 ↑k, u6, u7, Value.slice (some { block := b, off := off }) l.length cap, Value.bool true, Value.bool false, undef, Value.slice (some { block := b, off := off }) l.length cap, Value.int IntKind.i64 st, Value.agg #[Value.int IntKind.i64 st, Value.slice none 0 0, Value.slice none 0 0], Value.int IntKind.i64 ↑k, Value.slice (some { block := b, off := off }) l.length cap, Value.int IntKind.i64 ↑l.length, Value.bool true, u19, u20, u21, u22, u23, u24, u25, u26, u27, u28, u29, u30, u31, u32, u33, u34, u35, u36, u37, u38, u39, u40, u41, u42, u43, u44, u45, u46, u47, u48, u49, u50, u51, u52, u53, u54, u55, u56, u57, u58, u59, u60, u61, u62, u63, u64, u65, u66, u67, u68, u69, u70, u71, u72, u73, u74, u75, u76, u77, u78, undef], defers := [] } ∧ SwA W l[k] k l.length b off cap l0 l1 l2 l3 l4 l5 l6 l7 l8 l9 l10 l11 l12 u6 u21 u22 u23 u24 u25 u26 u27 u28 u29 u30 u31 x) ?_ ?_ ?_
        rotate_left 2
        · exact ⟨false, false, false, false, false, false, false, false, false, false, false, false, false, (u6), (u21), (u22), (u23), (u24), (u25), (u26), (u27), (u28), (u29), (u30), (u31), rfl, rfl, (by rw [HWW.out]; exact ⟨Below.refl _ _, fun _ => rfl, fun q => (by cases q), fun q => (by cases q), fun q => (by cases q), fun q => (by cases q), fun q => (by cases q), fun q => (by cases q), fun q => (by cases q), fun q => (by cases q), fun q => (by cases q), fun q => (by cases q), fun q => (by cases q), fun q => (by cases q), fun q => (by cases q)⟩)⟩
        · rintro Lx act x i ⟨l0, l1, l2, l3, l4, l5, l6, l7, l8, l9, l10, l11, l12, u6, u21, u22, u23, u24, u25, u26, u27, u28, u29, u30, u31, rfl, rfl, h⟩ hix KK hK
          have hi15 : i < 13 := by
            obtain ⟨_, o, ho, _⟩ := mem_ready.1 hix
            exact (Array.getElem?_eq_some_iff.1 ho).1
          have hlx := (mem_ready.1 hix).1
          obtain rfl | rfl | rfl | rfl | rfl | rfl | rfl | rfl | rfl | rfl | rfl | rfl | rfl := (by omega : i = 0 ∨ i = 1 ∨ i = 2 ∨ i = 3 ∨ i = 4 ∨ i = 5 ∨ i = 6 ∨ i = 7 ∨ i = 8 ∨ i = 9 ∨ i = 10 ∨ i = 11 ∨ i = 12)
          · have e : l0 = false := hlx
            subst e
            refine wpOp_run (v := .slice (some ⟨b, off, none⟩) l.length cap) (w' := x) (by rfl) (by rfl) ?_ (hK _ _ ⟨true, l1, l2, l3, l4, l5, l6, l7, l8, l9, l10, l11, l12, u6, (.slice (some ⟨b, off, none⟩) l.length cap), u22, u23, u24, u25, u26, u27, u28, u29, u30, u31, rfl, rfl, { h with p21 := fun _ => rfl }⟩)
            go_simp
          · have e : l1 = false := hlx
            subst e
            refine wpOp_run (v := .int .i64 (k : Int)) (w' := x) (by rfl) (by rfl) ?_ (hK _ _ ⟨l0, true, l2, l3, l4, l5, l6, l7, l8, l9, l10, l11, l12, u6, u21, (.int .i64 (k : Int)), u23, u24, u25, u26, u27, u28, u29, u30, u31, rfl, rfl, { h with p22 := fun _ => rfl }⟩)
            go_simp
          · have e : l2 = false := hlx
            subst e
            have d0 : l0 = true := ready_on hix 0 (by kernel_rfl)
            subst d0
            have d1 : l1 = true := ready_on hix 1 (by kernel_rfl)
            subst d1
            refine wpOp_run (v := .pointer (some ⟨b, off + k * 3, none⟩)) (w' := x) (by rfl) (by rfl) ?_ (hK _ _ ⟨true, true, true, l3, l4, l5, l6, l7, l8, l9, l10, l11, l12, u6, u21, u22, (.pointer (some ⟨b, off + k * 3, none⟩)), u24, u25, u26, u27, u28, u29, u30, u31, rfl, rfl, { h with p23 := fun _ => rfl }⟩)
            rw [h.p21 rfl, h.p22 rfl]
            go_simp
          · have e : l3 = false := hlx
            subst e
            have d2 : l2 = true := ready_on hix 2 (by kernel_rfl)
            subst d2
            refine wpOp_run (v := .pointer (some ⟨b, off + k * 3, none⟩)) (w' := x) (by rfl) (by rfl) ?_ (hK _ _ ⟨l0, l1, true, true, l4, l5, l6, l7, l8, l9, l10, l11, l12, u6, u21, u22, u23, (.pointer (some ⟨b, off + k * 3, none⟩)), u25, u26, u27, u28, u29, u30, u31, rfl, rfl, { h with p24 := fun _ => rfl }⟩)
            rw [h.p23 rfl]
            go_simp
          · have e : l4 = false := hlx
            subst e
            have d3 : l3 = true := ready_on hix 3 (by kernel_rfl)
            subst d3
            obtain ⟨b2, off2, e2, hb2, c0, c1, c2, _⟩ := (HC.out.below (HWd.out.old.trans (h.bel.mono HWd.out.old.size))) k hlt
            injection e2 with e2
            injection e2 with e3 e4
            subst e3 e4
            refine wpOp_run (v := .int .i64 l[k].id) (w' := x) (by rfl) (by rfl) ?_ (hK _ _ ⟨l0, l1, l2, true, true, l5, l6, l7, l8, l9, l10, l11, l12, u6, u21, u22, u23, u24, (.int .i64 l[k].id), u26, u27, u28, u29, u30, u31, rfl, rfl, { h with p25 := fun _ => rfl }⟩)
            rw [h.p24 rfl]
            go_simp
          · have e : l5 = false := hlx
            subst e
            refine wpOp_run (v := .slice (some ⟨b, off, none⟩) l.length cap) (w' := x) (by rfl) (by rfl) ?_ (hK _ _ ⟨l0, l1, l2, l3, l4, true, l6, l7, l8, l9, l10, l11, l12, u6, u21, u22, u23, u24, u25, (.slice (some ⟨b, off, none⟩) l.length cap), u27, u28, u29, u30, u31, rfl, rfl, { h with p26 := fun _ => rfl }⟩)
            go_simp
          · have e : l6 = false := hlx
            subst e
            refine wpOp_run (v := .int .i64 (k : Int)) (w' := x) (by rfl) (by rfl) ?_ (hK _ _ ⟨l0, l1, l2, l3, l4, l5, true, l7, l8, l9, l10, l11, l12, u6, u21, u22, u23, u24, u25, u26, (.int .i64 (k : Int)), u28, u29, u30, u31, rfl, rfl, { h with p27 := fun _ => rfl }⟩)
            go_simp
          · have e : l7 = false := hlx
            subst e
            have d5 : l5 = true := ready_on hix 5 (by kernel_rfl)
            subst d5
            have d6 : l6 = true := ready_on hix 6 (by kernel_rfl)
            subst d6
            refine wpOp_run (v := .pointer (some ⟨b, off + k * 3, none⟩)) (w' := x) (by rfl) (by rfl) ?_ (hK _ _ ⟨l0, l1, l2, l3, l4, true, true, true, l8, l9, l10, l11, l12, u6, u21, u22, u23, u24, u25, u26, u27, (.pointer (some ⟨b, off + k * 3, none⟩)), u29, u30, u31, rfl, rfl, { h with p28 := fun _ => rfl }⟩)
            rw [h.p26 rfl, h.p27 rfl]
            go_simp
          · have e : l8 = false := hlx
            subst e
            have d7 : l7 = true := ready_on hix 7 (by kernel_rfl)
            subst d7
            refine wpOp_run (v := .pointer (some ⟨b, off + k * 3 + 2, none⟩)) (w' := x) (by rfl) (by rfl) ?_ (hK _ _ ⟨l0, l1, l2, l3, l4, l5, l6, true, true, l9, l10, l11, l12, u6, u21, u22, u23, u24, u25, u26, u27, u28, (.pointer (some ⟨b, off + k * 3 + 2, none⟩)), u30, u31, rfl, rfl, { h with p29 := fun _ => rfl }⟩)
            rw [h.p28 rfl]
            go_simp
          · have e : l9 = false := hlx
            subst e
            have d8 : l8 = true := ready_on hix 8 (by kernel_rfl)
            subst d8
            obtain ⟨b2, off2, e2, hb2, c0, c1, c2, _⟩ := (HC.out.below (HWd.out.old.trans (h.bel.mono HWd.out.old.size))) k hlt
            injection e2 with e2
            injection e2 with e3 e4
            subst e3 e4
            refine wpOp_run (v := .int .i64 l[k].has) (w' := x) (by rfl) (by rfl) ?_ (hK _ _ ⟨l0, l1, l2, l3, l4, l5, l6, l7, true, true, l10, l11, l12, u6, u21, u22, u23, u24, u25, u26, u27, u28, u29, (.int .i64 l[k].has), u31, rfl, rfl, { h with p30 := fun _ => rfl }⟩)
            rw [h.p29 rfl]
            go_simp
          · have e : l10 = false := hlx
            subst e
            have d4 : l4 = true := ready_on hix 4 (by kernel_rfl)
            subst d4
            have d9 : l9 = true := ready_on hix 9 (by kernel_rfl)
            subst d9
            refine wpOp_run (v := .agg #[.int .i64 l[k].id, .int .i64 l[k].has, .int .i64 0, .int .i64 0, .slice none 0 0, .slice none 0 0]) (w' := x) (by rfl) (by rfl) ?_ (hK _ _ ⟨l0, l1, l2, l3, true, l5, l6, l7, l8, true, true, l11, l12, u6, u21, u22, u23, u24, u25, u26, u27, u28, u29, u30, (.agg #[.int .i64 l[k].id, .int .i64 l[k].has, .int .i64 0, .int .i64 0, .slice none 0 0, .slice none 0 0]), rfl, rfl, { h with p31 := fun _ => rfl }⟩)
            rw [h.p25 rfl, h.p30 rfl]
            go_simp
          · have e : l11 = false := hlx
            subst e
            refine wpOp_run (v := .pointer (some ⟨x.heap.size, 0, none⟩)) (w' := x.alloc (.cells #[.int .i64 0, .int .i64 0, .int .i64 0, .int .i64 0, .slice none 0 0, .slice none 0 0] 35)) (by rfl) (by rfl) ?_ (hK _ _ ⟨l0, l1, l2, l3, l4, l5, l6, l7, l8, l9, l10, true, l12, (.pointer (some ⟨x.heap.size, 0, none⟩)), u21, u22, u23, u24, u25, u26, u27, u28, u29, u30, u31, rfl, rfl, h.s11⟩)
            go_simp
          · have e : l12 = false := hlx
            subst e
            have d0 : l0 = true := ready_on hix 0 (by kernel_rfl)
            subst d0
            have d1 : l1 = true := ready_on hix 1 (by kernel_rfl)
            subst d1
            have d2 : l2 = true := ready_on hix 2 (by kernel_rfl)
            subst d2
            have d3 : l3 = true := ready_on hix 3 (by kernel_rfl)
            subst d3
            have d4 : l4 = true := ready_on hix 4 (by kernel_rfl)
            subst d4
            have d5 : l5 = true := ready_on hix 5 (by kernel_rfl)
            subst d5
            have d6 : l6 = true := ready_on hix 6 (by kernel_rfl)
            subst d6
            have d7 : l7 = true := ready_on hix 7 (by kernel_rfl)
            subst d7
            have d8 : l8 = true := ready_on hix 8 (by kernel_rfl)
            subst d8
            have d9 : l9 = true := ready_on hix 9 (by kernel_rfl)
            subst d9
            have d10 : l10 = true := ready_on hix 10 (by kernel_rfl)
            subst d10
            have d11 : l11 = true := ready_on hix 11 (by kernel_rfl)
            subst d11
            obtain ⟨hu, hB⟩ := h.a1 rfl rfl
            have r0 := hB.c 0 _ rfl
            have r1 := hB.c 1 _ rfl
            have r2 := hB.c 2 _ rfl
            have r3 := hB.c 3 _ rfl
            have r4 := hB.c 4 _ rfl
            have r5 := hB.c 5 _ rfl
            have f0 := hB.f 0
            have f1 := hB.f 1
            have f2 := hB.f 2
            have f3 := hB.f 3
            have f4 := hB.f 4
            have f5 := hB.f 5
            refine wpOp_skip (w' := ((((((x.setCell ⟨W.heap.size, 0, none⟩ (.int .i64 l[k].id)).setCell ⟨W.heap.size, 1, none⟩ (.int .i64 l[k].has)).setCell ⟨W.heap.size, 2, none⟩ (.int .i64 0)).setCell ⟨W.heap.size, 3, none⟩ (.int .i64 0)).setCell ⟨W.heap.size, 4, none⟩ (.slice none 0 0)).setCell ⟨W.heap.size, 5, none⟩ (.slice none 0 0))) (by rfl) (by rfl) ?_ (hK _ _ ⟨true, true, true, true, true, true, true, true, true, true, true, true, true, u6, u21, u22, u23, u24, u25, u26, u27, u28, u29, u30, u31, rfl, rfl, h.s12⟩)
            rw [hu, h.p31 rfl]
            go_simp
        · rintro Lx act x ⟨l0, l1, l2, l3, l4, l5, l6, l7, l8, l9, l10, l11, l12, u6, u21, u22, u23, u24, u25, u26, u27, u28, u29, u30, u31, rfl, rfl, h⟩ hr
          have hall := ready_all hr rfl (by decide)
          have t0 : l0 = true := hall 0 (by decide)
          have t1 : l1 = true := hall 1 (by decide)
          have t2 : l2 = true := hall 2 (by decide)
          have t3 : l3 = true := hall 3 (by decide)
          have t4 : l4 = true := hall 4 (by decide)
          have t5 : l5 = true := hall 5 (by decide)
          have t6 : l6 = true := hall 6 (by decide)
          have t7 : l7 = true := hall 7 (by decide)
          have t8 : l8 = true := hall 8 (by decide)
          have t9 : l9 = true := hall 9 (by decide)
          have t10 : l10 = true := hall 10 (by decide)
          have t11 : l11 = true := hall 11 (by decide)
          have t12 : l12 = true := hall 12 (by decide)
          subst t0 t1 t2 t3 t4 t5 t6 t7 t8 t9 t10 t11 t12
          clear hall hr
          obtain ⟨_, hu6, hB6⟩ := h.a2 rfl
          have HB6 : Hid _ := hide hB6
          have HL6 : Hid _ := hide h.bel
          rw [hu6, h.p21 rfl, h.p22 rfl, h.p23 rfl, h.p24 rfl, h.p25 rfl, h.p26 rfl, h.p27 rfl, h.p28 rfl, h.p29 rfl, h.p30 rfl, h.p31 rfl]
          clear h hB6 hu6
          obtain ⟨G, HG⟩ : ∃ G, Hid (W.heap.size = G) := ⟨_, hide rfl⟩
          rw [HG.out] at HB6 HL6
          rw [HG.out]
          have HP6 : Hid (x.ownsRow (G + 1) 50 4 (.slice none 0 0) (peersL (l.take 0) l[k]).length ((peersL (l.take 0) l[k]).flatMap prCells)) := hide ⟨by simp [peersL], .inl ⟨rfl, by simp [peersL]⟩⟩
          refine hK0 _ _ ?_
          clear hK0 HWW
          go_wp2
          go_loopw [7] (fun i wr => ∃ (m : Nat) (pv : Value), m ≤ l.length ∧ i = .int .i64 (m : Int) ∧ Hid (Below G W wr) ∧ Hid (Bk6 G [.int .i64 l[k].id, .int .i64 l[k].has, .int .i64 0, .int .i64 0, .slice none 0 0, pv] wr) ∧ Hid (wr.ownsRow (G + 1) 50 4 pv (peersL (l.take m) l[k]).length ((peersL (l.take m) l[k]).flatMap prCells))) (fun i wr => l.length - (intOf i).toNat)
          case atStart => exact ⟨0, _, by omega, rfl, HL6, HB6, HP6⟩
          case round =>
            obtain ⟨m, pv, hm, rfl, HL, HB, HP⟩ := hrel
            clear HL6 HB6 HP6
            obtain ⟨pa, pc, rfl⟩ := row_shape HP.out
            have HGW : Hid (w.heap.size ≤ G) := hide (by rw [← HG.out]; exact HWd.out.old.size)
            have hbe : Below w.heap.size w wr := HWd.out.old.trans (HL.out.mono HGW.out)
            by_cases hmt : m < l.length
            · have hmt' : (m : Int) < (l.length : Int) := by omega
              obtain ⟨b2, off2, e2, hb2, c0, c1, c2, _⟩ := (HC.out.below hbe) k hlt
              injection e2 with e2
              injection e2 with e3 e4
              subst e3 e4
              obtain ⟨b2, off2, e2, hb3, d0, d1, d2, _⟩ := (HC.out.below hbe) m hmt
              injection e2 with e2
              injection e2 with e3 e4
              subst e3 e4
              clear hbe
              have HNX : Hid _ := hide (peersL_next l l[k] m hmt)
              cases hb1 : (l[m].id == l[k].up)
              · cases hb2 : (l[m].up == l[k].id)
                · have HN : Hid (nbB l[k] l[m] = false) := hide (by
                    simp only [beq_eq_false_iff_ne, ne_eq] at hb1 hb2
                    have hq1 : ¬ l[k].up = l[m].id := fun e => hb1 e.symm
                    simp [nbB, hb2, hq1])
                  go_wp2_with fail
                  go_quiet (fail)
                  go_wp2
                  have hnx := HNX.out
                  rw [HN.out] at hnx
                  simp only [Bool.false_eq_true, if_false, List.append_nil] at hnx
                  exact ⟨⟨m + 1, _, by omega, by go_num, hide (below_drewN HL.out _), hide (HB.out.keep rfl (Nat.le_refl _)), hide (by rw [hnx]; exact own_keep HP.out (below_drewN (Below.refl _ _) _))⟩, by simp [intOf]; omega⟩
                · have HN : Hid (nbB l[k] l[m] = true) := hide (by
                    simp only [beq_iff_eq] at hb2
                    simp [nbB, hb2])
                  go_wp2_with fail
                  go_quiet (fail)
                  go_wp2_with fail
                  clear hb1 hb2
                  obtain ⟨Y, HY⟩ : ∃ Y, Hid ((wr.drewN nq).drew = Y) := ⟨_, hide rfl⟩
                  have HBY : Hid (Below wr.heap.size wr Y) := hide (by rw [← HY.out]; exact (below_drewN (Below.refl _ _) _).drew)
                  have HL3 : Hid _ := hide (HL.out.trans (HBY.out.mono (Nat.le_of_lt HB.out.lt)))
                  have HB3 : Hid _ := hide (HB.out.keep (HBY.out.block _ HB.out.lt) HBY.out.size)
                  have HP3 : Hid _ := hide (own_keep HP.out HBY.out)
                  refine wp_region_inv (by kernel_rfl) (fun Lx act x => ∃ l0 l1 l2 l3 l4 l5 l6 l7 l8 l9 l10 l11 : Bool, ∃ u62 u63 u64 u65 u66 u67 u68 u69 u70 u71 u72 : Value, Lx = #[l0, l1, l2, l3, l4, l5, l6, l7, l8, l9, l10, l11] ∧ act = { tmps := #[Value.slice (some { block := b, off := off }) l.length cap, undef, Value.pointer (some { block := w.heap.size, off := 0 }), Value.bool false, Value.pointer (some { block := K, off := 0 }), Value.int IntKind.i64 ↑k, Value.pointer (some { block := G, off := 0 }), Value.int IntKind.i64 ↑m, Value.slice (some { block := b, off := off }) l.length cap, Value.bool true, Value.bool false, undef, Value.slice (some { block := b, off := off }) l.length cap, Value.int IntKind.i64 st, Value.agg #[Value.int IntKind.i64 st, Value.slice none 0 0, Value.slice none 0 0], Value.int IntKind.i64 ↑k, Value.slice (some { block := b, off := off }) l.length cap, Value.int IntKind.i64 ↑l.length, Value.bool true, u19, u20, Value.slice (some { block := b, off := off }) l.length cap, Value.int IntKind.i64 ↑k, Value.pointer (some { block := b, off := off + k * 3 }), Value.pointer (some { block := b, off := off + k * 3 }), Value.int IntKind.i64 l[k].id, Value.slice (some { block := b, off := off }) l.length cap, Value.int IntKind.i64 ↑k, Value.pointer (some { block := b, off := off + k * 3 }), Value.pointer (some { block := b, off := off + k * 3 + 2 }), Value.int IntKind.i64 l[k].has, Value.agg #[Value.int IntKind.i64 l[k].id, Value.int IntKind.i64 l[k].has, Value.int IntKind.i64 0, Value.int IntKind.i64 0, Value.slice none 0 0, Value.slice none 0 0], Value.int IntKind.i64 ↑m, Value.slice (some { block := b, off := off }) l.length cap, Value.int IntKind.i64 ↑l.length, Value.bool true, u36, u37, Value.slice (some { block := b, off := off }) l.length cap, Value.int IntKind.i64 ↑m, Value.pointer (some { block := b, off := off + m * 3 }), Value.pointer (some { block := b, off := off + m * 3 }), Value.int IntKind.i64 l[m].id, Value.slice (some { block := b, off := off }) l.length cap, Value.int IntKind.i64 ↑k, Value.pointer (some { block := b, off := off + k * 3 }), Value.pointer (some { block := b, off := off + k * 3 + 1 }), Value.int IntKind.i64 l[k].up, Value.bool false, Value.bool false, Value.slice (some { block := b, off := off }) l.length cap, Value.int IntKind.i64 ↑m, Value.pointer (some { block := b, off := off + m * 3 }), Value.pointer (some { block := b, off := off + m * 3 + 1 }), Value.int IntKind.i64 l[m].up, Value.slice (some { block := b, off := off }) l.length cap, Value.int IntKind.i64 ↑k, Value.pointer (some { block := b, off := off + k * 3 }), Value.pointer (some { block := b, off := off + k * 3 }), Value.int IntKind.i64 l[k].id, Value.bool true, Value.bool true, u62, u63, u64, u65, u66, u67, u68, u69, u70, u71, u72, u73, u74, u75, u76, u77, u78, undef], defers := [] } ∧ SwB W G l[k].id l[k].has l[m] m l.length b off cap pa (peersL (l.take m) l[k]).length pc ((peersL (l.take m) l[k]).flatMap prCells) l0 l1 l2 l3 l4 l5 l6 l7 l8 l9 l10 l11 u62 u63 u64 u65 u66 u67 u68 u69 u70 u71 u72 x) ?_ ?_ ?_
                  rotate_left 2
                  · exact ⟨false, false, false, false, false, false, false, false, false, false, false, false, (u62), (u63), (u64), (u65), (u66), (u67), (u68), (u69), (u70), (u71), (u72), rfl, rfl, (by rw [HY.out]; exact ⟨HL3.out, HG.out, HB3.out.lt, fun _ => HB3.out, fun _ => HP3.out, fun q => (by cases q), fun q => (by cases q), fun q => (by cases q), fun q => (by cases q), fun q => (by cases q), fun q => (by cases q), fun q => (by cases q), fun q => (by cases q), fun q => (by cases q), fun q => (by cases q), fun q => (by cases q), fun q => (by cases q), fun q => (by cases q), fun q => (by cases q)⟩)⟩
                  · rintro Lx act x i ⟨l0, l1, l2, l3, l4, l5, l6, l7, l8, l9, l10, l11, u62, u63, u64, u65, u66, u67, u68, u69, u70, u71, u72, rfl, rfl, h⟩ hix KK hK
                    have hi15 : i < 12 := by
                      obtain ⟨_, o, ho, _⟩ := mem_ready.1 hix
                      exact (Array.getElem?_eq_some_iff.1 ho).1
                    have hlx := (mem_ready.1 hix).1
                    obtain rfl | rfl | rfl | rfl | rfl | rfl | rfl | rfl | rfl | rfl | rfl | rfl := (by omega : i = 0 ∨ i = 1 ∨ i = 2 ∨ i = 3 ∨ i = 4 ∨ i = 5 ∨ i = 6 ∨ i = 7 ∨ i = 8 ∨ i = 9 ∨ i = 10 ∨ i = 11)
                    · have e : l0 = false := hlx
                      subst e
                      refine wpOp_run (v := .pointer (some ⟨G, 5, none⟩)) (w' := x) (by rfl) (by rfl) ?_ (hK _ _ ⟨true, l1, l2, l3, l4, l5, l6, l7, l8, l9, l10, l11, (.pointer (some ⟨G, 5, none⟩)), u63, u64, u65, u66, u67, u68, u69, u70, u71, u72, rfl, rfl, { h with p62 := fun _ => rfl }⟩)
                      go_simp
                    · have e : l1 = false := hlx
                      subst e
                      have d0 : l0 = true := ready_on hix 0 (by kernel_rfl)
                      subst d0
                      have e11 : l11 = false := Bool.eq_false_iff.2 (fun q => by have := (h.d11 q).1; simp at this)
                      have c5 := (h.blk e11).c 5 _ rfl
                      refine wpOp_run (v := .slice pa (peersL (l.take m) l[k]).length pc) (w' := x) (by rfl) (by rfl) ?_ (hK _ _ ⟨true, true, l2, l3, l4, l5, l6, l7, l8, l9, l10, l11, u62, (.slice pa (peersL (l.take m) l[k]).length pc), u64, u65, u66, u67, u68, u69, u70, u71, u72, rfl, rfl, { h with p63 := fun _ => rfl, d9 := fun q => absurd (h.d9 q).1 (by simp), d11 := fun q => absurd (h.d11 q).1 (by simp) }⟩)
                      rw [h.p62 rfl]
                      go_simp
                    · have e : l2 = false := hlx
                      subst e
                      refine wpOp_run (v := .slice (some ⟨b, off, none⟩) l.length cap) (w' := x) (by rfl) (by rfl) ?_ (hK _ _ ⟨l0, l1, true, l3, l4, l5, l6, l7, l8, l9, l10, l11, u62, u63, (.slice (some ⟨b, off, none⟩) l.length cap), u65, u66, u67, u68, u69, u70, u71, u72, rfl, rfl, { h with p64 := fun _ => rfl }⟩)
                      go_simp
                    · have e : l3 = false := hlx
                      subst e
                      refine wpOp_run (v := .int .i64 (m : Int)) (w' := x) (by rfl) (by rfl) ?_ (hK _ _ ⟨l0, l1, l2, true, l4, l5, l6, l7, l8, l9, l10, l11, u62, u63, u64, (.int .i64 (m : Int)), u66, u67, u68, u69, u70, u71, u72, rfl, rfl, { h with p65 := fun _ => rfl }⟩)
                      go_simp
                    · have e : l4 = false := hlx
                      subst e
                      have d2 : l2 = true := ready_on hix 2 (by kernel_rfl)
                      subst d2
                      have d3 : l3 = true := ready_on hix 3 (by kernel_rfl)
                      subst d3
                      refine wpOp_run (v := .pointer (some ⟨b, off + m * 3, none⟩)) (w' := x) (by rfl) (by rfl) ?_ (hK _ _ ⟨l0, l1, true, true, true, l5, l6, l7, l8, l9, l10, l11, u62, u63, u64, u65, (.pointer (some ⟨b, off + m * 3, none⟩)), u67, u68, u69, u70, u71, u72, rfl, rfl, { h with p66 := fun _ => rfl }⟩)
                      rw [h.p64 rfl, h.p65 rfl]
                      go_simp
                    · have e : l5 = false := hlx
                      subst e
                      have d4 : l4 = true := ready_on hix 4 (by kernel_rfl)
                      subst d4
                      refine wpOp_run (v := .pointer (some ⟨b, off + m * 3, none⟩)) (w' := x) (by rfl) (by rfl) ?_ (hK _ _ ⟨l0, l1, l2, l3, true, true, l6, l7, l8, l9, l10, l11, u62, u63, u64, u65, u66, (.pointer (some ⟨b, off + m * 3, none⟩)), u68, u69, u70, u71, u72, rfl, rfl, { h with p67 := fun _ => rfl }⟩)
                      rw [h.p66 rfl]
                      go_simp
                    · have e : l6 = false := hlx
                      subst e
                      have d5 : l5 = true := ready_on hix 5 (by kernel_rfl)
                      subst d5
                      obtain ⟨b2, off2, e2, hb2, c0, c1, c2, _⟩ := (HC.out.below (HWd.out.old.trans (h.bel.mono HGW.out))) m hmt
                      injection e2 with e2
                      injection e2 with e3 e4
                      subst e3 e4
                      refine wpOp_run (v := .int .i64 l[m].id) (w' := x) (by rfl) (by rfl) ?_ (hK _ _ ⟨l0, l1, l2, l3, l4, true, true, l7, l8, l9, l10, l11, u62, u63, u64, u65, u66, u67, (.int .i64 l[m].id), u69, u70, u71, u72, rfl, rfl, { h with p68 := fun _ => rfl }⟩)
                      rw [h.p67 rfl]
                      go_simp
                    · have e : l7 = false := hlx
                      subst e
                      have d6 : l6 = true := ready_on hix 6 (by kernel_rfl)
                      subst d6
                      refine wpOp_run (v := .agg #[.int .i64 l[m].id, .slice none 0 0, .int .i64 0, .int .i64 0]) (w' := x) (by rfl) (by rfl) ?_ (hK _ _ ⟨l0, l1, l2, l3, l4, l5, true, true, l8, l9, l10, l11, u62, u63, u64, u65, u66, u67, u68, (.agg #[.int .i64 l[m].id, .slice none 0 0, .int .i64 0, .int .i64 0]), u70, u71, u72, rfl, rfl, { h with p69 := fun _ => rfl }⟩)
                      rw [h.p68 rfl]
                      go_simp
                    · have e : l8 = false := hlx
                      subst e
                      have d7 : l7 = true := ready_on hix 7 (by kernel_rfl)
                      subst d7
                      refine wpOp_run (v := .slice (some ⟨x.heap.size, 0, none⟩) 1 1) (w' := x.alloc (.cells #[.int .i64 l[m].id, .slice none 0 0, .int .i64 0, .int .i64 0] 50)) (by rfl) (by rfl) ?_ (hK _ _ ⟨l0, l1, l2, l3, l4, l5, l6, true, true, l9, l10, l11, u62, u63, u64, u65, u66, u67, u68, u69, (.slice (some ⟨x.heap.size, 0, none⟩) 1 1), u71, u72, rfl, rfl, h.s8⟩)
                      rw [h.p69 rfl]
                      go_simp
                    · have e : l9 = false := hlx
                      subst e
                      have d1 : l1 = true := ready_on hix 1 (by kernel_rfl)
                      subst d1
                      have d8 : l8 = true := ready_on hix 8 (by kernel_rfl)
                      subst d8
                      obtain ⟨g, e70, h70⟩ := h.q70 rfl rfl
                      have hsz := h.sz
                      have hpl : (peersL (l.take m) l[k]).length ≤ 8 := Nat.le_trans (peersL_len _ _) (by rw [List.length_take]; omega)
                      obtain ⟨v', y, hr, ho, hg, hlie⟩ := run_append_any (P := Try.prog) (w := x) (G + 1) 33 33 50 j0 _ 4 48 huP hj0 hy0 hy1 hy2 rfl (by decide) _ _ _ (h.row rfl) (some ⟨g, 0, none⟩) 1 1 [.int .i64 l[m].id, .slice none 0 0, .int .i64 0, .int .i64 0] rfl (fun e => by cases e) (fun ad had j u hj => by cases had; rw [addr_add]; simpa using h70 j u hj) (by simp [Value.oneCell']) (by unfold maxLen; omega) (by omega) (by omega)
                      refine wpOp_run (v := v') (w' := y) (by rfl) (by rfl) ?_ (hK _ _ ⟨l0, true, l2, l3, l4, l5, l6, l7, true, true, l10, l11, u62, u63, u64, u65, u66, u67, u68, u69, u70, (v'), u72, rfl, rfl, h.s9 ho hg⟩)
                      exact exec_append rfl (h.p63 rfl) e70 hr
                    · have e : l10 = false := hlx
                      subst e
                      have d0 : l0 = true := ready_on hix 0 (by kernel_rfl)
                      subst d0
                      have d1 : l1 = true := ready_on hix 1 (by kernel_rfl)
                      subst d1
                      have d2 : l2 = true := ready_on hix 2 (by kernel_rfl)
                      subst d2
                      have d3 : l3 = true := ready_on hix 3 (by kernel_rfl)
                      subst d3
                      have d4 : l4 = true := ready_on hix 4 (by kernel_rfl)
                      subst d4
                      have d5 : l5 = true := ready_on hix 5 (by kernel_rfl)
                      subst d5
                      have d6 : l6 = true := ready_on hix 6 (by kernel_rfl)
                      subst d6
                      have d7 : l7 = true := ready_on hix 7 (by kernel_rfl)
                      subst d7
                      have d8 : l8 = true := ready_on hix 8 (by kernel_rfl)
                      subst d8
                      have d9 : l9 = true := ready_on hix 9 (by kernel_rfl)
                      subst d9
                      refine wpOp_run (v := .pointer (some ⟨G, 5, none⟩)) (w' := x) (by rfl) (by rfl) ?_ (hK _ _ ⟨true, true, true, true, true, true, true, true, true, true, true, l11, u62, u63, u64, u65, u66, u67, u68, u69, u70, u71, (.pointer (some ⟨G, 5, none⟩)), rfl, rfl, { h with p72 := fun _ => rfl, d11 := fun q => absurd (h.d11 q).2.2 (by simp) }⟩)
                      go_simp
                    · have e : l11 = false := hlx
                      subst e
                      have d0 : l0 = true := ready_on hix 0 (by kernel_rfl)
                      subst d0
                      have d1 : l1 = true := ready_on hix 1 (by kernel_rfl)
                      subst d1
                      have d2 : l2 = true := ready_on hix 2 (by kernel_rfl)
                      subst d2
                      have d3 : l3 = true := ready_on hix 3 (by kernel_rfl)
                      subst d3
                      have d4 : l4 = true := ready_on hix 4 (by kernel_rfl)
                      subst d4
                      have d5 : l5 = true := ready_on hix 5 (by kernel_rfl)
                      subst d5
                      have d6 : l6 = true := ready_on hix 6 (by kernel_rfl)
                      subst d6
                      have d7 : l7 = true := ready_on hix 7 (by kernel_rfl)
                      subst d7
                      have d8 : l8 = true := ready_on hix 8 (by kernel_rfl)
                      subst d8
                      have d9 : l9 = true := ready_on hix 9 (by kernel_rfl)
                      subst d9
                      have d10 : l10 = true := ready_on hix 10 (by kernel_rfl)
                      subst d10
                      obtain ⟨a71, c71, e71⟩ := row_shape (h.row9 rfl)
                      have hB := h.blk rfl
                      have r5 := hB.c 5 _ rfl
                      have f5 := hB.f 5
                      refine wpOp_skip (w' := x.setCell ⟨G, 5, none⟩ u71) (by rfl) (by rfl) ?_ (hK _ _ ⟨true, true, true, true, true, true, true, true, true, true, true, true, u62, u63, u64, u65, u66, u67, u68, u69, u70, u71, u72, rfl, rfl, h.s11⟩)
                      rw [h.p72 rfl, e71]
                      go_simp
                  · rintro Lx act x ⟨l0, l1, l2, l3, l4, l5, l6, l7, l8, l9, l10, l11, u62, u63, u64, u65, u66, u67, u68, u69, u70, u71, u72, rfl, rfl, h⟩ hr
                    have hall := ready_all hr rfl (by decide)
                    have t0 : l0 = true := hall 0 (by decide)
                    have t1 : l1 = true := hall 1 (by decide)
                    have t2 : l2 = true := hall 2 (by decide)
                    have t3 : l3 = true := hall 3 (by decide)
                    have t4 : l4 = true := hall 4 (by decide)
                    have t5 : l5 = true := hall 5 (by decide)
                    have t6 : l6 = true := hall 6 (by decide)
                    have t7 : l7 = true := hall 7 (by decide)
                    have t8 : l8 = true := hall 8 (by decide)
                    have t9 : l9 = true := hall 9 (by decide)
                    have t10 : l10 = true := hall 10 (by decide)
                    have t11 : l11 = true := hall 11 (by decide)
                    subst t0 t1 t2 t3 t4 t5 t6 t7 t8 t9 t10 t11
                    clear hall hr
                    have hrow := h.row9 rfl
                    have HL2 : Hid _ := hide h.bel
                    have HB2 : Hid _ := hide (h.b11 rfl)
                    have hnx := HNX.out
                    rw [HN.out] at hnx
                    simp only [if_true] at hnx
                    have HP2 : Hid (x.ownsRow (G + 1) 50 4 u71 (peersL (l.take (m + 1)) l[k]).length ((peersL (l.take (m + 1)) l[k]).flatMap prCells)) := hide (by rw [hnx, List.flatMap_append]; simpa [prCells, newP] using hrow)
                    clear h hrow hnx HNX HL HB HP
                    go_wp2
                    exact ⟨⟨m + 1, u71, by omega, by go_num, HL2, HB2, HP2⟩, by simp [intOf]; omega⟩
              · have HN : Hid (nbB l[k] l[m] = true) := hide (by
                  simp only [beq_iff_eq] at hb1
                  simp [nbB, hb1])
                go_wp2_with fail
                go_quiet (fail)
                go_wp2_with fail
                clear hb1
                obtain ⟨Y, HY⟩ : ∃ Y, Hid ((wr.drewN nq).drew = Y) := ⟨_, hide rfl⟩
                have HBY : Hid (Below wr.heap.size wr Y) := hide (by rw [← HY.out]; exact (below_drewN (Below.refl _ _) _).drew)
                have HL3 : Hid _ := hide (HL.out.trans (HBY.out.mono (Nat.le_of_lt HB.out.lt)))
                have HB3 : Hid _ := hide (HB.out.keep (HBY.out.block _ HB.out.lt) HBY.out.size)
                have HP3 : Hid _ := hide (own_keep HP.out HBY.out)
                refine wp_region_inv (by kernel_rfl) (fun Lx act x => ∃ l0 l1 l2 l3 l4 l5 l6 l7 l8 l9 l10 l11 : Bool, ∃ u62 u63 u64 u65 u66 u67 u68 u69 u70 u71 u72 : Value, Lx = #[l0, l1, l2, l3, l4, l5, l6, l7, l8, l9, l10, l11] ∧ act = { tmps := #[Value.slice (some { block := b, off := off }) l.length cap, undef, Value.pointer (some { block := w.heap.size, off := 0 }), Value.bool false, Value.pointer (some { block := K, off := 0 }), Value.int IntKind.i64 ↑k, Value.pointer (some { block := G, off := 0 }), Value.int IntKind.i64 ↑m, Value.slice (some { block := b, off := off }) l.length cap, Value.bool true, Value.bool false, undef, Value.slice (some { block := b, off := off }) l.length cap, Value.int IntKind.i64 st, Value.agg #[Value.int IntKind.i64 st, Value.slice none 0 0, Value.slice none 0 0], Value.int IntKind.i64 ↑k, Value.slice (some { block := b, off := off }) l.length cap, Value.int IntKind.i64 ↑l.length, Value.bool true, u19, u20, Value.slice (some { block := b, off := off }) l.length cap, Value.int IntKind.i64 ↑k, Value.pointer (some { block := b, off := off + k * 3 }), Value.pointer (some { block := b, off := off + k * 3 }), Value.int IntKind.i64 l[k].id, Value.slice (some { block := b, off := off }) l.length cap, Value.int IntKind.i64 ↑k, Value.pointer (some { block := b, off := off + k * 3 }), Value.pointer (some { block := b, off := off + k * 3 + 2 }), Value.int IntKind.i64 l[k].has, Value.agg #[Value.int IntKind.i64 l[k].id, Value.int IntKind.i64 l[k].has, Value.int IntKind.i64 0, Value.int IntKind.i64 0, Value.slice none 0 0, Value.slice none 0 0], Value.int IntKind.i64 ↑m, Value.slice (some { block := b, off := off }) l.length cap, Value.int IntKind.i64 ↑l.length, Value.bool true, u36, u37, Value.slice (some { block := b, off := off }) l.length cap, Value.int IntKind.i64 ↑m, Value.pointer (some { block := b, off := off + m * 3 }), Value.pointer (some { block := b, off := off + m * 3 }), Value.int IntKind.i64 l[m].id, Value.slice (some { block := b, off := off }) l.length cap, Value.int IntKind.i64 ↑k, Value.pointer (some { block := b, off := off + k * 3 }), Value.pointer (some { block := b, off := off + k * 3 + 1 }), Value.int IntKind.i64 l[k].up, Value.bool true, Value.bool true, undef, undef, undef, undef, undef, undef, undef, undef, undef, undef, undef, Value.bool true, u62, u63, u64, u65, u66, u67, u68, u69, u70, u71, u72, u73, u74, u75, u76, u77, u78, undef], defers := [] } ∧ SwB W G l[k].id l[k].has l[m] m l.length b off cap pa (peersL (l.take m) l[k]).length pc ((peersL (l.take m) l[k]).flatMap prCells) l0 l1 l2 l3 l4 l5 l6 l7 l8 l9 l10 l11 u62 u63 u64 u65 u66 u67 u68 u69 u70 u71 u72 x) ?_ ?_ ?_
                rotate_left 2
                · exact ⟨false, false, false, false, false, false, false, false, false, false, false, false, (u62), (u63), (u64), (u65), (u66), (u67), (u68), (u69), (u70), (u71), (u72), rfl, rfl, (by rw [HY.out]; exact ⟨HL3.out, HG.out, HB3.out.lt, fun _ => HB3.out, fun _ => HP3.out, fun q => (by cases q), fun q => (by cases q), fun q => (by cases q), fun q => (by cases q), fun q => (by cases q), fun q => (by cases q), fun q => (by cases q), fun q => (by cases q), fun q => (by cases q), fun q => (by cases q), fun q => (by cases q), fun q => (by cases q), fun q => (by cases q), fun q => (by cases q)⟩)⟩
                · rintro Lx act x i ⟨l0, l1, l2, l3, l4, l5, l6, l7, l8, l9, l10, l11, u62, u63, u64, u65, u66, u67, u68, u69, u70, u71, u72, rfl, rfl, h⟩ hix KK hK
                  have hi15 : i < 12 := by
                    obtain ⟨_, o, ho, _⟩ := mem_ready.1 hix
                    exact (Array.getElem?_eq_some_iff.1 ho).1
                  have hlx := (mem_ready.1 hix).1
                  obtain rfl | rfl | rfl | rfl | rfl | rfl | rfl | rfl | rfl | rfl | rfl | rfl := (by omega : i = 0 ∨ i = 1 ∨ i = 2 ∨ i = 3 ∨ i = 4 ∨ i = 5 ∨ i = 6 ∨ i = 7 ∨ i = 8 ∨ i = 9 ∨ i = 10 ∨ i = 11)
                  · have e : l0 = false := hlx
                    subst e
                    refine wpOp_run (v := .pointer (some ⟨G, 5, none⟩)) (w' := x) (by rfl) (by rfl) ?_ (hK _ _ ⟨true, l1, l2, l3, l4, l5, l6, l7, l8, l9, l10, l11, (.pointer (some ⟨G, 5, none⟩)), u63, u64, u65, u66, u67, u68, u69, u70, u71, u72, rfl, rfl, { h with p62 := fun _ => rfl }⟩)
                    go_simp
                  · have e : l1 = false := hlx
                    subst e
                    have d0 : l0 = true := ready_on hix 0 (by kernel_rfl)
                    subst d0
                    have e11 : l11 = false := Bool.eq_false_iff.2 (fun q => by have := (h.d11 q).1; simp at this)
                    have c5 := (h.blk e11).c 5 _ rfl
                    refine wpOp_run (v := .slice pa (peersL (l.take m) l[k]).length pc) (w' := x) (by rfl) (by rfl) ?_ (hK _ _ ⟨true, true, l2, l3, l4, l5, l6, l7, l8, l9, l10, l11, u62, (.slice pa (peersL (l.take m) l[k]).length pc), u64, u65, u66, u67, u68, u69, u70, u71, u72, rfl, rfl, { h with p63 := fun _ => rfl, d9 := fun q => absurd (h.d9 q).1 (by simp), d11 := fun q => absurd (h.d11 q).1 (by simp) }⟩)
                    rw [h.p62 rfl]
                    go_simp
                  · have e : l2 = false := hlx
                    subst e
                    refine wpOp_run (v := .slice (some ⟨b, off, none⟩) l.length cap) (w' := x) (by rfl) (by rfl) ?_ (hK _ _ ⟨l0, l1, true, l3, l4, l5, l6, l7, l8, l9, l10, l11, u62, u63, (.slice (some ⟨b, off, none⟩) l.length cap), u65, u66, u67, u68, u69, u70, u71, u72, rfl, rfl, { h with p64 := fun _ => rfl }⟩)
                    go_simp
                  · have e : l3 = false := hlx
                    subst e
                    refine wpOp_run (v := .int .i64 (m : Int)) (w' := x) (by rfl) (by rfl) ?_ (hK _ _ ⟨l0, l1, l2, true, l4, l5, l6, l7, l8, l9, l10, l11, u62, u63, u64, (.int .i64 (m : Int)), u66, u67, u68, u69, u70, u71, u72, rfl, rfl, { h with p65 := fun _ => rfl }⟩)
                    go_simp
                  · have e : l4 = false := hlx
                    subst e
                    have d2 : l2 = true := ready_on hix 2 (by kernel_rfl)
                    subst d2
                    have d3 : l3 = true := ready_on hix 3 (by kernel_rfl)
                    subst d3
                    refine wpOp_run (v := .pointer (some ⟨b, off + m * 3, none⟩)) (w' := x) (by rfl) (by rfl) ?_ (hK _ _ ⟨l0, l1, true, true, true, l5, l6, l7, l8, l9, l10, l11, u62, u63, u64, u65, (.pointer (some ⟨b, off + m * 3, none⟩)), u67, u68, u69, u70, u71, u72, rfl, rfl, { h with p66 := fun _ => rfl }⟩)
                    rw [h.p64 rfl, h.p65 rfl]
                    go_simp
                  · have e : l5 = false := hlx
                    subst e
                    have d4 : l4 = true := ready_on hix 4 (by kernel_rfl)
                    subst d4
                    refine wpOp_run (v := .pointer (some ⟨b, off + m * 3, none⟩)) (w' := x) (by rfl) (by rfl) ?_ (hK _ _ ⟨l0, l1, l2, l3, true, true, l6, l7, l8, l9, l10, l11, u62, u63, u64, u65, u66, (.pointer (some ⟨b, off + m * 3, none⟩)), u68, u69, u70, u71, u72, rfl, rfl, { h with p67 := fun _ => rfl }⟩)
                    rw [h.p66 rfl]
                    go_simp
                  · have e : l6 = false := hlx
                    subst e
                    have d5 : l5 = true := ready_on hix 5 (by kernel_rfl)
                    subst d5
                    obtain ⟨b2, off2, e2, hb2, c0, c1, c2, _⟩ := (HC.out.below (HWd.out.old.trans (h.bel.mono HGW.out))) m hmt
                    injection e2 with e2
                    injection e2 with e3 e4
                    subst e3 e4
                    refine wpOp_run (v := .int .i64 l[m].id) (w' := x) (by rfl) (by rfl) ?_ (hK _ _ ⟨l0, l1, l2, l3, l4, true, true, l7, l8, l9, l10, l11, u62, u63, u64, u65, u66, u67, (.int .i64 l[m].id), u69, u70, u71, u72, rfl, rfl, { h with p68 := fun _ => rfl }⟩)
                    rw [h.p67 rfl]
                    go_simp
                  · have e : l7 = false := hlx
                    subst e
                    have d6 : l6 = true := ready_on hix 6 (by kernel_rfl)
                    subst d6
                    refine wpOp_run (v := .agg #[.int .i64 l[m].id, .slice none 0 0, .int .i64 0, .int .i64 0]) (w' := x) (by rfl) (by rfl) ?_ (hK _ _ ⟨l0, l1, l2, l3, l4, l5, true, true, l8, l9, l10, l11, u62, u63, u64, u65, u66, u67, u68, (.agg #[.int .i64 l[m].id, .slice none 0 0, .int .i64 0, .int .i64 0]), u70, u71, u72, rfl, rfl, { h with p69 := fun _ => rfl }⟩)
                    rw [h.p68 rfl]
                    go_simp
                  · have e : l8 = false := hlx
                    subst e
                    have d7 : l7 = true := ready_on hix 7 (by kernel_rfl)
                    subst d7
                    refine wpOp_run (v := .slice (some ⟨x.heap.size, 0, none⟩) 1 1) (w' := x.alloc (.cells #[.int .i64 l[m].id, .slice none 0 0, .int .i64 0, .int .i64 0] 50)) (by rfl) (by rfl) ?_ (hK _ _ ⟨l0, l1, l2, l3, l4, l5, l6, true, true, l9, l10, l11, u62, u63, u64, u65, u66, u67, u68, u69, (.slice (some ⟨x.heap.size, 0, none⟩) 1 1), u71, u72, rfl, rfl, h.s8⟩)
                    rw [h.p69 rfl]
                    go_simp
                  · have e : l9 = false := hlx
                    subst e
                    have d1 : l1 = true := ready_on hix 1 (by kernel_rfl)
                    subst d1
                    have d8 : l8 = true := ready_on hix 8 (by kernel_rfl)
                    subst d8
                    obtain ⟨g, e70, h70⟩ := h.q70 rfl rfl
                    have hsz := h.sz
                    have hpl : (peersL (l.take m) l[k]).length ≤ 8 := Nat.le_trans (peersL_len _ _) (by rw [List.length_take]; omega)
                    obtain ⟨v', y, hr, ho, hg, hlie⟩ := run_append_any (P := Try.prog) (w := x) (G + 1) 33 33 50 j0 _ 4 48 huP hj0 hy0 hy1 hy2 rfl (by decide) _ _ _ (h.row rfl) (some ⟨g, 0, none⟩) 1 1 [.int .i64 l[m].id, .slice none 0 0, .int .i64 0, .int .i64 0] rfl (fun e => by cases e) (fun ad had j u hj => by cases had; rw [addr_add]; simpa using h70 j u hj) (by simp [Value.oneCell']) (by unfold maxLen; omega) (by omega) (by omega)
                    refine wpOp_run (v := v') (w' := y) (by rfl) (by rfl) ?_ (hK _ _ ⟨l0, true, l2, l3, l4, l5, l6, l7, true, true, l10, l11, u62, u63, u64, u65, u66, u67, u68, u69, u70, (v'), u72, rfl, rfl, h.s9 ho hg⟩)
                    exact exec_append rfl (h.p63 rfl) e70 hr
                  · have e : l10 = false := hlx
                    subst e
                    have d0 : l0 = true := ready_on hix 0 (by kernel_rfl)
                    subst d0
                    have d1 : l1 = true := ready_on hix 1 (by kernel_rfl)
                    subst d1
                    have d2 : l2 = true := ready_on hix 2 (by kernel_rfl)
                    subst d2
                    have d3 : l3 = true := ready_on hix 3 (by kernel_rfl)
                    subst d3
                    have d4 : l4 = true := ready_on hix 4 (by kernel_rfl)
                    subst d4
                    have d5 : l5 = true := ready_on hix 5 (by kernel_rfl)
                    subst d5
                    have d6 : l6 = true := ready_on hix 6 (by kernel_rfl)
                    subst d6
                    have d7 : l7 = true := ready_on hix 7 (by kernel_rfl)
                    subst d7
                    have d8 : l8 = true := ready_on hix 8 (by kernel_rfl)
                    subst d8
                    have d9 : l9 = true := ready_on hix 9 (by kernel_rfl)
                    subst d9
                    refine wpOp_run (v := .pointer (some ⟨G, 5, none⟩)) (w' := x) (by rfl) (by rfl) ?_ (hK _ _ ⟨true, true, true, true, true, true, true, true, true, true, true, l11, u62, u63, u64, u65, u66, u67, u68, u69, u70, u71, (.pointer (some ⟨G, 5, none⟩)), rfl, rfl, { h with p72 := fun _ => rfl, d11 := fun q => absurd (h.d11 q).2.2 (by simp) }⟩)
                    go_simp
                  · have e : l11 = false := hlx
                    subst e
                    have d0 : l0 = true := ready_on hix 0 (by kernel_rfl)
                    subst d0
                    have d1 : l1 = true := ready_on hix 1 (by kernel_rfl)
                    subst d1
                    have d2 : l2 = true := ready_on hix 2 (by kernel_rfl)
                    subst d2
                    have d3 : l3 = true := ready_on hix 3 (by kernel_rfl)
                    subst d3
                    have d4 : l4 = true := ready_on hix 4 (by kernel_rfl)
                    subst d4
                    have d5 : l5 = true := ready_on hix 5 (by kernel_rfl)
                    subst d5
                    have d6 : l6 = true := ready_on hix 6 (by kernel_rfl)
                    subst d6
                    have d7 : l7 = true := ready_on hix 7 (by kernel_rfl)
                    subst d7
                    have d8 : l8 = true := ready_on hix 8 (by kernel_rfl)
                    subst d8
                    have d9 : l9 = true := ready_on hix 9 (by kernel_rfl)
                    subst d9
                    have d10 : l10 = true := ready_on hix 10 (by kernel_rfl)
                    subst d10
                    obtain ⟨a71, c71, e71⟩ := row_shape (h.row9 rfl)
                    have hB := h.blk rfl
                    have r5 := hB.c 5 _ rfl
                    have f5 := hB.f 5
                    refine wpOp_skip (w' := x.setCell ⟨G, 5, none⟩ u71) (by rfl) (by rfl) ?_ (hK _ _ ⟨true, true, true, true, true, true, true, true, true, true, true, true, u62, u63, u64, u65, u66, u67, u68, u69, u70, u71, u72, rfl, rfl, h.s11⟩)
                    rw [h.p72 rfl, e71]
                    go_simp
                · rintro Lx act x ⟨l0, l1, l2, l3, l4, l5, l6, l7, l8, l9, l10, l11, u62, u63, u64, u65, u66, u67, u68, u69, u70, u71, u72, rfl, rfl, h⟩ hr
                  have hall := ready_all hr rfl (by decide)
                  have t0 : l0 = true := hall 0 (by decide)
                  have t1 : l1 = true := hall 1 (by decide)
                  have t2 : l2 = true := hall 2 (by decide)
                  have t3 : l3 = true := hall 3 (by decide)
                  have t4 : l4 = true := hall 4 (by decide)
                  have t5 : l5 = true := hall 5 (by decide)
                  have t6 : l6 = true := hall 6 (by decide)
                  have t7 : l7 = true := hall 7 (by decide)
                  have t8 : l8 = true := hall 8 (by decide)
                  have t9 : l9 = true := hall 9 (by decide)
                  have t10 : l10 = true := hall 10 (by decide)
                  have t11 : l11 = true := hall 11 (by decide)
                  subst t0 t1 t2 t3 t4 t5 t6 t7 t8 t9 t10 t11
                  clear hall hr
                  have hrow := h.row9 rfl
                  have HL2 : Hid _ := hide h.bel
                  have HB2 : Hid _ := hide (h.b11 rfl)
                  have hnx := HNX.out
                  rw [HN.out] at hnx
                  simp only [if_true] at hnx
                  have HP2 : Hid (x.ownsRow (G + 1) 50 4 u71 (peersL (l.take (m + 1)) l[k]).length ((peersL (l.take (m + 1)) l[k]).flatMap prCells)) := hide (by rw [hnx, List.flatMap_append]; simpa [prCells, newP] using hrow)
                  clear h hrow hnx HNX HL HB HP
                  go_wp2
                  exact ⟨⟨m + 1, u71, by omega, by go_num, HL2, HB2, HP2⟩, by simp [intOf]; omega⟩
            · have hmt' : ¬ (m : Int) < (l.length : Int) := by omega
              have hme : m = l.length := by omega
              subst hme
              rw [List.take_length] at HP HB
              have HWr : Hid (Wn w K st l k (.slice va L.length vc) L wr) := hide (HWd.out.below (by rw [HG.out]; exact HL.out))
              have HPr : Hid (wr.ownsRow (K + 1) 50 4 (.slice pa (peersL l l[k]).length pc) (peersL l l[k]).length ((peersL l l[k]).flatMap prCells)) := hide (HP.out.mono (by have := HWd.out.var.lt; have := HG.out; omega))
              have HLN : Hid (L.length = k) := hide HWr.out.fst.len
              have hKr := HWr.out.var.lt
              have x1 := HWr.out.c1
              have r0 := HB.out.c 0 _ rfl
              have r1 := HB.out.c 1 _ rfl
              have r2 := HB.out.c 2 _ rfl
              have r3 := HB.out.c 3 _ rfl
              have r4 := HB.out.c 4 _ rfl
              have r5 := HB.out.c 5 _ rfl
              have HPX : Hid (Apt (.slice pa (peersL l l[k]).length pc) (.slice va L.length vc) ∧ ∀ i (h : i < L.length), Apt (.slice pa (peersL l l[k]).length pc) L[i].pv ∧ Apt L[i].pv (.slice pa (peersL l l[k]).length pc)) := hide ⟨(apt_new HP.out (by rw [HG.out]; omega) HWd.out.fst.row).1, fun i hi => apt_new HP.out (by rw [HG.out]; omega) (HWd.out.fst.prs i hi)⟩
              clear HP HL HB
              go_wp2_with (first | (at_builtin; refine Shut2.mk ?_) | fail)
              refine Shut2.mk' ?_
              refine wpList_append_own_at _ rfl _ _ 26 rfl (K + 1) 35 i0 _ 6 80 huN hi0 hz0 hz1 hz2 rfl (by decide) (.slice va L.length vc) L.length (L.flatMap ndCells) rfl ?own ⟨wr.heap.size, 0, none⟩ 1 1 [.int .i64 l[k].id, .int .i64 l[k].has, .int .i64 0, .int .i64 0, .slice none 0 0, .slice pa (peersL l l[k]).length pc] rfl rfl ?news (by simp [Value.oneCell']) (by have := HLN.out; unfold maxLen; omega) (by have := HLN.out; omega) ?base ?_
              case own => exact own_keep HWr.out.fst.row (below_alloc (Below.refl _ _) _)
              case news => exact news6 (fun j u hj => (World.cell?_alloc_at _ _ _ _ rfl).trans hj)
              case base => simp; omega
              intro v6 w6 ho6 hg6 _ hlie6
              have HF6 : Hid (Below w.heap.size w w6 ∧ Res3 w.heap.size w6 ∧ w.heap.size < K ∧ Res3 K w6 ∧ w6.cell? ⟨K, 0, none⟩ = some (.int .i64 st) ∧ w6.cell? ⟨K, 2, none⟩ = some (.slice none 0 0) ∧ Fst (K + 1) l (k + 1) v6 (L ++ [mkN l l[k] pa pc]) w6) := hide (by
                have hx := HWr.out.below (below_alloc (Below.refl wr.heap.size wr) (.cells #[.int .i64 l[k].id, .int .i64 l[k].has, .int .i64 0, .int .i64 0, .slice none 0 0, .slice pa (peersL l l[k]).length pc] 35))
                have hp := own_keep HPr.out (below_alloc (Below.refl wr.heap.size wr) (.cells #[.int .i64 l[k].id, .int .i64 l[k].has, .int .i64 0, .int .i64 0, .slice none 0 0, .slice pa (peersL l l[k]).length pc] 35))
                have hpx := HPX.out
                exact grow_one hx hlt hp hpx.1 hpx.2 ho6 hg6 hlie6)
              obtain ⟨a6, c6, rfl⟩ := row_shape ho6
              obtain ⟨t1, y1⟩ := HF6.out.2.2.2.1.c 1 (by omega)
              have fz1 := HF6.out.2.2.2.1.f 1
              clear ho6 hg6 hlie6 HWr HPr HPX r0 r1 r2 r3 r4 r5 x1
              have HW9 : Hid _ := hide (wn_store HF6.out)
              clear HF6
              go_wp2
              exact ⟨⟨k + 1, _, _, by omega, by go_num, HW9⟩, by simp [intOf]; omega⟩
      · have hlt' : ¬ (k : Int) < (l.length : Int) := by omega
        have hke : k = l.length := by omega
        have hlo := HW.out.lo
        have hne : K ≠ w.heap.size := by omega
        have x0 := HW.out.c0
        have x1 := HW.out.c1
        have x2 := HW.out.c2
        have hvl := HW.out.var.lt
        obtain ⟨⟨t0, r0⟩, ⟨t1, r1⟩, ⟨t2, r2⟩⟩ := And.intro (HW.out.res.c 0 (by omega)) (And.intro (HW.out.res.c 1 (by omega)) (HW.out.res.c 2 (by omega)))
        have f0 := HW.out.res.f 0
        have f1 := HW.out.res.f 1
        have f2 := HW.out.res.f 2
        have HE : Hid (NewW l w (.returned (.tuple #[.agg #[.int .i64 st, .slice va L.length vc, .slice none 0 0], .bool true])) (((wr.setCell ⟨w.heap.size, 0, none⟩ (.int .i64 st)).setCell ⟨w.heap.size, 1, none⟩ (.slice va L.length vc)).setCell ⟨w.heap.size, 2, none⟩ (.slice none 0 0))) := hide ⟨((HW.out.old.setCell (p := ⟨w.heap.size, 0, none⟩) (Nat.le_refl _) _).setCell (p := ⟨w.heap.size, 1, none⟩) (Nat.le_refl _) _).setCell (p := ⟨w.heap.size, 2, none⟩) (Nat.le_refl _) _, .slice va L.length vc, L, st, K + 1, by omega, by rw [HR.out], fun _ => ⟨HST.out.symm, by rw [← hke]; exact ((HW.out.fst.put (by omega) _).put (by omega) _).put (by omega) _⟩, fun q => (by rw [HR.out] at q; cases q)⟩
        clear HW HR HST
        go_wp2
        exact bodyPost_ret (v := .tuple #[.agg #[.int .i64 st, .slice va L.length vc, .slice none 0 0], .bool true]) (by simp [results, Try.results7, go_sem, r0, r1, r2]) rfl HE.out
end Go.Proofs.Ytilacamcedjbmaa
