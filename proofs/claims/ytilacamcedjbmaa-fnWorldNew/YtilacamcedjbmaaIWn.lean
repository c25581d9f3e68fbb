/- The program's WorldNew. -/
import Derived.Test.YtilacamcedjbmaaWn
namespace Go.Proofs.Ytilacamcedjbmaa
open Go.ChangeShapes Go.WideShapes Go.ChangeAt Go.RowKit
set_option linter.unusedVariables false
theorem infoN : (Try.prog.info? 35).map (fun i => (i.zero, i.size, i.bytes)) = some (some (.agg #[.int .i64 0, .int .i64 0, .int .i64 0, .int .i64 0, .slice none 0 0, .slice none 0 0]), 6, 80) := by kernel_rfl
theorem huN : Try.prog.underlying 26 = some (.slice 35) := by kernel_rfl
theorem nd_one (l : List Nd) : ∀ u ∈ l.flatMap ndCells, u.oneCell' = true := fun u hu => by
  obtain ⟨x, _, hx⟩ := List.mem_flatMap.1 hu
  simp only [ndCells, List.mem_cons, List.not_mem_nil, or_false] at hx
  rcases hx with rfl | rfl | rfl | rfl | rfl | rfl <;> rfl
theorem news6 {x : World} {g : Nat} {v0 v1 v2 v3 v4 v5 : Value} (h : ∀ j u, #[v0, v1, v2, v3, v4, v5][j]? = some u → x.cell? ⟨g, j, none⟩ = some u) (j : Nat) (u : Value) (hj : [v0, v1, v2, v3, v4, v5][j]? = some u) : x.cell? ((⟨g, 0, none⟩ : Addr).add j) = some u := by
  rw [addr_add]
  have := h j u (by simpa using hj)
  simpa using this
/-- a new world, and a flag -/
def NewW (l : List Slt) (w : World) (e : Ending) (w' : World) : Prop := Below w.heap.size w w' ∧ ∃ (v : Value) (L : List Nd) (st : Int) (base : Nat), w.heap.size ≤ base ∧ e = .returned (.tuple #[.agg #[.int .i64 st, v, .slice none 0 0], .bool (rightsB l)]) ∧
  (rightsB l = true → st = sumL l ∧ Fst base l l.length v L w') ∧ (rightsB l = false → st = 0 ∧ v = .slice none 0 0 ∧ L = [])
theorem Res3.set {b : Nat} {x : World} (h : Res3 b x) (o : Nat) (u : Value) : Res3 b (x.setCell ⟨b, o, none⟩ u) := by
  refine ⟨by simpa [World.setCell] using h.lt, fun j hj => ?_, fun j => by rw [frozen_set]; exact h.f j⟩
  obtain ⟨v, hv⟩ := h.c j hj
  by_cases e : j = o
  · subst e; exact ⟨u, cell_set_same hv⟩
  · exact ⟨v, (cell_set_other (.inr (fun q => e q.symm))).trans hv⟩
structure NwF (w : World) (K : Nat) (st : Int) (l : List Slt) (k : Nat) (va : Option Addr) (vc : Nat) (L : List Nd) (S6 : Nat) (s : Slt) (b off cap : Nat) (l0 l1 l2 l3 l4 l5 l6 l7 l8 l9 l10 l11 l12 l13 : Bool) (u20 u21 u22 u23 u24 u25 u26 u27 u28 u29 u30 u31 u32 : Value) (x : World) : Prop where
  wn : l11 = false → Wn w K st l k (.slice va L.length vc) L x
  ss : l11 = false → S6 < x.heap.size ∧ x.cell? ⟨S6, 0, none⟩ = some (.int .i64 s.id) ∧ x.cell? ⟨S6, 1, none⟩ = some (.int .i64 s.up) ∧ x.cell? ⟨S6, 2, none⟩ = some (.int .i64 s.has)
  q28 : l8 = true → l11 = false → x.ownsRow (K + 1) 50 4 u28 (peersL l s).length ((peersL l s).flatMap prCells) ∧ Apt u28 (.slice va L.length vc) ∧ ∀ i (h : i < L.length), Apt u28 L[i].pv ∧ Apt L[i].pv u28
  q29 : l9 = true → u29 = .agg #[.int .i64 s.id, .int .i64 s.has, .int .i64 0, .int .i64 0, .slice none 0 0, u28]
  q30 : l10 = true → l11 = false → ∃ g, u30 = .slice (some ⟨g, 0, none⟩) 1 1 ∧ ∀ (j : Nat) (u : Value), #[.int .i64 s.id, .int .i64 s.has, .int .i64 0, .int .i64 0, .slice none 0 0, u28][j]? = some u → x.cell? ⟨g, j, none⟩ = some u
  f11 : l11 = true → l13 = false → ∃ n, (Below w.heap.size w x ∧ Res3 w.heap.size x ∧ w.heap.size < K ∧ Res3 K x ∧ x.cell? ⟨K, 0, none⟩ = some (.int .i64 st) ∧ x.cell? ⟨K, 2, none⟩ = some (.slice none 0 0) ∧ Fst (K + 1) l (k + 1) u31 (L ++ [n]) x)
  f13 : l13 = true → ∃ n, Wn w K st l (k + 1) u31 (L ++ [n]) x
  d8 : l8 = true → l7 = true
  d9 : l9 = true → l3 = true ∧ l5 = true ∧ l8 = true
  d10 : l10 = true → l9 = true
  d11 : l11 = true → l1 = true ∧ l10 = true
  d13 : l13 = true → l11 = true ∧ l12 = true
  p20 : l0 = true → u20 = .pointer (some ⟨K, 1, none⟩)
  p21 : l1 = true → u21 = .slice va L.length vc
  p22 : l2 = true → u22 = .pointer (some ⟨S6, 0, none⟩)
  p23 : l3 = true → u23 = .int .i64 s.id
  p24 : l4 = true → u24 = .pointer (some ⟨S6, 2, none⟩)
  p25 : l5 = true → u25 = .int .i64 s.has
  p26 : l6 = true → u26 = .slice (some ⟨b, off, none⟩) l.length cap
  p27 : l7 = true → u27 = .agg #[.int .i64 s.id, .int .i64 s.up, .int .i64 s.has]
  p32 : l12 = true → u32 = .pointer (some ⟨K, 1, none⟩)
theorem NwF.s8 {w : World} {K : Nat} {st : Int} {l : List Slt} {k : Nat} {va : Option Addr} {vc : Nat} {L : List Nd} {S6 : Nat} {s : Slt} {b off cap : Nat} {l0 l1 l2 l3 l4 l5 l9 l10 l11 l12 l13 : Bool} {u20 u21 u22 u23 u24 u25 u26 u27 u28 u29 u30 u31 u32 : Value} {x : World} {y : World} {v : Value} (h : NwF w K st l k va vc L S6 s b off cap l0 l1 l2 l3 l4 l5 true true false l9 l10 l11 l12 l13 u20 u21 u22 u23 u24 u25 u26 u27 u28 u29 u30 u31 u32 x) (hb : Below x.heap.size x y) (ho : y.ownsRow x.heap.size 50 4 v (peersL l s).length ((peersL l s).flatMap prCells)) : NwF w K st l k va vc L S6 s b off cap l0 l1 l2 l3 l4 l5 true true true l9 l10 l11 l12 l13 u20 u21 u22 u23 u24 u25 u26 u27 v u29 u30 u31 u32 y := by
  have n9 : l9 = true → False := fun q => by have := (h.d9 q).2.2; simp at this
  have n10 : l10 = true → False := fun q => n9 (h.d10 q)
  have n11 : l11 = true → False := fun q => n10 (h.d11 q).2
  have n13 : l13 = true → False := fun q => n11 (h.d13 q).1
  have e11 : l11 = false := Bool.eq_false_iff.2 n11
  have HW := h.wn e11
  exact { h with
    wn := fun q => HW.below hb
    ss := fun q => by
      obtain ⟨a, b, c, d⟩ := h.ss e11
      exact ⟨Nat.lt_of_lt_of_le a hb.size, (hb.cell a).trans b, (hb.cell a).trans c, (hb.cell a).trans d⟩
    q28 := fun _ _ => ⟨ho.mono HW.var.lt, (apt_new ho (Nat.le_refl _) HW.fst.row).1, fun i hi => apt_new ho (Nat.le_refl _) (HW.fst.prs i hi)⟩
    q29 := fun q => (n9 q).elim
    q30 := fun q => (n10 q).elim
    f11 := fun q => (n11 q).elim
    f13 := fun q => (n13 q).elim
    d8 := fun _ => rfl
    d9 := fun q => (n9 q).elim }
theorem NwF.s10 {w : World} {K : Nat} {st : Int} {l : List Slt} {k : Nat} {va : Option Addr} {vc : Nat} {L : List Nd} {S6 : Nat} {s : Slt} {b off cap : Nat} {l0 l1 l2 l3 l4 l5 l6 l7 l11 l12 l13 : Bool} {u20 u21 u22 u23 u24 u25 u26 u27 u28 u29 u30 u31 u32 : Value} {x : World} (h : NwF w K st l k va vc L S6 s b off cap l0 l1 l2 l3 l4 l5 l6 l7 true true false l11 l12 l13 u20 u21 u22 u23 u24 u25 u26 u27 u28 u29 u30 u31 u32 x) : NwF w K st l k va vc L S6 s b off cap l0 l1 l2 l3 l4 l5 l6 l7 true true true l11 l12 l13 u20 u21 u22 u23 u24 u25 u26 u27 u28 u29 (.slice (some ⟨x.heap.size, 0, none⟩) 1 1) u31 u32 (x.alloc (.cells #[.int .i64 s.id, .int .i64 s.has, .int .i64 0, .int .i64 0, .slice none 0 0, u28] 35)) := by
  have n11 : l11 = true → False := fun q => by have := (h.d11 q).2; simp at this
  have n13 : l13 = true → False := fun q => n11 (h.d13 q).1
  have e11 : l11 = false := Bool.eq_false_iff.2 n11
  have HW := h.wn e11
  have hb := below_alloc (Below.refl x.heap.size x) (.cells #[.int .i64 s.id, .int .i64 s.has, .int .i64 0, .int .i64 0, .slice none 0 0, u28] 35)
  exact { h with
    wn := fun q => HW.below hb
    ss := fun q => by
      obtain ⟨a, b, c, d⟩ := h.ss e11
      exact ⟨Nat.lt_of_lt_of_le a hb.size, (hb.cell a).trans b, (hb.cell a).trans c, (hb.cell a).trans d⟩
    q28 := fun _ _ => ⟨own_keep (h.q28 rfl e11).1 hb, (h.q28 rfl e11).2⟩
    q30 := fun _ _ => ⟨_, rfl, fun j u hj => (World.cell?_alloc_at _ _ _ _ rfl).trans hj⟩
    f11 := fun q => (n11 q).elim
    f13 := fun q => (n13 q).elim
    d10 := fun _ => rfl
    d11 := fun q => (n11 q).elim }
theorem NwF.s11 {w : World} {K : Nat} {st : Int} {l : List Slt} {k : Nat} {va : Option Addr} {vc : Nat} {L : List Nd} {S6 : Nat} {s : Slt} {b off cap : Nat} {l0 l2 l3 l4 l5 l6 l7 l9 l12 l13 : Bool} {u20 u21 u22 u23 u24 u25 u26 u27 u28 u29 u30 u31 u32 : Value} {x : World} {y : World} {v : Value} (h : NwF w K st l k va vc L S6 s b off cap l0 true l2 l3 l4 l5 l6 l7 true l9 true false l12 l13 u20 u21 u22 u23 u24 u25 u26 u27 u28 u29 u30 u31 u32 x) (hk : k < l.length) (hs : s = l[k]) (ho : y.ownsRow (K + 1) 35 6 v (L.length + 1) (L.flatMap ndCells ++ [.int .i64 s.id, .int .i64 s.has, .int .i64 0, .int .i64 0, .slice none 0 0, u28])) (hg : x.grownBy y (Value.ownBlock (.slice va L.length vc))) (hl : v.ownBlock = Value.ownBlock (.slice va L.length vc) ∨ v.ownBlock = some x.heap.size) : NwF w K st l k va vc L S6 s b off cap l0 true l2 l3 l4 l5 l6 l7 true l9 true true l12 l13 u20 u21 u22 u23 u24 u25 u26 u27 u28 u29 u30 v u32 y := by
  have n13 : l13 = true → False := fun q => by have := (h.d13 q).1; simp at this
  have HW := h.wn rfl
  obtain ⟨hp, hpv, hpp⟩ := h.q28 rfl rfl
  obtain ⟨a8, c8, rfl⟩ := row_shape hp
  have lo : ∀ j, Value.ownBlock (.slice va L.length vc) = some j → K + 1 ≤ j := fun j hj => (HW.fst.row.lt j hj).1
  have far : ∀ j, j ≤ K → Value.ownBlock (.slice va L.length vc) = none ∨ Value.ownBlock (.slice va L.length vc) ≠ some j := fun j hj => .inr (fun q => by have := lo j q; omega)
  have hlo := HW.lo
  have bk : y.heap[K]? = x.heap[K]? := hg.block _ HW.var.lt (fun q => by have := lo _ q.symm; omega)
  have bw : y.heap[w.heap.size]? = x.heap[w.heap.size]? := hg.block _ HW.res.lt (fun q => by have := lo _ q.symm; omega)
  exact { h with
    wn := fun q => by cases q
    ss := fun q => by cases q
    q28 := fun _ q => by cases q
    q30 := fun _ q => by cases q
    f11 := fun _ _ => ⟨mkN l s a8 c8, HW.old.grown hg (Nat.le_trans HW.old.size (Nat.le_refl _)) (fun j hj => by have := lo j hj; omega), HW.res.keep bw hg.size, hlo, HW.var.keep bk hg.size, (World.cell?_of_block bk).trans HW.c0, (World.cell?_of_block bk).trans HW.c2, HW.fst.grow hk (by rw [hs]) hp hpv hpp hg (by simpa [ndCells, mkN, List.flatMap_append] using ho) hl⟩
    f13 := fun q => (n13 q).elim
    d11 := fun _ => ⟨rfl, rfl⟩
    d13 := fun q => (n13 q).elim }
theorem NwF.s13 {w : World} {K : Nat} {st : Int} {l : List Slt} {k : Nat} {va : Option Addr} {vc : Nat} {L : List Nd} {S6 : Nat} {s : Slt} {b off cap : Nat} {l0 l1 l2 l3 l4 l5 l6 l7 l8 l9 l10 : Bool} {u20 u21 u22 u23 u24 u25 u26 u27 u28 u29 u30 u31 u32 : Value} {x : World} (h : NwF w K st l k va vc L S6 s b off cap l0 l1 l2 l3 l4 l5 l6 l7 l8 l9 l10 true true false u20 u21 u22 u23 u24 u25 u26 u27 u28 u29 u30 u31 u32 x) : NwF w K st l k va vc L S6 s b off cap l0 l1 l2 l3 l4 l5 l6 l7 l8 l9 l10 true true true u20 u21 u22 u23 u24 u25 u26 u27 u28 u29 u30 u31 u32 (x.setCell ⟨K, 1, none⟩ u31) := by
  obtain ⟨n, y1, y2, y3, y4, y5, y6, y7⟩ := h.f11 rfl rfl
  obtain ⟨t1, r1⟩ := y4.c 1 (by omega)
  exact { h with
    wn := fun q => by cases q
    ss := fun q => by cases q
    q28 := fun _ q => by cases q
    q30 := fun _ q => by cases q
    f11 := fun _ q => by cases q
    f13 := fun _ => ⟨n, y1.setCell (p := ⟨K, 1, none⟩) (Nat.le_of_lt y3) _, y2.keep (Below.heap_setCell _ _ _ _ (fun e => by have : w.heap.size = K := e; omega)) (by simp [World.setCell]), y3, y4.set 1 u31, by rw [cell_set_other (.inr (by simp))]; exact y5, cell_set_same r1, by rw [cell_set_other (.inr (by simp))]; exact y6, y7.put (by omega) _⟩
    d13 := fun _ => ⟨rfl, rfl⟩ }
set_option maxRecDepth 100000 in
set_option maxHeartbeats 4000000 in
theorem implWorldNew_any (a : Option Addr) (l : List Slt) (cap : Nat) (w : World) (hl : l.length ≤ 1048576) (hcap : l.length ≤ cap) (h : SlotAt w a l) :
    Calls Try.prog 6 #[.slice a l.length cap] w fun e w' => NewW l w e w' := by
  have HC : Hid _ := hide h
  clear h
  obtain ⟨i0, hi0, hz0, hz1, hz2⟩ := info_parts infoN
  have huN := huN
  have HR0 : Hid _ := hide (res3_new w (.int .i64 0) (.slice none 0 0) (.slice none 0 0) 29)
  have HB0 : Hid (Below w.heap.size w (w.alloc (.cells #[.int .i64 0, .slice none 0 0, .slice none 0 0] 29))) := hide (below_alloc (Below.refl _ _) _)
  go_enter Try.func6, Try.ntmps6
  go_wp2_with fail
  refine (implRightsOk_any a l cap _ hl hcap (HC.out.below HB0.out)).mono ?_
  rintro e w1 ⟨rfl, hb1⟩
  have HR1 : Hid _ := hide (HR0.out.keep (hb1.block _ (by simp)) hb1.size)
  have HB1 : Hid _ := hide (below_trans HB0.out hb1)
  clear hb1 HR0 HB0
  cases hr : rightsB l
  · obtain ⟨⟨t0, r0⟩, ⟨t1, r1⟩, ⟨t2, r2⟩⟩ := And.intro (HR1.out.c 0 (by omega)) (And.intro (HR1.out.c 1 (by omega)) (HR1.out.c 2 (by omega)))
    have f0 := HR1.out.f 0
    have f1 := HR1.out.f 1
    have f2 := HR1.out.f 2
    have HE : Hid (NewW l w (.returned (.tuple #[.agg #[.int .i64 0, .slice none 0 0, .slice none 0 0], .bool false])) (((w1.setCell ⟨w.heap.size, 0, none⟩ (.int .i64 0)).setCell ⟨w.heap.size, 1, none⟩ (.slice none 0 0)).setCell ⟨w.heap.size, 2, none⟩ (.slice none 0 0))) := hide ⟨((HB1.out.setCell (p := ⟨w.heap.size, 0, none⟩) (Nat.le_refl _) _).setCell (p := ⟨w.heap.size, 1, none⟩) (Nat.le_refl _) _).setCell (p := ⟨w.heap.size, 2, none⟩) (Nat.le_refl _) _, .slice none 0 0, [], 0, w.heap.size, Nat.le_refl _, by rw [hr], fun q => (by rw [hr] at q; cases q), fun _ => ⟨rfl, rfl, rfl⟩⟩
    go_wp2
    exact bodyPost_ret (v := .tuple #[.agg #[.int .i64 0, .slice none 0 0, .slice none 0 0], .bool false]) (by simp [results, Try.results6, go_sem, r0, r1, r2]) rfl HE.out
  · have HR : Hid _ := hide hr
    have hsm := rightsB_small hr
    have h8 := hsm.1
    clear hr
    go_wp2_with fail
    refine (together_any a l cap w1 hsm (HC.out.below HB1.out)).mono ?_
    rintro e w2 ⟨rfl, hb2⟩
    have HR2 : Hid _ := hide (HR1.out.keep (hb2.block _ HR1.out.lt) hb2.size)
    have HB2 : Hid _ := hide (below_trans HB1.out hb2)
    clear hb2 HR1 HB1
    generalize hst : sumL l = st at *
    have HST : Hid (sumL l = st) := hide hst
    clear hst
    have HW3 : Hid (Wn w w2.heap.size st l 0 (.slice none 0 0) [] (w2.alloc (.cells #[.int .i64 st, .slice none 0 0, .slice none 0 0] 29))) := hide (by
      have b := below_alloc (Below.refl w2.heap.size w2) (.cells #[.int .i64 st, .slice none 0 0, .slice none 0 0] 29)
      exact ⟨below_trans HB2.out b, HR2.out.keep (b.block _ HR2.out.lt) b.size, HR2.out.lt, res3_new _ _ _ _ _, World.cell?_alloc_at _ _ _ _ rfl, World.cell?_alloc_at _ _ _ _ rfl, World.cell?_alloc_at _ _ _ _ rfl, Fst.nil⟩)
    obtain ⟨K, hK⟩ : ∃ K, K = w2.heap.size := ⟨_, rfl⟩
    rw [← hK] at HW3
    go_wp2
    rw [← hK]
    clear hK HR2 HB2
    go_loopw [16] (fun i wr => ∃ (k : Nat) (v : Value) (L : List Nd), k ≤ l.length ∧ i = .int .i64 (k : Int) ∧ Hid (Wn w K st l k v L wr)) (fun i wr => l.length - (intOf i).toNat)
    case atStart => exact ⟨0, _, [], by omega, rfl, HW3⟩
    case round =>
      obtain ⟨k, v, L, hk, rfl, HW⟩ := hrel
      clear HW3
      obtain ⟨va, vc, rfl⟩ := row_shape HW.out.fst.row
      by_cases hlt : k < l.length
      · have hlt' : (k : Int) < (l.length : Int) := by omega
        obtain ⟨b, off, rfl, hb, c0, c1, c2, hi⟩ := (HC.out.below HW.out.old) k hlt
        obtain ⟨w5, hw5⟩ : ∃ w5, w5 = wr.alloc (.cells #[.int .i64 l[k].id, .int .i64 l[k].up, .int .i64 l[k].has] 37) := ⟨_, rfl⟩
        have HX5 : Hid (wr.alloc (.cells #[.int .i64 l[k].id, .int .i64 l[k].up, .int .i64 l[k].has] 37) = w5) := hide hw5.symm
        have hb5 : Below wr.heap.size wr w5 := by rw [hw5]; exact below_alloc (Below.refl _ _) _
        have HW5 : Hid _ := hide (HW.out.below hb5)
        obtain ⟨S6, hS6⟩ : ∃ S6, S6 = wr.heap.size := ⟨_, rfl⟩
        have HS5 : Hid (S6 < w5.heap.size ∧ w5.cell? ⟨S6, 0, none⟩ = some (.int .i64 l[k].id) ∧ w5.cell? ⟨S6, 1, none⟩ = some (.int .i64 l[k].up) ∧ w5.cell? ⟨S6, 2, none⟩ = some (.int .i64 l[k].has)) := hide (by rw [hw5, hS6]; exact ⟨by simp, World.cell?_alloc_at _ _ _ _ rfl, World.cell?_alloc_at _ _ _ _ rfl, World.cell?_alloc_at _ _ _ _ rfl⟩)
        have HKS : Hid (K < S6) := hide (by rw [hS6]; exact HW.out.var.lt)
        clear hw5 hb5 HW
        go_wp2_with fail
        rw [HX5.out, ← hS6]
        clear hS6 HX5 c0 c1 c2
        refine wp_region_inv (by kernel_rfl) (fun Lx act x => ∃ l0 l1 l2 l3 l4 l5 l6 l7 l8 l9 l10 l11 l12 l13 : Bool, ∃ u20 u21 u22 u23 u24 u25 u26 u27 u28 u29 u30 u31 u32 : Value, Lx = #[l0, l1, l2, l3, l4, l5, l6, l7, l8, l9, l10, l11, l12, l13] ∧ act = { tmps := #[Value.slice (some { block := b, off := off }) l.length cap, undef, Value.pointer (some { block := w.heap.size, off := 0 }), Value.bool false, Value.pointer (some { block := K, off := 0 }), undef, Value.pointer (some { block := S6, off := 0 }), Value.slice (some { block := b, off := off }) l.length cap, Value.bool true, Value.bool false, undef, Value.slice (some { block := b, off := off }) l.length cap, Value.int IntKind.i64 st, Value.agg #[Value.int IntKind.i64 st, Value.slice none 0 0, Value.slice none 0 0], Value.slice (some { block := b, off := off }) l.length cap, Value.int IntKind.i64 ↑l.length, Value.int IntKind.i64 ↑k, Value.bool true, Value.pointer (some { block := b, off := off + k * 3 }), Value.agg #[Value.int IntKind.i64 l[k].id, Value.int IntKind.i64 l[k].up, Value.int IntKind.i64 l[k].has], u20, u21, u22, u23, u24, u25, u26, u27, u28, u29, u30, u31, u32, u33, undef], defers := [] } ∧ NwF w K st l k va vc L S6 l[k] b off cap l0 l1 l2 l3 l4 l5 l6 l7 l8 l9 l10 l11 l12 l13 u20 u21 u22 u23 u24 u25 u26 u27 u28 u29 u30 u31 u32 x) ?_ ?_ ?_
        rotate_left 2
        · exact ⟨false, false, false, false, false, false, false, false, false, false, false, false, false, false, (u20), (u21), (u22), (u23), (u24), (u25), (u26), (u27), (u28), (u29), (u30), (u31), (u32), rfl, rfl, ⟨fun _ => HW5.out.below ((Below.refl _ _).drew), fun _ => HS5.out, fun q => (by cases q), fun q => (by cases q), fun q => (by cases q), fun q => (by cases q), fun q => (by cases q), fun q => (by cases q), fun q => (by cases q), fun q => (by cases q), fun q => (by cases q), fun q => (by cases q), fun q => (by cases q), fun q => (by cases q), fun q => (by cases q), fun q => (by cases q), fun q => (by cases q), fun q => (by cases q), fun q => (by cases q), fun q => (by cases q), fun q => (by cases q)⟩⟩
        · rintro Lx act x i ⟨l0, l1, l2, l3, l4, l5, l6, l7, l8, l9, l10, l11, l12, l13, u20, u21, u22, u23, u24, u25, u26, u27, u28, u29, u30, u31, u32, rfl, rfl, h⟩ hi KK hK
          have hi15 : i < 14 := by
            obtain ⟨_, o, ho, _⟩ := mem_ready.1 hi
            exact (Array.getElem?_eq_some_iff.1 ho).1
          have hlx := (mem_ready.1 hi).1
          obtain rfl | rfl | rfl | rfl | rfl | rfl | rfl | rfl | rfl | rfl | rfl | rfl | rfl | rfl := (by omega : i = 0 ∨ i = 1 ∨ i = 2 ∨ i = 3 ∨ i = 4 ∨ i = 5 ∨ i = 6 ∨ i = 7 ∨ i = 8 ∨ i = 9 ∨ i = 10 ∨ i = 11 ∨ i = 12 ∨ i = 13)
          · have e : l0 = false := hlx
            subst e
            refine wpOp_run (v := .pointer (some ⟨K, 1, none⟩)) (w' := x) (by rfl) (by rfl) ?_ (hK _ _ ⟨true, l1, l2, l3, l4, l5, l6, l7, l8, l9, l10, l11, l12, l13, (.pointer (some ⟨K, 1, none⟩)), u21, u22, u23, u24, u25, u26, u27, u28, u29, u30, u31, u32, rfl, rfl, { h with p20 := fun _ => rfl }⟩)
            go_simp
          · have e : l1 = false := hlx
            subst e
            have d0 : l0 = true := ready_on hi 0 (by kernel_rfl)
            subst d0
            have e11 : l11 = false := Bool.eq_false_iff.2 (fun q => by have := (h.d11 q).1; simp at this)
            have c1 := (h.wn e11).c1
            refine wpOp_run (v := .slice va L.length vc) (w' := x) (by rfl) (by rfl) ?_ (hK _ _ ⟨true, true, l2, l3, l4, l5, l6, l7, l8, l9, l10, l11, l12, l13, u20, (.slice va L.length vc), u22, u23, u24, u25, u26, u27, u28, u29, u30, u31, u32, rfl, rfl, { h with p21 := fun _ => rfl, d11 := fun q => absurd (h.d11 q).1 (by simp) }⟩)
            rw [h.p20 rfl]
            go_simp
          · have e : l2 = false := hlx
            subst e
            refine wpOp_run (v := .pointer (some ⟨S6, 0, none⟩)) (w' := x) (by rfl) (by rfl) ?_ (hK _ _ ⟨l0, l1, true, l3, l4, l5, l6, l7, l8, l9, l10, l11, l12, l13, u20, u21, (.pointer (some ⟨S6, 0, none⟩)), u23, u24, u25, u26, u27, u28, u29, u30, u31, u32, rfl, rfl, { h with p22 := fun _ => rfl }⟩)
            go_simp
          · have e : l3 = false := hlx
            subst e
            have d2 : l2 = true := ready_on hi 2 (by kernel_rfl)
            subst d2
            have e11 : l11 = false := Bool.eq_false_iff.2 (fun q => by have := (h.d9 (h.d10 (h.d11 q).2)).1; simp at this)
            have c1 := (h.ss e11).2.1
            refine wpOp_run (v := .int .i64 l[k].id) (w' := x) (by rfl) (by rfl) ?_ (hK _ _ ⟨l0, l1, true, true, l4, l5, l6, l7, l8, l9, l10, l11, l12, l13, u20, u21, u22, (.int .i64 l[k].id), u24, u25, u26, u27, u28, u29, u30, u31, u32, rfl, rfl, { h with p23 := fun _ => rfl, d9 := fun q => absurd (h.d9 q).1 (by simp) }⟩)
            rw [h.p22 rfl]
            go_simp
          · have e : l4 = false := hlx
            subst e
            refine wpOp_run (v := .pointer (some ⟨S6, 2, none⟩)) (w' := x) (by rfl) (by rfl) ?_ (hK _ _ ⟨l0, l1, l2, l3, true, l5, l6, l7, l8, l9, l10, l11, l12, l13, u20, u21, u22, u23, (.pointer (some ⟨S6, 2, none⟩)), u25, u26, u27, u28, u29, u30, u31, u32, rfl, rfl, { h with p24 := fun _ => rfl }⟩)
            go_simp
          · have e : l5 = false := hlx
            subst e
            have d4 : l4 = true := ready_on hi 4 (by kernel_rfl)
            subst d4
            have e11 : l11 = false := Bool.eq_false_iff.2 (fun q => by have := (h.d9 (h.d10 (h.d11 q).2)).2.1; simp at this)
            have c1 := (h.ss e11).2.2.2
            refine wpOp_run (v := .int .i64 l[k].has) (w' := x) (by rfl) (by rfl) ?_ (hK _ _ ⟨l0, l1, l2, l3, true, true, l6, l7, l8, l9, l10, l11, l12, l13, u20, u21, u22, u23, u24, (.int .i64 l[k].has), u26, u27, u28, u29, u30, u31, u32, rfl, rfl, { h with p25 := fun _ => rfl, d9 := fun q => absurd (h.d9 q).2.1 (by simp) }⟩)
            rw [h.p24 rfl]
            go_simp
          · have e : l6 = false := hlx
            subst e
            refine wpOp_run (v := .slice (some ⟨b, off, none⟩) l.length cap) (w' := x) (by rfl) (by rfl) ?_ (hK _ _ ⟨l0, l1, l2, l3, l4, l5, true, l7, l8, l9, l10, l11, l12, l13, u20, u21, u22, u23, u24, u25, (.slice (some ⟨b, off, none⟩) l.length cap), u27, u28, u29, u30, u31, u32, rfl, rfl, { h with p26 := fun _ => rfl }⟩)
            go_simp
          · have e : l7 = false := hlx
            subst e
            have e11 : l11 = false := Bool.eq_false_iff.2 (fun q => by have := h.d8 (h.d9 (h.d10 (h.d11 q).2)).2.2; simp at this)
            obtain ⟨_, c1, c2, c3⟩ := h.ss e11
            refine wpOp_run (v := .agg #[.int .i64 l[k].id, .int .i64 l[k].up, .int .i64 l[k].has]) (w' := x) (by rfl) (by rfl) ?_ (hK _ _ ⟨l0, l1, l2, l3, l4, l5, l6, true, l8, l9, l10, l11, l12, l13, u20, u21, u22, u23, u24, u25, u26, (.agg #[.int .i64 l[k].id, .int .i64 l[k].up, .int .i64 l[k].has]), u28, u29, u30, u31, u32, rfl, rfl, { h with p27 := fun _ => rfl, d8 := fun q => absurd (h.d8 q) (by simp) }⟩)
            go_simp
          · have e : l8 = false := hlx
            subst e
            have d6 : l6 = true := ready_on hi 6 (by kernel_rfl)
            subst d6
            have d7 : l7 = true := ready_on hi 7 (by kernel_rfl)
            subst d7
            have e11 : l11 = false := Bool.eq_false_iff.2 (fun q => by have := (h.d9 (h.d10 (h.d11 q).2)).2.2; simp at this)
            refine wpOp_call (by rfl) (by rfl) ?_ (peersOf_any (some ⟨b, off, none⟩) l cap l[k] x hl (HC.out.below (h.wn e11).old)) ?_
            · rw [h.p26 rfl, h.p27 rfl]; go_simp
            · rintro e w' ⟨hb8, v8, rfl, ho8⟩
              exact ⟨_, rfl, hK _ _ ⟨l0, l1, l2, l3, l4, l5, true, true, true, l9, l10, l11, l12, l13, u20, u21, u22, u23, u24, u25, u26, u27, (v8), u29, u30, u31, u32, rfl, rfl, h.s8 hb8 ho8⟩⟩
          · have e : l9 = false := hlx
            subst e
            have d3 : l3 = true := ready_on hi 3 (by kernel_rfl)
            subst d3
            have d5 : l5 = true := ready_on hi 5 (by kernel_rfl)
            subst d5
            have d8 : l8 = true := ready_on hi 8 (by kernel_rfl)
            subst d8
            have e11 : l11 = false := Bool.eq_false_iff.2 (fun q => by have := (h.d10 (h.d11 q).2); simp at this)
            obtain ⟨a8, c8, e8⟩ := row_shape (h.q28 rfl e11).1
            refine wpOp_run (v := .agg #[.int .i64 l[k].id, .int .i64 l[k].has, .int .i64 0, .int .i64 0, .slice none 0 0, u28]) (w' := x) (by rfl) (by rfl) ?_ (hK _ _ ⟨l0, l1, l2, true, l4, true, l6, l7, true, true, l10, l11, l12, l13, u20, u21, u22, u23, u24, u25, u26, u27, u28, (.agg #[.int .i64 l[k].id, .int .i64 l[k].has, .int .i64 0, .int .i64 0, .slice none 0 0, u28]), u30, u31, u32, rfl, rfl, { h with q29 := fun _ => rfl, d9 := fun _ => ⟨rfl, rfl, rfl⟩, d10 := fun q => absurd (h.d10 q) (by simp) }⟩)
            rw [h.p23 rfl, h.p25 rfl, e8]
            go_simp
          · have e : l10 = false := hlx
            subst e
            have d9 : l9 = true := ready_on hi 9 (by kernel_rfl)
            subst d9
            have d8 : l8 = true := (h.d9 rfl).2.2
            subst d8
            have e11 : l11 = false := Bool.eq_false_iff.2 (fun q => by have := (h.d11 q).2; simp at this)
            obtain ⟨a8, c8, e8⟩ := row_shape (h.q28 rfl e11).1
            refine wpOp_run (v := .slice (some ⟨x.heap.size, 0, none⟩) 1 1) (w' := x.alloc (.cells #[.int .i64 l[k].id, .int .i64 l[k].has, .int .i64 0, .int .i64 0, .slice none 0 0, u28] 35)) (by rfl) (by rfl) ?_ (hK _ _ ⟨l0, l1, l2, l3, l4, l5, l6, l7, true, true, true, l11, l12, l13, u20, u21, u22, u23, u24, u25, u26, u27, u28, u29, (.slice (some ⟨x.heap.size, 0, none⟩) 1 1), u31, u32, rfl, rfl, h.s10⟩)
            rw [h.q29 rfl, e8]
            go_simp
          · have e : l11 = false := hlx
            subst e
            have d1 : l1 = true := ready_on hi 1 (by kernel_rfl)
            subst d1
            have d8 : l8 = true := ready_on hi 8 (by kernel_rfl)
            subst d8
            have d10 : l10 = true := ready_on hi 10 (by kernel_rfl)
            subst d10
            have HW := h.wn rfl
            obtain ⟨g, e30, h30⟩ := h.q30 rfl rfl
            obtain ⟨a8, c8, e8⟩ := row_shape (h.q28 rfl rfl).1
            have hsz := HW.var.lt
            have hln := HW.fst.len
            obtain ⟨v', y, hr, ho, hg, hlie⟩ := run_append_any (P := Try.prog) (w := x) (K + 1) 26 26 35 i0 _ 6 80 huN hi0 hz0 hz1 hz2 rfl (by decide) _ L.length (L.flatMap ndCells) HW.fst.row (some ⟨g, 0, none⟩) 1 1 [.int .i64 l[k].id, .int .i64 l[k].has, .int .i64 0, .int .i64 0, .slice none 0 0, u28] rfl (fun e => by cases e) (fun ad had j u hj => by cases had; exact news6 h30 j u hj) (by rw [e8]; simp [Value.oneCell']) (by unfold maxLen; omega) (by omega) (by omega)
            refine wpOp_run (v := v') (w' := y) (by rfl) (by rfl) ?_ (hK _ _ ⟨l0, true, l2, l3, l4, l5, l6, l7, true, l9, true, true, l12, l13, u20, u21, u22, u23, u24, u25, u26, u27, u28, u29, u30, (v'), u32, rfl, rfl, h.s11 hlt rfl ho hg hlie⟩)
            exact exec_append rfl (h.p21 rfl) e30 hr
          · have e : l12 = false := hlx
            subst e
            have d0 : l0 = true := ready_on hi 0 (by kernel_rfl)
            subst d0
            have d1 : l1 = true := ready_on hi 1 (by kernel_rfl)
            subst d1
            have d2 : l2 = true := ready_on hi 2 (by kernel_rfl)
            subst d2
            have d3 : l3 = true := ready_on hi 3 (by kernel_rfl)
            subst d3
            have d4 : l4 = true := ready_on hi 4 (by kernel_rfl)
            subst d4
            have d5 : l5 = true := ready_on hi 5 (by kernel_rfl)
            subst d5
            have d6 : l6 = true := ready_on hi 6 (by kernel_rfl)
            subst d6
            have d7 : l7 = true := ready_on hi 7 (by kernel_rfl)
            subst d7
            have d8 : l8 = true := ready_on hi 8 (by kernel_rfl)
            subst d8
            have d9 : l9 = true := ready_on hi 9 (by kernel_rfl)
            subst d9
            have d10 : l10 = true := ready_on hi 10 (by kernel_rfl)
            subst d10
            have d11 : l11 = true := ready_on hi 11 (by kernel_rfl)
            subst d11
            refine wpOp_run (v := .pointer (some ⟨K, 1, none⟩)) (w' := x) (by rfl) (by rfl) ?_ (hK _ _ ⟨true, true, true, true, true, true, true, true, true, true, true, true, true, l13, u20, u21, u22, u23, u24, u25, u26, u27, u28, u29, u30, u31, (.pointer (some ⟨K, 1, none⟩)), rfl, rfl, { h with p32 := fun _ => rfl, d13 := fun q => absurd (h.d13 q).2 (by simp) }⟩)
            go_simp
          · have e : l13 = false := hlx
            subst e
            have d0 : l0 = true := ready_on hi 0 (by kernel_rfl)
            subst d0
            have d1 : l1 = true := ready_on hi 1 (by kernel_rfl)
            subst d1
            have d2 : l2 = true := ready_on hi 2 (by kernel_rfl)
            subst d2
            have d3 : l3 = true := ready_on hi 3 (by kernel_rfl)
            subst d3
            have d4 : l4 = true := ready_on hi 4 (by kernel_rfl)
            subst d4
            have d5 : l5 = true := ready_on hi 5 (by kernel_rfl)
            subst d5
            have d6 : l6 = true := ready_on hi 6 (by kernel_rfl)
            subst d6
            have d7 : l7 = true := ready_on hi 7 (by kernel_rfl)
            subst d7
            have d8 : l8 = true := ready_on hi 8 (by kernel_rfl)
            subst d8
            have d9 : l9 = true := ready_on hi 9 (by kernel_rfl)
            subst d9
            have d10 : l10 = true := ready_on hi 10 (by kernel_rfl)
            subst d10
            have d11 : l11 = true := ready_on hi 11 (by kernel_rfl)
            subst d11
            have d12 : l12 = true := ready_on hi 12 (by kernel_rfl)
            subst d12
            obtain ⟨n, y1, y2, y3, y4, y5, y6, y7⟩ := h.f11 rfl rfl
            obtain ⟨a31, c31, e31⟩ := row_shape y7.row
            obtain ⟨t1, r1⟩ := y4.c 1 (by omega)
            have f1 := y4.f 1
            refine wpOp_skip (w' := x.setCell ⟨K, 1, none⟩ u31) (by rfl) (by rfl) ?_ (hK _ _ ⟨true, true, true, true, true, true, true, true, true, true, true, true, true, true, u20, u21, u22, u23, u24, u25, u26, u27, u28, u29, u30, u31, u32, rfl, rfl, h.s13⟩)
            rw [h.p32 rfl, e31]
            go_simp
        · rintro Lx act x ⟨l0, l1, l2, l3, l4, l5, l6, l7, l8, l9, l10, l11, l12, l13, u20, u21, u22, u23, u24, u25, u26, u27, u28, u29, u30, u31, u32, rfl, rfl, h⟩ hr
          have hall := ready_all hr rfl (by decide)
          have t0 : l0 = true := hall 0 (by decide)
          have t1 : l1 = true := hall 1 (by decide)
          have t2 : l2 = true := hall 2 (by decide)
          have t3 : l3 = true := hall 3 (by decide)
          have t4 : l4 = true := hall 4 (by decide)
          have t5 : l5 = true := hall 5 (by decide)
          have t6 : l6 = true := hall 6 (by decide)
          have t7 : l7 = true := hall 7 (by decide)
          have t8 : l8 = true := hall 8 (by decide)
          have t9 : l9 = true := hall 9 (by decide)
          have t10 : l10 = true := hall 10 (by decide)
          have t11 : l11 = true := hall 11 (by decide)
          have t12 : l12 = true := hall 12 (by decide)
          have t13 : l13 = true := hall 13 (by decide)
          subst t0 t1 t2 t3 t4 t5 t6 t7 t8 t9 t10 t11 t12 t13
          clear hall hr
          obtain ⟨n, HW7⟩ := h.f13 rfl
          have HW8 : Hid _ := hide HW7
          clear h HW7 HW5 HS5
          go_wp2
          exact ⟨⟨k + 1, u31, _, by omega, by go_num, HW8⟩, by simp [intOf]; omega⟩
      · have hlt' : ¬ (k : Int) < (l.length : Int) := by omega
        have hke : k = l.length := by omega
        have hlo := HW.out.lo
        have hne : K ≠ w.heap.size := by omega
        have x0 := HW.out.c0
        have x1 := HW.out.c1
        have x2 := HW.out.c2
        have hvl := HW.out.var.lt
        obtain ⟨⟨t0, r0⟩, ⟨t1, r1⟩, ⟨t2, r2⟩⟩ := And.intro (HW.out.res.c 0 (by omega)) (And.intro (HW.out.res.c 1 (by omega)) (HW.out.res.c 2 (by omega)))
        have f0 := HW.out.res.f 0
        have f1 := HW.out.res.f 1
        have f2 := HW.out.res.f 2
        have HE : Hid (NewW l w (.returned (.tuple #[.agg #[.int .i64 st, .slice va L.length vc, .slice none 0 0], .bool true])) (((wr.setCell ⟨w.heap.size, 0, none⟩ (.int .i64 st)).setCell ⟨w.heap.size, 1, none⟩ (.slice va L.length vc)).setCell ⟨w.heap.size, 2, none⟩ (.slice none 0 0))) := hide ⟨((HW.out.old.setCell (p := ⟨w.heap.size, 0, none⟩) (Nat.le_refl _) _).setCell (p := ⟨w.heap.size, 1, none⟩) (Nat.le_refl _) _).setCell (p := ⟨w.heap.size, 2, none⟩) (Nat.le_refl _) _, .slice va L.length vc, L, st, K + 1, by omega, by rw [HR.out], fun _ => ⟨HST.out.symm, by rw [← hke]; exact ((HW.out.fst.put (by omega) _).put (by omega) _).put (by omega) _⟩, fun q => (by rw [HR.out] at q; cases q)⟩
        clear HW HR HST
        go_wp2
        exact bodyPost_ret (v := .tuple #[.agg #[.int .i64 st, .slice va L.length vc, .slice none 0 0], .bool true]) (by simp [results, Try.results6, go_sem, r0, r1, r2]) rfl HE.out
end Go.Proofs.Ytilacamcedjbmaa
