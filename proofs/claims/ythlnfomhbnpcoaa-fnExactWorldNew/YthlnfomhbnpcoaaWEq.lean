/- The laws' comparisons of worlds, nodes and what they hold. -/
import Derived.Test.YthlnfomhbnpcoaaNB
namespace Go.Proofs.Ythlnfomhbnpcoaa
open Go.ChangeShapes Go.WideShapes Go.ChangeAt Go.RowKit
set_option linter.unusedVariables false
def SmP (l : List Pr) : Prop := ∀ p ∈ l, p.E.out.length ≤ 1048576
def SmL (l : List Pr) : Prop := l.length ≤ 1048576 ∧ SmP l
def SmN (n : Nd) : Prop := n.seen.length ≤ 1048576 ∧ SmL n.peers
def SmNs (l : List Nd) : Prop := l.length ≤ 1048576 ∧ ∀ n ∈ l, SmN n
def SmW (l : List Nd) (ms : List Mg) : Prop := SmNs l ∧ ms.length ≤ 1048576
theorem later_cell {W : World} {p : Addr} {v : Value} (h : W.cell? p = some v) : ∀ y : Later W, y.w.cell? p = some v := fun y => (y.below.cell (cell_lt h)).trans h
theorem box_on {w a b : World} {o : Obj} (h : Below (w.heap.size + 1) (w.alloc o) a) (k : Below a.heap.size a b) : Below (w.heap.size + 1) (w.alloc o) b :=
  h.trans (k.mono (by have := h.size; simpa using this))
theorem box_old {w wr : World} {o : Obj} (h : Below (w.heap.size + 1) (w.alloc o) wr) : Below w.heap.size w wr :=
  (below_alloc (Below.refl _ _) o).trans (h.mono (by omega))
theorem box_lt {w wr : World} {o : Obj} (h : Below (w.heap.size + 1) (w.alloc o) wr) : w.heap.size + 1 ≤ wr.heap.size := by have := h.size; simpa using this
theorem box3 {w x : World} {v0 v1 v2 : Value} {T : TypeId} (h : Below (w.heap.size + 1) (w.alloc (.cells #[v0, v1, v2] T)) x) : x.cell? ⟨w.heap.size, 0, none⟩ = some v0 ∧ x.cell? ⟨w.heap.size, 1, none⟩ = some v1 ∧ x.cell? ⟨w.heap.size, 2, none⟩ = some v2 :=
  cell_new3 (by simpa using h)
def S3 (B : Nat) (p0 p1 p2 : Value) (W0 x : World) : Prop := x.cell? ⟨B, 0, none⟩ = some p0 ∧ x.cell? ⟨B, 1, none⟩ = some p1 ∧ x.cell? ⟨B, 2, none⟩ = some p2 ∧ Hid (Below W0.heap.size W0 x)
theorem S3.of {B : Nat} {p0 p1 p2 : Value} {W0 x : World} (h : W0.cell? ⟨B, 0, none⟩ = some p0 ∧ W0.cell? ⟨B, 1, none⟩ = some p1 ∧ W0.cell? ⟨B, 2, none⟩ = some p2) (b : Below W0.heap.size W0 x) : S3 B p0 p1 p2 W0 x :=
  ⟨below_keeps b _ _ h.1, below_keeps b _ _ h.2.1, below_keeps b _ _ h.2.2, hide b⟩
theorem S3.on {B : Nat} {p0 p1 p2 : Value} {W0 x y : World} (h : S3 B p0 p1 p2 W0 x) (b : Below x.heap.size x y) : S3 B p0 p1 p2 W0 y :=
  ⟨below_keeps b _ _ h.1, below_keeps b _ _ h.2.1, below_keeps b _ _ h.2.2.1, hide (below_trans h.2.2.2.out b)⟩
theorem boxN {w x : World} {cur : Array Value} {T : TypeId} (h : Below (w.heap.size + 1) (w.alloc (.cells cur T)) x) (j : Nat) (v : Value) (hj : cur[j]? = some v) : x.cell? ⟨w.heap.size, j, none⟩ = some v :=
  (h.cell (by show w.heap.size < w.heap.size + 1; omega)).trans ((World.cell?_alloc_at _ _ _ _ rfl).trans hj)
theorem boxFree {w x : World} {cur : Array Value} {T : TypeId} (h : Below (w.heap.size + 1) (w.alloc (.cells cur T)) x) (j : Nat) : x.frozen? ⟨w.heap.size, j, none⟩ = false :=
  (h.frozen (by show w.heap.size < w.heap.size + 1; omega)).trans (frozen_of_block (cur := cur) (e := T) (by show (w.heap.push _)[w.heap.size]? = _; simp) j)
structure Blk (g : Nat) (cur : List Value) (x : World) : Prop where
  lt : g < x.heap.size
  c : ∀ j v, cur[j]? = some v → x.cell? ⟨g, j, none⟩ = some v
  f : ∀ j, x.frozen? ⟨g, j, none⟩ = false
theorem Blk.new {w : World} {cur : List Value} {T : TypeId} : Blk w.heap.size cur (w.alloc (.cells cur.toArray T)) :=
  ⟨by simp, fun j v hj => boxN (T := T) (Below.refl _ _) j v (by simpa using hj), fun j => boxFree (cur := cur.toArray) (T := T) (Below.refl _ _) j⟩
theorem Blk.below {g : Nat} {cur : List Value} {x y : World} (h : Blk g cur x) (b : Below x.heap.size x y) : Blk g cur y :=
  ⟨Nat.lt_of_lt_of_le h.lt b.size, fun j v hj => (b.cell h.lt).trans (h.c j v hj), fun j => (b.frozen h.lt).trans (h.f j)⟩
theorem Blk.alloc {g : Nat} {cur : List Value} {x : World} (h : Blk g cur x) (o : Obj) : Blk g cur (x.alloc o) := h.below (below_alloc (Below.refl _ _) _)
theorem Blk.set {g : Nat} {cur : List Value} {x : World} (h : Blk g cur x) (o : Nat) (v : Value) (ho : o < cur.length) : Blk g (cur.set o v) (x.setCell ⟨g, o, none⟩ v) :=
  ⟨by rw [size_setCell]; exact h.lt, fun j u hj => by
    by_cases e : o = j
    · subst e
      rw [List.getElem?_set_self (by simpa using ho)] at hj
      cases hj
      exact cell_set_same (h.c o cur[o] (List.getElem?_eq_getElem ho))
    · rw [List.getElem?_set_ne e] at hj
      rw [cell_set_other (.inr e)]
      exact h.c j u hj, fun j => by rw [frozen_set]; exact h.f j⟩
theorem Blk.other {g g' : Nat} {cur : List Value} {x : World} (h : Blk g cur x) (o : Nat) (v : Value) (hg : g' ≠ g) : Blk g cur (x.setCell ⟨g', o, none⟩ v) :=
  ⟨by rw [size_setCell]; exact h.lt, fun j u hj => by rw [cell_set_other (.inl hg)]; exact h.c j u hj, fun j => by rw [frozen_set]; exact h.f j⟩
set_option maxHeartbeats 1000000 in
theorem eqParcel_any (x y : Int) (w : World) :
    Calls Try.prog 49 #[.agg #[.int .i64 x, .int .i64 y], .agg #[.int .i64 x, .int .i64 y]] w fun e w' => YesEnd w e w' := by
  have h0 : (x != x) = false := by simp
  have h1 : (y != y) = false := by simp
  go_enter Try.func49, Try.ntmps49
  go_wp2
  go_ret
  exact ⟨rfl, below_alloc (below_alloc (Below.refl _ _) _) _⟩
set_option maxHeartbeats 2000000 in
theorem eqParcelS_any (a c : Option Addr) (l : List Prc) (ca cc : Nat) (w : World) (hn : l.length ≤ 1048576) (h : RowAt 2 prcCells w a l) (h' : RowAt 2 prcCells w c l) :
    Calls Try.prog 48 #[.slice a l.length ca, .slice c l.length cc] w fun e w' => YesEnd w e w' := by
  have HL : Hid _ := hide h
  have HL' : Hid _ := hide h'
  clear h h'
  have hln : ((l.length : Int) != (l.length : Int)) = false := by simp
  go_enter Try.func48, Try.ntmps48
  go_wp2
  go_loopw [5] (fun i wr => ∃ k : Nat, k ≤ l.length ∧ i = .int .i64 (k : Int) ∧ Below w.heap.size w wr) (fun i wr => l.length - (intOf i).toNat)
  case atStart => exact ⟨0, Nat.zero_le _, rfl, Below.refl _ _⟩
  case round =>
    obtain ⟨k, hk, rfl, HB⟩ := hrel
    by_cases hlt : k < l.length
    · obtain ⟨b, off, rfl, hb, d0, d1⟩ := prc_row (HL.out.below HB) k hlt
      obtain ⟨b2, off2, rfl, hc, e0, e1⟩ := prc_row (HL'.out.below HB) k hlt
      have hlt' : (k : Int) < (l.length : Int) := by omega
      have d0' := later_cell d0
      have d1' := later_cell d1
      have e0' := later_cell e0
      have e1' := later_cell e1
      clear d0 d1 e0 e1
      have hne : Nonempty (Later wr) := later_there _
      go_wp2_with fail
      refine wp_region_later wr (by kernel_rfl) (by kernel_rfl) ((Below.refl _ _).drew) ?_
      repeat (go_big_quiet_step (first | (go_at_call 49; exact later_of (eqParcel_any _ _ _))))
      refine wpQuiet_nil ?_
      intro _ hw'
      obtain ⟨nx, rfl⟩ := hw'
      go_wp2
      exact ⟨⟨k + 1, by omega, by go_num, below_trans HB nx.below⟩, by simp [intOf]; omega⟩
    · have hk' : ¬ (k : Int) < (l.length : Int) := by omega
      go_wp2
      go_ret
      exact ⟨rfl, HB⟩
set_option maxHeartbeats 2000000 in
theorem eqEnd_any (a c : Option Addr) (l : List Prc) (ca cc : Nat) (sent got : Int) (w : World) (hn : l.length ≤ 1048576) (h : RowAt 2 prcCells w a l) (h' : RowAt 2 prcCells w c l) :
    Calls Try.prog 47 #[.agg #[.slice a l.length ca, .int .i64 sent, .int .i64 got], .agg #[.slice c l.length cc, .int .i64 sent, .int .i64 got]] w fun e w' => YesEnd w e w' := by
  have HL : Hid _ := hide h
  have HL' : Hid _ := hide h'
  clear h h'
  have h1 : (sent != sent) = false := by simp
  have h2 : (got != got) = false := by simp
  obtain ⟨wa, hwa⟩ : ∃ wa, wa = w.alloc (.cells #[.slice a l.length ca, .int .i64 sent, .int .i64 got] 47) := ⟨_, rfl⟩
  obtain ⟨wb, hwb⟩ : ∃ wb, wb = wa.alloc (.cells #[.slice c l.length cc, .int .i64 sent, .int .i64 got] 47) := ⟨_, rfl⟩
  have sa : wa.heap.size = w.heap.size + 1 := by rw [hwa]; simp
  have sb : wb.heap.size = w.heap.size + 2 := by rw [hwb]; simp [sa]
  have b2 : Below (wa.heap.size + 1) (wa.alloc (.cells #[.slice c l.length cc, .int .i64 sent, .int .i64 got] 47)) wb := by rw [hwb]; exact Below.refl _ _
  have b1 : Below (w.heap.size + 1) (w.alloc (.cells #[.slice a l.length ca, .int .i64 sent, .int .i64 got] 47)) wb := by rw [hwb, ← hwa]; exact (Below.refl _ _).alloc (by omega) _
  have HBS : Hid _ := hide (And.intro b1 b2)
  have HS : Hid _ := hide (And.intro sa sb)
  have HW : Hid ((w.alloc (.cells #[.slice a l.length ca, .int .i64 sent, .int .i64 got] 47)).alloc (.cells #[.slice c l.length cc, .int .i64 sent, .int .i64 got] 47) = wb) := hide (by rw [hwb, hwa])
  clear hwa hwb sa sb b1 b2
  go_enter Try.func47, Try.ntmps47
  go_wp2_with fail
  rw [HW.out]
  refine (eqParcelS_any _ _ l _ _ wb hn (HL.out.below (box_old HBS.out.1)) (HL'.out.below (box_old HBS.out.1))).mono ?_
  rintro e w1 ⟨rfl, hb1⟩
  obtain ⟨sa, sb⟩ := HS.out
  obtain ⟨x0, x1, x2⟩ := box3 (HBS.out.1.trans (hb1.mono (by omega)))
  obtain ⟨y0, y1, y2⟩ := box3 (HBS.out.2.trans (hb1.mono (by omega)))
  rw [sa] at y0 y1 y2
  have HB : Hid _ := hide (below_trans (box_old HBS.out.1) hb1)
  clear hb1 sa sb
  go_wp2
  go_ret
  exact ⟨rfl, HB.out⟩
set_option maxHeartbeats 1000000 in
theorem eqAnswered_any (x0 x1 : Int) (w : World) :
    Calls Try.prog 45 #[.agg #[.int .i64 x0, .int .i64 x1], .agg #[.int .i64 x0, .int .i64 x1]] w fun e w' => YesEnd w e w' := by
  have h0 : (x0 != x0) = false := by simp
  have h1 : (x1 != x1) = false := by simp
  go_enter Try.func45, Try.ntmps45
  go_wp2
  go_ret
  exact ⟨rfl, below_alloc (below_alloc (Below.refl _ _) _) _⟩
set_option maxHeartbeats 4000000 in
theorem eqAnsweredS_any (a c : Option Addr) (l : List Sn) (ca cc : Nat) (w : World) (hn : l.length ≤ 1048576) (h : RowAt 2 snCells w a l) (h' : RowAt 2 snCells w c l) :
    Calls Try.prog 39 #[.slice a l.length ca, .slice c l.length cc] w fun e w' => YesEnd w e w' := by
  have HL : Hid _ := hide h
  have HL' : Hid _ := hide h'
  clear h h'
  have hln : ((l.length : Int) != (l.length : Int)) = false := by simp
  go_enter Try.func39, Try.ntmps39
  go_wp2
  go_loopw [5] (fun i wr => ∃ k : Nat, k ≤ l.length ∧ i = .int .i64 (k : Int) ∧ Below w.heap.size w wr) (fun i wr => l.length - (intOf i).toNat)
  case atStart => exact ⟨0, Nat.zero_le _, rfl, Below.refl _ _⟩
  case round =>
    obtain ⟨k, hk, rfl, HB⟩ := hrel
    by_cases hlt : k < l.length
    · obtain ⟨b, off, rfl, hb, d0, d1⟩ := sn_row (HL.out.below HB) k hlt
      obtain ⟨b2, off2, rfl, hc, e0, e1⟩ := sn_row (HL'.out.below HB) k hlt
      have hlt' : (k : Int) < (l.length : Int) := by omega
      have d0' := later_cell d0
      have d1' := later_cell d1
      have e0' := later_cell e0
      have e1' := later_cell e1
      clear d0 d1 e0 e1
      have hne : Nonempty (Later wr) := later_there _
      go_wp2_with fail
      refine wp_region_later wr (by kernel_rfl) (by kernel_rfl) ((Below.refl _ _).drew) ?_
      repeat (go_big_quiet_step (first | (go_at_call 45; exact later_of (eqAnswered_any _ _ _))))
      refine wpQuiet_nil ?_
      intro _ hw'
      obtain ⟨nx, rfl⟩ := hw'
      go_wp2
      exact ⟨⟨k + 1, by omega, by go_num, below_trans HB nx.below⟩, by simp [intOf]; omega⟩
    · have hk' : ¬ (k : Int) < (l.length : Int) := by omega
      go_wp2
      go_ret
      exact ⟨rfl, HB⟩

set_option maxHeartbeats 1000000 in
theorem eqMsg_any (x0 x1 x2 x3 x4 : Int) (w : World) :
    Calls Try.prog 32 #[.agg #[.int .i64 x0, .int .i64 x1, .int .i64 x2, .int .i64 x3, .int .i64 x4], .agg #[.int .i64 x0, .int .i64 x1, .int .i64 x2, .int .i64 x3, .int .i64 x4]] w fun e w' => YesEnd w e w' := by
  have h0 : (x0 != x0) = false := by simp
  have h1 : (x1 != x1) = false := by simp
  have h2 : (x2 != x2) = false := by simp
  have h3 : (x3 != x3) = false := by simp
  have h4 : (x4 != x4) = false := by simp
  go_enter Try.func32, Try.ntmps32
  go_wp2
  go_ret
  exact ⟨rfl, below_alloc (below_alloc (Below.refl _ _) _) _⟩
set_option maxHeartbeats 4000000 in
theorem eqMsgS_any (a c : Option Addr) (l : List Mg) (ca cc : Nat) (w : World) (hn : l.length ≤ 1048576) (h : RowAt 5 mgCells w a l) (h' : RowAt 5 mgCells w c l) :
    Calls Try.prog 20 #[.slice a l.length ca, .slice c l.length cc] w fun e w' => YesEnd w e w' := by
  have HL : Hid _ := hide h
  have HL' : Hid _ := hide h'
  clear h h'
  have hln : ((l.length : Int) != (l.length : Int)) = false := by simp
  go_enter Try.func20, Try.ntmps20
  go_wp2
  go_loopw [5] (fun i wr => ∃ k : Nat, k ≤ l.length ∧ i = .int .i64 (k : Int) ∧ Below w.heap.size w wr) (fun i wr => l.length - (intOf i).toNat)
  case atStart => exact ⟨0, Nat.zero_le _, rfl, Below.refl _ _⟩
  case round =>
    obtain ⟨k, hk, rfl, HB⟩ := hrel
    by_cases hlt : k < l.length
    · obtain ⟨b, off, rfl, hb, d0, d1, d2, d3, d4⟩ := mg_row (HL.out.below HB) k hlt
      obtain ⟨b2, off2, rfl, hc, e0, e1, e2, e3, e4⟩ := mg_row (HL'.out.below HB) k hlt
      have hlt' : (k : Int) < (l.length : Int) := by omega
      have d0' := later_cell d0
      have d1' := later_cell d1
      have d2' := later_cell d2
      have d3' := later_cell d3
      have d4' := later_cell d4
      have e0' := later_cell e0
      have e1' := later_cell e1
      have e2' := later_cell e2
      have e3' := later_cell e3
      have e4' := later_cell e4
      clear d0 d1 d2 d3 d4 e0 e1 e2 e3 e4
      have hne : Nonempty (Later wr) := later_there _
      go_wp2_with fail
      refine wp_region_later wr (by kernel_rfl) (by kernel_rfl) ((Below.refl _ _).drew) ?_
      repeat (go_big_quiet_step (first | (go_at_call 32; exact later_of (eqMsg_any _ _ _ _ _ _))))
      refine wpQuiet_nil ?_
      intro _ hw'
      obtain ⟨nx, rfl⟩ := hw'
      go_wp2
      exact ⟨⟨k + 1, by omega, by go_num, below_trans HB nx.below⟩, by simp [intOf]; omega⟩
    · have hk' : ¬ (k : Int) < (l.length : Int) := by omega
      go_wp2
      go_ret
      exact ⟨rfl, HB⟩

set_option maxHeartbeats 2000000 in
theorem eqPeer_any (id : Int) (a c : Option Addr) (ca cc : Nat) (E : En) (w : World) (hn : E.out.length ≤ 1048576) (h : RowAt 2 prcCells w a E.out) (h' : RowAt 2 prcCells w c E.out) :
    Calls Try.prog 46 #[.agg #[.int .i64 id, .slice a E.out.length ca, .int .i64 E.sent, .int .i64 E.got], .agg #[.int .i64 id, .slice c E.out.length cc, .int .i64 E.sent, .int .i64 E.got]] w fun e w' => YesEnd w e w' := by
  have HL : Hid _ := hide h
  have HL' : Hid _ := hide h'
  clear h h'
  have h1 : (id != id) = false := by simp
  go_enter Try.func46, Try.ntmps46
  go_wp2_with fail
  refine (eqEnd_any _ _ E.out _ _ _ _ _ hn (HL.out.below (below_alloc (below_alloc (Below.refl _ _) _) _)) (HL'.out.below (below_alloc (below_alloc (Below.refl _ _) _) _))).mono ?_
  rintro e w1 ⟨rfl, hb1⟩
  have HB : Hid (Below w.heap.size w w1) := hide (below_trans (below_alloc (below_alloc (Below.refl _ _) _) _) hb1)
  clear hb1
  go_wp2
  go_ret
  exact ⟨rfl, HB.out⟩
theorem same_at {l l' : List Pr} (h : l'.map Pr.d = l.map Pr.d) {k : Nat} (hk : k < l.length) : ∃ hk' : k < l'.length, (l'[k]).id = (l[k]).id ∧ (l'[k]).E = (l[k]).E := by
  have hl : l'.length = l.length := by have := congrArg List.length h; simpa using this
  have hk' : k < l'.length := by omega
  have e := congrArg (fun m => m[k]?) h
  simp only [List.getElem?_map, List.getElem?_eq_getElem hk, List.getElem?_eq_getElem hk', Option.map_some, Option.some.injEq] at e
  exact ⟨hk', congrArg PD.id e, congrArg PD.E e⟩
set_option maxHeartbeats 4000000 in
theorem eqPeerS_any (a c : Option Addr) (l l' : List Pr) (ca cc : Nat) (w : World) (hn : l.length ≤ 1048576) (hsm : SmP l) (hd : l'.map Pr.d = l.map Pr.d) (h : PeersAt w a l) (h' : PeersAt w c l') :
    Calls Try.prog 40 #[.slice a l.length ca, .slice c l.length cc] w fun e w' => YesEnd w e w' := by
  have HL : Hid _ := hide h
  have HL' : Hid _ := hide h'
  have HD : Hid _ := hide hd
  clear h h' hd
  have hln : ((l.length : Int) != (l.length : Int)) = false := by simp
  go_enter Try.func40, Try.ntmps40
  go_wp2
  go_loopw [5] (fun i wr => ∃ k : Nat, k ≤ l.length ∧ i = .int .i64 (k : Int) ∧ Below w.heap.size w wr) (fun i wr => l.length - (intOf i).toNat)
  case atStart => exact ⟨0, Nat.zero_le _, rfl, Below.refl _ _⟩
  case round =>
    obtain ⟨k, hk, rfl, HB⟩ := hrel
    by_cases hlt : k < l.length
    · obtain ⟨hk2, hid, hE⟩ := same_at HD.out hlt
      obtain ⟨b, off, rfl, hb, d0, d1, d2, d3⟩ := pr_row (HL.out.row.below HB) k hlt
      obtain ⟨b2, off2, rfl, hc, e0, e1, e2, e3⟩ := pr_row (HL'.out.row.below HB) k hk2
      have HR : Hid _ := hide ((HL.out.ends (l[k]) (List.getElem_mem hlt)).below HB)
      have HR' : Hid _ := hide ((HL'.out.ends (l'[k]) (List.getElem_mem hk2)).below HB)
      rw [hid] at e0
      rw [hE] at e1 e2 e3 HR'
      have HSm : Hid _ := hide (hsm _ (List.getElem_mem hlt))
      have hlt' : (k : Int) < (l.length : Int) := by omega
      have d0' := later_cell d0
      have d1' := later_cell d1
      have d2' := later_cell d2
      have d3' := later_cell d3
      have e0' := later_cell e0
      have e1' := later_cell e1
      have e2' := later_cell e2
      have e3' := later_cell e3
      clear d0 d1 d2 d3 e0 e1 e2 e3 hid hE
      have hne : Nonempty (Later wr) := later_there _
      go_wp2_with fail
      refine wp_region_later wr (by kernel_rfl) (by kernel_rfl) ((Below.refl _ _).drew) ?_
      repeat (go_big_quiet_step (first | (go_at_call 46; exact later_of (eqPeer_any _ _ _ _ _ _ _ HSm.out (HR.out.below (Later.below _)) (HR'.out.below (Later.below _))))))
      refine wpQuiet_nil ?_
      intro _ hw'
      obtain ⟨nx, rfl⟩ := hw'
      go_wp2
      exact ⟨⟨k + 1, by omega, by go_num, below_trans HB nx.below⟩, by simp [intOf]; omega⟩
    · have hk' : ¬ (k : Int) < (l.length : Int) := by omega
      go_wp2
      go_ret
      exact ⟨rfl, HB⟩

set_option maxRecDepth 100000 in
set_option maxHeartbeats 4000000 in
theorem eqNode_any (id has spent earned : Int) (seen : List Sn) (l l' : List Pr) (sa sa' pa pa' : Option Addr) (sc sc' pc pc' : Nat) (w : World) (hn : seen.length ≤ 1048576) (hm : SmL l) (hd : l'.map Pr.d = l.map Pr.d) (h1 : RowAt 2 snCells w sa seen) (h1' : RowAt 2 snCells w sa' seen) (h2 : PeersAt w pa l) (h2' : PeersAt w pa' l') :
    Calls Try.prog 31 #[.agg #[.int .i64 id, .int .i64 has, .int .i64 spent, .int .i64 earned, .slice sa seen.length sc, .slice pa l.length pc], .agg #[.int .i64 id, .int .i64 has, .int .i64 spent, .int .i64 earned, .slice sa' seen.length sc', .slice pa' l.length pc']] w fun e w' => YesEnd w e w' := by
  have H1 : Hid _ := hide (And.intro h1 h1')
  have H2 : Hid _ := hide (And.intro h2 h2')
  have HD : Hid _ := hide hd
  have HM : Hid _ := hide hm
  clear h1 h1' h2 h2' hd hm
  have i0 : (id != id) = false := by simp
  have i1 : (has != has) = false := by simp
  have i2 : (spent != spent) = false := by simp
  have i3 : (earned != earned) = false := by simp
  obtain ⟨wa, hwa⟩ : ∃ wa, wa = w.alloc (.cells #[.int .i64 id, .int .i64 has, .int .i64 spent, .int .i64 earned, .slice sa seen.length sc, .slice pa l.length pc] 44) := ⟨_, rfl⟩
  obtain ⟨wb, hwb⟩ : ∃ wb, wb = wa.alloc (.cells #[.int .i64 id, .int .i64 has, .int .i64 spent, .int .i64 earned, .slice sa' seen.length sc', .slice pa' l.length pc'] 44) := ⟨_, rfl⟩
  have sa0 : wa.heap.size = w.heap.size + 1 := by rw [hwa]; simp
  have kA : Blk w.heap.size [.int .i64 id, .int .i64 has, .int .i64 spent, .int .i64 earned, .slice sa seen.length sc, .slice pa l.length pc] wb := by rw [hwb, hwa]; exact Blk.new.alloc _
  have kB : Blk (w.heap.size + 1) [.int .i64 id, .int .i64 has, .int .i64 spent, .int .i64 earned, .slice sa' seen.length sc', .slice pa' l.length pc'] wb := by rw [← sa0, hwb]; exact Blk.new
  have b2 : Below w.heap.size w wb := by rw [hwb, hwa]; exact below_alloc (below_alloc (Below.refl _ _) _) _
  have HW : Hid ((w.alloc (.cells #[.int .i64 id, .int .i64 has, .int .i64 spent, .int .i64 earned, .slice sa seen.length sc, .slice pa l.length pc] 44)).alloc (.cells #[.int .i64 id, .int .i64 has, .int .i64 spent, .int .i64 earned, .slice sa' seen.length sc', .slice pa' l.length pc'] 44) = wb) := hide (by rw [hwb, hwa])
  clear hwa hwb sa0
  have HB2 : Hid _ := hide b2
  have KA : Hid _ := hide kA
  have KB : Hid _ := hide kB
  clear kA kB b2
  go_enter Try.func31, Try.ntmps31
  go_wp2_with fail
  rw [HW.out]
  refine (eqAnsweredS_any _ _ seen _ _ wb hn (H1.out.1.below HB2.out) (H1.out.2.below HB2.out)).mono ?_
  rintro e w1 ⟨rfl, hb1⟩
  have y5 := (KA.out.below hb1).c 5 _ rfl
  have z5 := (KB.out.below hb1).c 5 _ rfl
  have HB : Hid (Below w.heap.size w w1) := hide (below_trans HB2.out hb1)
  clear hb1
  go_wp2_with fail
  refine (eqPeerS_any _ _ l l' _ _ w1 HM.out.1 HM.out.2 HD.out (H2.out.1.below HB.out) (H2.out.2.below HB.out)).mono ?_
  rintro e w2 ⟨rfl, hb2⟩
  have HB3 : Hid (Below w.heap.size w w2) := hide (below_trans HB.out hb2)
  clear hb2 y5 z5
  go_wp2
  go_ret
  exact ⟨rfl, HB3.out⟩
theorem same_len {l l' : List Pr} (h : l'.map Pr.d = l.map Pr.d) : l'.length = l.length := by have := congrArg List.length h; simpa using this
theorem same_small {l l' : List Pr} (h : l'.map Pr.d = l.map Pr.d) (hs : SmP l) : SmP l' := fun p hp => by
  obtain ⟨k, hk, rfl⟩ := List.mem_iff_getElem.1 hp
  obtain ⟨_, _, e⟩ := same_at h (show k < l.length by have := same_len h; omega)
  rw [e]
  exact hs _ (List.getElem_mem _)
theorem samen_len {l l' : List Nd} (h : l'.map Nd.d = l.map Nd.d) : l'.length = l.length := by have := congrArg List.length h; simpa using this
theorem samen_at {l l' : List Nd} (h : l'.map Nd.d = l.map Nd.d) {k : Nat} (hk : k < l.length) : ∃ hk' : k < l'.length, (l'[k]).d = (l[k]).d := by
  have hk' : k < l'.length := by rw [samen_len h]; exact hk
  have e := congrArg (fun m => m[k]?) h
  simp only [List.getElem?_map, List.getElem?_eq_getElem hk, List.getElem?_eq_getElem hk', Option.map_some, Option.some.injEq] at e
  exact ⟨hk', e⟩
theorem smN_same {n n' : Nd} (h : n'.d = n.d) (hs : SmN n) : SmN n' := by
  have e1 : n'.seen = n.seen := congrArg NdD.seen h
  have e2 : n'.peers.map Pr.d = n.peers.map Pr.d := congrArg NdD.peers h
  exact ⟨by rw [e1]; exact hs.1, by rw [same_len e2]; exact hs.2.1, same_small e2 hs.2.2⟩
theorem smNs_same {l l' : List Nd} (h : l'.map Nd.d = l.map Nd.d) (hs : SmNs l) : SmNs l' := ⟨by rw [samen_len h]; exact hs.1, fun n hn => by
  obtain ⟨k, hk, rfl⟩ := List.mem_iff_getElem.1 hn
  obtain ⟨_, e⟩ := samen_at h (show k < l.length by rw [← samen_len h]; exact hk)
  exact smN_same e (hs.2 _ (List.getElem_mem _))⟩
/-- two nodes of the same data are told to be equal -/
theorem eqNode2 (n n' : Nd) (w : World) (hd : n'.d = n.d) (hm : SmN n) (h : NodeAt w n) (h' : NodeAt w n') :
    Calls Try.prog 31 #[.agg #[.int .i64 n.id, .int .i64 n.has, .int .i64 n.spent, .int .i64 n.earned, .slice n.sa n.seen.length n.sc, .slice n.pa n.peers.length n.pc], .agg #[.int .i64 n'.id, .int .i64 n'.has, .int .i64 n'.spent, .int .i64 n'.earned, .slice n'.sa n'.seen.length n'.sc, .slice n'.pa n'.peers.length n'.pc]] w fun e w' => YesEnd w e w' := by
  have e0 : n'.id = n.id := congrArg NdD.id hd
  have e1 : n'.has = n.has := congrArg NdD.has hd
  have e2 : n'.spent = n.spent := congrArg NdD.spent hd
  have e3 : n'.earned = n.earned := congrArg NdD.earned hd
  have e4 : n'.seen = n.seen := congrArg NdD.seen hd
  have e5 : n'.peers.map Pr.d = n.peers.map Pr.d := congrArg NdD.peers hd
  have t := eqNode_any n.id n.has n.spent n.earned n.seen n.peers n'.peers n.sa n'.sa n.pa n'.pa n.sc n'.sc n.pc n'.pc w hm.1 hm.2 e5 h.seen (by rw [← e4]; exact h'.seen) h.peers h'.peers
  rw [e0, e1, e2, e3, e4, same_len e5]
  exact t
set_option maxHeartbeats 4000000 in
theorem eqNodeS_any (a c : Option Addr) (l l' : List Nd) (ca cc : Nat) (w : World) (hsm : SmNs l) (hd : l'.map Nd.d = l.map Nd.d) (h : NodesAt w a l) (h' : NodesAt w c l') :
    Calls Try.prog 19 #[.slice a l.length ca, .slice c l.length cc] w fun e w' => YesEnd w e w' := by
  have HL : Hid _ := hide h
  have HL' : Hid _ := hide h'
  have HD : Hid _ := hide hd
  have HM : Hid _ := hide hsm
  have hn := hsm.1
  clear h h' hd hsm
  have hln : ((l.length : Int) != (l.length : Int)) = false := by simp
  go_enter Try.func19, Try.ntmps19
  go_wp2
  go_loopw [5] (fun i wr => ∃ k : Nat, k ≤ l.length ∧ i = .int .i64 (k : Int) ∧ Below w.heap.size w wr) (fun i wr => l.length - (intOf i).toNat)
  case atStart => exact ⟨0, Nat.zero_le _, rfl, Below.refl _ _⟩
  case round =>
    obtain ⟨k, hk, rfl, HB⟩ := hrel
    by_cases hlt : k < l.length
    · obtain ⟨hk2, hdk⟩ := samen_at HD.out hlt
      obtain ⟨b, off, rfl, hb, d0, d1, d2, d3, d4, d5⟩ := nd_row (HL.out.row.below HB) k hlt
      obtain ⟨b2, off2, rfl, hc, e0, e1, e2, e3, e4, e5⟩ := nd_row (HL'.out.row.below HB) k hk2
      have HDk : Hid _ := hide hdk
      have HR : Hid _ := hide ((HL.out.each (l[k]) (List.getElem_mem hlt)).below HB)
      have HR' : Hid _ := hide ((HL'.out.each (l'[k]) (List.getElem_mem hk2)).below HB)
      have HSm : Hid _ := hide (HM.out.2 _ (List.getElem_mem hlt))
      have hlt' : (k : Int) < (l.length : Int) := by omega
      have d0' := later_cell d0
      have e0' := later_cell e0
      have d1' := later_cell d1
      have e1' := later_cell e1
      have d2' := later_cell d2
      have e2' := later_cell e2
      have d3' := later_cell d3
      have e3' := later_cell e3
      have d4' := later_cell d4
      have e4' := later_cell e4
      have d5' := later_cell d5
      have e5' := later_cell e5
      clear d0 d1 d2 d3 d4 d5 e0 e1 e2 e3 e4 e5 hdk
      have hne : Nonempty (Later wr) := later_there _
      go_wp2_with fail
      refine wp_region_later wr (by kernel_rfl) (by kernel_rfl) ((Below.refl _ _).drew) ?_
      repeat (go_big_quiet_step (first | (go_at_call 31; exact later_of (eqNode2 l[k] l'[k] _ HDk.out HSm.out (HR.out.below (Later.below _)) (HR'.out.below (Later.below _))))))
      refine wpQuiet_nil ?_
      intro _ hw'
      obtain ⟨nx, rfl⟩ := hw'
      go_wp2
      exact ⟨⟨k + 1, by omega, by go_num, below_trans HB nx.below⟩, by simp [intOf]; omega⟩
    · have hk' : ¬ (k : Int) < (l.length : Int) := by omega
      go_wp2
      go_ret
      exact ⟨rfl, HB⟩
set_option maxHeartbeats 4000000 in
theorem eqWorld_any (st : Int) (l l' : List Nd) (ms : List Mg) (na na' ma ma' : Option Addr) (nc nc' mc mc' : Nat) (w : World) (hsm : SmW l ms) (hd : l'.map Nd.d = l.map Nd.d) (h1 : NodesAt w na l) (h1' : NodesAt w na' l') (h2 : RowAt 5 mgCells w ma ms) (h2' : RowAt 5 mgCells w ma' ms) :
    Calls Try.prog 8 #[.agg #[.int .i64 st, .slice na l.length nc, .slice ma ms.length mc], .agg #[.int .i64 st, .slice na' l.length nc', .slice ma' ms.length mc']] w fun e w' => YesEnd w e w' := by
  have H1 : Hid _ := hide (And.intro h1 h1')
  have H2 : Hid _ := hide (And.intro h2 h2')
  have HD : Hid _ := hide hd
  have HM : Hid _ := hide hsm
  clear h1 h1' h2 h2' hd hsm
  have i0 : (st != st) = false := by simp
  obtain ⟨wa, hwa⟩ : ∃ wa, wa = w.alloc (.cells #[.int .i64 st, .slice na l.length nc, .slice ma ms.length mc] 27) := ⟨_, rfl⟩
  obtain ⟨wb, hwb⟩ : ∃ wb, wb = wa.alloc (.cells #[.int .i64 st, .slice na' l.length nc', .slice ma' ms.length mc'] 27) := ⟨_, rfl⟩
  have sa0 : wa.heap.size = w.heap.size + 1 := by rw [hwa]; simp
  have kA : Blk w.heap.size [.int .i64 st, .slice na l.length nc, .slice ma ms.length mc] wb := by rw [hwb, hwa]; exact Blk.new.alloc _
  have kB : Blk (w.heap.size + 1) [.int .i64 st, .slice na' l.length nc', .slice ma' ms.length mc'] wb := by rw [← sa0, hwb]; exact Blk.new
  have b2 : Below w.heap.size w wb := by rw [hwb, hwa]; exact below_alloc (below_alloc (Below.refl _ _) _) _
  have HW : Hid ((w.alloc (.cells #[.int .i64 st, .slice na l.length nc, .slice ma ms.length mc] 27)).alloc (.cells #[.int .i64 st, .slice na' l.length nc', .slice ma' ms.length mc'] 27) = wb) := hide (by rw [hwb, hwa])
  clear hwa hwb sa0
  have HB2 : Hid _ := hide b2
  have KA : Hid _ := hide kA
  have KB : Hid _ := hide kB
  clear kA kB b2
  go_enter Try.func8, Try.ntmps8
  go_wp2_with fail
  rw [HW.out]
  refine (eqNodeS_any _ _ l l' _ _ wb HM.out.1 HD.out (H1.out.1.below HB2.out) (H1.out.2.below HB2.out)).mono ?_
  rintro e w1 ⟨rfl, hb1⟩
  have y2 := (KA.out.below hb1).c 2 _ rfl
  have z2 := (KB.out.below hb1).c 2 _ rfl
  have HB : Hid (Below w.heap.size w w1) := hide (below_trans HB2.out hb1)
  clear hb1
  go_wp2_with fail
  refine (eqMsgS_any _ _ ms _ _ w1 HM.out.2 (H2.out.1.below HB.out) (H2.out.2.below HB.out)).mono ?_
  rintro e w2 ⟨rfl, hb2⟩
  have HB3 : Hid (Below w.heap.size w w2) := hide (below_trans HB.out hb2)
  clear hb2 y2 z2
  go_wp2
  go_ret
  exact ⟨rfl, HB3.out⟩
end Go.Proofs.Ythlnfomhbnpcoaa
