/- The model's copy of a ledger owns its memory. -/
import Derived.Test.YteaopalhbnhbaaaGreatDoorGc
import Derived.Deep.CutRange
import Derived.Deep.CutBlock
namespace Go.Proofs.YteaopalhbnhbaaaGreatDoor
open Go.ChangeShapes Go.WideShapes Go.ChangeAt Go.RowKit
set_option linter.unusedVariables false
set_option maxRecDepth 100000
theorem infoAcc : (Tryz.prog.info? 50).map (fun i => (i.zero, i.size, i.bytes)) = some (some (.agg #[.string ByteArray.empty, .string ByteArray.empty, .int .i64 0, .int .i64 0]), 4, 48) := by kernel_rfl
theorem infoHld : (Tryz.prog.info? 53).map (fun i => (i.zero, i.size, i.bytes)) = some (some (.agg #[.int .i64 0, .string ByteArray.empty, .string ByteArray.empty, .int .i64 0]), 4, 48) := by kernel_rfl
theorem infoSn : (Tryz.prog.info? 55).map (fun i => (i.zero, i.size, i.bytes)) = some (some (.agg #[.int .i64 0, .int .i64 0]), 2, 16) := by kernel_rfl
theorem hld_one' (l : List Hld) : ∀ u ∈ l.flatMap hldCells, u.oneCell' = true := hld_one l
theorem sn_one' (l : List Sn) : ∀ u ∈ l.flatMap snCells, u.oneCell' = true := fun u hu => by
  simp only [List.mem_flatMap, snCells, List.mem_cons, List.not_mem_nil, or_false] at hu
  obtain ⟨x, _, rfl | rfl⟩ := hu <;> rfl
theorem row_shape {w : World} {base : Nat} {e : TypeId} {size : Nat} {v : Value} {n : Nat} {xs : List Value} (h : w.ownsRow base e size v n xs) : ∃ a c, v = .slice a n c := by
  obtain ⟨_, ⟨h0, h1⟩ | ⟨g, cap, cur, h1, _⟩⟩ := h
  · exact ⟨none, 0, by rw [h0, h1]⟩
  · exact ⟨_, _, h1⟩
/-- a row as a list of what it holds -/
theorem Pool.toOrow {A : Type} {sz : Nat} {f : A → List Value} (hf : ∀ x, (f x).length = sz) {F : List Nat} {w x : World} {S : List (List Rs)} (h : Pool F w S x) {i : Nat} {T : TypeId} {v : Value} {l : List A} (hi : S[i]? = some [row T sz v l.length (l.flatMap f)]) : ∃ a c, v = .slice a l.length c ∧ SlOk a c l.length ∧ Pool F w (S.set i [orow sz f a c l]) x := by
  obtain ⟨a, c, e, st, hb⟩ := Star.of_row hf (h.rowAt hi)
  subst e
  have ho := h.rowAt hi
  have hn : Near a := by
    obtain ⟨_, ⟨h0, h1⟩ | ⟨g', cap, cur, h1, _⟩⟩ := ho
    · simp only [Value.slice.injEq] at h0
      intro x hx; rw [h0.1] at hx; cases hx
    · simp only [Value.slice.injEq] at h1
      intro x hx; rw [h1.1] at hx; cases hx; exact ⟨_, _, rfl⟩
  have hr := (st.get (r := orow sz f a c l) (by simp)).2
  exact ⟨a, c, rfl, ⟨hn, hr.nocap, hr.room⟩, h.step hi (Fr.refl _ _) st (fun b q => .inl (by rw [fps_one, row_fp]; exact hb b q))⟩
/-- what the copy gives -/
def CopyEnd (L : Led) (w : World) (e : Ending) (w' : World) : Prop := ∃ q : LP, e = .returned (ledV q L) ∧ PlOk q L ∧ Pool [] w [ledL q L] w'
structure CpF (p : LP) (D : Led) (s : Nat) (w : World) (l0 l1 l2 l3 l4 l5 l6 l7 l8 l9 l10 l11 l12 l13 : Bool) (u3 u4 u5 u6 u7 u8 u9 u10 u11 u12 u13 u14 u15 : Value) (x : World) : Prop where
  pool : Pool [] w [cond l3 [row 50 4 u6 D.acc.length (D.acc.flatMap accCells)] (cond l0 [row 50 4 u3 0 []] []), cond l7 [row 53 4 u10 D.hold.length (D.hold.flatMap hldCells)] (cond l4 [row 53 4 u7 0 []] []), cond l11 [row 55 2 u14 D.seen.length (D.seen.flatMap snCells)] (cond l8 [row 55 2 u11 0 []] []), [blk s (ledC p D)], cond l13 [blk (s + 1) [u6, u10, u14]] [blk (s + 1) [.slice none 0 0, .slice none 0 0, .slice none 0 0]]] x
  q15 : l12 = true → u15 = .agg #[u6, u10, u14]
  d3_0 : l3 = true → l0 = true
  d7_4 : l7 = true → l4 = true
  d11_8 : l11 = true → l8 = true
  d12_3 : l12 = true → l3 = true
  d12_7 : l12 = true → l7 = true
  d12_11 : l12 = true → l11 = true
  d13_12 : l13 = true → l12 = true
  d13_3 : l13 = true → l3 = true
  d13_7 : l13 = true → l7 = true
  d13_11 : l13 = true → l11 = true
  p4 : l1 = true → u4 = .pointer (some ⟨s, 0, none⟩)
  p5 : l2 = true → u5 = .slice p.aa D.acc.length p.ca
  p8 : l5 = true → u8 = .pointer (some ⟨s, 1, none⟩)
  p9 : l6 = true → u9 = .slice p.ha D.hold.length p.ch
  p12 : l9 = true → u12 = .pointer (some ⟨s, 2, none⟩)
  p13 : l10 = true → u13 = .slice p.sa D.seen.length p.cs
set_option maxHeartbeats 4000000 in
theorem l2Copy_any (p : LP) (D : Led) (w : World) (n1 : D.acc.length ≤ 1048576) (n2 : D.hold.length ≤ 1048576) (n3 : D.seen.length ≤ 1048576) (hpk : PlOk p D) (h : LedAt w p.aa p.ha p.sa D) :
    Calls Tryz.prog 99 #[ledV p D] w fun e w' => CopyEnd D w e w' := by
  have HL : Hid _ := hide h
  have k1 := hpk.a.nocap
  have k2 := hpk.h.nocap
  have k3 := hpk.s.nocap
  clear h
  obtain ⟨W2, hW2⟩ : ∃ W2, W2 = (w.alloc (.cells #[.slice p.aa D.acc.length p.ca, .slice p.ha D.hold.length p.ch, .slice p.sa D.seen.length p.cs] 28)).alloc (.cells #[.slice none 0 0, .slice none 0 0, .slice none 0 0] 28) := ⟨_, rfl⟩
  have HP0 : Hid (Pool [] w [[], [], [], [blk w.heap.size (ledC p D)], [blk (w.heap.size + 1) [.slice none 0 0, .slice none 0 0, .slice none 0 0]]] W2) := hide (by
    have p1 := (Pool.start w [[], [], [], [], []] rfl).newBlk (i := 3) rfl (ledC p D) 28
    have s1 : (w.alloc (.cells (ledC p D).toArray 28)).heap.size = w.heap.size + 1 := by simp
    have p2 := p1.newBlk (i := 4) rfl [.slice none 0 0, .slice none 0 0, .slice none 0 0] 28
    rw [s1] at p2
    rw [hW2]
    exact p2)
  have HW2 : Hid (_ = W2) := hide hW2.symm
  clear hW2
  unfold ledV
  go_enter Tryz.func99, Tryz.ntmps99
  go_upto_region 1 with fail
  rw [HW2.out]
  rename_i K0 hK0
  obtain ⟨i0, hi0, hz0, hy0, hx0⟩ : ∃ i, Tryz.prog.info? 50 = some i ∧ i.zero = some (.agg #[.string ByteArray.empty, .string ByteArray.empty, .int .i64 0, .int .i64 0]) ∧ i.size = 4 ∧ i.bytes = 48 := by
    have q := infoAcc
    rw [Option.map_eq_some_iff] at q
    obtain ⟨i, q1, q2⟩ := q
    simp only [Prod.mk.injEq] at q2
    exact ⟨i, q1, q2.1, q2.2.1, q2.2.2⟩
  obtain ⟨i1, hi1, hz1, hy1, hx1⟩ : ∃ i, Tryz.prog.info? 53 = some i ∧ i.zero = some (.agg #[.int .i64 0, .string ByteArray.empty, .string ByteArray.empty, .int .i64 0]) ∧ i.size = 4 ∧ i.bytes = 48 := by
    have q := infoHld
    rw [Option.map_eq_some_iff] at q
    obtain ⟨i, q1, q2⟩ := q
    simp only [Prod.mk.injEq] at q2
    exact ⟨i, q1, q2.1, q2.2.1, q2.2.2⟩
  obtain ⟨i2, hi2, hz2, hy2, hx2⟩ : ∃ i, Tryz.prog.info? 55 = some i ∧ i.zero = some (.agg #[.int .i64 0, .int .i64 0]) ∧ i.size = 2 ∧ i.bytes = 16 := by
    have q := infoSn
    rw [Option.map_eq_some_iff] at q
    obtain ⟨i, q1, q2⟩ := q
    simp only [Prod.mk.injEq] at q2
    exact ⟨i, q1, q2.1, q2.2.1, q2.2.2⟩
  refine wp_region_inv (by kernel_rfl) (fun L act x => ∃ l0 l1 l2 l3 l4 l5 l6 l7 l8 l9 l10 l11 l12 l13 : Bool, ∃ u3 u4 u5 u6 u7 u8 u9 u10 u11 u12 u13 u14 u15 : Value, L = #[l0, l1, l2, l3, l4, l5, l6, l7, l8, l9, l10, l11, l12, l13] ∧ act = { tmps := #[Value.agg #[Value.slice p.aa D.acc.length p.ca, Value.slice p.ha D.hold.length p.ch, Value.slice p.sa D.seen.length p.cs], Value.pointer (some { block := w.heap.size, off := 0 }), Value.pointer (some { block := w.heap.size + 1, off := 0 }), u3, u4, u5, u6, u7, u8, u9, u10, u11, u12, u13, u14, u15], defers := [] } ∧ CpF p D w.heap.size w l0 l1 l2 l3 l4 l5 l6 l7 l8 l9 l10 l11 l12 l13 u3 u4 u5 u6 u7 u8 u9 u10 u11 u12 u13 u14 u15 x) ?_ ?_ ?_
  rotate_left 2
  · exact ⟨false, false, false, false, false, false, false, false, false, false, false, false, false, false, (undef), (undef), (undef), (undef), (undef), (undef), (undef), (undef), (undef), (undef), (undef), (undef), (undef), rfl, rfl, ⟨HP0.out.drew, fun q => (by cases q), fun q => (by cases q), fun q => (by cases q), fun q => (by cases q), fun q => (by cases q), fun q => (by cases q), fun q => (by cases q), fun q => (by cases q), fun q => (by cases q), fun q => (by cases q), fun q => (by cases q), fun q => (by cases q), fun q => (by cases q), fun q => (by cases q), fun q => (by cases q), fun q => (by cases q), fun q => (by cases q)⟩⟩
  · rintro L act x i ⟨l0, l1, l2, l3, l4, l5, l6, l7, l8, l9, l10, l11, l12, l13, u3, u4, u5, u6, u7, u8, u9, u10, u11, u12, u13, u14, u15, rfl, rfl, h⟩ hi K hK
    have hi15 : i < 14 := by
      obtain ⟨_, o, ho, _⟩ := mem_ready.1 hi
      exact (Array.getElem?_eq_some_iff.1 ho).1
    have hl := (mem_ready.1 hi).1
    obtain rfl | rfl | rfl | rfl | rfl | rfl | rfl | rfl | rfl | rfl | rfl | rfl | rfl | rfl := (by omega : i = 0 ∨ i = 1 ∨ i = 2 ∨ i = 3 ∨ i = 4 ∨ i = 5 ∨ i = 6 ∨ i = 7 ∨ i = 8 ∨ i = 9 ∨ i = 10 ∨ i = 11 ∨ i = 12 ∨ i = 13)
    · have e : l0 = false := hl
      subst e
      have z3 : l3 = false := by
        cases hz : l3
        · rfl
        · exact absurd (h.d3_0 hz) (by simp)
      subst z3
      refine wpOp_run (v := .slice (some ⟨x.heap.size, 0, none⟩) 0 0) (w' := x.alloc (.cells #[] 50)) (by rfl) (by rfl) ?_ (hK _ _ ⟨true, l1, l2, false, l4, l5, l6, l7, l8, l9, l10, l11, l12, l13, (.slice (some ⟨x.heap.size, 0, none⟩) 0 0), u4, u5, u6, u7, u8, u9, u10, u11, u12, u13, u14, u15, rfl, rfl, { h with pool := (h.pool.newRow (i := 0) rfl 50 4), d3_0 := fun _ => rfl }⟩)
      go_simp
    · have e : l1 = false := hl
      subst e
      refine wpOp_run (v := .pointer (some ⟨w.heap.size, 0, none⟩)) (w' := x) (by rfl) (by rfl) ?_ (hK _ _ ⟨l0, true, l2, l3, l4, l5, l6, l7, l8, l9, l10, l11, l12, l13, u3, (.pointer (some ⟨w.heap.size, 0, none⟩)), u5, u6, u7, u8, u9, u10, u11, u12, u13, u14, u15, rfl, rfl, { h with p4 := fun _ => rfl }⟩)
      go_simp
    · have e : l2 = false := hl
      subst e
      have d1 : l1 = true := ready_on hi 1 (by kernel_rfl)
      subst d1
      have c0 : x.cell? ⟨w.heap.size, 0, none⟩ = some (.slice p.aa D.acc.length p.ca) := (h.pool.blkAt (i := 3) rfl).c 0 _ rfl
      refine wpOp_run (v := .slice p.aa D.acc.length p.ca) (w' := x) (by rfl) (by rfl) ?_ (hK _ _ ⟨l0, true, true, l3, l4, l5, l6, l7, l8, l9, l10, l11, l12, l13, u3, u4, (.slice p.aa D.acc.length p.ca), u6, u7, u8, u9, u10, u11, u12, u13, u14, u15, rfl, rfl, { h with p5 := fun _ => rfl }⟩)
      rw [h.p4 rfl]
      go_simp
    · have e : l3 = false := hl
      subst e
      have d0 : l0 = true := ready_on hi 0 (by kernel_rfl)
      subst d0
      have d2 : l2 = true := ready_on hi 2 (by kernel_rfl)
      subst d2
      have z12 : l12 = false := by
        cases hz : l12
        · rfl
        · exact absurd (h.d12_3 hz) (by simp)
      subst z12
      have z13 : l13 = false := by
        cases hz : l13
        · rfl
        · exact absurd (h.d13_3 hz) (by simp)
      subst z13
      obtain ⟨v', y, hr, hp⟩ := h.pool.append (P := Tryz.prog) (i0 := 0) rfl 24 24 i0 _ 48 Tryz.underlying24 hi0 hz0 hy0 hx0 rfl (by decide) p.aa D.acc.length p.ca (D.acc.flatMap accCells) (flat_len accCells 4 accLen D.acc) (fun e => ⟨row_none HL.out.acc.row e, k1 e⟩) (Below.news accLen (by decide) h.pool.below HL.out.acc.row) (acc_one D.acc) (by unfold maxLen; omega) (by omega)
      rw [Nat.zero_add, List.nil_append] at hp
      refine wpOp_run (v := v') (w' := y) (by rfl) (by rfl) ?_ (hK _ _ ⟨true, l1, true, true, l4, l5, l6, l7, l8, l9, l10, l11, false, false, u3, u4, u5, (v'), u7, u8, u9, u10, u11, u12, u13, u14, u15, rfl, rfl, { h with q15 := (fun q => by cases q), pool := (hp), d3_0 := fun _ => rfl, d12_3 := fun _ => rfl, d13_3 := fun _ => rfl }⟩)
      exact exec_append rfl (by rfl) (h.p5 rfl) hr
    · have e : l4 = false := hl
      subst e
      have z7 : l7 = false := by
        cases hz : l7
        · rfl
        · exact absurd (h.d7_4 hz) (by simp)
      subst z7
      refine wpOp_run (v := .slice (some ⟨x.heap.size, 0, none⟩) 0 0) (w' := x.alloc (.cells #[] 53)) (by rfl) (by rfl) ?_ (hK _ _ ⟨l0, l1, l2, l3, true, l5, l6, false, l8, l9, l10, l11, l12, l13, u3, u4, u5, u6, (.slice (some ⟨x.heap.size, 0, none⟩) 0 0), u8, u9, u10, u11, u12, u13, u14, u15, rfl, rfl, { h with pool := (h.pool.newRow (i := 1) rfl 53 4), d7_4 := fun _ => rfl }⟩)
      go_simp
    · have e : l5 = false := hl
      subst e
      refine wpOp_run (v := .pointer (some ⟨w.heap.size, 1, none⟩)) (w' := x) (by rfl) (by rfl) ?_ (hK _ _ ⟨l0, l1, l2, l3, l4, true, l6, l7, l8, l9, l10, l11, l12, l13, u3, u4, u5, u6, u7, (.pointer (some ⟨w.heap.size, 1, none⟩)), u9, u10, u11, u12, u13, u14, u15, rfl, rfl, { h with p8 := fun _ => rfl }⟩)
      go_simp
    · have e : l6 = false := hl
      subst e
      have d5 : l5 = true := ready_on hi 5 (by kernel_rfl)
      subst d5
      have c0 : x.cell? ⟨w.heap.size, 1, none⟩ = some (.slice p.ha D.hold.length p.ch) := (h.pool.blkAt (i := 3) rfl).c 1 _ rfl
      refine wpOp_run (v := .slice p.ha D.hold.length p.ch) (w' := x) (by rfl) (by rfl) ?_ (hK _ _ ⟨l0, l1, l2, l3, l4, true, true, l7, l8, l9, l10, l11, l12, l13, u3, u4, u5, u6, u7, u8, (.slice p.ha D.hold.length p.ch), u10, u11, u12, u13, u14, u15, rfl, rfl, { h with p9 := fun _ => rfl }⟩)
      rw [h.p8 rfl]
      go_simp
    · have e : l7 = false := hl
      subst e
      have d3 : l3 = true := ready_on hi 3 (by kernel_rfl)
      subst d3
      have d4 : l4 = true := ready_on hi 4 (by kernel_rfl)
      subst d4
      have d6 : l6 = true := ready_on hi 6 (by kernel_rfl)
      subst d6
      have z12 : l12 = false := by
        cases hz : l12
        · rfl
        · exact absurd (h.d12_7 hz) (by simp)
      subst z12
      have z13 : l13 = false := by
        cases hz : l13
        · rfl
        · exact absurd (h.d13_7 hz) (by simp)
      subst z13
      obtain ⟨v', y, hr, hp⟩ := h.pool.append (P := Tryz.prog) (i0 := 1) rfl 25 25 i1 _ 48 Tryz.underlying25 hi1 hz1 hy1 hx1 rfl (by decide) p.ha D.hold.length p.ch (D.hold.flatMap hldCells) (flat_len hldCells 4 hldLen D.hold) (fun e => ⟨row_none HL.out.hold.row e, k2 e⟩) (Below.news hldLen (by decide) h.pool.below HL.out.hold.row) (hld_one D.hold) (by unfold maxLen; omega) (by omega)
      rw [Nat.zero_add, List.nil_append] at hp
      refine wpOp_run (v := v') (w' := y) (by rfl) (by rfl) ?_ (hK _ _ ⟨l0, l1, l2, true, true, l5, true, true, l8, l9, l10, l11, false, false, u3, u4, u5, u6, u7, u8, u9, (v'), u11, u12, u13, u14, u15, rfl, rfl, { h with q15 := (fun q => by cases q), pool := (hp), d7_4 := fun _ => rfl, d12_7 := fun _ => rfl, d13_7 := fun _ => rfl }⟩)
      exact exec_append rfl (by rfl) (h.p9 rfl) hr
    · have e : l8 = false := hl
      subst e
      have z11 : l11 = false := by
        cases hz : l11
        · rfl
        · exact absurd (h.d11_8 hz) (by simp)
      subst z11
      refine wpOp_run (v := .slice (some ⟨x.heap.size, 0, none⟩) 0 0) (w' := x.alloc (.cells #[] 55)) (by rfl) (by rfl) ?_ (hK _ _ ⟨l0, l1, l2, l3, l4, l5, l6, l7, true, l9, l10, false, l12, l13, u3, u4, u5, u6, u7, u8, u9, u10, (.slice (some ⟨x.heap.size, 0, none⟩) 0 0), u12, u13, u14, u15, rfl, rfl, { h with pool := (h.pool.newRow (i := 2) rfl 55 2), d11_8 := fun _ => rfl }⟩)
      go_simp
    · have e : l9 = false := hl
      subst e
      refine wpOp_run (v := .pointer (some ⟨w.heap.size, 2, none⟩)) (w' := x) (by rfl) (by rfl) ?_ (hK _ _ ⟨l0, l1, l2, l3, l4, l5, l6, l7, l8, true, l10, l11, l12, l13, u3, u4, u5, u6, u7, u8, u9, u10, u11, (.pointer (some ⟨w.heap.size, 2, none⟩)), u13, u14, u15, rfl, rfl, { h with p12 := fun _ => rfl }⟩)
      go_simp
    · have e : l10 = false := hl
      subst e
      have d9 : l9 = true := ready_on hi 9 (by kernel_rfl)
      subst d9
      have c0 : x.cell? ⟨w.heap.size, 2, none⟩ = some (.slice p.sa D.seen.length p.cs) := (h.pool.blkAt (i := 3) rfl).c 2 _ rfl
      refine wpOp_run (v := .slice p.sa D.seen.length p.cs) (w' := x) (by rfl) (by rfl) ?_ (hK _ _ ⟨l0, l1, l2, l3, l4, l5, l6, l7, l8, true, true, l11, l12, l13, u3, u4, u5, u6, u7, u8, u9, u10, u11, u12, (.slice p.sa D.seen.length p.cs), u14, u15, rfl, rfl, { h with p13 := fun _ => rfl }⟩)
      rw [h.p12 rfl]
      go_simp
    · have e : l11 = false := hl
      subst e
      have d7 : l7 = true := ready_on hi 7 (by kernel_rfl)
      subst d7
      have d8 : l8 = true := ready_on hi 8 (by kernel_rfl)
      subst d8
      have d10 : l10 = true := ready_on hi 10 (by kernel_rfl)
      subst d10
      have z12 : l12 = false := by
        cases hz : l12
        · rfl
        · exact absurd (h.d12_11 hz) (by simp)
      subst z12
      have z13 : l13 = false := by
        cases hz : l13
        · rfl
        · exact absurd (h.d13_11 hz) (by simp)
      subst z13
      obtain ⟨v', y, hr, hp⟩ := h.pool.append (P := Tryz.prog) (i0 := 2) rfl 26 26 i2 _ 16 Tryz.underlying26 hi2 hz2 hy2 hx2 rfl (by decide) p.sa D.seen.length p.cs (D.seen.flatMap snCells) (flat_len snCells 2 snLen D.seen) (fun e => ⟨row_none HL.out.seen.row e, k3 e⟩) (Below.news snLen (by decide) h.pool.below HL.out.seen.row) (sn_one' D.seen) (by unfold maxLen; omega) (by omega)
      rw [Nat.zero_add, List.nil_append] at hp
      refine wpOp_run (v := v') (w' := y) (by rfl) (by rfl) ?_ (hK _ _ ⟨l0, l1, l2, l3, l4, l5, l6, true, true, l9, true, true, false, false, u3, u4, u5, u6, u7, u8, u9, u10, u11, u12, u13, (v'), u15, rfl, rfl, { h with q15 := (fun q => by cases q), pool := (hp), d11_8 := fun _ => rfl, d12_11 := fun _ => rfl, d13_11 := fun _ => rfl }⟩)
      exact exec_append rfl (by rfl) (h.p13 rfl) hr
    · have e : l12 = false := hl
      subst e
      have d3 : l3 = true := ready_on hi 3 (by kernel_rfl)
      subst d3
      have d7 : l7 = true := ready_on hi 7 (by kernel_rfl)
      subst d7
      have d11 : l11 = true := ready_on hi 11 (by kernel_rfl)
      subst d11
      have z13 : l13 = false := by
        cases hz : l13
        · rfl
        · exact absurd (h.d13_12 hz) (by simp)
      subst z13
      obtain ⟨a1, c1, e1⟩ := row_shape (h.pool.rowAt (i := 0) rfl)
      obtain ⟨a2, c2, e2⟩ := row_shape (h.pool.rowAt (i := 1) rfl)
      obtain ⟨a3, c3, e3⟩ := row_shape (h.pool.rowAt (i := 2) rfl)
      refine wpOp_run (v := .agg #[u6, u10, u14]) (w' := x) (by rfl) (by rfl) ?_ (hK _ _ ⟨l0, l1, l2, true, l4, l5, l6, true, l8, l9, l10, true, true, false, u3, u4, u5, u6, u7, u8, u9, u10, u11, u12, u13, u14, (.agg #[u6, u10, u14]), rfl, rfl, { h with q15 := (fun _ => rfl), d12_3 := fun _ => rfl, d12_7 := fun _ => rfl, d12_11 := fun _ => rfl, d13_12 := fun _ => rfl }⟩)
      rw [e1, e2, e3]
      go_simp
    · have e : l13 = false := hl
      subst e
      have d0 : l0 = true := ready_on hi 0 (by kernel_rfl)
      subst d0
      have d1 : l1 = true := ready_on hi 1 (by kernel_rfl)
      subst d1
      have d2 : l2 = true := ready_on hi 2 (by kernel_rfl)
      subst d2
      have d3 : l3 = true := ready_on hi 3 (by kernel_rfl)
      subst d3
      have d4 : l4 = true := ready_on hi 4 (by kernel_rfl)
      subst d4
      have d5 : l5 = true := ready_on hi 5 (by kernel_rfl)
      subst d5
      have d6 : l6 = true := ready_on hi 6 (by kernel_rfl)
      subst d6
      have d7 : l7 = true := ready_on hi 7 (by kernel_rfl)
      subst d7
      have d8 : l8 = true := ready_on hi 8 (by kernel_rfl)
      subst d8
      have d9 : l9 = true := ready_on hi 9 (by kernel_rfl)
      subst d9
      have d10 : l10 = true := ready_on hi 10 (by kernel_rfl)
      subst d10
      have d11 : l11 = true := ready_on hi 11 (by kernel_rfl)
      subst d11
      have d12 : l12 = true := ready_on hi 12 (by kernel_rfl)
      subst d12
      obtain ⟨a1, c1, e1⟩ := row_shape (h.pool.rowAt (i := 0) rfl)
      obtain ⟨a2, c2, e2⟩ := row_shape (h.pool.rowAt (i := 1) rfl)
      obtain ⟨a3, c3, e3⟩ := row_shape (h.pool.rowAt (i := 2) rfl)
      have A := h.pool.blkAt (i := 4) rfl
      have t0 := A.c 0 _ rfl
      have f0 := A.f 0
      have t1 := A.c 1 _ rfl
      have f1 := A.f 1
      have t2 := A.c 2 _ rfl
      have f2 := A.f 2
      refine wpOp_skip (w' := ((x.setCell ⟨w.heap.size + 1, 0, none⟩ u6).setCell ⟨w.heap.size + 1, 1, none⟩ u10).setCell ⟨w.heap.size + 1, 2, none⟩ u14) (by rfl) (by rfl) ?_ (hK _ _ ⟨true, true, true, true, true, true, true, true, true, true, true, true, true, true, u3, u4, u5, u6, u7, u8, u9, u10, u11, u12, u13, u14, u15, rfl, rfl, { h with pool := ((((h.pool.setBlk (i := 4) rfl 0 u6 (by simp)).setBlk (i := 4) rfl 1 u10 (by simp)).setBlk (i := 4) rfl 2 u14 (by simp))), d13_12 := fun _ => rfl, d13_3 := fun _ => rfl, d13_7 := fun _ => rfl, d13_11 := fun _ => rfl }⟩)
      rw [h.q15 rfl, e1, e2, e3]
      go_simp
  · rintro L act x ⟨l0, l1, l2, l3, l4, l5, l6, l7, l8, l9, l10, l11, l12, l13, u3, u4, u5, u6, u7, u8, u9, u10, u11, u12, u13, u14, u15, rfl, rfl, h⟩ hr
    have hall := ready_all hr rfl (by decide)
    have t0 : l0 = true := hall 0 (by decide)
    have t1 : l1 = true := hall 1 (by decide)
    have t2 : l2 = true := hall 2 (by decide)
    have t3 : l3 = true := hall 3 (by decide)
    have t4 : l4 = true := hall 4 (by decide)
    have t5 : l5 = true := hall 5 (by decide)
    have t6 : l6 = true := hall 6 (by decide)
    have t7 : l7 = true := hall 7 (by decide)
    have t8 : l8 = true := hall 8 (by decide)
    have t9 : l9 = true := hall 9 (by decide)
    have t10 : l10 = true := hall 10 (by decide)
    have t11 : l11 = true := hall 11 (by decide)
    have t12 : l12 = true := hall 12 (by decide)
    have t13 : l13 = true := hall 13 (by decide)
    subst t0 t1 t2 t3 t4 t5 t6 t7 t8 t9 t10 t11 t12 t13
    clear hall hr
    have hp := h.pool
    clear h
    obtain ⟨a1, c1, e1, s1, hp1⟩ := hp.toOrow accLen (i := 0) rfl
    obtain ⟨a2, c2, e2, s2, hp2⟩ := hp1.toOrow hldLen (i := 1) rfl
    obtain ⟨a3, c3, e3, s3, hp3⟩ := hp2.toOrow snLen (i := 2) rfl
    subst e1 e2 e3
    have HQ : Hid _ := hide hp3
    have z_ := hp3.blkAt (i := 4) rfl
    have g0_ := z_.c 0 _ rfl
    have g1_ := z_.c 1 _ rfl
    have g2_ := z_.c 2 _ rfl
    clear hp hp1 hp2 hp3 z_
    refine hK0 _ _ ?_
    go_wp2
    exact bodyPost_ret (v := ledV ⟨a1, c1, a2, c2, a3, c3⟩ D) (by simp [results, Tryz.results99, go_sem, g0_, g1_, g2_, ledV]) rfl ⟨⟨a1, c1, a2, c2, a3, c3⟩, rfl, ⟨s1, s2, s3⟩, ((HQ.out.drop (i := 4) rfl).drop (i := 3) rfl).cast (by simp [ledL])⟩
end Go.Proofs.YteaopalhbnhbaaaGreatDoor
