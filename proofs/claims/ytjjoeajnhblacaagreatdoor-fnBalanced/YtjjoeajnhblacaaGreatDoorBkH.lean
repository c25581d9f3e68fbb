/- The contract of the book's hold. -/
import Derived.Test.YtjjoeajnhblacaaGreatDoorGk
namespace Go.Proofs.YtjjoeajnhblacaaGreatDoor
open Go.ChangeShapes Go.WideShapes Go.ChangeAt Go.RowKit Go.Maps
set_option linter.unusedVariables false
set_option maxRecDepth 100000
/-- the code of a hold that is denied -/
def holdC (A : List Acc) (H : List Hld) (hd : Hld) : Option Int := match pairC A hd.fr hd.to with
  | some c => some c
  | none => match idxA A hd.fr with
    | some i => if 1000000000000 < heldL hd.fr H + hd.amount then some 8 else (match A[i]? with
      | some y => if covB y (heldL y.name H) hd.amount then none else some 7
      | none => none)
    | none => none
def holdL (A : List Acc) (H : List Hld) (hd : Hld) : List Hld := match holdC A H hd with
  | none => insH H hd
  | some _ => H
theorem holdC_at {A : List Acc} {H : List Hld} {hd : Hld} {i : Nat} (hp : pairC A hd.fr hd.to = none) (hi : idxA A hd.fr = some i) (hil : i < A.length) :
    holdC A H hd = if 1000000000000 < heldL hd.fr H + hd.amount then some 8 else if covB A[i] (heldL A[i].name H) hd.amount then none else some 7 := by
  simp [holdC, hp, hi, hil]
/-- what hold leaves -/
def HoldEnd (q m : Nat) (ps : List Nat) (sv : Value) (D : Led) (hd : Hld) (g : Value) (FF : List Nat) (w : World) (e : Ending) (w' : World) : Prop :=
  ∃ hv', DoEnd (holdC D.acc D.hold hd) g FF (bkS q m ps hv' sv D.acc (holdL D.acc D.hold hd) D.seen).flatten w e w'
structure HoF (FF : List Nat) (w : World) (q m : Nat) (ps : List Nat) (ha : Option Addr) (ch : Nat) (sv : Value) (D : Led) (hd : Hld) (W : Nat) (w1 : World) (l0 l1 l2 l3 l4 l5 l6 l7 : Bool) (u21 u22 u23 u24 u25 u26 u27 u28 : Value) (x : World) : Prop where
  pool : Pool FF w [[blk q [.map (some m), .slice ha D.hold.length ch, sv]], [mapR m (D.acc.map Acc.name) ps], accB' ps D.acc, [row 71 4 (.slice ha D.hold.length ch) D.hold.length (D.hold.flatMap hldCells)], [row 47 2 sv D.seen.length (D.seen.flatMap snCells)], [], [blk W (hldCells hd)]] x
  bel : Below w1.heap.size w1 x
  p21 : l0 = true → u21 = .pointer (some ⟨q, 0, none⟩)
  p22 : l1 = true → u22 = .pointer (some ⟨W, 1, none⟩)
  p23 : l2 = true → u23 = .string hd.fr
  p24 : l3 = true → u24 = .int .i64 (heldL hd.fr D.hold)
  p25 : l4 = true → u25 = .pointer (some ⟨W, 3, none⟩)
  p26 : l5 = true → u26 = .int .i64 hd.amount
  p27 : l6 = true → u27 = .int .i64 (heldL hd.fr D.hold + hd.amount)
  p28 : l7 = true → u28 = .bool (decide (heldL hd.fr D.hold + hd.amount > 1000000000000))
structure HoA (FF : List Nat) (w : World) (q m : Nat) (ps : List Nat) (ha : Option Addr) (ch : Nat) (sv : Value) (D : Led) (hd : Hld) (W : Nat) (l0 l1 l2 l3 l4 l5 l6 l7 l8 l9 l10 : Bool) (u37 u38 u39 u40 u41 u42 u43 u44 u45 u46 : Value) (x : World) : Prop where
  pool : Pool FF w [cond l10 [blk q [.map (some m), u44, sv]] [blk q [.map (some m), (.slice ha D.hold.length ch), sv]], [mapR m (D.acc.map Acc.name) ps], accB' ps D.acc, cond l7 [row 71 4 u44 (D.hold.length + 1) (D.hold.flatMap hldCells ++ hldCells hd)] [row 71 4 (.slice ha D.hold.length ch) D.hold.length (D.hold.flatMap hldCells)], [row 47 2 sv D.seen.length (D.seen.flatMap snCells)], [], [blk W (hldCells hd)], cond l6 [blk (gOf (slA u43)) (hldCells hd)] []] x
  q43 : l6 = true → u43 = .slice (some ⟨gOf (slA u43), 0, none⟩) 1 1
  d7_6 : l7 = true → l6 = true
  d7_4 : l7 = true → l4 = true
  d10_7 : l10 = true → l7 = true
  d10_4 : l10 = true → l4 = true
  p37 : l0 = true → u37 = .pointer (some ⟨q, 0, none⟩)
  p38 : l1 = true → u38 = .pointer (some ⟨q, 0, none⟩)
  p39 : l2 = true → u39 = .pointer (some ⟨q, 0, none⟩)
  p45 : l8 = true → u45 = .pointer (some ⟨q, 0, none⟩)
  p40 : l3 = true → u40 = .pointer (some ⟨q, 1, none⟩)
  p46 : l9 = true → u46 = .pointer (some ⟨q, 1, none⟩)
  p41 : l4 = true → u41 = (.slice ha D.hold.length ch)
  p42 : l5 = true → u42 = .agg #[.int .i64 hd.id, .string hd.fr, .string hd.to, .int .i64 hd.amount]
set_option maxHeartbeats 4000000 in
theorem hold_any (q m : Nat) (ps : List Nat) (hv sv : Value) (D : Led) (hd : Hld) (t : TypeId) (v : Value) (w : World) (hps : ps.length = D.acc.length) (s1 : hd.fr.size ≤ maxLen) (s2 : hd.to.size ≤ maxLen) (hH : SmallH D.hold) (hA : ∀ y ∈ D.acc, SmallX y) (ham : 0 ≤ hd.amount ∧ hd.amount ≤ 1000000000000) (hhw : ∀ y ∈ D.hold, HldW y) (hsw : ∀ y ∈ D.seen, SnW y) (hup : (D.hold.map Hld.id).Pairwise (· < ·)) (hno : ∀ y ∈ D.hold, y.id ≠ hd.id) (h : Star (bkS q m ps hv sv D.acc D.hold D.seen).flatten w) (hg : w.cell? ⟨2, 0, none⟩ = some (.iface t v)) :
    Calls Tryz.prog 61 #[.pointer (some ⟨q, 0, none⟩), .agg #[.int .i64 hd.id, .string hd.fr, .string hd.to, .int .i64 hd.amount]] w fun e w' => HoldEnd q m ps sv D hd (.iface t v) (fps (bkS q m ps hv sv D.acc D.hold D.seen).flatten) w e w' := by
  obtain ⟨FF, hFF⟩ : ∃ FF, FF = fps (bkS q m ps hv sv D.acc D.hold D.seen).flatten := ⟨_, rfl⟩
  obtain ⟨i0, hi0, hz0, hz1, hz2⟩ := info_parts infoHld
  obtain ⟨ha, ch, sa, cs, rfl, rfl, hbk⟩ := h.bk hps
  obtain ⟨sv, hsv⟩ : ∃ sv, sv = Value.slice sa D.seen.length cs := ⟨_, rfl⟩
  rw [← hsv] at h hFF ⊢
  obtain ⟨W1, hW1⟩ : ∃ W1, W1 = w.alloc (.cells (hldCells hd).toArray 71) := ⟨_, rfl⟩
  have HP : Hid (Pool FF w [[blk q [.map (some m), (.slice ha D.hold.length ch), sv]], [mapR m (D.acc.map Acc.name) ps], accB' ps D.acc, [row 71 4 (.slice ha D.hold.length ch) D.hold.length (D.hold.flatMap hldCells)], [row 47 2 sv D.seen.length (D.seen.flatMap snCells)], [], [blk w.heap.size (hldCells hd)]] W1) := hide (by
    rw [hW1]
    have z : Pool FF w [[blk q [.map (some m), .slice ha D.hold.length ch, sv]], [mapR m (D.acc.map Acc.name) ps], accB' ps D.acc, [row 71 4 (.slice ha D.hold.length ch) D.hold.length (D.hold.flatMap hldCells)], [row 47 2 sv D.seen.length (D.seen.flatMap snCells)], [], []] w := by
      rw [hFF]
      exact (Pool.of h).cast (by simp [bkS])
    exact z.newBlk (i := 6) rfl (hldCells hd) 71)
  have hB1 : Below w.heap.size w W1 := by rw [hW1]; exact below_alloc (Below.refl _ _) _
  have HW1 : Hid (_ = W1) := hide hW1.symm
  have HG : Hid _ := hide ((hB1.cell (p := ⟨2, 0, none⟩) (cell_lt hg)).trans hg)
  have HK : Hid _ := hide (hbk.below hB1)
  have HH : Hid _ := hide hH
  have HX : Hid _ := hide hA
  have HW : Hid _ := hide hhw
  have HV : Hid _ := hide hsw
  have HU : Hid _ := hide hup
  have HNO : Hid _ := hide hno
  have hl10 := hH.1
  rw [← hFF]
  clear h hg hFF hps hbk hH hA hhw hsw hup hno hB1 hW1 hsv
  unfold hldCells at HW1
  have b1 := (HP.out.blkAt (i := 6) rfl).c 1 _ rfl
  have b2 := (HP.out.blkAt (i := 6) rfl).c 2 _ rfl
  go_enter Tryz.func61, Tryz.ntmps61
  go_upto_region 1 with fail
  rw [HW1.out]
  go_wp2_with fail
  refine (pair_bk hd.fr hd.to t v _ s1 s2 HK.out HG.out).mono ?_
  intro e w1 hpe
  cases hpc : pairC D.acc hd.fr hd.to with
  | some code =>
    unfold PrEnd at hpe
    rw [hpc] at hpe
    obtain ⟨n, rfl, hp1⟩ := hpe
    have HC : Hid (holdC D.acc D.hold hd = some code) := hide (by simp [holdC, hpc])
    have HP1 : Hid _ := hide ((HP.out.new (i := 5) rfl hp1.below (hp1.get (i := 0) rfl) (fun b hb => (hp1.hi b (by simpa using hb)).resolve_left (by simp))).drop (i := 6) rfl)
    clear hpc hp1 HP b1 b2
    go_wp2_with fail
    go_ret
    have hl : holdL D.acc D.hold hd = D.hold := by simp [holdL, HC.out]
    refine ⟨.slice ha D.hold.length ch, ?_⟩
    unfold DoEnd
    rw [HC.out, hl]
    exact ⟨n, rfl, HP1.out.cast (by simp [bkS])⟩
  | none =>
    unfold PrEnd at hpe
    rw [hpc] at hpe
    obtain ⟨i, j, hi, hj, hb1, rfl⟩ := hpe
    obtain ⟨hil, eni, _⟩ := idxA_lt hi
    have HC : Hid _ := hide (holdC_at (H := D.hold) hpc hi hil)
    have HP1 : Hid (Pool FF w [[blk q [.map (some m), (.slice ha D.hold.length ch), sv]], [mapR m (D.acc.map Acc.name) ps], accB' ps D.acc, [row 71 4 (.slice ha D.hold.length ch) D.hold.length (D.hold.flatMap hldCells)], [row 47 2 sv D.seen.length (D.seen.flatMap snCells)], [], [blk w.heap.size (hldCells hd)]] w1) := hide (HP.out.keep hb1)
    have HK1 : Hid _ := hide (HK.out.below hb1)
    have HPB : Hid _ := hide (HK1.out.book HW.out HV.out)
    have HG1 : Hid _ := hide ((hb1.cell (p := ⟨2, 0, none⟩) (cell_lt HG.out)).trans HG.out)
    clear hi hj hpc hb1 HP HK HG eni b1 b2
    obtain ⟨p, hpe⟩ : ∃ p, p = ps.getD i 0 := ⟨_, rfl⟩
    have bi := HK1.out.acc i hil
    rw [← hpe] at bi ⊢
    have HBI : Hid _ := hide bi
    clear hpe bi
    obtain ⟨g1, g2⟩ := ham
    have hbd := held_take hd.fr D.hold D.hold.length HH.out
    rw [List.take_length] at hbd
    obtain ⟨hd1, hd2⟩ := hbd
    have wr1 : IntKind.i64.wrap (heldL hd.fr D.hold + hd.amount) = heldL hd.fr D.hold + hd.amount := wrap64_id (by omega)
    have c1 := (HP1.out.blkAt (i := 6) rfl).c 1 _ rfl
    have c3 := (HP1.out.blkAt (i := 6) rfl).c 3 _ rfl
    go_upto_region 4 with fail
    rename_i K0 hK0
    clear c1 c3
    refine wp_region_inv (by kernel_rfl) (fun L act x => ∃ l0 l1 l2 l3 l4 l5 l6 l7 : Bool, ∃ u21 u22 u23 u24 u25 u26 u27 u28 : Value, L = #[l0, l1, l2, l3, l4, l5, l6, l7] ∧ act = { tmps := #[Value.pointer (some { block := q, off := 0 }), Value.agg #[Value.int IntKind.i64 hd.id, Value.string hd.fr, Value.string hd.to, Value.int IntKind.i64 hd.amount], undef, Value.pointer (some { block := w.heap.size, off := 0 }), Value.nilIface, Value.pointer (some { block := p, off := 0 }), Value.pointer (some { block := ps[j]?.getD 0, off := 0 }), Value.nilIface, Value.tuple #[Value.pointer (some { block := p, off := 0 }), Value.pointer (some { block := ps[j]?.getD 0, off := 0 }), Value.nilIface], Value.pointer (some { block := q, off := 0 }), Value.pointer (some { block := w.heap.size, off := 1 }), Value.string hd.fr, Value.pointer (some { block := w.heap.size, off := 2 }), Value.string hd.to, Value.tuple #[Value.pointer (some { block := p, off := 0 }), Value.pointer (some { block := ps[j]?.getD 0, off := 0 }), Value.nilIface], Value.pointer (some { block := p, off := 0 }), Value.pointer (some { block := ps[j]?.getD 0, off := 0 }), Value.nilIface, Value.nilIface, Value.bool false, undef, u21, u22, u23, u24, u25, u26, u27, u28, undef, undef, undef, undef, undef, undef, undef, undef, undef, undef, undef, undef, undef, undef, undef, undef, undef, undef, undef, undef, undef, undef, undef], defers := [] } ∧ HoF FF w q m ps ha ch sv D hd w.heap.size w1 l0 l1 l2 l3 l4 l5 l6 l7 u21 u22 u23 u24 u25 u26 u27 u28 x) ?_ ?_ ?_
    rotate_left 2
    · exact ⟨false, false, false, false, false, false, false, false, (undef), (undef), (undef), (undef), (undef), (undef), (undef), (undef), rfl, rfl, ⟨HP1.out.drew, (Below.refl _ _).drew, fun q => (by cases q), fun q => (by cases q), fun q => (by cases q), fun q => (by cases q), fun q => (by cases q), fun q => (by cases q), fun q => (by cases q), fun q => (by cases q)⟩⟩
    · rintro L act x i ⟨l0, l1, l2, l3, l4, l5, l6, l7, u21, u22, u23, u24, u25, u26, u27, u28, rfl, rfl, h⟩ hi K hK
      have hi15 : i < 8 := by
        obtain ⟨_, o, ho, _⟩ := mem_ready.1 hi
        exact (Array.getElem?_eq_some_iff.1 ho).1
      have hl := (mem_ready.1 hi).1
      obtain rfl | rfl | rfl | rfl | rfl | rfl | rfl | rfl := (by omega : i = 0 ∨ i = 1 ∨ i = 2 ∨ i = 3 ∨ i = 4 ∨ i = 5 ∨ i = 6 ∨ i = 7)
      · have e : l0 = false := hl
        subst e
        refine wpOp_run (v := .pointer (some ⟨q, 0, none⟩)) (w' := x) (by rfl) (by rfl) ?_ (hK _ _ ⟨true, l1, l2, l3, l4, l5, l6, l7, (.pointer (some ⟨q, 0, none⟩)), u22, u23, u24, u25, u26, u27, u28, rfl, rfl, { h with p21 := fun _ => rfl }⟩)
        go_simp
      · have e : l1 = false := hl
        subst e
        refine wpOp_run (v := .pointer (some ⟨w.heap.size, 1, none⟩)) (w' := x) (by rfl) (by rfl) ?_ (hK _ _ ⟨l0, true, l2, l3, l4, l5, l6, l7, u21, (.pointer (some ⟨w.heap.size, 1, none⟩)), u23, u24, u25, u26, u27, u28, rfl, rfl, { h with p22 := fun _ => rfl }⟩)
        go_simp
      · have e : l2 = false := hl
        subst e
        have d1 : l1 = true := ready_on hi 1 (by kernel_rfl)
        subst d1
        have c0 : x.cell? ⟨w.heap.size, 1, none⟩ = some (.string hd.fr) := (h.pool.blkAt (i := 6) rfl).c 1 _ rfl
        refine wpOp_run (v := .string hd.fr) (w' := x) (by rfl) (by rfl) ?_ (hK _ _ ⟨l0, true, true, l3, l4, l5, l6, l7, u21, u22, (.string hd.fr), u24, u25, u26, u27, u28, rfl, rfl, { h with p23 := fun _ => rfl }⟩)
        rw [h.p22 rfl]
        go_simp
      · have e : l3 = false := hl
        subst e
        have d0 : l0 = true := ready_on hi 0 (by kernel_rfl)
        subst d0
        have d2 : l2 = true := ready_on hi 2 (by kernel_rfl)
        subst d2
        refine wpOp_call (by rfl) (by rfl) ?_ (held_any q D hd.fr x HH.out (HPB.out.below h.bel)) ?_
        · rw [h.p21 rfl, h.p23 rfl]; go_simp
        · rintro e w' ⟨rfl, hb⟩
          exact ⟨_, rfl, hK _ _ ⟨true, l1, true, true, l4, l5, l6, l7, u21, u22, u23, (.int .i64 (heldL hd.fr D.hold)), u25, u26, u27, u28, rfl, rfl, { h with bel := (below_trans h.bel hb), p24 := (fun _ => rfl), pool := (h.pool.keep hb) }⟩⟩
      · have e : l4 = false := hl
        subst e
        refine wpOp_run (v := .pointer (some ⟨w.heap.size, 3, none⟩)) (w' := x) (by rfl) (by rfl) ?_ (hK _ _ ⟨l0, l1, l2, l3, true, l5, l6, l7, u21, u22, u23, u24, (.pointer (some ⟨w.heap.size, 3, none⟩)), u26, u27, u28, rfl, rfl, { h with p25 := fun _ => rfl }⟩)
        go_simp
      · have e : l5 = false := hl
        subst e
        have d4 : l4 = true := ready_on hi 4 (by kernel_rfl)
        subst d4
        have c0 : x.cell? ⟨w.heap.size, 3, none⟩ = some (.int .i64 hd.amount) := (h.pool.blkAt (i := 6) rfl).c 3 _ rfl
        refine wpOp_run (v := .int .i64 hd.amount) (w' := x) (by rfl) (by rfl) ?_ (hK _ _ ⟨l0, l1, l2, l3, true, true, l6, l7, u21, u22, u23, u24, u25, (.int .i64 hd.amount), u27, u28, rfl, rfl, { h with p26 := fun _ => rfl }⟩)
        rw [h.p25 rfl]
        go_simp
      · have e : l6 = false := hl
        subst e
        have d3 : l3 = true := ready_on hi 3 (by kernel_rfl)
        subst d3
        have d5 : l5 = true := ready_on hi 5 (by kernel_rfl)
        subst d5
        refine wpOp_run (v := .int .i64 (heldL hd.fr D.hold + hd.amount)) (w' := x) (by rfl) (by rfl) ?_ (hK _ _ ⟨l0, l1, l2, true, l4, true, true, l7, u21, u22, u23, u24, u25, u26, (.int .i64 (heldL hd.fr D.hold + hd.amount)), u28, rfl, rfl, { h with p27 := fun _ => rfl }⟩)
        rw [h.p24 rfl, h.p26 rfl]
        go_simp
      · have e : l7 = false := hl
        subst e
        have d6 : l6 = true := ready_on hi 6 (by kernel_rfl)
        subst d6
        refine wpOp_run (v := .bool (decide (heldL hd.fr D.hold + hd.amount > 1000000000000))) (w' := x) (by rfl) (by rfl) ?_ (hK _ _ ⟨l0, l1, l2, l3, l4, l5, true, true, u21, u22, u23, u24, u25, u26, u27, (.bool (decide (heldL hd.fr D.hold + hd.amount > 1000000000000))), rfl, rfl, { h with p28 := fun _ => rfl }⟩)
        rw [h.p27 rfl]
        go_simp
    · rintro L act x ⟨l0, l1, l2, l3, l4, l5, l6, l7, u21, u22, u23, u24, u25, u26, u27, u28, rfl, rfl, h⟩ hr
      have hall := ready_all hr rfl (by decide)
      have t0 : l0 = true := hall 0 (by decide)
      have t1 : l1 = true := hall 1 (by decide)
      have t2 : l2 = true := hall 2 (by decide)
      have t3 : l3 = true := hall 3 (by decide)
      have t4 : l4 = true := hall 4 (by decide)
      have t5 : l5 = true := hall 5 (by decide)
      have t6 : l6 = true := hall 6 (by decide)
      have t7 : l7 = true := hall 7 (by decide)
      subst t0 t1 t2 t3 t4 t5 t6 t7
      clear hall hr
      have e28 := h.p28 rfl
      have HP2 : Hid (Pool FF w [[blk q [.map (some m), (.slice ha D.hold.length ch), sv]], [mapR m (D.acc.map Acc.name) ps], accB' ps D.acc, [row 71 4 (.slice ha D.hold.length ch) D.hold.length (D.hold.flatMap hldCells)], [row 47 2 sv D.seen.length (D.seen.flatMap snCells)], [], [blk w.heap.size (hldCells hd)]] x) := hide h.pool
      have HB2 : Hid _ := hide h.bel
      clear h
      subst e28
      refine hK0 _ _ ?_
      have HG2 : Hid _ := hide ((HB2.out.cell (p := ⟨2, 0, none⟩) (cell_lt HG1.out)).trans HG1.out)
      have HBX : Hid (Blk p (accCells D.acc[i]) x) := hide (((Star.ofBlk HBI.out).below HB2.out).get (r := blk p (accCells D.acc[i])) (by simp))
      have HPX : Hid _ := hide (HPB.out.below HB2.out)
      clear HB2 HP1 HG1 HK1 HPB HBI
      by_cases k8 : 1000000000000 < heldL hd.fr D.hold + hd.amount
      · have k8' : decide (heldL hd.fr D.hold + hd.amount > 1000000000000) = true := by simpa using k8
        have HCN : Hid (holdC D.acc D.hold hd = some 8) := hide (by rw [HC.out, if_pos k8])
        go_wp2_with fail
        refine (denied_any _ t v _ HG2.out).mono ?_
        rintro e w3 ⟨rfl, rfl⟩
        go_wp2_with fail
        go_ret
        have hl : holdL D.acc D.hold hd = D.hold := by simp [holdL, HCN.out]
        refine ⟨.slice ha D.hold.length ch, ?_⟩
        unfold DoEnd
        rw [HCN.out, hl]
        exact ⟨_, rfl, ((HP2.out.newBlk (i := 5) rfl [.int .i64 8, .iface t v] 95).drop (i := 6) rfl).cast (by simp [bkS])⟩
      · have k8' : decide (heldL hd.fr D.hold + hd.amount > 1000000000000) = false := by simpa using k8
        have HC1 : Hid _ := hide (HC.out.trans (if_neg k8))
        have c3 := (HP2.out.blkAt (i := 6) rfl).c 3 _ rfl
        go_wp2_with fail
        refine (covers_any q p D D.acc[i] hd.amount _ HH.out (HX.out _ (List.getElem_mem hil)) ⟨g1, g2⟩ HPX.out ⟨HBX.out.lt, HBX.out.c 0 _ rfl, HBX.out.c 1 _ rfl, HBX.out.c 2 _ rfl, HBX.out.c 3 _ rfl⟩).mono ?_
        rintro e w2 ⟨rfl, hb2⟩
        have HP3 : Hid (Pool FF w [[blk q [.map (some m), (.slice ha D.hold.length ch), sv]], [mapR m (D.acc.map Acc.name) ps], accB' ps D.acc, [row 71 4 (.slice ha D.hold.length ch) D.hold.length (D.hold.flatMap hldCells)], [row 47 2 sv D.seen.length (D.seen.flatMap snCells)], [], [blk w.heap.size (hldCells hd)]] w2) := hide (HP2.out.keep hb2)
        have HG3 : Hid _ := hide ((hb2.cell (p := ⟨2, 0, none⟩) (cell_lt HG2.out)).trans HG2.out)
        clear hb2 HP2 HG2 HBX HPX c3
        cases hcv : covB D.acc[i] (heldL D.acc[i].name D.hold) hd.amount
        · skip
          have HCN : Hid (holdC D.acc D.hold hd = some 7) := hide (by rw [HC1.out, hcv]; rfl)
          go_wp2_with fail
          refine (denied_any _ t v _ HG3.out).mono ?_
          rintro e w3 ⟨rfl, rfl⟩
          go_wp2_with fail
          go_ret
          have hl : holdL D.acc D.hold hd = D.hold := by simp [holdL, HCN.out]
          refine ⟨.slice ha D.hold.length ch, ?_⟩
          unfold DoEnd
          rw [HCN.out, hl]
          exact ⟨_, rfl, ((HP3.out.newBlk (i := 5) rfl [.int .i64 7, .iface t v] 95).drop (i := 6) rfl).cast (by simp [bkS])⟩
        · have HCN : Hid (holdC D.acc D.hold hd = none) := hide (by rw [HC1.out, hcv]; rfl)
          clear hcv HC1 HC
          have z0 := (HP3.out.blkAt (i := 6) rfl).c 0 _ rfl
          have z1 := (HP3.out.blkAt (i := 6) rfl).c 1 _ rfl
          have z2 := (HP3.out.blkAt (i := 6) rfl).c 2 _ rfl
          have z3 := (HP3.out.blkAt (i := 6) rfl).c 3 _ rfl
          have zl := (HP3.out.blkAt (i := 6) rfl).lt
          have d1 := (HP3.out.blkAt (i := 0) rfl).c 1 _ rfl
          have dl := (HP3.out.blkAt (i := 0) rfl).lt
          go_upto_region 8 with fail
          rename_i K1 hK1
          have HP4 : Hid (Pool FF w [[blk q [.map (some m), (.slice ha D.hold.length ch), sv]], [mapR m (D.acc.map Acc.name) ps], accB' ps D.acc, [row 71 4 (.slice ha D.hold.length ch) D.hold.length (D.hold.flatMap hldCells)], [row 47 2 sv D.seen.length (D.seen.flatMap snCells)], [], [blk w.heap.size (hldCells hd)], []] w2) := hide (HP3.out.cast (by simp))
          clear HP3 z0 z1 z2 z3 zl d1 dl
          refine wp_region_inv (by kernel_rfl) (fun L act x => ∃ l0 l1 l2 l3 l4 l5 l6 l7 l8 l9 l10 : Bool, ∃ u37 u38 u39 u40 u41 u42 u43 u44 u45 u46 : Value, L = #[l0, l1, l2, l3, l4, l5, l6, l7, l8, l9, l10] ∧ act = { tmps := #[Value.pointer (some { block := q, off := 0 }), Value.agg #[Value.int IntKind.i64 hd.id, Value.string hd.fr, Value.string hd.to, Value.int IntKind.i64 hd.amount], undef, Value.pointer (some { block := w.heap.size, off := 0 }), Value.nilIface, Value.pointer (some { block := p, off := 0 }), Value.pointer (some { block := ps[j]?.getD 0, off := 0 }), Value.nilIface, Value.tuple #[Value.pointer (some { block := p, off := 0 }), Value.pointer (some { block := ps[j]?.getD 0, off := 0 }), Value.nilIface], Value.pointer (some { block := q, off := 0 }), Value.pointer (some { block := w.heap.size, off := 1 }), Value.string hd.fr, Value.pointer (some { block := w.heap.size, off := 2 }), Value.string hd.to, Value.tuple #[Value.pointer (some { block := p, off := 0 }), Value.pointer (some { block := ps[j]?.getD 0, off := 0 }), Value.nilIface], Value.pointer (some { block := p, off := 0 }), Value.pointer (some { block := ps[j]?.getD 0, off := 0 }), Value.nilIface, Value.nilIface, Value.bool false, undef, u21, u22, u23, u24, u25, u26, u27, Value.bool false, undef, Value.pointer (some { block := q, off := 0 }), Value.pointer (some { block := p, off := 0 }), Value.pointer (some { block := w.heap.size, off := 3 }), Value.int IntKind.i64 hd.amount, Value.bool true, Value.bool false, undef, u37, u38, u39, u40, u41, u42, u43, u44, u45, u46, undef, undef, undef, undef, undef], defers := [] } ∧ HoA FF w q m ps ha ch sv D hd w.heap.size l0 l1 l2 l3 l4 l5 l6 l7 l8 l9 l10 u37 u38 u39 u40 u41 u42 u43 u44 u45 u46 x) ?_ ?_ ?_
          rotate_left 2
          · exact ⟨false, false, false, false, false, false, false, false, false, false, false, (undef), (undef), (undef), (undef), (undef), (undef), (undef), (undef), (undef), (undef), rfl, rfl, ⟨HP4.out.drew, fun q => (by cases q), fun q => (by cases q), fun q => (by cases q), fun q => (by cases q), fun q => (by cases q), fun q => (by cases q), fun q => (by cases q), fun q => (by cases q), fun q => (by cases q), fun q => (by cases q), fun q => (by cases q), fun q => (by cases q), fun q => (by cases q)⟩⟩
          · rintro L act x i ⟨l0, l1, l2, l3, l4, l5, l6, l7, l8, l9, l10, u37, u38, u39, u40, u41, u42, u43, u44, u45, u46, rfl, rfl, h⟩ hi K hK
            have hi15 : i < 11 := by
              obtain ⟨_, o, ho, _⟩ := mem_ready.1 hi
              exact (Array.getElem?_eq_some_iff.1 ho).1
            have hl := (mem_ready.1 hi).1
            obtain rfl | rfl | rfl | rfl | rfl | rfl | rfl | rfl | rfl | rfl | rfl := (by omega : i = 0 ∨ i = 1 ∨ i = 2 ∨ i = 3 ∨ i = 4 ∨ i = 5 ∨ i = 6 ∨ i = 7 ∨ i = 8 ∨ i = 9 ∨ i = 10)
            · have e : l0 = false := hl
              subst e
              refine wpOp_run (v := .pointer (some ⟨q, 0, none⟩)) (w' := x) (by rfl) (by rfl) ?_ (hK _ _ ⟨true, l1, l2, l3, l4, l5, l6, l7, l8, l9, l10, (.pointer (some ⟨q, 0, none⟩)), u38, u39, u40, u41, u42, u43, u44, u45, u46, rfl, rfl, { h with p37 := fun _ => rfl }⟩)
              go_simp
            · have e : l1 = false := hl
              subst e
              refine wpOp_run (v := .pointer (some ⟨q, 0, none⟩)) (w' := x) (by rfl) (by rfl) ?_ (hK _ _ ⟨l0, true, l2, l3, l4, l5, l6, l7, l8, l9, l10, u37, (.pointer (some ⟨q, 0, none⟩)), u39, u40, u41, u42, u43, u44, u45, u46, rfl, rfl, { h with p38 := fun _ => rfl }⟩)
              go_simp
            · have e : l2 = false := hl
              subst e
              have d1 : l1 = true := ready_on hi 1 (by kernel_rfl)
              subst d1
              refine wpOp_run (v := .pointer (some ⟨q, 0, none⟩)) (w' := x) (by rfl) (by rfl) ?_ (hK _ _ ⟨l0, true, true, l3, l4, l5, l6, l7, l8, l9, l10, u37, u38, (.pointer (some ⟨q, 0, none⟩)), u40, u41, u42, u43, u44, u45, u46, rfl, rfl, { h with p39 := fun _ => rfl }⟩)
              rw [h.p38 rfl]
              go_simp
            · have e : l3 = false := hl
              subst e
              have d2 : l2 = true := ready_on hi 2 (by kernel_rfl)
              subst d2
              refine wpOp_run (v := .pointer (some ⟨q, 1, none⟩)) (w' := x) (by rfl) (by rfl) ?_ (hK _ _ ⟨l0, l1, true, true, l4, l5, l6, l7, l8, l9, l10, u37, u38, u39, (.pointer (some ⟨q, 1, none⟩)), u41, u42, u43, u44, u45, u46, rfl, rfl, { h with p40 := fun _ => rfl }⟩)
              rw [h.p39 rfl]
              go_simp
            · have e : l4 = false := hl
              subst e
              have d3 : l3 = true := ready_on hi 3 (by kernel_rfl)
              subst d3
              have z10 : l10 = false := by
                cases hz : l10
                · rfl
                · exact absurd (h.d10_4 hz) (by simp)
              subst z10
              have c0 : x.cell? ⟨q, 1, none⟩ = some (.slice ha D.hold.length ch) := (h.pool.blkAt (i := 0) rfl).c 1 _ rfl
              refine wpOp_run (v := (.slice ha D.hold.length ch)) (w' := x) (by rfl) (by rfl) ?_ (hK _ _ ⟨l0, l1, l2, true, true, l5, l6, l7, l8, l9, false, u37, u38, u39, u40, ((.slice ha D.hold.length ch)), u42, u43, u44, u45, u46, rfl, rfl, { h with p41 := (fun _ => rfl), d7_4 := fun _ => rfl, d10_4 := fun _ => rfl }⟩)
              rw [h.p40 rfl]
              go_simp
            · have e : l5 = false := hl
              subst e
              have c0 : x.cell? ⟨w.heap.size, 0, none⟩ = some (.int .i64 hd.id) := (h.pool.blkAt (i := 6) rfl).c 0 _ rfl
              have c1 : x.cell? ⟨w.heap.size, 1, none⟩ = some (.string hd.fr) := (h.pool.blkAt (i := 6) rfl).c 1 _ rfl
              have c2 : x.cell? ⟨w.heap.size, 2, none⟩ = some (.string hd.to) := (h.pool.blkAt (i := 6) rfl).c 2 _ rfl
              have c3 : x.cell? ⟨w.heap.size, 3, none⟩ = some (.int .i64 hd.amount) := (h.pool.blkAt (i := 6) rfl).c 3 _ rfl
              refine wpOp_run (v := .agg #[.int .i64 hd.id, .string hd.fr, .string hd.to, .int .i64 hd.amount]) (w' := x) (by rfl) (by rfl) ?_ (hK _ _ ⟨l0, l1, l2, l3, l4, true, l6, l7, l8, l9, l10, u37, u38, u39, u40, u41, (.agg #[.int .i64 hd.id, .string hd.fr, .string hd.to, .int .i64 hd.amount]), u43, u44, u45, u46, rfl, rfl, { h with p42 := fun _ => rfl }⟩)
              go_simp
            · have e : l6 = false := hl
              subst e
              have d5 : l5 = true := ready_on hi 5 (by kernel_rfl)
              subst d5
              have z7 : l7 = false := by
                cases hz : l7
                · rfl
                · exact absurd (h.d7_6 hz) (by simp)
              subst z7
              refine wpOp_run (v := .slice (some ⟨x.heap.size, 0, none⟩) 1 1) (w' := x.alloc (.cells #[.int .i64 hd.id, .string hd.fr, .string hd.to, .int .i64 hd.amount] 71)) (by rfl) (by rfl) ?_ (hK _ _ ⟨l0, l1, l2, l3, l4, true, true, false, l8, l9, l10, u37, u38, u39, u40, u41, u42, (.slice (some ⟨x.heap.size, 0, none⟩) 1 1), u44, u45, u46, rfl, rfl, { h with q43 := (fun _ => rfl), pool := (h.pool.newBlk (i := 7) rfl (hldCells hd) 71), d7_6 := fun _ => rfl }⟩)
              rw [h.p42 rfl]
              go_simp
            · have e : l7 = false := hl
              subst e
              have d4 : l4 = true := ready_on hi 4 (by kernel_rfl)
              subst d4
              have d6 : l6 = true := ready_on hi 6 (by kernel_rfl)
              subst d6
              have z10 : l10 = false := by
                cases hz : l10
                · rfl
                · exact absurd (h.d10_7 hz) (by simp)
              subst z10
              obtain ⟨v', y, hr, hp⟩ := h.pool.append (P := Tryz.prog) (i0 := 3) rfl 25 25 i0 _ 48 Tryz.underlying25 hi0 hz0 hz1 hz2 rfl (by decide) (some ⟨gOf (slA u43), 0, none⟩) 1 1 (hldCells hd) rfl (fun e => by cases e) (blk_news (h.pool.blkAt (i := 7) rfl)) (hld_one1 hd) (by unfold maxLen; omega) (by omega)
              refine wpOp_run (v := v') (w' := y) (by rfl) (by rfl) ?_ (hK _ _ ⟨l0, l1, l2, l3, true, l5, true, true, l8, l9, false, u37, u38, u39, u40, u41, u42, u43, (v'), u45, u46, rfl, rfl, { h with pool := (hp), d7_6 := fun _ => rfl, d7_4 := fun _ => rfl, d10_7 := fun _ => rfl }⟩)
              exact exec_append rfl (h.p41 rfl) (h.q43 rfl) hr
            · have e : l8 = false := hl
              subst e
              have d0 : l0 = true := ready_on hi 0 (by kernel_rfl)
              subst d0
              have d1 : l1 = true := ready_on hi 1 (by kernel_rfl)
              subst d1
              have d2 : l2 = true := ready_on hi 2 (by kernel_rfl)
              subst d2
              have d3 : l3 = true := ready_on hi 3 (by kernel_rfl)
              subst d3
              have d4 : l4 = true := ready_on hi 4 (by kernel_rfl)
              subst d4
              have d5 : l5 = true := ready_on hi 5 (by kernel_rfl)
              subst d5
              have d6 : l6 = true := ready_on hi 6 (by kernel_rfl)
              subst d6
              have d7 : l7 = true := ready_on hi 7 (by kernel_rfl)
              subst d7
              refine wpOp_run (v := .pointer (some ⟨q, 0, none⟩)) (w' := x) (by rfl) (by rfl) ?_ (hK _ _ ⟨true, true, true, true, true, true, true, true, true, l9, l10, u37, u38, u39, u40, u41, u42, u43, u44, (.pointer (some ⟨q, 0, none⟩)), u46, rfl, rfl, { h with p45 := fun _ => rfl }⟩)
              rw [h.p37 rfl]
              go_simp
            · have e : l9 = false := hl
              subst e
              have d0 : l0 = true := ready_on hi 0 (by kernel_rfl)
              subst d0
              have d1 : l1 = true := ready_on hi 1 (by kernel_rfl)
              subst d1
              have d2 : l2 = true := ready_on hi 2 (by kernel_rfl)
              subst d2
              have d3 : l3 = true := ready_on hi 3 (by kernel_rfl)
              subst d3
              have d4 : l4 = true := ready_on hi 4 (by kernel_rfl)
              subst d4
              have d5 : l5 = true := ready_on hi 5 (by kernel_rfl)
              subst d5
              have d6 : l6 = true := ready_on hi 6 (by kernel_rfl)
              subst d6
              have d7 : l7 = true := ready_on hi 7 (by kernel_rfl)
              subst d7
              have d8 : l8 = true := ready_on hi 8 (by kernel_rfl)
              subst d8
              refine wpOp_run (v := .pointer (some ⟨q, 1, none⟩)) (w' := x) (by rfl) (by rfl) ?_ (hK _ _ ⟨true, true, true, true, true, true, true, true, true, true, l10, u37, u38, u39, u40, u41, u42, u43, u44, u45, (.pointer (some ⟨q, 1, none⟩)), rfl, rfl, { h with p46 := fun _ => rfl }⟩)
              rw [h.p45 rfl]
              go_simp
            · have e : l10 = false := hl
              subst e
              have d0 : l0 = true := ready_on hi 0 (by kernel_rfl)
              subst d0
              have d1 : l1 = true := ready_on hi 1 (by kernel_rfl)
              subst d1
              have d2 : l2 = true := ready_on hi 2 (by kernel_rfl)
              subst d2
              have d3 : l3 = true := ready_on hi 3 (by kernel_rfl)
              subst d3
              have d4 : l4 = true := ready_on hi 4 (by kernel_rfl)
              subst d4
              have d5 : l5 = true := ready_on hi 5 (by kernel_rfl)
              subst d5
              have d6 : l6 = true := ready_on hi 6 (by kernel_rfl)
              subst d6
              have d7 : l7 = true := ready_on hi 7 (by kernel_rfl)
              subst d7
              have d9 : l9 = true := ready_on hi 9 (by kernel_rfl)
              subst d9
              obtain ⟨a6, k6, e6⟩ := row_shape (h.pool.rowAt (i := 3) rfl)
              have A := h.pool.blkAt (i := 0) rfl
              have t1 := A.c 1 _ rfl
              have f1 := A.f 1
              refine wpOp_skip (w' := x.setCell ⟨q, 1, none⟩ u44) (by rfl) (by rfl) ?_ (hK _ _ ⟨true, true, true, true, true, true, true, true, l8, true, true, u37, u38, u39, u40, u41, u42, u43, u44, u45, u46, rfl, rfl, { h with pool := (h.pool.setBlk (i := 0) rfl 1 u44 (by simp)), d10_7 := fun _ => rfl, d10_4 := fun _ => rfl }⟩)
              rw [h.p46 rfl, e6]
              go_simp
          · rintro L act x ⟨l0, l1, l2, l3, l4, l5, l6, l7, l8, l9, l10, u37, u38, u39, u40, u41, u42, u43, u44, u45, u46, rfl, rfl, h⟩ hr
            have hall := ready_all hr rfl (by decide)
            have t0 : l0 = true := hall 0 (by decide)
            have t1 : l1 = true := hall 1 (by decide)
            have t2 : l2 = true := hall 2 (by decide)
            have t3 : l3 = true := hall 3 (by decide)
            have t4 : l4 = true := hall 4 (by decide)
            have t5 : l5 = true := hall 5 (by decide)
            have t6 : l6 = true := hall 6 (by decide)
            have t7 : l7 = true := hall 7 (by decide)
            have t8 : l8 = true := hall 8 (by decide)
            have t9 : l9 = true := hall 9 (by decide)
            have t10 : l10 = true := hall 10 (by decide)
            subst t0 t1 t2 t3 t4 t5 t6 t7 t8 t9 t10
            clear hall hr
            obtain ⟨N, hN⟩ : ∃ N, N = D.hold ++ [hd] := ⟨_, rfl⟩
            obtain ⟨a6, k6, e6⟩ := row_shape (h.pool.rowAt (i := 3) rfl)
            have HP5 : Hid (Pool FF w [[blk q [.map (some m), u44, sv]], [mapR m (D.acc.map Acc.name) ps], accB' ps D.acc, [row 71 4 u44 N.length (N.flatMap hldCells)], [row 47 2 sv D.seen.length (D.seen.flatMap snCells)], []] x) := hide (by
              have z := (h.pool.drop (i := 7) rfl).drop (i := 6) rfl
              have e1 : (D.hold ++ [hd]).length = D.hold.length + 1 := by simp
              have e2 : (D.hold ++ [hd]).flatMap hldCells = D.hold.flatMap hldCells ++ hldCells hd := by simp
              rw [hN, e1, e2]
              exact z.cast (by simp))
            have HNN : Hid _ := hide hN
            have hn0 : 0 < N.length := by rw [hN]; simp
            have hn1 : N.length ≤ 1048576 := by rw [hN]; simp; omega
            have e6' : u44 = .slice a6 N.length k6 := by rw [e6, hN]; simp
            clear h hN e6
            subst e6'
            refine hK1 _ _ ?_
            have d1 := (HP5.out.blkAt (i := 0) rfl).c 1 _ rfl
            have dl := (HP5.out.blkAt (i := 0) rfl).lt
            go_wp2_with fail
            refine (sortHld_pool HP5.out (i := 3) rfl hn0 hn1).mono ?_
            rintro e w3 ⟨rfl, r, hr, hs, hp4⟩
            have HP6 : Hid _ := hide hp4
            have HR : Hid (r = insH D.hold hd) := hide (insH_of HU.out HNO.out (HNN.out ▸ hr) hs)
            clear hr hs hp4 d1 dl
            go_wp2_with fail
            go_ret
            have hl : holdL D.acc D.hold hd = insH D.hold hd := by simp [holdL, HCN.out]
            refine ⟨.slice a6 N.length k6, ?_⟩
            unfold DoEnd
            rw [HCN.out, hl]
            have z := HP6.out
            rw [HR.out] at z
            exact ⟨rfl, z.cast (by simp [bkS])⟩
end Go.Proofs.YtjjoeajnhblacaaGreatDoor
