/- The contract of the book's take. -/
import Derived.Test.YtjjoeajnhblacaaGreatDoorBkG
namespace Go.Proofs.YtjjoeajnhblacaaGreatDoor
open Go.ChangeShapes Go.WideShapes Go.ChangeAt Go.RowKit Go.Maps
set_option linter.unusedVariables false
set_option maxRecDepth 100000
theorem Pool.apart {F : List Nat} {w x : World} {S : List (List Rs)} (h : Pool F w S x) {i j : Nat} {rs rs' : List Rs} (hij : i < j) (hi : S[i]? = some rs) (hj : S[j]? = some rs') : ∀ b ∈ fps rs, ∀ b' ∈ fps rs', b ≠ b' := by
  have hn := h.st.nd
  have e : fps S.flatten = (S.map fps).flatten := by
    clear h hi hj hn
    induction S with
    | nil => rfl
    | cons a l ih => rw [List.flatten_cons, fps_app, ih]; rfl
  rw [e] at hn
  have hp := (List.pairwise_flatten.1 hn).2
  have k := List.pairwise_iff_getElem.1 hp i j (by have := (List.getElem?_eq_some_iff.1 hi).1; simpa using this) (by have := (List.getElem?_eq_some_iff.1 hj).1; simpa using this) hij
  simp only [List.getElem_map, (List.getElem?_eq_some_iff.1 hi).2, (List.getElem?_eq_some_iff.1 hj).2] at k
  exact k
structure TkF (FF : List Nat) (w : World) (q m : Nat) (ps : List Nat) (g ch : Nat) (sv : Value) (D : Led) (Z : List Hld) (k : Nat) (xh : Hld) (n : Nat) (code : Int) (t : TypeId) (v : Value) (W : Nat) (l0 l1 l2 l3 l4 l5 l6 l7 l8 l9 l10 l11 : Bool) (u42 u43 u44 u45 u46 u47 u48 u49 u50 u51 u52 : Value) (x : World) : Prop where
  pool : Pool FF w [cond l11 [blk q [.map (some m), u50, sv]] [blk q [.map (some m), (.slice (some ⟨g, 0, none⟩) Z.length ch), sv]], [mapR m (D.acc.map Acc.name) ps], accB' ps D.acc, cond l8 [row 71 4 u50 (Z.length + 1) ((insHL Z k xh).flatMap hldCells)] [row 71 4 (.slice (some ⟨g, 0, none⟩) Z.length ch) Z.length (Z.flatMap hldCells)], [row 47 2 sv D.seen.length (D.seen.flatMap snCells)], [blk n [.int .i64 code, .iface t v]], [blk W (hldCells xh)], cond l7 [blk (gOf (slA u49)) (hldCells xh)] []] x
  q49 : l7 = true → u49 = .slice (some ⟨gOf (slA u49), 0, none⟩) 1 1
  hp49 : l7 = true → l8 = false → x.heap[gOf (slA u49)]? = some (.cells #[.int .i64 xh.id, .string xh.fr, .string xh.to, .int .i64 xh.amount] 71 (0, 0))
  d8_7 : l8 = true → l7 = true
  d8_4 : l8 = true → l4 = true
  d11_8 : l11 = true → l8 = true
  d11_4 : l11 = true → l4 = true
  p42 : l0 = true → u42 = .pointer (some ⟨q, 0, none⟩)
  p43 : l1 = true → u43 = .pointer (some ⟨q, 0, none⟩)
  p44 : l2 = true → u44 = .pointer (some ⟨q, 0, none⟩)
  p51 : l9 = true → u51 = .pointer (some ⟨q, 0, none⟩)
  p45 : l3 = true → u45 = .pointer (some ⟨q, 1, none⟩)
  p52 : l10 = true → u52 = .pointer (some ⟨q, 1, none⟩)
  p46 : l4 = true → u46 = (.slice (some ⟨g, 0, none⟩) Z.length ch)
  p47 : l5 = true → u47 = .int .i64 (k : Int)
  p48 : l6 = true → u48 = .agg #[.int .i64 xh.id, .string xh.fr, .string xh.to, .int .i64 xh.amount]
set_option maxHeartbeats 4000000 in
theorem take_any (q m : Nat) (ps : List Nat) (hv sv : Value) (D : Led) (c : Cm) (t : TypeId) (v : Value) (w : World) (hps : ps.length = D.acc.length) (hm : LedM D) (hup : (D.hold.map Hld.id).Pairwise (· < ·)) (hH : SmallH D.hold) (hhw : ∀ y ∈ D.hold, HldW y) (hsw : ∀ y ∈ D.seen, SnW y) (hk : c.kind = 4) (h : Star (bkS q m ps hv sv D.acc D.hold D.seen).flatten w) (hg : w.cell? ⟨2, 0, none⟩ = some (.iface t v)) (hen : 2 ∉ fps (bkS q m ps hv sv D.acc D.hold D.seen).flatten) :
    Calls Tryz.prog 62 #[.pointer (some ⟨q, 0, none⟩), .int .i64 c.ref] w fun e w' => DoneEnd q m sv D c (.iface t v) (fps (bkS q m ps hv sv D.acc D.hold D.seen).flatten) w e w' := by
  obtain ⟨FF, hFF⟩ : ∃ FF, FF = fps (bkS q m ps hv sv D.acc D.hold D.seen).flatten := ⟨_, rfl⟩
  have hl := hH.1
  obtain ⟨ha, ch, sa, cs, rfl, rfl, hbk⟩ := h.bk hps
  obtain ⟨sv, hsv⟩ : ∃ sv, sv = Value.slice sa D.seen.length cs := ⟨_, rfl⟩
  rw [← hsv] at h hFF hen ⊢
  have HP : Hid (Pool FF w [[blk q [.map (some m), (.slice ha D.hold.length ch), sv]], [mapR m (D.acc.map Acc.name) ps], accB' ps D.acc, [row 71 4 (.slice ha D.hold.length ch) D.hold.length (D.hold.flatMap hldCells)], [row 47 2 sv D.seen.length (D.seen.flatMap snCells)], []] w) := hide (by
    rw [hFF]
    exact (Pool.of h).cast (by simp [bkS]))
  have HGW : Hid _ := hide hg
  have HG : Hid _ := hide hg
  have HEN : Hid (2 ∉ FF) := hide (by rw [hFF]; exact hen)
  have HK : Hid _ := hide hbk
  have HM : Hid _ := hide hm
  have HU : Hid _ := hide hup
  have HC : Hid _ := hide hk
  have HPS : Hid _ := hide hps
  have HHW : Hid _ := hide hhw
  have HSW : Hid _ := hide hsw
  have HSH : Hid _ := hide hH
  rw [← hFF]
  clear h hg hen hFF hps hbk hm hup hk hsv hhw hsw hH
  obtain ⟨i0, hi0, hz0, hz1, hz2⟩ := info_parts infoHld
  go_enter Tryz.func62, Tryz.ntmps62
  go_wp2_with fail
  refine (holdPlace_any q ha D.hold ch c.ref w (by omega) HK.out.hold HK.out.lt HK.out.c1).mono ?_
  rintro e w1 ⟨rfl, hb1⟩
  have HP1 : Hid (Pool FF w [[blk q [.map (some m), (.slice ha D.hold.length ch), sv]], [mapR m (D.acc.map Acc.name) ps], accB' ps D.acc, [row 71 4 (.slice ha D.hold.length ch) D.hold.length (D.hold.flatMap hldCells)], [row 47 2 sv D.seen.length (D.seen.flatMap snCells)], []] w1) := hide (HP.out.keep hb1)
  have HG1 : Hid _ := hide ((hb1.cell (p := ⟨2, 0, none⟩) (cell_lt HG.out)).trans HG.out)
  have HK1 : Hid _ := hide (HK.out.below hb1)
  clear hb1 HP HG HK
  cases hf : fi (D.hold.map Hld.id) c.ref with
  | none =>
    have HE : Hid _ := hide (do_end_none HM.out (.inl HC.out) hf)
    clear hf
    simp only [ixV]
    go_wp2_with fail
    refine (denied_any _ t v _ HG1.out).mono ?_
    rintro e w3 ⟨rfl, rfl⟩
    go_wp2_with fail
    go_ret
    exact ⟨some 9, ps, .slice ha D.hold.length ch, D.acc, D.hold, HE.out, HPS.out, _, rfl, (HP1.out.newBlk (i := 5) rfl [.int .i64 9, .iface t v] 95).cast (by simp [bkS])⟩
  | some k =>
    obtain ⟨hkl, _, _⟩ := fiH_some hf
    have HE : Hid _ := hide (do_take HM.out HU.out HC.out hf hkl)
    obtain ⟨g, rfl⟩ := row_some (HP1.out.rowAt (i := 3) rfl) (by omega)
    have hroom := row_room (HP1.out.rowAt (i := 3) rfl) (by omega)
    clear hf
    simp only [ixV]
    have k0 : ¬ ((k : Int) < 0) := by omega
    have k1 : (k : Int) < (D.hold.length : Int) := by omega
    have w1_ : IntKind.i64.wrap ((k : Int) + 1) = (k : Int) + 1 := wrap64_id (by omega)
    have d1 := (HP1.out.blkAt (i := 0) rfl).c 1 _ rfl
    have dl := (HP1.out.blkAt (i := 0) rfl).lt
    obtain ⟨b2, off2, eh, hb2, y0, y1, y2, y3⟩ := hld_row HK1.out.hold k hkl
    simp only [Option.some.injEq, Addr.mk.injEq, and_true] at eh
    obtain ⟨rfl, rfl⟩ := eh
    rw [Nat.zero_add] at y0 y1 y2 y3
    obtain ⟨xh, hxh⟩ : ∃ xh, xh = D.hold[k] := ⟨_, rfl⟩
    have HXM : Hid (xh ∈ D.hold) := hide (by rw [hxh]; exact List.getElem_mem hkl)
    have HXE : Hid _ := hide hxh
    rw [← hxh] at y0 y1 y2 y3 HE
    clear hxh
    obtain ⟨W1, hW1⟩ : ∃ W1, W1 = w1.alloc (.cells (hldCells xh).toArray 71) := ⟨_, rfl⟩
    have HP2 : Hid (Pool FF w [[blk q [.map (some m), (.slice (some ⟨g, 0, none⟩) D.hold.length ch), sv]], [mapR m (D.acc.map Acc.name) ps], accB' ps D.acc, [row 71 4 (.slice (some ⟨g, 0, none⟩) D.hold.length ch) D.hold.length (D.hold.flatMap hldCells)], [row 47 2 sv D.seen.length (D.seen.flatMap snCells)], [], [blk w1.heap.size (hldCells xh)]] W1) := hide (by
      rw [hW1]
      have z : Pool FF w [[blk q [.map (some m), (.slice (some ⟨g, 0, none⟩) D.hold.length ch), sv]], [mapR m (D.acc.map Acc.name) ps], accB' ps D.acc, [row 71 4 (.slice (some ⟨g, 0, none⟩) D.hold.length ch) D.hold.length (D.hold.flatMap hldCells)], [row 47 2 sv D.seen.length (D.seen.flatMap snCells)], [], []] w1 := HP1.out.cast (by simp)
      exact z.newBlk (i := 6) rfl (hldCells xh) 71)
    have HW1 : Hid (_ = W1) := hide hW1.symm
    have HG2 : Hid (W1.cell? ⟨2, 0, none⟩ = some (.iface t v)) := hide (by rw [hW1]; exact ((below_alloc (Below.refl _ _) _ : Below w1.heap.size w1 (w1.alloc _)).cell (p := ⟨2, 0, none⟩) (cell_lt HG1.out)).trans HG1.out)
    clear hW1 HP1 HG1
    unfold hldCells at HW1
    go_upto_region 5 with fail
    rw [HW1.out]
    clear y0 y1 y2 y3 d1 dl HK1
    have d1 := (HP2.out.blkAt (i := 0) rfl).c 1 _ rfl
    have dl := (HP2.out.blkAt (i := 0) rfl).lt
    go_wp2_with fail
    refine (del_pool HP2.out (i := 3) rfl (by omega) hkl).mono ?_
    rintro e w2 ⟨rfl, hp2⟩
    obtain ⟨Z, hZ⟩ : ∃ Z, Z = cutL D.hold k := ⟨_, rfl⟩
    rw [← hZ] at hp2 ⊢
    have HP3 : Hid (Pool FF w [[blk q [.map (some m), (.slice (some ⟨g, 0, none⟩) D.hold.length ch), sv]], [mapR m (D.acc.map Acc.name) ps], accB' ps D.acc, [row 71 4 (.slice (some ⟨g, 0, none⟩) Z.length ch) Z.length (Z.flatMap hldCells)], [row 47 2 sv D.seen.length (D.seen.flatMap snCells)], [], [blk w1.heap.size (hldCells xh)]] w2) := hide hp2
    have HG3 : Hid (w2.cell? ⟨2, 0, none⟩ = some (.iface t v)) := hide ((HP3.out.fr.cell (p := ⟨2, 0, none⟩) (cell_lt HGW.out) HEN.out).trans HGW.out)
    have HZ : Hid _ := hide hZ
    have HZL : Hid (Z.length = D.hold.length - 1) := hide (by rw [hZ]; exact cutL_len _ _ hkl)
    clear hp2 HP2 d1 dl hZ HG2 HW1
    have t1 := (HP3.out.blkAt (i := 0) rfl).c 1 _ rfl
    have f1 := (HP3.out.blkAt (i := 0) rfl).f 1
    have dl := (HP3.out.blkAt (i := 0) rfl).lt
    have z1 := (HP3.out.blkAt (i := 6) rfl).c 1 _ rfl
    have z2 := (HP3.out.blkAt (i := 6) rfl).c 2 _ rfl
    have z3 := (HP3.out.blkAt (i := 6) rfl).c 3 _ rfl
    have HP4 : Hid _ := hide (HP3.out.setBlk (i := 0) rfl 1 (.slice (some ⟨g, 0, none⟩) Z.length ch) (by simp))
    go_upto_region 6 with fail
    obtain ⟨W3, hW3⟩ : ∃ W3, W3 = w2.setCell ⟨q, 1, none⟩ (.slice (some ⟨g, 0, none⟩) Z.length ch) := ⟨_, rfl⟩
    have HP5 : Hid (Pool FF w [(bkS q m ps (.slice (some ⟨g, 0, none⟩) Z.length ch) sv D.acc Z D.seen).flatten, [], [blk w1.heap.size (hldCells xh)]] W3) := hide (by
      rw [hW3]
      exact HP4.out.cast (by simp [bkS]))
    rw [← hW3]
    have HG4 : Hid (W3.cell? ⟨2, 0, none⟩ = some (.iface t v)) := hide ((HP5.out.fr.cell (p := ⟨2, 0, none⟩) (cell_lt HGW.out) HEN.out).trans HGW.out)
    clear hW3 HP4 HP3 HG3 t1 f1 dl z1 z2 z3
    have z1 := (HP5.out.blkAt (i := 2) rfl).c 1 _ rfl
    have z2 := (HP5.out.blkAt (i := 2) rfl).c 2 _ rfl
    have z3 := (HP5.out.blkAt (i := 2) rfl).c 3 _ rfl
    have HZM : Hid (∀ y ∈ Z, y ∈ D.hold) := hide (fun y hy => cut_mem (by rw [← HZ.out]; exact hy))
    have HPO : Hid _ := hide (post_any q m ps (.slice (some ⟨g, 0, none⟩) Z.length ch) sv ⟨D.acc, Z, D.seen⟩ xh.fr xh.to xh.amount t v W3 HPS.out (HHW.out _ HXM.out).1 (HHW.out _ HXM.out).2.1 (HM.out.prs _ HXM.out).2.1 ⟨by have := HZL.out; show Z.length ≤ 10; omega, fun y hy => HSH.out.2 y (HZM.out y hy)⟩ HM.out.sx (by have := (HM.out.prs _ HXM.out).2.2; omega) (fun y hy => HHW.out y (HZM.out y hy)) HSW.out (HP5.out.get (i := 0) rfl) HG4.out)
    go_wp2_with fail
    refine HPO.out.mono ?_
    intro e w4 hpe
    clear HPO HG4 z1 z2 z3
    unfold DoEnd at hpe
    have HEZ : Hid (DoIs D c (postC D.acc Z xh.fr xh.to xh.amount) (postL D.acc Z xh.fr xh.to xh.amount) (match postC D.acc Z xh.fr xh.to xh.amount with | none => Z | some _ => D.hold)) := hide (by
      have z := HE.out
      unfold takeH takeA takeC at z
      rw [← HZ.out] at z
      exact z)
    clear HE
    cases hpc : postC D.acc Z xh.fr xh.to xh.amount with
    | none =>
      rw [hpc] at hpe
      obtain ⟨rfl, hp⟩ := hpe
      have HN : Hid (DoIs D c none (postL D.acc Z xh.fr xh.to xh.amount) Z) := hide (by have z := HEZ.out; rw [hpc] at z; exact z)
      have HP6 : Hid _ := hide (HP5.out.call (i := 0) rfl (rs' := (bkS q m ps (.slice (some ⟨g, 0, none⟩) Z.length ch) sv (postL D.acc Z xh.fr xh.to xh.amount) Z D.seen).flatten) (hp.cast (by simp)))
      clear hp HP5 HEZ hpc
      have hlen : (postL D.acc Z xh.fr xh.to xh.amount).length = D.acc.length := by have := congrArg List.length (postL_names D.acc Z xh.fr xh.to xh.amount); simpa using this
      have HLN : Hid _ := hide hlen
      clear hlen
      go_wp2_with fail
      go_ret
      exact ⟨none, ps, (.slice (some ⟨g, 0, none⟩) Z.length ch), _, Z, HN.out, HPS.out.trans HLN.out.symm, rfl, (HP6.out.drop (i := 2) rfl).cast (by simp)⟩
    | some code =>
      rw [hpc] at hpe
      obtain ⟨n, rfl, hp⟩ := hpe
      rw [postL_no hpc] at hp
      have HN : Hid (DoIs D c (some code) D.acc D.hold) := hide (by have z := HEZ.out; rw [hpc] at z; rw [postL_no hpc] at z; exact z)
      have HP6 : Hid (Pool FF w [[blk q [.map (some m), (.slice (some ⟨g, 0, none⟩) Z.length ch), sv]], [mapR m (D.acc.map Acc.name) ps], accB' ps D.acc, [row 71 4 (.slice (some ⟨g, 0, none⟩) Z.length ch) Z.length (Z.flatMap hldCells)], [row 47 2 sv D.seen.length (D.seen.flatMap snCells)], [blk n [.int .i64 code, .iface t v]], [blk w1.heap.size (hldCells xh)], []] w4) := hide ((HP5.out.call (i := 0) rfl (rs' := (bkS q m ps (.slice (some ⟨g, 0, none⟩) Z.length ch) sv D.acc Z D.seen).flatten ++ [blk n [.int .i64 code, .iface t v]]) (hp.cast (by simp))).cast (by simp [bkS]))
      clear hp HP5 HEZ hpc
      have HLK : Hid (k ≤ Z.length) := hide (by have := HZL.out; omega)
      have HRM : Hid (Z.length + 1 ≤ ch) := hide (by have := HZL.out; omega)
      have HLZ : Hid (Z.length ≤ 1048576) := hide (by have := HZL.out; omega)
      have HBK : Hid (insHL Z k xh = D.hold) := hide (by rw [HZ.out, HXE.out]; exact cut_back D.hold k hkl)
      have HLD : Hid (Z.length + 1 = D.hold.length) := hide (by have := HZL.out; omega)
      go_upto_region 8 with fail
      rename_i K0 hK0
      refine wp_region_inv (by kernel_rfl) (fun L act x => ∃ l0 l1 l2 l3 l4 l5 l6 l7 l8 l9 l10 l11 : Bool, ∃ u42 u43 u44 u45 u46 u47 u48 u49 u50 u51 u52 : Value, L = #[l0, l1, l2, l3, l4, l5, l6, l7, l8, l9, l10, l11] ∧ act = { tmps := #[Value.pointer (some { block := q, off := 0 }), Value.int IntKind.i64 c.ref, undef, undef, Value.nilIface, Value.int IntKind.i64 ↑k, Value.pointer (some { block := w1.heap.size, off := 0 }), Value.iface 91 (Value.pointer (some { block := n, off := 0 })), Value.pointer (some { block := q, off := 0 }), Value.int IntKind.i64 c.ref, Value.int IntKind.i64 ↑k, Value.int IntKind.i64 ↑k, Value.bool false, undef, Value.pointer (some { block := q, off := 0 }), Value.pointer (some { block := q, off := 0 }), Value.pointer (some { block := q, off := 1 }), Value.slice (some { block := g, off := 0 }) D.hold.length ch, Value.int IntKind.i64 ↑k, Value.pointer (some { block := g, off := k * 4 }), Value.agg #[Value.int IntKind.i64 xh.id, Value.string xh.fr, Value.string xh.to, Value.int IntKind.i64 xh.amount], Value.pointer (some { block := q, off := 0 }), Value.pointer (some { block := q, off := 0 }), Value.pointer (some { block := q, off := 0 }), Value.pointer (some { block := q, off := 1 }), Value.slice (some { block := g, off := 0 }) D.hold.length ch, Value.int IntKind.i64 ↑k, Value.int IntKind.i64 ↑k, Value.int IntKind.i64 (↑k + 1), Value.slice (some { block := g, off := 0 }) Z.length ch, Value.pointer (some { block := q, off := 0 }), Value.pointer (some { block := q, off := 1 }), Value.pointer (some { block := q, off := 0 }), Value.pointer (some { block := w1.heap.size, off := 1 }), Value.string xh.fr, Value.pointer (some { block := w1.heap.size, off := 2 }), Value.string xh.to, Value.pointer (some { block := w1.heap.size, off := 3 }), Value.int IntKind.i64 xh.amount, Value.iface 91 (Value.pointer (some { block := n, off := 0 })), Value.iface 91 (Value.pointer (some { block := n, off := 0 })), Value.bool true, u42, u43, u44, u45, u46, u47, u48, u49, u50, u51, u52, undef], defers := [] } ∧ TkF FF w q m ps g ch sv D Z k xh n code t v w1.heap.size l0 l1 l2 l3 l4 l5 l6 l7 l8 l9 l10 l11 u42 u43 u44 u45 u46 u47 u48 u49 u50 u51 u52 x) ?_ ?_ ?_
      rotate_left 2
      · exact ⟨false, false, false, false, false, false, false, false, false, false, false, false, (undef), (undef), (undef), (undef), (undef), (undef), (undef), (undef), (undef), (undef), (undef), rfl, rfl, ⟨HP6.out.drew, fun q => (by cases q), fun q => (by cases q), fun q => (by cases q), fun q => (by cases q), fun q => (by cases q), fun q => (by cases q), fun q => (by cases q), fun q => (by cases q), fun q => (by cases q), fun q => (by cases q), fun q => (by cases q), fun q => (by cases q), fun q => (by cases q), fun q => (by cases q), fun q => (by cases q)⟩⟩
      · rintro L act x i ⟨l0, l1, l2, l3, l4, l5, l6, l7, l8, l9, l10, l11, u42, u43, u44, u45, u46, u47, u48, u49, u50, u51, u52, rfl, rfl, h⟩ hi K hK
        have hi15 : i < 12 := by
          obtain ⟨_, o, ho, _⟩ := mem_ready.1 hi
          exact (Array.getElem?_eq_some_iff.1 ho).1
        have hl := (mem_ready.1 hi).1
        obtain rfl | rfl | rfl | rfl | rfl | rfl | rfl | rfl | rfl | rfl | rfl | rfl := (by omega : i = 0 ∨ i = 1 ∨ i = 2 ∨ i = 3 ∨ i = 4 ∨ i = 5 ∨ i = 6 ∨ i = 7 ∨ i = 8 ∨ i = 9 ∨ i = 10 ∨ i = 11)
        · have e : l0 = false := hl
          subst e
          refine wpOp_run (v := .pointer (some ⟨q, 0, none⟩)) (w' := x) (by rfl) (by rfl) ?_ (hK _ _ ⟨true, l1, l2, l3, l4, l5, l6, l7, l8, l9, l10, l11, (.pointer (some ⟨q, 0, none⟩)), u43, u44, u45, u46, u47, u48, u49, u50, u51, u52, rfl, rfl, { h with p42 := fun _ => rfl }⟩)
          go_simp
        · have e : l1 = false := hl
          subst e
          refine wpOp_run (v := .pointer (some ⟨q, 0, none⟩)) (w' := x) (by rfl) (by rfl) ?_ (hK _ _ ⟨l0, true, l2, l3, l4, l5, l6, l7, l8, l9, l10, l11, u42, (.pointer (some ⟨q, 0, none⟩)), u44, u45, u46, u47, u48, u49, u50, u51, u52, rfl, rfl, { h with p43 := fun _ => rfl }⟩)
          go_simp
        · have e : l2 = false := hl
          subst e
          have d1 : l1 = true := ready_on hi 1 (by kernel_rfl)
          subst d1
          refine wpOp_run (v := .pointer (some ⟨q, 0, none⟩)) (w' := x) (by rfl) (by rfl) ?_ (hK _ _ ⟨l0, true, true, l3, l4, l5, l6, l7, l8, l9, l10, l11, u42, u43, (.pointer (some ⟨q, 0, none⟩)), u45, u46, u47, u48, u49, u50, u51, u52, rfl, rfl, { h with p44 := fun _ => rfl }⟩)
          rw [h.p43 rfl]
          go_simp
        · have e : l3 = false := hl
          subst e
          have d2 : l2 = true := ready_on hi 2 (by kernel_rfl)
          subst d2
          refine wpOp_run (v := .pointer (some ⟨q, 1, none⟩)) (w' := x) (by rfl) (by rfl) ?_ (hK _ _ ⟨l0, l1, true, true, l4, l5, l6, l7, l8, l9, l10, l11, u42, u43, u44, (.pointer (some ⟨q, 1, none⟩)), u46, u47, u48, u49, u50, u51, u52, rfl, rfl, { h with p45 := fun _ => rfl }⟩)
          rw [h.p44 rfl]
          go_simp
        · have e : l4 = false := hl
          subst e
          have d3 : l3 = true := ready_on hi 3 (by kernel_rfl)
          subst d3
          have z11 : l11 = false := by
            cases hz : l11
            · rfl
            · exact absurd (h.d11_4 hz) (by simp)
          subst z11
          have c0 : x.cell? ⟨q, 1, none⟩ = some (.slice (some ⟨g, 0, none⟩) Z.length ch) := (h.pool.blkAt (i := 0) rfl).c 1 _ rfl
          refine wpOp_run (v := (.slice (some ⟨g, 0, none⟩) Z.length ch)) (w' := x) (by rfl) (by rfl) ?_ (hK _ _ ⟨l0, l1, l2, true, true, l5, l6, l7, l8, l9, l10, false, u42, u43, u44, u45, ((.slice (some ⟨g, 0, none⟩) Z.length ch)), u47, u48, u49, u50, u51, u52, rfl, rfl, { h with p46 := (fun _ => rfl), d8_4 := fun _ => rfl, d11_4 := fun _ => rfl }⟩)
          rw [h.p45 rfl]
          go_simp
        · have e : l5 = false := hl
          subst e
          refine wpOp_run (v := .int .i64 (k : Int)) (w' := x) (by rfl) (by rfl) ?_ (hK _ _ ⟨l0, l1, l2, l3, l4, true, l6, l7, l8, l9, l10, l11, u42, u43, u44, u45, u46, (.int .i64 (k : Int)), u48, u49, u50, u51, u52, rfl, rfl, { h with p47 := fun _ => rfl }⟩)
          go_simp
        · have e : l6 = false := hl
          subst e
          have c0 : x.cell? ⟨w1.heap.size, 0, none⟩ = some (.int .i64 xh.id) := (h.pool.blkAt (i := 6) rfl).c 0 _ rfl
          have c1 : x.cell? ⟨w1.heap.size, 1, none⟩ = some (.string xh.fr) := (h.pool.blkAt (i := 6) rfl).c 1 _ rfl
          have c2 : x.cell? ⟨w1.heap.size, 2, none⟩ = some (.string xh.to) := (h.pool.blkAt (i := 6) rfl).c 2 _ rfl
          have c3 : x.cell? ⟨w1.heap.size, 3, none⟩ = some (.int .i64 xh.amount) := (h.pool.blkAt (i := 6) rfl).c 3 _ rfl
          refine wpOp_run (v := .agg #[.int .i64 xh.id, .string xh.fr, .string xh.to, .int .i64 xh.amount]) (w' := x) (by rfl) (by rfl) ?_ (hK _ _ ⟨l0, l1, l2, l3, l4, l5, true, l7, l8, l9, l10, l11, u42, u43, u44, u45, u46, u47, (.agg #[.int .i64 xh.id, .string xh.fr, .string xh.to, .int .i64 xh.amount]), u49, u50, u51, u52, rfl, rfl, { h with p48 := fun _ => rfl }⟩)
          go_simp
        · have e : l7 = false := hl
          subst e
          have d6 : l6 = true := ready_on hi 6 (by kernel_rfl)
          subst d6
          have z8 : l8 = false := by
            cases hz : l8
            · rfl
            · exact absurd (h.d8_7 hz) (by simp)
          subst z8
          refine wpOp_run (v := .slice (some ⟨x.heap.size, 0, none⟩) 1 1) (w' := x.alloc (.cells #[.int .i64 xh.id, .string xh.fr, .string xh.to, .int .i64 xh.amount] 71)) (by rfl) (by rfl) ?_ (hK _ _ ⟨l0, l1, l2, l3, l4, l5, true, true, false, l9, l10, l11, u42, u43, u44, u45, u46, u47, u48, (.slice (some ⟨x.heap.size, 0, none⟩) 1 1), u50, u51, u52, rfl, rfl, { h with q49 := (fun _ => rfl), hp49 := (fun _ _ => heap_alloc_new x _), pool := (h.pool.newBlk (i := 7) rfl (hldCells xh) 71), d8_7 := fun _ => rfl }⟩)
          rw [h.p48 rfl]
          go_simp
        · have e : l8 = false := hl
          subst e
          have d4 : l4 = true := ready_on hi 4 (by kernel_rfl)
          subst d4
          have d5 : l5 = true := ready_on hi 5 (by kernel_rfl)
          subst d5
          have d7 : l7 = true := ready_on hi 7 (by kernel_rfl)
          subst d7
          have z11 : l11 = false := by
            cases hz : l11
            · rfl
            · exact absurd (h.d11_8 hz) (by simp)
          subst z11
          refine wpOp_call (by rfl) (by rfl) ?_ (insertH_any g ch Z k xh (gOf (slA u49)) x HLZ.out HLK.out HRM.out (h.pool.rowAt (i := 3) rfl) (fun e => h.pool.apart (i := 3) (j := 7) (by decide) rfl rfl g (by simp [fps, row, Value.ownBlock]) (gOf (slA u49)) (by simp [fps, blk]) e.symm) (h.hp49 rfl rfl)) ?_
          · rw [h.p47 rfl]; rw [h.q49 rfl, h.p46 rfl]; go_simp; rfl
          · rintro e w' ⟨v', rfl, ho, hgr, hlk⟩
            exact ⟨_, rfl, hK _ _ ⟨l0, l1, l2, l3, true, true, l6, true, true, l9, l10, false, u42, u43, u44, u45, u46, u47, u48, u49, (v'), u51, u52, rfl, rfl, { h with hp49 := (fun _ q => (by cases q)), pool := (h.pool.grow (i := 3) rfl ho hgr hlk), d8_7 := fun _ => rfl, d8_4 := fun _ => rfl, d11_8 := fun _ => rfl }⟩⟩
        · have e : l9 = false := hl
          subst e
          have d0 : l0 = true := ready_on hi 0 (by kernel_rfl)
          subst d0
          have d1 : l1 = true := ready_on hi 1 (by kernel_rfl)
          subst d1
          have d2 : l2 = true := ready_on hi 2 (by kernel_rfl)
          subst d2
          have d3 : l3 = true := ready_on hi 3 (by kernel_rfl)
          subst d3
          have d4 : l4 = true := ready_on hi 4 (by kernel_rfl)
          subst d4
          have d5 : l5 = true := ready_on hi 5 (by kernel_rfl)
          subst d5
          have d6 : l6 = true := ready_on hi 6 (by kernel_rfl)
          subst d6
          have d7 : l7 = true := ready_on hi 7 (by kernel_rfl)
          subst d7
          have d8 : l8 = true := ready_on hi 8 (by kernel_rfl)
          subst d8
          refine wpOp_run (v := .pointer (some ⟨q, 0, none⟩)) (w' := x) (by rfl) (by rfl) ?_ (hK _ _ ⟨true, true, true, true, true, true, true, true, true, true, l10, l11, u42, u43, u44, u45, u46, u47, u48, u49, u50, (.pointer (some ⟨q, 0, none⟩)), u52, rfl, rfl, { h with p51 := fun _ => rfl }⟩)
          rw [h.p42 rfl]
          go_simp
        · have e : l10 = false := hl
          subst e
          have d0 : l0 = true := ready_on hi 0 (by kernel_rfl)
          subst d0
          have d1 : l1 = true := ready_on hi 1 (by kernel_rfl)
          subst d1
          have d2 : l2 = true := ready_on hi 2 (by kernel_rfl)
          subst d2
          have d3 : l3 = true := ready_on hi 3 (by kernel_rfl)
          subst d3
          have d4 : l4 = true := ready_on hi 4 (by kernel_rfl)
          subst d4
          have d5 : l5 = true := ready_on hi 5 (by kernel_rfl)
          subst d5
          have d6 : l6 = true := ready_on hi 6 (by kernel_rfl)
          subst d6
          have d7 : l7 = true := ready_on hi 7 (by kernel_rfl)
          subst d7
          have d8 : l8 = true := ready_on hi 8 (by kernel_rfl)
          subst d8
          have d9 : l9 = true := ready_on hi 9 (by kernel_rfl)
          subst d9
          refine wpOp_run (v := .pointer (some ⟨q, 1, none⟩)) (w' := x) (by rfl) (by rfl) ?_ (hK _ _ ⟨true, true, true, true, true, true, true, true, true, true, true, l11, u42, u43, u44, u45, u46, u47, u48, u49, u50, u51, (.pointer (some ⟨q, 1, none⟩)), rfl, rfl, { h with p52 := fun _ => rfl }⟩)
          rw [h.p51 rfl]
          go_simp
        · have e : l11 = false := hl
          subst e
          have d0 : l0 = true := ready_on hi 0 (by kernel_rfl)
          subst d0
          have d1 : l1 = true := ready_on hi 1 (by kernel_rfl)
          subst d1
          have d2 : l2 = true := ready_on hi 2 (by kernel_rfl)
          subst d2
          have d3 : l3 = true := ready_on hi 3 (by kernel_rfl)
          subst d3
          have d4 : l4 = true := ready_on hi 4 (by kernel_rfl)
          subst d4
          have d5 : l5 = true := ready_on hi 5 (by kernel_rfl)
          subst d5
          have d6 : l6 = true := ready_on hi 6 (by kernel_rfl)
          subst d6
          have d7 : l7 = true := ready_on hi 7 (by kernel_rfl)
          subst d7
          have d8 : l8 = true := ready_on hi 8 (by kernel_rfl)
          subst d8
          have d10 : l10 = true := ready_on hi 10 (by kernel_rfl)
          subst d10
          obtain ⟨a6, k6, e6⟩ := row_shape (h.pool.rowAt (i := 3) rfl)
          have A := h.pool.blkAt (i := 0) rfl
          have t1 := A.c 1 _ rfl
          have f1 := A.f 1
          refine wpOp_skip (w' := x.setCell ⟨q, 1, none⟩ u50) (by rfl) (by rfl) ?_ (hK _ _ ⟨true, true, true, true, true, true, true, true, true, l9, true, true, u42, u43, u44, u45, u46, u47, u48, u49, u50, u51, u52, rfl, rfl, { h with hp49 := (fun _ q => (by cases q)), pool := (h.pool.setBlk (i := 0) rfl 1 u50 (by simp)), d11_8 := fun _ => rfl, d11_4 := fun _ => rfl }⟩)
          rw [h.p52 rfl, e6]
          go_simp
      · rintro L act x ⟨l0, l1, l2, l3, l4, l5, l6, l7, l8, l9, l10, l11, u42, u43, u44, u45, u46, u47, u48, u49, u50, u51, u52, rfl, rfl, h⟩ hr
        have hall := ready_all hr rfl (by decide)
        have t0 : l0 = true := hall 0 (by decide)
        have t1 : l1 = true := hall 1 (by decide)
        have t2 : l2 = true := hall 2 (by decide)
        have t3 : l3 = true := hall 3 (by decide)
        have t4 : l4 = true := hall 4 (by decide)
        have t5 : l5 = true := hall 5 (by decide)
        have t6 : l6 = true := hall 6 (by decide)
        have t7 : l7 = true := hall 7 (by decide)
        have t8 : l8 = true := hall 8 (by decide)
        have t9 : l9 = true := hall 9 (by decide)
        have t10 : l10 = true := hall 10 (by decide)
        have t11 : l11 = true := hall 11 (by decide)
        subst t0 t1 t2 t3 t4 t5 t6 t7 t8 t9 t10 t11
        clear hall hr
        obtain ⟨a6, k6, e6⟩ := row_shape (h.pool.rowAt (i := 3) rfl)
        have HP7 : Hid (Pool FF w [[blk q [.map (some m), u50, sv]], [mapR m (D.acc.map Acc.name) ps], accB' ps D.acc, [row 71 4 u50 D.hold.length (D.hold.flatMap hldCells)], [row 47 2 sv D.seen.length (D.seen.flatMap snCells)], [blk n [.int .i64 code, .iface t v]]] x) := hide (by
          have z := (h.pool.drop (i := 7) rfl).drop (i := 6) rfl
          rw [HBK.out, HLD.out] at z
          exact z.cast (by simp))
        clear h
        refine hK0 _ _ ?_
        go_wp2_with fail
        go_ret
        exact ⟨some code, ps, u50, D.acc, D.hold, HN.out, HPS.out, n, rfl, HP7.out.cast (by simp [bkS])⟩
end Go.Proofs.YtjjoeajnhblacaaGreatDoor
