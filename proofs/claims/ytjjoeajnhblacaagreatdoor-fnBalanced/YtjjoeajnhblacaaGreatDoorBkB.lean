/- The contract of the book's do. -/
import Derived.Test.YtjjoeajnhblacaaGreatDoorBkJ
namespace Go.Proofs.YtjjoeajnhblacaaGreatDoor
open Go.ChangeShapes Go.WideShapes Go.ChangeAt Go.RowKit Go.Maps
set_option linter.unusedVariables false
set_option maxRecDepth 100000
theorem DoEnd.up {F : List Nat} {w x y : World} {rs ex rs' : List Rs} {o : Option Int} {g : Value} {e : Ending} (h : Pool F w [rs, ex] x) (k : DoEnd o g (fps rs) rs' x e y) : DoEnd o g F rs' w e y := by
  unfold DoEnd at k ⊢
  cases o with
  | none =>
    obtain ⟨he, kp⟩ := k
    have z := h.call (i := 0) rfl (rs' := rs') (kp.cast (by simp))
    exact ⟨he, (z.drop (i := 1) rfl)⟩
  | some code =>
    obtain ⟨n, he, kp⟩ := k
    have z := h.call (i := 0) rfl (rs' := rs' ++ [blk n [.int .i64 code, g]]) (kp.cast (by simp))
    exact ⟨n, he, (z.drop (i := 1) rfl).cast (by simp)⟩
theorem DoEnd.val {F : List Nat} {w y : World} {rs' : List Rs} {o : Option Int} {g : Value} {e : Ending} (k : DoEnd o g F rs' w e y) : ∃ v, e = .returned v := by
  unfold DoEnd at k
  cases o with
  | none => exact ⟨_, k.1⟩
  | some code => obtain ⟨n, he, _⟩ := k; exact ⟨_, he⟩
theorem fullB_hold {D : Led} {c : Cm} (hf : fullB D c = false) (hk : c.kind = 3) : ∀ y ∈ D.hold, y.id ≠ c.id := by
  simp only [fullB, Bool.or_eq_false_iff, Bool.and_eq_false_iff, decide_eq_false_iff_not] at hf
  rcases hf.2 with q | q
  · exact absurd hk q
  · intro y hy e
    have := List.any_eq_false.1 q.2 y hy
    simp [e] at this
set_option maxHeartbeats 4000000 in
theorem do_1 (q m : Nat) (ps : List Nat) (hv sv : Value) (D : Led) (id am ref : Int) (fr tn : ByteArray) (t : TypeId) (v : Value) (w : World) (hps : ps.length = D.acc.length) (hok : LedOk D) (hm : LedM D) (hw : LedW D) (hc : (Cm.mk id 1 fr tn am ref).B = true) (hf : fullB D (Cm.mk id 1 fr tn am ref) = false) (h : Star (bkS q m ps hv sv D.acc D.hold D.seen).flatten w) (hg : w.cell? ⟨2, 0, none⟩ = some (.iface t v)) (hen : 2 ∉ fps (bkS q m ps hv sv D.acc D.hold D.seen).flatten) :
    Calls Tryz.prog 29 #[.pointer (some ⟨q, 0, none⟩), (Cm.mk id 1 fr tn am ref).v] w fun e w' => DoneEnd q m sv D (Cm.mk id 1 fr tn am ref) (.iface t v) (fps (bkS q m ps hv sv D.acc D.hold D.seen).flatten) w e w' := by
  obtain ⟨W1, hW1⟩ : ∃ W1, W1 = w.alloc (.cells (Cm.mk id 1 fr tn am ref).cells.toArray 30) := ⟨_, rfl⟩
  have HP : Hid (Pool (fps (bkS q m ps hv sv D.acc D.hold D.seen).flatten) w [(bkS q m ps hv sv D.acc D.hold D.seen).flatten, [blk w.heap.size (Cm.mk id 1 fr tn am ref).cells]] W1) := hide (by
    rw [hW1]
    have z : Pool (fps (bkS q m ps hv sv D.acc D.hold D.seen).flatten) w [(bkS q m ps hv sv D.acc D.hold D.seen).flatten, []] w := (Pool.of h).cast (by simp)
    exact z.newBlk (i := 1) rfl (Cm.mk id 1 fr tn am ref).cells 30)
  have HW1 : Hid (_ = W1) := hide hW1.symm
  have HG : Hid (W1.cell? ⟨2, 0, none⟩ = some (.iface t v)) := hide (by rw [hW1]; exact ((below_alloc (Below.refl _ _) _ : Below w.heap.size w (w.alloc _)).cell (p := ⟨2, 0, none⟩) (cell_lt hg)).trans hg)
  have HPS : Hid _ := hide hps
  have HM : Hid _ := hide hm
  have HO : Hid _ := hide hok
  have HLW : Hid _ := hide hw
  have HC : Hid _ := hide hc
  have HF : Hid _ := hide hf
  have HEN : Hid _ := hide hen
  have HST : Hid _ := hide (HP.out.get (i := 0) rfl)
  have hB := HC.out
  unfold Cm.B cmdB at hB
  simp only [if_true, Bool.and_eq_true] at hB
  have HN1 : Hid _ := hide (nameB_sz hB.2.1.1.1)
  clear hB
  have HCT : Hid _ := hide (opn_any q m ps hv sv D.acc D.hold D.seen ⟨fr, tn, am, 0⟩ t v W1 (by have := HO.out.a.1; omega) HPS.out HN1.out HST.out HG.out)
  clear h hg hps hok hm hw hc hf hen hW1
  unfold Cm.cells at HW1
  unfold Cm.v
  have b0 := (HP.out.blkAt (i := 1) rfl).c 0 _ rfl
  have b1 := (HP.out.blkAt (i := 1) rfl).c 1 _ rfl
  have b2 := (HP.out.blkAt (i := 1) rfl).c 2 _ rfl
  have b3 := (HP.out.blkAt (i := 1) rfl).c 3 _ rfl
  have b4 := (HP.out.blkAt (i := 1) rfl).c 4 _ rfl
  have b5 := (HP.out.blkAt (i := 1) rfl).c 5 _ rfl
  go_enter Tryz.func29, Tryz.ntmps29
  go_upto_region 1 with fail
  rw [HW1.out]
  go_wp2_with fail
  refine HCT.out.mono ?_
  intro e w2 hd
  unfold OpnEnd at hd
  have hx : ∃ o ps' A', DoIs D (Cm.mk id 1 fr tn am ref) o A' D.hold ∧ ps'.length = A'.length ∧ DoEnd o (.iface t v) (fps (bkS q m ps hv sv D.acc D.hold D.seen).flatten) (bkS q m ps' hv sv A' D.hold D.seen).flatten W1 e w2 := by
    cases hi : idxA D.acc fr with
    | some i =>
      rw [show idxA D.acc (Acc.mk fr tn am 0).name = some i from hi] at hd
      exact ⟨some 4, ps, D.acc, do_open_no HM.out rfl hi, HPS.out, hd⟩
    | none =>
      rw [show idxA D.acc (Acc.mk fr tn am 0).name = none from hi] at hd
      obtain ⟨p, hd⟩ := hd
      exact ⟨none, ps ++ [p], _, do_open_yes HM.out rfl hi, by simp [HPS.out], hd⟩
  obtain ⟨o, ps', A', hI, hL, hD⟩ := hx
  have HI : Hid _ := hide hI
  have HL : Hid _ := hide hL
  have HD : Hid _ := hide hD
  clear hd hI hL hD
  obtain ⟨vr, rfl⟩ := HD.out.val
  clear HCT
  go_wp2_with fail
  go_ret
  exact ⟨_, _, _, _, _, HI.out, HL.out, HD.out.up HP.out⟩
set_option maxHeartbeats 4000000 in
theorem do_2 (q m : Nat) (ps : List Nat) (hv sv : Value) (D : Led) (id am ref : Int) (fr tn : ByteArray) (t : TypeId) (v : Value) (w : World) (hps : ps.length = D.acc.length) (hok : LedOk D) (hm : LedM D) (hw : LedW D) (hc : (Cm.mk id 2 fr tn am ref).B = true) (hf : fullB D (Cm.mk id 2 fr tn am ref) = false) (h : Star (bkS q m ps hv sv D.acc D.hold D.seen).flatten w) (hg : w.cell? ⟨2, 0, none⟩ = some (.iface t v)) (hen : 2 ∉ fps (bkS q m ps hv sv D.acc D.hold D.seen).flatten) :
    Calls Tryz.prog 29 #[.pointer (some ⟨q, 0, none⟩), (Cm.mk id 2 fr tn am ref).v] w fun e w' => DoneEnd q m sv D (Cm.mk id 2 fr tn am ref) (.iface t v) (fps (bkS q m ps hv sv D.acc D.hold D.seen).flatten) w e w' := by
  obtain ⟨W1, hW1⟩ : ∃ W1, W1 = w.alloc (.cells (Cm.mk id 2 fr tn am ref).cells.toArray 30) := ⟨_, rfl⟩
  have HP : Hid (Pool (fps (bkS q m ps hv sv D.acc D.hold D.seen).flatten) w [(bkS q m ps hv sv D.acc D.hold D.seen).flatten, [blk w.heap.size (Cm.mk id 2 fr tn am ref).cells]] W1) := hide (by
    rw [hW1]
    have z : Pool (fps (bkS q m ps hv sv D.acc D.hold D.seen).flatten) w [(bkS q m ps hv sv D.acc D.hold D.seen).flatten, []] w := (Pool.of h).cast (by simp)
    exact z.newBlk (i := 1) rfl (Cm.mk id 2 fr tn am ref).cells 30)
  have HW1 : Hid (_ = W1) := hide hW1.symm
  have HG : Hid (W1.cell? ⟨2, 0, none⟩ = some (.iface t v)) := hide (by rw [hW1]; exact ((below_alloc (Below.refl _ _) _ : Below w.heap.size w (w.alloc _)).cell (p := ⟨2, 0, none⟩) (cell_lt hg)).trans hg)
  have HPS : Hid _ := hide hps
  have HM : Hid _ := hide hm
  have HO : Hid _ := hide hok
  have HLW : Hid _ := hide hw
  have HC : Hid _ := hide hc
  have HF : Hid _ := hide hf
  have HEN : Hid _ := hide hen
  have HST : Hid _ := hide (HP.out.get (i := 0) rfl)
  have hB := HC.out
  unfold Cm.B cmdB at hB
  simp only [show ¬ ((2 : Int) = 1) by decide, if_false, true_or, if_true, Bool.and_eq_true] at hB
  have HN1 : Hid _ := hide (nameB_sz hB.2.1.1.1.1)
  have HN2 : Hid _ := hide (nameB_sz hB.2.1.1.1.2)
  have HNE : Hid (fr ≠ tn) := hide (by
    have := hB.2.1.1.2
    intro e
    rw [e] at this
    simp at this)
  have HAM : Hid (0 ≤ am ∧ am ≤ 1000000000000) := hide (by have := inB_iff.1 hB.2.1.2; omega)
  clear hB
  have HCT : Hid _ := hide (post_any q m ps hv sv D fr tn am t v W1 HPS.out HN1.out HN2.out HNE.out HO.out.h HM.out.sx HAM.out HLW.out.hold HLW.out.seen HST.out HG.out)
  clear h hg hps hok hm hw hc hf hen hW1
  unfold Cm.cells at HW1
  unfold Cm.v
  have b0 := (HP.out.blkAt (i := 1) rfl).c 0 _ rfl
  have b1 := (HP.out.blkAt (i := 1) rfl).c 1 _ rfl
  have b2 := (HP.out.blkAt (i := 1) rfl).c 2 _ rfl
  have b3 := (HP.out.blkAt (i := 1) rfl).c 3 _ rfl
  have b4 := (HP.out.blkAt (i := 1) rfl).c 4 _ rfl
  have b5 := (HP.out.blkAt (i := 1) rfl).c 5 _ rfl
  go_enter Tryz.func29, Tryz.ntmps29
  go_upto_region 1 with fail
  rw [HW1.out]
  go_wp2_with fail
  refine HCT.out.mono ?_
  intro e w2 hd
  have HI : Hid _ := hide (do_post (c := Cm.mk id 2 fr tn am ref) HM.out rfl HNE.out)
  have HL : Hid (ps.length = (postL D.acc D.hold fr tn am).length) := hide (by
    have := congrArg List.length (postL_names D.acc D.hold fr tn am)
    rw [HPS.out]
    simpa using this.symm)
  have HD : Hid _ := hide hd
  clear hd
  obtain ⟨vr, rfl⟩ := HD.out.val
  clear HCT
  go_wp2_with fail
  go_ret
  exact ⟨_, _, _, _, _, HI.out, HL.out, HD.out.up HP.out⟩
set_option maxHeartbeats 4000000 in
theorem do_3 (q m : Nat) (ps : List Nat) (hv sv : Value) (D : Led) (id am ref : Int) (fr tn : ByteArray) (t : TypeId) (v : Value) (w : World) (hps : ps.length = D.acc.length) (hok : LedOk D) (hm : LedM D) (hw : LedW D) (hc : (Cm.mk id 3 fr tn am ref).B = true) (hf : fullB D (Cm.mk id 3 fr tn am ref) = false) (h : Star (bkS q m ps hv sv D.acc D.hold D.seen).flatten w) (hg : w.cell? ⟨2, 0, none⟩ = some (.iface t v)) (hen : 2 ∉ fps (bkS q m ps hv sv D.acc D.hold D.seen).flatten) :
    Calls Tryz.prog 29 #[.pointer (some ⟨q, 0, none⟩), (Cm.mk id 3 fr tn am ref).v] w fun e w' => DoneEnd q m sv D (Cm.mk id 3 fr tn am ref) (.iface t v) (fps (bkS q m ps hv sv D.acc D.hold D.seen).flatten) w e w' := by
  obtain ⟨W1, hW1⟩ : ∃ W1, W1 = w.alloc (.cells (Cm.mk id 3 fr tn am ref).cells.toArray 30) := ⟨_, rfl⟩
  have HP : Hid (Pool (fps (bkS q m ps hv sv D.acc D.hold D.seen).flatten) w [(bkS q m ps hv sv D.acc D.hold D.seen).flatten, [blk w.heap.size (Cm.mk id 3 fr tn am ref).cells]] W1) := hide (by
    rw [hW1]
    have z : Pool (fps (bkS q m ps hv sv D.acc D.hold D.seen).flatten) w [(bkS q m ps hv sv D.acc D.hold D.seen).flatten, []] w := (Pool.of h).cast (by simp)
    exact z.newBlk (i := 1) rfl (Cm.mk id 3 fr tn am ref).cells 30)
  have HW1 : Hid (_ = W1) := hide hW1.symm
  have HG : Hid (W1.cell? ⟨2, 0, none⟩ = some (.iface t v)) := hide (by rw [hW1]; exact ((below_alloc (Below.refl _ _) _ : Below w.heap.size w (w.alloc _)).cell (p := ⟨2, 0, none⟩) (cell_lt hg)).trans hg)
  have HPS : Hid _ := hide hps
  have HM : Hid _ := hide hm
  have HO : Hid _ := hide hok
  have HLW : Hid _ := hide hw
  have HC : Hid _ := hide hc
  have HF : Hid _ := hide hf
  have HEN : Hid _ := hide hen
  have HST : Hid _ := hide (HP.out.get (i := 0) rfl)
  have hB := HC.out
  unfold Cm.B cmdB at hB
  simp only [show ¬ ((3 : Int) = 1) by decide, if_false, or_true, if_true, Bool.and_eq_true] at hB
  have HN1 : Hid _ := hide (nameB_sz hB.2.1.1.1.1)
  have HN2 : Hid _ := hide (nameB_sz hB.2.1.1.1.2)
  have HNE : Hid (fr ≠ tn) := hide (by
    have := hB.2.1.1.2
    intro e
    rw [e] at this
    simp at this)
  have HAM : Hid (0 ≤ am ∧ am ≤ 1000000000000) := hide (by have := inB_iff.1 hB.2.1.2; omega)
  clear hB
  have HCT : Hid _ := hide (hold_any q m ps hv sv D ⟨id, fr, tn, am⟩ t v W1 HPS.out HN1.out HN2.out HO.out.h HM.out.sx HAM.out HLW.out.hold HLW.out.seen HO.out.en.up (fullB_hold HF.out rfl) HST.out HG.out)
  clear h hg hps hok hm hw hc hf hen hW1
  unfold Cm.cells at HW1
  unfold Cm.v
  have b0 := (HP.out.blkAt (i := 1) rfl).c 0 _ rfl
  have b1 := (HP.out.blkAt (i := 1) rfl).c 1 _ rfl
  have b2 := (HP.out.blkAt (i := 1) rfl).c 2 _ rfl
  have b3 := (HP.out.blkAt (i := 1) rfl).c 3 _ rfl
  have b4 := (HP.out.blkAt (i := 1) rfl).c 4 _ rfl
  have b5 := (HP.out.blkAt (i := 1) rfl).c 5 _ rfl
  go_enter Tryz.func29, Tryz.ntmps29
  go_upto_region 1 with fail
  rw [HW1.out]
  go_wp2_with fail
  refine HCT.out.mono ?_
  intro e w2 hd
  obtain ⟨hv', hd⟩ := hd
  have HI : Hid _ := hide (do_hold (c := Cm.mk id 3 fr tn am ref) HM.out rfl)
  have HL : Hid _ := hide HPS.out
  have HD : Hid _ := hide hd
  clear hd
  obtain ⟨vr, rfl⟩ := HD.out.val
  clear HCT
  go_wp2_with fail
  go_ret
  exact ⟨_, _, _, _, _, HI.out, HL.out, HD.out.up HP.out⟩
set_option maxHeartbeats 4000000 in
theorem do_4 (q m : Nat) (ps : List Nat) (hv sv : Value) (D : Led) (id am ref : Int) (fr tn : ByteArray) (t : TypeId) (v : Value) (w : World) (hps : ps.length = D.acc.length) (hok : LedOk D) (hm : LedM D) (hw : LedW D) (hc : (Cm.mk id 4 fr tn am ref).B = true) (hf : fullB D (Cm.mk id 4 fr tn am ref) = false) (h : Star (bkS q m ps hv sv D.acc D.hold D.seen).flatten w) (hg : w.cell? ⟨2, 0, none⟩ = some (.iface t v)) (hen : 2 ∉ fps (bkS q m ps hv sv D.acc D.hold D.seen).flatten) :
    Calls Tryz.prog 29 #[.pointer (some ⟨q, 0, none⟩), (Cm.mk id 4 fr tn am ref).v] w fun e w' => DoneEnd q m sv D (Cm.mk id 4 fr tn am ref) (.iface t v) (fps (bkS q m ps hv sv D.acc D.hold D.seen).flatten) w e w' := by
  obtain ⟨W1, hW1⟩ : ∃ W1, W1 = w.alloc (.cells (Cm.mk id 4 fr tn am ref).cells.toArray 30) := ⟨_, rfl⟩
  have HP : Hid (Pool (fps (bkS q m ps hv sv D.acc D.hold D.seen).flatten) w [(bkS q m ps hv sv D.acc D.hold D.seen).flatten, [blk w.heap.size (Cm.mk id 4 fr tn am ref).cells]] W1) := hide (by
    rw [hW1]
    have z : Pool (fps (bkS q m ps hv sv D.acc D.hold D.seen).flatten) w [(bkS q m ps hv sv D.acc D.hold D.seen).flatten, []] w := (Pool.of h).cast (by simp)
    exact z.newBlk (i := 1) rfl (Cm.mk id 4 fr tn am ref).cells 30)
  have HW1 : Hid (_ = W1) := hide hW1.symm
  have HG : Hid (W1.cell? ⟨2, 0, none⟩ = some (.iface t v)) := hide (by rw [hW1]; exact ((below_alloc (Below.refl _ _) _ : Below w.heap.size w (w.alloc _)).cell (p := ⟨2, 0, none⟩) (cell_lt hg)).trans hg)
  have HPS : Hid _ := hide hps
  have HM : Hid _ := hide hm
  have HO : Hid _ := hide hok
  have HLW : Hid _ := hide hw
  have HC : Hid _ := hide hc
  have HF : Hid _ := hide hf
  have HEN : Hid _ := hide hen
  have HST : Hid _ := hide (HP.out.get (i := 0) rfl)
  have HCT : Hid _ := hide (take_any q m ps hv sv D (Cm.mk id 4 fr tn am ref) t v W1 HPS.out HM.out HO.out.en.up HO.out.h HLW.out.hold HLW.out.seen rfl HST.out HG.out HEN.out)
  clear h hg hps hok hm hw hc hf hen hW1
  unfold Cm.cells at HW1
  unfold Cm.v
  have b0 := (HP.out.blkAt (i := 1) rfl).c 0 _ rfl
  have b1 := (HP.out.blkAt (i := 1) rfl).c 1 _ rfl
  have b2 := (HP.out.blkAt (i := 1) rfl).c 2 _ rfl
  have b3 := (HP.out.blkAt (i := 1) rfl).c 3 _ rfl
  have b4 := (HP.out.blkAt (i := 1) rfl).c 4 _ rfl
  have b5 := (HP.out.blkAt (i := 1) rfl).c 5 _ rfl
  go_enter Tryz.func29, Tryz.ntmps29
  go_upto_region 1 with fail
  rw [HW1.out]
  go_wp2_with fail
  refine HCT.out.mono ?_
  intro e w2 hd
  obtain ⟨o, ps', hv', A', H', hI, hL, hd⟩ := hd
  have HI : Hid _ := hide hI
  have HL : Hid _ := hide hL
  have HD : Hid _ := hide hd
  clear hd hI hL
  obtain ⟨vr, rfl⟩ := HD.out.val
  clear HCT
  go_wp2_with fail
  go_ret
  exact ⟨_, _, _, _, _, HI.out, HL.out, HD.out.up HP.out⟩
set_option maxHeartbeats 4000000 in
theorem do_5 (q m : Nat) (ps : List Nat) (hv sv : Value) (D : Led) (id am ref : Int) (fr tn : ByteArray) (t : TypeId) (v : Value) (w : World) (hps : ps.length = D.acc.length) (hok : LedOk D) (hm : LedM D) (hw : LedW D) (hc : (Cm.mk id 5 fr tn am ref).B = true) (hf : fullB D (Cm.mk id 5 fr tn am ref) = false) (h : Star (bkS q m ps hv sv D.acc D.hold D.seen).flatten w) (hg : w.cell? ⟨2, 0, none⟩ = some (.iface t v)) (hen : 2 ∉ fps (bkS q m ps hv sv D.acc D.hold D.seen).flatten) :
    Calls Tryz.prog 29 #[.pointer (some ⟨q, 0, none⟩), (Cm.mk id 5 fr tn am ref).v] w fun e w' => DoneEnd q m sv D (Cm.mk id 5 fr tn am ref) (.iface t v) (fps (bkS q m ps hv sv D.acc D.hold D.seen).flatten) w e w' := by
  obtain ⟨W1, hW1⟩ : ∃ W1, W1 = w.alloc (.cells (Cm.mk id 5 fr tn am ref).cells.toArray 30) := ⟨_, rfl⟩
  have HP : Hid (Pool (fps (bkS q m ps hv sv D.acc D.hold D.seen).flatten) w [(bkS q m ps hv sv D.acc D.hold D.seen).flatten, [blk w.heap.size (Cm.mk id 5 fr tn am ref).cells]] W1) := hide (by
    rw [hW1]
    have z : Pool (fps (bkS q m ps hv sv D.acc D.hold D.seen).flatten) w [(bkS q m ps hv sv D.acc D.hold D.seen).flatten, []] w := (Pool.of h).cast (by simp)
    exact z.newBlk (i := 1) rfl (Cm.mk id 5 fr tn am ref).cells 30)
  have HW1 : Hid (_ = W1) := hide hW1.symm
  have HG : Hid (W1.cell? ⟨2, 0, none⟩ = some (.iface t v)) := hide (by rw [hW1]; exact ((below_alloc (Below.refl _ _) _ : Below w.heap.size w (w.alloc _)).cell (p := ⟨2, 0, none⟩) (cell_lt hg)).trans hg)
  have HPS : Hid _ := hide hps
  have HM : Hid _ := hide hm
  have HO : Hid _ := hide hok
  have HLW : Hid _ := hide hw
  have HC : Hid _ := hide hc
  have HF : Hid _ := hide hf
  have HEN : Hid _ := hide hen
  have HST : Hid _ := hide (HP.out.get (i := 0) rfl)
  have HCT : Hid _ := hide (drop_any q m ps hv sv D (Cm.mk id 5 fr tn am ref) t v W1 HPS.out HM.out HO.out.en.up HO.out.h.1 rfl HST.out HG.out)
  clear h hg hps hok hm hw hc hf hen hW1
  unfold Cm.cells at HW1
  unfold Cm.v
  have b0 := (HP.out.blkAt (i := 1) rfl).c 0 _ rfl
  have b1 := (HP.out.blkAt (i := 1) rfl).c 1 _ rfl
  have b2 := (HP.out.blkAt (i := 1) rfl).c 2 _ rfl
  have b3 := (HP.out.blkAt (i := 1) rfl).c 3 _ rfl
  have b4 := (HP.out.blkAt (i := 1) rfl).c 4 _ rfl
  have b5 := (HP.out.blkAt (i := 1) rfl).c 5 _ rfl
  go_enter Tryz.func29, Tryz.ntmps29
  go_upto_region 1 with fail
  rw [HW1.out]
  go_wp2_with fail
  refine HCT.out.mono ?_
  intro e w2 hd
  obtain ⟨o, ps', hv', A', H', hI, hL, hd⟩ := hd
  have HI : Hid _ := hide hI
  have HL : Hid _ := hide hL
  have HD : Hid _ := hide hd
  clear hd hI hL
  obtain ⟨vr, rfl⟩ := HD.out.val
  clear HCT
  go_wp2_with fail
  go_ret
  exact ⟨_, _, _, _, _, HI.out, HL.out, HD.out.up HP.out⟩
theorem do_any (q m : Nat) (ps : List Nat) (hv sv : Value) (D : Led) (c : Cm) (t : TypeId) (v : Value) (w : World) (hps : ps.length = D.acc.length) (hok : LedOk D) (hm : LedM D) (hw : LedW D) (hc : c.B = true) (hf : fullB D c = false) (h : Star (bkS q m ps hv sv D.acc D.hold D.seen).flatten w) (hg : w.cell? ⟨2, 0, none⟩ = some (.iface t v)) (hen : 2 ∉ fps (bkS q m ps hv sv D.acc D.hold D.seen).flatten) :
    Calls Tryz.prog 29 #[.pointer (some ⟨q, 0, none⟩), c.v] w fun e w' => DoneEnd q m sv D c (.iface t v) (fps (bkS q m ps hv sv D.acc D.hold D.seen).flatten) w e w' := by
  obtain ⟨id, kind, fr, tn, am, ref⟩ := c
  have hk : kind = 1 ∨ kind = 2 ∨ kind = 3 ∨ kind = 4 ∨ kind = 5 := by
    have hB := hc
    unfold Cm.B cmdB at hB
    by_cases k1 : kind = 1
    · exact .inl k1
    · rw [if_neg k1] at hB
      by_cases k2 : kind = 2 ∨ kind = 3
      · rcases k2 with k2 | k2
        · exact .inr (.inl k2)
        · exact .inr (.inr (.inl k2))
      · rw [if_neg k2] at hB
        by_cases k4 : kind = 4 ∨ kind = 5
        · rcases k4 with k4 | k4
          · exact .inr (.inr (.inr (.inl k4)))
          · exact .inr (.inr (.inr (.inr k4)))
        · rw [if_neg k4] at hB
          simp at hB
  rcases hk with rfl | rfl | rfl | rfl | rfl
  · exact do_1 q m ps hv sv D id am ref fr tn t v w hps hok hm hw hc hf h hg hen
  · exact do_2 q m ps hv sv D id am ref fr tn t v w hps hok hm hw hc hf h hg hen
  · exact do_3 q m ps hv sv D id am ref fr tn t v w hps hok hm hw hc hf h hg hen
  · exact do_4 q m ps hv sv D id am ref fr tn t v w hps hok hm hw hc hf h hg hen
  · exact do_5 q m ps hv sv D id am ref fr tn t v w hps hok hm hw hc hf h hg hen
end Go.Proofs.YtjjoeajnhblacaaGreatDoor
