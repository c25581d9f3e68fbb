/- The contracts of the laws' markDisk, heldDisk. -/
import Derived.Test.YtacbcmgpknhgdaaGreatDkK2
namespace Go.Proofs.YtacbcmgpknhgdaaGreat
open Go.ChangeShapes Go.WideShapes Go.ChangeAt Go.RowKit
set_option linter.unusedVariables false
set_option maxRecDepth 100000
/-- a disk's three rows, apart where they have elements, between two places -/
structure OwnR (lo hi : Nat) (a1 a2 a3 : Option Addr) (c1 c2 c3 g1 g2 g3 : Nat) (live safe : List Fl) (ops : List Dp) (x : World) : Prop where
  o1 : OwnRow 2 flCells x g1 a1 c1 live
  o2 : OwnRow 2 flCells x g2 a2 c2 safe
  o3 : OwnRow 4 dpCells x g3 a3 c3 ops
  d12 : 0 < live.length → 0 < safe.length → g1 ≠ g2
  d13 : 0 < live.length → 0 < ops.length → g1 ≠ g3
  d23 : 0 < safe.length → 0 < ops.length → g2 ≠ g3
  i1 : 0 < live.length → lo ≤ g1 ∧ g1 < hi
  i2 : 0 < safe.length → lo ≤ g2 ∧ g2 < hi
  i3 : 0 < ops.length → lo ≤ g3 ∧ g3 < hi
theorem OwnR.below {lo hi : Nat} {a1 a2 a3 : Option Addr} {c1 c2 c3 g1 g2 g3 : Nat} {live safe : List Fl} {ops : List Dp} {x y : World} (h : OwnR lo hi a1 a2 a3 c1 c2 c3 g1 g2 g3 live safe ops x) (b : Below x.heap.size x y) : OwnR lo hi a1 a2 a3 c1 c2 c3 g1 g2 g3 live safe ops y :=
  ⟨h.o1.below b, h.o2.below b, h.o3.below b, h.d12, h.d13, h.d23, h.i1, h.i2, h.i3⟩
theorem OwnR.at {lo hi : Nat} {a1 a2 a3 : Option Addr} {c1 c2 c3 g1 g2 g3 : Nat} {live safe : List Fl} {ops : List Dp} {x : World} (h : OwnR lo hi a1 a2 a3 c1 c2 c3 g1 g2 g3 live safe ops x) : DkAt x a1 a2 a3 live safe ops := ⟨h.o1.rows, h.o2.rows, h.o3.rows⟩
theorem OwnD.r {g1 g2 g3 : Nat} {live safe : List Fl} {ops : List Dp} {x : World} (h : OwnD g1 g2 g3 live safe ops x) {lo : Nat} (hl : lo ≤ g1) : OwnR lo x.heap.size (some ⟨g1, 0, none⟩) (some ⟨g2, 0, none⟩) (some ⟨g3, 0, none⟩) live.length safe.length ops.length g1 g2 g3 live safe ops x :=
  ⟨h.o1, h.o2, h.o3, fun _ _ => by have := h.d12; omega, fun _ _ => by have := h.d12; have := h.d23; omega, fun _ _ => by have := h.d23; omega, fun _ => by have := h.d12; have := h.d23; have := h.lt; omega, fun _ => by have := h.d12; have := h.d23; have := h.lt; omega, fun _ => by have := h.d12; have := h.d23; have := h.lt; omega⟩
theorem OwnR.none3 {lo hi : Nat} {x : World} : OwnR lo hi none none none 0 0 0 0 0 0 [] [] [] x :=
  ⟨OwnRow.nil, OwnRow.nil, OwnRow.nil, fun h => by simp at h, fun h => by simp at h, fun h => by simp at h, fun h => by simp at h, fun h => by simp at h, fun h => by simp at h⟩
/-- blocks between two places alone may have turned, and new blocks were laid -/
structure Chr (lo hi : Nat) (w w' : World) : Prop where
  os : w'.os = w.os
  tape : w'.tape = w.tape
  output : w'.output = w.output
  size : w.heap.size ≤ w'.heap.size
  block : ∀ k, k < w.heap.size → (k < lo ∨ hi ≤ k) → w'.heap[k]? = w.heap[k]?
theorem Chr.low {lo hi : Nat} {w w' : World} (h : Chr lo hi w w') {B : Nat} (hB : B ≤ lo) (hw : B ≤ w.heap.size) : Below B w w' := ⟨h.os, h.tape, h.output, h.size, fun k hk => h.block k (by omega) (.inl (by omega))⟩
theorem Chr.keep {lo hi : Nat} {x y : World} (h : Chr lo hi x y) {lo2 hi2 : Nat} {a1 a2 a3 : Option Addr} {c1 c2 c3 g1 g2 g3 : Nat} {live safe : List Fl} {ops : List Dp} (o : OwnR lo2 hi2 a1 a2 a3 c1 c2 c3 g1 g2 g3 live safe ops x) (hd : hi2 ≤ lo ∨ hi ≤ lo2) : OwnR lo2 hi2 a1 a2 a3 c1 c2 c3 g1 g2 g3 live safe ops y :=
  ⟨o.o1.keepB (fun q => h.block _ (o.o1.lt q) (by have := o.i1 q; omega)), o.o2.keepB (fun q => h.block _ (o.o2.lt q) (by have := o.i2 q; omega)), o.o3.keepB (fun q => h.block _ (o.o3.lt q) (by have := o.i3 q; omega)), o.d12, o.d13, o.d23, o.i1, o.i2, o.i3⟩
theorem Blk.same {g : Nat} {cur : List Value} {x y : World} (h : Blk g cur x) (e : y.heap[g]? = x.heap[g]?) (s : x.heap.size ≤ y.heap.size) : Blk g cur y :=
  ⟨Nat.lt_of_lt_of_le h.lt s, fun j v hj => (World.cell?_of_block e).trans (h.c j v hj), fun j => (World.frozen?_of_block e).trans (h.f j)⟩
theorem Chr.blk {lo hi : Nat} {x y : World} (h : Chr lo hi x y) {g : Nat} {cur : List Value} (k : Blk g cur x) (hd : g < lo ∨ hi ≤ g) : Blk g cur y := k.same (h.block g k.lt hd) h.size
def MarkEnd (lo hi q : Nat) (a1 a2 a3 : Option Addr) (c1 c2 c3 g1 g2 g3 n1 n2 n3 : Nat) (w : World) (e : Ending) (w' : World) : Prop :=
  e = .returned (.int .i64 ((q + 2 * n1 + 2 * n2 + 4 * n3 : Nat) : Int)) ∧ Chr lo hi w w' ∧ OwnR lo hi a1 a2 a3 c1 c2 c3 g1 g2 g3 (fmarkL q n1) (fmarkL (q + 2 * n1) n2) (omarkL (q + 2 * n1 + 2 * n2) n3) w'
theorem mark_end {lo hi q : Nat} {a1 a2 a3 : Option Addr} {c1 c2 c3 g1 g2 g3 : Nat} {live safe : List Fl} {ops : List Dp} {w wa w1 w2 w3 : World} (h : OwnR lo hi a1 a2 a3 c1 c2 c3 g1 g2 g3 live safe ops w) (b : Below w.heap.size w wa)
    (q1 : Chq (0 < live.length) g1 wa w1) (r1 : OwnRow 2 flCells w1 g1 a1 c1 (fmarkL q live.length)) (q2 : Chq (0 < safe.length) g2 w1 w2) (r2 : OwnRow 2 flCells w2 g2 a2 c2 (fmarkL (q + 2 * live.length) safe.length))
    (q3 : Chq (0 < ops.length) g3 w2 w3) (r3 : OwnRow 4 dpCells w3 g3 a3 c3 (omarkL (q + 2 * live.length + 2 * safe.length) ops.length)) :
    Chr lo hi w w3 ∧ OwnR lo hi a1 a2 a3 c1 c2 c3 g1 g2 g3 (fmarkL q live.length) (fmarkL (q + 2 * live.length) safe.length) (omarkL (q + 2 * live.length + 2 * safe.length) ops.length) w3 := by
  have s0 := b.size
  have s1 := q1.size
  have s2 := q2.size
  refine ⟨⟨q3.os.trans (q2.os.trans (q1.os.trans b.os)), q3.tape.trans (q2.tape.trans (q1.tape.trans b.tape)), q3.output.trans (q2.output.trans (q1.output.trans b.output)), by have := q3.size; omega, fun k hk hd => ?_⟩, ?_⟩
  · rw [q3.block k (by omega) (fun p => by have := h.i3 p; omega), q2.block k (by omega) (fun p => by have := h.i2 p; omega), q1.block k (by omega) (fun p => by have := h.i1 p; omega), b.block k hk]
  · refine ⟨r1.keepB (fun p => ?_), r2.keepB (fun p => ?_), r3, ?_, ?_, ?_, ?_, ?_, ?_⟩
    · have l1 := r1.lt p
      rw [fmarkL_len] at p
      rw [q3.block g1 (by omega) (fun z => h.d13 p z), q2.block g1 l1 (fun z => h.d12 p z)]
    · have l2 := r2.lt p
      rw [fmarkL_len] at p
      exact q3.block g2 l2 (fun z => h.d23 p z)
    · rw [fmarkL_len, fmarkL_len]; exact h.d12
    · rw [fmarkL_len, omarkL_len]; exact h.d13
    · rw [fmarkL_len, omarkL_len]; exact h.d23
    · rw [fmarkL_len]; exact h.i1
    · rw [fmarkL_len]; exact h.i2
    · rw [omarkL_len]; exact h.i3
set_option maxHeartbeats 8000000 in
theorem markDisk_any (lo hi q : Nat) (a1 a2 a3 : Option Addr) (c1 c2 c3 g1 g2 g3 : Nat) (live safe : List Fl) (ops : List Dp) (w : World) (n1 : live.length ≤ 1048576) (n2 : safe.length ≤ 1048576) (n3 : ops.length ≤ 1048576) (q0 : 0 < q) (q1 : q ≤ 1000)
    (h : OwnR lo hi a1 a2 a3 c1 c2 c3 g1 g2 g3 live safe ops w) :
    Calls Tryz.prog 13 #[.agg #[.slice a1 live.length c1, .slice a2 safe.length c2, .slice a3 ops.length c3], .int .i64 (q : Int)] w fun e w' => MarkEnd lo hi q a1 a2 a3 c1 c2 c3 g1 g2 g3 live.length safe.length ops.length w e w' := by
  have HL : Hid _ := hide h
  clear h
  have KX0 : Hid (Blk w.heap.size [.slice a1 live.length c1, .slice a2 safe.length c2, .slice a3 ops.length c3] (w.alloc (.cells #[.slice a1 live.length c1, .slice a2 safe.length c2, .slice a3 ops.length c3] 33))) := hide Blk.new
  have HX0 : Hid (Below w.heap.size w (w.alloc (.cells #[.slice a1 live.length c1, .slice a2 safe.length c2, .slice a3 ops.length c3] 33))) := hide (below_alloc (Below.refl _ _) _)
  go_enter Tryz.func13, Tryz.ntmps13
  go_wp2_with fail
  generalize w.alloc (.cells #[.slice a1 live.length c1, .slice a2 safe.length c2, .slice a3 ops.length c3] 33) = wa at *
  refine (markFileS_any a1 live c1 g1 q wa (by omega) q0 (by omega) (HL.out.o1.below HX0.out)).mono ?_
  rintro e w1 ⟨rfl, hc1, ho1⟩
  have HC1 : Hid _ := hide hc1
  have HO1 : Hid _ := hide ho1
  have KX1 : Hid (Blk w.heap.size _ w1) := hide (KX0.out.same (hc1.block _ KX0.out.lt (fun p => by have := HL.out.o1.lt p; omega)) hc1.size)
  clear hc1 ho1 KX0
  have HQ1 : Hid (0 < q + 2 * live.length ∧ q + 2 * live.length ≤ 10000000) := hide (by omega)
  have hq1 : ((q + 2 * live.length : Nat) : Int) ≤ 10000000 := by omega
  obtain ⟨k1, hk1⟩ : ∃ k1, k1 = q + 2 * live.length := ⟨_, rfl⟩
  have HK1 : Hid _ := hide hk1
  rw [← hk1] at HQ1 hq1 ⊢
  clear hk1
  have x1 := KX1.out.c 1 _ rfl
  go_wp2_with fail
  refine (markFileS_any a2 safe c2 g2 k1 w1 (by omega) HQ1.out.1 (by have := HQ1.out.2; omega) (((HL.out.o2.below HX0.out)).keepB (fun p => HC1.out.block g2 (by have := HL.out.o2.lt p; have := HX0.out.size; omega) (fun z e => HL.out.d12 z p e.symm)))).mono ?_
  rintro e w2 ⟨rfl, hc2, ho2⟩
  have HC2 : Hid _ := hide hc2
  have HO2 : Hid _ := hide ho2
  have KX2 : Hid (Blk w.heap.size _ w2) := hide (KX1.out.same (hc2.block _ KX1.out.lt (fun p => by have := HL.out.o2.lt p; omega)) hc2.size)
  clear hc2 ho2 KX1 x1
  have HQ2 : Hid (0 < k1 + 2 * safe.length ∧ k1 + 2 * safe.length ≤ 20000000) := hide (by have := HQ1.out; omega)
  have hq2 : ((k1 + 2 * safe.length : Nat) : Int) ≤ 20000000 := by have := HQ2.out; omega
  obtain ⟨k2, hk2⟩ : ∃ k2, k2 = k1 + 2 * safe.length := ⟨_, rfl⟩
  have HK2 : Hid _ := hide hk2
  rw [← hk2] at HQ2 hq2 ⊢
  clear hk2
  have x2 := KX2.out.c 2 _ rfl
  go_wp2_with fail
  refine (markDOpS_any a3 ops c3 g3 k2 w2 (by omega) HQ2.out.1 (by have := HQ2.out.2; omega) (((HL.out.o3.below HX0.out)).keepB (fun p => by
    have l3 := HL.out.o3.lt p
    have s0 := HX0.out.size
    have s1 := HC1.out.size
    rw [HC2.out.block g3 (by omega) (fun z e => HL.out.d23 z p e.symm), HC1.out.block g3 (by omega) (fun z e => HL.out.d13 z p e.symm)]))).mono ?_
  rintro e w3 ⟨rfl, hc3, ho3⟩
  have HE : Hid (MarkEnd lo hi q a1 a2 a3 c1 c2 c3 g1 g2 g3 live.length safe.length ops.length w (.returned (.int .i64 ((k2 + 4 * ops.length : Nat) : Int))) w3) := hide (by
    have e2 := HK2.out
    have e1 := HK1.out
    subst e2 e1
    obtain ⟨m1, m2⟩ := mark_end HL.out HX0.out HC1.out HO1.out HC2.out HO2.out hc3 ho3
    exact ⟨rfl, m1, m2⟩)
  clear hc3 ho3
  generalize ((k2 + 4 * ops.length : Nat) : Int) = k3 at *
  go_wp2
  go_ret
  exact HE.out
set_option maxHeartbeats 8000000 in
theorem heldDisk_any (q : Nat) (a1 a2 a3 : Option Addr) (c1 c2 c3 n1 n2 n3 : Nat) (w : World) (m1 : n1 ≤ 1048576) (m2 : n2 ≤ 1048576) (m3 : n3 ≤ 1048576) (q0 : 0 < q) (q1 : q ≤ 1000)
    (h : DkAt w a1 a2 a3 (fmarkL q n1) (fmarkL (q + 2 * n1) n2) (omarkL (q + 2 * n1 + 2 * n2) n3)) :
    Calls Tryz.prog 14 #[.agg #[.slice a1 n1 c1, .slice a2 n2 c2, .slice a3 n3 c3], .int .i64 (q : Int)] w fun e w' => HeldEnd (q + 2 * n1 + 2 * n2 + 4 * n3) w e w' := by
  have HL : Hid _ := hide h
  clear h
  have KX0 : Hid (Blk w.heap.size [.slice a1 n1 c1, .slice a2 n2 c2, .slice a3 n3 c3] (w.alloc (.cells #[.slice a1 n1 c1, .slice a2 n2 c2, .slice a3 n3 c3] 33))) := hide Blk.new
  have HX0 : Hid (Below w.heap.size w (w.alloc (.cells #[.slice a1 n1 c1, .slice a2 n2 c2, .slice a3 n3 c3] 33))) := hide (below_alloc (Below.refl _ _) _)
  go_enter Tryz.func14, Tryz.ntmps14
  go_wp2_with fail
  generalize w.alloc (.cells #[.slice a1 n1 c1, .slice a2 n2 c2, .slice a3 n3 c3] 33) = wa at *
  refine (heldFileS_any a1 n1 c1 q wa (by omega) q0 (by omega) (HL.out.r1.below HX0.out)).mono ?_
  rintro e w1 ⟨rfl, hb1⟩
  have HX1 : Hid _ := hide (below_trans HX0.out hb1)
  have KX1 : Hid _ := hide (KX0.out.below hb1)
  clear hb1 HX0 KX0
  have HQ1 : Hid (0 < q + 2 * n1 ∧ q + 2 * n1 ≤ 10000000) := hide (by omega)
  have hq1 : ((q + 2 * n1 : Nat) : Int) ≤ 10000000 := by omega
  obtain ⟨k1, hk1⟩ : ∃ k1, k1 = q + 2 * n1 := ⟨_, rfl⟩
  rw [← hk1] at HQ1 hq1 HL ⊢
  have HK1 : Hid _ := hide hk1
  clear hk1
  have x1 := KX1.out.c 1 _ rfl
  have j1 : ¬ ((k1 : Int) < 0) := by omega
  go_wp2_with fail
  refine (heldFileS_any a2 n2 c2 k1 w1 (by omega) HQ1.out.1 (by have := HQ1.out.2; omega) (HL.out.r2.below HX1.out)).mono ?_
  rintro e w2 ⟨rfl, hb2⟩
  have HX2 : Hid _ := hide (below_trans HX1.out hb2)
  have KX2 : Hid _ := hide (KX1.out.below hb2)
  clear hb2 HX1 KX1 x1 j1
  have HQ2 : Hid (0 < k1 + 2 * n2 ∧ k1 + 2 * n2 ≤ 20000000) := hide (by have := HQ1.out; omega)
  have hq2 : ((k1 + 2 * n2 : Nat) : Int) ≤ 20000000 := by have := HQ2.out; omega
  obtain ⟨k2, hk2⟩ : ∃ k2, k2 = k1 + 2 * n2 := ⟨_, rfl⟩
  rw [← hk2] at HQ2 hq2 HL ⊢
  have HK2 : Hid _ := hide hk2
  clear hk2
  have x2 := KX2.out.c 2 _ rfl
  have j2 : ¬ ((k2 : Int) < 0) := by omega
  go_wp2_with fail
  refine (heldDOpS_any a3 n3 c3 k2 w2 (by omega) HQ2.out.1 (by have := HQ2.out.2; omega) (HL.out.r3.below HX2.out)).mono ?_
  rintro e w3 ⟨rfl, hb3⟩
  have HE : Hid (HeldEnd (q + 2 * n1 + 2 * n2 + 4 * n3) w (.returned (.int .i64 ((k2 + 4 * n3 : Nat) : Int))) w3) := hide ⟨by rw [HK2.out, HK1.out], below_trans HX2.out hb3⟩
  clear hb3
  have hq3 : ((k2 + 4 * n3 : Nat) : Int) ≤ 30000000 := by have := HQ2.out; omega
  have j3 : ¬ (((k2 + 4 * n3 : Nat) : Int) < 0) := by omega
  obtain ⟨k3, hk3⟩ : ∃ k3, k3 = k2 + 4 * n3 := ⟨_, rfl⟩
  rw [← hk3] at hq3 j3 ⊢
  rw [← hk3] at HE
  clear hk3
  go_wp2
  go_ret
  exact HE.out
end Go.Proofs.YtacbcmgpknhgdaaGreat
