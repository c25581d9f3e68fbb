/- slices.Delete at holds: a row without one of them. -/
import Derived.Test.YtjjoeajnhblacaaGreatDoorGk
import Derived.Lib.SliceRun
import Derived.Deep.RegionLaw
namespace Go.Proofs.YtjjoeajnhblacaaGreatDoor
open Go.ChangeShapes Go.WideShapes Go.ChangeAt Go.RowKit Go.Maps
set_option linter.unusedVariables false
set_option maxRecDepth 100000
theorem flat_takeK {A B : Type} (f : A → List B) (n : Nat) (hf : ∀ x, (f x).length = n) (l : List A) (k : Nat) : (l.flatMap f).take (k * n) = (l.take k).flatMap f := by
  induction l generalizing k with
  | nil => simp
  | cons x t ih =>
    cases k with
    | zero => simp
    | succ k =>
      rw [List.flatMap_cons, List.take_succ_cons, List.flatMap_cons, List.take_append, hf x, List.take_of_length_le (by rw [hf x, Nat.succ_mul]; omega), show (k + 1) * n - n = k * n by rw [Nat.succ_mul]; omega, ih k]
theorem flat_dropK {A B : Type} (f : A → List B) (n : Nat) (hf : ∀ x, (f x).length = n) (l : List A) (k : Nat) : (l.flatMap f).drop (k * n) = (l.drop k).flatMap f := by
  induction l generalizing k with
  | nil => simp
  | cons x t ih =>
    cases k with
    | zero => simp
    | succ k =>
      rw [List.flatMap_cons, List.drop_succ_cons, List.drop_append, hf x, List.drop_eq_nil_of_le (by rw [hf x, Nat.succ_mul]; omega), show (k + 1) * n - n = k * n by rw [Nat.succ_mul]; omega, ih k]
      rfl
theorem heap_setCell_here {w : World} {g o : Nat} {cur : Array Value} {t : TypeId} {fr : Nat × Nat} (hg : w.heap[g]? = some (.cells cur t fr)) (v : Value) : (w.setCell ⟨g, o, none⟩ v).heap[g]? = some (.cells (cur.setIfInBounds o v) t fr) := by
  simp [World.setCell, Array.getElem?_modify, hg]
theorem heap_setCells_here {g : Nat} {t : TypeId} {fr : Nat × Nat} : ∀ (vs : List Value) (o : Nat) (w : World) (cur : Array Value), w.heap[g]? = some (.cells cur t fr) → o + vs.length ≤ cur.size → (w.setCells g o vs).heap[g]? = some (.cells (cur.toList.take o ++ vs ++ cur.toList.drop (o + vs.length)).toArray t fr)
  | [], o, w, cur, hg, ho => by
    rw [World.setCells, hg]
    simp
  | v :: r, o, w, cur, hg, ho => by
    rw [World.setCells, heap_setCells_here r (o + 1) _ _ (heap_setCell_here hg v) (by simp at ho ⊢; omega)]
    have := list_seg_step cur.toList o v r (by simpa using ho)
    simp only [Array.toList_setIfInBounds]
    rw [this]
    simp
theorem grown_setRow (w : World) (g : Nat) (cs : Array Value) : w.grownBy (w.setRow g cs) (some g) :=
  ⟨rfl, rfl, rfl, by simp, fun k hk hne => setRow_other w g k cs (fun e => hne (by rw [e]))⟩
theorem grown_trans {a b c : World} {o : Option Nat} (h : a.grownBy b o) (k : b.grownBy c o) : a.grownBy c o :=
  ⟨k.os.trans h.os, k.tape.trans h.tape, k.output.trans h.output, Nat.le_trans h.size k.size, fun i hi hn => (k.block i (Nat.lt_of_lt_of_le hi h.size) hn).trans (h.block i hi hn)⟩
theorem grown_setCells (g : Nat) : ∀ (vs : List Value) (o : Nat) (w : World), w.grownBy (w.setCells g o vs) (some g)
  | [], _, _ => ⟨rfl, rfl, rfl, Nat.le_refl _, fun _ _ _ => rfl⟩
  | v :: r, o, w => grown_trans (grown_set w g o v) (grown_setCells g r (o + 1) _)
/-- clear of one element -/
theorem run_clear_one {P : Program} (w : World) (t e ty : TypeId) (z : Value) (ht : P.underlying t = some (.slice e)) (hv : ∀ w, (zeroValue e).run P w = .ok z w) (zs : List Value) (hz : (Builtin.zeroCells z.cells 1).toList = zs) (h1 : ∀ v ∈ zs, v.oneCell' = true) (g o c : Nat) (cur : Array Value) (te : TypeId) (hg : w.heap[g]? = some (.cells cur te (0, 0))) (hfit : o + zs.length ≤ cur.size) :
    (Builtin.clear_ #[t] ty #[.slice (some ⟨g, o, none⟩) 1 c]).run P w = .ok (.tuple #[]) (w.setRow g (cur.toList.take o ++ zs ++ cur.toList.drop (o + zs.length)).toArray) := by
  have hst := run_storeCells_at P g o te zs 0 cur w hg (by simpa using hfit) h1
  simp only [Nat.add_zero] at hst
  simp [Builtin.clear_, run_underlying ht, hv, hz, hst]
/-- a list without one -/
def cutL {A : Type} (l : List A) (k : Nat) : List A := l.take k ++ l.drop (k + 1)
theorem cutL_len {A : Type} (l : List A) (k : Nat) (hk : k < l.length) : (cutL l k).length = l.length - 1 := by simp [cutL]; omega
/-- a row of the call's own without one -/
def DelEnd (g c : Nat) (l : List Hld) (k : Nat) (w : World) (e : Ending) (w' : World) : Prop := e = .returned (.slice (some ⟨g, 0, none⟩) (l.length - 1) c) ∧ w'.ownsRow 0 71 4 (.slice (some ⟨g, 0, none⟩) (l.length - 1) c) (l.length - 1) ((cutL l k).flatMap hldCells) ∧ w.grownBy w' (some g)
set_option maxHeartbeats 4000000 in
theorem delete_any (g c : Nat) (l : List Hld) (k : Nat) (w : World) (hl : l.length ≤ 1048576) (hk : k < l.length) (h : w.ownsRow 0 71 4 (.slice (some ⟨g, 0, none⟩) l.length c) l.length (l.flatMap hldCells)) :
    Calls Tryz.prog 96 #[.slice (some ⟨g, 0, none⟩) l.length c, .int .i64 (k : Int), .int .i64 ((k : Int) + 1)] w fun e w' => DelEnd g c l k w e w' := by
  obtain ⟨i0, hi0, hz0, hz1, hz2⟩ := info_parts infoHld
  have hu : Tryz.prog.underlying 25 = some (.slice 71) := by kernel_rfl
  obtain ⟨hXl, ⟨h1, _⟩ | ⟨g', c', cur, e0, _, hg, hnc, hcm, hcs, htk⟩⟩ := id h
  · cases h1
  simp only [Value.slice.injEq, Option.some.injEq, Addr.mk.injEq, and_true, true_and] at e0
  obtain ⟨rfl, rfl⟩ := e0
  obtain ⟨XS, hXS⟩ : ∃ XS, XS = l.flatMap hldCells := ⟨_, rfl⟩
  rw [← hXS] at hXl htk
  obtain ⟨news, hnews⟩ : ∃ news, news = XS.drop ((k + 1) * 4) := ⟨_, rfl⟩
  have hlen : news.length = (l.length - (k + 1)) * 4 := by rw [hnews, List.length_drop, hXl]; omega
  have hone : ∀ u ∈ news, u.oneCell' = true := fun u hu => hld_one l u (by rw [← hXS]; exact List.mem_of_mem_drop (hnews ▸ hu))
  have hcell : ∀ j v, XS[j]? = some v → w.drew.cell? ⟨g, j, none⟩ = some v := fun j v hj => by
    rw [hXS] at hj
    have := h.cells (g := g) rfl j v hj
    rwa [addr_add, Nat.zero_add] at this
  have hspare : ∀ t, t < news.length → (w.drew.cell? ⟨g, 0 + k * 4 + t, none⟩).isSome = true ∧ w.drew.frozen? ⟨g, 0 + k * 4 + t, none⟩ = false := fun t ht => by
    rw [hlen] at ht
    constructor
    · have hj : k * 4 + t < XS.length := by omega
      rw [Nat.zero_add, hcell _ _ (List.getElem?_eq_getElem hj)]
      rfl
    · exact frozen_of_block (w := w.drew) hg _
  obtain ⟨W1, hW1⟩ : ∃ W1, W1 = w.drew.setCells g (0 + k * 4) news := ⟨_, rfl⟩
  obtain ⟨R1, hR1⟩ : ∃ R1 : List Value, R1 = cur.toList.take (k * 4) ++ news ++ cur.toList.drop (k * 4 + news.length) := ⟨_, rfl⟩
  have k1 : W1.heap[g]? = some (.cells R1.toArray 71 (0, 0)) := by
    rw [hW1, hR1, Nat.zero_add]
    exact heap_setCells_here news (k * 4) w.drew cur hg (by rw [hlen, hcs]; omega)
  have hR1s : R1.length = c * 4 := by
    rw [hR1]
    simp [hcs, hlen]
    omega
  have hR1t : R1.take ((l.length - 1) * 4) = (cutL l k).flatMap hldCells := by
    have e1 : cur.toList.take (k * 4) = (l.take k).flatMap hldCells := by
      rw [← flat_takeK hldCells 4 hldLen l k, ← hXS, ← htk, List.take_take, Nat.min_eq_left (by omega)]
    have e2 : news = (l.drop (k + 1)).flatMap hldCells := by rw [hnews, hXS, flat_dropK hldCells 4 hldLen]
    have e3 : (cur.toList.take (k * 4) ++ news).length = (l.length - 1) * 4 := by simp [hcs, hlen]; omega
    rw [hR1, List.take_append, List.take_of_length_le (by rw [e3]; exact Nat.le_refl _), e3, Nat.sub_self, List.take_zero, List.append_nil, e1, e2, cutL, List.flatMap_append]
  have hcl : ∀ ty, (Builtin.clear_ #[25] ty #[.slice (some ⟨g, (l.length - 1) * 4, none⟩) 1 (c - (l.length - 1))]).run Tryz.prog W1 = .ok (.tuple #[]) (W1.setRow g (R1.take ((l.length - 1) * 4) ++ [Value.int .i64 0, .string ByteArray.empty, .string ByteArray.empty, .int .i64 0] ++ R1.drop ((l.length - 1) * 4 + 4)).toArray) := fun ty =>
    run_clear_one W1 _ _ ty (.agg #[.int .i64 0, .string ByteArray.empty, .string ByteArray.empty, .int .i64 0]) hu Tryz.zeroValue71 [Value.int .i64 0, .string ByteArray.empty, .string ByteArray.empty, .int .i64 0] (by kernel_rfl) (by intro v hv; simp at hv; rcases hv with rfl | rfl | rfl | rfl <;> rfl) g ((l.length - 1) * 4) _ R1.toArray 71 k1 (by simp [hR1s]; omega)
  obtain ⟨R2, hR2⟩ : ∃ R2 : List Value, R2 = R1.take ((l.length - 1) * 4) ++ [Value.int .i64 0, .string ByteArray.empty, .string ByteArray.empty, .int .i64 0] ++ R1.drop ((l.length - 1) * 4 + 4) := ⟨_, rfl⟩
  rw [← hR2] at hcl
  have HE : Hid (DelEnd g c l k w (.returned (.slice (some ⟨g, 0, none⟩) (l.length - 1) c)) (W1.setRow g R2.toArray)) := hide (by
    refine ⟨rfl, ⟨by rw [flat_len hldCells 4 hldLen, cutL_len l k hk], .inr ⟨g, c, R2.toArray, rfl, Nat.zero_le _, setRow_heap W1 g _ _ _ _ k1, by omega, hcm, ?_, ?_⟩⟩, ?_⟩
    · rw [hR2]; simp [hR1s]; omega
    · have e4 : (R1.take ((l.length - 1) * 4)).length = (l.length - 1) * 4 := by rw [List.length_take, hR1s]; omega
      rw [← hR1t, hR2, show (R1.take ((l.length - 1) * 4) ++ [Value.int .i64 0, .string ByteArray.empty, .string ByteArray.empty, .int .i64 0] ++ R1.drop ((l.length - 1) * 4 + 4)).toArray.toList = R1.take ((l.length - 1) * 4) ++ ([Value.int .i64 0, .string ByteArray.empty, .string ByteArray.empty, .int .i64 0] ++ R1.drop ((l.length - 1) * 4 + 4)) by simp, List.take_append, e4, Nat.sub_self, List.take_zero, List.append_nil, List.take_of_length_le (by rw [e4]; exact Nat.le_refl _)]
    · exact grown_trans (b := W1) (by rw [hW1]; exact grown_trans (b := w.drew) ⟨rfl, rfl, rfl, Nat.le_refl _, fun _ _ _ => rfl⟩ (grown_setCells _ _ _ _)) (grown_setRow _ _ _))
  have hM : l.length - 1 = k + (l.length - (k + 1)) := by omega
  have hM1 : 1 = l.length - (k + (l.length - (k + 1))) := by omega
  rw [hM] at HE
  have hcl2 : ∀ ty, (Builtin.clear_ #[25] ty #[.slice (some ⟨g, (k + (l.length - (k + 1))) * 4, none⟩) (l.length - (k + (l.length - (k + 1)))) (c - (k + (l.length - (k + 1))))]).run Tryz.prog W1 = .ok (.tuple #[]) (W1.setRow g R2.toArray) := fun ty => by
    have := hcl ty
    rw [hM] at this
    rw [← hM1]
    exact this
  clear hcl hM hM1
  obtain ⟨A, hA, hsrc⟩ : ∃ A : Addr, A = (if c = k + 1 then (⟨g, 0, none⟩ : Addr) else ⟨g, (k + 1) * 4, none⟩) ∧ Hid (∀ t u, news[t]? = some u → w.drew.cell? (A.add t) = some u) := by
    by_cases hc : c = k + 1
    · refine ⟨⟨g, 0, none⟩, by simp [hc], fun t u hu => ?_⟩
      have h0 : news.length = 0 := by rw [hlen]; omega
      rw [List.length_eq_zero_iff.1 h0] at hu
      simp at hu
    · refine ⟨⟨g, (k + 1) * 4, none⟩, by simp [hc], fun t u hu => ?_⟩
      rw [addr_add]
      exact hcell _ _ (by rw [← List.getElem?_drop, ← hnews]; exact hu)
  have HS1 : Hid _ := hide hlen
  have HS2 : Hid _ := hide hone
  have HS3 : Hid _ := hide hspare
  have HW : Hid _ := hide hW1
  clear h hg hnews hXS htk hcell hspare hone hlen hR1t hR1s hR1 hR2 k1 hW1 hXl hcs
  have b1 : ¬ ((k : Int) = (k : Int) + 1) := by omega
  have b2 : (k : Int) + 1 ≤ (l.length : Int) := by omega
  have b3 : (k : Int) ≤ (k : Int) + 1 := by omega
  have b4 : (l.length : Int) ≤ (c : Int) := by omega
  have b5 : ¬ (c = k) := by omega
  have b6 : (0 : Int) ≤ (k : Int) + 1 := by omega
  have b7 : (k : Int) ≤ (c : Int) := by omega
  have b8 : (k : Int) + 1 ≤ (c : Int) := by omega
  have w1_ : IntKind.i64.wrap ((k : Int) + 1) = (k : Int) + 1 := wrap64_id (by omega)
  by_cases hc : c = k + 1
  · rw [if_pos hc] at hA
    subst hc
    have hcl3 : ∀ ty, (Builtin.clear_ #[25] ty #[.slice (some ⟨g, k * 4, none⟩) (l.length - k) 1]).run Tryz.prog W1 = .ok (.tuple #[]) (W1.setRow g R2.toArray) := fun ty => by
      have := hcl2 ty
      rw [show k + (l.length - (k + 1)) = k by omega, show k + 1 - k = 1 by omega] at this
      exact this
    clear hcl2
    rw [show k + (l.length - (k + 1)) = k by omega] at HE
    have HS0 : Hid (news.length = 0 * 4) := hide (by have := HS1.out; omega)
    go_enter Tryz.func96, Tryz.ntmps96
    go_wp2_with fail
    subst hA
    go_region_law (refine step_append_room rfl (.tmp 22) (.tmp 25) 25 rfl 71 i0 4 hu hi0 hz1 g 0 k (k + 1) (by simp [Act.eval, Act.put]) ⟨g, 0, none⟩ 0 0 news (by simp [Act.eval, Act.put]) HS0.out hsrc.out HS2.out (by omega) HS3.out ?_; rw [← HW.out])
    go_wp2_with fail
    go_ret
    exact HE.out
  · rw [if_neg hc] at hA
    go_enter Tryz.func96, Tryz.ntmps96
    go_wp2_with fail
    subst hA
    go_region_law (refine step_append_room rfl (.tmp 22) (.tmp 25) 25 rfl 71 i0 4 hu hi0 hz1 g 0 k c (by simp [Act.eval, Act.put]) ⟨g, (k + 1) * 4, none⟩ (l.length - (k + 1)) (c - (k + 1)) news (by simp [Act.eval, Act.put]) HS1.out hsrc.out HS2.out (by omega) HS3.out ?_; rw [← HW.out])
    go_wp2_with fail
    go_ret
    exact HE.out
end Go.Proofs.YtjjoeajnhblacaaGreatDoor
