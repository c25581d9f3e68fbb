/- The contract of slices.Insert over what was answered: one more, at its place. -/
import Derived.Test.YtkcpoibhlnjldaaAcI9
import Derived.Lib.Overlaps
import Derived.Lib.AppendZerosOnto
import Derived.Laws.Externs
import Derived.Laws.CopyRow
import Derived.Laws.NewBlocks
namespace Go.Proofs.Ytkcpoibhlnjldaa
open Go.Value renaming int → J, slice → V
open Go.IntKind renaming i64 → Z
open Go renaming undef → U
open Go.ChangeShapes Go.WideShapes Go.ChangeAt Go.RowKit
set_option linter.unusedVariables false
set_option maxRecDepth 100000
/-- copy of rows whose elements have some cells -/
theorem run_copy_rowK {P : Program} (w : World) (dT sT ty elem : TypeId) (g o dLen dCap : Nat) (a : Addr) (sLen sCap size : Nat) (cur : Array Value) (t : TypeId) (cs : List Value)
  (hu : P.underlying dT = some (.slice elem)) (hs : (P.info? elem).map (·.size) = some size)
  (hg : w.heap[g]? = some (.cells cur t (0, 0))) (hn : cs.length = Nat.min sLen dLen * size)
  (hsrc : ∀ j v, cs[j]? = some v → w.cell? (a.add j) = some v) (hfit : o + cs.length ≤ cur.size) (h1 : ∀ v ∈ cs, v.oneCell' = true) :
  (Builtin.copy_ #[dT, sT] ty #[V (some ⟨g, o, none⟩) dLen dCap, V (some a) sLen sCap]).run P w =
   .ok (goInt (Nat.min sLen dLen)) (w.setRow g (cur.toList.take o ++ cs ++ cur.toList.drop (o + cs.length)).toArray) := by
 have hl := run_loadCells_list (P := P) w a cs hsrc
 have hst := run_storeCells_at P g o t cs 0 cur w hg (by simpa using hfit) h1
 cases hq : P.info? elem with
 | none => simp [hq] at hs
 | some i =>
  have hi : i.size = size := by simpa [hq] using hs
  simp [Builtin.copy_, run_underlying hu, Builtin.lenOf, Builtin.firstCells, sizeOf, typeInfo, hq, hi, ← hn, hl, hst]
theorem exec_copy {P : Program} {w w' : World} {o : Oper} {ev : Operand → Value} {d s : Operand} {t t' : TypeId} {v u v' : Value} (hop : o.op = Op.call { callee := Callee.builtin Builtin.copy, args := #[d, s], argTypes := #[t, t'] }) (hd : ev d = v) (hs : ev s = u) (hr : (Builtin.copy_ #[t, t'] o.type #[v, u]).run P w = .ok v' w') : (execOp ev o).run P w = .ok (.value v') w' := by
 unfold execOp
 simp only [hop, resolve, invoke, builtin, Sem.run_bind, Sem.run_pure, Result.andThen_ok, List.map_toArray, List.map_cons, List.map_nil, hd, hs, hr]
theorem flat_take (l : List Sn) (k : Nat) : (l.flatMap snCells).take (k * 2) = (l.take k).flatMap snCells := by
 induction l generalizing k with
 | nil => simp
 | cons x t ih =>
  cases k with
  | zero => simp
  | succ k =>
   have := ih k
   simp only [List.flatMap_cons, List.take_succ_cons, snCells, List.cons_append, List.nil_append]
   rw [show (k + 1) * 2 = k * 2 + 1 + 1 by omega, List.take_succ_cons, List.take_succ_cons, this]
theorem flat_drop (l : List Sn) (k : Nat) : (l.flatMap snCells).drop (k * 2) = (l.drop k).flatMap snCells := by
 induction l generalizing k with
 | nil => simp
 | cons x t ih =>
  cases k with
  | zero => simp
  | succ k =>
   have := ih k
   simp only [List.flatMap_cons, List.drop_succ_cons, snCells, List.cons_append, List.nil_append]
   rw [show (k + 1) * 2 = k * 2 + 1 + 1 by omega, List.drop_succ_cons, List.drop_succ_cons, this]
def insL (l : List Sn) (k : Nat) (x : Sn) : List Sn := l.take k ++ x :: l.drop k
theorem insL_len (l : List Sn) (k : Nat) (x : Sn) (hk : k ≤ l.length) : (insL l k x).length = l.length + 1 := by simp [insL]; omega
/-- a row of the call's own with one more -/
def InsEnd (v : Value) (l : List Sn) (k : Nat) (x : Sn) (w : World) (e : Ending) (w' : World) : Prop := ∃ v', e = .returned v' ∧ w'.ownsRow 0 70 2 v' (l.length + 1) ((insL l k x).flatMap snCells) ∧ w.grownBy w' v.ownBlock ∧ (v'.ownBlock = v.ownBlock ∨ v'.ownBlock = some w.heap.size)
set_option maxHeartbeats 4000000 in
theorem insert_end (v : Value) (l : List Sn) (x : Sn) (vb : Nat) (w : World) (hl : l.length ≤ 1048576) (h : w.ownsRow 0 70 2 v l.length (l.flatMap snCells)) (hv : w.heap[vb]? = some (.cells #[J Z x.id, J Z x.code] 70 (0, 0))) :
  Calls Try.prog 61 #[v, J Z (l.length : Int), V (some ⟨vb, 0, none⟩) 1 1] w fun e w' => InsEnd v l l.length x w e w' := by
 obtain ⟨i0, hi0, hz0, hz1, hz2⟩ := info_parts infoSn
 have hu : Try.prog.underlying 24 = some (.slice 70) := by kernel_rfl
 obtain ⟨sa, sc, rfl⟩ := row_shape h
 have HO : Hid _ := hide h
 have hn : ∀ ad, (some ⟨vb, 0, none⟩ : Option Addr) = some ad → ∀ j u, (snCells x)[j]? = some u → w.cell? (ad.add j) = some u := fun ad had j u hj => by
  simp only [Option.some.injEq] at had
  subst had
  rw [addr_add, Nat.zero_add]
  simp only [World.cell?, hv]
  simpa [snCells] using hj
 have HN : Hid _ := hide hn
 clear h hv hn
 by_cases hc : sc = l.length
 ·subst hc
  go_enter Try.func61, Try.ntmps61
  go_wp2_with (first | (at_builtin; refine Shut2.mk ?_) | fail)
  refine Shut2.mk' ?_
  refine wpList_append_any rfl _ _ 24 rfl 0 70 i0 _ 2 16 hu hi0 hz0 hz1 hz2 rfl (by decide) _ l.length _ rfl HO.out (some ⟨vb, 0, none⟩) 1 1 (snCells x) rfl rfl (fun e => by cases e) HN.out (fun u hu => sn_one [x] u (by simpa using hu)) (by unfold maxLen; omega) (by omega) (Nat.zero_le _) ?_
  intro v' w' ho' hg' hl'
  obtain ⟨sa', sc', rfl⟩ := row_shape ho'
  have HE : Hid (InsEnd (V sa l.length l.length) l l.length x w (.returned (V sa' (l.length + 1) sc')) w') := hide ⟨_, rfl, by
   have e : insL l l.length x = l ++ [x] := by simp [insL]
   rw [e, List.flatMap_append]
   simpa using ho', hg', hl'⟩
  clear ho' hg' hl'
  go_wp2
  go_ret
  exact HE.out
 ·have hc2 : ¬ (l.length = sc) := fun e => hc e.symm
  go_enter Try.func61, Try.ntmps61
  go_wp2_with (first | (at_builtin; refine Shut2.mk ?_) | fail)
  refine Shut2.mk' ?_
  refine wpList_append_any rfl _ _ 24 rfl 0 70 i0 _ 2 16 hu hi0 hz0 hz1 hz2 rfl (by decide) _ l.length _ rfl HO.out (some ⟨vb, 0, none⟩) 1 1 (snCells x) rfl rfl (fun e => by cases e) HN.out (fun u hu => sn_one [x] u (by simpa using hu)) (by unfold maxLen; omega) (by omega) (Nat.zero_le _) ?_
  intro v' w' ho' hg' hl'
  obtain ⟨sa', sc', rfl⟩ := row_shape ho'
  have HE : Hid (InsEnd (V sa l.length sc) l l.length x w (.returned (V sa' (l.length + 1) sc')) w') := hide ⟨_, rfl, by
   have e : insL l l.length x = l ++ [x] := by simp [insL]
   rw [e, List.flatMap_append]
   simpa using ho', hg', hl'⟩
  clear ho' hg' hl'
  go_wp2
  go_ret
  exact HE.out
structure InF (g k n N G : Nat) (W2 W3 : World) (l0 l1 l2 l3 l4 l5 l6 l7 l8 : Bool) (u46 u47 u48 u49 u50 u51 u52 u53 u54 : Value) (x : World) : Prop where
 wb : l8 = false → x = W2.drew
 wa : l8 = true → x = W3
 p46 : l0 = true → u46 = V (some ⟨N, 0, none⟩) (n + 1) G
 p47 : l1 = true → u47 = J Z (k : Int)
 p48 : l2 = true → u48 = J Z 1
 p49 : l3 = true → u49 = J Z ((k : Int) + 1)
 p50 : l4 = true → u50 = V (some ⟨N, (k + 1) * 2, none⟩) (n + 1 - (k + 1)) (G - (k + 1))
 p51 : l5 = true → u51 = V (some ⟨g, 0, none⟩) n n
 p52 : l6 = true → u52 = J Z (k : Int)
 p53 : l7 = true → u53 = V (some ⟨g, k * 2, none⟩) (n - k) (n - k)
set_option maxHeartbeats 4000000 in
theorem insert_new (g : Nat) (l : List Sn) (k : Nat) (x : Sn) (vb : Nat) (w : World) (hl : l.length ≤ 1048576) (hk : k < l.length) (h : w.ownsRow 0 70 2 (V (some ⟨g, 0, none⟩) l.length l.length) l.length (l.flatMap snCells)) (hv : w.heap[vb]? = some (.cells #[J Z x.id, J Z x.code] 70 (0, 0))) :
  Calls Try.prog 61 #[V (some ⟨g, 0, none⟩) l.length l.length, J Z (k : Int), V (some ⟨vb, 0, none⟩) 1 1] w fun e w' => InsEnd (V (some ⟨g, 0, none⟩) l.length l.length) l k x w e w' := by
 obtain ⟨i0, hi0, hz0, hz1, hz2⟩ := info_parts infoSn
 have hu : Try.prog.underlying 24 = some (.slice 70) := by kernel_rfl
 have HO : Hid _ := hide h
 have HV : Hid _ := hide hv
 have b1 : ¬ ((k : Int) = (l.length : Int)) := by omega
 have b2 : (l.length : Int) < (l.length : Int) + 1 := by omega
 have b3 : ¬ (k = l.length) := by omega
 have b4 : ¬ (l.length = k) := by omega
 have b5 : (k : Int) ≤ (l.length : Int) := by omega
 obtain ⟨XS, hXS⟩ : ∃ XS, XS = l.flatMap snCells := ⟨_, rfl⟩
 have hXl : XS.length = l.length * 2 := by rw [hXS]; exact flat_len snCells 2 snLen l
 have hcs : ∀ j v, XS[j]? = some v → w.cell? ⟨g, j, none⟩ = some v := fun j v hj => by
  rw [hXS] at hj
  have := h.cells (g := g) rfl j v hj
  rwa [addr_add, Nat.zero_add] at this
 have hgw : g < w.heap.size := (h.lt g rfl).2
 have hold : (Builtin.firstCells i0.size k (V (some ⟨g, 0, none⟩) k l.length)).run Try.prog w.drew = .ok (XS.take (k * 2)).toArray w.drew := by
  rw [hz1]
  exact run_firstCells_some w.drew 2 k ⟨g, 0, none⟩ k l.length (XS.take (k * 2)) (by rw [List.length_take]; omega) (fun j v hj => by
   rw [addr_add, Nat.zero_add]
   rw [List.getElem?_take] at hj
   split at hj
   ·exact hcs j v hj
   ·cases hj)
 have hkk : (l.length : Int) + 1 - (k : Int) = ((l.length + 1 - k : Nat) : Int) := by omega
 have hik : k + (l.length + 1 - k) = l.length + 1 := by omega
 have hrz : ∀ ty, (Builtin.append_ #[24, 3] ty #[V (some ⟨g, 0, none⟩) k l.length, J Z ((l.length + 1 - k : Nat) : Int)]).run Try.prog w =
   .ok (V (some ⟨w.heap.size, 0, none⟩) (l.length + 1) (grownCap w (l.length + 1) l.length 70)) (w.drew.alloc (.cells ((XS.take (k * 2)).toArray ++ Builtin.zeroCells (Value.agg #[J Z 0, J Z 0]).cells (l.length + 1 - k) ++ Builtin.zeroCells (Value.agg #[J Z 0, J Z 0]).cells (grownCap w (l.length + 1) l.length 70 - (l.length + 1))) 70)) := fun ty => by
  have h := Lib.run_append_grow_zeros w 24 3 ty 70 i0 _ .i64 .i64 hu (by kernel_rfl) hi0 hz0 (some ⟨g, 0, none⟩) k l.length (XS.take (k * 2)) hold (l.length + 1 - k) (by omega) (by omega) (by omega) (by omega) (by rw [hz2]; omega) (by rw [hz2, hik]; exact growslice_fits (by omega) (by omega))
  rw [hik] at h
  exact h
 clear h hv
 go_enter Try.func61, Try.ntmps61
 go_wp2_with (first | (at_builtin; refine Shut2.mk ?_) | fail)
 refine Shut2.mk' ?_
 refine Lib.wpList_append_run _ rfl _ _ _ _ rfl _ _ rfl rfl _ _ (hrz _) ?_
 clear hrz hold hik
 obtain ⟨G, hG⟩ : ∃ G, G = grownCap w (l.length + 1) l.length 70 := ⟨_, rfl⟩
 have hGn : l.length + 1 ≤ G := by rw [hG]; exact grownCap_ge w _ _ _
 have hGm : G ≤ maxLen := by rw [hG]; exact grownCap_le_maxLen w _ _ _ (by unfold maxLen; omega)
 rw [← hG]
 clear hG
 have hG2 := hGm
 unfold maxLen at hG2
 obtain ⟨N, hN⟩ : ∃ N, N = w.heap.size := ⟨_, rfl⟩
 rw [← hN]
 obtain ⟨ROW, hROW⟩ : ∃ ROW : Array Value, ROW = (XS.take (k * 2)).toArray ++ Builtin.zeroCells (Value.agg #[J Z 0, J Z 0]).cells (l.length + 1 - k) ++ Builtin.zeroCells (Value.agg #[J Z 0, J Z 0]).cells (G - (l.length + 1)) := ⟨_, rfl⟩
 rw [← hROW]
 have hRs : ROW.size = G * 2 := by
  rw [hROW]
  simp [Builtin.zeroCells, Value.cells]
  omega
 have hRt : ROW.toList.take (k * 2) = XS.take (k * 2) := by
  rw [hROW]
  simp [List.take_append, List.take_take]
  omega
 clear hROW
 obtain ⟨W1, hW1⟩ : ∃ W1, W1 = w.drew.alloc (.cells ROW 70) := ⟨_, rfl⟩
 rw [← hW1]
 have k1 : W1.heap[N]? = some (.cells ROW 70 (0, 0)) := by rw [hW1, hN]; exact heap_alloc_new w.drew _
 have k3 : Below w.heap.size w W1 := by rw [hW1]; exact below_alloc (Below.refl _ _).drew _
 have k2 : ∀ j, j < w.heap.size → W1.heap[j]? = w.heap[j]? := fun j hj => k3.block j hj
 have hvl : vb < w.heap.size := (Array.getElem?_eq_some_iff.1 HV.out).1
 have hvc : ∀ j u, (snCells x)[j]? = some u → w.cell? ⟨vb, j, none⟩ = some u := fun j u hj => by
  simp only [World.cell?, HV.out]
  simpa [snCells] using hj
 have hss : (Try.prog.info? 70).map (·.size) = some 2 := by rw [hi0]; simp [hz1]
 have e1 := run_copy_rowK (P := Try.prog) W1 24 24 3 70 N (k * 2) (l.length + 1 - k) (G - k) ⟨vb, 0, none⟩ 1 1 2 ROW 70 (snCells x) hu hss k1 (by rw [show Nat.min 1 (l.length + 1 - k) = 1 by simp only [Nat.min_def]; split <;> omega]; rfl) (fun j u hj => by
  rw [addr_add, Nat.zero_add]
  exact (k3.cell (p := ⟨vb, j, none⟩) hvl).trans (hvc j u hj)) (by rw [hRs]; simp [snCells]; omega) (fun u hu => sn_one [x] u (by simpa using hu))
 rw [show Nat.min 1 (l.length + 1 - k) = 1 by simp only [Nat.min_def]; split <;> omega] at e1
 obtain ⟨R1, hR1⟩ : ∃ R1 : List Value, R1 = ROW.toList.take (k * 2) ++ snCells x ++ ROW.toList.drop (k * 2 + (snCells x).length) := ⟨_, rfl⟩
 rw [← hR1] at e1
 have hR1s : R1.length = G * 2 := by
  rw [hR1]
  simp [snCells, hRs]
  omega
 have hR1t : R1.take ((k + 1) * 2) = XS.take (k * 2) ++ snCells x := by
  rw [hR1, List.take_append_of_le_length (by simp [snCells, hRs]; omega), List.take_of_length_le (by simp [snCells]; omega), hRt]
 obtain ⟨W2, hW2⟩ : ∃ W2, W2 = W1.setRow N R1.toArray := ⟨_, rfl⟩
 rw [← hW2] at e1
 have j1 : W2.heap[N]? = some (.cells R1.toArray 70 (0, 0)) := by rw [hW2]; exact setRow_heap W1 N _ _ _ _ k1
 have j2 : ∀ j, j ≠ N → W2.heap[j]? = W1.heap[j]? := fun j hj => by rw [hW2]; exact setRow_other W1 N j _ hj
 have e2 := run_copy_rowK (P := Try.prog) W2.drew 24 24 3 70 N ((k + 1) * 2) (l.length + 1 - (k + 1)) (G - (k + 1)) ⟨g, k * 2, none⟩ (l.length - k) (l.length - k) 2 R1.toArray 70 (XS.drop (k * 2)) hu hss j1 (by rw [List.length_drop, hXl, show Nat.min (l.length - k) (l.length + 1 - (k + 1)) = l.length - k by simp only [Nat.min_def]; split <;> omega]; omega) (fun j u hj => by
  rw [addr_add]
  rw [List.getElem?_drop] at hj
  have := hcs _ u hj
  refine (World.cell?_of_block (w := w) (w' := W2.drew) ?_).trans this
  show W2.heap[g]? = w.heap[g]?
  rw [j2 g (by omega), k2 g hgw]) (by simp [hR1s, hXl]; omega) (fun u hu => sn_one l u (by rw [← hXS]; exact List.mem_of_mem_drop hu))
 rw [show Nat.min (l.length - k) (l.length + 1 - (k + 1)) = l.length - k by simp only [Nat.min_def]; split <;> omega] at e2
 obtain ⟨R2, hR2⟩ : ∃ R2 : List Value, R2 = R1.toArray.toList.take ((k + 1) * 2) ++ XS.drop (k * 2) ++ R1.toArray.toList.drop ((k + 1) * 2 + (XS.drop (k * 2)).length) := ⟨_, rfl⟩
 rw [← hR2] at e2
 have hR2s : R2.length = G * 2 := by
  rw [hR2]
  simp [hR1s, hXl]
  omega
 have hR2t : R2.take ((l.length + 1) * 2) = (insL l k x).flatMap snCells := by
  rw [hR2, List.take_append_of_le_length (by simp [hR1s, hXl]; omega), List.take_of_length_le (by simp [hR1s, hXl]; omega)]
  rw [show R1.toArray.toList = R1 from rfl, hR1t, hXS]
  have f1 : (l.flatMap snCells).take (k * 2) = (l.take k).flatMap snCells := flat_take l k
  have f2 : (l.flatMap snCells).drop (k * 2) = (l.drop k).flatMap snCells := flat_drop l k
  rw [f1, f2]
  simp [insL]
 obtain ⟨W3, hW3⟩ : ∃ W3, W3 = W2.drew.setRow N R2.toArray := ⟨_, rfl⟩
 rw [← hW3] at e2
 have HE : Hid (InsEnd (V (some ⟨g, 0, none⟩) l.length l.length) l k x w (.returned (V (some ⟨N, 0, none⟩) (l.length + 1) G)) W3) := hide (by
  have m1 : W3.heap[N]? = some (.cells R2.toArray 70 (0, 0)) := by rw [hW3]; exact setRow_heap W2.drew N _ _ _ _ j1
  refine ⟨_, rfl, ⟨by rw [flat_len snCells 2 snLen, insL_len l k x (by omega)], .inr ⟨N, G, R2.toArray, rfl, Nat.zero_le _, m1, hGn, hGm, by simpa using hR2s, hR2t⟩⟩, ?_, .inr (by rw [hN]; rfl)⟩
  have s3 : W3.heap.size = W1.heap.size := by rw [hW3, hW2]; simp [World.setRow]
  refine ⟨?_, ?_, ?_, by rw [s3]; exact k3.size, fun j hj _ => ?_⟩
  ·rw [hW3, hW2]; exact k3.os
  ·rw [hW3, hW2]; exact k3.tape
  ·rw [hW3, hW2]; exact k3.output
  ·rw [hW3]
   refine (setRow_other W2.drew N j _ (by omega)).trans ?_
   exact (j2 j (by omega)).trans (k2 j hj))
 have HE1 : Hid _ := hide e1
 have HE2 : Hid _ := hide e2
 clear hR2 hR2s hR2t hW3 hR1 hR1s hR1t hW2 j1 j2 hW1 k1 k2 k3 hRs hRt hvc hcs hXl hXS e2 hN
 have b6 : ¬ (G = k) := by omega
 have b7 : ¬ (G = k + 1) := by omega
 have b8 : (k : Int) ≤ (l.length : Int) + 1 := by omega
 have b9 : (k : Int) + 1 ≤ (l.length : Int) + 1 := by omega
 have w1_ : IntKind.i64.wrap ((k : Int) + 1) = (k : Int) + 1 := wrap_in (by omega) (by omega)
 have b10 : ¬ ((k : Int) + 1 < 0) := by omega
 go_wp2_with fail
 rename_i K5 hK5
 refine wp_region_inv (by kernel_rfl) (fun L act x => ∃ l0 l1 l2 l3 l4 l5 l6 l7 l8 : Bool, ∃ u46 u47 u48 u49 u50 u51 u52 u53 u54 : Value, L = #[l0, l1, l2, l3, l4, l5, l6, l7, l8] ∧ act = { tmps := #[V (some { block := g, off := 0 }) l.length l.length, J Z ↑k, V (some { block := vb, off := 0 }) 1 1, U, U, U, V none 0 0, J Z 1, J Z ↑l.length, V (some { block := N, off := 0 }) (l.length + 1) G, V (some { block := g, off := 0 }) l.length l.length, J Z ↑k, V (some { block := g, off := k * 2 }) (l.length - k) (l.length - k), V (some { block := vb, off := 0 }) 1 1, J Z 1, J Z 1, Value.bool false, U, V (some { block := g, off := 0 }) l.length l.length, J Z ↑l.length, J Z ↑k, J Z ↑l.length, Value.bool false, U, U, U, J Z ↑l.length, J Z 1, J Z (↑l.length + 1), V (some { block := g, off := 0 }) l.length l.length, J Z ↑l.length, Value.bool true, V (some { block := g, off := 0 }) l.length l.length, J Z ↑k, V (some { block := g, off := 0 }) k l.length, J Z ↑l.length, J Z 1, J Z (↑l.length + 1), J Z ↑k, J Z ↑(l.length + 1 - k), V (some { block := N, off := 0 }) (l.length + 1) G, V (some { block := N, off := 0 }) (l.length + 1) G, J Z ↑k, V (some { block := N, off := k * 2 }) (l.length + 1 - k) (G - k), V (some { block := vb, off := 0 }) 1 1, J Z 1, u46, u47, u48, u49, u50, u51, u52, u53, u54, U, U, U, U, U, U, U, U, U, U, U, U, U, U, U, U, U, U, U, U, U, U, U, U, U, U, U, U, U, U, U, U, U, U, U, U, U, U, U, U], defers := [] } ∧ InF g k l.length N G W2 W3 l0 l1 l2 l3 l4 l5 l6 l7 l8 u46 u47 u48 u49 u50 u51 u52 u53 u54 x) ?_ ?_ ?_
 rotate_left 2
 ·exact ⟨false, false, false, false, false, false, false, false, false, U, U, U, U, U, U, U, U, U, rfl, rfl, ⟨fun _ => rfl, nofun, nofun, nofun, nofun, nofun, nofun, nofun, nofun, nofun⟩⟩
 ·rintro L act x i ⟨l0, l1, l2, l3, l4, l5, l6, l7, l8, u46, u47, u48, u49, u50, u51, u52, u53, u54, rfl, rfl, h⟩ hi K hK
  have hi15 : i < 9 := by
   obtain ⟨_, o, ho, _⟩ := mem_ready.1 hi
   exact (Array.getElem?_eq_some_iff.1 ho).1
  have hl := (mem_ready.1 hi).1
  obtain rfl | rfl | rfl | rfl | rfl | rfl | rfl | rfl | rfl := (by omega : i = 0 ∨ i = 1 ∨ i = 2 ∨ i = 3 ∨ i = 4 ∨ i = 5 ∨ i = 6 ∨ i = 7 ∨ i = 8)
  ·have e : l0 = false := hl
   subst e
   refine wpOp_run (v := V (some ⟨N, 0, none⟩) (l.length + 1) G) (w' := x) (by rfl) (by rfl) ?_ (hK _ _ ⟨true, l1, l2, l3, l4, l5, l6, l7, l8, (V (some ⟨N, 0, none⟩) (l.length + 1) G), u47, u48, u49, u50, u51, u52, u53, u54, rfl, rfl, { h with p46 := fun _ => rfl }⟩)
   go_simp
  ·have e : l1 = false := hl
   subst e
   refine wpOp_run (v := J Z (k : Int)) (w' := x) (by rfl) (by rfl) ?_ (hK _ _ ⟨l0, true, l2, l3, l4, l5, l6, l7, l8, u46, (J Z (k : Int)), u48, u49, u50, u51, u52, u53, u54, rfl, rfl, { h with p47 := fun _ => rfl }⟩)
   go_simp
  ·have e : l2 = false := hl
   subst e
   refine wpOp_run (v := J Z 1) (w' := x) (by rfl) (by rfl) ?_ (hK _ _ ⟨l0, l1, true, l3, l4, l5, l6, l7, l8, u46, u47, (J Z 1), u49, u50, u51, u52, u53, u54, rfl, rfl, { h with p48 := fun _ => rfl }⟩)
   go_simp
  ·have e : l3 = false := hl
   subst e
   have d1 : l1 = true := ready_on hi 1 (by kernel_rfl)
   subst d1
   have d2 : l2 = true := ready_on hi 2 (by kernel_rfl)
   subst d2
   refine wpOp_run (v := J Z ((k : Int) + 1)) (w' := x) (by rfl) (by rfl) ?_ (hK _ _ ⟨l0, true, true, true, l4, l5, l6, l7, l8, u46, u47, u48, (J Z ((k : Int) + 1)), u50, u51, u52, u53, u54, rfl, rfl, { h with p49 := fun _ => rfl }⟩)
   rw [h.p47 rfl, h.p48 rfl]
   go_simp
  ·have e : l4 = false := hl
   subst e
   have d0 : l0 = true := ready_on hi 0 (by kernel_rfl)
   subst d0
   have d3 : l3 = true := ready_on hi 3 (by kernel_rfl)
   subst d3
   refine wpOp_run (v := V (some ⟨N, (k + 1) * 2, none⟩) (l.length + 1 - (k + 1)) (G - (k + 1))) (w' := x) (by rfl) (by rfl) ?_ (hK _ _ ⟨true, l1, l2, true, true, l5, l6, l7, l8, u46, u47, u48, u49, (V (some ⟨N, (k + 1) * 2, none⟩) (l.length + 1 - (k + 1)) (G - (k + 1))), u51, u52, u53, u54, rfl, rfl, { h with p50 := fun _ => rfl }⟩)
   rw [h.p46 rfl, h.p49 rfl]
   go_simp
  ·have e : l5 = false := hl
   subst e
   refine wpOp_run (v := V (some ⟨g, 0, none⟩) l.length l.length) (w' := x) (by rfl) (by rfl) ?_ (hK _ _ ⟨l0, l1, l2, l3, l4, true, l6, l7, l8, u46, u47, u48, u49, u50, (V (some ⟨g, 0, none⟩) l.length l.length), u52, u53, u54, rfl, rfl, { h with p51 := fun _ => rfl }⟩)
   go_simp
  ·have e : l6 = false := hl
   subst e
   refine wpOp_run (v := J Z (k : Int)) (w' := x) (by rfl) (by rfl) ?_ (hK _ _ ⟨l0, l1, l2, l3, l4, l5, true, l7, l8, u46, u47, u48, u49, u50, u51, (J Z (k : Int)), u53, u54, rfl, rfl, { h with p52 := fun _ => rfl }⟩)
   go_simp
  ·have e : l7 = false := hl
   subst e
   have d5 : l5 = true := ready_on hi 5 (by kernel_rfl)
   subst d5
   have d6 : l6 = true := ready_on hi 6 (by kernel_rfl)
   subst d6
   refine wpOp_run (v := V (some ⟨g, k * 2, none⟩) (l.length - k) (l.length - k)) (w' := x) (by rfl) (by rfl) ?_ (hK _ _ ⟨l0, l1, l2, l3, l4, true, true, true, l8, u46, u47, u48, u49, u50, u51, u52, (V (some ⟨g, k * 2, none⟩) (l.length - k) (l.length - k)), u54, rfl, rfl, { h with p53 := fun _ => rfl }⟩)
   rw [h.p51 rfl, h.p52 rfl]
   go_simp
  ·have e : l8 = false := hl
   subst e
   have d4 : l4 = true := ready_on hi 4 (by kernel_rfl)
   subst d4
   have d7 : l7 = true := ready_on hi 7 (by kernel_rfl)
   subst d7
   have hx := h.wb rfl
   subst hx
   refine wpOp_run (v := goInt ((l.length - k : Nat) : Int)) (w' := W3) (by rfl) (by rfl) ?_ (hK _ _ ⟨l0, l1, l2, l3, true, l5, l6, true, true, u46, u47, u48, u49, u50, u51, u52, u53, (goInt ((l.length - k : Nat) : Int)), rfl, rfl, { h with wb := nofun, wa := fun _ => rfl }⟩)
   exact exec_copy rfl (h.p50 rfl) (h.p53 rfl) HE2.out
 ·rintro L act x ⟨l0, l1, l2, l3, l4, l5, l6, l7, l8, u46, u47, u48, u49, u50, u51, u52, u53, u54, rfl, rfl, h⟩ hr
  have hall := ready_all hr rfl (by decide)
  have t0 : l0 = true := hall 0 (by decide)
  have t1 : l1 = true := hall 1 (by decide)
  have t2 : l2 = true := hall 2 (by decide)
  have t3 : l3 = true := hall 3 (by decide)
  have t4 : l4 = true := hall 4 (by decide)
  have t5 : l5 = true := hall 5 (by decide)
  have t6 : l6 = true := hall 6 (by decide)
  have t7 : l7 = true := hall 7 (by decide)
  have t8 : l8 = true := hall 8 (by decide)
  subst t0 t1 t2 t3 t4 t5 t6 t7 t8
  clear hall hr
  have hx := h.wa rfl
  subst hx
  clear h
  refine hK5 _ _ ?_
  clear hK5
  go_wp2
  go_ret
  exact HE.out
structure InG (g k n c : Nat) (w W1 : World) (l0 l1 l2 l3 l4 l5 l6 l7 l8 : Bool) (u69 u70 u71 u72 u73 u74 u75 u76 u77 : Value) (x : World) : Prop where
 wb : l8 = false → x = w.drew
 wa : l8 = true → x = W1
 p69 : l0 = true → u69 = V (some ⟨g, 0, none⟩) (n + 1) c
 p70 : l1 = true → u70 = J Z (k : Int)
 p71 : l2 = true → u71 = J Z 1
 p72 : l3 = true → u72 = J Z ((k : Int) + 1)
 p73 : l4 = true → u73 = V (some ⟨g, (k + 1) * 2, none⟩) (n + 1 - (k + 1)) (c - (k + 1))
 p74 : l5 = true → u74 = V (some ⟨g, 0, none⟩) (n + 1) c
 p75 : l6 = true → u75 = J Z (k : Int)
 p76 : l7 = true → u76 = V (some ⟨g, k * 2, none⟩) (n + 1 - k) (c - k)
set_option maxHeartbeats 4000000 in
theorem insert_room (g c : Nat) (l : List Sn) (k : Nat) (x : Sn) (vb : Nat) (w : World) (hl : l.length ≤ 1048576) (hk : k < l.length) (hc : l.length + 1 ≤ c) (hne : vb ≠ g) (h : w.ownsRow 0 70 2 (V (some ⟨g, 0, none⟩) l.length c) l.length (l.flatMap snCells)) (hv : w.heap[vb]? = some (.cells #[J Z x.id, J Z x.code] 70 (0, 0))) :
  Calls Try.prog 61 #[V (some ⟨g, 0, none⟩) l.length c, J Z (k : Int), V (some ⟨vb, 0, none⟩) 1 1] w fun e w' => InsEnd (V (some ⟨g, 0, none⟩) l.length c) l k x w e w' := by
 obtain ⟨i0, hi0, hz0, hz1, hz2⟩ := info_parts infoSn
 have hu : Try.prog.underlying 24 = some (.slice 70) := by kernel_rfl
 obtain ⟨_, ⟨h0, _⟩ | ⟨g', c', cur, h1, _, hg, hnc, hcm, hcs, htk⟩⟩ := h
 ·cases h0
 simp only [Value.slice.injEq, Option.some.injEq, Addr.mk.injEq, and_true, true_and] at h1
 obtain ⟨rfl, rfl⟩ := h1
 obtain ⟨XS, hXS⟩ : ∃ XS, XS = l.flatMap snCells := ⟨_, rfl⟩
 rw [← hXS] at htk
 have hXl : XS.length = l.length * 2 := by rw [hXS]; exact flat_len snCells 2 snLen l
 have hcm2 := hcm
 unfold maxLen at hcm2
 have hss : (Try.prog.info? 70).map (·.size) = some 2 := by rw [hi0]; simp [hz1]
 have hov : ∀ lb cb, (callFunc 72 #[V (some ⟨vb, 0, none⟩) 1 1, V (some ⟨g, (k + 1) * 2, none⟩) lb cb]).run Try.prog w = .ok (.value (.bool false)) w := fun lb cb => by
  rw [run_callFunc_extern Try.func72 (by kernel_rfl) (by kernel_rfl) (by kernel_rfl) (e := Extern.SlicesOverlaps.overlaps #[24, 24] #[4]) (by kernel_rfl),
   Lib.run_overlaps_apart w 24 4 70 hu 2 (fun w => by simp [sizeOf, typeInfo, hi0, hz1]) ⟨vb, 0, none⟩ ⟨g, (k + 1) * 2, none⟩ 1 1 lb cb hne 70 70 2 (c * 2) (by simp [World.shape?, hv]) (by simp [World.shape?, hg, hcs]) (by omega) (by simp [World.frozen?, hv]) (by simp [World.frozen?, hv])]
  rfl
 have hgl : g < w.heap.size := (Array.getElem?_eq_some_iff.1 hg).1
 have hsrc : ∀ j u, (XS.drop (k * 2))[j]? = some u → w.drew.cell? ((⟨g, k * 2, none⟩ : Addr).add j) = some u := fun j u hj => by
  rw [addr_add]
  rw [List.getElem?_drop, ← htk, List.getElem?_take] at hj
  split at hj
  ·show w.cell? _ = _
   simp only [World.cell?, hg]
   simpa using hj
  ·cases hj
 have e1 := run_copy_rowK (P := Try.prog) w.drew 24 24 3 70 g ((k + 1) * 2) (l.length + 1 - (k + 1)) (c - (k + 1)) ⟨g, k * 2, none⟩ (l.length + 1 - k) (c - k) 2 cur 70 (XS.drop (k * 2)) hu hss hg (by rw [List.length_drop, hXl, show Nat.min (l.length + 1 - k) (l.length + 1 - (k + 1)) = l.length - k by simp only [Nat.min_def]; split <;> omega]; omega) hsrc (by simp [hcs, hXl]; omega) (fun u hu => sn_one l u (by rw [← hXS]; exact List.mem_of_mem_drop hu))
 rw [show Nat.min (l.length + 1 - k) (l.length + 1 - (k + 1)) = l.length - k by simp only [Nat.min_def]; split <;> omega] at e1
 obtain ⟨R1, hR1⟩ : ∃ R1 : List Value, R1 = cur.toList.take ((k + 1) * 2) ++ XS.drop (k * 2) ++ cur.toList.drop ((k + 1) * 2 + (XS.drop (k * 2)).length) := ⟨_, rfl⟩
 rw [← hR1] at e1
 have hR1s : R1.length = c * 2 := by
  rw [hR1]
  simp [hcs, hXl]
  omega
 have hR1t : R1.take (k * 2) = XS.take (k * 2) := by
  rw [hR1, List.append_assoc, List.take_append_of_le_length (by simp [hcs]; omega), List.take_take, ← htk, List.take_take]
  congr 1
  simp only [Nat.min_def]
  split <;> split <;> omega
 have hR1d : (R1.drop (k * 2 + 2)).take ((l.length - k) * 2) = XS.drop (k * 2) := by
  rw [hR1, List.append_assoc, List.drop_append, List.drop_of_length_le (by simp [hcs]; omega), List.nil_append]
  rw [show k * 2 + 2 - (cur.toList.take ((k + 1) * 2)).length = 0 by simp [hcs]; omega, List.drop_zero, List.take_append_of_le_length (by simp [hXl]; omega), List.take_of_length_le (by simp [hXl]; omega)]
 obtain ⟨W1, hW1⟩ : ∃ W1, W1 = w.drew.setRow g R1.toArray := ⟨_, rfl⟩
 rw [← hW1] at e1
 have k1 : W1.heap[g]? = some (.cells R1.toArray 70 (0, 0)) := by rw [hW1]; exact setRow_heap w.drew g _ _ _ _ hg
 have k2 : ∀ j, j ≠ g → W1.heap[j]? = w.heap[j]? := fun j hj => by rw [hW1]; exact setRow_other w.drew g j _ hj
 have e2 := run_copy_rowK (P := Try.prog) W1 24 24 3 70 g (k * 2) (l.length + 1 - k) (c - k) ⟨vb, 0, none⟩ 1 1 2 R1.toArray 70 (snCells x) hu hss k1 (by rw [show Nat.min 1 (l.length + 1 - k) = 1 by simp only [Nat.min_def]; split <;> omega]; rfl) (fun j u hj => by
  rw [addr_add, Nat.zero_add]
  simp only [World.cell?, k2 vb hne, hv]
  simpa [snCells] using hj) (by simp [hR1s, snCells]; omega) (fun u hu => sn_one [x] u (by simpa using hu))
 rw [show Nat.min 1 (l.length + 1 - k) = 1 by simp only [Nat.min_def]; split <;> omega] at e2
 obtain ⟨R2, hR2⟩ : ∃ R2 : List Value, R2 = R1.toArray.toList.take (k * 2) ++ snCells x ++ R1.toArray.toList.drop (k * 2 + (snCells x).length) := ⟨_, rfl⟩
 rw [← hR2] at e2
 have hR2s : R2.length = c * 2 := by
  rw [hR2]
  simp [hR1s, snCells]
  omega
 have hR2t : R2.take ((l.length + 1) * 2) = (insL l k x).flatMap snCells := by
  have f1 : (l.flatMap snCells).take (k * 2) = (l.take k).flatMap snCells := flat_take l k
  have f2 : (l.flatMap snCells).drop (k * 2) = (l.drop k).flatMap snCells := flat_drop l k
  have hsl : (snCells x).length = 2 := rfl
  have hal : (XS.take (k * 2) ++ snCells x).length = k * 2 + 2 := by simp [hXl, snCells]; omega
  rw [hR2, show R1.toArray.toList = R1 from rfl, hR1t, hsl, List.take_append, List.take_of_length_le (by rw [hal]; omega), hal, show (l.length + 1) * 2 - (k * 2 + 2) = (l.length - k) * 2 by omega, hR1d, hXS, f1, f2]
  simp [insL]
 obtain ⟨W2, hW2⟩ : ∃ W2, W2 = W1.setRow g R2.toArray := ⟨_, rfl⟩
 rw [← hW2] at e2
 have HE : Hid (InsEnd (V (some ⟨g, 0, none⟩) l.length c) l k x w (.returned (V (some ⟨g, 0, none⟩) (l.length + 1) c)) W2) := hide (by
  have m1 : W2.heap[g]? = some (.cells R2.toArray 70 (0, 0)) := by rw [hW2]; exact setRow_heap W1 g _ _ _ _ k1
  refine ⟨_, rfl, ⟨by rw [flat_len snCells 2 snLen, insL_len l k x (by omega)], .inr ⟨g, c, R2.toArray, rfl, Nat.zero_le _, m1, hc, hcm, by simpa using hR2s, hR2t⟩⟩, ?_, .inl rfl⟩
  have s3 : W2.heap.size = w.heap.size := by rw [hW2, hW1]; simp [World.setRow]
  refine ⟨?_, ?_, ?_, by rw [s3]; exact Nat.le_refl _, fun j hj hjg => ?_⟩
  ·rw [hW2, hW1]; rfl
  ·rw [hW2, hW1]; rfl
  ·rw [hW2, hW1]; rfl
  ·have hjn : j ≠ g := fun e => hjg (by rw [e]; rfl)
   rw [hW2]
   exact (setRow_other W1 g j _ hjn).trans (k2 j hjn))
 have HE1 : Hid _ := hide e1
 have HV : Hid _ := hide hv
 clear hR2 hR2s hR2t hW2 hR1 hR1s hR1t hR1d hW1 k1 k2 hXl hXS htk hsrc hg hcs hgl e1 hv
 have b1 : ¬ ((k : Int) = (l.length : Int)) := by omega
 have b2 : ¬ ((c : Int) < (l.length : Int) + 1) := by omega
 have b3 : ¬ (k = l.length) := by omega
 have b4 : ¬ (c = k) := by omega
 have b5 : (k : Int) ≤ (l.length : Int) := by omega
 have b6 : ¬ (c = k + 1) := by omega
 have b8 : (k : Int) ≤ (l.length : Int) + 1 := by omega
 have b9 : (k : Int) + 1 ≤ (l.length : Int) + 1 := by omega
 have b10 : ¬ ((k : Int) + 1 < 0) := by omega
 have b11 : (l.length : Int) + 1 ≤ (c : Int) := by omega
 have b12 : ¬ ((l.length : Int) + 1 < 0) := by omega
 have w1_ : IntKind.i64.wrap ((k : Int) + 1) = (k : Int) + 1 := wrap_in (by omega) (by omega)
 have w2_ : IntKind.i64.wrap ((l.length : Int) + 1) = (l.length : Int) + 1 := wrap_in (by omega) (by omega)
 go_enter Try.func61, Try.ntmps61
 go_wp2_with (simp only [hov])
 rename_i K5 hK5
 refine wp_region_inv (by kernel_rfl) (fun L act x => ∃ l0 l1 l2 l3 l4 l5 l6 l7 l8 : Bool, ∃ u69 u70 u71 u72 u73 u74 u75 u76 u77 : Value, L = #[l0, l1, l2, l3, l4, l5, l6, l7, l8] ∧ act = { tmps := #[V (some { block := g, off := 0 }) (l.length + 1) c, J Z ↑k, V (some { block := vb, off := 0 }) 1 1, U, U, U, V none 0 0, J Z 1, J Z ↑l.length, U, V (some { block := g, off := 0 }) l.length c, J Z ↑k, V (some { block := g, off := k * 2 }) (l.length - k) (c - k), V (some { block := vb, off := 0 }) 1 1, J Z 1, J Z 1, Value.bool false, U, V (some { block := g, off := 0 }) l.length c, J Z ↑l.length, J Z ↑k, J Z ↑l.length, Value.bool false, U, U, U, J Z ↑l.length, J Z 1, J Z (↑l.length + 1), V (some { block := g, off := 0 }) l.length c, J Z ↑c, Value.bool false, U, U, U, U, U, U, U, U, U, U, U, U, U, U, U, U, U, U, U, U, U, U, U, U, V (some { block := g, off := 0 }) l.length c, J Z ↑l.length, J Z 1, J Z (↑l.length + 1), V (some { block := g, off := 0 }) (l.length + 1) c, V (some { block := vb, off := 0 }) 1 1, V (some { block := g, off := 0 }) (l.length + 1) c, J Z ↑k, J Z 1, J Z (↑k + 1), V (some { block := g, off := (k + 1) * 2 }) (l.length - k) (c - (k + 1)), Value.bool false, Value.bool true, u69, u70, u71, u72, u73, u74, u75, u76, u77, U, U, U, U, U, U, U, U, U, U, U, U, U, U, U, U, U], defers := [] } ∧ InG g k l.length c w W1 l0 l1 l2 l3 l4 l5 l6 l7 l8 u69 u70 u71 u72 u73 u74 u75 u76 u77 x) ?_ ?_ ?_
 rotate_left 2
 ·exact ⟨false, false, false, false, false, false, false, false, false, U, U, U, U, U, U, U, U, U, rfl, rfl, ⟨fun _ => rfl, nofun, nofun, nofun, nofun, nofun, nofun, nofun, nofun, nofun⟩⟩
 ·rintro L act x i ⟨l0, l1, l2, l3, l4, l5, l6, l7, l8, u69, u70, u71, u72, u73, u74, u75, u76, u77, rfl, rfl, h⟩ hi K hK
  have hi15 : i < 9 := by
   obtain ⟨_, o, ho, _⟩ := mem_ready.1 hi
   exact (Array.getElem?_eq_some_iff.1 ho).1
  have hl := (mem_ready.1 hi).1
  obtain rfl | rfl | rfl | rfl | rfl | rfl | rfl | rfl | rfl := (by omega : i = 0 ∨ i = 1 ∨ i = 2 ∨ i = 3 ∨ i = 4 ∨ i = 5 ∨ i = 6 ∨ i = 7 ∨ i = 8)
  ·have e : l0 = false := hl
   subst e
   refine wpOp_run (v := V (some ⟨g, 0, none⟩) (l.length + 1) c) (w' := x) (by rfl) (by rfl) ?_ (hK _ _ ⟨true, l1, l2, l3, l4, l5, l6, l7, l8, (V (some ⟨g, 0, none⟩) (l.length + 1) c), u70, u71, u72, u73, u74, u75, u76, u77, rfl, rfl, { h with p69 := fun _ => rfl }⟩)
   go_simp
  ·have e : l1 = false := hl
   subst e
   refine wpOp_run (v := J Z (k : Int)) (w' := x) (by rfl) (by rfl) ?_ (hK _ _ ⟨l0, true, l2, l3, l4, l5, l6, l7, l8, u69, (J Z (k : Int)), u71, u72, u73, u74, u75, u76, u77, rfl, rfl, { h with p70 := fun _ => rfl }⟩)
   go_simp
  ·have e : l2 = false := hl
   subst e
   refine wpOp_run (v := J Z 1) (w' := x) (by rfl) (by rfl) ?_ (hK _ _ ⟨l0, l1, true, l3, l4, l5, l6, l7, l8, u69, u70, (J Z 1), u72, u73, u74, u75, u76, u77, rfl, rfl, { h with p71 := fun _ => rfl }⟩)
   go_simp
  ·have e : l3 = false := hl
   subst e
   have d1 : l1 = true := ready_on hi 1 (by kernel_rfl)
   subst d1
   have d2 : l2 = true := ready_on hi 2 (by kernel_rfl)
   subst d2
   refine wpOp_run (v := J Z ((k : Int) + 1)) (w' := x) (by rfl) (by rfl) ?_ (hK _ _ ⟨l0, true, true, true, l4, l5, l6, l7, l8, u69, u70, u71, (J Z ((k : Int) + 1)), u73, u74, u75, u76, u77, rfl, rfl, { h with p72 := fun _ => rfl }⟩)
   rw [h.p70 rfl, h.p71 rfl]
   go_simp
  ·have e : l4 = false := hl
   subst e
   have d0 : l0 = true := ready_on hi 0 (by kernel_rfl)
   subst d0
   have d3 : l3 = true := ready_on hi 3 (by kernel_rfl)
   subst d3
   refine wpOp_run (v := V (some ⟨g, (k + 1) * 2, none⟩) (l.length + 1 - (k + 1)) (c - (k + 1))) (w' := x) (by rfl) (by rfl) ?_ (hK _ _ ⟨true, l1, l2, true, true, l5, l6, l7, l8, u69, u70, u71, u72, (V (some ⟨g, (k + 1) * 2, none⟩) (l.length + 1 - (k + 1)) (c - (k + 1))), u74, u75, u76, u77, rfl, rfl, { h with p73 := fun _ => rfl }⟩)
   rw [h.p69 rfl, h.p72 rfl]
   go_simp
  ·have e : l5 = false := hl
   subst e
   refine wpOp_run (v := V (some ⟨g, 0, none⟩) (l.length + 1) c) (w' := x) (by rfl) (by rfl) ?_ (hK _ _ ⟨l0, l1, l2, l3, l4, true, l6, l7, l8, u69, u70, u71, u72, u73, (V (some ⟨g, 0, none⟩) (l.length + 1) c), u75, u76, u77, rfl, rfl, { h with p74 := fun _ => rfl }⟩)
   go_simp
  ·have e : l6 = false := hl
   subst e
   refine wpOp_run (v := J Z (k : Int)) (w' := x) (by rfl) (by rfl) ?_ (hK _ _ ⟨l0, l1, l2, l3, l4, l5, true, l7, l8, u69, u70, u71, u72, u73, u74, (J Z (k : Int)), u76, u77, rfl, rfl, { h with p75 := fun _ => rfl }⟩)
   go_simp
  ·have e : l7 = false := hl
   subst e
   have d5 : l5 = true := ready_on hi 5 (by kernel_rfl)
   subst d5
   have d6 : l6 = true := ready_on hi 6 (by kernel_rfl)
   subst d6
   refine wpOp_run (v := V (some ⟨g, k * 2, none⟩) (l.length + 1 - k) (c - k)) (w' := x) (by rfl) (by rfl) ?_ (hK _ _ ⟨l0, l1, l2, l3, l4, true, true, true, l8, u69, u70, u71, u72, u73, u74, u75, (V (some ⟨g, k * 2, none⟩) (l.length + 1 - k) (c - k)), u77, rfl, rfl, { h with p76 := fun _ => rfl }⟩)
   rw [h.p74 rfl, h.p75 rfl]
   go_simp
  ·have e : l8 = false := hl
   subst e
   have d4 : l4 = true := ready_on hi 4 (by kernel_rfl)
   subst d4
   have d7 : l7 = true := ready_on hi 7 (by kernel_rfl)
   subst d7
   have hx := h.wb rfl
   subst hx
   refine wpOp_run (v := goInt ((l.length - k : Nat) : Int)) (w' := W1) (by rfl) (by rfl) ?_ (hK _ _ ⟨l0, l1, l2, l3, true, l5, l6, true, true, u69, u70, u71, u72, u73, u74, u75, u76, (goInt ((l.length - k : Nat) : Int)), rfl, rfl, { h with wb := nofun, wa := fun _ => rfl }⟩)
   exact exec_copy rfl (h.p73 rfl) (h.p76 rfl) HE1.out
 ·rintro L act x ⟨l0, l1, l2, l3, l4, l5, l6, l7, l8, u69, u70, u71, u72, u73, u74, u75, u76, u77, rfl, rfl, h⟩ hr
  have hall := ready_all hr rfl (by decide)
  have t0 : l0 = true := hall 0 (by decide)
  have t1 : l1 = true := hall 1 (by decide)
  have t2 : l2 = true := hall 2 (by decide)
  have t3 : l3 = true := hall 3 (by decide)
  have t4 : l4 = true := hall 4 (by decide)
  have t5 : l5 = true := hall 5 (by decide)
  have t6 : l6 = true := hall 6 (by decide)
  have t7 : l7 = true := hall 7 (by decide)
  have t8 : l8 = true := hall 8 (by decide)
  subst t0 t1 t2 t3 t4 t5 t6 t7 t8
  clear hall hr
  have hx := h.wa rfl
  subst hx
  clear h
  refine hK5 _ _ ?_
  clear hK5
  go_wp2
  go_ret
  exact HE.out
/-- one more, at its place, whatever room there is -/
theorem insert_any (v : Value) (l : List Sn) (k : Nat) (x : Sn) (vb : Nat) (w : World) (hl : l.length ≤ 1048576) (hk : k ≤ l.length) (h : w.ownsRow 0 70 2 v l.length (l.flatMap snCells)) (hne : v.ownBlock ≠ some vb) (hv : w.heap[vb]? = some (.cells #[J Z x.id, J Z x.code] 70 (0, 0))) :
  Calls Try.prog 61 #[v, J Z (k : Int), V (some ⟨vb, 0, none⟩) 1 1] w fun e w' => InsEnd v l k x w e w' := by
 rcases Nat.lt_or_ge k l.length with q | q
 ·obtain ⟨_, ⟨_, h1⟩ | ⟨g, c, cur, rfl, _, hg, hnc, _⟩⟩ := id h
  ·omega
  ·rcases Nat.lt_or_ge l.length c with q2 | q2
   ·exact insert_room g c l k x vb w hl q q2 (fun e => hne (by rw [e]; rfl)) h hv
   ·obtain rfl : c = l.length := by omega
    exact insert_new g l k x vb w hl q h hv
 ·obtain rfl : k = l.length := by omega
  exact insert_end v l x vb w hl h hv
end Go.Proofs.Ytkcpoibhlnjldaa
