/- The contract of slices.Insert over holds: one more, at its place. -/
import Derived.Test.YtjjoeajnhblacaaGreatDoorBkD
import Derived.Lib.Overlaps
import Derived.Lib.AppendZerosOnto
import Derived.Laws.Externs
import Derived.Laws.CopyRow
import Derived.Laws.NewBlocks
namespace Go.Proofs.YtjjoeajnhblacaaGreatDoor
open Go.ChangeShapes Go.WideShapes Go.ChangeAt Go.RowKit
set_option linter.unusedVariables false
set_option maxRecDepth 100000
/-- copy of rows whose elements have some cells -/
theorem run_copy_rowK {P : Program} (w : World) (dT sT ty elem : TypeId) (g o dLen dCap : Nat) (a : Addr) (sLen sCap size : Nat) (cur : Array Value) (t : TypeId) (cs : List Value)
    (hu : P.underlying dT = some (.slice elem)) (hs : (P.info? elem).map (·.size) = some size)
    (hg : w.heap[g]? = some (.cells cur t (0, 0))) (hn : cs.length = Nat.min sLen dLen * size)
    (hsrc : ∀ j v, cs[j]? = some v → w.cell? (a.add j) = some v) (hfit : o + cs.length ≤ cur.size) (h1 : ∀ v ∈ cs, v.oneCell' = true) :
    (Builtin.copy_ #[dT, sT] ty #[.slice (some ⟨g, o, none⟩) dLen dCap, .slice (some a) sLen sCap]).run P w =
      .ok (goInt (Nat.min sLen dLen)) (w.setRow g (cur.toList.take o ++ cs ++ cur.toList.drop (o + cs.length)).toArray) := by
  have hl := run_loadCells_list (P := P) w a cs hsrc
  have hst := run_storeCells_at P g o t cs 0 cur w hg (by simpa using hfit) h1
  cases hq : P.info? elem with
  | none => simp [hq] at hs
  | some i =>
    have hi : i.size = size := by simpa [hq] using hs
    simp [Builtin.copy_, run_underlying hu, Builtin.lenOf, Builtin.firstCells, sizeOf, typeInfo, hq, hi, ← hn, hl, hst]
theorem wp_copy_runI {P : Program} (w : World) {o : Oper} {a : Act} {K : Act → World → Prop} {Q : Exit → Act → World → Prop} (d s : Operand) (t t' : TypeId)
    (ho : o.op = .call { callee := .builtin .copy, args := #[d, s], argTypes := #[t, t'] }) (v u : Value) (hd : a.eval d = v) (hs : a.eval s = u) {v' : Value} {w' : World}
    (hr : (Builtin.copy_ #[t, t'] o.type #[v, u]).run P w = .ok v' w') (h : K (a.put o.dst v') w') : o.wp P a w K Q := by
  unfold Oper.wp execOp
  simp only [ho, resolve, invoke, builtin, Sem.run_bind, Sem.run_pure, Result.andThen_ok, List.map_toArray, List.map_cons, List.map_nil, hd, hs, hr]
  exact h
theorem exec_copy {P : Program} {w w' : World} {o : Oper} {ev : Operand → Value} {d s : Operand} {t t' : TypeId} {v u v' : Value} (hop : o.op = Op.call { callee := Callee.builtin Builtin.copy, args := #[d, s], argTypes := #[t, t'] }) (hd : ev d = v) (hs : ev s = u) (hr : (Builtin.copy_ #[t, t'] o.type #[v, u]).run P w = .ok v' w') : (execOp ev o).run P w = .ok (.value v') w' := by
  unfold execOp
  simp only [hop, resolve, invoke, builtin, Sem.run_bind, Sem.run_pure, Result.andThen_ok, List.map_toArray, List.map_cons, List.map_nil, hd, hs, hr]
theorem wpList_copy_runI {P : Program} (w : World) {ops : Array Oper} {rest : List Oper} {o : Oper} {a : Act} {Q : Exit → Act → World → Prop} (hgd : o.guard = none) (d s : Operand) (t t' : TypeId)
    (ho : o.op = .call { callee := .builtin .copy, args := #[d, s], argTypes := #[t, t'] }) (v u : Value) (hd : a.eval d = v) (hs : a.eval s = u) {v' : Value} {w' : World}
    (hr : (Builtin.copy_ #[t, t'] o.type #[v, u]).run P w = .ok v' w') (h : wpList P ops Q rest (a.put o.dst v') w') : wpList P ops Q (o :: rest) a w :=
  wpList_plain hgd fun _ hK => wp_copy_runI w d s t t' ho v u hd hs hr (hK _ _ h)
def insHL (l : List Hld) (k : Nat) (x : Hld) : List Hld := l.take k ++ x :: l.drop k
theorem insHL_len (l : List Hld) (k : Nat) (x : Hld) (hk : k ≤ l.length) : (insHL l k x).length = l.length + 1 := by simp [insHL]; omega
/-- a row of the call's own with one more -/
def InhEnd (v : Value) (l : List Hld) (k : Nat) (x : Hld) (w : World) (e : Ending) (w' : World) : Prop := ∃ v', e = .returned v' ∧ w'.ownsRow 0 71 4 v' (l.length + 1) ((insHL l k x).flatMap hldCells) ∧ w.grownBy w' v.ownBlock ∧ (v'.ownBlock = v.ownBlock ∨ v'.ownBlock = some w.heap.size)
set_option maxHeartbeats 4000000 in
theorem insertH_end (v : Value) (l : List Hld) (x : Hld) (vb : Nat) (w : World) (hl : l.length ≤ 1048576) (h : w.ownsRow 0 71 4 v l.length (l.flatMap hldCells)) (hv : w.heap[vb]? = some (.cells #[.int .i64 x.id, .string x.fr, .string x.to, .int .i64 x.amount] 71 (0, 0))) :
    Calls Tryz.prog 97 #[v, .int .i64 (l.length : Int), .slice (some ⟨vb, 0, none⟩) 1 1] w fun e w' => InhEnd v l l.length x w e w' := by
  obtain ⟨i0, hi0, hz0, hz1, hz2⟩ := info_parts infoHld
  have hu : Tryz.prog.underlying 25 = some (.slice 71) := by kernel_rfl
  obtain ⟨sa, sc, rfl⟩ := row_shape h
  have HO : Hid _ := hide h
  have hn : ∀ ad, (some ⟨vb, 0, none⟩ : Option Addr) = some ad → ∀ j u, (hldCells x)[j]? = some u → w.cell? (ad.add j) = some u := fun ad had j u hj => by
    simp only [Option.some.injEq] at had
    subst had
    rw [addr_add, Nat.zero_add]
    simp only [World.cell?, hv]
    simpa [hldCells] using hj
  have HN : Hid _ := hide hn
  clear h hv hn
  by_cases hc : sc = l.length
  · subst hc
    go_enter Tryz.func97, Tryz.ntmps97
    go_wp2_with (first | (at_builtin; refine Shut2.mk ?_) | fail)
    refine Shut2.mk' ?_
    refine wpList_append_any rfl _ _ 25 rfl 0 71 i0 _ 4 48 hu hi0 hz0 hz1 hz2 rfl (by decide) _ l.length _ rfl HO.out (some ⟨vb, 0, none⟩) 1 1 (hldCells x) rfl rfl (fun e => by cases e) HN.out (fun u hu => hld_one [x] u (by simpa using hu)) (by unfold maxLen; omega) (by omega) (Nat.zero_le _) ?_
    intro v' w' ho' hg' hl'
    obtain ⟨sa', sc', rfl⟩ := row_shape ho'
    have HE : Hid (InhEnd (.slice sa l.length l.length) l l.length x w (.returned (.slice sa' (l.length + 1) sc')) w') := hide ⟨_, rfl, by
      have e : insHL l l.length x = l ++ [x] := by simp [insHL]
      rw [e, List.flatMap_append]
      simpa using ho', hg', hl'⟩
    clear ho' hg' hl'
    go_wp2
    go_ret
    exact HE.out
  · have hc2 : ¬ (l.length = sc) := fun e => hc e.symm
    go_enter Tryz.func97, Tryz.ntmps97
    go_wp2_with (first | (at_builtin; refine Shut2.mk ?_) | fail)
    refine Shut2.mk' ?_
    refine wpList_append_any rfl _ _ 25 rfl 0 71 i0 _ 4 48 hu hi0 hz0 hz1 hz2 rfl (by decide) _ l.length _ rfl HO.out (some ⟨vb, 0, none⟩) 1 1 (hldCells x) rfl rfl (fun e => by cases e) HN.out (fun u hu => hld_one [x] u (by simpa using hu)) (by unfold maxLen; omega) (by omega) (Nat.zero_le _) ?_
    intro v' w' ho' hg' hl'
    obtain ⟨sa', sc', rfl⟩ := row_shape ho'
    have HE : Hid (InhEnd (.slice sa l.length sc) l l.length x w (.returned (.slice sa' (l.length + 1) sc')) w') := hide ⟨_, rfl, by
      have e : insHL l l.length x = l ++ [x] := by simp [insHL]
      rw [e, List.flatMap_append]
      simpa using ho', hg', hl'⟩
    clear ho' hg' hl'
    go_wp2
    go_ret
    exact HE.out
structure InhG (g k n c : Nat) (w W1 : World) (l0 l1 l2 l3 l4 l5 l6 l7 l8 : Bool) (u69 u70 u71 u72 u73 u74 u75 u76 u77 : Value) (x : World) : Prop where
  wb : l8 = false → x = w.drew
  wa : l8 = true → x = W1
  p69 : l0 = true → u69 = .slice (some ⟨g, 0, none⟩) (n + 1) c
  p70 : l1 = true → u70 = .int .i64 (k : Int)
  p71 : l2 = true → u71 = .int .i64 1
  p72 : l3 = true → u72 = .int .i64 ((k : Int) + 1)
  p73 : l4 = true → u73 = .slice (some ⟨g, (k + 1) * 4, none⟩) (n + 1 - (k + 1)) (c - (k + 1))
  p74 : l5 = true → u74 = .slice (some ⟨g, 0, none⟩) (n + 1) c
  p75 : l6 = true → u75 = .int .i64 (k : Int)
  p76 : l7 = true → u76 = .slice (some ⟨g, k * 4, none⟩) (n + 1 - k) (c - k)
set_option maxHeartbeats 4000000 in
theorem insertH_room (g c : Nat) (l : List Hld) (k : Nat) (x : Hld) (vb : Nat) (w : World) (hl : l.length ≤ 1048576) (hk : k < l.length) (hc : l.length + 1 ≤ c) (hne : vb ≠ g) (h : w.ownsRow 0 71 4 (.slice (some ⟨g, 0, none⟩) l.length c) l.length (l.flatMap hldCells)) (hv : w.heap[vb]? = some (.cells #[.int .i64 x.id, .string x.fr, .string x.to, .int .i64 x.amount] 71 (0, 0))) :
    Calls Tryz.prog 97 #[.slice (some ⟨g, 0, none⟩) l.length c, .int .i64 (k : Int), .slice (some ⟨vb, 0, none⟩) 1 1] w fun e w' => InhEnd (.slice (some ⟨g, 0, none⟩) l.length c) l k x w e w' := by
  obtain ⟨i0, hi0, hz0, hz1, hz2⟩ := info_parts infoHld
  have hu : Tryz.prog.underlying 25 = some (.slice 71) := by kernel_rfl
  obtain ⟨_, ⟨h0, _⟩ | ⟨g', c', cur, h1, _, hg, hnc, hcm, hcs, htk⟩⟩ := h
  · cases h0
  simp only [Value.slice.injEq, Option.some.injEq, Addr.mk.injEq, and_true, true_and] at h1
  obtain ⟨rfl, rfl⟩ := h1
  obtain ⟨XS, hXS⟩ : ∃ XS, XS = l.flatMap hldCells := ⟨_, rfl⟩
  rw [← hXS] at htk
  have hXl : XS.length = l.length * 4 := by rw [hXS]; exact flat_len hldCells 4 hldLen l
  have hcm2 := hcm
  unfold maxLen at hcm2
  have hss : (Tryz.prog.info? 71).map (·.size) = some 4 := by rw [hi0]; simp [hz1]
  have hov : ∀ lb cb, (callFunc 113 #[.slice (some ⟨vb, 0, none⟩) 1 1, .slice (some ⟨g, (k + 1) * 4, none⟩) lb cb]).run Tryz.prog w = .ok (.value (.bool false)) w := fun lb cb => by
    rw [run_callFunc_extern Tryz.func113 (by kernel_rfl) (by kernel_rfl) (by kernel_rfl) (e := Extern.SlicesOverlaps.overlaps #[25, 25] #[4]) (by kernel_rfl),
      Lib.run_overlaps_apart w 25 4 71 hu 4 (fun w => by simp [sizeOf, typeInfo, hi0, hz1]) ⟨vb, 0, none⟩ ⟨g, (k + 1) * 4, none⟩ 1 1 lb cb hne 71 71 4 (c * 4) (by simp [World.shape?, hv]) (by simp [World.shape?, hg, hcs]) (by omega) (by simp [World.frozen?, hv]) (by simp [World.frozen?, hv])]
    rfl
  have hgl : g < w.heap.size := (Array.getElem?_eq_some_iff.1 hg).1
  have hsrc : ∀ j u, (XS.drop (k * 4))[j]? = some u → w.drew.cell? ((⟨g, k * 4, none⟩ : Addr).add j) = some u := fun j u hj => by
    rw [addr_add]
    rw [List.getElem?_drop, ← htk, List.getElem?_take] at hj
    split at hj
    · show w.cell? _ = _
      simp only [World.cell?, hg]
      simpa using hj
    · cases hj
  have e1 := run_copy_rowK (P := Tryz.prog) w.drew 25 25 3 71 g ((k + 1) * 4) (l.length + 1 - (k + 1)) (c - (k + 1)) ⟨g, k * 4, none⟩ (l.length + 1 - k) (c - k) 4 cur 71 (XS.drop (k * 4)) hu hss hg (by rw [List.length_drop, hXl, show Nat.min (l.length + 1 - k) (l.length + 1 - (k + 1)) = l.length - k by simp only [Nat.min_def]; split <;> omega]; omega) hsrc (by simp [hcs, hXl]; omega) (fun u hu => hld_one l u (by rw [← hXS]; exact List.mem_of_mem_drop hu))
  rw [show Nat.min (l.length + 1 - k) (l.length + 1 - (k + 1)) = l.length - k by simp only [Nat.min_def]; split <;> omega] at e1
  obtain ⟨R1, hR1⟩ : ∃ R1 : List Value, R1 = cur.toList.take ((k + 1) * 4) ++ XS.drop (k * 4) ++ cur.toList.drop ((k + 1) * 4 + (XS.drop (k * 4)).length) := ⟨_, rfl⟩
  rw [← hR1] at e1
  have hR1s : R1.length = c * 4 := by
    rw [hR1]
    simp [hcs, hXl]
    omega
  have hR1t : R1.take (k * 4) = XS.take (k * 4) := by
    rw [hR1, List.append_assoc, List.take_append_of_le_length (by simp [hcs]; omega), List.take_take, ← htk, List.take_take]
    congr 1
    simp only [Nat.min_def]
    split <;> split <;> omega
  have hR1d : (R1.drop (k * 4 + 4)).take ((l.length - k) * 4) = XS.drop (k * 4) := by
    rw [hR1, List.append_assoc, List.drop_append, List.drop_of_length_le (by simp [hcs]; omega), List.nil_append]
    rw [show k * 4 + 4 - (cur.toList.take ((k + 1) * 4)).length = 0 by simp [hcs]; omega, List.drop_zero, List.take_append_of_le_length (by simp [hXl]; omega), List.take_of_length_le (by simp [hXl]; omega)]
  obtain ⟨W1, hW1⟩ : ∃ W1, W1 = w.drew.setRow g R1.toArray := ⟨_, rfl⟩
  rw [← hW1] at e1
  have k1 : W1.heap[g]? = some (.cells R1.toArray 71 (0, 0)) := by rw [hW1]; exact setRow_heap w.drew g _ _ _ _ hg
  have k2 : ∀ j, j ≠ g → W1.heap[j]? = w.heap[j]? := fun j hj => by rw [hW1]; exact setRow_other w.drew g j _ hj
  have e2 := run_copy_rowK (P := Tryz.prog) W1 25 25 3 71 g (k * 4) (l.length + 1 - k) (c - k) ⟨vb, 0, none⟩ 1 1 4 R1.toArray 71 (hldCells x) hu hss k1 (by rw [show Nat.min 1 (l.length + 1 - k) = 1 by simp only [Nat.min_def]; split <;> omega]; rfl) (fun j u hj => by
    rw [addr_add, Nat.zero_add]
    simp only [World.cell?, k2 vb hne, hv]
    simpa [hldCells] using hj) (by simp [hR1s, hldCells]; omega) (fun u hu => hld_one [x] u (by simpa using hu))
  rw [show Nat.min 1 (l.length + 1 - k) = 1 by simp only [Nat.min_def]; split <;> omega] at e2
  obtain ⟨R2, hR2⟩ : ∃ R2 : List Value, R2 = R1.toArray.toList.take (k * 4) ++ hldCells x ++ R1.toArray.toList.drop (k * 4 + (hldCells x).length) := ⟨_, rfl⟩
  rw [← hR2] at e2
  have hR2s : R2.length = c * 4 := by
    rw [hR2]
    simp [hR1s, hldCells]
    omega
  have hR2t : R2.take ((l.length + 1) * 4) = (insHL l k x).flatMap hldCells := by
    have f1 : (l.flatMap hldCells).take (k * 4) = (l.take k).flatMap hldCells := flat_takeK hldCells 4 hldLen l k
    have f2 : (l.flatMap hldCells).drop (k * 4) = (l.drop k).flatMap hldCells := flat_dropK hldCells 4 hldLen l k
    have hsl : (hldCells x).length = 4 := rfl
    have hal : (XS.take (k * 4) ++ hldCells x).length = k * 4 + 4 := by simp [hXl, hldCells]; omega
    rw [hR2, show R1.toArray.toList = R1 from rfl, hR1t, hsl, List.take_append, List.take_of_length_le (by rw [hal]; omega), hal, show (l.length + 1) * 4 - (k * 4 + 4) = (l.length - k) * 4 by omega, hR1d, hXS, f1, f2]
    simp [insHL]
  obtain ⟨W2, hW2⟩ : ∃ W2, W2 = W1.setRow g R2.toArray := ⟨_, rfl⟩
  rw [← hW2] at e2
  have HE : Hid (InhEnd (.slice (some ⟨g, 0, none⟩) l.length c) l k x w (.returned (.slice (some ⟨g, 0, none⟩) (l.length + 1) c)) W2) := hide (by
    have m1 : W2.heap[g]? = some (.cells R2.toArray 71 (0, 0)) := by rw [hW2]; exact setRow_heap W1 g _ _ _ _ k1
    refine ⟨_, rfl, ⟨by rw [flat_len hldCells 4 hldLen, insHL_len l k x (by omega)], .inr ⟨g, c, R2.toArray, rfl, Nat.zero_le _, m1, hc, hcm, by simpa using hR2s, hR2t⟩⟩, ?_, .inl rfl⟩
    have s3 : W2.heap.size = w.heap.size := by rw [hW2, hW1]; simp [World.setRow]
    refine ⟨?_, ?_, ?_, by rw [s3]; exact Nat.le_refl _, fun j hj hjg => ?_⟩
    · rw [hW2, hW1]; rfl
    · rw [hW2, hW1]; rfl
    · rw [hW2, hW1]; rfl
    · have hjn : j ≠ g := fun e => hjg (by rw [e]; rfl)
      rw [hW2]
      exact (setRow_other W1 g j _ hjn).trans (k2 j hjn))
  have HE1 : Hid _ := hide e1
  have HV : Hid _ := hide hv
  clear hR2 hR2s hR2t hW2 hR1 hR1s hR1t hR1d hW1 k1 k2 hXl hXS htk hsrc hg hcs hgl e1 hv
  have b1 : ¬ ((k : Int) = (l.length : Int)) := by omega
  have b2 : ¬ ((c : Int) < (l.length : Int) + 1) := by omega
  have b3 : ¬ (k = l.length) := by omega
  have b4 : ¬ (c = k) := by omega
  have b5 : (k : Int) ≤ (l.length : Int) := by omega
  have b6 : ¬ (c = k + 1) := by omega
  have b8 : (k : Int) ≤ (l.length : Int) + 1 := by omega
  have b9 : (k : Int) + 1 ≤ (l.length : Int) + 1 := by omega
  have b10 : ¬ ((k : Int) + 1 < 0) := by omega
  have b11 : (l.length : Int) + 1 ≤ (c : Int) := by omega
  have b12 : ¬ ((l.length : Int) + 1 < 0) := by omega
  have w1_ : IntKind.i64.wrap ((k : Int) + 1) = (k : Int) + 1 := wrap64_id (by omega)
  have w2_ : IntKind.i64.wrap ((l.length : Int) + 1) = (l.length : Int) + 1 := wrap64_id (by omega)
  go_enter Tryz.func97, Tryz.ntmps97
  go_wp2_with (simp only [hov])
  rename_i K5 hK5
  refine wp_region_inv (by kernel_rfl) (fun L act x => ∃ l0 l1 l2 l3 l4 l5 l6 l7 l8 : Bool, ∃ u69 u70 u71 u72 u73 u74 u75 u76 u77 : Value, L = #[l0, l1, l2, l3, l4, l5, l6, l7, l8] ∧ act = { tmps := #[Value.slice (some { block := g, off := 0 }) (l.length + 1) c, Value.int IntKind.i64 ↑k, Value.slice (some { block := vb, off := 0 }) 1 1, undef, undef, undef, Value.slice none 0 0, Value.int IntKind.i64 1, Value.int IntKind.i64 ↑l.length, undef, Value.slice (some { block := g, off := 0 }) l.length c, Value.int IntKind.i64 ↑k, Value.slice (some { block := g, off := k * 4 }) (l.length - k) (c - k), Value.slice (some { block := vb, off := 0 }) 1 1, Value.int IntKind.i64 1, Value.int IntKind.i64 1, Value.bool false, undef, Value.slice (some { block := g, off := 0 }) l.length c, Value.int IntKind.i64 ↑l.length, Value.int IntKind.i64 ↑k, Value.int IntKind.i64 ↑l.length, Value.bool false, undef, undef, undef, Value.int IntKind.i64 ↑l.length, Value.int IntKind.i64 1, Value.int IntKind.i64 (↑l.length + 1), Value.slice (some { block := g, off := 0 }) l.length c, Value.int IntKind.i64 ↑c, Value.bool false, undef, undef, undef, undef, undef, undef, undef, undef, undef, undef, undef, undef, undef, undef, undef, undef, undef, undef, undef, undef, undef, undef, undef, undef, Value.slice (some { block := g, off := 0 }) l.length c, Value.int IntKind.i64 ↑l.length, Value.int IntKind.i64 1, Value.int IntKind.i64 (↑l.length + 1), Value.slice (some { block := g, off := 0 }) (l.length + 1) c, Value.slice (some { block := vb, off := 0 }) 1 1, Value.slice (some { block := g, off := 0 }) (l.length + 1) c, Value.int IntKind.i64 ↑k, Value.int IntKind.i64 1, Value.int IntKind.i64 (↑k + 1), Value.slice (some { block := g, off := (k + 1) * 4 }) (l.length - k) (c - (k + 1)), Value.bool false, Value.bool true, u69, u70, u71, u72, u73, u74, u75, u76, u77, undef, undef, undef, undef, undef, undef, undef, undef, undef, undef, undef, undef, undef, undef, undef, undef, undef], defers := [] } ∧ InhG g k l.length c w W1 l0 l1 l2 l3 l4 l5 l6 l7 l8 u69 u70 u71 u72 u73 u74 u75 u76 u77 x) ?_ ?_ ?_
  rotate_left 2
  · exact ⟨false, false, false, false, false, false, false, false, false, (undef), (undef), (undef), (undef), (undef), (undef), (undef), (undef), (undef), rfl, rfl, ⟨fun _ => rfl, fun q => (by cases q), fun q => (by cases q), fun q => (by cases q), fun q => (by cases q), fun q => (by cases q), fun q => (by cases q), fun q => (by cases q), fun q => (by cases q), fun q => (by cases q)⟩⟩
  · rintro L act x i ⟨l0, l1, l2, l3, l4, l5, l6, l7, l8, u69, u70, u71, u72, u73, u74, u75, u76, u77, rfl, rfl, h⟩ hi K hK
    have hi15 : i < 9 := by
      obtain ⟨_, o, ho, _⟩ := mem_ready.1 hi
      exact (Array.getElem?_eq_some_iff.1 ho).1
    have hl := (mem_ready.1 hi).1
    obtain rfl | rfl | rfl | rfl | rfl | rfl | rfl | rfl | rfl := (by omega : i = 0 ∨ i = 1 ∨ i = 2 ∨ i = 3 ∨ i = 4 ∨ i = 5 ∨ i = 6 ∨ i = 7 ∨ i = 8)
    · have e : l0 = false := hl
      subst e
      refine wpOp_run (v := .slice (some ⟨g, 0, none⟩) (l.length + 1) c) (w' := x) (by rfl) (by rfl) ?_ (hK _ _ ⟨true, l1, l2, l3, l4, l5, l6, l7, l8, (.slice (some ⟨g, 0, none⟩) (l.length + 1) c), u70, u71, u72, u73, u74, u75, u76, u77, rfl, rfl, { h with p69 := fun _ => rfl }⟩)
      go_simp
    · have e : l1 = false := hl
      subst e
      refine wpOp_run (v := .int .i64 (k : Int)) (w' := x) (by rfl) (by rfl) ?_ (hK _ _ ⟨l0, true, l2, l3, l4, l5, l6, l7, l8, u69, (.int .i64 (k : Int)), u71, u72, u73, u74, u75, u76, u77, rfl, rfl, { h with p70 := fun _ => rfl }⟩)
      go_simp
    · have e : l2 = false := hl
      subst e
      refine wpOp_run (v := .int .i64 1) (w' := x) (by rfl) (by rfl) ?_ (hK _ _ ⟨l0, l1, true, l3, l4, l5, l6, l7, l8, u69, u70, (.int .i64 1), u72, u73, u74, u75, u76, u77, rfl, rfl, { h with p71 := fun _ => rfl }⟩)
      go_simp
    · have e : l3 = false := hl
      subst e
      have d1 : l1 = true := ready_on hi 1 (by kernel_rfl)
      subst d1
      have d2 : l2 = true := ready_on hi 2 (by kernel_rfl)
      subst d2
      refine wpOp_run (v := .int .i64 ((k : Int) + 1)) (w' := x) (by rfl) (by rfl) ?_ (hK _ _ ⟨l0, true, true, true, l4, l5, l6, l7, l8, u69, u70, u71, (.int .i64 ((k : Int) + 1)), u73, u74, u75, u76, u77, rfl, rfl, { h with p72 := fun _ => rfl }⟩)
      rw [h.p70 rfl, h.p71 rfl]
      go_simp
    · have e : l4 = false := hl
      subst e
      have d0 : l0 = true := ready_on hi 0 (by kernel_rfl)
      subst d0
      have d3 : l3 = true := ready_on hi 3 (by kernel_rfl)
      subst d3
      refine wpOp_run (v := .slice (some ⟨g, (k + 1) * 4, none⟩) (l.length + 1 - (k + 1)) (c - (k + 1))) (w' := x) (by rfl) (by rfl) ?_ (hK _ _ ⟨true, l1, l2, true, true, l5, l6, l7, l8, u69, u70, u71, u72, (.slice (some ⟨g, (k + 1) * 4, none⟩) (l.length + 1 - (k + 1)) (c - (k + 1))), u74, u75, u76, u77, rfl, rfl, { h with p73 := fun _ => rfl }⟩)
      rw [h.p69 rfl, h.p72 rfl]
      go_simp
    · have e : l5 = false := hl
      subst e
      refine wpOp_run (v := .slice (some ⟨g, 0, none⟩) (l.length + 1) c) (w' := x) (by rfl) (by rfl) ?_ (hK _ _ ⟨l0, l1, l2, l3, l4, true, l6, l7, l8, u69, u70, u71, u72, u73, (.slice (some ⟨g, 0, none⟩) (l.length + 1) c), u75, u76, u77, rfl, rfl, { h with p74 := fun _ => rfl }⟩)
      go_simp
    · have e : l6 = false := hl
      subst e
      refine wpOp_run (v := .int .i64 (k : Int)) (w' := x) (by rfl) (by rfl) ?_ (hK _ _ ⟨l0, l1, l2, l3, l4, l5, true, l7, l8, u69, u70, u71, u72, u73, u74, (.int .i64 (k : Int)), u76, u77, rfl, rfl, { h with p75 := fun _ => rfl }⟩)
      go_simp
    · have e : l7 = false := hl
      subst e
      have d5 : l5 = true := ready_on hi 5 (by kernel_rfl)
      subst d5
      have d6 : l6 = true := ready_on hi 6 (by kernel_rfl)
      subst d6
      refine wpOp_run (v := .slice (some ⟨g, k * 4, none⟩) (l.length + 1 - k) (c - k)) (w' := x) (by rfl) (by rfl) ?_ (hK _ _ ⟨l0, l1, l2, l3, l4, true, true, true, l8, u69, u70, u71, u72, u73, u74, u75, (.slice (some ⟨g, k * 4, none⟩) (l.length + 1 - k) (c - k)), u77, rfl, rfl, { h with p76 := fun _ => rfl }⟩)
      rw [h.p74 rfl, h.p75 rfl]
      go_simp
    · have e : l8 = false := hl
      subst e
      have d4 : l4 = true := ready_on hi 4 (by kernel_rfl)
      subst d4
      have d7 : l7 = true := ready_on hi 7 (by kernel_rfl)
      subst d7
      have hx := h.wb rfl
      subst hx
      refine wpOp_run (v := goInt ((l.length - k : Nat) : Int)) (w' := W1) (by rfl) (by rfl) ?_ (hK _ _ ⟨l0, l1, l2, l3, true, l5, l6, true, true, u69, u70, u71, u72, u73, u74, u75, u76, (goInt ((l.length - k : Nat) : Int)), rfl, rfl, { h with wb := fun q => (by cases q), wa := fun _ => rfl }⟩)
      exact exec_copy rfl (h.p73 rfl) (h.p76 rfl) HE1.out
  · rintro L act x ⟨l0, l1, l2, l3, l4, l5, l6, l7, l8, u69, u70, u71, u72, u73, u74, u75, u76, u77, rfl, rfl, h⟩ hr
    have hall := ready_all hr rfl (by decide)
    have t0 : l0 = true := hall 0 (by decide)
    have t1 : l1 = true := hall 1 (by decide)
    have t2 : l2 = true := hall 2 (by decide)
    have t3 : l3 = true := hall 3 (by decide)
    have t4 : l4 = true := hall 4 (by decide)
    have t5 : l5 = true := hall 5 (by decide)
    have t6 : l6 = true := hall 6 (by decide)
    have t7 : l7 = true := hall 7 (by decide)
    have t8 : l8 = true := hall 8 (by decide)
    subst t0 t1 t2 t3 t4 t5 t6 t7 t8
    clear hall hr
    have hx := h.wa rfl
    subst hx
    clear h
    refine hK5 _ _ ?_
    clear hK5
    go_wp2
    go_ret
    exact HE.out
/-- one more, at its place, where there is room -/
theorem insertH_any (g c : Nat) (l : List Hld) (k : Nat) (x : Hld) (vb : Nat) (w : World) (hl : l.length ≤ 1048576) (hk : k ≤ l.length) (hc : l.length + 1 ≤ c) (h : w.ownsRow 0 71 4 (.slice (some ⟨g, 0, none⟩) l.length c) l.length (l.flatMap hldCells)) (hne : vb ≠ g) (hv : w.heap[vb]? = some (.cells #[.int .i64 x.id, .string x.fr, .string x.to, .int .i64 x.amount] 71 (0, 0))) :
    Calls Tryz.prog 97 #[.slice (some ⟨g, 0, none⟩) l.length c, .int .i64 (k : Int), .slice (some ⟨vb, 0, none⟩) 1 1] w fun e w' => InhEnd (.slice (some ⟨g, 0, none⟩) l.length c) l k x w e w' := by
  rcases Nat.lt_or_ge k l.length with q | q
  · exact insertH_room g c l k x vb w hl q hc hne h hv
  · obtain rfl : k = l.length := by omega
    exact insertH_end _ l x vb w hl h hv
end Go.Proofs.YtjjoeajnhblacaaGreatDoor
