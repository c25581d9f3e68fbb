/- A row that was sorted in its place, as what a call owns. -/
import Derived.Test.YtjjoeajnhblacaaGreatDoorBkX
namespace Go.Proofs.YtjjoeajnhblacaaGreatDoor
open Go.ChangeShapes Go.WideShapes Go.ChangeAt Go.RowKit Go.Shelf Go.Lib Go.Sort
set_option linter.unusedVariables false
theorem flatK_get {A : Type} [Inhabited A] (enc : A → List Value) (k : Nat) (hk : ∀ x, (enc x).length = k) (h0 : 0 < k) (l : List A) (t : Nat) (ht : t < l.length * k) : (flatK enc k l.toArray)[t]! = (l.flatMap enc)[t]! := by
  have hq : t / k < l.length := (Nat.div_lt_iff_lt_mul h0).2 ht
  have hm : t % k < k := Nat.mod_lt _ h0
  have e : (l.flatMap enc)[t]? = (enc l[t / k])[t % k]? := by
    have := flat_get enc k hk l (t / k) hq (t % k) hm
    rw [Nat.div_add_mod'] at this
    exact this
  rw [get_flatK enc k l.toArray t (by simpa using ht)]
  have e2 : l.toArray[t / k]! = l[t / k] := by simp [hq]
  rw [e2, List.getElem!_eq_getElem?_getD, List.getElem!_eq_getElem?_getD, e]
theorem holdsK_of {A : Type} [Inhabited A] (enc : A → List Value) (k : Nat) (hk : ∀ x, (enc x).length = k) (h0 : 0 < k) {w : World} {g : Nat} {cur : Array Value} {e : TypeId} {l : List A} (hb : w.heap[g]? = some (.cells cur e (0, 0))) (ht : cur.toList.take (l.length * k) = l.flatMap enc) : HoldsK enc k w g 0 l.toArray := by
  intro j hj
  have hj' : j < l.length * k := by simpa using hj
  refine ⟨?_, by simp [World.frozen?, hb]⟩
  have h1 : (cur.toList.take (l.length * k))[j]? = (l.flatMap enc)[j]? := by rw [ht]
  rw [List.getElem?_take_of_lt hj'] at h1
  rw [flatK_get enc k hk h0 l j hj']
  simp only [World.cell?, hb, Nat.zero_add]
  have hlen : j < (l.flatMap enc).length := by rw [flat_len enc k hk l]; exact hj'
  rw [← Array.getElem?_toList, h1, getElem!_pos _ j hlen, List.getElem?_eq_getElem hlen]
  rfl
theorem heap_sortedK {w : World} {g n : Nat} {os : Array Obj} {cur : Array Value} {e : TypeId} {fr : Nat × Nat} (F : Array Value) (hb : w.heap[g]? = some (.cells cur e fr)) :
    (grow (putRow id (Sort.ahead w n) g 0 F) os).heap[g]? = some (.cells (putCells id 0 F cur) e fr) := by
  have hg : g < w.heap.size := (Array.getElem?_eq_some_iff.1 hb).1
  rw [heap_grow_old _ _ (by simpa using hg)]
  simp [putRow, mapBlock, Sort.ahead, Array.getElem?_modify, hb, onCells]
theorem grownBy_sortedK {w : World} {g n : Nat} {os : Array Obj} (F : Array Value) : w.grownBy (grow (putRow id (Sort.ahead w n) g 0 F) os) (some g) := by
  refine ⟨rfl, rfl, rfl, by simp, fun k hk hne => ?_⟩
  rw [heap_grow_old _ _ (by simpa using hk)]
  have : g ≠ k := fun e => hne (by rw [e])
  simp [putRow, mapBlock, Sort.ahead, Array.getElem?_modify, this]
theorem take_putCellsK {A : Type} [Inhabited A] (enc : A → List Value) (k : Nat) (hk : ∀ x, (enc x).length = k) (h0 : 0 < k) (cur : Array Value) (l : List A) (h : l.length * k ≤ cur.size) : (putCells id 0 (flatK enc k l.toArray) cur).toList.take (l.length * k) = l.flatMap enc := by
  apply List.ext_getElem?
  intro j
  by_cases hj : j < l.length * k
  · have hlen : j < (l.flatMap enc).length := by rw [flat_len enc k hk l]; exact hj
    have e := flatK_get enc k hk h0 l j hj
    rw [List.getElem?_take_of_lt hj, Array.getElem?_toList, List.getElem?_eq_getElem hlen]
    have e2 : (l.flatMap enc)[j]! = (l.flatMap enc)[j] := getElem!_pos _ j hlen
    rw [← e2, ← e]
    simp [putCells, hj, show j < cur.size by omega]
  · rw [List.getElem?_take_eq_none (by omega), List.getElem?_eq_none (by rw [flat_len enc k hk l]; omega)]
/-- a row sorted in its place -/
theorem Pool.sorted {A : Type} [Inhabited A] (enc : A → List Value) (k : Nat) (hk : ∀ x, (enc x).length = k) (h0 : 0 < k) {F : List Nat} {w x : World} {S : List (List Rs)} (h : Pool F w S x) {i : Nat} {T : TypeId} {g cap : Nat} {l : List A} (hi : S[i]? = some [row T k (.slice (some ⟨g, 0, none⟩) l.length cap) l.length (l.flatMap enc)]) {r : List A} (hr : r.length = l.length) (m : Nat) (os : Array Obj) :
    Pool F w (S.set i [row T k (.slice (some ⟨g, 0, none⟩) l.length cap) r.length (r.flatMap enc)]) (sortWorldK enc k x g 0 m r.toArray os) := by
  have ho := h.rowAt hi
  obtain ⟨hlen, ⟨hv, _⟩ | ⟨g', cap', cur, hv, hb0, hb, h1, h2, h3, h4⟩⟩ := ho
  · cases hv
  · cases hv
    refine h.grow hi (v' := .slice (some ⟨g, 0, none⟩) l.length cap) ?_ (grownBy_sortedK _) (.inl rfl)
    have h5 : r.length * k ≤ cur.size := by rw [h3, hr]; exact Nat.mul_le_mul_right _ h1
    refine ⟨by rw [flat_len enc k hk r], .inr ⟨g, cap, _, by rw [hr], hb0, heap_sortedK _ hb, by rw [hr]; exact h1, h2, by simp [putCells, h3], take_putCellsK enc k hk h0 cur r h5⟩⟩
end Go.Proofs.YtjjoeajnhblacaaGreatDoor
/- slices.SortFunc at rows of a pool. -/
namespace Go.Proofs.YtjjoeajnhblacaaGreatDoor
open Go.ChangeShapes Go.WideShapes Go.ChangeAt Go.RowKit Go.Shelf Go.Lib Go.Sort
set_option linter.unusedVariables false
theorem sortSn_pool {F : List Nat} {w x : World} {S : List (List Rs)} (h : Pool F w S x) {i : Nat} {v : Value} {l : List Sn} (hi : S[i]? = some [row 47 2 v l.length (l.flatMap snCells)]) (hl0 : 0 < l.length) (hl : l.length ≤ 1048576) :
    Calls Tryz.prog 67 #[v, .func (.func 68) #[] #[]] x fun e w' => e = .returned (.tuple #[]) ∧ ∃ r : List Sn, r.Perm l ∧ r.Pairwise (fun a b => a.id ≤ b.id) ∧ Pool F w (S.set i [row 47 2 v r.length (r.flatMap snCells)]) w' := by
  obtain ⟨hlen, ⟨hv, hn⟩ | ⟨g, cap, cur, rfl, hb0, hb, h1, h2, h3, h4⟩⟩ := h.rowAt hi
  · omega
  · have hg : g < x.heap.size := (Array.getElem?_eq_some_iff.1 hb).1
    have hc := sortSn_raw g 0 cap l.toArray x (holdsK_of snCells 2 (fun _ => rfl) (by decide) hb h4) hg (by simp; omega)
    rw [show l.toArray.size = l.length by simp] at hc
    refine hc.mono ?_
    rintro e w' ⟨rfl, d', n, os, hp, hs, rfl⟩
    obtain ⟨hp1, _, hp3⟩ := hp
    have hp1 : d'.size = l.length := by simpa using hp1
    have hpm : d'.toList.Perm l := by
      rw [Array.extract_eq_self_of_le (by simp [hp1]), Array.extract_eq_self_of_le (by simp)] at hp3
      simpa using hp3
    refine ⟨rfl, d'.toList, hpm, ?_, ?_⟩
    · rw [List.pairwise_iff_getElem]
      intro a b ha hb' hab
      have ha' : a < d'.size := by simpa using ha
      have hb'' : b < d'.size := by simpa using hb'
      have z := hs a b (Nat.zero_le _) hab (by omega)
      rw [ltSn, getElem!_pos d' a ha', getElem!_pos d' b hb''] at z
      have z := of_decide_eq_false z
      simp only [Array.getElem_toList]
      omega
    · have z := h.sorted snCells 2 (fun _ => rfl) (by decide) hi (r := d'.toList) (by simpa using hp1) n os
      simpa using z
theorem sortHld_pool {F : List Nat} {w x : World} {S : List (List Rs)} (h : Pool F w S x) {i : Nat} {v : Value} {l : List Hld} (hi : S[i]? = some [row 71 4 v l.length (l.flatMap hldCells)]) (hl0 : 0 < l.length) (hl : l.length ≤ 1048576) :
    Calls Tryz.prog 94 #[v, .func (.func 95) #[] #[]] x fun e w' => e = .returned (.tuple #[]) ∧ ∃ r : List Hld, r.Perm l ∧ r.Pairwise (fun a b => a.id ≤ b.id) ∧ Pool F w (S.set i [row 71 4 v r.length (r.flatMap hldCells)]) w' := by
  obtain ⟨hlen, ⟨hv, hn⟩ | ⟨g, cap, cur, rfl, hb0, hb, h1, h2, h3, h4⟩⟩ := h.rowAt hi
  · omega
  · have hg : g < x.heap.size := (Array.getElem?_eq_some_iff.1 hb).1
    have hc := sortHl_raw g 0 cap l.toArray x (holdsK_of hldCells 4 (fun _ => rfl) (by decide) hb h4) hg (by simp; omega)
    rw [show l.toArray.size = l.length by simp] at hc
    refine hc.mono ?_
    rintro e w' ⟨rfl, d', n, os, hp, hs, rfl⟩
    obtain ⟨hp1, _, hp3⟩ := hp
    have hp1 : d'.size = l.length := by simpa using hp1
    have hpm : d'.toList.Perm l := by
      rw [Array.extract_eq_self_of_le (by simp [hp1]), Array.extract_eq_self_of_le (by simp)] at hp3
      simpa using hp3
    refine ⟨rfl, d'.toList, hpm, ?_, ?_⟩
    · rw [List.pairwise_iff_getElem]
      intro a b ha hb' hab
      have ha' : a < d'.size := by simpa using ha
      have hb'' : b < d'.size := by simpa using hb'
      have z := hs a b (Nat.zero_le _) hab (by omega)
      rw [ltHl, getElem!_pos d' a ha', getElem!_pos d' b hb''] at z
      have z := of_decide_eq_false z
      simp only [Array.getElem_toList]
      omega
    · have z := h.sorted hldCells 4 (fun _ => rfl) (by decide) hi (r := d'.toList) (by simpa using hp1) n os
      simpa using z
end Go.Proofs.YtjjoeajnhblacaaGreatDoor
/- The contract of the book's note. -/
namespace Go.Proofs.YtjjoeajnhblacaaGreatDoor
open Go.ChangeShapes Go.WideShapes Go.ChangeAt Go.RowKit Go.Maps
set_option linter.unusedVariables false
set_option maxRecDepth 100000
set_option maxHeartbeats 4000000 in
theorem note_any (q m : Nat) (ps : List Nat) (hv sv : Value) (A : List Acc) (H : List Hld) (S : List Sn) (id code : Int) (w : World) (n3 : S.length ≤ 40) (hps : ps.length = A.length) (hup : (S.map Sn.id).Pairwise (· < ·)) (hno : ∀ y ∈ S, y.id ≠ id) (h : Star (bkS q m ps hv sv A H S).flatten w) :
    Calls Tryz.prog 32 #[.pointer (some ⟨q, 0, none⟩), .int .i64 id, .int .i64 code] w fun e w' => e = .returned (.tuple #[]) ∧ ∃ sv', Pool (fps (bkS q m ps hv sv A H S).flatten) w [(bkS q m ps hv sv' A H (seeL S id code)).flatten] w' := by
  obtain ⟨FF, hFF⟩ : ∃ FF, FF = fps (bkS q m ps hv sv A H S).flatten := ⟨_, rfl⟩
  have HP : Hid (Pool FF w [[blk q [.map (some m), hv, sv]], [mapR m (A.map Acc.name) ps], accB' ps A, [row 71 4 hv H.length (H.flatMap hldCells)], [row 47 2 sv S.length (S.flatMap snCells)], []] w) := hide (by
    rw [hFF]
    exact (Pool.of h).cast (by simp [bkS]))
  rw [← hFF]
  clear h hFF
  obtain ⟨i0, hi0, hz0, hz1, hz2⟩ := info_parts infoSn
  obtain ⟨a2, c2, rfl⟩ := row_shape (HP.out.rowAt (i := 4) rfl)
  have d2 := (HP.out.blkAt (i := 0) rfl).c 2 _ rfl
  have hlt := (HP.out.blkAt (i := 0) rfl).lt
  have HU : Hid _ := hide hup
  have HN : Hid _ := hide hno
  clear hup hno
  go_enter Tryz.func32, Tryz.ntmps32
  go_wp2_with (first | (at_builtin; refine Shut2.mk ?_) | fail)
  refine Shut2.mk' ?_
  refine name_list (fun Y hY => ?_)
  have HY : Hid (Pool FF w [[blk q [.map (some m), hv, .slice a2 S.length c2]], [mapR m (A.map Acc.name) ps], accB' ps A, [row 71 4 hv H.length (H.flatMap hldCells)], [row 47 2 (.slice a2 S.length c2) S.length (S.flatMap snCells)], [blk w.heap.size (snCells ⟨id, code⟩)]] Y) := hide (by rw [hY]; exact HP.out.newBlk (i := 5) rfl (snCells ⟨id, code⟩) 47)
  clear hY HP d2 hlt
  refine wpList_append_pool HY.out (i0 := 4) rfl rfl _ _ 26 rfl i0 _ 16 Tryz.underlying26 hi0 hz0 hz1 hz2 rfl (by decide) rfl (some ⟨w.heap.size, 0, none⟩) 1 1 (snCells ⟨id, code⟩) rfl rfl (fun e => by cases e) (blk_news (HY.out.blkAt (i := 5) rfl)) (fun u hu => by simp [snCells] at hu; rcases hu with rfl | rfl <;> rfl) (by unfold maxLen; omega) (by omega) ?_
  obtain ⟨N, hN⟩ : ∃ N, N = S ++ [(⟨id, code⟩ : Sn)] := ⟨_, rfl⟩
  intro v2 y2 hp2
  have HP2 : Hid (Pool FF w [[blk q [.map (some m), hv, .slice a2 S.length c2]], [mapR m (A.map Acc.name) ps], accB' ps A, [row 71 4 hv H.length (H.flatMap hldCells)], [row 47 2 v2 N.length (N.flatMap snCells)], []] y2) := hide (by
    have z := hp2.drop (i := 5) rfl
    have e1 : (S ++ [(⟨id, code⟩ : Sn)]).length = S.length + 1 := by simp
    have e2 : (S ++ [(⟨id, code⟩ : Sn)]).flatMap snCells = S.flatMap snCells ++ snCells ⟨id, code⟩ := by simp
    rw [hN, e1, e2]
    exact z)
  have HNN : Hid _ := hide hN
  have hn0 : 0 < N.length := by rw [hN]; simp
  have hn1 : N.length ≤ 1048576 := by rw [hN]; simp; omega
  clear hN
  clear hp2 HY
  obtain ⟨a3, c3, rfl⟩ := row_shape (HP2.out.rowAt (i := 4) rfl)
  have t2 := (HP2.out.blkAt (i := 0) rfl).c 2 _ rfl
  have f2 := (HP2.out.blkAt (i := 0) rfl).f 2
  have l2 := (HP2.out.blkAt (i := 0) rfl).lt
  have HP3 : Hid _ := hide (HP2.out.setBlk (i := 0) rfl 2 (.slice a3 N.length c3) (by simp))
  clear HP2
  go_wp2_with fail
  refine (sortSn_pool HP3.out (i := 4) rfl hn0 hn1).mono ?_
  rintro e w3 ⟨rfl, r, hr, hs, hp4⟩
  have HP4 : Hid _ := hide hp4
  have HR : Hid (r = seeL S id code) := hide (seeL_of HU.out HN.out (HNN.out ▸ hr) hs)
  clear hr hs hp4
  go_wp2_with fail
  go_end0
  refine ⟨rfl, .slice a3 N.length c3, ?_⟩
  have z := HP4.out
  rw [HR.out] at z
  exact z.cast (by simp [bkS])
end Go.Proofs.YtjjoeajnhblacaaGreatDoor
