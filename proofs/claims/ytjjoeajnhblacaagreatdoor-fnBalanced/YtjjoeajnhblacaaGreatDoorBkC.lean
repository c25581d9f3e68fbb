/- The contract of codeOf; what Applied makes, put together. -/
import Derived.Test.YtjjoeajnhblacaaGreatDoorBkE
import Derived.Test.YtjjoeajnhblacaaGreatDoorBkF
namespace Go.Proofs.YtjjoeajnhblacaaGreatDoor
open Go.ChangeShapes Go.WideShapes Go.ChangeAt Go.RowKit Go.Maps
set_option linter.unusedVariables false
set_option maxRecDepth 100000
theorem codeOf_nil (w : World) : Calls Tryz.prog 30 #[.nilIface] w fun e w' => e = .returned (.int .i64 0) ∧ Below w.heap.size w w' := by
  have HB : Hid (Below w.heap.size w (w.alloc (.cells #[.pointer none] 91))) := hide (below_alloc (Below.refl _ _) _)
  go_enter Tryz.func30, Tryz.ntmps30
  go_wp2_with fail
  refine (as_nil _ _).mono ?_
  rintro e w2 ⟨rfl, hw2⟩
  have HW : Hid _ := hide hw2
  clear hw2
  go_wp2_with fail
  go_ret
  exact ⟨rfl, HW.out ▸ HB.out⟩
theorem codeOf_some (n : Nat) (code : Int) (g : Value) (w : World) (hb : Blk n [.int .i64 code, g] w) (hg : w.cell? ⟨1, 0, none⟩ = some (.iface 134 (.agg #[.pointer (some ⟨3, 55, none⟩)]))) :
    Calls Tryz.prog 30 #[.iface 91 (.pointer (some ⟨n, 0, none⟩))] w fun e w' => e = .returned (.int .i64 code) ∧ Below w.heap.size w w' := by
  obtain ⟨W1, hW1⟩ : ∃ W1, W1 = w.alloc (.cells #[.pointer none] 91) := ⟨_, rfl⟩
  have hB1 : Below w.heap.size w W1 := by rw [hW1]; exact below_alloc (Below.refl _ _) _
  have hn : n ≠ w.heap.size := Nat.ne_of_lt hb.lt
  have k0 : W1.cell? ⟨w.heap.size, 0, none⟩ = some (.pointer none) := by rw [hW1]; exact World.cell?_alloc_at _ _ _ _ rfl
  have k1 : W1.frozen? ⟨w.heap.size, 0, none⟩ = false := by rw [hW1]; exact frozen_of_block (heap_alloc_new w _) 0
  have hlw : w.heap.size < W1.heap.size := by rw [hW1]; simp
  have HAS : Hid _ := hide (as_hit ⟨n, 0, none⟩ ⟨w.heap.size, 0, none⟩ (.pointer none) W1 ((hB1.cell (p := ⟨1, 0, none⟩) (cell_lt hg)).trans hg) k0 k1)
  have HB : Hid _ := hide (hb.below hB1)
  have HW1 : Hid (_ = W1) := hide hW1.symm
  have HB1 : Hid _ := hide hB1
  clear hW1 hg k0 k1 hB1
  go_enter Tryz.func30, Tryz.ntmps30
  go_upto_region 2 with fail
  rw [HW1.out]
  go_wp2_with fail
  refine HAS.out.mono ?_
  rintro e w2 ⟨rfl, hw2⟩
  obtain ⟨X, hX⟩ : ∃ X, X = (((W1.alloc (.cells #[.pointer (some ⟨w.heap.size, 0, none⟩)] 93)).alloc (.cells #[.pointer (some ⟨3, 93, none⟩), .pointer (some ⟨W1.heap.size, 0, none⟩), .int .u64 150] 126)).alloc (.cells #[.pointer (some ⟨3, 93, none⟩), .pointer (some ⟨W1.heap.size, 0, none⟩), .int .u64 150] 126)).alloc (.cells #[.pointer (some ⟨n, 0, none⟩)] 91) := ⟨_, rfl⟩
  have bX : Below W1.heap.size W1 X := by rw [hX]; exact below_alloc (below_alloc (below_alloc (below_alloc (Below.refl _ _) _) _) _) _
  rw [← hX] at hw2
  have c0 : w2.cell? ⟨w.heap.size, 0, none⟩ = some (.pointer (some ⟨n, 0, none⟩)) := by
    rw [hw2]
    refine cell_set_same (u := .pointer none) ?_
    rw [bX.cell (p := ⟨w.heap.size, 0, none⟩) hlw, ← HW1.out]
    exact World.cell?_alloc_at _ _ _ _ rfl
  have c1 : w2.cell? ⟨n, 0, none⟩ = some (.int .i64 code) := by
    rw [hw2, cell_set_other (.inl (fun e => hn e.symm))]
    exact (HB.out.below bX).c 0 _ rfl
  have HB2 : Hid (Below w.heap.size w w2) := hide (by rw [hw2]; exact (below_trans HB1.out bX).setCell (Nat.le_refl _) _)
  have hn2 : n < w2.heap.size := cell_lt c1
  clear hw2 hX bX HW1 HAS HB1
  go_wp2_with fail
  go_ret
  exact ⟨rfl, HB2.out⟩
theorem payM_names (L : Led) (i j : Nat) (am : Int) : ((payM L i j am).1.acc).map Acc.name = L.acc.map Acc.name := by
  unfold payM
  split
  · split
    · simp only [payA]; rw [setP_names, setP_names]
    · rfl
  · rfl
theorem doM_names (D : Led) (c : Cm) : ((doM D c).1.acc).map Acc.name = D.acc.map Acc.name ∨ (doM D c).1.acc = insA D.acc ⟨c.fr, c.to, c.am, 0⟩ := by
  unfold doM
  split
  · unfold openM
    split
    · exact .inl rfl
    · exact .inr rfl
  · split
    · left
      unfold moveM
      split
      · split
        · split
          · exact payM_names ..
          · unfold holdM
            split
            · rfl
            · split <;> rfl
        · rfl
      · rfl
    · left
      unfold endM
      split
      · rfl
      · split
        · rfl
        · split
          · split
            · exact payM_names ..
            · rfl
          · rfl
theorem doM_sz {D : Led} {c : Cm} (hw : LedW D) (hcf : c.fr.size ≤ maxLen) : ∀ y ∈ (doM D c).1.acc, y.name.size ≤ maxLen := by
  intro y hy
  rcases doM_names D c with e | e
  · have h1 : y.name ∈ ((doM D c).1.acc).map Acc.name := List.mem_map.2 ⟨y, hy, rfl⟩
    rw [e] at h1
    obtain ⟨x, hx, e2⟩ := List.mem_map.1 h1
    rw [← e2]
    exact (hw.acc x hx).1
  · rw [e] at hy
    rcases List.mem_append.1 ((perm_snoc_ins D.acc ⟨c.fr, c.to, c.am, 0⟩).mem_iff.2 hy) with h | h
    · exact (hw.acc y h).1
    · rw [List.mem_singleton.1 h]
      exact hcf
theorem doM_lenA {D : Led} {c : Cm} (h : D.acc.length ≤ 12) : (doM D c).1.acc.length ≤ 13 := by
  rcases doM_names D c with e | e
  · have := congrArg List.length e
    simp only [List.length_map] at this
    omega
  · rw [e, insA_len]
    omega
theorem adm_some {D : Led} {c : Cm} {k : Int} (hs : ledS D = true) (h : admC D c = some k) : applM D c = (D, k) := by
  unfold admC at h
  unfold applM
  rw [hs]
  simp only [Bool.true_eq_false, if_false]
  split at h
  · rename_i q; rw [if_pos q]; cases h; rfl
  · rename_i q; rw [if_neg q]
    split at h
    · rename_i q2; rw [if_pos q2]; cases h; rfl
    · rename_i q2; rw [if_neg q2]
      split at h
      · rename_i q3; rw [if_pos q3]; cases h; rfl
      · cases h
theorem adm_none {D : Led} {c : Cm} (hs : ledS D = true) (h : admC D c = none) : c.B = true ∧ ¬ 0 ≤ seenV D.seen c.id ∧ fullB D c = false ∧ applM D c = (⟨(doM D c).1.acc, (doM D c).1.hold, seeL D.seen c.id (doM D c).2⟩, (doM D c).2) := by
  unfold admC at h
  unfold applM
  rw [hs]
  simp only [Bool.true_eq_false, if_false]
  split at h
  · cases h
  · rename_i q
    split at h
    · cases h
    · rename_i q2
      split at h
      · cases h
      · rename_i q3
        refine ⟨by simpa using q, q2, by simpa using q3, ?_⟩
        rw [if_neg q, if_neg q2, if_neg q3]
theorem seen_off {l : List Sn} {id : Int} (hc : ∀ y ∈ l, 0 ≤ y.code) (h : ¬ 0 ≤ seenV l id) : ∀ y ∈ l, y.id ≠ id := by
  intro y hy e
  cases hf : fi (l.map Sn.id) id with
  | none =>
    rw [fi, List.findIdx?_eq_none_iff] at hf
    have := hf y.id (List.mem_map.2 ⟨y, hy, rfl⟩)
    simp [e] at this
  | some k =>
    have hf2 := hf
    rw [fi, List.findIdx?_eq_some_iff_getElem] at hf2
    have hk : k < l.length := by simpa using hf2.1
    rw [seenV_some hf hk] at h
    exact h (hc _ (List.getElem_mem hk))
end Go.Proofs.YtjjoeajnhblacaaGreatDoor
