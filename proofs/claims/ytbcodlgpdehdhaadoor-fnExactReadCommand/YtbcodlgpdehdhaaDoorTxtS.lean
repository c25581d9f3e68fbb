/- The contract of the model's CommandText. -/
import Derived.Test.YtbcodlgpdehdhaaDoorCmdL
import Derived.Test.YtbcodlgpdehdhaaDoorBel
namespace Go.Proofs.YtbcodlgpdehdhaaDoor
open Go.ChangeShapes Go.WideShapes Go.ChangeAt Go.RowKit
set_option linter.unusedVariables false
set_option maxRecDepth 100000
/-- the word of a kind -/
def wordL (k : Int) : List UInt8 := if k = 1 then [111, 112, 101, 110] else if k = 2 then [112, 111, 115, 116] else if k = 3 then [104, 111, 108, 100] else if k = 4 then [116, 97, 107, 101] else [100, 114, 111, 112]
/-- the text of a command -/
def cmdT (id kind : Int) (f t : ByteArray) (am ref : Int) : List UInt8 :=
  if cmdB id kind f t am ref = true then
    (if kind = 4 ∨ kind = 5 then Lib.itoa id ++ ([32] ++ (wordL kind ++ ([32] ++ Lib.itoa ref)))
     else Lib.itoa id ++ ([32] ++ (wordL kind ++ ([32] ++ (f.data.toList ++ ([32] ++ (t.data.toList ++ ([32] ++ Lib.itoa am))))))))
  else []
def StrEnd (l : List UInt8) (w : World) (e : Ending) (w' : World) : Prop := e = .returned (.string (bs l)) ∧ Below w.heap.size w w'
theorem boxed6 {w x : World} {v0 v1 v2 v3 v4 v5 : Value} {T : TypeId} (h : Below (w.alloc (.cells #[v0, v1, v2, v3, v4, v5] T)).heap.size (w.alloc (.cells #[v0, v1, v2, v3, v4, v5] T)) x) :
    x.cell? ⟨w.heap.size, 0, none⟩ = some v0 ∧ x.cell? ⟨w.heap.size, 1, none⟩ = some v1 ∧ x.cell? ⟨w.heap.size, 2, none⟩ = some v2 ∧ x.cell? ⟨w.heap.size, 3, none⟩ = some v3 ∧ x.cell? ⟨w.heap.size, 4, none⟩ = some v4 ∧ x.cell? ⟨w.heap.size, 5, none⟩ = some v5 := by
  have hb : ∀ o, x.cell? ⟨w.heap.size, o, none⟩ = (w.alloc (.cells #[v0, v1, v2, v3, v4, v5] T)).cell? ⟨w.heap.size, o, none⟩ := fun o => h.cell (p := ⟨w.heap.size, o, none⟩) (by simp)
  refine ⟨?_, ?_, ?_, ?_, ?_, ?_⟩ <;> rw [hb] <;> simp
theorem itoa_len {n : Int} (h0 : -1000000000000000 ≤ n) (h1 : n ≤ 1000000000000000) : (Lib.itoa n).length ≤ 17 := by
  by_cases h : n < 0
  · rw [← itoa_neg h h0]; have := dec_len 15 (-n).toNat (by omega) (by omega); simp; omega
  · rw [← itoa_pos (by omega) h1]; have := dec_len 15 n.toNat (by omega) (by omega); omega
theorem inB_iff {lo hi n : Int} : inB lo hi n = true ↔ lo ≤ n ∧ n ≤ hi := by simp [inB]
theorem name_short {s : ByteArray} (h : nameB s = true) : s.size ≤ 12 := by
  unfold nameB at h
  simp only [Bool.and_eq_true, decide_eq_true_eq] at h
  omega
theorem cur_short {s : ByteArray} (h : curB s = true) : s.size ≤ 12 := by
  unfold curB at h
  simp only [Bool.and_eq_true, decide_eq_true_eq] at h
  omega
/-- what a right command of the first three kinds has -/
theorem cmd_abc {id k : Int} {f t : ByteArray} {am ref : Int} (hk : k = 1 ∨ k = 2 ∨ k = 3) (h : cmdB id k f t am ref = true) : (1 ≤ id ∧ id ≤ 1000000000) ∧ f.size ≤ 12 ∧ t.size ≤ 12 ∧ -1 ≤ am ∧ am ≤ 1000000000000 := by
  unfold cmdB at h
  simp only [Bool.and_eq_true] at h
  obtain ⟨h0, h1⟩ := h
  refine ⟨inB_iff.1 h0, ?_⟩
  rcases hk with rfl | rfl | rfl
  · rw [if_pos rfl] at h1
    simp only [Bool.and_eq_true] at h1
    exact ⟨name_short h1.1.1.1, cur_short h1.1.1.2, inB_iff.1 h1.1.2⟩
  · rw [if_neg (by decide), if_pos (by decide)] at h1
    simp only [Bool.and_eq_true] at h1
    have := inB_iff.1 h1.1.2
    exact ⟨name_short h1.1.1.1.1, name_short h1.1.1.1.2, by omega⟩
  · rw [if_neg (by decide), if_pos (by decide)] at h1
    simp only [Bool.and_eq_true] at h1
    have := inB_iff.1 h1.1.2
    exact ⟨name_short h1.1.1.1.1, name_short h1.1.1.1.2, by omega⟩
theorem cmd_de {id k : Int} {f t : ByteArray} {am ref : Int} (hk : k = 4 ∨ k = 5) (h : cmdB id k f t am ref = true) : (1 ≤ id ∧ id ≤ 1000000000) ∧ 1 ≤ ref ∧ ref ≤ 1000000000 := by
  unfold cmdB at h
  simp only [Bool.and_eq_true] at h
  obtain ⟨h0, h1⟩ := h
  refine ⟨inB_iff.1 h0, ?_⟩
  rcases hk with rfl | rfl
  · rw [if_neg (by decide), if_neg (by decide), if_pos (by decide)] at h1
    simp only [Bool.and_eq_true] at h1
    exact inB_iff.1 h1.2
  · rw [if_neg (by decide), if_neg (by decide), if_pos (by decide)] at h1
    simp only [Bool.and_eq_true] at h1
    exact inB_iff.1 h1.2
theorem cmd_kind {id k : Int} {f t : ByteArray} {am ref : Int} (h : cmdB id k f t am ref = true) : k = 1 ∨ k = 2 ∨ k = 3 ∨ k = 4 ∨ k = 5 := by
  unfold cmdB at h
  simp only [Bool.and_eq_true] at h
  by_cases h1 : k = 1
  · exact .inl h1
  · by_cases h2 : k = 2 ∨ k = 3
    · omega
    · by_cases h3 : k = 4 ∨ k = 5
      · omega
      · rw [if_neg h1, if_neg h2, if_neg h3] at h; simp at h
set_option maxHeartbeats 4000000 in
theorem specText_1 (id : Int) (f t : ByteArray) (am ref : Int) (w : World) (hf : f.size ≤ maxLen) (ht : t.size ≤ maxLen) (hc : cmdB id 1 f t am ref = true) :
    Calls Tryd.prog 9 #[.agg #[.int .i64 id, .int .i64 1, .string f, .string t, .int .i64 am, .int .i64 ref]] w fun e w' => StrEnd (cmdT id 1 f t am ref) w e w' := by
  obtain ⟨⟨i0, i1⟩, sf, st, a0, a1⟩ := cmd_abc (by omega) hc
  have l1 : (bs (Lib.itoa id)).size ≤ 17 := by rw [bs_size]; exact itoa_len (by omega) (by omega)
  have l2 : (bs (Lib.itoa am)).size ≤ 17 := by rw [bs_size]; exact itoa_len (by omega) (by omega)
  have HR : Hid (bs (Lib.itoa id) ++ { data := #[32, 111, 112, 101, 110, 32] } ++ f ++ { data := #[32] } ++ t ++ { data := #[32] } ++ bs (Lib.itoa am) = bs (cmdT id 1 f t am ref)) := hide (by
    apply bs_of
    rw [cmdT, if_pos hc, if_neg (by decide)]
    simp [bs_list, wordL])
  go_enter Tryd.func9, Tryd.ntmps9
  go_wp2_with (first | (go_at_call 14; refine (specCommandOk_any _ _ _ _ _ _ _ hf ht).mono ?_; rintro e w1 ⟨rfl, hk1⟩; have HX1 : Hid _ := hide hk1.below; obtain ⟨x0, x1, x2, x3, x4, x5⟩ := boxed6 HX1.out; clear hk1) | (go_at_call 15; refine (l1Dec_all _ _ (by omega) (by omega)).mono ?_; rintro e w2 ⟨rfl, hb2⟩; have HX2 : Hid _ := hide (below_trans HX1.out hb2); obtain ⟨y0, y1, y2, y3, y4, y5⟩ := boxed6 HX2.out; clear hb2))
  have k2 : ∀ y : Later w2, y.w.cell? ⟨w.heap.size, 2, none⟩ = some (.string f) := fun y => below_keeps y.below _ _ y2
  have k3 : ∀ y : Later w2, y.w.cell? ⟨w.heap.size, 3, none⟩ = some (.string t) := fun y => below_keeps y.below _ _ y3
  have k4 : ∀ y : Later w2, y.w.cell? ⟨w.heap.size, 4, none⟩ = some (.int .i64 am) := fun y => below_keeps y.below _ _ y4
  have hne : Nonempty (Later w2) := later_there _
  refine wp_region_later w2 (by kernel_rfl) (by kernel_rfl) ((Below.refl _ _).drew) ?_
  repeat (go_big_quiet_step (first | (go_at_call 15; exact later_of (l1Dec_all _ _ (by omega) (by omega)))))
  refine wpQuiet_nil ?_
  intro _ hw'
  obtain ⟨nx, rfl⟩ := hw'
  go_wp2
  go_ret
  exact ⟨by rw [← HR.out]; rfl, below_trans (below_trans (below_alloc (Below.refl _ _) _) HX2.out) nx.below⟩
set_option maxHeartbeats 4000000 in
theorem specText_2 (id : Int) (f t : ByteArray) (am ref : Int) (w : World) (hf : f.size ≤ maxLen) (ht : t.size ≤ maxLen) (hc : cmdB id 2 f t am ref = true) :
    Calls Tryd.prog 9 #[.agg #[.int .i64 id, .int .i64 2, .string f, .string t, .int .i64 am, .int .i64 ref]] w fun e w' => StrEnd (cmdT id 2 f t am ref) w e w' := by
  obtain ⟨⟨i0, i1⟩, sf, st, a0, a1⟩ := cmd_abc (by omega) hc
  have l1 : (bs (Lib.itoa id)).size ≤ 17 := by rw [bs_size]; exact itoa_len (by omega) (by omega)
  have l2 : (bs (Lib.itoa am)).size ≤ 17 := by rw [bs_size]; exact itoa_len (by omega) (by omega)
  have HR : Hid (bs (Lib.itoa id) ++ { data := #[32, 112, 111, 115, 116, 32] } ++ f ++ { data := #[32] } ++ t ++ { data := #[32] } ++ bs (Lib.itoa am) = bs (cmdT id 2 f t am ref)) := hide (by
    apply bs_of
    rw [cmdT, if_pos hc, if_neg (by decide)]
    simp [bs_list, wordL])
  go_enter Tryd.func9, Tryd.ntmps9
  go_wp2_with (first | (go_at_call 14; refine (specCommandOk_any _ _ _ _ _ _ _ hf ht).mono ?_; rintro e w1 ⟨rfl, hk1⟩; have HX1 : Hid _ := hide hk1.below; obtain ⟨x0, x1, x2, x3, x4, x5⟩ := boxed6 HX1.out; clear hk1) | (go_at_call 15; refine (l1Dec_all _ _ (by omega) (by omega)).mono ?_; rintro e w2 ⟨rfl, hb2⟩; have HX2 : Hid _ := hide (below_trans HX1.out hb2); obtain ⟨y0, y1, y2, y3, y4, y5⟩ := boxed6 HX2.out; clear hb2))
  have k2 : ∀ y : Later w2, y.w.cell? ⟨w.heap.size, 2, none⟩ = some (.string f) := fun y => below_keeps y.below _ _ y2
  have k3 : ∀ y : Later w2, y.w.cell? ⟨w.heap.size, 3, none⟩ = some (.string t) := fun y => below_keeps y.below _ _ y3
  have k4 : ∀ y : Later w2, y.w.cell? ⟨w.heap.size, 4, none⟩ = some (.int .i64 am) := fun y => below_keeps y.below _ _ y4
  have hne : Nonempty (Later w2) := later_there _
  refine wp_region_later w2 (by kernel_rfl) (by kernel_rfl) ((Below.refl _ _).drew) ?_
  repeat (go_big_quiet_step (first | (go_at_call 15; exact later_of (l1Dec_all _ _ (by omega) (by omega)))))
  refine wpQuiet_nil ?_
  intro _ hw'
  obtain ⟨nx, rfl⟩ := hw'
  go_wp2
  go_ret
  exact ⟨by rw [← HR.out]; rfl, below_trans (below_trans (below_alloc (Below.refl _ _) _) HX2.out) nx.below⟩
set_option maxHeartbeats 4000000 in
theorem specText_3 (id : Int) (f t : ByteArray) (am ref : Int) (w : World) (hf : f.size ≤ maxLen) (ht : t.size ≤ maxLen) (hc : cmdB id 3 f t am ref = true) :
    Calls Tryd.prog 9 #[.agg #[.int .i64 id, .int .i64 3, .string f, .string t, .int .i64 am, .int .i64 ref]] w fun e w' => StrEnd (cmdT id 3 f t am ref) w e w' := by
  obtain ⟨⟨i0, i1⟩, sf, st, a0, a1⟩ := cmd_abc (by omega) hc
  have l1 : (bs (Lib.itoa id)).size ≤ 17 := by rw [bs_size]; exact itoa_len (by omega) (by omega)
  have l2 : (bs (Lib.itoa am)).size ≤ 17 := by rw [bs_size]; exact itoa_len (by omega) (by omega)
  have HR : Hid (bs (Lib.itoa id) ++ { data := #[32, 104, 111, 108, 100, 32] } ++ f ++ { data := #[32] } ++ t ++ { data := #[32] } ++ bs (Lib.itoa am) = bs (cmdT id 3 f t am ref)) := hide (by
    apply bs_of
    rw [cmdT, if_pos hc, if_neg (by decide)]
    simp [bs_list, wordL])
  go_enter Tryd.func9, Tryd.ntmps9
  go_wp2_with (first | (go_at_call 14; refine (specCommandOk_any _ _ _ _ _ _ _ hf ht).mono ?_; rintro e w1 ⟨rfl, hk1⟩; have HX1 : Hid _ := hide hk1.below; obtain ⟨x0, x1, x2, x3, x4, x5⟩ := boxed6 HX1.out; clear hk1) | (go_at_call 15; refine (l1Dec_all _ _ (by omega) (by omega)).mono ?_; rintro e w2 ⟨rfl, hb2⟩; have HX2 : Hid _ := hide (below_trans HX1.out hb2); obtain ⟨y0, y1, y2, y3, y4, y5⟩ := boxed6 HX2.out; clear hb2))
  have k2 : ∀ y : Later w2, y.w.cell? ⟨w.heap.size, 2, none⟩ = some (.string f) := fun y => below_keeps y.below _ _ y2
  have k3 : ∀ y : Later w2, y.w.cell? ⟨w.heap.size, 3, none⟩ = some (.string t) := fun y => below_keeps y.below _ _ y3
  have k4 : ∀ y : Later w2, y.w.cell? ⟨w.heap.size, 4, none⟩ = some (.int .i64 am) := fun y => below_keeps y.below _ _ y4
  have hne : Nonempty (Later w2) := later_there _
  refine wp_region_later w2 (by kernel_rfl) (by kernel_rfl) ((Below.refl _ _).drew) ?_
  repeat (go_big_quiet_step (first | (go_at_call 15; exact later_of (l1Dec_all _ _ (by omega) (by omega)))))
  refine wpQuiet_nil ?_
  intro _ hw'
  obtain ⟨nx, rfl⟩ := hw'
  go_wp2
  go_ret
  exact ⟨by rw [← HR.out]; rfl, below_trans (below_trans (below_alloc (Below.refl _ _) _) HX2.out) nx.below⟩
set_option maxHeartbeats 4000000 in
theorem specText_4 (id : Int) (f t : ByteArray) (am ref : Int) (w : World) (hf : f.size ≤ maxLen) (ht : t.size ≤ maxLen) (hc : cmdB id 4 f t am ref = true) :
    Calls Tryd.prog 9 #[.agg #[.int .i64 id, .int .i64 4, .string f, .string t, .int .i64 am, .int .i64 ref]] w fun e w' => StrEnd (cmdT id 4 f t am ref) w e w' := by
  obtain ⟨⟨i0, i1⟩, a0, a1⟩ := cmd_de (by omega) hc
  have l1 : (bs (Lib.itoa id)).size ≤ 17 := by rw [bs_size]; exact itoa_len (by omega) (by omega)
  have l2 : (bs (Lib.itoa ref)).size ≤ 17 := by rw [bs_size]; exact itoa_len (by omega) (by omega)
  have HR : Hid (bs (Lib.itoa id) ++ { data := #[32, 116, 97, 107, 101, 32] } ++ bs (Lib.itoa ref) = bs (cmdT id 4 f t am ref)) := hide (by
    apply bs_of
    rw [cmdT, if_pos hc, if_pos (by decide)]
    simp [bs_list, wordL])
  go_enter Tryd.func9, Tryd.ntmps9
  go_wp2_with (first | (go_at_call 14; refine (specCommandOk_any _ _ _ _ _ _ _ hf ht).mono ?_; rintro e w1 ⟨rfl, hk1⟩; have HX1 : Hid _ := hide hk1.below; obtain ⟨x0, x1, x2, x3, x4, x5⟩ := boxed6 HX1.out; clear hk1) | (go_at_call 15; refine (l1Dec_all _ _ (by omega) (by omega)).mono ?_; rintro e w2 ⟨rfl, hb2⟩; have HX2 : Hid _ := hide (below_trans (by first | exact HX2.out | exact HX1.out) hb2); obtain ⟨y0, y1, y2, y3, y4, y5⟩ := boxed6 HX2.out; clear hb2))
  go_ret
  exact ⟨by rw [← HR.out]; rfl, below_trans (below_alloc (Below.refl _ _) _) HX2.out⟩
set_option maxHeartbeats 4000000 in
theorem specText_5 (id : Int) (f t : ByteArray) (am ref : Int) (w : World) (hf : f.size ≤ maxLen) (ht : t.size ≤ maxLen) (hc : cmdB id 5 f t am ref = true) :
    Calls Tryd.prog 9 #[.agg #[.int .i64 id, .int .i64 5, .string f, .string t, .int .i64 am, .int .i64 ref]] w fun e w' => StrEnd (cmdT id 5 f t am ref) w e w' := by
  obtain ⟨⟨i0, i1⟩, a0, a1⟩ := cmd_de (by omega) hc
  have l1 : (bs (Lib.itoa id)).size ≤ 17 := by rw [bs_size]; exact itoa_len (by omega) (by omega)
  have l2 : (bs (Lib.itoa ref)).size ≤ 17 := by rw [bs_size]; exact itoa_len (by omega) (by omega)
  have HR : Hid (bs (Lib.itoa id) ++ { data := #[32, 100, 114, 111, 112, 32] } ++ bs (Lib.itoa ref) = bs (cmdT id 5 f t am ref)) := hide (by
    apply bs_of
    rw [cmdT, if_pos hc, if_pos (by decide)]
    simp [bs_list, wordL])
  go_enter Tryd.func9, Tryd.ntmps9
  go_wp2_with (first | (go_at_call 14; refine (specCommandOk_any _ _ _ _ _ _ _ hf ht).mono ?_; rintro e w1 ⟨rfl, hk1⟩; have HX1 : Hid _ := hide hk1.below; obtain ⟨x0, x1, x2, x3, x4, x5⟩ := boxed6 HX1.out; clear hk1) | (go_at_call 15; refine (l1Dec_all _ _ (by omega) (by omega)).mono ?_; rintro e w2 ⟨rfl, hb2⟩; have HX2 : Hid _ := hide (below_trans (by first | exact HX2.out | exact HX1.out) hb2); obtain ⟨y0, y1, y2, y3, y4, y5⟩ := boxed6 HX2.out; clear hb2))
  go_ret
  exact ⟨by rw [← HR.out]; rfl, below_trans (below_alloc (Below.refl _ _) _) HX2.out⟩
set_option maxHeartbeats 4000000 in
theorem specText_no (id kind : Int) (f t : ByteArray) (am ref : Int) (w : World) (hf : f.size ≤ maxLen) (ht : t.size ≤ maxLen) (hc : cmdB id kind f t am ref = false) :
    Calls Tryd.prog 9 #[.agg #[.int .i64 id, .int .i64 kind, .string f, .string t, .int .i64 am, .int .i64 ref]] w fun e w' => StrEnd (cmdT id kind f t am ref) w e w' := by
  have HR : Hid (cmdT id kind f t am ref = []) := hide (by simp [cmdT, hc])
  go_enter Tryd.func9, Tryd.ntmps9
  go_wp2_with (first | (go_at_call 14; refine (specCommandOk_any _ _ _ _ _ _ _ hf ht).mono ?_; rintro e w1 ⟨rfl, hk1⟩; have HX1 : Hid _ := hide hk1.below; obtain ⟨x0, x1, x2, x3, x4, x5⟩ := boxed6 HX1.out; clear hk1))
  go_ret
  exact ⟨by rw [HR.out]; rfl, below_trans (below_alloc (Below.refl _ _) _) HX1.out⟩
theorem specText_any (id kind : Int) (f t : ByteArray) (am ref : Int) (w : World) (hf : f.size ≤ maxLen) (ht : t.size ≤ maxLen) :
    Calls Tryd.prog 9 #[.agg #[.int .i64 id, .int .i64 kind, .string f, .string t, .int .i64 am, .int .i64 ref]] w fun e w' => StrEnd (cmdT id kind f t am ref) w e w' := by
  cases hc : cmdB id kind f t am ref
  · exact specText_no id kind f t am ref w hf ht hc
  · rcases cmd_kind hc with rfl | rfl | rfl | rfl | rfl
    · exact specText_1 id f t am ref w hf ht hc
    · exact specText_2 id f t am ref w hf ht hc
    · exact specText_3 id f t am ref w hf ht hc
    · exact specText_4 id f t am ref w hf ht hc
    · exact specText_5 id f t am ref w hf ht hc
end Go.Proofs.YtbcodlgpdehdhaaDoor
