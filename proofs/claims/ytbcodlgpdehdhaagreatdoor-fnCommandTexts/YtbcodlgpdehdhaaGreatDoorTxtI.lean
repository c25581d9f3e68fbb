/- The contract of the program's CommandText. -/
import Derived.Test.YtbcodlgpdehdhaaGreatDoorWnt
import Derived.Test.YtbcodlgpdehdhaaGreatDoorGo
import Derived.Test.YtbcodlgpdehdhaaGreatDoorLib
import Derived.Lib.AppendIntMem
import Derived.Maps.AppendAt
import Derived.OwnWalk
namespace Go.Proofs.YtbcodlgpdehdhaaGreatDoor
open Go.ChangeShapes Go.WideShapes Go.ChangeAt Go.RowKit
set_option linter.unusedVariables false
/-- what stands while the first region is gone through -/
def HeldA (B k : Nat) (v0 v1 u : Value) (W0 x : World) : Prop := x.cell? ⟨B, 0, none⟩ = some v0 ∧ x.cell? ⟨B, 1, none⟩ = some v1 ∧ x.cell? ⟨0, k, none⟩ = some u ∧ Hid (Below W0.heap.size W0 x)
theorem HeldA.of {B k : Nat} {v0 v1 u : Value} {W0 x : World} (h0 : W0.cell? ⟨B, 0, none⟩ = some v0) (h1 : W0.cell? ⟨B, 1, none⟩ = some v1) (hu : W0.cell? ⟨0, k, none⟩ = some u) (b : Below W0.heap.size W0 x) : HeldA B k v0 v1 u W0 x := ⟨below_keeps b _ _ h0, below_keeps b _ _ h1, below_keeps b _ _ hu, hide b⟩
theorem HeldA.on {B k : Nat} {v0 v1 u : Value} {W0 x y : World} (h : HeldA B k v0 v1 u W0 x) (b : Below x.heap.size x y) : HeldA B k v0 v1 u W0 y := ⟨below_keeps b _ _ h.1, below_keeps b _ _ h.2.1, below_keeps b _ _ h.2.2.1, hide (below_trans h.2.2.2.out b)⟩
theorem join_cells5 (w4 : World) (a b c d e : ByteArray) (zs : Array Value) : ∀ (j : Nat) x, [a, b, c, d, e][j]? = some x → (((w4.alloc (.cells #[.string c, .string d, .string e] 9)).alloc (.cells (#[.string a, .string b] ++ (#[.string c, .string d, .string e] ++ zs)) 9)).drew).cell? ⟨w4.heap.size + 1, 0 + j, none⟩ = some (.string x) := by
  intro j x hj
  have key : ∀ (y : World) (o : Array Value), ∀ j, ((y.alloc (.cells o 9)).drew).cell? ⟨y.heap.size, j, none⟩ = o[j]? := fun y o j => by
    show (y.alloc (.cells o 9)).cell? ⟨y.heap.size, j, none⟩ = o[j]?
    simp
  have hz : (w4.alloc (.cells #[.string c, .string d, .string e] 9)).heap.size = w4.heap.size + 1 := by simp
  rw [← hz, key, Nat.zero_add]
  match j, hj with
  | 0, hj => simp at hj; subst hj; rw [Array.getElem?_append_left (by simp)]; rfl
  | 1, hj => simp at hj; subst hj; rw [Array.getElem?_append_left (by simp)]; rfl
  | 2, hj => simp at hj; subst hj; rw [Array.getElem?_append_right (by simp)]; rw [Array.getElem?_append_left (by simp)]; rfl
  | 3, hj => simp at hj; subst hj; rw [Array.getElem?_append_right (by simp)]; rw [Array.getElem?_append_left (by simp)]; rfl
  | 4, hj => simp at hj; subst hj; rw [Array.getElem?_append_right (by simp)]; rw [Array.getElem?_append_left (by simp)]; rfl
def HeldB (B A : Nat) (v2 v3 v4 s0 s1 : Value) (W0 x : World) : Prop := x.cell? ⟨B, 2, none⟩ = some v2 ∧ x.cell? ⟨B, 3, none⟩ = some v3 ∧ x.cell? ⟨B, 4, none⟩ = some v4 ∧ x.cell? ⟨A, 0, none⟩ = some s0 ∧ x.cell? ⟨A, 1, none⟩ = some s1 ∧ Hid (Below W0.heap.size W0 x)
theorem HeldB.of {B A : Nat} {v2 v3 v4 s0 s1 : Value} {W0 x : World} (h2 : W0.cell? ⟨B, 2, none⟩ = some v2) (h3 : W0.cell? ⟨B, 3, none⟩ = some v3) (h4 : W0.cell? ⟨B, 4, none⟩ = some v4) (k0 : W0.cell? ⟨A, 0, none⟩ = some s0) (k1 : W0.cell? ⟨A, 1, none⟩ = some s1) (b : Below W0.heap.size W0 x) : HeldB B A v2 v3 v4 s0 s1 W0 x :=
  ⟨below_keeps b _ _ h2, below_keeps b _ _ h3, below_keeps b _ _ h4, below_keeps b _ _ k0, below_keeps b _ _ k1, hide b⟩
theorem HeldB.on {B A : Nat} {v2 v3 v4 s0 s1 : Value} {W0 x y : World} (h : HeldB B A v2 v3 v4 s0 s1 W0 x) (b : Below x.heap.size x y) : HeldB B A v2 v3 v4 s0 s1 W0 y :=
  ⟨below_keeps b _ _ h.1, below_keeps b _ _ h.2.1, below_keeps b _ _ h.2.2.1, below_keeps b _ _ h.2.2.2.1, below_keeps b _ _ h.2.2.2.2.1, hide (below_trans h.2.2.2.2.2.out b)⟩
set_option maxRecDepth 100000 in
set_option maxHeartbeats 8000000 in
theorem implText_1 (id : Int) (f t : ByteArray) (am ref : Int) (w : World) (hf : f.size ≤ maxLen) (ht : t.size ≤ maxLen) (hc : cmdB id 1 f t am ref = true) (hT : Tab w) (hW : Words w) :
    Calls Tryz.prog 6 #[.agg #[.int .i64 id, .int .i64 1, .string f, .string t, .int .i64 am, .int .i64 ref]] w fun e w' => StrEnd (cmdT id 1 f t am ref) w e w' := by
  have HT : Hid _ := hide hT
  have HW : Hid _ := hide hW
  clear hT hW
  obtain ⟨⟨i0, i1⟩, sf, st, a0, a1⟩ := cmd_abc (by omega) hc
  go_enter Tryz.func6, Tryz.ntmps6
  go_wp2_with (first | (go_at_call 9; refine (implCommandOk_any _ _ _ _ _ _ _ hf ht).mono ?_; rintro e w1 ⟨rfl, hk1⟩; have HX1 : Hid _ := hide hk1.below; obtain ⟨x0, x1, x2, x3, x4, x5⟩ := boxed6 HX1.out; clear hk1))
  have HB1 : Hid (Below w.heap.size w w1) := hide (below_trans (below_alloc (Below.refl _ _) _) HX1.out)
  have u1 := (HW.out.below HB1.out).1
  go_region_held (fun x => x.cell? ⟨w.heap.size, 0, none⟩ = some (.int .i64 id) ∧ x.cell? ⟨w.heap.size, 1, none⟩ = some (.int .i64 1) ∧ x.cell? ⟨0, 1, none⟩ = some (.string (wordB 1)) ∧ Hid (Below w1.heap.size w1 x))
    (first | assumption | exact HeldA.of x0 x1 u1 (Below.refl _ _).drew | exact HeldA.on (by assumption) (by assumption) | exact HeldA.on (by assumption) (below_alloc (Below.refl _ _) _))
    (first | (go_at_call 15; refine (numberText_any _ _ (by omega) (by omega) (HT.out.below (below_trans HB1.out (by assumption : HeldA w.heap.size 1 (.int .i64 id) (.int .i64 1) (.string (wordB 1)) w1 _).2.2.2.out))).mono ?_; rintro e w2 ⟨rfl, hb2⟩))
  have HX3 : Hid (Below w1.heap.size w1 (w2.alloc (.cells #[.string (bs (Lib.itoa id)), .string (wordB 1)] 9))) := hide (below_trans (Below.refl _ _).drew (below_alloc hb2 _))
  have r0 : (w2.alloc (.cells #[.string (bs (Lib.itoa id)), .string (wordB 1)] 9)).cell? ⟨w2.heap.size, 0, none⟩ = some (.string (bs (Lib.itoa id))) := by simp
  have r1 : (w2.alloc (.cells #[.string (bs (Lib.itoa id)), .string (wordB 1)] 9)).cell? ⟨w2.heap.size, 1, none⟩ = some (.string (wordB 1)) := by simp
  have r2 : w2.heap.size < (w2.alloc (.cells #[.string (bs (Lib.itoa id)), .string (wordB 1)] 9)).heap.size := by simp
  rename_i hold
  clear hold hb2
  generalize (w2.alloc (.cells #[.string (bs (Lib.itoa id)), .string (wordB 1)] 9)) = w3 at *
  generalize w2.heap.size = A at *
  have HB3 : Hid (Below w.heap.size w w3) := hide (below_trans HB1.out HX3.out)
  have y1 := below_keeps HX3.out _ _ x1
  have y2 := below_keeps HX3.out _ _ x2
  have y3 := below_keeps HX3.out _ _ x3
  have y4 := below_keeps HX3.out _ _ x4
  have y5 := below_keeps HX3.out _ _ x5
  clear x0 x1 x2 x3 x4 x5 u1
  go_wp2_with go_in
  go_region_held (fun x => x.cell? ⟨w.heap.size, 2, none⟩ = some (.string f) ∧ x.cell? ⟨w.heap.size, 3, none⟩ = some (.string t) ∧ x.cell? ⟨w.heap.size, 4, none⟩ = some (.int .i64 am) ∧ x.cell? ⟨A, 0, none⟩ = some (.string (bs (Lib.itoa id))) ∧ x.cell? ⟨A, 1, none⟩ = some (.string (wordB 1)) ∧ Hid (Below w3.heap.size w3 x))
    (first | assumption | exact HeldB.of y2 y3 y4 r0 r1 (Below.refl _ _).drew | exact HeldB.on (by assumption) (by assumption) | exact HeldB.on (by assumption) (below_alloc (Below.refl _ _) _) | exact HeldB.on (by assumption) (below_alloc (Below.refl _ _).drew _))
    (first | (go_at_call 15; refine (numberText_any _ _ (by omega) (by omega) (HT.out.below (below_trans HB3.out (by assumption : HeldB w.heap.size A (.string f) (.string t) (.int .i64 am) (.string (bs (Lib.itoa id))) (.string (wordB 1)) w3 _).2.2.2.2.2.out))).mono ?_; rintro e w4 ⟨rfl, hb4⟩))
  have HX5 : Hid _ := hide (below_trans HB3.out (by assumption : HeldB w.heap.size A (.string f) (.string t) (.int .i64 am) (.string (bs (Lib.itoa id))) (.string (wordB 1)) w3 _).2.2.2.2.2.out)
  have hcells := join_cells5 w4 (bs (Lib.itoa id)) (wordB 1) f t (bs (Lib.itoa am)) (Builtin.zeroCells #[Value.string { data := #[] }] ((Question.appendCap 5 2 9).cut (w4.tape w4.drawn (Question.appendCap 5 2 9)) - 5))
  have hcap : 5 ≤ (Question.appendCap 5 2 9).cut (w4.tape w4.drawn (Question.appendCap 5 2 9)) := grownCap_ge w4 5 2 9
  have hsz : w4.heap.size + 1 < (((w4.alloc (.cells #[.string f, .string t, .string (bs (Lib.itoa am))] 9)).alloc (.cells (#[.string (bs (Lib.itoa id)), .string (wordB 1)] ++ (#[.string f, .string t, .string (bs (Lib.itoa am))] ++ Builtin.zeroCells #[Value.string { data := #[] }] ((Question.appendCap 5 2 9).cut (w4.tape w4.drawn (Question.appendCap 5 2 9)) - 5))) 9)).drew).heap.size := by
    show _ < ((w4.alloc _).alloc _).heap.size
    simp
  rename_i hold
  clear hold hb4
  generalize (((w4.alloc (.cells #[.string f, .string t, .string (bs (Lib.itoa am))] 9)).alloc (.cells (#[.string (bs (Lib.itoa id)), .string (wordB 1)] ++ (#[.string f, .string t, .string (bs (Lib.itoa am))] ++ Builtin.zeroCells #[Value.string { data := #[] }] ((Question.appendCap 5 2 9).cut (w4.tape w4.drawn (Question.appendCap 5 2 9)) - 5))) 9)).drew) = w5 at *
  generalize (Question.appendCap 5 2 9).cut (w4.tape w4.drawn (Question.appendCap 5 2 9)) = cap at *
  generalize w4.heap.size + 1 = A5 at *
  have l1 : (Lib.itoa id).length ≤ 17 := itoa_len (by omega) (by omega)
  have l2 : (Lib.itoa am).length ≤ 17 := itoa_len (by omega) (by omega)
  have HJ : Hid (Lib.join ([bs (Lib.itoa id), wordB 1, f, t, bs (Lib.itoa am)].map (·.data.toList)) (({ data := #[32] } : ByteArray).data.toList) = cmdT id 1 f t am ref) := hide (by
    rw [cmdT, if_pos hc, if_neg (by decide)]
    simp [Lib.join, List.intercalate, bs_list, wordB])
  have hlen : (Lib.join ([bs (Lib.itoa id), wordB 1, f, t, bs (Lib.itoa am)].map (·.data.toList)) (({ data := #[32] } : ByteArray).data.toList)).length ≤ 140737488355328 := by
    rw [HJ.out, cmdT, if_pos hc, if_neg (by decide)]
    simp [wordL]
    omega
  go_wp2_with fail
  refine (Tryz.strings_Join A5 0 cap [bs (Lib.itoa id), wordB 1, f, t, bs (Lib.itoa am)] { data := #[32] } w5 hcells hsz (by simp) (by simpa using hcap) hlen).mono ?_
  rintro e w6 ⟨rfl, hb6⟩
  have HX6 : Hid _ := hide (below_trans HX5.out hb6)
  clear hb6 hlen hcells
  go_wp2
  go_ret
  exact ⟨by rw [← HJ.out]; rfl, HX6.out⟩
set_option maxRecDepth 100000 in
set_option maxHeartbeats 8000000 in
theorem implText_2 (id : Int) (f t : ByteArray) (am ref : Int) (w : World) (hf : f.size ≤ maxLen) (ht : t.size ≤ maxLen) (hc : cmdB id 2 f t am ref = true) (hT : Tab w) (hW : Words w) :
    Calls Tryz.prog 6 #[.agg #[.int .i64 id, .int .i64 2, .string f, .string t, .int .i64 am, .int .i64 ref]] w fun e w' => StrEnd (cmdT id 2 f t am ref) w e w' := by
  have HT : Hid _ := hide hT
  have HW : Hid _ := hide hW
  clear hT hW
  obtain ⟨⟨i0, i1⟩, sf, st, a0, a1⟩ := cmd_abc (by omega) hc
  go_enter Tryz.func6, Tryz.ntmps6
  go_wp2_with (first | (go_at_call 9; refine (implCommandOk_any _ _ _ _ _ _ _ hf ht).mono ?_; rintro e w1 ⟨rfl, hk1⟩; have HX1 : Hid _ := hide hk1.below; obtain ⟨x0, x1, x2, x3, x4, x5⟩ := boxed6 HX1.out; clear hk1))
  have HB1 : Hid (Below w.heap.size w w1) := hide (below_trans (below_alloc (Below.refl _ _) _) HX1.out)
  have u2 := (HW.out.below HB1.out).2.1
  go_region_held (fun x => x.cell? ⟨w.heap.size, 0, none⟩ = some (.int .i64 id) ∧ x.cell? ⟨w.heap.size, 1, none⟩ = some (.int .i64 2) ∧ x.cell? ⟨0, 2, none⟩ = some (.string (wordB 2)) ∧ Hid (Below w1.heap.size w1 x))
    (first | assumption | exact HeldA.of x0 x1 u2 (Below.refl _ _).drew | exact HeldA.on (by assumption) (by assumption) | exact HeldA.on (by assumption) (below_alloc (Below.refl _ _) _))
    (first | (go_at_call 15; refine (numberText_any _ _ (by omega) (by omega) (HT.out.below (below_trans HB1.out (by assumption : HeldA w.heap.size 2 (.int .i64 id) (.int .i64 2) (.string (wordB 2)) w1 _).2.2.2.out))).mono ?_; rintro e w2 ⟨rfl, hb2⟩))
  have HX3 : Hid (Below w1.heap.size w1 (w2.alloc (.cells #[.string (bs (Lib.itoa id)), .string (wordB 2)] 9))) := hide (below_trans (Below.refl _ _).drew (below_alloc hb2 _))
  have r0 : (w2.alloc (.cells #[.string (bs (Lib.itoa id)), .string (wordB 2)] 9)).cell? ⟨w2.heap.size, 0, none⟩ = some (.string (bs (Lib.itoa id))) := by simp
  have r1 : (w2.alloc (.cells #[.string (bs (Lib.itoa id)), .string (wordB 2)] 9)).cell? ⟨w2.heap.size, 1, none⟩ = some (.string (wordB 2)) := by simp
  have r2 : w2.heap.size < (w2.alloc (.cells #[.string (bs (Lib.itoa id)), .string (wordB 2)] 9)).heap.size := by simp
  rename_i hold
  clear hold hb2
  generalize (w2.alloc (.cells #[.string (bs (Lib.itoa id)), .string (wordB 2)] 9)) = w3 at *
  generalize w2.heap.size = A at *
  have HB3 : Hid (Below w.heap.size w w3) := hide (below_trans HB1.out HX3.out)
  have y1 := below_keeps HX3.out _ _ x1
  have y2 := below_keeps HX3.out _ _ x2
  have y3 := below_keeps HX3.out _ _ x3
  have y4 := below_keeps HX3.out _ _ x4
  have y5 := below_keeps HX3.out _ _ x5
  clear x0 x1 x2 x3 x4 x5 u2
  go_wp2_with go_in
  go_region_held (fun x => x.cell? ⟨w.heap.size, 2, none⟩ = some (.string f) ∧ x.cell? ⟨w.heap.size, 3, none⟩ = some (.string t) ∧ x.cell? ⟨w.heap.size, 4, none⟩ = some (.int .i64 am) ∧ x.cell? ⟨A, 0, none⟩ = some (.string (bs (Lib.itoa id))) ∧ x.cell? ⟨A, 1, none⟩ = some (.string (wordB 2)) ∧ Hid (Below w3.heap.size w3 x))
    (first | assumption | exact HeldB.of y2 y3 y4 r0 r1 (Below.refl _ _).drew | exact HeldB.on (by assumption) (by assumption) | exact HeldB.on (by assumption) (below_alloc (Below.refl _ _) _) | exact HeldB.on (by assumption) (below_alloc (Below.refl _ _).drew _))
    (first | (go_at_call 15; refine (numberText_any _ _ (by omega) (by omega) (HT.out.below (below_trans HB3.out (by assumption : HeldB w.heap.size A (.string f) (.string t) (.int .i64 am) (.string (bs (Lib.itoa id))) (.string (wordB 2)) w3 _).2.2.2.2.2.out))).mono ?_; rintro e w4 ⟨rfl, hb4⟩))
  have HX5 : Hid _ := hide (below_trans HB3.out (by assumption : HeldB w.heap.size A (.string f) (.string t) (.int .i64 am) (.string (bs (Lib.itoa id))) (.string (wordB 2)) w3 _).2.2.2.2.2.out)
  have hcells := join_cells5 w4 (bs (Lib.itoa id)) (wordB 2) f t (bs (Lib.itoa am)) (Builtin.zeroCells #[Value.string { data := #[] }] ((Question.appendCap 5 2 9).cut (w4.tape w4.drawn (Question.appendCap 5 2 9)) - 5))
  have hcap : 5 ≤ (Question.appendCap 5 2 9).cut (w4.tape w4.drawn (Question.appendCap 5 2 9)) := grownCap_ge w4 5 2 9
  have hsz : w4.heap.size + 1 < (((w4.alloc (.cells #[.string f, .string t, .string (bs (Lib.itoa am))] 9)).alloc (.cells (#[.string (bs (Lib.itoa id)), .string (wordB 2)] ++ (#[.string f, .string t, .string (bs (Lib.itoa am))] ++ Builtin.zeroCells #[Value.string { data := #[] }] ((Question.appendCap 5 2 9).cut (w4.tape w4.drawn (Question.appendCap 5 2 9)) - 5))) 9)).drew).heap.size := by
    show _ < ((w4.alloc _).alloc _).heap.size
    simp
  rename_i hold
  clear hold hb4
  generalize (((w4.alloc (.cells #[.string f, .string t, .string (bs (Lib.itoa am))] 9)).alloc (.cells (#[.string (bs (Lib.itoa id)), .string (wordB 2)] ++ (#[.string f, .string t, .string (bs (Lib.itoa am))] ++ Builtin.zeroCells #[Value.string { data := #[] }] ((Question.appendCap 5 2 9).cut (w4.tape w4.drawn (Question.appendCap 5 2 9)) - 5))) 9)).drew) = w5 at *
  generalize (Question.appendCap 5 2 9).cut (w4.tape w4.drawn (Question.appendCap 5 2 9)) = cap at *
  generalize w4.heap.size + 1 = A5 at *
  have l1 : (Lib.itoa id).length ≤ 17 := itoa_len (by omega) (by omega)
  have l2 : (Lib.itoa am).length ≤ 17 := itoa_len (by omega) (by omega)
  have HJ : Hid (Lib.join ([bs (Lib.itoa id), wordB 2, f, t, bs (Lib.itoa am)].map (·.data.toList)) (({ data := #[32] } : ByteArray).data.toList) = cmdT id 2 f t am ref) := hide (by
    rw [cmdT, if_pos hc, if_neg (by decide)]
    simp [Lib.join, List.intercalate, bs_list, wordB])
  have hlen : (Lib.join ([bs (Lib.itoa id), wordB 2, f, t, bs (Lib.itoa am)].map (·.data.toList)) (({ data := #[32] } : ByteArray).data.toList)).length ≤ 140737488355328 := by
    rw [HJ.out, cmdT, if_pos hc, if_neg (by decide)]
    simp [wordL]
    omega
  go_wp2_with fail
  refine (Tryz.strings_Join A5 0 cap [bs (Lib.itoa id), wordB 2, f, t, bs (Lib.itoa am)] { data := #[32] } w5 hcells hsz (by simp) (by simpa using hcap) hlen).mono ?_
  rintro e w6 ⟨rfl, hb6⟩
  have HX6 : Hid _ := hide (below_trans HX5.out hb6)
  clear hb6 hlen hcells
  go_wp2
  go_ret
  exact ⟨by rw [← HJ.out]; rfl, HX6.out⟩
set_option maxRecDepth 100000 in
set_option maxHeartbeats 8000000 in
theorem implText_3 (id : Int) (f t : ByteArray) (am ref : Int) (w : World) (hf : f.size ≤ maxLen) (ht : t.size ≤ maxLen) (hc : cmdB id 3 f t am ref = true) (hT : Tab w) (hW : Words w) :
    Calls Tryz.prog 6 #[.agg #[.int .i64 id, .int .i64 3, .string f, .string t, .int .i64 am, .int .i64 ref]] w fun e w' => StrEnd (cmdT id 3 f t am ref) w e w' := by
  have HT : Hid _ := hide hT
  have HW : Hid _ := hide hW
  clear hT hW
  obtain ⟨⟨i0, i1⟩, sf, st, a0, a1⟩ := cmd_abc (by omega) hc
  go_enter Tryz.func6, Tryz.ntmps6
  go_wp2_with (first | (go_at_call 9; refine (implCommandOk_any _ _ _ _ _ _ _ hf ht).mono ?_; rintro e w1 ⟨rfl, hk1⟩; have HX1 : Hid _ := hide hk1.below; obtain ⟨x0, x1, x2, x3, x4, x5⟩ := boxed6 HX1.out; clear hk1))
  have HB1 : Hid (Below w.heap.size w w1) := hide (below_trans (below_alloc (Below.refl _ _) _) HX1.out)
  have u3 := (HW.out.below HB1.out).2.2.1
  go_region_held (fun x => x.cell? ⟨w.heap.size, 0, none⟩ = some (.int .i64 id) ∧ x.cell? ⟨w.heap.size, 1, none⟩ = some (.int .i64 3) ∧ x.cell? ⟨0, 3, none⟩ = some (.string (wordB 3)) ∧ Hid (Below w1.heap.size w1 x))
    (first | assumption | exact HeldA.of x0 x1 u3 (Below.refl _ _).drew | exact HeldA.on (by assumption) (by assumption) | exact HeldA.on (by assumption) (below_alloc (Below.refl _ _) _))
    (first | (go_at_call 15; refine (numberText_any _ _ (by omega) (by omega) (HT.out.below (below_trans HB1.out (by assumption : HeldA w.heap.size 3 (.int .i64 id) (.int .i64 3) (.string (wordB 3)) w1 _).2.2.2.out))).mono ?_; rintro e w2 ⟨rfl, hb2⟩))
  have HX3 : Hid (Below w1.heap.size w1 (w2.alloc (.cells #[.string (bs (Lib.itoa id)), .string (wordB 3)] 9))) := hide (below_trans (Below.refl _ _).drew (below_alloc hb2 _))
  have r0 : (w2.alloc (.cells #[.string (bs (Lib.itoa id)), .string (wordB 3)] 9)).cell? ⟨w2.heap.size, 0, none⟩ = some (.string (bs (Lib.itoa id))) := by simp
  have r1 : (w2.alloc (.cells #[.string (bs (Lib.itoa id)), .string (wordB 3)] 9)).cell? ⟨w2.heap.size, 1, none⟩ = some (.string (wordB 3)) := by simp
  have r2 : w2.heap.size < (w2.alloc (.cells #[.string (bs (Lib.itoa id)), .string (wordB 3)] 9)).heap.size := by simp
  rename_i hold
  clear hold hb2
  generalize (w2.alloc (.cells #[.string (bs (Lib.itoa id)), .string (wordB 3)] 9)) = w3 at *
  generalize w2.heap.size = A at *
  have HB3 : Hid (Below w.heap.size w w3) := hide (below_trans HB1.out HX3.out)
  have y1 := below_keeps HX3.out _ _ x1
  have y2 := below_keeps HX3.out _ _ x2
  have y3 := below_keeps HX3.out _ _ x3
  have y4 := below_keeps HX3.out _ _ x4
  have y5 := below_keeps HX3.out _ _ x5
  clear x0 x1 x2 x3 x4 x5 u3
  go_wp2_with go_in
  go_region_held (fun x => x.cell? ⟨w.heap.size, 2, none⟩ = some (.string f) ∧ x.cell? ⟨w.heap.size, 3, none⟩ = some (.string t) ∧ x.cell? ⟨w.heap.size, 4, none⟩ = some (.int .i64 am) ∧ x.cell? ⟨A, 0, none⟩ = some (.string (bs (Lib.itoa id))) ∧ x.cell? ⟨A, 1, none⟩ = some (.string (wordB 3)) ∧ Hid (Below w3.heap.size w3 x))
    (first | assumption | exact HeldB.of y2 y3 y4 r0 r1 (Below.refl _ _).drew | exact HeldB.on (by assumption) (by assumption) | exact HeldB.on (by assumption) (below_alloc (Below.refl _ _) _) | exact HeldB.on (by assumption) (below_alloc (Below.refl _ _).drew _))
    (first | (go_at_call 15; refine (numberText_any _ _ (by omega) (by omega) (HT.out.below (below_trans HB3.out (by assumption : HeldB w.heap.size A (.string f) (.string t) (.int .i64 am) (.string (bs (Lib.itoa id))) (.string (wordB 3)) w3 _).2.2.2.2.2.out))).mono ?_; rintro e w4 ⟨rfl, hb4⟩))
  have HX5 : Hid _ := hide (below_trans HB3.out (by assumption : HeldB w.heap.size A (.string f) (.string t) (.int .i64 am) (.string (bs (Lib.itoa id))) (.string (wordB 3)) w3 _).2.2.2.2.2.out)
  have hcells := join_cells5 w4 (bs (Lib.itoa id)) (wordB 3) f t (bs (Lib.itoa am)) (Builtin.zeroCells #[Value.string { data := #[] }] ((Question.appendCap 5 2 9).cut (w4.tape w4.drawn (Question.appendCap 5 2 9)) - 5))
  have hcap : 5 ≤ (Question.appendCap 5 2 9).cut (w4.tape w4.drawn (Question.appendCap 5 2 9)) := grownCap_ge w4 5 2 9
  have hsz : w4.heap.size + 1 < (((w4.alloc (.cells #[.string f, .string t, .string (bs (Lib.itoa am))] 9)).alloc (.cells (#[.string (bs (Lib.itoa id)), .string (wordB 3)] ++ (#[.string f, .string t, .string (bs (Lib.itoa am))] ++ Builtin.zeroCells #[Value.string { data := #[] }] ((Question.appendCap 5 2 9).cut (w4.tape w4.drawn (Question.appendCap 5 2 9)) - 5))) 9)).drew).heap.size := by
    show _ < ((w4.alloc _).alloc _).heap.size
    simp
  rename_i hold
  clear hold hb4
  generalize (((w4.alloc (.cells #[.string f, .string t, .string (bs (Lib.itoa am))] 9)).alloc (.cells (#[.string (bs (Lib.itoa id)), .string (wordB 3)] ++ (#[.string f, .string t, .string (bs (Lib.itoa am))] ++ Builtin.zeroCells #[Value.string { data := #[] }] ((Question.appendCap 5 2 9).cut (w4.tape w4.drawn (Question.appendCap 5 2 9)) - 5))) 9)).drew) = w5 at *
  generalize (Question.appendCap 5 2 9).cut (w4.tape w4.drawn (Question.appendCap 5 2 9)) = cap at *
  generalize w4.heap.size + 1 = A5 at *
  have l1 : (Lib.itoa id).length ≤ 17 := itoa_len (by omega) (by omega)
  have l2 : (Lib.itoa am).length ≤ 17 := itoa_len (by omega) (by omega)
  have HJ : Hid (Lib.join ([bs (Lib.itoa id), wordB 3, f, t, bs (Lib.itoa am)].map (·.data.toList)) (({ data := #[32] } : ByteArray).data.toList) = cmdT id 3 f t am ref) := hide (by
    rw [cmdT, if_pos hc, if_neg (by decide)]
    simp [Lib.join, List.intercalate, bs_list, wordB])
  have hlen : (Lib.join ([bs (Lib.itoa id), wordB 3, f, t, bs (Lib.itoa am)].map (·.data.toList)) (({ data := #[32] } : ByteArray).data.toList)).length ≤ 140737488355328 := by
    rw [HJ.out, cmdT, if_pos hc, if_neg (by decide)]
    simp [wordL]
    omega
  go_wp2_with fail
  refine (Tryz.strings_Join A5 0 cap [bs (Lib.itoa id), wordB 3, f, t, bs (Lib.itoa am)] { data := #[32] } w5 hcells hsz (by simp) (by simpa using hcap) hlen).mono ?_
  rintro e w6 ⟨rfl, hb6⟩
  have HX6 : Hid _ := hide (below_trans HX5.out hb6)
  clear hb6 hlen hcells
  go_wp2
  go_ret
  exact ⟨by rw [← HJ.out]; rfl, HX6.out⟩
theorem join_cells3 (w4 : World) (a b c : ByteArray) (zs : Array Value) : ∀ (j : Nat) x, [a, b, c][j]? = some x → (((w4.alloc (.cells #[.string c] 9)).alloc (.cells (#[.string a, .string b, .string c] ++ zs) 9)).drew).cell? ⟨w4.heap.size + 1, 0 + j, none⟩ = some (.string x) := by
  intro j x hj
  have key : ∀ (y : World) (o : Array Value), ∀ j, ((y.alloc (.cells o 9)).drew).cell? ⟨y.heap.size, j, none⟩ = o[j]? := fun y o j => by
    show (y.alloc (.cells o 9)).cell? ⟨y.heap.size, j, none⟩ = o[j]?
    simp
  have hz : (w4.alloc (.cells #[.string c] 9)).heap.size = w4.heap.size + 1 := by simp
  rw [← hz, key, Nat.zero_add]
  match j, hj with
  | 0, hj => simp at hj; subst hj; rw [Array.getElem?_append_left (by simp)]; rfl
  | 1, hj => simp at hj; subst hj; rw [Array.getElem?_append_left (by simp)]; rfl
  | 2, hj => simp at hj; subst hj; rw [Array.getElem?_append_left (by simp)]; rfl
set_option maxRecDepth 100000 in
set_option maxHeartbeats 8000000 in
theorem implText_4 (id : Int) (f t : ByteArray) (am ref : Int) (w : World) (hf : f.size ≤ maxLen) (ht : t.size ≤ maxLen) (hc : cmdB id 4 f t am ref = true) (hT : Tab w) (hW : Words w) :
    Calls Tryz.prog 6 #[.agg #[.int .i64 id, .int .i64 4, .string f, .string t, .int .i64 am, .int .i64 ref]] w fun e w' => StrEnd (cmdT id 4 f t am ref) w e w' := by
  have HT : Hid _ := hide hT
  have HW : Hid _ := hide hW
  clear hT hW
  obtain ⟨⟨i0, i1⟩, a0, a1⟩ := cmd_de (by omega) hc
  go_enter Tryz.func6, Tryz.ntmps6
  go_wp2_with (first | (go_at_call 9; refine (implCommandOk_any _ _ _ _ _ _ _ hf ht).mono ?_; rintro e w1 ⟨rfl, hk1⟩; have HX1 : Hid _ := hide hk1.below; obtain ⟨x0, x1, x2, x3, x4, x5⟩ := boxed6 HX1.out; clear hk1))
  have HB1 : Hid (Below w.heap.size w w1) := hide (below_trans (below_alloc (Below.refl _ _) _) HX1.out)
  have u4 := (HW.out.below HB1.out).2.2.2.1
  go_region_held (fun x => x.cell? ⟨w.heap.size, 0, none⟩ = some (.int .i64 id) ∧ x.cell? ⟨w.heap.size, 1, none⟩ = some (.int .i64 4) ∧ x.cell? ⟨0, 4, none⟩ = some (.string (wordB 4)) ∧ Hid (Below w1.heap.size w1 x))
    (first | assumption | exact HeldA.of x0 x1 u4 (Below.refl _ _).drew | exact HeldA.on (by assumption) (by assumption) | exact HeldA.on (by assumption) (below_alloc (Below.refl _ _) _))
    (first | (go_at_call 15; refine (numberText_any _ _ (by omega) (by omega) (HT.out.below (below_trans HB1.out (by assumption : HeldA w.heap.size 4 (.int .i64 id) (.int .i64 4) (.string (wordB 4)) w1 _).2.2.2.out))).mono ?_; rintro e w2 ⟨rfl, hb2⟩))
  have HX3 : Hid (Below w1.heap.size w1 (w2.alloc (.cells #[.string (bs (Lib.itoa id)), .string (wordB 4)] 9))) := hide (below_trans (Below.refl _ _).drew (below_alloc hb2 _))
  have r0 : (w2.alloc (.cells #[.string (bs (Lib.itoa id)), .string (wordB 4)] 9)).cell? ⟨w2.heap.size, 0, none⟩ = some (.string (bs (Lib.itoa id))) := by simp
  have r1 : (w2.alloc (.cells #[.string (bs (Lib.itoa id)), .string (wordB 4)] 9)).cell? ⟨w2.heap.size, 1, none⟩ = some (.string (wordB 4)) := by simp
  have r2 : w2.heap.size < (w2.alloc (.cells #[.string (bs (Lib.itoa id)), .string (wordB 4)] 9)).heap.size := by simp
  rename_i hold
  clear hold hb2
  generalize (w2.alloc (.cells #[.string (bs (Lib.itoa id)), .string (wordB 4)] 9)) = w3 at *
  generalize w2.heap.size = A at *
  have HB3 : Hid (Below w.heap.size w w3) := hide (below_trans HB1.out HX3.out)
  have y1 := below_keeps HX3.out _ _ x1
  have y5 := below_keeps HX3.out _ _ x5
  clear x0 x1 x2 x3 x4 x5 u4
  go_wp2_with (first | (go_at_call 15; refine (numberText_any _ _ (by omega) (by omega) (HT.out.below HB3.out)).mono ?_; rintro e w4 ⟨rfl, hb4⟩; have HB4 : Hid _ := hide (below_trans HB3.out hb4); have s0 := below_keeps hb4 _ _ r0; have s1 := below_keeps hb4 _ _ r1; have hA4 : A < w4.heap.size := (cell_lt s0); clear hb4) | (go_at_call 17; fail) | (go_at_call 16; go_in))
  have HX5 : Hid (Below w.heap.size w (((w4.alloc (.cells #[.string (bs (Lib.itoa ref))] 9)).alloc (.cells (#[.string (bs (Lib.itoa id)), .string (wordB 4), .string (bs (Lib.itoa ref))] ++ Builtin.zeroCells #[Value.string { data := #[] }] ((Question.appendCap 3 2 9).cut (w4.tape w4.drawn (Question.appendCap 3 2 9)) - 3)) 9)).drew)) := hide (below_trans HB4.out ((below_alloc (below_alloc (Below.refl _ _) _) _).drew))
  have hcells := join_cells3 w4 (bs (Lib.itoa id)) (wordB 4) (bs (Lib.itoa ref)) (Builtin.zeroCells #[Value.string { data := #[] }] ((Question.appendCap 3 2 9).cut (w4.tape w4.drawn (Question.appendCap 3 2 9)) - 3))
  have hcap : 3 ≤ (Question.appendCap 3 2 9).cut (w4.tape w4.drawn (Question.appendCap 3 2 9)) := grownCap_ge w4 3 2 9
  have hsz : w4.heap.size + 1 < (((w4.alloc (.cells #[.string (bs (Lib.itoa ref))] 9)).alloc (.cells (#[.string (bs (Lib.itoa id)), .string (wordB 4), .string (bs (Lib.itoa ref))] ++ Builtin.zeroCells #[Value.string { data := #[] }] ((Question.appendCap 3 2 9).cut (w4.tape w4.drawn (Question.appendCap 3 2 9)) - 3)) 9)).drew).heap.size := by
    show _ < ((w4.alloc _).alloc _).heap.size
    simp
  generalize (((w4.alloc (.cells #[.string (bs (Lib.itoa ref))] 9)).alloc (.cells (#[.string (bs (Lib.itoa id)), .string (wordB 4), .string (bs (Lib.itoa ref))] ++ Builtin.zeroCells #[Value.string { data := #[] }] ((Question.appendCap 3 2 9).cut (w4.tape w4.drawn (Question.appendCap 3 2 9)) - 3)) 9)).drew) = w5 at *
  generalize (Question.appendCap 3 2 9).cut (w4.tape w4.drawn (Question.appendCap 3 2 9)) = cap at *
  generalize w4.heap.size + 1 = A5 at *
  have l1 : (Lib.itoa id).length ≤ 17 := itoa_len (by omega) (by omega)
  have l2 : (Lib.itoa ref).length ≤ 17 := itoa_len (by omega) (by omega)
  have HJ : Hid (Lib.join ([bs (Lib.itoa id), wordB 4, bs (Lib.itoa ref)].map (·.data.toList)) (({ data := #[32] } : ByteArray).data.toList) = cmdT id 4 f t am ref) := hide (by
    rw [cmdT, if_pos hc, if_pos (by decide)]
    simp [Lib.join, List.intercalate, bs_list, wordB])
  have hlen : (Lib.join ([bs (Lib.itoa id), wordB 4, bs (Lib.itoa ref)].map (·.data.toList)) (({ data := #[32] } : ByteArray).data.toList)).length ≤ 140737488355328 := by
    rw [HJ.out, cmdT, if_pos hc, if_pos (by decide)]
    simp [wordL]
    omega
  refine (Tryz.strings_Join A5 0 cap [bs (Lib.itoa id), wordB 4, bs (Lib.itoa ref)] { data := #[32] } w5 hcells hsz (by simp) (by simpa using hcap) hlen).mono ?_
  rintro e w6 ⟨rfl, hb6⟩
  have HX6 : Hid _ := hide (below_trans HX5.out hb6)
  clear hb6 hlen hcells
  go_wp2
  go_ret
  exact ⟨by rw [← HJ.out]; rfl, HX6.out⟩
set_option maxRecDepth 100000 in
set_option maxHeartbeats 8000000 in
theorem implText_5 (id : Int) (f t : ByteArray) (am ref : Int) (w : World) (hf : f.size ≤ maxLen) (ht : t.size ≤ maxLen) (hc : cmdB id 5 f t am ref = true) (hT : Tab w) (hW : Words w) :
    Calls Tryz.prog 6 #[.agg #[.int .i64 id, .int .i64 5, .string f, .string t, .int .i64 am, .int .i64 ref]] w fun e w' => StrEnd (cmdT id 5 f t am ref) w e w' := by
  have HT : Hid _ := hide hT
  have HW : Hid _ := hide hW
  clear hT hW
  obtain ⟨⟨i0, i1⟩, a0, a1⟩ := cmd_de (by omega) hc
  go_enter Tryz.func6, Tryz.ntmps6
  go_wp2_with (first | (go_at_call 9; refine (implCommandOk_any _ _ _ _ _ _ _ hf ht).mono ?_; rintro e w1 ⟨rfl, hk1⟩; have HX1 : Hid _ := hide hk1.below; obtain ⟨x0, x1, x2, x3, x4, x5⟩ := boxed6 HX1.out; clear hk1))
  have HB1 : Hid (Below w.heap.size w w1) := hide (below_trans (below_alloc (Below.refl _ _) _) HX1.out)
  have u5 := (HW.out.below HB1.out).2.2.2.2
  go_region_held (fun x => x.cell? ⟨w.heap.size, 0, none⟩ = some (.int .i64 id) ∧ x.cell? ⟨w.heap.size, 1, none⟩ = some (.int .i64 5) ∧ x.cell? ⟨0, 5, none⟩ = some (.string (wordB 5)) ∧ Hid (Below w1.heap.size w1 x))
    (first | assumption | exact HeldA.of x0 x1 u5 (Below.refl _ _).drew | exact HeldA.on (by assumption) (by assumption) | exact HeldA.on (by assumption) (below_alloc (Below.refl _ _) _))
    (first | (go_at_call 15; refine (numberText_any _ _ (by omega) (by omega) (HT.out.below (below_trans HB1.out (by assumption : HeldA w.heap.size 5 (.int .i64 id) (.int .i64 5) (.string (wordB 5)) w1 _).2.2.2.out))).mono ?_; rintro e w2 ⟨rfl, hb2⟩))
  have HX3 : Hid (Below w1.heap.size w1 (w2.alloc (.cells #[.string (bs (Lib.itoa id)), .string (wordB 5)] 9))) := hide (below_trans (Below.refl _ _).drew (below_alloc hb2 _))
  have r0 : (w2.alloc (.cells #[.string (bs (Lib.itoa id)), .string (wordB 5)] 9)).cell? ⟨w2.heap.size, 0, none⟩ = some (.string (bs (Lib.itoa id))) := by simp
  have r1 : (w2.alloc (.cells #[.string (bs (Lib.itoa id)), .string (wordB 5)] 9)).cell? ⟨w2.heap.size, 1, none⟩ = some (.string (wordB 5)) := by simp
  have r2 : w2.heap.size < (w2.alloc (.cells #[.string (bs (Lib.itoa id)), .string (wordB 5)] 9)).heap.size := by simp
  rename_i hold
  clear hold hb2
  generalize (w2.alloc (.cells #[.string (bs (Lib.itoa id)), .string (wordB 5)] 9)) = w3 at *
  generalize w2.heap.size = A at *
  have HB3 : Hid (Below w.heap.size w w3) := hide (below_trans HB1.out HX3.out)
  have y1 := below_keeps HX3.out _ _ x1
  have y5 := below_keeps HX3.out _ _ x5
  clear x0 x1 x2 x3 x4 x5 u5
  go_wp2_with (first | (go_at_call 15; refine (numberText_any _ _ (by omega) (by omega) (HT.out.below HB3.out)).mono ?_; rintro e w4 ⟨rfl, hb4⟩; have HB4 : Hid _ := hide (below_trans HB3.out hb4); have s0 := below_keeps hb4 _ _ r0; have s1 := below_keeps hb4 _ _ r1; have hA4 : A < w4.heap.size := (cell_lt s0); clear hb4) | (go_at_call 17; fail) | (go_at_call 16; go_in))
  have HX5 : Hid (Below w.heap.size w (((w4.alloc (.cells #[.string (bs (Lib.itoa ref))] 9)).alloc (.cells (#[.string (bs (Lib.itoa id)), .string (wordB 5), .string (bs (Lib.itoa ref))] ++ Builtin.zeroCells #[Value.string { data := #[] }] ((Question.appendCap 3 2 9).cut (w4.tape w4.drawn (Question.appendCap 3 2 9)) - 3)) 9)).drew)) := hide (below_trans HB4.out ((below_alloc (below_alloc (Below.refl _ _) _) _).drew))
  have hcells := join_cells3 w4 (bs (Lib.itoa id)) (wordB 5) (bs (Lib.itoa ref)) (Builtin.zeroCells #[Value.string { data := #[] }] ((Question.appendCap 3 2 9).cut (w4.tape w4.drawn (Question.appendCap 3 2 9)) - 3))
  have hcap : 3 ≤ (Question.appendCap 3 2 9).cut (w4.tape w4.drawn (Question.appendCap 3 2 9)) := grownCap_ge w4 3 2 9
  have hsz : w4.heap.size + 1 < (((w4.alloc (.cells #[.string (bs (Lib.itoa ref))] 9)).alloc (.cells (#[.string (bs (Lib.itoa id)), .string (wordB 5), .string (bs (Lib.itoa ref))] ++ Builtin.zeroCells #[Value.string { data := #[] }] ((Question.appendCap 3 2 9).cut (w4.tape w4.drawn (Question.appendCap 3 2 9)) - 3)) 9)).drew).heap.size := by
    show _ < ((w4.alloc _).alloc _).heap.size
    simp
  generalize (((w4.alloc (.cells #[.string (bs (Lib.itoa ref))] 9)).alloc (.cells (#[.string (bs (Lib.itoa id)), .string (wordB 5), .string (bs (Lib.itoa ref))] ++ Builtin.zeroCells #[Value.string { data := #[] }] ((Question.appendCap 3 2 9).cut (w4.tape w4.drawn (Question.appendCap 3 2 9)) - 3)) 9)).drew) = w5 at *
  generalize (Question.appendCap 3 2 9).cut (w4.tape w4.drawn (Question.appendCap 3 2 9)) = cap at *
  generalize w4.heap.size + 1 = A5 at *
  have l1 : (Lib.itoa id).length ≤ 17 := itoa_len (by omega) (by omega)
  have l2 : (Lib.itoa ref).length ≤ 17 := itoa_len (by omega) (by omega)
  have HJ : Hid (Lib.join ([bs (Lib.itoa id), wordB 5, bs (Lib.itoa ref)].map (·.data.toList)) (({ data := #[32] } : ByteArray).data.toList) = cmdT id 5 f t am ref) := hide (by
    rw [cmdT, if_pos hc, if_pos (by decide)]
    simp [Lib.join, List.intercalate, bs_list, wordB])
  have hlen : (Lib.join ([bs (Lib.itoa id), wordB 5, bs (Lib.itoa ref)].map (·.data.toList)) (({ data := #[32] } : ByteArray).data.toList)).length ≤ 140737488355328 := by
    rw [HJ.out, cmdT, if_pos hc, if_pos (by decide)]
    simp [wordL]
    omega
  refine (Tryz.strings_Join A5 0 cap [bs (Lib.itoa id), wordB 5, bs (Lib.itoa ref)] { data := #[32] } w5 hcells hsz (by simp) (by simpa using hcap) hlen).mono ?_
  rintro e w6 ⟨rfl, hb6⟩
  have HX6 : Hid _ := hide (below_trans HX5.out hb6)
  clear hb6 hlen hcells
  go_wp2
  go_ret
  exact ⟨by rw [← HJ.out]; rfl, HX6.out⟩
set_option maxHeartbeats 4000000 in
theorem implText_no (id kind : Int) (f t : ByteArray) (am ref : Int) (w : World) (hf : f.size ≤ maxLen) (ht : t.size ≤ maxLen) (hc : cmdB id kind f t am ref = false) :
    Calls Tryz.prog 6 #[.agg #[.int .i64 id, .int .i64 kind, .string f, .string t, .int .i64 am, .int .i64 ref]] w fun e w' => StrEnd (cmdT id kind f t am ref) w e w' := by
  have HR : Hid (cmdT id kind f t am ref = []) := hide (by simp [cmdT, hc])
  go_enter Tryz.func6, Tryz.ntmps6
  go_wp2_with (first | (go_at_call 9; refine (implCommandOk_any _ _ _ _ _ _ _ hf ht).mono ?_; rintro e w1 ⟨rfl, hk1⟩; have HX1 : Hid _ := hide hk1.below; obtain ⟨x0, x1, x2, x3, x4, x5⟩ := boxed6 HX1.out; clear hk1))
  go_ret
  exact ⟨by rw [HR.out]; rfl, below_trans (below_alloc (Below.refl _ _) _) HX1.out⟩
theorem implText_any (id kind : Int) (f t : ByteArray) (am ref : Int) (w : World) (hf : f.size ≤ maxLen) (ht : t.size ≤ maxLen) (hT : Tab w) (hW : Words w) :
    Calls Tryz.prog 6 #[.agg #[.int .i64 id, .int .i64 kind, .string f, .string t, .int .i64 am, .int .i64 ref]] w fun e w' => StrEnd (cmdT id kind f t am ref) w e w' := by
  cases hc : cmdB id kind f t am ref
  · exact implText_no id kind f t am ref w hf ht hc
  · rcases cmd_kind hc with rfl | rfl | rfl | rfl | rfl
    · exact implText_1 id f t am ref w hf ht hc hT hW
    · exact implText_2 id f t am ref w hf ht hc hT hW
    · exact implText_3 id f t am ref w hf ht hc hT hW
    · exact implText_4 id f t am ref w hf ht hc hT hW
    · exact implText_5 id f t am ref w hf ht hc hT hW
end Go.Proofs.YtbcodlgpdehdhaaGreatDoor
