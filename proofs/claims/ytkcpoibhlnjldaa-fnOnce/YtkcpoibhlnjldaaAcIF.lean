/- The contract of the program's actOf: which act an NAct asks for, and whether it is right. -/
import Derived.Test.YtkcpoibhlnjldaaBb
namespace Go.Proofs.Ytkcpoibhlnjldaa
open Go.Value renaming int → J, slice → V
open Go.IntKind renaming i64 → Z
open Go.ChangeShapes Go.WideShapes Go.ChangeAt Go.RowKit
set_option linter.unusedVariables false
set_option maxRecDepth 100000
def eq9 (a b c d e f g h i A B C D E F G H I : Int) : Bool := (a == A) && ((b == B) && ((c == C) && ((d == D) && ((e == E) && ((f == F) && ((g == G) && ((h == H) && (i == I))))))))
theorem eqAct (a b c d e f g h i A B C D E F G H I : Int) (w : World) : (binOp .eql 31 (.agg #[J Z a, J Z b, J Z c, J Z d, J Z e, J Z f, J Z g, J Z h, J Z i]) (.agg #[J Z A, J Z B, J Z C, J Z D, J Z E, J Z F, J Z G, J Z H, J Z I])).run Try.prog w = .ok (.bool (eq9 a b c d e f g h i A B C D E F G H I)) w := by
 unfold eq9
 go_simp
 repeat' split
 all_goals simp_all
theorem quiet_invoke {P : Program} {ops : Array Oper} {C : World → Prop} {Q : Act → Prop} {a : Act} {o : Oper} {rest : List Oper} (f : FuncId) (args : Array Value) (v : Value) (hw : Region.wanted o (yielded ops a.tmps) = true) (hr : ∀ w, (execOp a.eval o).run P w = .ok (.enter f args) w) (hc : ∀ w, C w → Calls P f args w (fun e w'' => e = .returned v ∧ C w'')) (h : wpQuiet P ops C Q rest (a.put o.dst v)) : wpQuiet P ops C Q (o :: rest) a :=
 BigFrame.wpQuiet_want hw fun K hK => ⟨v, fun w hC => by unfold Oper.quietAt; rw [hr]; exact ⟨rfl, hc w hC⟩, hK _ h⟩
theorem later_all {P : Program} {f : FuncId} {args : Array Value} {W : World} {v : Value} (h : ∀ w, Calls P f args w fun e w' => e = .returned v ∧ Below w.heap.size w w') : ∀ w, (∃ x : Later W, w = x.w) → Calls P f args w (fun e w'' => e = .returned v ∧ ∃ x : Later W, w'' = x.w) := by
 rintro w ⟨x, rfl⟩
 exact later_of (h x.w)
/-- the act that is asked for -/
def actV (a : Ac) : Value :=
 if a.kind = 1 then .iface 81 (.agg #[J Z a.id, J Z a.amt])
 else if a.kind = 2 then .iface 82 (.agg #[J Z a.id, J Z a.amt])
 else if a.kind = 3 then .iface 84 (.agg #[J Z a.to, J Z a.amt])
 else if a.kind = 4 then (if a.msg.kind = 2 then .iface 98 (.agg #[J Z a.msg.fr, J Z a.msg.seq]) else .iface 95 (.agg #[J Z a.msg.fr, J Z a.msg.seq, J Z a.msg.amt]))
 else if a.kind = 5 then .iface 87 (.agg #[])
 else .nilIface
set_option maxHeartbeats 2000000 in
theorem actOf_spend (id to amt fr mto mk seq mamt own : Int) (w : World)  :
  Calls Try.prog 15 #[.agg #[J Z 1, J Z id, J Z to, J Z amt, J Z fr, J Z mto, J Z mk, J Z seq, J Z mamt], J Z own] w fun e w' => e = .returned (.tuple #[.iface 81 (.agg #[J Z id, J Z amt]), .bool (actB own (⟨1, id, to, amt, ⟨fr, mto, mk, seq, mamt⟩⟩ : Ac))]) ∧ Below w.heap.size w w' := by
 have hne : Nonempty (Later (w.alloc (.cells #[J Z 1, J Z id, J Z to, J Z amt, J Z fr, J Z mto, J Z mk, J Z seq, J Z mamt] 31))) := later_there _
 have HB : Hid (actB own (⟨1, id, to, amt, ⟨fr, mto, mk, seq, mamt⟩⟩ : Ac) = ((inB 1 1000000000 id && inB 1 1000000000000 amt) && eq9 1 id 0 amt 0 0 0 0 0 1 id to amt fr mto mk seq mamt)) := hide (by
  rw [Bool.eq_iff_iff]
  cases h1 : inB 1 1000000000 id <;> cases h2 : inB 1 1000000000000 amt <;> simp [actB, noneB, eq9, h1, h2] <;> omega)
 have d0 : ∀ y : Later (w.alloc (.cells #[J Z 1, J Z id, J Z to, J Z amt, J Z fr, J Z mto, J Z mk, J Z seq, J Z mamt] 31)), y.w.cell? ⟨w.heap.size, 0, none⟩ = some (J Z 1) := later_cell (World.cell?_alloc_at _ _ _ _ rfl)
 have d1 : ∀ y : Later (w.alloc (.cells #[J Z 1, J Z id, J Z to, J Z amt, J Z fr, J Z mto, J Z mk, J Z seq, J Z mamt] 31)), y.w.cell? ⟨w.heap.size, 1, none⟩ = some (J Z id) := later_cell (World.cell?_alloc_at _ _ _ _ rfl)
 have d2 : ∀ y : Later (w.alloc (.cells #[J Z 1, J Z id, J Z to, J Z amt, J Z fr, J Z mto, J Z mk, J Z seq, J Z mamt] 31)), y.w.cell? ⟨w.heap.size, 2, none⟩ = some (J Z to) := later_cell (World.cell?_alloc_at _ _ _ _ rfl)
 have d3 : ∀ y : Later (w.alloc (.cells #[J Z 1, J Z id, J Z to, J Z amt, J Z fr, J Z mto, J Z mk, J Z seq, J Z mamt] 31)), y.w.cell? ⟨w.heap.size, 3, none⟩ = some (J Z amt) := later_cell (World.cell?_alloc_at _ _ _ _ rfl)
 have d4 : ∀ y : Later (w.alloc (.cells #[J Z 1, J Z id, J Z to, J Z amt, J Z fr, J Z mto, J Z mk, J Z seq, J Z mamt] 31)), y.w.cell? ⟨w.heap.size, 4, none⟩ = some (J Z fr) := later_cell (World.cell?_alloc_at _ _ _ _ rfl)
 have d5 : ∀ y : Later (w.alloc (.cells #[J Z 1, J Z id, J Z to, J Z amt, J Z fr, J Z mto, J Z mk, J Z seq, J Z mamt] 31)), y.w.cell? ⟨w.heap.size, 5, none⟩ = some (J Z mto) := later_cell (World.cell?_alloc_at _ _ _ _ rfl)
 have d6 : ∀ y : Later (w.alloc (.cells #[J Z 1, J Z id, J Z to, J Z amt, J Z fr, J Z mto, J Z mk, J Z seq, J Z mamt] 31)), y.w.cell? ⟨w.heap.size, 6, none⟩ = some (J Z mk) := later_cell (World.cell?_alloc_at _ _ _ _ rfl)
 have d7 : ∀ y : Later (w.alloc (.cells #[J Z 1, J Z id, J Z to, J Z amt, J Z fr, J Z mto, J Z mk, J Z seq, J Z mamt] 31)), y.w.cell? ⟨w.heap.size, 7, none⟩ = some (J Z seq) := later_cell (World.cell?_alloc_at _ _ _ _ rfl)
 have d8 : ∀ y : Later (w.alloc (.cells #[J Z 1, J Z id, J Z to, J Z amt, J Z fr, J Z mto, J Z mk, J Z seq, J Z mamt] 31)), y.w.cell? ⟨w.heap.size, 8, none⟩ = some (J Z mamt) := later_cell (World.cell?_alloc_at _ _ _ _ rfl)
 cases q1 : (inB 1 1000000000 id && inB 1 1000000000000 amt)
 ·skip
  have HR : Hid (actB own (⟨1, id, to, amt, ⟨fr, mto, mk, seq, mamt⟩⟩ : Ac) = false) := hide (by rw [HB.out, q1]; rfl)
  go_enter Try.func15, Try.ntmps15
  go_wp2_with fail
  refine wp_region_later (w.alloc (.cells #[J Z 1, J Z id, J Z to, J Z amt, J Z fr, J Z mto, J Z mk, J Z seq, J Z mamt] 31)) (by kernel_rfl) (by kernel_rfl) ((Below.refl _ _).drew) ?_
  go_big_quiet_step (fail)
  go_big_quiet_step (fail)
  refine quiet_invoke 97 #[.agg #[J Z id, J Z amt]] (.bool false) (by kernel_rfl) (fun w => by kernel_rfl) (later_all (fun w => by rw [← q1]; exact okSpend_any id amt w)) ?_
  go_frame
  repeat (go_big_quiet_step (fail))
  refine wpQuiet_nil ?_
  intro _ hw'
  obtain ⟨nx, rfl⟩ := hw'
  go_wp2
  exact bodyPost_ret (v := .tuple #[.iface 81 (.agg #[J Z id, J Z amt]), .bool false]) (by simp [results, Try.results15, go_sem]) rfl ⟨by rw [HR.out], below_trans (below_alloc (Below.refl _ _) _) nx.below⟩
 ·cases q2 : eq9 1 id 0 amt 0 0 0 0 0 1 id to amt fr mto mk seq mamt
  ·skip
   have HR : Hid (actB own (⟨1, id, to, amt, ⟨fr, mto, mk, seq, mamt⟩⟩ : Ac) = false) := hide (by rw [HB.out, q1, q2]; rfl)
   go_enter Try.func15, Try.ntmps15
   go_wp2_with fail
   refine wp_region_later (w.alloc (.cells #[J Z 1, J Z id, J Z to, J Z amt, J Z fr, J Z mto, J Z mk, J Z seq, J Z mamt] 31)) (by kernel_rfl) (by kernel_rfl) ((Below.refl _ _).drew) ?_
   go_big_quiet_step (fail)
   go_big_quiet_step (fail)
   refine quiet_invoke 97 #[.agg #[J Z id, J Z amt]] (.bool true) (by kernel_rfl) (fun w => by kernel_rfl) (later_all (fun w => by rw [← q1]; exact okSpend_any id amt w)) ?_
   go_frame
   have he := eqAct (1) (id) (0) (amt) (0) (0) (0) (0) (0) (1) (id) (to) (amt) (fr) (mto) (mk) (seq) (mamt)
   rw [q2] at he
   go_big_quiet_step (fail)
   go_big_quiet_step (fail)
   go_big_quiet_step (fail)
   refine quiet_invoke 96 #[.agg #[J Z id, J Z amt], J Z own] (.agg #[J Z 1, J Z id, J Z 0, J Z amt, J Z 0, J Z 0, J Z 0, J Z 0, J Z 0]) (by kernel_rfl) (fun w => by kernel_rfl) (later_all (fun w => askSpend_any id amt own w)) ?_
   go_frame
   repeat (go_big_quiet_step (fail))
   refine wpQuiet_nil ?_
   intro _ hw'
   obtain ⟨nx, rfl⟩ := hw'
   go_wp2
   exact bodyPost_ret (v := .tuple #[.iface 81 (.agg #[J Z id, J Z amt]), .bool false]) (by simp [results, Try.results15, go_sem]) rfl ⟨by rw [HR.out], below_trans (below_alloc (Below.refl _ _) _) nx.below⟩
  ·skip
   have HR : Hid (actB own (⟨1, id, to, amt, ⟨fr, mto, mk, seq, mamt⟩⟩ : Ac) = true) := hide (by rw [HB.out, q1, q2]; rfl)
   go_enter Try.func15, Try.ntmps15
   go_wp2_with fail
   refine wp_region_later (w.alloc (.cells #[J Z 1, J Z id, J Z to, J Z amt, J Z fr, J Z mto, J Z mk, J Z seq, J Z mamt] 31)) (by kernel_rfl) (by kernel_rfl) ((Below.refl _ _).drew) ?_
   go_big_quiet_step (fail)
   go_big_quiet_step (fail)
   refine quiet_invoke 97 #[.agg #[J Z id, J Z amt]] (.bool true) (by kernel_rfl) (fun w => by kernel_rfl) (later_all (fun w => by rw [← q1]; exact okSpend_any id amt w)) ?_
   go_frame
   have he := eqAct (1) (id) (0) (amt) (0) (0) (0) (0) (0) (1) (id) (to) (amt) (fr) (mto) (mk) (seq) (mamt)
   rw [q2] at he
   go_big_quiet_step (fail)
   go_big_quiet_step (fail)
   go_big_quiet_step (fail)
   refine quiet_invoke 96 #[.agg #[J Z id, J Z amt], J Z own] (.agg #[J Z 1, J Z id, J Z 0, J Z amt, J Z 0, J Z 0, J Z 0, J Z 0, J Z 0]) (by kernel_rfl) (fun w => by kernel_rfl) (later_all (fun w => askSpend_any id amt own w)) ?_
   go_frame
   repeat (go_big_quiet_step (fail))
   refine wpQuiet_nil ?_
   intro _ hw'
   obtain ⟨nx, rfl⟩ := hw'
   go_wp2
   exact bodyPost_ret (v := .tuple #[.iface 81 (.agg #[J Z id, J Z amt]), .bool true]) (by simp [results, Try.results15, go_sem]) rfl ⟨by rw [HR.out], below_trans (below_alloc (Below.refl _ _) _) nx.below⟩
set_option maxHeartbeats 2000000 in
theorem actOf_earn (id to amt fr mto mk seq mamt own : Int) (w : World)  :
  Calls Try.prog 15 #[.agg #[J Z 2, J Z id, J Z to, J Z amt, J Z fr, J Z mto, J Z mk, J Z seq, J Z mamt], J Z own] w fun e w' => e = .returned (.tuple #[.iface 82 (.agg #[J Z id, J Z amt]), .bool (actB own (⟨2, id, to, amt, ⟨fr, mto, mk, seq, mamt⟩⟩ : Ac))]) ∧ Below w.heap.size w w' := by
 have hne : Nonempty (Later (w.alloc (.cells #[J Z 2, J Z id, J Z to, J Z amt, J Z fr, J Z mto, J Z mk, J Z seq, J Z mamt] 31))) := later_there _
 have HB : Hid (actB own (⟨2, id, to, amt, ⟨fr, mto, mk, seq, mamt⟩⟩ : Ac) = ((inB 1 1000000000 id && inB 1 1000000000000 amt) && eq9 2 id 0 amt 0 0 0 0 0 2 id to amt fr mto mk seq mamt)) := hide (by
  rw [Bool.eq_iff_iff]
  cases h1 : inB 1 1000000000 id <;> cases h2 : inB 1 1000000000000 amt <;> simp [actB, noneB, eq9, h1, h2] <;> omega)
 have d0 : ∀ y : Later (w.alloc (.cells #[J Z 2, J Z id, J Z to, J Z amt, J Z fr, J Z mto, J Z mk, J Z seq, J Z mamt] 31)), y.w.cell? ⟨w.heap.size, 0, none⟩ = some (J Z 2) := later_cell (World.cell?_alloc_at _ _ _ _ rfl)
 have d1 : ∀ y : Later (w.alloc (.cells #[J Z 2, J Z id, J Z to, J Z amt, J Z fr, J Z mto, J Z mk, J Z seq, J Z mamt] 31)), y.w.cell? ⟨w.heap.size, 1, none⟩ = some (J Z id) := later_cell (World.cell?_alloc_at _ _ _ _ rfl)
 have d2 : ∀ y : Later (w.alloc (.cells #[J Z 2, J Z id, J Z to, J Z amt, J Z fr, J Z mto, J Z mk, J Z seq, J Z mamt] 31)), y.w.cell? ⟨w.heap.size, 2, none⟩ = some (J Z to) := later_cell (World.cell?_alloc_at _ _ _ _ rfl)
 have d3 : ∀ y : Later (w.alloc (.cells #[J Z 2, J Z id, J Z to, J Z amt, J Z fr, J Z mto, J Z mk, J Z seq, J Z mamt] 31)), y.w.cell? ⟨w.heap.size, 3, none⟩ = some (J Z amt) := later_cell (World.cell?_alloc_at _ _ _ _ rfl)
 have d4 : ∀ y : Later (w.alloc (.cells #[J Z 2, J Z id, J Z to, J Z amt, J Z fr, J Z mto, J Z mk, J Z seq, J Z mamt] 31)), y.w.cell? ⟨w.heap.size, 4, none⟩ = some (J Z fr) := later_cell (World.cell?_alloc_at _ _ _ _ rfl)
 have d5 : ∀ y : Later (w.alloc (.cells #[J Z 2, J Z id, J Z to, J Z amt, J Z fr, J Z mto, J Z mk, J Z seq, J Z mamt] 31)), y.w.cell? ⟨w.heap.size, 5, none⟩ = some (J Z mto) := later_cell (World.cell?_alloc_at _ _ _ _ rfl)
 have d6 : ∀ y : Later (w.alloc (.cells #[J Z 2, J Z id, J Z to, J Z amt, J Z fr, J Z mto, J Z mk, J Z seq, J Z mamt] 31)), y.w.cell? ⟨w.heap.size, 6, none⟩ = some (J Z mk) := later_cell (World.cell?_alloc_at _ _ _ _ rfl)
 have d7 : ∀ y : Later (w.alloc (.cells #[J Z 2, J Z id, J Z to, J Z amt, J Z fr, J Z mto, J Z mk, J Z seq, J Z mamt] 31)), y.w.cell? ⟨w.heap.size, 7, none⟩ = some (J Z seq) := later_cell (World.cell?_alloc_at _ _ _ _ rfl)
 have d8 : ∀ y : Later (w.alloc (.cells #[J Z 2, J Z id, J Z to, J Z amt, J Z fr, J Z mto, J Z mk, J Z seq, J Z mamt] 31)), y.w.cell? ⟨w.heap.size, 8, none⟩ = some (J Z mamt) := later_cell (World.cell?_alloc_at _ _ _ _ rfl)
 cases q1 : (inB 1 1000000000 id && inB 1 1000000000000 amt)
 ·skip
  have HR : Hid (actB own (⟨2, id, to, amt, ⟨fr, mto, mk, seq, mamt⟩⟩ : Ac) = false) := hide (by rw [HB.out, q1]; rfl)
  go_enter Try.func15, Try.ntmps15
  go_wp2_with fail
  refine wp_region_later (w.alloc (.cells #[J Z 2, J Z id, J Z to, J Z amt, J Z fr, J Z mto, J Z mk, J Z seq, J Z mamt] 31)) (by kernel_rfl) (by kernel_rfl) ((Below.refl _ _).drew) ?_
  go_big_quiet_step (fail)
  go_big_quiet_step (fail)
  refine quiet_invoke 99 #[.agg #[J Z id, J Z amt]] (.bool false) (by kernel_rfl) (fun w => by kernel_rfl) (later_all (fun w => by rw [← q1]; exact okEarn_any id amt w)) ?_
  go_frame
  repeat (go_big_quiet_step (fail))
  refine wpQuiet_nil ?_
  intro _ hw'
  obtain ⟨nx, rfl⟩ := hw'
  go_wp2
  exact bodyPost_ret (v := .tuple #[.iface 82 (.agg #[J Z id, J Z amt]), .bool false]) (by simp [results, Try.results15, go_sem]) rfl ⟨by rw [HR.out], below_trans (below_alloc (Below.refl _ _) _) nx.below⟩
 ·cases q2 : eq9 2 id 0 amt 0 0 0 0 0 2 id to amt fr mto mk seq mamt
  ·skip
   have HR : Hid (actB own (⟨2, id, to, amt, ⟨fr, mto, mk, seq, mamt⟩⟩ : Ac) = false) := hide (by rw [HB.out, q1, q2]; rfl)
   go_enter Try.func15, Try.ntmps15
   go_wp2_with fail
   refine wp_region_later (w.alloc (.cells #[J Z 2, J Z id, J Z to, J Z amt, J Z fr, J Z mto, J Z mk, J Z seq, J Z mamt] 31)) (by kernel_rfl) (by kernel_rfl) ((Below.refl _ _).drew) ?_
   go_big_quiet_step (fail)
   go_big_quiet_step (fail)
   refine quiet_invoke 99 #[.agg #[J Z id, J Z amt]] (.bool true) (by kernel_rfl) (fun w => by kernel_rfl) (later_all (fun w => by rw [← q1]; exact okEarn_any id amt w)) ?_
   go_frame
   have he := eqAct (2) (id) (0) (amt) (0) (0) (0) (0) (0) (2) (id) (to) (amt) (fr) (mto) (mk) (seq) (mamt)
   rw [q2] at he
   go_big_quiet_step (fail)
   go_big_quiet_step (fail)
   go_big_quiet_step (fail)
   refine quiet_invoke 98 #[.agg #[J Z id, J Z amt], J Z own] (.agg #[J Z 2, J Z id, J Z 0, J Z amt, J Z 0, J Z 0, J Z 0, J Z 0, J Z 0]) (by kernel_rfl) (fun w => by kernel_rfl) (later_all (fun w => askEarn_any id amt own w)) ?_
   go_frame
   repeat (go_big_quiet_step (fail))
   refine wpQuiet_nil ?_
   intro _ hw'
   obtain ⟨nx, rfl⟩ := hw'
   go_wp2
   exact bodyPost_ret (v := .tuple #[.iface 82 (.agg #[J Z id, J Z amt]), .bool false]) (by simp [results, Try.results15, go_sem]) rfl ⟨by rw [HR.out], below_trans (below_alloc (Below.refl _ _) _) nx.below⟩
  ·skip
   have HR : Hid (actB own (⟨2, id, to, amt, ⟨fr, mto, mk, seq, mamt⟩⟩ : Ac) = true) := hide (by rw [HB.out, q1, q2]; rfl)
   go_enter Try.func15, Try.ntmps15
   go_wp2_with fail
   refine wp_region_later (w.alloc (.cells #[J Z 2, J Z id, J Z to, J Z amt, J Z fr, J Z mto, J Z mk, J Z seq, J Z mamt] 31)) (by kernel_rfl) (by kernel_rfl) ((Below.refl _ _).drew) ?_
   go_big_quiet_step (fail)
   go_big_quiet_step (fail)
   refine quiet_invoke 99 #[.agg #[J Z id, J Z amt]] (.bool true) (by kernel_rfl) (fun w => by kernel_rfl) (later_all (fun w => by rw [← q1]; exact okEarn_any id amt w)) ?_
   go_frame
   have he := eqAct (2) (id) (0) (amt) (0) (0) (0) (0) (0) (2) (id) (to) (amt) (fr) (mto) (mk) (seq) (mamt)
   rw [q2] at he
   go_big_quiet_step (fail)
   go_big_quiet_step (fail)
   go_big_quiet_step (fail)
   refine quiet_invoke 98 #[.agg #[J Z id, J Z amt], J Z own] (.agg #[J Z 2, J Z id, J Z 0, J Z amt, J Z 0, J Z 0, J Z 0, J Z 0, J Z 0]) (by kernel_rfl) (fun w => by kernel_rfl) (later_all (fun w => askEarn_any id amt own w)) ?_
   go_frame
   repeat (go_big_quiet_step (fail))
   refine wpQuiet_nil ?_
   intro _ hw'
   obtain ⟨nx, rfl⟩ := hw'
   go_wp2
   exact bodyPost_ret (v := .tuple #[.iface 82 (.agg #[J Z id, J Z amt]), .bool true]) (by simp [results, Try.results15, go_sem]) rfl ⟨by rw [HR.out], below_trans (below_alloc (Below.refl _ _) _) nx.below⟩
set_option maxHeartbeats 2000000 in
theorem actOf_give (id to amt fr mto mk seq mamt own : Int) (w : World)  :
  Calls Try.prog 15 #[.agg #[J Z 3, J Z id, J Z to, J Z amt, J Z fr, J Z mto, J Z mk, J Z seq, J Z mamt], J Z own] w fun e w' => e = .returned (.tuple #[.iface 84 (.agg #[J Z to, J Z amt]), .bool (actB own (⟨3, id, to, amt, ⟨fr, mto, mk, seq, mamt⟩⟩ : Ac))]) ∧ Below w.heap.size w w' := by
 have hne : Nonempty (Later (w.alloc (.cells #[J Z 3, J Z id, J Z to, J Z amt, J Z fr, J Z mto, J Z mk, J Z seq, J Z mamt] 31))) := later_there _
 have HB : Hid (actB own (⟨3, id, to, amt, ⟨fr, mto, mk, seq, mamt⟩⟩ : Ac) = ((inB 1 1000000000 to && inB 1 1000000000000 amt) && eq9 3 0 to amt 0 0 0 0 0 3 id to amt fr mto mk seq mamt)) := hide (by
  rw [Bool.eq_iff_iff]
  cases h1 : inB 1 1000000000 to <;> cases h2 : inB 1 1000000000000 amt <;> simp [actB, noneB, eq9, h1, h2] <;> omega)
 have d0 : ∀ y : Later (w.alloc (.cells #[J Z 3, J Z id, J Z to, J Z amt, J Z fr, J Z mto, J Z mk, J Z seq, J Z mamt] 31)), y.w.cell? ⟨w.heap.size, 0, none⟩ = some (J Z 3) := later_cell (World.cell?_alloc_at _ _ _ _ rfl)
 have d1 : ∀ y : Later (w.alloc (.cells #[J Z 3, J Z id, J Z to, J Z amt, J Z fr, J Z mto, J Z mk, J Z seq, J Z mamt] 31)), y.w.cell? ⟨w.heap.size, 1, none⟩ = some (J Z id) := later_cell (World.cell?_alloc_at _ _ _ _ rfl)
 have d2 : ∀ y : Later (w.alloc (.cells #[J Z 3, J Z id, J Z to, J Z amt, J Z fr, J Z mto, J Z mk, J Z seq, J Z mamt] 31)), y.w.cell? ⟨w.heap.size, 2, none⟩ = some (J Z to) := later_cell (World.cell?_alloc_at _ _ _ _ rfl)
 have d3 : ∀ y : Later (w.alloc (.cells #[J Z 3, J Z id, J Z to, J Z amt, J Z fr, J Z mto, J Z mk, J Z seq, J Z mamt] 31)), y.w.cell? ⟨w.heap.size, 3, none⟩ = some (J Z amt) := later_cell (World.cell?_alloc_at _ _ _ _ rfl)
 have d4 : ∀ y : Later (w.alloc (.cells #[J Z 3, J Z id, J Z to, J Z amt, J Z fr, J Z mto, J Z mk, J Z seq, J Z mamt] 31)), y.w.cell? ⟨w.heap.size, 4, none⟩ = some (J Z fr) := later_cell (World.cell?_alloc_at _ _ _ _ rfl)
 have d5 : ∀ y : Later (w.alloc (.cells #[J Z 3, J Z id, J Z to, J Z amt, J Z fr, J Z mto, J Z mk, J Z seq, J Z mamt] 31)), y.w.cell? ⟨w.heap.size, 5, none⟩ = some (J Z mto) := later_cell (World.cell?_alloc_at _ _ _ _ rfl)
 have d6 : ∀ y : Later (w.alloc (.cells #[J Z 3, J Z id, J Z to, J Z amt, J Z fr, J Z mto, J Z mk, J Z seq, J Z mamt] 31)), y.w.cell? ⟨w.heap.size, 6, none⟩ = some (J Z mk) := later_cell (World.cell?_alloc_at _ _ _ _ rfl)
 have d7 : ∀ y : Later (w.alloc (.cells #[J Z 3, J Z id, J Z to, J Z amt, J Z fr, J Z mto, J Z mk, J Z seq, J Z mamt] 31)), y.w.cell? ⟨w.heap.size, 7, none⟩ = some (J Z seq) := later_cell (World.cell?_alloc_at _ _ _ _ rfl)
 have d8 : ∀ y : Later (w.alloc (.cells #[J Z 3, J Z id, J Z to, J Z amt, J Z fr, J Z mto, J Z mk, J Z seq, J Z mamt] 31)), y.w.cell? ⟨w.heap.size, 8, none⟩ = some (J Z mamt) := later_cell (World.cell?_alloc_at _ _ _ _ rfl)
 cases q1 : (inB 1 1000000000 to && inB 1 1000000000000 amt)
 ·skip
  have HR : Hid (actB own (⟨3, id, to, amt, ⟨fr, mto, mk, seq, mamt⟩⟩ : Ac) = false) := hide (by rw [HB.out, q1]; rfl)
  go_enter Try.func15, Try.ntmps15
  go_wp2_with fail
  refine wp_region_later (w.alloc (.cells #[J Z 3, J Z id, J Z to, J Z amt, J Z fr, J Z mto, J Z mk, J Z seq, J Z mamt] 31)) (by kernel_rfl) (by kernel_rfl) ((Below.refl _ _).drew) ?_
  go_big_quiet_step (fail)
  go_big_quiet_step (fail)
  refine quiet_invoke 101 #[.agg #[J Z to, J Z amt]] (.bool false) (by kernel_rfl) (fun w => by kernel_rfl) (later_all (fun w => by rw [← q1]; exact okGive_any to amt w)) ?_
  go_frame
  repeat (go_big_quiet_step (fail))
  refine wpQuiet_nil ?_
  intro _ hw'
  obtain ⟨nx, rfl⟩ := hw'
  go_wp2
  exact bodyPost_ret (v := .tuple #[.iface 84 (.agg #[J Z to, J Z amt]), .bool false]) (by simp [results, Try.results15, go_sem]) rfl ⟨by rw [HR.out], below_trans (below_alloc (Below.refl _ _) _) nx.below⟩
 ·cases q2 : eq9 3 0 to amt 0 0 0 0 0 3 id to amt fr mto mk seq mamt
  ·skip
   have HR : Hid (actB own (⟨3, id, to, amt, ⟨fr, mto, mk, seq, mamt⟩⟩ : Ac) = false) := hide (by rw [HB.out, q1, q2]; rfl)
   go_enter Try.func15, Try.ntmps15
   go_wp2_with fail
   refine wp_region_later (w.alloc (.cells #[J Z 3, J Z id, J Z to, J Z amt, J Z fr, J Z mto, J Z mk, J Z seq, J Z mamt] 31)) (by kernel_rfl) (by kernel_rfl) ((Below.refl _ _).drew) ?_
   go_big_quiet_step (fail)
   go_big_quiet_step (fail)
   refine quiet_invoke 101 #[.agg #[J Z to, J Z amt]] (.bool true) (by kernel_rfl) (fun w => by kernel_rfl) (later_all (fun w => by rw [← q1]; exact okGive_any to amt w)) ?_
   go_frame
   have he := eqAct (3) (0) (to) (amt) (0) (0) (0) (0) (0) (3) (id) (to) (amt) (fr) (mto) (mk) (seq) (mamt)
   rw [q2] at he
   go_big_quiet_step (fail)
   go_big_quiet_step (fail)
   go_big_quiet_step (fail)
   refine quiet_invoke 100 #[.agg #[J Z to, J Z amt], J Z own] (.agg #[J Z 3, J Z 0, J Z to, J Z amt, J Z 0, J Z 0, J Z 0, J Z 0, J Z 0]) (by kernel_rfl) (fun w => by kernel_rfl) (later_all (fun w => askGive_any to amt own w)) ?_
   go_frame
   repeat (go_big_quiet_step (fail))
   refine wpQuiet_nil ?_
   intro _ hw'
   obtain ⟨nx, rfl⟩ := hw'
   go_wp2
   exact bodyPost_ret (v := .tuple #[.iface 84 (.agg #[J Z to, J Z amt]), .bool false]) (by simp [results, Try.results15, go_sem]) rfl ⟨by rw [HR.out], below_trans (below_alloc (Below.refl _ _) _) nx.below⟩
  ·skip
   have HR : Hid (actB own (⟨3, id, to, amt, ⟨fr, mto, mk, seq, mamt⟩⟩ : Ac) = true) := hide (by rw [HB.out, q1, q2]; rfl)
   go_enter Try.func15, Try.ntmps15
   go_wp2_with fail
   refine wp_region_later (w.alloc (.cells #[J Z 3, J Z id, J Z to, J Z amt, J Z fr, J Z mto, J Z mk, J Z seq, J Z mamt] 31)) (by kernel_rfl) (by kernel_rfl) ((Below.refl _ _).drew) ?_
   go_big_quiet_step (fail)
   go_big_quiet_step (fail)
   refine quiet_invoke 101 #[.agg #[J Z to, J Z amt]] (.bool true) (by kernel_rfl) (fun w => by kernel_rfl) (later_all (fun w => by rw [← q1]; exact okGive_any to amt w)) ?_
   go_frame
   have he := eqAct (3) (0) (to) (amt) (0) (0) (0) (0) (0) (3) (id) (to) (amt) (fr) (mto) (mk) (seq) (mamt)
   rw [q2] at he
   go_big_quiet_step (fail)
   go_big_quiet_step (fail)
   go_big_quiet_step (fail)
   refine quiet_invoke 100 #[.agg #[J Z to, J Z amt], J Z own] (.agg #[J Z 3, J Z 0, J Z to, J Z amt, J Z 0, J Z 0, J Z 0, J Z 0, J Z 0]) (by kernel_rfl) (fun w => by kernel_rfl) (later_all (fun w => askGive_any to amt own w)) ?_
   go_frame
   repeat (go_big_quiet_step (fail))
   refine wpQuiet_nil ?_
   intro _ hw'
   obtain ⟨nx, rfl⟩ := hw'
   go_wp2
   exact bodyPost_ret (v := .tuple #[.iface 84 (.agg #[J Z to, J Z amt]), .bool true]) (by simp [results, Try.results15, go_sem]) rfl ⟨by rw [HR.out], below_trans (below_alloc (Below.refl _ _) _) nx.below⟩
set_option maxHeartbeats 2000000 in
theorem actOf_ack (id to amt fr mto seq mamt own : Int) (w : World)  :
  Calls Try.prog 15 #[.agg #[J Z 4, J Z id, J Z to, J Z amt, J Z fr, J Z mto, J Z 2, J Z seq, J Z mamt], J Z own] w fun e w' => e = .returned (.tuple #[.iface 98 (.agg #[J Z fr, J Z seq]), .bool (actB own (⟨4, id, to, amt, ⟨fr, mto, 2, seq, mamt⟩⟩ : Ac))]) ∧ Below w.heap.size w w' := by
 have HB : Hid (actB own (⟨4, id, to, amt, ⟨fr, mto, 2, seq, mamt⟩⟩ : Ac) = ((inB 1 1000000000 fr && inB 0 1000000000 seq) && eq9 4 0 0 0 fr own 2 seq 0 4 id to amt fr mto 2 seq mamt)) := hide (by
  rw [Bool.eq_iff_iff]
  cases h1 : inB 1 1000000000 fr <;> cases h2 : inB 0 1000000000 seq <;> simp [actB, takeB, eq9, h1, h2] <;> omega)
 cases q1 : (inB 1 1000000000 fr && inB 0 1000000000 seq)
 ·skip
  have HR : Hid (actB own (⟨4, id, to, amt, ⟨fr, mto, 2, seq, mamt⟩⟩ : Ac) = false) := hide (by rw [HB.out, q1]; rfl)
  go_enter Try.func15, Try.ntmps15
  go_wp2_with fail
  refine (takeOf_any fr mto 2 seq mamt _).mono ?_
  rw [if_pos rfl]
  rintro e w1 ⟨rfl, hb1⟩
  have hne : Nonempty (Later w1) := later_there _
  have d0 : ∀ y : Later w1, y.w.cell? ⟨w.heap.size, 0, none⟩ = some (J Z 4) := later_cell ((hb1.cell (p := ⟨w.heap.size, 0, none⟩) (by simp)).trans (World.cell?_alloc_at _ _ _ _ rfl))
  have d1 : ∀ y : Later w1, y.w.cell? ⟨w.heap.size, 1, none⟩ = some (J Z id) := later_cell ((hb1.cell (p := ⟨w.heap.size, 1, none⟩) (by simp)).trans (World.cell?_alloc_at _ _ _ _ rfl))
  have d2 : ∀ y : Later w1, y.w.cell? ⟨w.heap.size, 2, none⟩ = some (J Z to) := later_cell ((hb1.cell (p := ⟨w.heap.size, 2, none⟩) (by simp)).trans (World.cell?_alloc_at _ _ _ _ rfl))
  have d3 : ∀ y : Later w1, y.w.cell? ⟨w.heap.size, 3, none⟩ = some (J Z amt) := later_cell ((hb1.cell (p := ⟨w.heap.size, 3, none⟩) (by simp)).trans (World.cell?_alloc_at _ _ _ _ rfl))
  have d4 : ∀ y : Later w1, y.w.cell? ⟨w.heap.size, 4, none⟩ = some (J Z fr) := later_cell ((hb1.cell (p := ⟨w.heap.size, 4, none⟩) (by simp)).trans (World.cell?_alloc_at _ _ _ _ rfl))
  have d5 : ∀ y : Later w1, y.w.cell? ⟨w.heap.size, 5, none⟩ = some (J Z mto) := later_cell ((hb1.cell (p := ⟨w.heap.size, 5, none⟩) (by simp)).trans (World.cell?_alloc_at _ _ _ _ rfl))
  have d6 : ∀ y : Later w1, y.w.cell? ⟨w.heap.size, 6, none⟩ = some (J Z 2) := later_cell ((hb1.cell (p := ⟨w.heap.size, 6, none⟩) (by simp)).trans (World.cell?_alloc_at _ _ _ _ rfl))
  have d7 : ∀ y : Later w1, y.w.cell? ⟨w.heap.size, 7, none⟩ = some (J Z seq) := later_cell ((hb1.cell (p := ⟨w.heap.size, 7, none⟩) (by simp)).trans (World.cell?_alloc_at _ _ _ _ rfl))
  have d8 : ∀ y : Later w1, y.w.cell? ⟨w.heap.size, 8, none⟩ = some (J Z mamt) := later_cell ((hb1.cell (p := ⟨w.heap.size, 8, none⟩) (by simp)).trans (World.cell?_alloc_at _ _ _ _ rfl))
  have HB1 : Hid (Below w.heap.size w w1) := hide (below_trans (below_alloc (Below.refl _ _) _) hb1)
  clear hb1
  go_wp2_with fail
  refine wp_region_later w1 (by kernel_rfl) (by kernel_rfl) ((Below.refl _ _).drew) ?_
  go_big_quiet_step (fail)
  go_big_quiet_step (fail)
  refine quiet_invoke 107 #[.agg #[J Z fr, J Z seq]] (.bool false) (by kernel_rfl) (fun w => by kernel_rfl) (later_all (fun w => by rw [← q1]; exact okAck_any fr seq w)) ?_
  go_frame
  repeat (go_big_quiet_step (fail))
  refine wpQuiet_nil ?_
  intro _ hw'
  obtain ⟨nx, rfl⟩ := hw'
  go_wp2
  exact bodyPost_ret (v := .tuple #[.iface 98 (.agg #[J Z fr, J Z seq]), .bool false]) (by simp [results, Try.results15, go_sem]) rfl ⟨by rw [HR.out], below_trans HB1.out nx.below⟩
 ·cases q2 : eq9 4 0 0 0 fr own 2 seq 0 4 id to amt fr mto 2 seq mamt
  ·skip
   have HR : Hid (actB own (⟨4, id, to, amt, ⟨fr, mto, 2, seq, mamt⟩⟩ : Ac) = false) := hide (by rw [HB.out, q1, q2]; rfl)
   go_enter Try.func15, Try.ntmps15
   go_wp2_with fail
   refine (takeOf_any fr mto 2 seq mamt _).mono ?_
   rw [if_pos rfl]
   rintro e w1 ⟨rfl, hb1⟩
   have hne : Nonempty (Later w1) := later_there _
   have d0 : ∀ y : Later w1, y.w.cell? ⟨w.heap.size, 0, none⟩ = some (J Z 4) := later_cell ((hb1.cell (p := ⟨w.heap.size, 0, none⟩) (by simp)).trans (World.cell?_alloc_at _ _ _ _ rfl))
   have d1 : ∀ y : Later w1, y.w.cell? ⟨w.heap.size, 1, none⟩ = some (J Z id) := later_cell ((hb1.cell (p := ⟨w.heap.size, 1, none⟩) (by simp)).trans (World.cell?_alloc_at _ _ _ _ rfl))
   have d2 : ∀ y : Later w1, y.w.cell? ⟨w.heap.size, 2, none⟩ = some (J Z to) := later_cell ((hb1.cell (p := ⟨w.heap.size, 2, none⟩) (by simp)).trans (World.cell?_alloc_at _ _ _ _ rfl))
   have d3 : ∀ y : Later w1, y.w.cell? ⟨w.heap.size, 3, none⟩ = some (J Z amt) := later_cell ((hb1.cell (p := ⟨w.heap.size, 3, none⟩) (by simp)).trans (World.cell?_alloc_at _ _ _ _ rfl))
   have d4 : ∀ y : Later w1, y.w.cell? ⟨w.heap.size, 4, none⟩ = some (J Z fr) := later_cell ((hb1.cell (p := ⟨w.heap.size, 4, none⟩) (by simp)).trans (World.cell?_alloc_at _ _ _ _ rfl))
   have d5 : ∀ y : Later w1, y.w.cell? ⟨w.heap.size, 5, none⟩ = some (J Z mto) := later_cell ((hb1.cell (p := ⟨w.heap.size, 5, none⟩) (by simp)).trans (World.cell?_alloc_at _ _ _ _ rfl))
   have d6 : ∀ y : Later w1, y.w.cell? ⟨w.heap.size, 6, none⟩ = some (J Z 2) := later_cell ((hb1.cell (p := ⟨w.heap.size, 6, none⟩) (by simp)).trans (World.cell?_alloc_at _ _ _ _ rfl))
   have d7 : ∀ y : Later w1, y.w.cell? ⟨w.heap.size, 7, none⟩ = some (J Z seq) := later_cell ((hb1.cell (p := ⟨w.heap.size, 7, none⟩) (by simp)).trans (World.cell?_alloc_at _ _ _ _ rfl))
   have d8 : ∀ y : Later w1, y.w.cell? ⟨w.heap.size, 8, none⟩ = some (J Z mamt) := later_cell ((hb1.cell (p := ⟨w.heap.size, 8, none⟩) (by simp)).trans (World.cell?_alloc_at _ _ _ _ rfl))
   have HB1 : Hid (Below w.heap.size w w1) := hide (below_trans (below_alloc (Below.refl _ _) _) hb1)
   clear hb1
   go_wp2_with fail
   refine wp_region_later w1 (by kernel_rfl) (by kernel_rfl) ((Below.refl _ _).drew) ?_
   go_big_quiet_step (fail)
   go_big_quiet_step (fail)
   refine quiet_invoke 107 #[.agg #[J Z fr, J Z seq]] (.bool true) (by kernel_rfl) (fun w => by kernel_rfl) (later_all (fun w => by rw [← q1]; exact okAck_any fr seq w)) ?_
   go_frame
   have he := eqAct (4) (0) (0) (0) (fr) (own) (2) (seq) (0) (4) (id) (to) (amt) (fr) (mto) (2) (seq) (mamt)
   rw [q2] at he
   go_big_quiet_step (fail)
   go_big_quiet_step (fail)
   go_big_quiet_step (fail)
   refine quiet_invoke 106 #[.agg #[J Z fr, J Z seq], J Z own] (.agg #[J Z 4, J Z 0, J Z 0, J Z 0, J Z fr, J Z own, J Z 2, J Z seq, J Z 0]) (by kernel_rfl) (fun w => by kernel_rfl) (later_all (fun w => askAck_any fr seq own w)) ?_
   go_frame
   repeat (go_big_quiet_step (fail))
   refine wpQuiet_nil ?_
   intro _ hw'
   obtain ⟨nx, rfl⟩ := hw'
   go_wp2
   exact bodyPost_ret (v := .tuple #[.iface 98 (.agg #[J Z fr, J Z seq]), .bool false]) (by simp [results, Try.results15, go_sem]) rfl ⟨by rw [HR.out], below_trans HB1.out nx.below⟩
  ·skip
   have HR : Hid (actB own (⟨4, id, to, amt, ⟨fr, mto, 2, seq, mamt⟩⟩ : Ac) = true) := hide (by rw [HB.out, q1, q2]; rfl)
   go_enter Try.func15, Try.ntmps15
   go_wp2_with fail
   refine (takeOf_any fr mto 2 seq mamt _).mono ?_
   rw [if_pos rfl]
   rintro e w1 ⟨rfl, hb1⟩
   have hne : Nonempty (Later w1) := later_there _
   have d0 : ∀ y : Later w1, y.w.cell? ⟨w.heap.size, 0, none⟩ = some (J Z 4) := later_cell ((hb1.cell (p := ⟨w.heap.size, 0, none⟩) (by simp)).trans (World.cell?_alloc_at _ _ _ _ rfl))
   have d1 : ∀ y : Later w1, y.w.cell? ⟨w.heap.size, 1, none⟩ = some (J Z id) := later_cell ((hb1.cell (p := ⟨w.heap.size, 1, none⟩) (by simp)).trans (World.cell?_alloc_at _ _ _ _ rfl))
   have d2 : ∀ y : Later w1, y.w.cell? ⟨w.heap.size, 2, none⟩ = some (J Z to) := later_cell ((hb1.cell (p := ⟨w.heap.size, 2, none⟩) (by simp)).trans (World.cell?_alloc_at _ _ _ _ rfl))
   have d3 : ∀ y : Later w1, y.w.cell? ⟨w.heap.size, 3, none⟩ = some (J Z amt) := later_cell ((hb1.cell (p := ⟨w.heap.size, 3, none⟩) (by simp)).trans (World.cell?_alloc_at _ _ _ _ rfl))
   have d4 : ∀ y : Later w1, y.w.cell? ⟨w.heap.size, 4, none⟩ = some (J Z fr) := later_cell ((hb1.cell (p := ⟨w.heap.size, 4, none⟩) (by simp)).trans (World.cell?_alloc_at _ _ _ _ rfl))
   have d5 : ∀ y : Later w1, y.w.cell? ⟨w.heap.size, 5, none⟩ = some (J Z mto) := later_cell ((hb1.cell (p := ⟨w.heap.size, 5, none⟩) (by simp)).trans (World.cell?_alloc_at _ _ _ _ rfl))
   have d6 : ∀ y : Later w1, y.w.cell? ⟨w.heap.size, 6, none⟩ = some (J Z 2) := later_cell ((hb1.cell (p := ⟨w.heap.size, 6, none⟩) (by simp)).trans (World.cell?_alloc_at _ _ _ _ rfl))
   have d7 : ∀ y : Later w1, y.w.cell? ⟨w.heap.size, 7, none⟩ = some (J Z seq) := later_cell ((hb1.cell (p := ⟨w.heap.size, 7, none⟩) (by simp)).trans (World.cell?_alloc_at _ _ _ _ rfl))
   have d8 : ∀ y : Later w1, y.w.cell? ⟨w.heap.size, 8, none⟩ = some (J Z mamt) := later_cell ((hb1.cell (p := ⟨w.heap.size, 8, none⟩) (by simp)).trans (World.cell?_alloc_at _ _ _ _ rfl))
   have HB1 : Hid (Below w.heap.size w w1) := hide (below_trans (below_alloc (Below.refl _ _) _) hb1)
   clear hb1
   go_wp2_with fail
   refine wp_region_later w1 (by kernel_rfl) (by kernel_rfl) ((Below.refl _ _).drew) ?_
   go_big_quiet_step (fail)
   go_big_quiet_step (fail)
   refine quiet_invoke 107 #[.agg #[J Z fr, J Z seq]] (.bool true) (by kernel_rfl) (fun w => by kernel_rfl) (later_all (fun w => by rw [← q1]; exact okAck_any fr seq w)) ?_
   go_frame
   have he := eqAct (4) (0) (0) (0) (fr) (own) (2) (seq) (0) (4) (id) (to) (amt) (fr) (mto) (2) (seq) (mamt)
   rw [q2] at he
   go_big_quiet_step (fail)
   go_big_quiet_step (fail)
   go_big_quiet_step (fail)
   refine quiet_invoke 106 #[.agg #[J Z fr, J Z seq], J Z own] (.agg #[J Z 4, J Z 0, J Z 0, J Z 0, J Z fr, J Z own, J Z 2, J Z seq, J Z 0]) (by kernel_rfl) (fun w => by kernel_rfl) (later_all (fun w => askAck_any fr seq own w)) ?_
   go_frame
   repeat (go_big_quiet_step (fail))
   refine wpQuiet_nil ?_
   intro _ hw'
   obtain ⟨nx, rfl⟩ := hw'
   go_wp2
   exact bodyPost_ret (v := .tuple #[.iface 98 (.agg #[J Z fr, J Z seq]), .bool true]) (by simp [results, Try.results15, go_sem]) rfl ⟨by rw [HR.out], below_trans HB1.out nx.below⟩
set_option maxHeartbeats 2000000 in
theorem actOf_parcel (id to amt fr mto mk seq mamt own : Int) (w : World) (h : ¬ mk = 2) :
  Calls Try.prog 15 #[.agg #[J Z 4, J Z id, J Z to, J Z amt, J Z fr, J Z mto, J Z mk, J Z seq, J Z mamt], J Z own] w fun e w' => e = .returned (.tuple #[.iface 95 (.agg #[J Z fr, J Z seq, J Z mamt]), .bool (actB own (⟨4, id, to, amt, ⟨fr, mto, mk, seq, mamt⟩⟩ : Ac))]) ∧ Below w.heap.size w w' := by
 have HB : Hid (actB own (⟨4, id, to, amt, ⟨fr, mto, mk, seq, mamt⟩⟩ : Ac) = ((inB 1 1000000000 fr && pOkB ⟨seq, mamt⟩) && eq9 4 0 0 0 fr own 1 seq mamt 4 id to amt fr mto mk seq mamt)) := hide (by
  rw [Bool.eq_iff_iff]
  cases h1 : inB 1 1000000000 fr <;> cases h2 : inB 1 1000000000 seq <;> cases h3 : inB 1 1000000000000 mamt <;> simp [actB, takeB, eq9, pOkB, h1, h2, h3, h] <;> omega)
 cases q1 : (inB 1 1000000000 fr && pOkB ⟨seq, mamt⟩)
 ·skip
  have HR : Hid (actB own (⟨4, id, to, amt, ⟨fr, mto, mk, seq, mamt⟩⟩ : Ac) = false) := hide (by rw [HB.out, q1]; rfl)
  go_enter Try.func15, Try.ntmps15
  go_wp2_with fail
  refine (takeOf_any fr mto mk seq mamt _).mono ?_
  rw [if_neg h]
  rintro e w1 ⟨rfl, hb1⟩
  have hne : Nonempty (Later w1) := later_there _
  have d0 : ∀ y : Later w1, y.w.cell? ⟨w.heap.size, 0, none⟩ = some (J Z 4) := later_cell ((hb1.cell (p := ⟨w.heap.size, 0, none⟩) (by simp)).trans (World.cell?_alloc_at _ _ _ _ rfl))
  have d1 : ∀ y : Later w1, y.w.cell? ⟨w.heap.size, 1, none⟩ = some (J Z id) := later_cell ((hb1.cell (p := ⟨w.heap.size, 1, none⟩) (by simp)).trans (World.cell?_alloc_at _ _ _ _ rfl))
  have d2 : ∀ y : Later w1, y.w.cell? ⟨w.heap.size, 2, none⟩ = some (J Z to) := later_cell ((hb1.cell (p := ⟨w.heap.size, 2, none⟩) (by simp)).trans (World.cell?_alloc_at _ _ _ _ rfl))
  have d3 : ∀ y : Later w1, y.w.cell? ⟨w.heap.size, 3, none⟩ = some (J Z amt) := later_cell ((hb1.cell (p := ⟨w.heap.size, 3, none⟩) (by simp)).trans (World.cell?_alloc_at _ _ _ _ rfl))
  have d4 : ∀ y : Later w1, y.w.cell? ⟨w.heap.size, 4, none⟩ = some (J Z fr) := later_cell ((hb1.cell (p := ⟨w.heap.size, 4, none⟩) (by simp)).trans (World.cell?_alloc_at _ _ _ _ rfl))
  have d5 : ∀ y : Later w1, y.w.cell? ⟨w.heap.size, 5, none⟩ = some (J Z mto) := later_cell ((hb1.cell (p := ⟨w.heap.size, 5, none⟩) (by simp)).trans (World.cell?_alloc_at _ _ _ _ rfl))
  have d6 : ∀ y : Later w1, y.w.cell? ⟨w.heap.size, 6, none⟩ = some (J Z mk) := later_cell ((hb1.cell (p := ⟨w.heap.size, 6, none⟩) (by simp)).trans (World.cell?_alloc_at _ _ _ _ rfl))
  have d7 : ∀ y : Later w1, y.w.cell? ⟨w.heap.size, 7, none⟩ = some (J Z seq) := later_cell ((hb1.cell (p := ⟨w.heap.size, 7, none⟩) (by simp)).trans (World.cell?_alloc_at _ _ _ _ rfl))
  have d8 : ∀ y : Later w1, y.w.cell? ⟨w.heap.size, 8, none⟩ = some (J Z mamt) := later_cell ((hb1.cell (p := ⟨w.heap.size, 8, none⟩) (by simp)).trans (World.cell?_alloc_at _ _ _ _ rfl))
  have HB1 : Hid (Below w.heap.size w w1) := hide (below_trans (below_alloc (Below.refl _ _) _) hb1)
  clear hb1
  go_wp2_with fail
  refine wp_region_later w1 (by kernel_rfl) (by kernel_rfl) ((Below.refl _ _).drew) ?_
  go_big_quiet_step (fail)
  go_big_quiet_step (fail)
  refine quiet_invoke 105 #[.agg #[J Z fr, J Z seq, J Z mamt]] (.bool false) (by kernel_rfl) (fun w => by kernel_rfl) (later_all (fun w => by rw [← q1]; exact okParcel_any fr seq mamt w)) ?_
  go_frame
  repeat (go_big_quiet_step (fail))
  refine wpQuiet_nil ?_
  intro _ hw'
  obtain ⟨nx, rfl⟩ := hw'
  go_wp2
  exact bodyPost_ret (v := .tuple #[.iface 95 (.agg #[J Z fr, J Z seq, J Z mamt]), .bool false]) (by simp [results, Try.results15, go_sem]) rfl ⟨by rw [HR.out], below_trans HB1.out nx.below⟩
 ·cases q2 : eq9 4 0 0 0 fr own 1 seq mamt 4 id to amt fr mto mk seq mamt
  ·skip
   have HR : Hid (actB own (⟨4, id, to, amt, ⟨fr, mto, mk, seq, mamt⟩⟩ : Ac) = false) := hide (by rw [HB.out, q1, q2]; rfl)
   go_enter Try.func15, Try.ntmps15
   go_wp2_with fail
   refine (takeOf_any fr mto mk seq mamt _).mono ?_
   rw [if_neg h]
   rintro e w1 ⟨rfl, hb1⟩
   have hne : Nonempty (Later w1) := later_there _
   have d0 : ∀ y : Later w1, y.w.cell? ⟨w.heap.size, 0, none⟩ = some (J Z 4) := later_cell ((hb1.cell (p := ⟨w.heap.size, 0, none⟩) (by simp)).trans (World.cell?_alloc_at _ _ _ _ rfl))
   have d1 : ∀ y : Later w1, y.w.cell? ⟨w.heap.size, 1, none⟩ = some (J Z id) := later_cell ((hb1.cell (p := ⟨w.heap.size, 1, none⟩) (by simp)).trans (World.cell?_alloc_at _ _ _ _ rfl))
   have d2 : ∀ y : Later w1, y.w.cell? ⟨w.heap.size, 2, none⟩ = some (J Z to) := later_cell ((hb1.cell (p := ⟨w.heap.size, 2, none⟩) (by simp)).trans (World.cell?_alloc_at _ _ _ _ rfl))
   have d3 : ∀ y : Later w1, y.w.cell? ⟨w.heap.size, 3, none⟩ = some (J Z amt) := later_cell ((hb1.cell (p := ⟨w.heap.size, 3, none⟩) (by simp)).trans (World.cell?_alloc_at _ _ _ _ rfl))
   have d4 : ∀ y : Later w1, y.w.cell? ⟨w.heap.size, 4, none⟩ = some (J Z fr) := later_cell ((hb1.cell (p := ⟨w.heap.size, 4, none⟩) (by simp)).trans (World.cell?_alloc_at _ _ _ _ rfl))
   have d5 : ∀ y : Later w1, y.w.cell? ⟨w.heap.size, 5, none⟩ = some (J Z mto) := later_cell ((hb1.cell (p := ⟨w.heap.size, 5, none⟩) (by simp)).trans (World.cell?_alloc_at _ _ _ _ rfl))
   have d6 : ∀ y : Later w1, y.w.cell? ⟨w.heap.size, 6, none⟩ = some (J Z mk) := later_cell ((hb1.cell (p := ⟨w.heap.size, 6, none⟩) (by simp)).trans (World.cell?_alloc_at _ _ _ _ rfl))
   have d7 : ∀ y : Later w1, y.w.cell? ⟨w.heap.size, 7, none⟩ = some (J Z seq) := later_cell ((hb1.cell (p := ⟨w.heap.size, 7, none⟩) (by simp)).trans (World.cell?_alloc_at _ _ _ _ rfl))
   have d8 : ∀ y : Later w1, y.w.cell? ⟨w.heap.size, 8, none⟩ = some (J Z mamt) := later_cell ((hb1.cell (p := ⟨w.heap.size, 8, none⟩) (by simp)).trans (World.cell?_alloc_at _ _ _ _ rfl))
   have HB1 : Hid (Below w.heap.size w w1) := hide (below_trans (below_alloc (Below.refl _ _) _) hb1)
   clear hb1
   go_wp2_with fail
   refine wp_region_later w1 (by kernel_rfl) (by kernel_rfl) ((Below.refl _ _).drew) ?_
   go_big_quiet_step (fail)
   go_big_quiet_step (fail)
   refine quiet_invoke 105 #[.agg #[J Z fr, J Z seq, J Z mamt]] (.bool true) (by kernel_rfl) (fun w => by kernel_rfl) (later_all (fun w => by rw [← q1]; exact okParcel_any fr seq mamt w)) ?_
   go_frame
   have he := eqAct (4) (0) (0) (0) (fr) (own) (1) (seq) (mamt) (4) (id) (to) (amt) (fr) (mto) (mk) (seq) (mamt)
   rw [q2] at he
   go_big_quiet_step (fail)
   go_big_quiet_step (fail)
   go_big_quiet_step (fail)
   refine quiet_invoke 104 #[.agg #[J Z fr, J Z seq, J Z mamt], J Z own] (.agg #[J Z 4, J Z 0, J Z 0, J Z 0, J Z fr, J Z own, J Z 1, J Z seq, J Z mamt]) (by kernel_rfl) (fun w => by kernel_rfl) (later_all (fun w => askParcel_any fr seq mamt own w)) ?_
   go_frame
   repeat (go_big_quiet_step (fail))
   refine wpQuiet_nil ?_
   intro _ hw'
   obtain ⟨nx, rfl⟩ := hw'
   go_wp2
   exact bodyPost_ret (v := .tuple #[.iface 95 (.agg #[J Z fr, J Z seq, J Z mamt]), .bool false]) (by simp [results, Try.results15, go_sem]) rfl ⟨by rw [HR.out], below_trans HB1.out nx.below⟩
  ·skip
   have HR : Hid (actB own (⟨4, id, to, amt, ⟨fr, mto, mk, seq, mamt⟩⟩ : Ac) = true) := hide (by rw [HB.out, q1, q2]; rfl)
   go_enter Try.func15, Try.ntmps15
   go_wp2_with fail
   refine (takeOf_any fr mto mk seq mamt _).mono ?_
   rw [if_neg h]
   rintro e w1 ⟨rfl, hb1⟩
   have hne : Nonempty (Later w1) := later_there _
   have d0 : ∀ y : Later w1, y.w.cell? ⟨w.heap.size, 0, none⟩ = some (J Z 4) := later_cell ((hb1.cell (p := ⟨w.heap.size, 0, none⟩) (by simp)).trans (World.cell?_alloc_at _ _ _ _ rfl))
   have d1 : ∀ y : Later w1, y.w.cell? ⟨w.heap.size, 1, none⟩ = some (J Z id) := later_cell ((hb1.cell (p := ⟨w.heap.size, 1, none⟩) (by simp)).trans (World.cell?_alloc_at _ _ _ _ rfl))
   have d2 : ∀ y : Later w1, y.w.cell? ⟨w.heap.size, 2, none⟩ = some (J Z to) := later_cell ((hb1.cell (p := ⟨w.heap.size, 2, none⟩) (by simp)).trans (World.cell?_alloc_at _ _ _ _ rfl))
   have d3 : ∀ y : Later w1, y.w.cell? ⟨w.heap.size, 3, none⟩ = some (J Z amt) := later_cell ((hb1.cell (p := ⟨w.heap.size, 3, none⟩) (by simp)).trans (World.cell?_alloc_at _ _ _ _ rfl))
   have d4 : ∀ y : Later w1, y.w.cell? ⟨w.heap.size, 4, none⟩ = some (J Z fr) := later_cell ((hb1.cell (p := ⟨w.heap.size, 4, none⟩) (by simp)).trans (World.cell?_alloc_at _ _ _ _ rfl))
   have d5 : ∀ y : Later w1, y.w.cell? ⟨w.heap.size, 5, none⟩ = some (J Z mto) := later_cell ((hb1.cell (p := ⟨w.heap.size, 5, none⟩) (by simp)).trans (World.cell?_alloc_at _ _ _ _ rfl))
   have d6 : ∀ y : Later w1, y.w.cell? ⟨w.heap.size, 6, none⟩ = some (J Z mk) := later_cell ((hb1.cell (p := ⟨w.heap.size, 6, none⟩) (by simp)).trans (World.cell?_alloc_at _ _ _ _ rfl))
   have d7 : ∀ y : Later w1, y.w.cell? ⟨w.heap.size, 7, none⟩ = some (J Z seq) := later_cell ((hb1.cell (p := ⟨w.heap.size, 7, none⟩) (by simp)).trans (World.cell?_alloc_at _ _ _ _ rfl))
   have d8 : ∀ y : Later w1, y.w.cell? ⟨w.heap.size, 8, none⟩ = some (J Z mamt) := later_cell ((hb1.cell (p := ⟨w.heap.size, 8, none⟩) (by simp)).trans (World.cell?_alloc_at _ _ _ _ rfl))
   have HB1 : Hid (Below w.heap.size w w1) := hide (below_trans (below_alloc (Below.refl _ _) _) hb1)
   clear hb1
   go_wp2_with fail
   refine wp_region_later w1 (by kernel_rfl) (by kernel_rfl) ((Below.refl _ _).drew) ?_
   go_big_quiet_step (fail)
   go_big_quiet_step (fail)
   refine quiet_invoke 105 #[.agg #[J Z fr, J Z seq, J Z mamt]] (.bool true) (by kernel_rfl) (fun w => by kernel_rfl) (later_all (fun w => by rw [← q1]; exact okParcel_any fr seq mamt w)) ?_
   go_frame
   have he := eqAct (4) (0) (0) (0) (fr) (own) (1) (seq) (mamt) (4) (id) (to) (amt) (fr) (mto) (mk) (seq) (mamt)
   rw [q2] at he
   go_big_quiet_step (fail)
   go_big_quiet_step (fail)
   go_big_quiet_step (fail)
   refine quiet_invoke 104 #[.agg #[J Z fr, J Z seq, J Z mamt], J Z own] (.agg #[J Z 4, J Z 0, J Z 0, J Z 0, J Z fr, J Z own, J Z 1, J Z seq, J Z mamt]) (by kernel_rfl) (fun w => by kernel_rfl) (later_all (fun w => askParcel_any fr seq mamt own w)) ?_
   go_frame
   repeat (go_big_quiet_step (fail))
   refine wpQuiet_nil ?_
   intro _ hw'
   obtain ⟨nx, rfl⟩ := hw'
   go_wp2
   exact bodyPost_ret (v := .tuple #[.iface 95 (.agg #[J Z fr, J Z seq, J Z mamt]), .bool true]) (by simp [results, Try.results15, go_sem]) rfl ⟨by rw [HR.out], below_trans HB1.out nx.below⟩
set_option maxHeartbeats 2000000 in
theorem actOf_tick (id to amt fr mto mk seq mamt own : Int) (w : World) :
  Calls Try.prog 15 #[.agg #[J Z 5, J Z id, J Z to, J Z amt, J Z fr, J Z mto, J Z mk, J Z seq, J Z mamt], J Z own] w fun e w' => e = .returned (.tuple #[.iface 87 (.agg #[]), .bool (actB own (⟨5, id, to, amt, ⟨fr, mto, mk, seq, mamt⟩⟩ : Ac))]) ∧ Below w.heap.size w w' := by
 have hne : Nonempty (Later (w.alloc (.cells #[J Z 5, J Z id, J Z to, J Z amt, J Z fr, J Z mto, J Z mk, J Z seq, J Z mamt] 31))) := later_there _
 have HB : Hid (actB own (⟨5, id, to, amt, ⟨fr, mto, mk, seq, mamt⟩⟩ : Ac) = eq9 5 0 0 0 0 0 0 0 0 5 id to amt fr mto mk seq mamt) := hide (by
  rw [Bool.eq_iff_iff]
  simp [actB, noneB, eq9]
  omega)
 have d0 : ∀ y : Later (w.alloc (.cells #[J Z 5, J Z id, J Z to, J Z amt, J Z fr, J Z mto, J Z mk, J Z seq, J Z mamt] 31)), y.w.cell? ⟨w.heap.size, 0, none⟩ = some (J Z 5) := later_cell (World.cell?_alloc_at _ _ _ _ rfl)
 have d1 : ∀ y : Later (w.alloc (.cells #[J Z 5, J Z id, J Z to, J Z amt, J Z fr, J Z mto, J Z mk, J Z seq, J Z mamt] 31)), y.w.cell? ⟨w.heap.size, 1, none⟩ = some (J Z id) := later_cell (World.cell?_alloc_at _ _ _ _ rfl)
 have d2 : ∀ y : Later (w.alloc (.cells #[J Z 5, J Z id, J Z to, J Z amt, J Z fr, J Z mto, J Z mk, J Z seq, J Z mamt] 31)), y.w.cell? ⟨w.heap.size, 2, none⟩ = some (J Z to) := later_cell (World.cell?_alloc_at _ _ _ _ rfl)
 have d3 : ∀ y : Later (w.alloc (.cells #[J Z 5, J Z id, J Z to, J Z amt, J Z fr, J Z mto, J Z mk, J Z seq, J Z mamt] 31)), y.w.cell? ⟨w.heap.size, 3, none⟩ = some (J Z amt) := later_cell (World.cell?_alloc_at _ _ _ _ rfl)
 have d4 : ∀ y : Later (w.alloc (.cells #[J Z 5, J Z id, J Z to, J Z amt, J Z fr, J Z mto, J Z mk, J Z seq, J Z mamt] 31)), y.w.cell? ⟨w.heap.size, 4, none⟩ = some (J Z fr) := later_cell (World.cell?_alloc_at _ _ _ _ rfl)
 have d5 : ∀ y : Later (w.alloc (.cells #[J Z 5, J Z id, J Z to, J Z amt, J Z fr, J Z mto, J Z mk, J Z seq, J Z mamt] 31)), y.w.cell? ⟨w.heap.size, 5, none⟩ = some (J Z mto) := later_cell (World.cell?_alloc_at _ _ _ _ rfl)
 have d6 : ∀ y : Later (w.alloc (.cells #[J Z 5, J Z id, J Z to, J Z amt, J Z fr, J Z mto, J Z mk, J Z seq, J Z mamt] 31)), y.w.cell? ⟨w.heap.size, 6, none⟩ = some (J Z mk) := later_cell (World.cell?_alloc_at _ _ _ _ rfl)
 have d7 : ∀ y : Later (w.alloc (.cells #[J Z 5, J Z id, J Z to, J Z amt, J Z fr, J Z mto, J Z mk, J Z seq, J Z mamt] 31)), y.w.cell? ⟨w.heap.size, 7, none⟩ = some (J Z seq) := later_cell (World.cell?_alloc_at _ _ _ _ rfl)
 have d8 : ∀ y : Later (w.alloc (.cells #[J Z 5, J Z id, J Z to, J Z amt, J Z fr, J Z mto, J Z mk, J Z seq, J Z mamt] 31)), y.w.cell? ⟨w.heap.size, 8, none⟩ = some (J Z mamt) := later_cell (World.cell?_alloc_at _ _ _ _ rfl)
 have q1 : (true : Bool) = true := rfl
 cases q2 : eq9 5 0 0 0 0 0 0 0 0 5 id to amt fr mto mk seq mamt
 ·skip
  have HR : Hid (actB own (⟨5, id, to, amt, ⟨fr, mto, mk, seq, mamt⟩⟩ : Ac) = false) := hide (by rw [HB.out, q2])
  go_enter Try.func15, Try.ntmps15
  go_wp2_with fail
  refine wp_region_later (w.alloc (.cells #[J Z 5, J Z id, J Z to, J Z amt, J Z fr, J Z mto, J Z mk, J Z seq, J Z mamt] 31)) (by kernel_rfl) (by kernel_rfl) ((Below.refl _ _).drew) ?_
  go_big_quiet_step (fail)
  go_big_quiet_step (fail)
  refine quiet_invoke 103 #[.agg #[]] (.bool true) (by kernel_rfl) (fun w => by kernel_rfl) (later_all (fun w => okTick_any w)) ?_
  go_frame
  have he := eqAct 5 0 0 0 0 0 0 0 0 5 id to amt fr mto mk seq mamt
  rw [q2] at he
  go_big_quiet_step (fail)
  go_big_quiet_step (fail)
  go_big_quiet_step (fail)
  refine quiet_invoke 102 #[.agg #[], J Z own] (.agg #[J Z 5, J Z 0, J Z 0, J Z 0, J Z 0, J Z 0, J Z 0, J Z 0, J Z 0]) (by kernel_rfl) (fun w => by kernel_rfl) (later_all (fun w => askTick_any own w)) ?_
  go_frame
  repeat (go_big_quiet_step (fail))
  refine wpQuiet_nil ?_
  intro _ hw'
  obtain ⟨nx, rfl⟩ := hw'
  go_wp2
  exact bodyPost_ret (v := .tuple #[.iface 87 (.agg #[]), .bool false]) (by simp [results, Try.results15, go_sem]) rfl ⟨by rw [HR.out], below_trans (below_alloc (Below.refl _ _) _) nx.below⟩
 ·skip
  have HR : Hid (actB own (⟨5, id, to, amt, ⟨fr, mto, mk, seq, mamt⟩⟩ : Ac) = true) := hide (by rw [HB.out, q2])
  go_enter Try.func15, Try.ntmps15
  go_wp2_with fail
  refine wp_region_later (w.alloc (.cells #[J Z 5, J Z id, J Z to, J Z amt, J Z fr, J Z mto, J Z mk, J Z seq, J Z mamt] 31)) (by kernel_rfl) (by kernel_rfl) ((Below.refl _ _).drew) ?_
  go_big_quiet_step (fail)
  go_big_quiet_step (fail)
  refine quiet_invoke 103 #[.agg #[]] (.bool true) (by kernel_rfl) (fun w => by kernel_rfl) (later_all (fun w => okTick_any w)) ?_
  go_frame
  have he := eqAct 5 0 0 0 0 0 0 0 0 5 id to amt fr mto mk seq mamt
  rw [q2] at he
  go_big_quiet_step (fail)
  go_big_quiet_step (fail)
  go_big_quiet_step (fail)
  refine quiet_invoke 102 #[.agg #[], J Z own] (.agg #[J Z 5, J Z 0, J Z 0, J Z 0, J Z 0, J Z 0, J Z 0, J Z 0, J Z 0]) (by kernel_rfl) (fun w => by kernel_rfl) (later_all (fun w => askTick_any own w)) ?_
  go_frame
  repeat (go_big_quiet_step (fail))
  refine wpQuiet_nil ?_
  intro _ hw'
  obtain ⟨nx, rfl⟩ := hw'
  go_wp2
  exact bodyPost_ret (v := .tuple #[.iface 87 (.agg #[]), .bool true]) (by simp [results, Try.results15, go_sem]) rfl ⟨by rw [HR.out], below_trans (below_alloc (Below.refl _ _) _) nx.below⟩
set_option maxHeartbeats 2000000 in
theorem actOf_other (kd id to amt fr mto mk seq mamt own : Int) (w : World) (h1 : (kd == 1) = false) (h2 : (kd == 2) = false) (h3 : (kd == 3) = false) (h4 : (kd == 4) = false) (h5 : (kd == 5) = false) :
  Calls Try.prog 15 #[.agg #[J Z kd, J Z id, J Z to, J Z amt, J Z fr, J Z mto, J Z mk, J Z seq, J Z mamt], J Z own] w fun e w' => e = .returned (.tuple #[.nilIface, .bool false]) ∧ Below w.heap.size w w' := by
 go_enter Try.func15, Try.ntmps15
 go_wp2
 exact bodyPost_ret (v := .tuple #[.nilIface, .bool false]) (by simp [results, Try.results15, go_sem]) rfl ⟨rfl, below_alloc (Below.refl _ _) _⟩
theorem actOf_any (a : Ac) (own : Int) (w : World) :
  Calls Try.prog 15 #[a.v, J Z own] w fun e w' => e = .returned (.tuple #[actV a, .bool (actB own a)]) ∧ Below w.heap.size w w' := by
 obtain ⟨kd, id, to, amt, ⟨fr, mto, mk, seq, mamt⟩⟩ := a
 by_cases k1 : kd = 1
 ·subst k1; exact actOf_spend id to amt fr mto mk seq mamt own w
 by_cases k2 : kd = 2
 ·subst k2; exact actOf_earn id to amt fr mto mk seq mamt own w
 by_cases k3 : kd = 3
 ·subst k3; exact actOf_give id to amt fr mto mk seq mamt own w
 by_cases k4 : kd = 4
 ·subst k4
  by_cases m2 : mk = 2
  ·subst m2; exact actOf_ack id to amt fr mto seq mamt own w
  ·have e : actV (⟨4, id, to, amt, ⟨fr, mto, mk, seq, mamt⟩⟩ : Ac) = .iface 95 (.agg #[J Z fr, J Z seq, J Z mamt]) := by simp [actV, m2]
   rw [e]
   exact actOf_parcel id to amt fr mto mk seq mamt own w m2
 by_cases k5 : kd = 5
 ·subst k5; exact actOf_tick id to amt fr mto mk seq mamt own w
 have e : actV (⟨kd, id, to, amt, ⟨fr, mto, mk, seq, mamt⟩⟩ : Ac) = .nilIface := by simp [actV, k1, k2, k3, k4, k5]
 have e2 : actB own (⟨kd, id, to, amt, ⟨fr, mto, mk, seq, mamt⟩⟩ : Ac) = false := by simp [actB, k1, k2, k3, k4, k5]
 rw [e, e2]
 exact actOf_other kd id to amt fr mto mk seq mamt own w (by simpa using k1) (by simpa using k2) (by simpa using k3) (by simpa using k4) (by simpa using k5)
end Go.Proofs.Ytkcpoibhlnjldaa
