/- The contracts of the program's disk ops: right, asked, opOf. -/
import Derived.Test.YtiilkkdbifhojaaDkI4
namespace Go.Proofs.Ytiilkkdbifhojaa
open Go.ChangeShapes Go.WideShapes Go.ChangeAt Go.RowKit Go.Maps
set_option linter.unusedVariables false
set_option maxRecDepth 100000
theorem appRight_any (nm da : ByteArray) (w : World) (h1 : nm.size ≤ 4194304) :
    Calls Try.prog 109 #[.agg #[.string nm, .string da]] w fun e w' => e = .returned (.bool (nmB nm)) ∧ Below w.heap.size w w' := by
  go_enter Try.func109, Try.ntmps109
  go_wp2_with (first | (go_at_call 40; refine (fileNameOk_any _ _ h1).mono ?_; rintro e w' ⟨rfl, hw'⟩; have hw'' := hw'.symm; subst hw'') | fail)
  go_ret
  exact ⟨rfl, below_alloc (Below.refl _ _) _⟩
theorem renRight_any (nm tn : ByteArray) (w : World) (h1 : nm.size ≤ 4194304) (h2 : tn.size ≤ 4194304) :
    Calls Try.prog 114 #[.agg #[.string nm, .string tn]] w fun e w' => e = .returned (.bool (nmB nm && nmB tn)) ∧ Below w.heap.size w w' := by
  cases q : nmB nm <;> cases q2 : nmB tn
  all_goals
    go_enter Try.func114, Try.ntmps114
    go_wp2_with (first | (go_at_call 40; refine (fileNameOk_any _ _ (by assumption)).mono ?_; rintro e w' ⟨rfl, hw'⟩; have hw'' := hw'.symm; subst hw'') | fail)
    go_ret
    exact ⟨by simp, below_alloc (Below.refl _ _) _⟩
theorem remRight_any (nm : ByteArray) (w : World) (h1 : nm.size ≤ 4194304) :
    Calls Try.prog 120 #[.agg #[.string nm]] w fun e w' => e = .returned (.bool (nmB nm)) ∧ Below w.heap.size w w' := by
  go_enter Try.func120, Try.ntmps120
  go_wp2_with (first | (go_at_call 40; refine (fileNameOk_any _ _ h1).mono ?_; rintro e w' ⟨rfl, hw'⟩; have hw'' := hw'.symm; subst hw'') | fail)
  go_ret
  exact ⟨rfl, below_alloc (Below.refl _ _) _⟩
theorem appAsked_any (nm da : ByteArray) (w : World) :
    Calls Try.prog 106 #[.agg #[.string nm, .string da]] w fun e w' => e = .returned (.agg #[.int .i64 1, .string nm, .string ⟨#[]⟩, .string da]) ∧ Below w.heap.size w w' := by
  go_enter Try.func106, Try.ntmps106
  go_wp2
  exact bodyPost_ret (v := .agg #[.int .i64 1, .string nm, .string ⟨#[]⟩, .string da]) (by simp [results, Try.results106, go_sem]) rfl ⟨rfl, below_alloc (below_alloc (Below.refl _ _) _) _⟩
theorem renAsked_any (nm tn : ByteArray) (w : World) :
    Calls Try.prog 111 #[.agg #[.string nm, .string tn]] w fun e w' => e = .returned (.agg #[.int .i64 2, .string nm, .string tn, .string ⟨#[]⟩]) ∧ Below w.heap.size w w' := by
  go_enter Try.func111, Try.ntmps111
  go_wp2
  exact bodyPost_ret (v := .agg #[.int .i64 2, .string nm, .string tn, .string ⟨#[]⟩]) (by simp [results, Try.results111, go_sem]) rfl ⟨rfl, below_alloc (below_alloc (Below.refl _ _) _) _⟩
theorem remAsked_any (nm : ByteArray) (w : World) :
    Calls Try.prog 117 #[.agg #[.string nm]] w fun e w' => e = .returned (.agg #[.int .i64 3, .string nm, .string ⟨#[]⟩, .string ⟨#[]⟩]) ∧ Below w.heap.size w w' := by
  go_enter Try.func117, Try.ntmps117
  go_wp2
  exact bodyPost_ret (v := .agg #[.int .i64 3, .string nm, .string ⟨#[]⟩, .string ⟨#[]⟩]) (by simp [results, Try.results117, go_sem]) rfl ⟨rfl, below_alloc (below_alloc (Below.refl _ _) _) _⟩
def opV (o : Dp) : Value := if o.kind == 1 then .iface 96 (.agg #[.string o.nm, .string o.da]) else if o.kind == 2 then .iface 98 (.agg #[.string o.nm, .string o.tn]) else if o.kind == 3 then .iface 100 (.agg #[.string o.nm]) else .nilIface
theorem quiet_invoke {P : Program} {ops : Array Oper} {C : World → Prop} {Q : Act → Prop} {a : Act} {o : Oper} {rest : List Oper} (f : FuncId) (args : Array Value) (v : Value) (hw : Region.wanted o (yielded ops a.tmps) = true) (hr : ∀ w, (execOp a.eval o).run P w = .ok (.enter f args) w) (hc : ∀ w, C w → Calls P f args w (fun e w'' => e = .returned v ∧ C w'')) (h : wpQuiet P ops C Q rest (a.put o.dst v)) : wpQuiet P ops C Q (o :: rest) a :=
  BigFrame.wpQuiet_want hw fun K hK => ⟨v, fun w hC => by unfold Oper.quietAt; rw [hr]; exact ⟨rfl, hc w hC⟩, hK _ h⟩
theorem later_all {P : Program} {f : FuncId} {args : Array Value} {W : World} {v : Value} (h : ∀ w, Calls P f args w fun e w' => e = .returned v ∧ Below w.heap.size w w') : ∀ w, (∃ x : Later W, w = x.w) → Calls P f args w (fun e w'' => e = .returned v ∧ ∃ x : Later W, w'' = x.w) := by
  rintro w ⟨x, rfl⟩
  exact later_of (h x.w)
set_option maxHeartbeats 2000000 in
theorem opOf_app (nm tn da : ByteArray) (w : World) (h1 : nm.size ≤ 1048600) (h2 : tn.size ≤ 1048600) :
    Calls Try.prog 42 #[.agg #[.int .i64 1, .string nm, .string tn, .string da]] w fun e w' => e = .returned (.tuple #[.iface 96 (.agg #[.string nm, .string da]), .bool (nmB nm && emB tn)]) ∧ Below w.heap.size w w' := by
  have hne : Nonempty (Later (w.alloc (.cells #[.int .i64 1, .string nm, .string tn, .string da] 36))) := later_there _
  have d0 : ∀ y : Later (w.alloc (.cells #[.int .i64 1, .string nm, .string tn, .string da] 36)), y.w.cell? ⟨w.heap.size, 0, none⟩ = some (.int .i64 1) := later_cell (World.cell?_alloc_at _ _ _ _ rfl)
  have d1 : ∀ y : Later (w.alloc (.cells #[.int .i64 1, .string nm, .string tn, .string da] 36)), y.w.cell? ⟨w.heap.size, 1, none⟩ = some (.string nm) := later_cell (World.cell?_alloc_at _ _ _ _ rfl)
  have d2 : ∀ y : Later (w.alloc (.cells #[.int .i64 1, .string nm, .string tn, .string da] 36)), y.w.cell? ⟨w.heap.size, 2, none⟩ = some (.string tn) := later_cell (World.cell?_alloc_at _ _ _ _ rfl)
  have d3 : ∀ y : Later (w.alloc (.cells #[.int .i64 1, .string nm, .string tn, .string da] 36)), y.w.cell? ⟨w.heap.size, 3, none⟩ = some (.string da) := later_cell (World.cell?_alloc_at _ _ _ _ rfl)
  cases q1 : (nmB nm)
  · have HR : Hid ((false && emB tn) = false) := hide (by simp)
    go_enter Try.func42, Try.ntmps42
    go_wp2_with fail
    refine wp_region_later (w.alloc (.cells #[.int .i64 1, .string nm, .string tn, .string da] 36)) (by kernel_rfl) (by kernel_rfl) ((Below.refl _ _).drew) ?_
    go_big_quiet_step (fail)
    go_big_quiet_step (fail)
    refine quiet_invoke 109 #[.agg #[.string nm, .string da]] (.bool false) (by kernel_rfl) (fun w => by kernel_rfl) (later_all (fun w => by rw [← q1]; exact appRight_any nm da w (by omega))) ?_
    go_frame
    repeat (go_big_quiet_step (fail))
    refine wpQuiet_nil ?_
    intro _ hw'
    obtain ⟨nx, rfl⟩ := hw'
    go_wp2
    exact bodyPost_ret (v := .tuple #[.iface 96 (.agg #[.string nm, .string da]), .bool false]) (by simp [results, Try.results42, go_sem]) rfl ⟨by rw [HR.out], below_trans (below_alloc (Below.refl _ _) _) nx.below⟩
  · skip
    cases e1 : tn.toList.isEmpty
    · skip
      have HR : Hid ((true && emB tn) = false) := hide (by simp [emB, e1])
      go_enter Try.func42, Try.ntmps42
      go_wp2_with fail
      refine wp_region_later (w.alloc (.cells #[.int .i64 1, .string nm, .string tn, .string da] 36)) (by kernel_rfl) (by kernel_rfl) ((Below.refl _ _).drew) ?_
      go_big_quiet_step (fail)
      go_big_quiet_step (fail)
      refine quiet_invoke 109 #[.agg #[.string nm, .string da]] (.bool true) (by kernel_rfl) (fun w => by kernel_rfl) (later_all (fun w => by rw [← q1]; exact appRight_any nm da w (by omega))) ?_
      go_frame
      go_big_quiet_step (fail)
      go_big_quiet_step (fail)
      refine quiet_invoke 106 #[.agg #[.string nm, .string da]] (.agg #[.int .i64 1, .string nm, .string ⟨#[]⟩, .string da]) (by kernel_rfl) (fun w => by kernel_rfl) (later_all (fun w => appAsked_any nm da w)) ?_
      go_frame
      repeat (go_big_quiet_step (fail))
      refine wpQuiet_nil ?_
      intro _ hw'
      obtain ⟨nx, rfl⟩ := hw'
      go_wp2
      exact bodyPost_ret (v := .tuple #[.iface 96 (.agg #[.string nm, .string da]), .bool false]) (by simp [results, Try.results42, go_sem]) rfl ⟨by rw [HR.out], below_trans (below_alloc (Below.refl _ _) _) nx.below⟩
    · skip
      have HR : Hid ((true && emB tn) = true) := hide (by simp [emB, e1])
      go_enter Try.func42, Try.ntmps42
      go_wp2_with fail
      refine wp_region_later (w.alloc (.cells #[.int .i64 1, .string nm, .string tn, .string da] 36)) (by kernel_rfl) (by kernel_rfl) ((Below.refl _ _).drew) ?_
      go_big_quiet_step (fail)
      go_big_quiet_step (fail)
      refine quiet_invoke 109 #[.agg #[.string nm, .string da]] (.bool true) (by kernel_rfl) (fun w => by kernel_rfl) (later_all (fun w => by rw [← q1]; exact appRight_any nm da w (by omega))) ?_
      go_frame
      go_big_quiet_step (fail)
      go_big_quiet_step (fail)
      refine quiet_invoke 106 #[.agg #[.string nm, .string da]] (.agg #[.int .i64 1, .string nm, .string ⟨#[]⟩, .string da]) (by kernel_rfl) (fun w => by kernel_rfl) (later_all (fun w => appAsked_any nm da w)) ?_
      go_frame
      repeat (go_big_quiet_step (fail))
      refine wpQuiet_nil ?_
      intro _ hw'
      obtain ⟨nx, rfl⟩ := hw'
      go_wp2
      exact bodyPost_ret (v := .tuple #[.iface 96 (.agg #[.string nm, .string da]), .bool true]) (by simp [results, Try.results42, go_sem]) rfl ⟨by rw [HR.out], below_trans (below_alloc (Below.refl _ _) _) nx.below⟩
set_option maxHeartbeats 2000000 in
theorem opOf_ren (nm tn da : ByteArray) (w : World) (h1 : nm.size ≤ 1048600) (h2 : tn.size ≤ 1048600) :
    Calls Try.prog 42 #[.agg #[.int .i64 2, .string nm, .string tn, .string da]] w fun e w' => e = .returned (.tuple #[.iface 98 (.agg #[.string nm, .string tn]), .bool ((nmB nm && nmB tn) && emB da)]) ∧ Below w.heap.size w w' := by
  have hne : Nonempty (Later (w.alloc (.cells #[.int .i64 2, .string nm, .string tn, .string da] 36))) := later_there _
  have d0 : ∀ y : Later (w.alloc (.cells #[.int .i64 2, .string nm, .string tn, .string da] 36)), y.w.cell? ⟨w.heap.size, 0, none⟩ = some (.int .i64 2) := later_cell (World.cell?_alloc_at _ _ _ _ rfl)
  have d1 : ∀ y : Later (w.alloc (.cells #[.int .i64 2, .string nm, .string tn, .string da] 36)), y.w.cell? ⟨w.heap.size, 1, none⟩ = some (.string nm) := later_cell (World.cell?_alloc_at _ _ _ _ rfl)
  have d2 : ∀ y : Later (w.alloc (.cells #[.int .i64 2, .string nm, .string tn, .string da] 36)), y.w.cell? ⟨w.heap.size, 2, none⟩ = some (.string tn) := later_cell (World.cell?_alloc_at _ _ _ _ rfl)
  have d3 : ∀ y : Later (w.alloc (.cells #[.int .i64 2, .string nm, .string tn, .string da] 36)), y.w.cell? ⟨w.heap.size, 3, none⟩ = some (.string da) := later_cell (World.cell?_alloc_at _ _ _ _ rfl)
  cases q1 : (nmB nm && nmB tn)
  · have HR : Hid (((false) && emB da) = false) := hide (by simp)
    go_enter Try.func42, Try.ntmps42
    go_wp2_with fail
    refine wp_region_later (w.alloc (.cells #[.int .i64 2, .string nm, .string tn, .string da] 36)) (by kernel_rfl) (by kernel_rfl) ((Below.refl _ _).drew) ?_
    go_big_quiet_step (fail)
    go_big_quiet_step (fail)
    refine quiet_invoke 114 #[.agg #[.string nm, .string tn]] (.bool false) (by kernel_rfl) (fun w => by kernel_rfl) (later_all (fun w => by rw [← q1]; exact renRight_any nm tn w (by omega) (by omega))) ?_
    go_frame
    repeat (go_big_quiet_step (fail))
    refine wpQuiet_nil ?_
    intro _ hw'
    obtain ⟨nx, rfl⟩ := hw'
    go_wp2
    exact bodyPost_ret (v := .tuple #[.iface 98 (.agg #[.string nm, .string tn]), .bool false]) (by simp [results, Try.results42, go_sem]) rfl ⟨by rw [HR.out], below_trans (below_alloc (Below.refl _ _) _) nx.below⟩
  · skip
    cases e1 : da.toList.isEmpty
    · skip
      have HR : Hid (((true) && emB da) = false) := hide (by simp [emB, e1])
      go_enter Try.func42, Try.ntmps42
      go_wp2_with fail
      refine wp_region_later (w.alloc (.cells #[.int .i64 2, .string nm, .string tn, .string da] 36)) (by kernel_rfl) (by kernel_rfl) ((Below.refl _ _).drew) ?_
      go_big_quiet_step (fail)
      go_big_quiet_step (fail)
      refine quiet_invoke 114 #[.agg #[.string nm, .string tn]] (.bool true) (by kernel_rfl) (fun w => by kernel_rfl) (later_all (fun w => by rw [← q1]; exact renRight_any nm tn w (by omega) (by omega))) ?_
      go_frame
      go_big_quiet_step (fail)
      go_big_quiet_step (fail)
      refine quiet_invoke 111 #[.agg #[.string nm, .string tn]] (.agg #[.int .i64 2, .string nm, .string tn, .string ⟨#[]⟩]) (by kernel_rfl) (fun w => by kernel_rfl) (later_all (fun w => renAsked_any nm tn w)) ?_
      go_frame
      repeat (go_big_quiet_step (fail))
      refine wpQuiet_nil ?_
      intro _ hw'
      obtain ⟨nx, rfl⟩ := hw'
      go_wp2
      exact bodyPost_ret (v := .tuple #[.iface 98 (.agg #[.string nm, .string tn]), .bool false]) (by simp [results, Try.results42, go_sem]) rfl ⟨by rw [HR.out], below_trans (below_alloc (Below.refl _ _) _) nx.below⟩
    · skip
      have HR : Hid (((true) && emB da) = true) := hide (by simp [emB, e1])
      go_enter Try.func42, Try.ntmps42
      go_wp2_with fail
      refine wp_region_later (w.alloc (.cells #[.int .i64 2, .string nm, .string tn, .string da] 36)) (by kernel_rfl) (by kernel_rfl) ((Below.refl _ _).drew) ?_
      go_big_quiet_step (fail)
      go_big_quiet_step (fail)
      refine quiet_invoke 114 #[.agg #[.string nm, .string tn]] (.bool true) (by kernel_rfl) (fun w => by kernel_rfl) (later_all (fun w => by rw [← q1]; exact renRight_any nm tn w (by omega) (by omega))) ?_
      go_frame
      go_big_quiet_step (fail)
      go_big_quiet_step (fail)
      refine quiet_invoke 111 #[.agg #[.string nm, .string tn]] (.agg #[.int .i64 2, .string nm, .string tn, .string ⟨#[]⟩]) (by kernel_rfl) (fun w => by kernel_rfl) (later_all (fun w => renAsked_any nm tn w)) ?_
      go_frame
      repeat (go_big_quiet_step (fail))
      refine wpQuiet_nil ?_
      intro _ hw'
      obtain ⟨nx, rfl⟩ := hw'
      go_wp2
      exact bodyPost_ret (v := .tuple #[.iface 98 (.agg #[.string nm, .string tn]), .bool true]) (by simp [results, Try.results42, go_sem]) rfl ⟨by rw [HR.out], below_trans (below_alloc (Below.refl _ _) _) nx.below⟩
set_option maxHeartbeats 2000000 in
theorem opOf_rem (nm tn da : ByteArray) (w : World) (h1 : nm.size ≤ 1048600) (h2 : tn.size ≤ 1048600) :
    Calls Try.prog 42 #[.agg #[.int .i64 3, .string nm, .string tn, .string da]] w fun e w' => e = .returned (.tuple #[.iface 100 (.agg #[.string nm]), .bool (nmB nm && (emB tn && emB da))]) ∧ Below w.heap.size w w' := by
  have hne : Nonempty (Later (w.alloc (.cells #[.int .i64 3, .string nm, .string tn, .string da] 36))) := later_there _
  have d0 : ∀ y : Later (w.alloc (.cells #[.int .i64 3, .string nm, .string tn, .string da] 36)), y.w.cell? ⟨w.heap.size, 0, none⟩ = some (.int .i64 3) := later_cell (World.cell?_alloc_at _ _ _ _ rfl)
  have d1 : ∀ y : Later (w.alloc (.cells #[.int .i64 3, .string nm, .string tn, .string da] 36)), y.w.cell? ⟨w.heap.size, 1, none⟩ = some (.string nm) := later_cell (World.cell?_alloc_at _ _ _ _ rfl)
  have d2 : ∀ y : Later (w.alloc (.cells #[.int .i64 3, .string nm, .string tn, .string da] 36)), y.w.cell? ⟨w.heap.size, 2, none⟩ = some (.string tn) := later_cell (World.cell?_alloc_at _ _ _ _ rfl)
  have d3 : ∀ y : Later (w.alloc (.cells #[.int .i64 3, .string nm, .string tn, .string da] 36)), y.w.cell? ⟨w.heap.size, 3, none⟩ = some (.string da) := later_cell (World.cell?_alloc_at _ _ _ _ rfl)
  cases q1 : (nmB nm)
  · have HR : Hid ((false && (emB tn && emB da)) = false) := hide (by simp)
    go_enter Try.func42, Try.ntmps42
    go_wp2_with fail
    refine wp_region_later (w.alloc (.cells #[.int .i64 3, .string nm, .string tn, .string da] 36)) (by kernel_rfl) (by kernel_rfl) ((Below.refl _ _).drew) ?_
    go_big_quiet_step (fail)
    go_big_quiet_step (fail)
    refine quiet_invoke 120 #[.agg #[.string nm]] (.bool false) (by kernel_rfl) (fun w => by kernel_rfl) (later_all (fun w => by rw [← q1]; exact remRight_any nm w (by omega))) ?_
    go_frame
    repeat (go_big_quiet_step (fail))
    refine wpQuiet_nil ?_
    intro _ hw'
    obtain ⟨nx, rfl⟩ := hw'
    go_wp2
    exact bodyPost_ret (v := .tuple #[.iface 100 (.agg #[.string nm]), .bool false]) (by simp [results, Try.results42, go_sem]) rfl ⟨by rw [HR.out], below_trans (below_alloc (Below.refl _ _) _) nx.below⟩
  · skip
    cases e1 : tn.toList.isEmpty
    · skip
      cases e2 : da.toList.isEmpty
      · skip
        have HR : Hid ((true && (emB tn && emB da)) = false) := hide (by simp [emB, e1, e2])
        go_enter Try.func42, Try.ntmps42
        go_wp2_with fail
        refine wp_region_later (w.alloc (.cells #[.int .i64 3, .string nm, .string tn, .string da] 36)) (by kernel_rfl) (by kernel_rfl) ((Below.refl _ _).drew) ?_
        go_big_quiet_step (fail)
        go_big_quiet_step (fail)
        refine quiet_invoke 120 #[.agg #[.string nm]] (.bool true) (by kernel_rfl) (fun w => by kernel_rfl) (later_all (fun w => by rw [← q1]; exact remRight_any nm w (by omega))) ?_
        go_frame
        go_big_quiet_step (fail)
        go_big_quiet_step (fail)
        refine quiet_invoke 117 #[.agg #[.string nm]] (.agg #[.int .i64 3, .string nm, .string ⟨#[]⟩, .string ⟨#[]⟩]) (by kernel_rfl) (fun w => by kernel_rfl) (later_all (fun w => remAsked_any nm w)) ?_
        go_frame
        repeat (go_big_quiet_step (fail))
        refine wpQuiet_nil ?_
        intro _ hw'
        obtain ⟨nx, rfl⟩ := hw'
        go_wp2
        exact bodyPost_ret (v := .tuple #[.iface 100 (.agg #[.string nm]), .bool false]) (by simp [results, Try.results42, go_sem]) rfl ⟨by rw [HR.out], below_trans (below_alloc (Below.refl _ _) _) nx.below⟩
      · skip
        have HR : Hid ((true && (emB tn && emB da)) = false) := hide (by simp [emB, e1, e2])
        go_enter Try.func42, Try.ntmps42
        go_wp2_with fail
        refine wp_region_later (w.alloc (.cells #[.int .i64 3, .string nm, .string tn, .string da] 36)) (by kernel_rfl) (by kernel_rfl) ((Below.refl _ _).drew) ?_
        go_big_quiet_step (fail)
        go_big_quiet_step (fail)
        refine quiet_invoke 120 #[.agg #[.string nm]] (.bool true) (by kernel_rfl) (fun w => by kernel_rfl) (later_all (fun w => by rw [← q1]; exact remRight_any nm w (by omega))) ?_
        go_frame
        go_big_quiet_step (fail)
        go_big_quiet_step (fail)
        refine quiet_invoke 117 #[.agg #[.string nm]] (.agg #[.int .i64 3, .string nm, .string ⟨#[]⟩, .string ⟨#[]⟩]) (by kernel_rfl) (fun w => by kernel_rfl) (later_all (fun w => remAsked_any nm w)) ?_
        go_frame
        repeat (go_big_quiet_step (fail))
        refine wpQuiet_nil ?_
        intro _ hw'
        obtain ⟨nx, rfl⟩ := hw'
        go_wp2
        exact bodyPost_ret (v := .tuple #[.iface 100 (.agg #[.string nm]), .bool false]) (by simp [results, Try.results42, go_sem]) rfl ⟨by rw [HR.out], below_trans (below_alloc (Below.refl _ _) _) nx.below⟩
    · skip
      cases e2 : da.toList.isEmpty
      · skip
        have HR : Hid ((true && (emB tn && emB da)) = false) := hide (by simp [emB, e1, e2])
        go_enter Try.func42, Try.ntmps42
        go_wp2_with fail
        refine wp_region_later (w.alloc (.cells #[.int .i64 3, .string nm, .string tn, .string da] 36)) (by kernel_rfl) (by kernel_rfl) ((Below.refl _ _).drew) ?_
        go_big_quiet_step (fail)
        go_big_quiet_step (fail)
        refine quiet_invoke 120 #[.agg #[.string nm]] (.bool true) (by kernel_rfl) (fun w => by kernel_rfl) (later_all (fun w => by rw [← q1]; exact remRight_any nm w (by omega))) ?_
        go_frame
        go_big_quiet_step (fail)
        go_big_quiet_step (fail)
        refine quiet_invoke 117 #[.agg #[.string nm]] (.agg #[.int .i64 3, .string nm, .string ⟨#[]⟩, .string ⟨#[]⟩]) (by kernel_rfl) (fun w => by kernel_rfl) (later_all (fun w => remAsked_any nm w)) ?_
        go_frame
        repeat (go_big_quiet_step (fail))
        refine wpQuiet_nil ?_
        intro _ hw'
        obtain ⟨nx, rfl⟩ := hw'
        go_wp2
        exact bodyPost_ret (v := .tuple #[.iface 100 (.agg #[.string nm]), .bool false]) (by simp [results, Try.results42, go_sem]) rfl ⟨by rw [HR.out], below_trans (below_alloc (Below.refl _ _) _) nx.below⟩
      · skip
        have HR : Hid ((true && (emB tn && emB da)) = true) := hide (by simp [emB, e1, e2])
        go_enter Try.func42, Try.ntmps42
        go_wp2_with fail
        refine wp_region_later (w.alloc (.cells #[.int .i64 3, .string nm, .string tn, .string da] 36)) (by kernel_rfl) (by kernel_rfl) ((Below.refl _ _).drew) ?_
        go_big_quiet_step (fail)
        go_big_quiet_step (fail)
        refine quiet_invoke 120 #[.agg #[.string nm]] (.bool true) (by kernel_rfl) (fun w => by kernel_rfl) (later_all (fun w => by rw [← q1]; exact remRight_any nm w (by omega))) ?_
        go_frame
        go_big_quiet_step (fail)
        go_big_quiet_step (fail)
        refine quiet_invoke 117 #[.agg #[.string nm]] (.agg #[.int .i64 3, .string nm, .string ⟨#[]⟩, .string ⟨#[]⟩]) (by kernel_rfl) (fun w => by kernel_rfl) (later_all (fun w => remAsked_any nm w)) ?_
        go_frame
        repeat (go_big_quiet_step (fail))
        refine wpQuiet_nil ?_
        intro _ hw'
        obtain ⟨nx, rfl⟩ := hw'
        go_wp2
        exact bodyPost_ret (v := .tuple #[.iface 100 (.agg #[.string nm]), .bool true]) (by simp [results, Try.results42, go_sem]) rfl ⟨by rw [HR.out], below_trans (below_alloc (Below.refl _ _) _) nx.below⟩
end Go.Proofs.Ytiilkkdbifhojaa
