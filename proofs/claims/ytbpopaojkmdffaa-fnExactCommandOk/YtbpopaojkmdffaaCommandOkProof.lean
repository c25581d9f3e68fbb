/- At every command the law FnExactCommandOk returns true: CommandOk of the program answers as its model, and nothing that was there is written; no condition. -/
import Derived.Test.YtbpopaojkmdffaaCmdL
import Derived.WalkKit
import Derived.ProofKit
import Derived.OpenShut
import Derived.ShutString
import Derived.ChangeOld
import Derived.Below
namespace Go.Proofs.Ytbpopaojkmdffaa.fnExactCommandOk
open Go.ChangeShapes Go.WideShapes Go.ChangeAt Go.RowKit
open Go.ChangeMaps (open_string shut_string)
set_option linter.unusedVariables false

theorem own : ownKnob Try.prog.godebug = none := by kernel_rfl
theorem laidOut : laidOutB Try.prog = true := by kernel_rfl

theorem cells32 : Try.prog.cellsOf 32 = 6 := by kernel_rfl
theorem cells2 : Try.prog.cellsOf 2 = 1 := by kernel_rfl
theorem cells9 : Try.prog.cellsOf 9 = 1 := by kernel_rfl
theorem boxed {w w1 : World} {v0 v1 v2 v3 v4 v5 : Value} {T : TypeId} (h : Kept (w.alloc (.cells #[v0, v1, v2, v3, v4, v5] T)) w1) :
    w1.cell? ⟨w.heap.size, 0, none⟩ = some v0 ∧ w1.cell? ⟨w.heap.size, 1, none⟩ = some v1 ∧ w1.cell? ⟨w.heap.size, 2, none⟩ = some v2 ∧ w1.cell? ⟨w.heap.size, 3, none⟩ = some v3 ∧ w1.cell? ⟨w.heap.size, 4, none⟩ = some v4 ∧ w1.cell? ⟨w.heap.size, 5, none⟩ = some v5 := by
  have hb : ∀ o, w1.cell? ⟨w.heap.size, o, none⟩ = (w.alloc (.cells #[v0, v1, v2, v3, v4, v5] T)).cell? ⟨w.heap.size, o, none⟩ := fun o => h.below.cell (p := ⟨w.heap.size, o, none⟩) (by simp)
  refine ⟨?_, ?_, ?_, ?_, ?_, ?_⟩ <;> rw [hb] <;> simp
set_option maxHeartbeats 1000000 in
theorem walk (id kind : Int) (f t : ByteArray) (am ref : Int) (w : World) (hf : f.size ≤ maxLen) (ht : t.size ≤ maxLen) :
    Calls Try.prog 8 #[.agg #[.int .i64 id, .int .i64 kind, .string f, .string t, .int .i64 am, .int .i64 ref]] w fun e w' => e = .returned (.bool true) ∧ Below w.heap.size w w' := by
  go_enter Try.func8, Try.ntmps8
  go_wp2_with fail
  refine (szCommand_any _ _ _ _ _ _ _ hf ht).mono ?_
  rintro e w1 ⟨HK1, r, rfl⟩
  obtain ⟨c0, c1, c2, c3, c4, c5⟩ := boxed HK1
  by_cases hr : r < 0
  · go_wp2
    go_ret
    exact ⟨rfl, (((Kept.refl w).alloc _ _).trans HK1).below⟩
  · go_wp2_with fail
    refine (toCommand_any _ _ _ _ _ _ _).mono ?_
    rintro e w2 ⟨rfl, HK2⟩
    clear c0 c1 c2 c3 c4 c5
    go_wp2_with fail
    refine (specCommandOk_any _ _ _ _ _ _ _ hf ht).mono ?_
    rintro e w3 ⟨rfl, HK3⟩
    have HK13 := HK1.trans (HK2.trans HK3)
    obtain ⟨c0, c1, c2, c3, c4, c5⟩ := boxed HK13
    go_wp2_with fail
    refine (toCommand_any _ _ _ _ _ _ _).mono ?_
    rintro e w4 ⟨rfl, HK4⟩
    clear c0 c1 c2 c3 c4 c5
    go_wp2_with fail
    refine (implCommandOk_any _ _ _ _ _ _ _ hf ht).mono ?_
    rintro e w5 ⟨rfl, HK5⟩
    go_wp2
    go_ret
    exact ⟨rfl, (((Kept.refl w).alloc _ _).trans (HK13.trans (HK4.trans HK5))).below⟩
theorem list6 {A : Type} (l : List A) (h : l.length = 6) : ∃ a b c d e f, l = [a, b, c, d, e, f] := by
  match l, h with
  | [a, b, c, d, e, f], _ => exact ⟨a, b, c, d, e, f, rfl⟩
theorem opened {H : Type} {enc : TypeId × Value → H} {W : World} {base : Nat} {v : Value} {d : DataW H} {p : List MemPlace} (hv : Value.okWide Try.prog W .any base 32 v) (h : DataW.Trod enc Try.prog W 0 (fun _ => true) true 32 v d p) :
    ∃ (id kind : Int) (f t : ByteArray) (am ref : Int), v = .agg #[.int .i64 id, .int .i64 kind, .string f, .string t, .int .i64 am, .int .i64 ref] ∧ f.size ≤ maxLen ∧ t.size ≤ maxLen := by
  obtain ⟨cs, rfl, hsz⟩ := okWide_struct Try.underlying32 hv
  obtain ⟨fuel, hf⟩ := h
  obtain ⟨xs, n, _, _, hl, hlen, hfi⟩ := DataW.trod_struct Try.underlying32 hf
  obtain ⟨y0, y1, y2, y3, y4, y5, rfl⟩ := list6 xs hlen
  rw [cells32] at hl
  simp only [Value.cells] at hl hfi
  obtain ⟨a0, a1, a2, a3, a4, a5, hcs⟩ := list6 _ hl
  rw [hcs] at hfi
  have h0 : DataW.trod enc Try.prog W 0 (fun _ => true) true n 2 [a0] = some y0 := by simpa [cells2] using hfi 0 _ rfl
  have h1 : DataW.trod enc Try.prog W 0 (fun _ => true) true n 2 [a1] = some y1 := by simpa [cells2] using hfi 1 _ rfl
  have h2 : DataW.trod enc Try.prog W 0 (fun _ => true) true n 9 [a2] = some y2 := by simpa [cells9] using hfi 2 _ rfl
  have h3 : DataW.trod enc Try.prog W 0 (fun _ => true) true n 9 [a3] = some y3 := by simpa [cells9] using hfi 3 _ rfl
  have h4 : DataW.trod enc Try.prog W 0 (fun _ => true) true n 2 [a4] = some y4 := by simpa [cells2] using hfi 4 _ rfl
  have h5 : DataW.trod enc Try.prog W 0 (fun _ => true) true n 2 [a5] = some y5 := by simpa [cells2] using hfi 5 _ rfl
  obtain ⟨id, e0, _, _⟩ := DataW.trod_int Try.underlying2 h0
  obtain ⟨kind, e1, _, _⟩ := DataW.trod_int Try.underlying2 h1
  obtain ⟨f, e2, _, hf⟩ := DataW.trod_string Try.underlying9 h2
  obtain ⟨t, e3, _, ht⟩ := DataW.trod_string Try.underlying9 h3
  obtain ⟨am, e4, _, _⟩ := DataW.trod_int Try.underlying2 h4
  obtain ⟨ref, e5, _, _⟩ := DataW.trod_int Try.underlying2 h5
  simp only [List.cons.injEq, and_true] at e0 e1 e2 e3 e4 e5
  subst e0 e1 e2 e3 e4 e5
  exact ⟨id, kind, f, t, am, ref, by congr 1; exact Array.toList_inj.1 hcs, hf, ht⟩

/-! ### THE ROW's STEP: WRITTEN OUT: LEAVE IT -/
set_option maxRecDepth 100000 in
theorem lifted (os : Os) (started : os.Started) (H : Type) (enc : TypeId × Value → H) :
    ReturnsInHanded {} Try.checked os 8 .any (Rows.fnExactCommandOkSpec.pre6 enc Try.prog Try.f8 Rows.fnExactCommandOkRow.domain false) (Rows.fnExactCommandOkSpec.post enc Try.prog Try.f8 false true false false) := by
  refine returnsInHanded_of_change (C := Try.checked) own started (by kernel_rfl) Try.func8
    (ChangeSpec.witness6 (enc := enc) (C := Try.checked) false ⟨#[], #[.agg #[.int .i64 0, .int .i64 0, .string ByteArray.empty, .string ByteArray.empty, .int .i64 0, .int .i64 0]], []⟩ 8 (by kernel_rfl) (by kernel_rfl) (by kernel_rfl) (by kernel_rfl)) ?_
  intro W base args ds gs before hval0 hW hcnd _
  have hval : ∀ (j : Nat) t v, Try.f8.params[j]? = some t → args[j]? = some v → Value.okWide Try.prog W .any base t v := hval0
  have hW' := hW
  obtain ⟨p, q, hA0, hV, rfl, hfz, hnd⟩ := hW
  have hA : DataW.TrodAll enc Try.prog W 0 (fun _ => true) true Try.f8.params.toList args.toList ds p := hA0
  rw [Try.params8] at hA hval
  obtain ⟨v0, vs0, d0, ds0, p0, q0, hargs, rfl, rfl, h0, r0⟩ := trodAll_cons hA
  obtain ⟨rfl, rfl, rfl⟩ := trodAll_nil r0
  obtain rfl : args = #[v0] := by cases args; simp_all
  obtain ⟨rfl, rfl⟩ := trodVars_none hV
  have k0 := h0
  have lt0 : ∀ x ∈ p0, x.block < W.heap.size := by obtain ⟨m, hm⟩ := k0; exact DataW.trod_lt m _ _ _ hm
  obtain ⟨id, kind, f, t, am, ref, rfl, hf, ht⟩ := opened (hval 0 32 v0 rfl rfl) h0
  clear hA0 hval0
  refine (walk id kind f t am ref W hf ht).mono fun e W' ⟨he, bel⟩ => ?_
  subst he
  exact ⟨_, rfl, _, _, _, [], _, [], hW', trodAll_mk1 (shut_bool Try.underlying4 _), (trodAll_cons_mk (Below.trod laidOut (by kernel_rfl) (of_decide_eq_true (by kernel_rfl)) k0 bel lt0) trodAll_mk0), rfl, bel.frame _, fun h => by cases h⟩

theorem over : Rows.fnExactCommandOkRow.holds Try.pinned (OpenSpec.ofChange Rows.fnExactCommandOkSpec) :=
  OpenClaim.holds_of_wide 8 Try.f8 rfl rfl rfl rfl rfl rfl rfl ⟨rfl, rfl, rfl, rfl, rfl⟩ rfl rfl rfl rfl rfl (by kernel_rfl) Try.func8 (by kernel_rfl)
    (of_decide_eq_true (by kernel_rfl)) (by unfold Func.isWrapper; first | (rw [if_pos (by decide +kernel)]; kernel_rfl) | (rw [if_neg (by decide +kernel)]; exact ⟨rfl, rfl⟩))
    (fun os started H enc _ => lifted os started H enc)

/-- ████ THE STATEMENT ████ -/
theorem proved : Rows.FnExactCommandOkSaid := over
#print axioms proved
end Go.Proofs.Ytbpopaojkmdffaa.fnExactCommandOk
