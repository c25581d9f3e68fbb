/- At every ledger and command the law FnExactApplied returns true: Applied of the program answers as its model, every field, writes into no argument and its answer owns its memory; the listed package variables start as the program's text lays them (tied). -/
import Derived.Test.YtoedefamcjnklaaGreatDoorLwA
import Derived.Test.YtoedefamcjnklaaGreatDoorOpen
import Derived.Test.YtoedefamcjnklaaGreatDoorCards
import Derived.Test.YtoedefamcjnklaaGreatDoorTie
import Derived.SevenTiedAt
import Derived.ChangeSame
import Derived.ChangeVars
import Derived.JoinedOf
import Derived.RowKit
import Derived.RowKitTokens
import Derived.LaidLaws
import Derived.LaidMore
import Derived.LaidHandle
import Derived.Stop.LaidErr
import Derived.Stop.LaidTwo
import Derived.Stop.Joined
import Derived.ProofKit
import Derived.OpenShut
import Derived.ShutString
namespace Go.Proofs.YtoedefamcjnklaaGreatDoor.fnExactApplied
open Go.ChangeShapes Go.WideShapes Go.ChangeAt Go.RowKit
open Go.ChangeMaps (open_string shut_string)
set_option linter.unusedVariables false
set_option maxRecDepth 100000
theorem own : ownKnob Tryz.prog.godebug = none := by kernel_rfl
theorem laidOut : laidOutB Tryz.prog = true := by kernel_rfl
theorem cellsC : Tryz.prog.cellsOf 28 = 6 := by kernel_rfl
theorem list6 {A : Type} (l : List A) (h : l.length = 6) : ∃ a b c d e f, l = [a, b, c, d, e, f] := by
  match l, h with
  | [a, b, c, d, e, f], _ => exact ⟨a, b, c, d, e, f, rfl⟩
theorem opened {H : Type} {enc : TypeId × Value → H} {W : World} {base : Nat} {v : Value} {d : DataW H} {p : List MemPlace} (hv : Value.okWide Tryz.prog W .any base 28 v) (h : DataW.Trod enc Tryz.prog W 0 (fun _ => true) true 28 v d p) :
    ∃ c : Cm, v = .agg #[.int .i64 c.id, .int .i64 c.kind, .string c.fr, .string c.to, .int .i64 c.am, .int .i64 c.ref] ∧ c.fr.size ≤ maxLen ∧ c.to.size ≤ maxLen := by
  obtain ⟨cs, rfl, hsz⟩ := okWide_struct Tryz.underlying28 hv
  obtain ⟨fuel, hf⟩ := h
  obtain ⟨xs, n, _, _, hl, hlen, hfi⟩ := DataW.trod_struct Tryz.underlying28 hf
  obtain ⟨y0, y1, y2, y3, y4, y5, rfl⟩ := list6 xs hlen
  rw [cellsC] at hl
  simp only [Value.cells] at hl hfi
  obtain ⟨a0, a1, a2, a3, a4, a5, hcs⟩ := list6 _ hl
  rw [hcs] at hfi
  have h0 : DataW.trod enc Tryz.prog W 0 (fun _ => true) true n 2 [a0] = some y0 := by simpa [cells2] using hfi 0 _ rfl
  have h1 : DataW.trod enc Tryz.prog W 0 (fun _ => true) true n 2 [a1] = some y1 := by simpa [cells2] using hfi 1 _ rfl
  have h2 : DataW.trod enc Tryz.prog W 0 (fun _ => true) true n 9 [a2] = some y2 := by simpa [cells9] using hfi 2 _ rfl
  have h3 : DataW.trod enc Tryz.prog W 0 (fun _ => true) true n 9 [a3] = some y3 := by simpa [cells9] using hfi 3 _ rfl
  have h4 : DataW.trod enc Tryz.prog W 0 (fun _ => true) true n 2 [a4] = some y4 := by simpa [cells2] using hfi 4 _ rfl
  have h5 : DataW.trod enc Tryz.prog W 0 (fun _ => true) true n 2 [a5] = some y5 := by simpa [cells2] using hfi 5 _ rfl
  obtain ⟨id, e0, _, _⟩ := DataW.trod_int Tryz.underlying2 h0
  obtain ⟨kind, e1, _, _⟩ := DataW.trod_int Tryz.underlying2 h1
  obtain ⟨f, e2, _, hf⟩ := DataW.trod_string Tryz.underlying9 h2
  obtain ⟨t, e3, _, ht⟩ := DataW.trod_string Tryz.underlying9 h3
  obtain ⟨am, e4, _, _⟩ := DataW.trod_int Tryz.underlying2 h4
  obtain ⟨ref, e5, _, _⟩ := DataW.trod_int Tryz.underlying2 h5
  simp only [List.cons.injEq, and_true] at e0 e1 e2 e3 e4 e5
  subst e0 e1 e2 e3 e4 e5
  exact ⟨⟨id, kind, f, t, am, ref⟩, by congr 1; exact Array.toList_inj.1 hcs, hf, ht⟩
theorem gAs : Tryz.prog.globalNamed "loop.example/g00280/impl.errAside" = some 0 := by kernel_rfl
theorem tAs : (Tryz.prog.globals[0]?).map (·.type) = some 54 := by kernel_rfl
theorem gDen : Tryz.prog.globalNamed "loop.example/g00280/impl.errDenied" = some 2 := by kernel_rfl
theorem tDen : (Tryz.prog.globals[2]?).map (·.type) = some 54 := by kernel_rfl
theorem gEt : Tryz.prog.globalNamed "errors.errorType" = some 1 := by kernel_rfl
theorem rtype : (Tryz.prog.cutTypes.find? (·.1 == "internal/reflectlite.rtype")).map (·.2) = some 148 := by kernel_rfl
theorem oneRow : ((List.range 247).filter fun t => Tryz.prog.rowNamed t [101, 114, 114, 111, 114]) = [54] := by kernel_rfl
theorem sizeT : Tryz.prog.types.size = 247 := by kernel_rfl
theorem cellsES : Tryz.prog.cellsOf 235 = 1 := by kernel_rfl
theorem starS : "*" ++ "errors.errorString" = "*errors.errorString" := by decide
theorem rowES (u : TypeId) (h : Tryz.prog.typeName? 3 u = some "*errors.errorString") : u = 214 :=
  typeName_ptr_named (nm := "errors.errorString") (by rw [starS]; kernel_rfl) (by kernel_rfl) (by decide) u (by rw [starS]; exact h)
theorem met {W : World} (h : laidMetH Tryz.prog Rows.fnExactAppliedRow.laid W) : ∃ aA aD, VarsAt aA aD W ∧ W.var? Tryz.prog "loop.example/g00280/impl.errAside" = some #[.iface 214 (.pointer (some aA))] ∧ W.var? Tryz.prog "loop.example/g00280/impl.errDenied" = some #[.iface 214 (.pointer (some aD))] := by
  have h' : laidMet Tryz.prog [("loop.example/g00280/impl.errAside", Rows.laid_loop_example_g00280_impl_errAside), ("loop.example/g00280/impl.errDenied", Rows.laid_loop_example_g00280_impl_errDenied)] W ∧ handlesMet Tryz.prog [("errors.errorType", Rows.laid_errors_errorType)] W := h
  obtain ⟨name, u, ty, e1, e2, e3, e4, e5⟩ := h'.2 _ (List.mem_singleton.2 rfl)
  have en : name = [101, 114, 114, 111, 114] := (Option.some.inj e1).symm
  subst en
  obtain rfl := Option.some.inj (rtype.symm.trans e2)
  have hm : ty ∈ (List.range 247).filter fun t => Tryz.prog.rowNamed t [101, 114, 114, 111, 114] := List.mem_filter.2 ⟨List.mem_range.2 (by rw [← sizeT]; exact e3), e4⟩
  rw [oneRow] at hm
  obtain rfl := List.mem_singleton.1 hm
  have hh : typeHandle Tryz.prog 54 = .pointer (some ⟨3, 54, none⟩) := by kernel_rfl
  rw [hh] at e5
  obtain ⟨a0, a1, s0, s1, c0, c1, t0, t1, hv0, hv1, _, _, _, _, _, _, hne, hb0, hb1⟩ := laid_sentinels2 h'.1 gAs tAs gDen tDen Tryz.underlying54 rowES Tryz.underlying214 Tryz.underlying235 rfl rfl Tryz.underlying9 cellsES cells9
  exact ⟨a0, a1, ⟨by simpa using World.var?_cell gAs hv0 0, by simpa using World.var?_cell gDen hv1 0, by simpa using World.var?_cell gEt e5 0, fun e => hne e.symm, ⟨_, _, hb0⟩, ⟨_, _, hb1⟩⟩, hv0, hv1⟩
theorem var_kept {W W' : World} {n : String} {g : Nat} {cs : Array Value} (hg : Tryz.prog.globalNamed n = some g) (h : W.var? Tryz.prog n = some cs) (hlt : g < W.heap.size) (b : Below W.heap.size W W') : W'.var? Tryz.prog n = some cs := by
  unfold World.var? at h ⊢
  rw [hg] at h ⊢
  simp only [Option.bind_some] at h ⊢
  rw [b.block g hlt]
  exact h
theorem door_met (os : Os) (args : Array Value) : laidMetH Tryz.prog Rows.fnExactAppliedRow.laid ((World.doorLaid Tryz.prog 4000 os).forCall (fun _ _ => 0) ⟨#[], args, []⟩).memory :=
  laidMetH_of_parts (laidMet_of_run' 8 (by kernel_rfl) (by kernel_rfl)) (by kernel_rfl)
theorem lifted (os : Os) (started : os.Started) (H : Type) (enc : TypeId × Value → H) :
    ReturnsInHanded {} Tryz.checked os 3 .any (fun w args => (Rows.fnExactAppliedSpec.pre enc Tryz.prog Tryz.f3 [] false w args ∧ laidMetH Tryz.prog Rows.fnExactAppliedRow.laid w) ∧ sizedMet enc Tryz.prog Tryz.f3 (OpenSpec.ofChange Rows.fnExactAppliedSpec) false w args)
      (Rows.fnExactAppliedSpec.post enc Tryz.prog Tryz.f3 false true false false) := by
  refine returnsInHanded_of_change_and (C := Tryz.checked) (X := fun w _ => laidMetH Tryz.prog Rows.fnExactAppliedRow.laid w) (fun _ _ _ hh h => h.of_heap hh) own started (by kernel_rfl) Tryz.func3
    (ChangeSpec.witness_shaped (enc := enc) (C := Tryz.checked) (os := os) (X := fun w _ => laidMetH Tryz.prog Rows.fnExactAppliedRow.laid w) false (World.doorLaid Tryz.prog 4000 os) #[.agg #[.slice none 0 0, .slice none 0 0, .slice none 0 0], .agg #[.int .i64 0, .int .i64 0, .string ByteArray.empty, .string ByteArray.empty, .int .i64 0, .int .i64 0]] 8 rfl (World.shaped_of_RefB (by kernel_rfl) (by kernel_rfl)) (by kernel_rfl) (by kernel_rfl) (by kernel_rfl) (door_met os _)) ?_
  intro W base args ds gs before hval0 hW _ _ hL _
  have hval : ∀ (j : Nat) t v, Tryz.f3.params[j]? = some t → args[j]? = some v → Value.okWide Tryz.prog W .any base t v := hval0
  have hW' := hW
  obtain ⟨p, q, hA0, hV0, rfl, hfz, hnd⟩ := hW
  have hA : DataW.TrodAll enc Tryz.prog W 0 (fun _ => true) true Tryz.f3.params.toList args.toList ds p := hA0
  have hV : DataW.TrodVars enc Tryz.prog W (fun _ => true) ["loop.example/g00280/impl.errAside", "loop.example/g00280/impl.errDenied"] gs q := hV0
  rw [Tryz.params3] at hA hval
  obtain ⟨v0, vs0, d0, ds0, p0, q0, hargs, rfl, rfl, h0, r0⟩ := trodAll_cons hA
  obtain ⟨v1, vs1, d1, ds1, p1, q1, rfl, rfl, rfl, h1, r1⟩ := trodAll_cons r0
  obtain ⟨rfl, rfl, rfl⟩ := trodAll_nil r1
  obtain rfl : args = #[v0, v1] := by cases args; simp_all
  have k0 := h0
  have k1 := h1
  have lt0 : ∀ x ∈ p0, x.block < W.heap.size := by obtain ⟨m, hm⟩ := k0; exact DataW.trod_lt m _ _ _ hm
  have lt1 : ∀ x ∈ p1, x.block < W.heap.size := by obtain ⟨m, hm⟩ := k1; exact DataW.trod_lt m _ _ _ hm
  obtain ⟨a, h, s, ca, ch, cs, L, rfl, hL1, m1, m2, m3⟩ := open_led (hval 0 26 v0 rfl rfl) h0
  obtain ⟨c, rfl, hcf, hct⟩ := opened (hval 1 28 v1 rfl rfl) h1
  obtain ⟨aA, aD, hvs, hv0, hv1⟩ := met hL
  obtain ⟨rfl, rfl⟩ := hV.unique (vars_read2 enc gAs tAs Tryz.underlying54 hv0 trivial gDen tDen Tryz.underlying54 hv1 trivial _)
  have lA : 0 < W.heap.size := cell_lt hvs.a
  have lD : 2 < W.heap.size := cell_lt hvs.d
  clear hA0 hV0 hval0
  refine (walkApplied a h s ca ch cs L c aA aD W ⟨m1, m2, m3⟩ ⟨hcf, hct⟩ hL1 hvs).mono fun e W' ⟨he, bel⟩ => ?_
  subst he
  exact ⟨_, rfl, _, _, _, [], _, [.cell 0 0, .cell 2 0], hW', trodAll_mk1 (shut_bool Tryz.underlying4 _), (trodAll_cons_mk (Below.trod laidOut (by kernel_rfl) (of_decide_eq_true (by kernel_rfl)) k0 bel lt0) (trodAll_cons_mk (Below.trod laidOut (by kernel_rfl) (of_decide_eq_true (by kernel_rfl)) k1 bel lt1) trodAll_mk0)), vars_read2 enc gAs tAs Tryz.underlying54 (var_kept gAs hv0 lA bel) trivial gDen tDen Tryz.underlying54 (var_kept gDen hv1 lD bel) trivial _, bel.frame _, fun h => by cases h⟩
theorem said : Rows.FnExactAppliedSaid :=
  OpenClaim.holds_of_wide 3 Tryz.f3 rfl rfl rfl rfl rfl rfl rfl ⟨rfl, rfl, rfl, rfl, rfl⟩ rfl rfl rfl rfl rfl (by kernel_rfl) Tryz.func3 (by kernel_rfl)
    (of_decide_eq_true (by kernel_rfl)) (by unfold Func.isWrapper; first | (rw [if_pos (by decide +kernel)]; kernel_rfl) | (rw [if_neg (by decide +kernel)]; exact ⟨rfl, rfl⟩))
    (fun os started H enc _ => lifted os started H enc)
theorem plain (f : FuncId) (fn : Func) (hf : Tryz.pinned.checked.prog.funcNamed "loop.example/g00280/laws.FnExactApplied" = some f) (hfn : Tryz.pinned.checked.prog.funcs[f]? = some fn) :
    true = Tryz.pinned.checked.prog.looks [] ∧ ∀ (j : Nat) t, fn.params[j]? = some t → Tryz.pinned.checked.prog.wantsStandIn t = false := by
  obtain rfl : f = 3 := Option.some.inj ((show Tryz.prog.funcNamed "loop.example/g00280/laws.FnExactApplied" = some 3 by kernel_rfl).symm.trans hf) |>.symm
  obtain rfl : fn = Tryz.f3 := (Option.some.inj (Tryz.func3.symm.trans hfn)).symm
  refine ⟨by kernel_rfl, fun j t ht => ?_⟩
  rw [Tryz.params3] at ht
  have hm : t ∈ [26, 28] := by simpa using Array.mem_of_getElem? ht
  have hall : ([26, 28].all fun u => !Tryz.prog.wantsStandIn u) = true := by kernel_rfl
  exact (show Tryz.prog.wantsStandIn t = false by simpa using List.all_eq_true.1 hall t hm)
/-- the card -/
theorem proved : Rows.FnExactAppliedCardSaid :=
  Claim7.holds_tied_plain_at .later [] _ _ _ _ said (fun _ h => by cases h) (by kernel_rfl) (fun _ h => by cases h) fnExactApplied_row_tie rfl ⟨rfl, rfl⟩ (by kernel_rfl) rfl plain (by kernel_rfl)
#print axioms proved
end Go.Proofs.YtoedefamcjnklaaGreatDoor.fnExactApplied
