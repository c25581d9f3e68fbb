/- At every ledger the law FnExactLedgerText returns true: LedgerText of the program answers as its model, and nothing that was there is written; the listed package variables start as the program's text lays them (tied). -/
import Derived.Test.YtfdnijlcngjpiaaDoorLtL
import Derived.Test.YtfdnijlcngjpiaaDoorOpen
import Derived.Test.YtfdnijlcngjpiaaDoorCards
import Derived.Test.YtfdnijlcngjpiaaDoorTie
import Derived.SevenTiedAt
import Derived.ChangeSame
import Derived.ChangeVars
import Derived.JoinedOf
import Derived.RowKit
import Derived.RowKitTokens
import Derived.LaidLaws
import Derived.LaidMore
import Derived.Stop.LaidErr
import Derived.Stop.Joined
import Derived.Lib.LaidTab
import Derived.ProofKit
import Derived.OpenShut
import Derived.ShutString
namespace Go.Proofs.YtfdnijlcngjpiaaDoor.fnExactLedgerText
open Go.ChangeShapes Go.WideShapes Go.ChangeAt Go.RowKit
open Go.ChangeMaps (open_string shut_string)
set_option linter.unusedVariables false
theorem own : ownKnob Tryd.prog.godebug = none := by kernel_rfl
theorem laidOut : laidOutB Tryd.prog = true := by kernel_rfl
theorem gDen : Tryd.prog.globalNamed "loop.example/g00280/impl.errDenied" = some 3 := by kernel_rfl
theorem tDen : (Tryd.prog.globals[3]?).map (·.type) = some 68 := by kernel_rfl
theorem cells151 : Tryd.prog.cellsOf 151 = 1 := by kernel_rfl
theorem starS : "*" ++ "errors.errorString" = "*errors.errorString" := by decide
theorem row136 (u : TypeId) (h : Tryd.prog.typeName? 3 u = some "*errors.errorString") : u = 136 :=
  typeName_ptr_named (nm := "errors.errorString") (by rw [starS]; kernel_rfl) (by kernel_rfl) (by decide) u (by rw [starS]; exact h)
theorem gTab : Tryd.prog.globalNamed "internal/strconv.uint64pow10" = some 1 := by kernel_rfl
theorem tTab : (Tryd.prog.globals[1]?).map (·.type) = some 124 := by kernel_rfl
theorem cellsTab : Tryd.prog.cellsOf 124 = 20 := by kernel_rfl
theorem cellsE : Tryd.prog.cellsOf 115 = 1 := by kernel_rfl
set_option maxRecDepth 100000 in
theorem tabData : (Rows.laid_internal_strconv_uint64pow10 : DataW Unit) = Lib.tabData .u64 Lib.pow10Tab := by kernel_rfl
set_option maxRecDepth 100000 in
theorem met {W : World} (h : laidMetH Tryd.prog Rows.fnExactLedgerTextRow.laid W) : Tab W ∧ ∃ a, W.var? Tryd.prog "loop.example/g00280/impl.errDenied" = some #[.iface 136 (.pointer (some a))] := by
  rw [MakeChecks.laidMetH_plain _ _ _ (by kernel_rfl)] at h
  have h2 : laidMet Tryd.prog [("internal/strconv.uint64pow10", Rows.laid_internal_strconv_uint64pow10), ("loop.example/g00280/impl.errDenied", Rows.laid_loop_example_g00280_impl_errDenied)] W := laidMet.tail (laidMet.tail h)
  have h3 : laidMet Tryd.prog [("loop.example/g00280/impl.errDenied", Rows.laid_loop_example_g00280_impl_errDenied)] W := laidMet.tail h2
  refine ⟨?_, ?_⟩
  · rw [tabData] at h2
    exact Lib.tabIs_of_head gTab tTab Tryd.underlying124 Tryd.underlying115 cellsE cellsTab h2
  · obtain ⟨a0, s0, hv0, _⟩ := laid_sentinel h3 gDen tDen Tryd.underlying68 row136 Tryd.underlying136 Tryd.underlying151 rfl rfl Tryd.underlying9 cells151 cells9
    exact ⟨a0, hv0⟩
theorem den_cell {W : World} {x : Value} (h : W.var? Tryd.prog "loop.example/g00280/impl.errDenied" = some #[x]) : W.cell? ⟨3, 0, none⟩ = some x := by simpa using World.var?_cell gDen h 0
theorem den_kept {W W' : World} {x : Value} (h : W.var? Tryd.prog "loop.example/g00280/impl.errDenied" = some #[x]) (b : Below W.heap.size W W') : W'.var? Tryd.prog "loop.example/g00280/impl.errDenied" = some #[x] := by
  have hlt : 3 < W.heap.size := cell_lt (den_cell h)
  unfold World.var? at h ⊢
  rw [gDen] at h ⊢
  simp only [Option.bind_some] at h ⊢
  rw [b.block 3 hlt]
  exact h
theorem door_met (os : Os) (args : Array Value) : laidMetH Tryd.prog Rows.fnExactLedgerTextRow.laid ((World.doorLaid Tryd.prog 4000 os).forCall (fun _ _ => 0) ⟨#[], args, []⟩).memory := by
  rw [MakeChecks.laidMetH_plain _ _ _ (by kernel_rfl)]
  exact laidMet_of_run' 8 (by kernel_rfl) (by kernel_rfl)
set_option maxRecDepth 100000 in
theorem lifted (os : Os) (started : os.Started) (H : Type) (enc : TypeId × Value → H) :
    ReturnsInHanded {} Tryd.checked os 4 .any (fun w args => (Rows.fnExactLedgerTextSpec.pre enc Tryd.prog Tryd.f4 [] false w args ∧ laidMetH Tryd.prog Rows.fnExactLedgerTextRow.laid w) ∧ sizedMet enc Tryd.prog Tryd.f4 (OpenSpec.ofChange Rows.fnExactLedgerTextSpec) false w args)
      (Rows.fnExactLedgerTextSpec.post enc Tryd.prog Tryd.f4 false true false false) := by
  refine returnsInHanded_of_change_and (C := Tryd.checked) (X := fun w _ => laidMetH Tryd.prog Rows.fnExactLedgerTextRow.laid w) (fun _ _ _ hh h => h.of_heap hh) own started (by kernel_rfl) Tryd.func4
    (ChangeSpec.witness_shaped (enc := enc) (C := Tryd.checked) (os := os) (X := fun w _ => laidMetH Tryd.prog Rows.fnExactLedgerTextRow.laid w) false (World.doorLaid Tryd.prog 4000 os) #[.agg #[.slice none 0 0, .slice none 0 0, .slice none 0 0]] 8 rfl (World.shaped_of_RefB (by kernel_rfl) (by kernel_rfl)) (by kernel_rfl) (by kernel_rfl) (by kernel_rfl) (door_met os _)) ?_
  intro W base args ds gs before hval0 hW _ _ hL _
  have hval : ∀ (j : Nat) t v, Tryd.f4.params[j]? = some t → args[j]? = some v → Value.okWide Tryd.prog W .any base t v := hval0
  have hW' := hW
  obtain ⟨p, q, hA0, hV0, rfl, hfz, hnd⟩ := hW
  have hA : DataW.TrodAll enc Tryd.prog W 0 (fun _ => true) true Tryd.f4.params.toList args.toList ds p := hA0
  have hV : DataW.TrodVars enc Tryd.prog W (fun _ => true) ["loop.example/g00280/impl.errDenied"] gs q := hV0
  rw [Tryd.params4] at hA hval
  obtain ⟨v0, vs0, d0, ds0, p0, q0, hargs, rfl, rfl, h0, r0⟩ := trodAll_cons hA
  obtain ⟨rfl, rfl, rfl⟩ := trodAll_nil r0
  obtain rfl : args = #[v0] := by cases args; simp_all
  have k0 := h0
  have lt0 : ∀ x ∈ p0, x.block < W.heap.size := by obtain ⟨m, hm⟩ := k0; exact DataW.trod_lt m _ _ _ hm
  obtain ⟨a, h, s, ca, ch, cs, L, rfl, hL1, m1, m2, m3⟩ := open_led (hval 0 33 v0 rfl rfl) h0
  obtain ⟨hT, x, hv0⟩ := met hL
  obtain ⟨rfl, rfl⟩ := hV.unique (vars_read1 enc gDen tDen Tryd.underlying68 hv0 trivial _)
  clear hA0 hV0 hval0
  refine (walkLedgerText a h s L ca ch cs 136 (.pointer (some x)) W hL1 (den_cell hv0) hT m1 m2 m3).mono fun e W' ⟨he, bel⟩ => ?_
  subst he
  exact ⟨_, rfl, _, _, _, [], _, [.cell 3 0], hW', trodAll_mk1 (shut_bool Tryd.underlying4 _), (trodAll_cons_mk (Below.trod laidOut (by kernel_rfl) (of_decide_eq_true (by kernel_rfl)) k0 bel lt0) trodAll_mk0), vars_read1 enc gDen tDen Tryd.underlying68 (den_kept hv0 bel) trivial _, bel.frame _, fun h => by cases h⟩
theorem said : Rows.FnExactLedgerTextSaid :=
  OpenClaim.holds_of_wide 4 Tryd.f4 rfl rfl rfl rfl rfl rfl rfl ⟨rfl, rfl, rfl, rfl, rfl⟩ rfl rfl rfl rfl rfl (by kernel_rfl) Tryd.func4 (by kernel_rfl)
    (of_decide_eq_true (by kernel_rfl)) (by unfold Func.isWrapper; first | (rw [if_pos (by decide +kernel)]; kernel_rfl) | (rw [if_neg (by decide +kernel)]; exact ⟨rfl, rfl⟩))
    (fun os started H enc _ => lifted os started H enc)
theorem plain (f : FuncId) (fn : Func) (hf : Tryd.pinned.checked.prog.funcNamed "loop.example/g00280/laws.FnExactLedgerText" = some f) (hfn : Tryd.pinned.checked.prog.funcs[f]? = some fn) :
    false = Tryd.pinned.checked.prog.looks [] ∧ ∀ (j : Nat) t, fn.params[j]? = some t → Tryd.pinned.checked.prog.wantsStandIn t = false := by
  obtain rfl : f = 4 := Option.some.inj ((show Tryd.prog.funcNamed "loop.example/g00280/laws.FnExactLedgerText" = some 4 by kernel_rfl).symm.trans hf) |>.symm
  obtain rfl : fn = Tryd.f4 := (Option.some.inj (Tryd.func4.symm.trans hfn)).symm
  refine ⟨by kernel_rfl, fun j t ht => ?_⟩
  rw [Tryd.params4] at ht
  have hm : t ∈ [33] := by simpa using Array.mem_of_getElem? ht
  have hall : ([33].all fun u => !Tryd.prog.wantsStandIn u) = true := by kernel_rfl
  exact (show Tryd.prog.wantsStandIn t = false by simpa using List.all_eq_true.1 hall t hm)
/-- the card -/
theorem proved : Rows.FnExactLedgerTextCardSaid :=
  Claim7.holds_tied_plain_at .later [] _ _ _ _ said (fun _ h => by cases h) (by kernel_rfl) (fun _ h => by cases h) fnExactLedgerText_row_tie rfl ⟨rfl, rfl⟩ (by kernel_rfl) rfl plain (by kernel_rfl)
#print axioms proved
end Go.Proofs.YtfdnijlcngjpiaaDoor.fnExactLedgerText
