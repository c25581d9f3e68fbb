/- At every drawn input the law FnLedgerTexts returns true: a right ledger comes back from its text; what is read, written again, has just its bytes; nothing that was there is written; the listed package variables start as the program's text lays them (tied). -/
import Derived.Test.YteaopalhbnhbaaaGreatDoorLLt
import Derived.Test.YteaopalhbnhbaaaGreatDoorCards
import Derived.Test.YteaopalhbnhbaaaGreatDoorTie
import Derived.SevenTiedAt
import Derived.ChangeSame
import Derived.ChangeVars
import Derived.JoinedOf
import Derived.RowKit
import Derived.RowKitTokens
import Derived.LaidLaws
import Derived.LaidMore
import Derived.Stop.LaidErr
import Derived.Stop.Joined
import Derived.Lib.LaidTab
import Derived.ProofKit
import Derived.OpenShut
import Derived.ShutString
namespace Go.Proofs.YteaopalhbnhbaaaGreatDoor.fnLedgerTexts
open Go.ChangeShapes Go.WideShapes Go.ChangeAt Go.RowKit
open Go.ChangeMaps (open_string shut_string)
set_option linter.unusedVariables false
set_option maxRecDepth 100000
theorem own : ownKnob Tryz.prog.godebug = none := by kernel_rfl
theorem laidOut : laidOutB Tryz.prog = true := by kernel_rfl
theorem cells9 : Tryz.prog.cellsOf 9 = 1 := by kernel_rfl
/-- a slice of integers that came in: it is nil; or it leads to a row of 'cap' cells, the numbers 'zs' (the first 'len' are its elements, the rest its spare room), each fitting its kind. -/
def IsRow (k : IntKind) (w : World) (a : Option Addr) (len cap : Nat) (zs : List Int) : Prop :=
  (a = none ∧ len = 0 ∧ cap = 0 ∧ zs = []) ∨
  ∃ x, a = some x ∧ len ≤ cap ∧ cap ≤ maxLen ∧ zs.length = cap ∧ (∀ i, i < zs.length → w.cell? (x.add i) = some (.int k (zs.getD i 0))) ∧ ∀ n ∈ zs, (Lit.int k n).wf = true

theorem code_of {w : World} {a : Option Addr} {len cap : Nat} {zs : List Int} (h : IsRow .u8 w a len cap zs) : IsCode w a len := by
  rcases h with ⟨rfl, rfl, rfl, rfl⟩ | ⟨x, rfl, hl, hm, hz, hcell, hwz⟩
  · exact ⟨by omega, fun i hi => by omega⟩
  · unfold maxLen at hm
    refine ⟨by omega, fun i hi => ?_⟩
    have hc := hcell i (by omega)
    obtain ⟨b, off, spot⟩ := x
    have hspot : spot = none := by
      have := World.cell?_spot (hcell 0 (by omega))
      simpa [Addr.add] using this
    subst hspot
    have hplain : (⟨b, off, none⟩ : Addr).add i = ⟨b, off + i, none⟩ := by unfold Addr.add; split <;> simp_all
    have hc' : w.cell? ⟨b, off + i, none⟩ = some (.int .u8 (zs.getD i 0)) := by rw [← hplain]; exact hc
    have hmem : zs.getD i 0 ∈ zs := by
      rw [List.getD, List.getElem?_eq_getElem (show i < zs.length by omega)]
      simp
    have hb := bounds_u8 (hwz _ hmem)
    refine ⟨b, off, rfl, ?_, _, hb.1, hb.2, hc'⟩
    rcases Nat.lt_or_ge b w.heap.size with h | h
    · exact h
    · simp [World.cell?, Array.getElem?_eq_none h] at hc'
theorem gDen : Tryz.prog.globalNamed "loop.example/g00280/impl.errDenied" = some 1 := by kernel_rfl
theorem tDen : (Tryz.prog.globals[1]?).map (·.type) = some 45 := by kernel_rfl
theorem gTab : Tryz.prog.globalNamed "internal/strconv.uint64pow10" = some 2 := by kernel_rfl
theorem tTab : (Tryz.prog.globals[2]?).map (·.type) = some 145 := by kernel_rfl
theorem gGave : Tryz.prog.globalNamed "loop.example/g00280/impl.errGaveUp" = some 0 := by kernel_rfl
theorem tGave : (Tryz.prog.globals[0]?).map (·.type) = some 45 := by kernel_rfl
theorem gSyn : Tryz.prog.globalNamed "strconv.ErrSyntax" = some 6 := by kernel_rfl
theorem tSyn : (Tryz.prog.globals[6]?).map (·.type) = some 45 := by kernel_rfl
theorem gRng : Tryz.prog.globalNamed "strconv.ErrRange" = some 7 := by kernel_rfl
theorem tRng : (Tryz.prog.globals[7]?).map (·.type) = some 45 := by kernel_rfl
theorem cellsTab : Tryz.prog.cellsOf 145 = 20 := by kernel_rfl
theorem cellsE : Tryz.prog.cellsOf 131 = 1 := by kernel_rfl
theorem cellsES : Tryz.prog.cellsOf 178 = 1 := by kernel_rfl
theorem starS : "*" ++ "errors.errorString" = "*errors.errorString" := by decide
theorem rowES (u : TypeId) (h : Tryz.prog.typeName? 3 u = some "*errors.errorString") : u = 176 :=
  typeName_ptr_named (nm := "errors.errorString") (by rw [starS]; kernel_rfl) (by kernel_rfl) (by decide) u (by rw [starS]; exact h)
theorem tabData : (Rows.laid_internal_strconv_uint64pow10 : DataW Unit) = Lib.tabData .u64 Lib.pow10Tab := by kernel_rfl
theorem met {W : World} (h : laidMetH Tryz.prog Rows.fnLedgerTextsRow.laid W) : ∃ a d : Addr, Env 176 (.pointer (some a)) W ∧ W.var? Tryz.prog "loop.example/g00280/impl.errGaveUp" = some #[.iface 176 (.pointer (some a))] ∧ W.var? Tryz.prog "loop.example/g00280/impl.errDenied" = some #[.iface 176 (.pointer (some d))] := by
  rw [MakeChecks.laidMetH_plain _ _ _ (by kernel_rfl)] at h
  have h1 := laidMet.tail h
  have h2 : laidMet Tryz.prog [("internal/strconv.uint64pow10", Rows.laid_internal_strconv_uint64pow10), ("strconv.ErrRange", Rows.laid_strconv_ErrRange), ("strconv.ErrSyntax", Rows.laid_strconv_ErrSyntax), ("loop.example/g00280/impl.errDenied", Rows.laid_loop_example_g00280_impl_errDenied), ("loop.example/g00280/impl.errGaveUp", Rows.laid_loop_example_g00280_impl_errGaveUp)] W := laidMet.tail h1
  have h3 := laidMet.tail h2
  have h4 := laidMet.tail h3
  have h5 := laidMet.tail h4
  have h6 := laidMet.tail h5
  obtain ⟨a3, s3, v3, _⟩ := laid_sentinel h3 gRng tRng Tryz.underlying45 rowES Tryz.underlying176 Tryz.underlying178 rfl rfl Tryz.underlying9 cellsES cells9
  obtain ⟨a4, s4, v4, _⟩ := laid_sentinel h4 gSyn tSyn Tryz.underlying45 rowES Tryz.underlying176 Tryz.underlying178 rfl rfl Tryz.underlying9 cellsES cells9
  obtain ⟨a5, s5, v5, _⟩ := laid_sentinel h5 gDen tDen Tryz.underlying45 rowES Tryz.underlying176 Tryz.underlying178 rfl rfl Tryz.underlying9 cellsES cells9
  obtain ⟨a6, s6, v6, _⟩ := laid_sentinel h6 gGave tGave Tryz.underlying45 rowES Tryz.underlying176 Tryz.underlying178 rfl rfl Tryz.underlying9 cellsES cells9
  refine ⟨a6, a5, ⟨?_, by simpa using World.var?_cell gGave v6 0, ⟨_, _, by simpa using World.var?_cell gSyn v4 0⟩, ⟨_, _, by simpa using World.var?_cell gRng v3 0⟩⟩, v6, v5⟩
  rw [tabData] at h2
  exact Lib.tabIs_of_head gTab tTab Tryz.underlying145 Tryz.underlying131 cellsE cellsTab h2
theorem var_kept {W W' : World} {n : String} {g : Nat} {cs : Array Value} (hg : Tryz.prog.globalNamed n = some g) (h : W.var? Tryz.prog n = some cs) (hlt : g < W.heap.size) (b : Below W.heap.size W W') : W'.var? Tryz.prog n = some cs := by
  unfold World.var? at h ⊢
  rw [hg] at h ⊢
  simp only [Option.bind_some] at h ⊢
  rw [b.block g hlt]
  exact h
theorem door_met (os : Os) (args : Array Value) : laidMetH Tryz.prog Rows.fnLedgerTextsRow.laid ((World.doorLaid Tryz.prog 4000 os).forCall (fun _ _ => 0) ⟨#[], args, []⟩).memory := by
  rw [MakeChecks.laidMetH_plain _ _ _ (by kernel_rfl)]
  exact laidMet_of_run' 8 (by kernel_rfl) (by kernel_rfl)
theorem lifted (os : Os) (started : os.Started) (H : Type) (enc : TypeId × Value → H) :
    ReturnsInHanded {} Tryz.checked os 3 .any (fun w args => (Rows.fnLedgerTextsSpec.pre enc Tryz.prog Tryz.f3 [] false w args ∧ laidMetH Tryz.prog Rows.fnLedgerTextsRow.laid w) ∧ sizedMet enc Tryz.prog Tryz.f3 (OpenSpec.ofChange Rows.fnLedgerTextsSpec) false w args)
      (Rows.fnLedgerTextsSpec.post enc Tryz.prog Tryz.f3 false true false false) := by
  refine returnsInHanded_of_change_and (C := Tryz.checked) (X := fun w _ => laidMetH Tryz.prog Rows.fnLedgerTextsRow.laid w) (fun _ _ _ hh h => h.of_heap hh) own started (by kernel_rfl) Tryz.func3
    (ChangeSpec.witness_shaped (enc := enc) (C := Tryz.checked) (os := os) (X := fun w _ => laidMetH Tryz.prog Rows.fnLedgerTextsRow.laid w) false (World.doorLaid Tryz.prog 4000 os) #[.slice none 0 0] 8 rfl (World.shaped_of_RefB (by kernel_rfl) (by kernel_rfl)) (by kernel_rfl) (by kernel_rfl) (by kernel_rfl) (door_met os _)) ?_
  intro W base args ds gs before hval0 hW _ _ hL _
  have hval : ∀ (j : Nat) t v, Tryz.f3.params[j]? = some t → args[j]? = some v → Value.okWide Tryz.prog W .any base t v := hval0
  have hW' := hW
  obtain ⟨p, q, hA0, hV0, rfl, hfz, hnd⟩ := hW
  have hA : DataW.TrodAll enc Tryz.prog W 0 (fun _ => true) true Tryz.f3.params.toList args.toList ds p := hA0
  have hV : DataW.TrodVars enc Tryz.prog W (fun _ => true) ["loop.example/g00280/impl.errDenied", "loop.example/g00280/impl.errGaveUp"] gs q := hV0
  rw [Tryz.params3] at hA hval
  obtain ⟨v0, vs0, d0, ds0, p0, q0, hargs, rfl, rfl, h0, r0⟩ := trodAll_cons hA
  obtain ⟨rfl, rfl, rfl⟩ := trodAll_nil r0
  obtain rfl : args = #[v0] := by cases args; simp_all
  obtain ⟨a0, len0, cap0, rfl⟩ := okWide_slice Tryz.underlying22 (hval 0 22 v0 rfl rfl)
  have k0 := h0
  have lt0 : ∀ x ∈ p0, x.block < W.heap.size := by obtain ⟨m, hm⟩ := k0; exact DataW.trod_lt m _ _ _ hm
  obtain ⟨z0, w0⟩ : ∃ zs, IsRow .u8 W a0 len0 cap0 zs := by
    obtain ⟨fuel, hf⟩ := h0
    rcases open_ints Tryz.underlying22 Tryz.underlying5 (by kernel_rfl) hf with ⟨hcs, _⟩ | ⟨x, l, c, zs, hcs, _, hl, hm, hz, _, hcell, hwz⟩
    · simp [Value.cells] at hcs
      obtain ⟨rfl, rfl, rfl⟩ := hcs
      exact ⟨[], .inl ⟨rfl, rfl, rfl, rfl⟩⟩
    · simp [Value.cells] at hcs
      obtain ⟨rfl, rfl, rfl⟩ := hcs
      exact ⟨zs, .inr ⟨_, rfl, hl, hm, by simpa using hz, hcell, hwz⟩⟩
  obtain ⟨a, d, hE, hvG, hvD⟩ := met hL
  have hD : W.cell? ⟨1, 0, none⟩ = some (.iface 176 (.pointer (some d))) := by simpa using World.var?_cell gDen hvD 0
  have lG : 0 < W.heap.size := cell_lt hE.gave
  have lD : 1 < W.heap.size := cell_lt hD
  clear hA0 hV0 hval0
  match gs, hV with
  | [e2, e1], hV =>
    obtain ⟨g2, ty2, cs2, fuel2, pv2, qv2, hg2, hty2, hvar2, hd2, hrest, hps2⟩ := hV
    obtain rfl := Option.some.inj (gDen.symm.trans hg2)
    obtain rfl := Option.some.inj (tDen.symm.trans hty2)
    obtain rfl := Option.some.inj (hvD.symm.trans hvar2)
    obtain ⟨g, ty, cs, fuel, pv, qv, hg, hty, hvar, hd, hrest2, hps⟩ := hrest
    have hrest' : qv = [] := hrest2
    subst hrest'
    obtain rfl := Option.some.inj (gGave.symm.trans hg)
    obtain rfl := Option.some.inj (tGave.symm.trans hty)
    obtain rfl := Option.some.inj (hvG.symm.trans hvar)
    have kv1 : DataW.Trod enc Tryz.prog W 0 (fun _ => true) true 45 (.iface 176 (.pointer (some a))) e1 pv := ⟨fuel, hd⟩
    have ltv1 : ∀ x ∈ pv, x.block < W.heap.size := DataW.trod_lt fuel _ _ _ hd
    have kv : DataW.Trod enc Tryz.prog W 0 (fun _ => true) true 45 (.iface 176 (.pointer (some d))) e2 pv2 := ⟨fuel2, hd2⟩
    have ltv : ∀ x ∈ pv2, x.block < W.heap.size := DataW.trod_lt fuel2 _ _ _ hd2
    refine (walkLedgerTexts a0 len0 cap0 _ _ _ _ W (code_of w0) hE hD).mono fun e W' ⟨he, bel⟩ => ?_
    subst he
    refine ⟨_, rfl, _, _, _, [], _, q, hW', trodAll_mk1 (shut_bool Tryz.underlying4 _), (trodAll_cons_mk (Below.trod laidOut (by kernel_rfl) (of_decide_eq_true (by kernel_rfl)) k0 bel lt0) trodAll_mk0), ?_, bel.frame _, fun h => by cases h⟩
    obtain ⟨fuel', hd'⟩ := Below.trod laidOut (by kernel_rfl) (of_decide_eq_true (by kernel_rfl)) kv1 bel ltv1
    obtain ⟨fuel2', hd2'⟩ := Below.trod laidOut (by kernel_rfl) (of_decide_eq_true (by kernel_rfl)) kv bel ltv
    exact ⟨1, 45, _, fuel2', pv2, _, gDen, tDen, var_kept gDen hvD lD bel, hd2', ⟨0, 45, _, fuel', pv, [], gGave, tGave, var_kept gGave hvG lG bel, hd', rfl, hps⟩, hps2⟩
theorem said : Rows.FnLedgerTextsSaid :=
  OpenClaim.holds_of_wide 3 Tryz.f3 rfl rfl rfl rfl rfl rfl rfl ⟨rfl, rfl, rfl, rfl, rfl⟩ rfl rfl rfl rfl rfl (by kernel_rfl) Tryz.func3 (by kernel_rfl)
    (of_decide_eq_true (by kernel_rfl)) (by unfold Func.isWrapper; first | (rw [if_pos (by decide +kernel)]; kernel_rfl) | (rw [if_neg (by decide +kernel)]; exact ⟨rfl, rfl⟩))
    (fun os started H enc _ => lifted os started H enc)
theorem plain (f : FuncId) (fn : Func) (hf : Tryz.pinned.checked.prog.funcNamed "loop.example/g00280/laws.FnLedgerTexts" = some f) (hfn : Tryz.pinned.checked.prog.funcs[f]? = some fn) :
    true = Tryz.pinned.checked.prog.looks [] ∧ ∀ (j : Nat) t, fn.params[j]? = some t → Tryz.pinned.checked.prog.wantsStandIn t = false := by
  obtain rfl : f = 3 := Option.some.inj ((show Tryz.prog.funcNamed "loop.example/g00280/laws.FnLedgerTexts" = some 3 by kernel_rfl).symm.trans hf) |>.symm
  obtain rfl : fn = Tryz.f3 := (Option.some.inj (Tryz.func3.symm.trans hfn)).symm
  refine ⟨by kernel_rfl, fun j t ht => ?_⟩
  rw [Tryz.params3] at ht
  have hm : t ∈ [22] := by simpa using Array.mem_of_getElem? ht
  have hall : ([22].all fun u => !Tryz.prog.wantsStandIn u) = true := by kernel_rfl
  exact (show Tryz.prog.wantsStandIn t = false by simpa using List.all_eq_true.1 hall t hm)
/-- the card -/
theorem proved : Rows.FnLedgerTextsCardSaid :=
  Claim7.holds_tied_plain_at .later [] _ _ _ _ said (fun _ h => by cases h) (by kernel_rfl) (fun _ h => by cases h) fnLedgerTexts_row_tie rfl ⟨rfl, rfl⟩ (by kernel_rfl) rfl plain (by kernel_rfl)
#print axioms proved
end Go.Proofs.YteaopalhbnhbaaaGreatDoor.fnLedgerTexts
