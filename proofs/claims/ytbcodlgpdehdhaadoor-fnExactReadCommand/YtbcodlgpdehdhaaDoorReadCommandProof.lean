/- At every text the law FnExactReadCommand returns true: ReadCommand of the program answers as its model, and nothing that was there is written; the listed package variables start as the program's text lays them (tied). -/
import Derived.Test.YtbcodlgpdehdhaaDoorLRc
import Derived.Test.YtbcodlgpdehdhaaDoorCards
import Derived.Test.YtbcodlgpdehdhaaDoorTie
import Derived.SevenTiedAt
import Derived.ChangeSame
import Derived.ChangeVars
import Derived.JoinedOf
import Derived.RowKit
import Derived.RowKitTokens
import Derived.LaidLaws
import Derived.LaidMore
import Derived.Stop.LaidErr
import Derived.Stop.Joined
import Derived.Lib.LaidTab
import Derived.ProofKit
import Derived.OpenShut
import Derived.ShutString
namespace Go.Proofs.YtbcodlgpdehdhaaDoor.fnExactReadCommand
open Go.ChangeShapes Go.WideShapes Go.ChangeAt Go.RowKit
open Go.ChangeMaps (open_string shut_string)
set_option linter.unusedVariables false
set_option maxRecDepth 100000
theorem own : ownKnob Tryd.prog.godebug = none := by kernel_rfl
theorem laidOut : laidOutB Tryd.prog = true := by kernel_rfl
theorem cells9 : Tryd.prog.cellsOf 9 = 1 := by kernel_rfl
theorem list6 {A : Type} (l : List A) (h : l.length = 6) : ∃ a b c d e f, l = [a, b, c, d, e, f] := by
  match l, h with
  | [a, b, c, d, e, f], _ => exact ⟨a, b, c, d, e, f, rfl⟩
theorem gWord : Tryd.prog.globalNamed "loop.example/g00280/impl.kindWords" = some 1 := by kernel_rfl
theorem tWord : (Tryd.prog.globals[1]?).map (·.type) = some 54 := by kernel_rfl
theorem gTab : Tryd.prog.globalNamed "internal/strconv.uint64pow10" = some 5 := by kernel_rfl
theorem tTab : (Tryd.prog.globals[5]?).map (·.type) = some 96 := by kernel_rfl
theorem gGave : Tryd.prog.globalNamed "loop.example/g00280/impl.errGaveUp" = some 0 := by kernel_rfl
theorem tGave : (Tryd.prog.globals[0]?).map (·.type) = some 50 := by kernel_rfl
theorem gSyn : Tryd.prog.globalNamed "strconv.ErrSyntax" = some 2 := by kernel_rfl
theorem tSyn : (Tryd.prog.globals[2]?).map (·.type) = some 50 := by kernel_rfl
theorem gRng : Tryd.prog.globalNamed "strconv.ErrRange" = some 3 := by kernel_rfl
theorem tRng : (Tryd.prog.globals[3]?).map (·.type) = some 50 := by kernel_rfl
theorem cellsTab : Tryd.prog.cellsOf 96 = 20 := by kernel_rfl
theorem cellsE : Tryd.prog.cellsOf 69 = 1 := by kernel_rfl
theorem cellsES : Tryd.prog.cellsOf 94 = 1 := by kernel_rfl
theorem starS : "*" ++ "errors.errorString" = "*errors.errorString" := by decide
theorem rowES (u : TypeId) (h : Tryd.prog.typeName? 3 u = some "*errors.errorString") : u = 92 :=
  typeName_ptr_named (nm := "errors.errorString") (by rw [starS]; kernel_rfl) (by kernel_rfl) (by decide) u (by rw [starS]; exact h)
theorem tabData : (Rows.laid_internal_strconv_uint64pow10 : DataW Unit) = Lib.tabData .u64 Lib.pow10Tab := by kernel_rfl
theorem met {W : World} (h : laidMetH Tryd.prog Rows.fnExactReadCommandRow.laid W) : ∃ a : Addr, Env 92 (.pointer (some a)) W ∧ W.var? Tryd.prog "loop.example/g00280/impl.errGaveUp" = some #[.iface 92 (.pointer (some a))] := by
  rw [MakeChecks.laidMetH_plain _ _ _ (by kernel_rfl)] at h
  have h2 : laidMet Tryd.prog [("internal/strconv.uint64pow10", Rows.laid_internal_strconv_uint64pow10), ("strconv.ErrRange", Rows.laid_strconv_ErrRange), ("strconv.ErrSyntax", Rows.laid_strconv_ErrSyntax), ("loop.example/g00280/impl.kindWords", Rows.laid_loop_example_g00280_impl_kindWords), ("loop.example/g00280/impl.errGaveUp", Rows.laid_loop_example_g00280_impl_errGaveUp)] W := laidMet.tail (laidMet.tail h)
  have h3 := laidMet.tail h2
  have h4 := laidMet.tail h3
  have h5 := laidMet.tail h4
  have h6 := laidMet.tail h5
  obtain ⟨a3, s3, v3, _⟩ := laid_sentinel h3 gRng tRng Tryd.underlying50 rowES Tryd.underlying92 Tryd.underlying94 rfl rfl Tryd.underlying9 cellsES cells9
  obtain ⟨a4, s4, v4, _⟩ := laid_sentinel h4 gSyn tSyn Tryd.underlying50 rowES Tryd.underlying92 Tryd.underlying94 rfl rfl Tryd.underlying9 cellsES cells9
  obtain ⟨a6, s6, v6, _⟩ := laid_sentinel h6 gGave tGave Tryd.underlying50 rowES Tryd.underlying92 Tryd.underlying94 rfl rfl Tryd.underlying9 cellsES cells9
  refine ⟨a6, ⟨?_, ?_, by simpa using World.var?_cell gGave v6 0, ⟨_, _, by simpa using World.var?_cell gSyn v4 0⟩, ⟨_, _, by simpa using World.var?_cell gRng v3 0⟩⟩, v6⟩
  · rw [tabData] at h2
    exact Lib.tabIs_of_head gTab tTab Tryd.underlying96 Tryd.underlying69 cellsE cellsTab h2
  · obtain ⟨ps, ⟨g', t', cs, fuel, p, q, hg', ht', hvar, hd, _, _⟩, _⟩ := h5
    obtain rfl := Option.some.inj (gWord.symm.trans hg')
    obtain rfl := Option.some.inj (tWord.symm.trans ht')
    obtain ⟨xs, m1, rfl, hx1, hlen, hn6, hel⟩ := DataW.trod_array Tryd.underlying54 hd
    have c46 : Tryd.prog.cellsOf 54 = 6 := by kernel_rfl
    rw [c46] at hlen
    obtain ⟨y0, y1, y2, y3, y4, y5, rfl⟩ := list6 xs hn6
    obtain ⟨l⟩ := cs
    obtain ⟨v0, v1, v2, v3', v4', v5, rfl⟩ := list6 l hlen
    simp only [Prod.mk.injEq, Rows.laid_loop_example_g00280_impl_kindWords, DataW.agg.injEq, List.map_cons, List.map_nil, List.cons.injEq, and_true] at hx1
    have hone : ∀ i v y, i < 6 → ([v0, v1, v2, v3', v4', v5].drop (i * 1)).take 1 = [v] → [y0, y1, y2, y3, y4, y5][i]? = some y → ∀ bytes, y.1 = .lit (.string bytes) → v = .string (bs bytes) := fun i v y hi e1 e2 bytes e3 => by
      have := hel i hi
      rw [cells9, e1, e2] at this
      obtain ⟨s, es, ey, _⟩ := DataW.trod_string Tryd.underlying9 this
      simp only [List.cons.injEq, and_true] at es
      subst es
      rw [ey] at e3
      simp only [DataW.lit.injEq, Lit.string.injEq] at e3
      rw [bs_of e3]
    have cell : ∀ i, W.cell? ⟨1, i, none⟩ = [v0, v1, v2, v3', v4', v5][i]? := fun i => by simpa using World.var?_cell gWord hvar i
    refine ⟨?_, ?_, ?_, ?_, ?_⟩
    · rw [cell]; rw [hone 1 v1 y1 (by decide) rfl rfl _ hx1.1.2.1.symm]; rfl
    · rw [cell]; rw [hone 2 v2 y2 (by decide) rfl rfl _ hx1.1.2.2.1.symm]; rfl
    · rw [cell]; rw [hone 3 v3' y3 (by decide) rfl rfl _ hx1.1.2.2.2.1.symm]; rfl
    · rw [cell]; rw [hone 4 v4' y4 (by decide) rfl rfl _ hx1.1.2.2.2.2.1.symm]; rfl
    · rw [cell]; rw [hone 5 v5 y5 (by decide) rfl rfl _ hx1.1.2.2.2.2.2.symm]; rfl
theorem var_kept {W W' : World} {n : String} {g : Nat} {cs : Array Value} (hg : Tryd.prog.globalNamed n = some g) (h : W.var? Tryd.prog n = some cs) (hlt : g < W.heap.size) (b : Below W.heap.size W W') : W'.var? Tryd.prog n = some cs := by
  unfold World.var? at h ⊢
  rw [hg] at h ⊢
  simp only [Option.bind_some] at h ⊢
  rw [b.block g hlt]
  exact h
theorem door_met (os : Os) (args : Array Value) : laidMetH Tryd.prog Rows.fnExactReadCommandRow.laid ((World.doorLaid Tryd.prog 4000 os).forCall (fun _ _ => 0) ⟨#[], args, []⟩).memory := by
  rw [MakeChecks.laidMetH_plain _ _ _ (by kernel_rfl)]
  exact laidMet_of_run' 8 (by kernel_rfl) (by kernel_rfl)
theorem lifted (os : Os) (started : os.Started) (H : Type) (enc : TypeId × Value → H) :
    ReturnsInHanded {} Tryd.checked os 3 .any (fun w args => (Rows.fnExactReadCommandSpec.pre enc Tryd.prog Tryd.f3 [] false w args ∧ laidMetH Tryd.prog Rows.fnExactReadCommandRow.laid w) ∧ sizedMet enc Tryd.prog Tryd.f3 (OpenSpec.ofChange Rows.fnExactReadCommandSpec) false w args)
      (Rows.fnExactReadCommandSpec.post enc Tryd.prog Tryd.f3 false true false false) := by
  refine returnsInHanded_of_change_and (C := Tryd.checked) (X := fun w _ => laidMetH Tryd.prog Rows.fnExactReadCommandRow.laid w) (fun _ _ _ hh h => h.of_heap hh) own started (by kernel_rfl) Tryd.func3
    (ChangeSpec.witness_shaped (enc := enc) (C := Tryd.checked) (os := os) (X := fun w _ => laidMetH Tryd.prog Rows.fnExactReadCommandRow.laid w) false (World.doorLaid Tryd.prog 4000 os) #[.string ByteArray.empty] 8 rfl (World.shaped_of_RefB (by kernel_rfl) (by kernel_rfl)) (by kernel_rfl) (by kernel_rfl) (by kernel_rfl) (door_met os _)) ?_
  intro W base args ds gs before hval0 hW _ _ hL _
  have hval : ∀ (j : Nat) t v, Tryd.f3.params[j]? = some t → args[j]? = some v → Value.okWide Tryd.prog W .any base t v := hval0
  have hW' := hW
  obtain ⟨p, q, hA0, hV0, rfl, hfz, hnd⟩ := hW
  have hA : DataW.TrodAll enc Tryd.prog W 0 (fun _ => true) true Tryd.f3.params.toList args.toList ds p := hA0
  have hV : DataW.TrodVars enc Tryd.prog W (fun _ => true) ["loop.example/g00280/impl.errGaveUp", "loop.example/g00280/impl.kindWords"] gs q := hV0
  rw [Tryd.params3] at hA hval
  obtain ⟨v0, vs0, d0, ds0, p0, q0, hargs, rfl, rfl, h0, r0⟩ := trodAll_cons hA
  obtain ⟨rfl, rfl, rfl⟩ := trodAll_nil r0
  obtain rfl : args = #[v0] := by cases args; simp_all
  have k0 := h0
  have lt0 : ∀ x ∈ p0, x.block < W.heap.size := by obtain ⟨m, hm⟩ := k0; exact DataW.trod_lt m _ _ _ hm
  obtain ⟨s, rfl, _⟩ := open_string Tryd.underlying9 (hval 0 9 v0 rfl rfl) h0
  obtain ⟨a, hE, hvG⟩ := met hL
  have lG : 0 < W.heap.size := cell_lt hE.gave
  have lW : 1 < W.heap.size := cell_lt hE.words.1
  clear hA0 hV0 hval0
  match gs, hV with
  | [e1, e2], hV =>
    obtain ⟨g, ty, cs, fuel, pv, qv, hg, hty, hvar, hd, hrest, hps⟩ := hV
    obtain rfl := Option.some.inj (gGave.symm.trans hg)
    obtain rfl := Option.some.inj (tGave.symm.trans hty)
    obtain rfl := Option.some.inj (hvG.symm.trans hvar)
    obtain ⟨g2, ty2, cs2, fuel2, pv2, qv2, hg2, hty2, hvar2, hd2, hrest2, hps2⟩ := hrest
    have hrest' : qv2 = [] := hrest2
    subst hrest'
    obtain rfl := Option.some.inj (gWord.symm.trans hg2)
    obtain rfl := Option.some.inj (tWord.symm.trans hty2)
    have kv1 : DataW.Trod enc Tryd.prog W 0 (fun _ => true) true 50 (.iface 92 (.pointer (some a))) e1 pv := ⟨fuel, hd⟩
    have ltv1 : ∀ x ∈ pv, x.block < W.heap.size := DataW.trod_lt fuel _ _ _ hd
    have kv : DataW.Trod enc Tryd.prog W 0 (fun _ => true) true 54 (.agg cs2) e2 pv2 := ⟨fuel2, hd2⟩
    have ltv : ∀ x ∈ pv2, x.block < W.heap.size := DataW.trod_lt fuel2 _ _ _ hd2
    refine (walkReadCommand s _ _ W hE).mono fun e W' ⟨he, bel⟩ => ?_
    subst he
    refine ⟨_, rfl, _, _, _, [], _, q, hW', trodAll_mk1 (shut_bool Tryd.underlying4 _), (trodAll_cons_mk (Below.trod laidOut (by kernel_rfl) (of_decide_eq_true (by kernel_rfl)) k0 bel lt0) trodAll_mk0), ?_, bel.frame _, fun h => by cases h⟩
    obtain ⟨fuel', hd'⟩ := Below.trod laidOut (by kernel_rfl) (of_decide_eq_true (by kernel_rfl)) kv1 bel ltv1
    obtain ⟨fuel2', hd2'⟩ := Below.trod laidOut (by kernel_rfl) (of_decide_eq_true (by kernel_rfl)) kv bel ltv
    exact ⟨0, 50, _, fuel', pv, _, gGave, tGave, var_kept gGave hvG lG bel, hd', ⟨1, 54, cs2, fuel2', pv2, [], gWord, tWord, var_kept gWord hvar2 lW bel, hd2', rfl, hps2⟩, hps⟩
theorem said : Rows.FnExactReadCommandSaid :=
  OpenClaim.holds_of_wide 3 Tryd.f3 rfl rfl rfl rfl rfl rfl rfl ⟨rfl, rfl, rfl, rfl, rfl⟩ rfl rfl rfl rfl rfl (by kernel_rfl) Tryd.func3 (by kernel_rfl)
    (of_decide_eq_true (by kernel_rfl)) (by unfold Func.isWrapper; first | (rw [if_pos (by decide +kernel)]; kernel_rfl) | (rw [if_neg (by decide +kernel)]; exact ⟨rfl, rfl⟩))
    (fun os started H enc _ => lifted os started H enc)
theorem plain (f : FuncId) (fn : Func) (hf : Tryd.pinned.checked.prog.funcNamed "loop.example/g00280/laws.FnExactReadCommand" = some f) (hfn : Tryd.pinned.checked.prog.funcs[f]? = some fn) :
    true = Tryd.pinned.checked.prog.looks [] ∧ ∀ (j : Nat) t, fn.params[j]? = some t → Tryd.pinned.checked.prog.wantsStandIn t = false := by
  obtain rfl : f = 3 := Option.some.inj ((show Tryd.prog.funcNamed "loop.example/g00280/laws.FnExactReadCommand" = some 3 by kernel_rfl).symm.trans hf) |>.symm
  obtain rfl : fn = Tryd.f3 := (Option.some.inj (Tryd.func3.symm.trans hfn)).symm
  refine ⟨by kernel_rfl, fun j t ht => ?_⟩
  rw [Tryd.params3] at ht
  have hm : t ∈ [9] := by simpa using Array.mem_of_getElem? ht
  have hall : ([9].all fun u => !Tryd.prog.wantsStandIn u) = true := by kernel_rfl
  exact (show Tryd.prog.wantsStandIn t = false by simpa using List.all_eq_true.1 hall t hm)
/-- the card -/
theorem proved : Rows.FnExactReadCommandCardSaid :=
  Claim7.holds_tied_plain_at .later [] _ _ _ _ said (fun _ h => by cases h) (by kernel_rfl) (fun _ h => by cases h) fnExactReadCommand_row_tie rfl ⟨rfl, rfl⟩ (by kernel_rfl) rfl plain (by kernel_rfl)
#print axioms proved
end Go.Proofs.YtbcodlgpdehdhaaDoor.fnExactReadCommand
