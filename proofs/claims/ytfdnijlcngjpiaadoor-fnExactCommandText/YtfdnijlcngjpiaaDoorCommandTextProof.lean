/- At every command the law FnExactCommandText returns true: CommandText of the program answers as its model, and nothing that was there is written; the listed package variables start as the program's text lays them (tied). -/
import Derived.Test.YtfdnijlcngjpiaaDoorTxtI
import Derived.Test.YtfdnijlcngjpiaaDoorCards
import Derived.Test.YtfdnijlcngjpiaaDoorTie
import Derived.SevenTiedAt
import Derived.ChangeSame
import Derived.ChangeVars
import Derived.JoinedOf
import Derived.RowKit
import Derived.RowKitTokens
import Derived.LaidLaws
import Derived.LaidMore
import Derived.Stop.LaidErr
import Derived.Stop.Joined
import Derived.Lib.LaidTab
import Derived.ProofKit
import Derived.OpenShut
import Derived.ShutString
namespace Go.Proofs.YtfdnijlcngjpiaaDoor.fnExactCommandText
open Go.ChangeShapes Go.WideShapes Go.ChangeAt Go.RowKit
open Go.ChangeMaps (open_string shut_string)
set_option linter.unusedVariables false
theorem own : ownKnob Tryd.prog.godebug = none := by kernel_rfl
theorem laidOut : laidOutB Tryd.prog = true := by kernel_rfl
theorem cells23 : Tryd.prog.cellsOf 23 = 6 := by kernel_rfl
theorem cells2 : Tryd.prog.cellsOf 2 = 1 := by kernel_rfl
theorem cells9 : Tryd.prog.cellsOf 9 = 1 := by kernel_rfl
set_option maxHeartbeats 2000000 in
theorem walk (id kind : Int) (f t : ByteArray) (am ref : Int) (w : World) (hf : f.size ≤ maxLen) (ht : t.size ≤ maxLen) (hT : Tab w) (hW : Words w) :
    Calls Tryd.prog 3 #[.agg #[.int .i64 id, .int .i64 kind, .string f, .string t, .int .i64 am, .int .i64 ref]] w fun e w' => e = .returned (.bool true) ∧ Below w.heap.size w w' := by
  have HT : Hid _ := hide hT
  have HW : Hid _ := hide hW
  clear hT hW
  go_enter Tryd.func3, Tryd.ntmps3
  go_wp2_with fail
  refine (szCommand_any _ _ _ _ _ _ _ hf ht).mono ?_
  rintro e w1 ⟨hk1, r, rfl⟩
  have HX1 : Hid _ := hide hk1.below
  clear hk1
  obtain ⟨c0, c1, c2, c3, c4, c5⟩ := boxed6 HX1.out
  by_cases hr : r < 0
  · go_wp2
    go_ret
    exact ⟨rfl, below_trans (below_alloc (Below.refl _ _) _) HX1.out⟩
  · go_wp2_with fail
    refine (toCommand_any _ _ _ _ _ _ _).mono ?_
    rintro e w2 ⟨rfl, hk2⟩
    have HX2 : Hid _ := hide (below_trans HX1.out hk2.below)
    clear hk2 c0 c1 c2 c3 c4 c5
    go_wp2_with fail
    refine (specText_any _ _ _ _ _ _ _ hf ht).mono ?_
    rintro e w3 ⟨rfl, hb3⟩
    have HX3 : Hid _ := hide (below_trans HX2.out hb3)
    clear hb3
    obtain ⟨c0, c1, c2, c3, c4, c5⟩ := boxed6 HX3.out
    go_wp2_with fail
    refine (toCommand_any _ _ _ _ _ _ _).mono ?_
    rintro e w4 ⟨rfl, hk4⟩
    have HX4 : Hid _ := hide (below_trans HX3.out hk4.below)
    clear hk4 c0 c1 c2 c3 c4 c5
    have HB4 : Hid (Below w.heap.size w w4) := hide (below_trans (below_alloc (Below.refl _ _) _) HX4.out)
    go_wp2_with fail
    refine (implText_any _ _ _ _ _ _ _ hf ht (HT.out.below HB4.out) (HW.out.below HB4.out)).mono ?_
    rintro e w5 ⟨rfl, hb5⟩
    have HX5 : Hid _ := hide (below_trans HB4.out hb5)
    clear hb5
    have hq : ((bs (cmdT id kind f t am ref)).toList != (bs (cmdT id kind f t am ref)).toList) = false := by simp
    go_wp2
    go_ret
    exact ⟨rfl, HX5.out⟩
theorem list6 {A : Type} (l : List A) (h : l.length = 6) : ∃ a b c d e f, l = [a, b, c, d, e, f] := by
  match l, h with
  | [a, b, c, d, e, f], _ => exact ⟨a, b, c, d, e, f, rfl⟩
set_option maxRecDepth 100000 in
theorem opened {H : Type} {enc : TypeId × Value → H} {W : World} {base : Nat} {v : Value} {d : DataW H} {p : List MemPlace} (hv : Value.okWide Tryd.prog W .any base 23 v) (h : DataW.Trod enc Tryd.prog W 0 (fun _ => true) true 23 v d p) :
    ∃ (id kind : Int) (f t : ByteArray) (am ref : Int), v = .agg #[.int .i64 id, .int .i64 kind, .string f, .string t, .int .i64 am, .int .i64 ref] ∧ f.size ≤ maxLen ∧ t.size ≤ maxLen := by
  obtain ⟨cs, rfl, hsz⟩ := okWide_struct Tryd.underlying23 hv
  obtain ⟨fuel, hf⟩ := h
  obtain ⟨xs, n, _, _, hl, hlen, hfi⟩ := DataW.trod_struct Tryd.underlying23 hf
  obtain ⟨y0, y1, y2, y3, y4, y5, rfl⟩ := list6 xs hlen
  rw [cells23] at hl
  simp only [Value.cells] at hl hfi
  obtain ⟨a0, a1, a2, a3, a4, a5, hcs⟩ := list6 _ hl
  rw [hcs] at hfi
  have h0 : DataW.trod enc Tryd.prog W 0 (fun _ => true) true n 2 [a0] = some y0 := by simpa [cells2] using hfi 0 _ rfl
  have h1 : DataW.trod enc Tryd.prog W 0 (fun _ => true) true n 2 [a1] = some y1 := by simpa [cells2] using hfi 1 _ rfl
  have h2 : DataW.trod enc Tryd.prog W 0 (fun _ => true) true n 9 [a2] = some y2 := by simpa [cells9] using hfi 2 _ rfl
  have h3 : DataW.trod enc Tryd.prog W 0 (fun _ => true) true n 9 [a3] = some y3 := by simpa [cells9] using hfi 3 _ rfl
  have h4 : DataW.trod enc Tryd.prog W 0 (fun _ => true) true n 2 [a4] = some y4 := by simpa [cells2] using hfi 4 _ rfl
  have h5 : DataW.trod enc Tryd.prog W 0 (fun _ => true) true n 2 [a5] = some y5 := by simpa [cells2] using hfi 5 _ rfl
  obtain ⟨id, e0, _, _⟩ := DataW.trod_int Tryd.underlying2 h0
  obtain ⟨kind, e1, _, _⟩ := DataW.trod_int Tryd.underlying2 h1
  obtain ⟨f, e2, _, hf⟩ := DataW.trod_string Tryd.underlying9 h2
  obtain ⟨t, e3, _, ht⟩ := DataW.trod_string Tryd.underlying9 h3
  obtain ⟨am, e4, _, _⟩ := DataW.trod_int Tryd.underlying2 h4
  obtain ⟨ref, e5, _, _⟩ := DataW.trod_int Tryd.underlying2 h5
  simp only [List.cons.injEq, and_true] at e0 e1 e2 e3 e4 e5
  subst e0 e1 e2 e3 e4 e5
  exact ⟨id, kind, f, t, am, ref, by congr 1; exact Array.toList_inj.1 hcs, hf, ht⟩


theorem gWord : Tryd.prog.globalNamed "loop.example/g00280/impl.kindWords" = some 0 := by kernel_rfl
theorem tWord : (Tryd.prog.globals[0]?).map (·.type) = some 46 := by kernel_rfl
theorem gTab : Tryd.prog.globalNamed "internal/strconv.uint64pow10" = some 1 := by kernel_rfl
theorem tTab : (Tryd.prog.globals[1]?).map (·.type) = some 124 := by kernel_rfl
theorem cellsTab : Tryd.prog.cellsOf 124 = 20 := by kernel_rfl
theorem cellsE : Tryd.prog.cellsOf 115 = 1 := by kernel_rfl
set_option maxRecDepth 100000 in
theorem tabData : (Rows.laid_internal_strconv_uint64pow10 : DataW Unit) = Lib.tabData .u64 Lib.pow10Tab := by kernel_rfl
theorem list6' {A : Type} (l : List A) (h : l.length = 6) : ∃ a b c d e f, l = [a, b, c, d, e, f] := list6 l h
set_option maxRecDepth 100000 in
theorem met {W : World} (h : laidMetH Tryd.prog Rows.fnExactCommandTextRow.laid W) : Tab W ∧ Words W := by
  rw [MakeChecks.laidMetH_plain _ _ _ (by kernel_rfl)] at h
  have h2 : laidMet Tryd.prog [("internal/strconv.uint64pow10", Rows.laid_internal_strconv_uint64pow10), ("loop.example/g00280/impl.kindWords", Rows.laid_loop_example_g00280_impl_kindWords)] W := laidMet.tail (laidMet.tail h)
  refine ⟨?_, ?_⟩
  · rw [tabData] at h2
    exact Lib.tabIs_of_head gTab tTab Tryd.underlying124 Tryd.underlying115 cellsE cellsTab h2
  · obtain ⟨ps, ⟨g', t', cs, fuel, p, q, hg', ht', hvar, hd, _, _⟩, _⟩ := laidMet.tail h2
    obtain rfl := Option.some.inj (gWord.symm.trans hg')
    obtain rfl := Option.some.inj (tWord.symm.trans ht')
    obtain ⟨xs, m1, rfl, hx1, hlen, hn6, hel⟩ := DataW.trod_array Tryd.underlying46 hd
    have c46 : Tryd.prog.cellsOf 46 = 6 := by kernel_rfl
    rw [c46] at hlen
    obtain ⟨y0, y1, y2, y3, y4, y5, rfl⟩ := list6 xs hn6
    obtain ⟨l⟩ := cs
    obtain ⟨v0, v1, v2, v3, v4, v5, rfl⟩ := list6 l hlen
    simp only [Prod.mk.injEq, Rows.laid_loop_example_g00280_impl_kindWords, DataW.agg.injEq, List.map_cons, List.map_nil, List.cons.injEq, and_true] at hx1
    have hone : ∀ i v y, i < 6 → ([v0, v1, v2, v3, v4, v5].drop (i * 1)).take 1 = [v] → [y0, y1, y2, y3, y4, y5][i]? = some y → ∀ bytes, y.1 = .lit (.string bytes) → v = .string (bs bytes) := fun i v y hi e1 e2 bytes e3 => by
      have := hel i hi
      rw [cells9, e1, e2] at this
      obtain ⟨s, es, ey, _⟩ := DataW.trod_string Tryd.underlying9 this
      simp only [List.cons.injEq, and_true] at es
      subst es
      rw [ey] at e3
      simp only [DataW.lit.injEq, Lit.string.injEq] at e3
      rw [bs_of e3]
    have cell : ∀ i, W.cell? ⟨0, i, none⟩ = [v0, v1, v2, v3, v4, v5][i]? := fun i => by simpa using World.var?_cell gWord hvar i
    refine ⟨?_, ?_, ?_, ?_, ?_⟩
    · rw [cell]; rw [hone 1 v1 y1 (by decide) rfl rfl _ hx1.1.2.1.symm]; rfl
    · rw [cell]; rw [hone 2 v2 y2 (by decide) rfl rfl _ hx1.1.2.2.1.symm]; rfl
    · rw [cell]; rw [hone 3 v3 y3 (by decide) rfl rfl _ hx1.1.2.2.2.1.symm]; rfl
    · rw [cell]; rw [hone 4 v4 y4 (by decide) rfl rfl _ hx1.1.2.2.2.2.1.symm]; rfl
    · rw [cell]; rw [hone 5 v5 y5 (by decide) rfl rfl _ hx1.1.2.2.2.2.2.symm]; rfl
theorem var_kept {W W' : World} {cs : Array Value} (h : W.var? Tryd.prog "loop.example/g00280/impl.kindWords" = some cs) (hlt : 0 < W.heap.size) (b : Below W.heap.size W W') : W'.var? Tryd.prog "loop.example/g00280/impl.kindWords" = some cs := by
  unfold World.var? at h ⊢
  rw [gWord] at h ⊢
  simp only [Option.bind_some] at h ⊢
  rw [b.block 0 hlt]
  exact h
theorem door_met (os : Os) (args : Array Value) : laidMetH Tryd.prog Rows.fnExactCommandTextRow.laid ((World.doorLaid Tryd.prog 4000 os).forCall (fun _ _ => 0) ⟨#[], args, []⟩).memory := by
  rw [MakeChecks.laidMetH_plain _ _ _ (by kernel_rfl)]
  exact laidMet_of_run' 8 (by kernel_rfl) (by kernel_rfl)
set_option maxRecDepth 100000 in
theorem lifted (os : Os) (started : os.Started) (H : Type) (enc : TypeId × Value → H) :
    ReturnsInHanded {} Tryd.checked os 3 .any (fun w args => (Rows.fnExactCommandTextSpec.pre enc Tryd.prog Tryd.f3 [] false w args ∧ laidMetH Tryd.prog Rows.fnExactCommandTextRow.laid w) ∧ sizedMet enc Tryd.prog Tryd.f3 (OpenSpec.ofChange Rows.fnExactCommandTextSpec) false w args)
      (Rows.fnExactCommandTextSpec.post enc Tryd.prog Tryd.f3 false true false false) := by
  refine returnsInHanded_of_change_and (C := Tryd.checked) (X := fun w _ => laidMetH Tryd.prog Rows.fnExactCommandTextRow.laid w) (fun _ _ _ hh h => h.of_heap hh) own started (by kernel_rfl) Tryd.func3
    (ChangeSpec.witness_shaped (enc := enc) (C := Tryd.checked) (os := os) (X := fun w _ => laidMetH Tryd.prog Rows.fnExactCommandTextRow.laid w) false (World.doorLaid Tryd.prog 4000 os) #[.agg #[.int .i64 0, .int .i64 0, .string ByteArray.empty, .string ByteArray.empty, .int .i64 0, .int .i64 0]] 8 rfl (World.shaped_of_RefB (by kernel_rfl) (by kernel_rfl)) (by kernel_rfl) (by kernel_rfl) (by kernel_rfl) (door_met os _)) ?_
  intro W base args ds gs before hval0 hW _ _ hL _
  have hval : ∀ (j : Nat) t v, Tryd.f3.params[j]? = some t → args[j]? = some v → Value.okWide Tryd.prog W .any base t v := hval0
  have hW' := hW
  obtain ⟨p, q, hA0, hV0, rfl, hfz, hnd⟩ := hW
  have hA : DataW.TrodAll enc Tryd.prog W 0 (fun _ => true) true Tryd.f3.params.toList args.toList ds p := hA0
  have hV : DataW.TrodVars enc Tryd.prog W (fun _ => true) ["loop.example/g00280/impl.kindWords"] gs q := hV0
  rw [Tryd.params3] at hA hval
  obtain ⟨v0, vs0, d0, ds0, p0, q0, hargs, rfl, rfl, h0, r0⟩ := trodAll_cons hA
  obtain ⟨rfl, rfl, rfl⟩ := trodAll_nil r0
  obtain rfl : args = #[v0] := by cases args; simp_all
  have k0 := h0
  have lt0 : ∀ x ∈ p0, x.block < W.heap.size := by obtain ⟨m, hm⟩ := k0; exact DataW.trod_lt m _ _ _ hm
  obtain ⟨id, kind, f, t, am, ref, rfl, hf, ht⟩ := opened (hval 0 23 v0 rfl rfl) h0
  obtain ⟨hT, hWd⟩ := met hL
  have hpos : 0 < W.heap.size := cell_lt hWd.1
  clear hA0 hV0 hval0
  match gs, hV with
  | [d], hV =>
    obtain ⟨g, ty, cs, fuel, pv, qv, hg, hty, hvar, hd, hrest, hps⟩ := hV
    have hrest' : qv = [] := hrest
    subst hrest'
    obtain rfl := Option.some.inj (gWord.symm.trans hg)
    obtain rfl := Option.some.inj (tWord.symm.trans hty)
    have kv : DataW.Trod enc Tryd.prog W 0 (fun _ => true) true 46 (.agg cs) d pv := ⟨fuel, hd⟩
    have ltv : ∀ x ∈ pv, x.block < W.heap.size := DataW.trod_lt fuel _ _ _ hd
    refine (walk id kind f t am ref W hf ht hT hWd).mono fun e W' ⟨he, bel⟩ => ?_
    subst he
    refine ⟨_, rfl, _, _, _, [], _, q, hW', trodAll_mk1 (shut_bool Tryd.underlying4 _), (trodAll_cons_mk (Below.trod laidOut (by kernel_rfl) (of_decide_eq_true (by kernel_rfl)) k0 bel lt0) trodAll_mk0), ?_, bel.frame _, fun h => by cases h⟩
    obtain ⟨fuel', hd'⟩ := Below.trod laidOut (by kernel_rfl) (of_decide_eq_true (by kernel_rfl)) kv bel ltv
    exact ⟨0, 46, cs, fuel', pv, [], gWord, tWord, var_kept hvar hpos bel, hd', rfl, hps⟩
theorem said : Rows.FnExactCommandTextSaid :=
  OpenClaim.holds_of_wide 3 Tryd.f3 rfl rfl rfl rfl rfl rfl rfl ⟨rfl, rfl, rfl, rfl, rfl⟩ rfl rfl rfl rfl rfl (by kernel_rfl) Tryd.func3 (by kernel_rfl)
    (of_decide_eq_true (by kernel_rfl)) (by unfold Func.isWrapper; first | (rw [if_pos (by decide +kernel)]; kernel_rfl) | (rw [if_neg (by decide +kernel)]; exact ⟨rfl, rfl⟩))
    (fun os started H enc _ => lifted os started H enc)
theorem plain (f : FuncId) (fn : Func) (hf : Tryd.pinned.checked.prog.funcNamed "loop.example/g00280/laws.FnExactCommandText" = some f) (hfn : Tryd.pinned.checked.prog.funcs[f]? = some fn) :
    false = Tryd.pinned.checked.prog.looks [] ∧ ∀ (j : Nat) t, fn.params[j]? = some t → Tryd.pinned.checked.prog.wantsStandIn t = false := by
  obtain rfl : f = 3 := Option.some.inj ((show Tryd.prog.funcNamed "loop.example/g00280/laws.FnExactCommandText" = some 3 by kernel_rfl).symm.trans hf) |>.symm
  obtain rfl : fn = Tryd.f3 := (Option.some.inj (Tryd.func3.symm.trans hfn)).symm
  refine ⟨by kernel_rfl, fun j t ht => ?_⟩
  rw [Tryd.params3] at ht
  have hm : t ∈ [23] := by simpa using Array.mem_of_getElem? ht
  have hall : ([23].all fun u => !Tryd.prog.wantsStandIn u) = true := by kernel_rfl
  exact (show Tryd.prog.wantsStandIn t = false by simpa using List.all_eq_true.1 hall t hm)
/-- the card -/
theorem proved : Rows.FnExactCommandTextCardSaid :=
  Claim7.holds_tied_plain_at .later [] _ _ _ _ said (fun _ h => by cases h) (by kernel_rfl) (fun _ h => by cases h) fnExactCommandText_row_tie rfl ⟨rfl, rfl⟩ (by kernel_rfl) rfl plain (by kernel_rfl)
#print axioms proved
end Go.Proofs.YtfdnijlcngjpiaaDoor.fnExactCommandText
