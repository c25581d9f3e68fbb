/- At every drawn input the law FnAmounts returns true: an amount comes back from its text, and what is read, written again, has just its bytes; nothing that was there is written; no condition. -/
import Derived.Test.YtbpopaojkmdffaaRd5
import Derived.Test.YtbpopaojkmdffaaSRead
import Derived.Test.YtbpopaojkmdffaaRead2
import Derived.WalkKit
import Derived.ProofKit
import Derived.OpenShut
import Derived.ShutString
import Derived.ChangeOld
import Derived.Below
namespace Go.Proofs.Ytbpopaojkmdffaa.fnAmounts
open Go.ChangeShapes Go.WideShapes Go.ChangeAt Go.RowKit
open Go.ChangeMaps (open_string shut_string)
set_option linter.unusedVariables false

theorem own : ownKnob Try.prog.godebug = none := by kernel_rfl
theorem laidOut : laidOutB Try.prog = true := by kernel_rfl

/-- WHAT THE WALK IS TOLD OF A SLICE OF INTEGERS THAT CAME IN: it is nil; or it leads to a row of 'cap' cells, the numbers 'zs' (the first 'len' are its elements, the rest its spare room), each fitting its kind. -/
def IsRow (k : IntKind) (w : World) (a : Option Addr) (len cap : Nat) (zs : List Int) : Prop :=
  (a = none ∧ len = 0 ∧ cap = 0 ∧ zs = []) ∨
  ∃ x, a = some x ∧ len ≤ cap ∧ cap ≤ maxLen ∧ zs.length = cap ∧ (∀ i, i < zs.length → w.cell? (x.add i) = some (.int k (zs.getD i 0))) ∧ ∀ n ∈ zs, (Lit.int k n).wf = true

theorem code_of {w : World} {a : Option Addr} {len cap : Nat} {zs : List Int} (h : IsRow .u8 w a len cap zs) : IsCode w a len := by
  rcases h with ⟨rfl, rfl, rfl, rfl⟩ | ⟨x, rfl, hl, hm, hz, hcell, hwz⟩
  · exact ⟨by omega, fun i hi => by omega⟩
  · unfold maxLen at hm
    refine ⟨by omega, fun i hi => ?_⟩
    have hc := hcell i (by omega)
    obtain ⟨b, off, spot⟩ := x
    have hspot : spot = none := by
      have := World.cell?_spot (hcell 0 (by omega))
      simpa [Addr.add] using this
    subst hspot
    have hplain : (⟨b, off, none⟩ : Addr).add i = ⟨b, off + i, none⟩ := by unfold Addr.add; split <;> simp_all
    have hc' : w.cell? ⟨b, off + i, none⟩ = some (.int .u8 (zs.getD i 0)) := by rw [← hplain]; exact hc
    have hmem : zs.getD i 0 ∈ zs := by
      rw [List.getD, List.getElem?_eq_getElem (show i < zs.length by omega)]
      simp
    have hb := bounds_u8 (hwz _ hmem)
    refine ⟨b, off, rfl, ?_, _, hb.1, hb.2, hc'⟩
    rcases Nat.lt_or_ge b w.heap.size with h | h
    · exact h
    · simp [World.cell?, Array.getElem?_eq_none h] at hc'
theorem empty_no : ∀ n, inR n → bs [] ≠ bs (amt n) := fun n hn e => amt_ne_nil n hn (by rw [← bs_eq e, bs_list])
theorem big_any (a : Option Addr) (len cap : Nat) (w : World) : Calls Try.prog 9 #[.slice a len cap] w fun e w' => e = .returned (.bool (decide (1048576 < (len : Int)))) ∧ w' = w := by
  go_enter Try.func9, Try.ntmps9
  go_wp2
  go_ret
  exact ⟨by simp, rfl⟩
set_option maxHeartbeats 2000000 in
theorem walk (a0 : Option Addr) (len0 cap0 : Nat) (z0 : List Int) (w : World) (w0 : IsRow .u8 w a0 len0 cap0 z0) :
    Calls Try.prog 3 #[.slice a0 len0 cap0] w fun e w' => e = .returned (.bool true) ∧ Below w.heap.size w w' := by
  have HC : Hid _ := hide (code_of w0)
  clear w0
  by_cases hbig : 1048576 < (len0 : Int)
  · have hd : decide (1048576 < (len0 : Int)) = true := by simpa using hbig
    go_enter Try.func3, Try.ntmps3
    go_wp2_with fail
    refine (big_any _ _ _ _).mono ?_
    rintro e w1 ⟨rfl, rfl⟩
    rw [hd]
    go_wp2
    go_ret
    exact ⟨rfl, Below.refl _ _⟩
  · have hd : decide (1048576 < (len0 : Int)) = false := by simpa using hbig
    go_enter Try.func3, Try.ntmps3
    go_wp2_with fail
    refine (big_any _ _ _ _).mono ?_
    rintro e w1 ⟨rfl, rfl⟩
    rw [hd]
    clear hd hbig
    go_wp2_with fail
    refine (drawAmountText_any _ _ _ _ HC.out).mono ?_
    rintro e w2 ⟨⟨n, n0, n1, rfl⟩, HB2⟩
    have HC2 : Hid _ := hide (HC.out.below HB2)
    go_wp2_with fail
    refine (implAmountText_any _ _ n0 n1).mono ?_
    rintro e w3 ⟨rfl, HK3⟩
    have HC3 : Hid _ := hide (HC2.out.below HK3.below)
    have HB3 := HB2.trans (HK3.below.mono HB2.size)
    clear HC HC2 HB2 HK3
    have hs13 : (bs (amt n)).size ≤ 15 := by rw [bs_size]; exact amt_len n
    by_cases hn : inR n
    · have HN : Hid _ := hide hn
      have hne : (bs (amt n)).toList.isEmpty = false := by
        rw [Lib.toList_data, bs_list, Bool.eq_false_iff]
        intro h
        exact amt_ne_nil n hn (List.isEmpty_iff.1 h)
      clear hn
      go_wp2_with fail
      refine (implRead_yes _ n _ HN.out rfl).mono ?_
      rintro e w4 ⟨rfl, HK4⟩
      go_wp2_with fail
      refine (specAmountText_any _ _ n0 n1).mono ?_
      rintro e w5 ⟨rfl, HK5⟩
      have HC5 : Hid _ := hide ((HC3.out.below HK4.below).below HK5.below)
      have HB5 := HB3.trans ((HK4.trans HK5).below.mono HB3.size)
      clear HC3 HB3 HK4 HK5
      go_wp2_with fail
      refine (drawReadAmount_any _ _ _ _ HC5.out).mono ?_
      rintro e w6 ⟨⟨t, ht, rfl⟩, HB6⟩
      have HB6' := HB5.trans (HB6.mono HB5.size)
      clear HC5 HB5 HB6
      by_cases hy : ∃ v, inR v ∧ t = bs (amt v)
      · obtain ⟨v, hv, htv⟩ := hy
        have HV : Hid _ := hide hv
        have HT : Hid _ := hide htv
        have v0 : -1000000000000 ≤ v := hv.1
        have v1 : v ≤ 1000000000000 := hv.2
        have hq : ((bs (amt v)).toList == t.toList) = true := beq_bytes.2 htv.symm
        clear hv htv
        go_wp2_with fail
        refine (implRead_yes _ v _ HV.out HT.out).mono ?_
        rintro e w7 ⟨rfl, HK7⟩
        go_wp2_with fail
        refine (specRead_any _ _ (by unfold maxLen; omega)).mono ?_
        rintro e w8 ⟨HK8, hend⟩
        have hex : ∃ v', e = .returned (.tuple #[.int .i64 v', .bool true]) := by
          rcases hend with ⟨v', _, _, he⟩ | ⟨hno, _⟩
          · exact ⟨v', he⟩
          · exact absurd HT.out (hno v HV.out)
        clear hend
        obtain ⟨v', rfl⟩ := hex
        go_wp2_with fail
        refine (implAmountText_any _ _ (by omega) (by omega)).mono ?_
        rintro e w9 ⟨rfl, HK9⟩
        go_wp2
        go_ret
        exact ⟨rfl, HB6'.trans (((HK7.trans HK8).trans HK9).below.mono HB6'.size)⟩
      · have HN2 : Hid (∀ n, inR n → t ≠ bs (amt n)) := hide (fun n hn e => hy ⟨n, hn, e⟩)
        clear hy
        go_wp2_with fail
        refine (implRead_no _ _ (by unfold maxLen; omega) HN2.out).mono ?_
        rintro e w7 ⟨rfl, HK7⟩
        go_wp2_with fail
        refine (specRead_any _ _ (by unfold maxLen; omega)).mono ?_
        rintro e w8 ⟨HK8, hend⟩
        have hex : e = .returned (.tuple #[.int .i64 0, .bool false]) := by
          rcases hend with ⟨v', h1, h2, _⟩ | ⟨_, he⟩
          · exact absurd h2 (HN2.out v' h1)
          · exact he
        clear hend
        subst hex
        go_wp2
        go_ret
        exact ⟨rfl, HB6'.trans ((HK7.trans HK8).below.mono HB6'.size)⟩
    · have HN0 : Hid (amt n = []) := hide (amt_out n hn)
      clear hn
      rw [HN0.out] at hs13 ⊢
      have hne : (bs []).toList.isEmpty = true := by rw [Lib.toList_data, bs_list]; rfl
      go_wp2_with fail
      refine (implRead_no _ _ (by unfold maxLen; omega) empty_no).mono ?_
      rintro e w4 ⟨rfl, HK4⟩
      go_wp2_with fail
      refine (specAmountText_any _ _ n0 n1).mono ?_
      rintro e w5 ⟨rfl, HK5⟩
      rw [HN0.out]
      have HC5 : Hid _ := hide ((HC3.out.below HK4.below).below HK5.below)
      have HB5 := HB3.trans ((HK4.trans HK5).below.mono HB3.size)
      clear HC3 HB3 HK4 HK5
      go_wp2_with fail
      refine (drawReadAmount_any _ _ _ _ HC5.out).mono ?_
      rintro e w6 ⟨⟨t, ht, rfl⟩, HB6⟩
      have HB6' := HB5.trans (HB6.mono HB5.size)
      clear HC5 HB5 HB6
      by_cases hy : ∃ v, inR v ∧ t = bs (amt v)
      · obtain ⟨v, hv, htv⟩ := hy
        have HV : Hid _ := hide hv
        have HT : Hid _ := hide htv
        have v0 : -1000000000000 ≤ v := hv.1
        have v1 : v ≤ 1000000000000 := hv.2
        have hq : ((bs (amt v)).toList == t.toList) = true := beq_bytes.2 htv.symm
        clear hv htv
        go_wp2_with fail
        refine (implRead_yes _ v _ HV.out HT.out).mono ?_
        rintro e w7 ⟨rfl, HK7⟩
        go_wp2_with fail
        refine (specRead_any _ _ (by unfold maxLen; omega)).mono ?_
        rintro e w8 ⟨HK8, hend⟩
        have hex : ∃ v', e = .returned (.tuple #[.int .i64 v', .bool true]) := by
          rcases hend with ⟨v', _, _, he⟩ | ⟨hno, _⟩
          · exact ⟨v', he⟩
          · exact absurd HT.out (hno v HV.out)
        clear hend
        obtain ⟨v', rfl⟩ := hex
        go_wp2_with fail
        refine (implAmountText_any _ _ (by omega) (by omega)).mono ?_
        rintro e w9 ⟨rfl, HK9⟩
        go_wp2
        go_ret
        exact ⟨rfl, HB6'.trans (((HK7.trans HK8).trans HK9).below.mono HB6'.size)⟩
      · have HN2 : Hid (∀ n, inR n → t ≠ bs (amt n)) := hide (fun n hn e => hy ⟨n, hn, e⟩)
        clear hy
        go_wp2_with fail
        refine (implRead_no _ _ (by unfold maxLen; omega) HN2.out).mono ?_
        rintro e w7 ⟨rfl, HK7⟩
        go_wp2_with fail
        refine (specRead_any _ _ (by unfold maxLen; omega)).mono ?_
        rintro e w8 ⟨HK8, hend⟩
        have hex : e = .returned (.tuple #[.int .i64 0, .bool false]) := by
          rcases hend with ⟨v', h1, h2, _⟩ | ⟨_, he⟩
          · exact absurd h2 (HN2.out v' h1)
          · exact he
        clear hend
        subst hex
        go_wp2
        go_ret
        exact ⟨rfl, HB6'.trans ((HK7.trans HK8).below.mono HB6'.size)⟩

/-! ### THE ROW's STEP: WRITTEN OUT: LEAVE IT -/
set_option maxRecDepth 100000 in
theorem lifted (os : Os) (started : os.Started) (H : Type) (enc : TypeId × Value → H) :
    ReturnsInHanded {} Try.checked os 3 .any (Rows.fnAmountsSpec.pre6 enc Try.prog Try.f3 Rows.fnAmountsRow.domain false) (Rows.fnAmountsSpec.post enc Try.prog Try.f3 false true false false) := by
  refine returnsInHanded_of_change (C := Try.checked) own started (by kernel_rfl) Try.func3
    (ChangeSpec.witness6 (enc := enc) (C := Try.checked) false ⟨#[], #[.slice none 0 0], []⟩ 8 (by kernel_rfl) (by kernel_rfl) (by kernel_rfl) (by kernel_rfl)) ?_
  intro W base args ds gs before hval0 hW hcnd _
  have hval : ∀ (j : Nat) t v, Try.f3.params[j]? = some t → args[j]? = some v → Value.okWide Try.prog W .any base t v := hval0
  have hW' := hW
  obtain ⟨p, q, hA0, hV, rfl, hfz, hnd⟩ := hW
  have hA : DataW.TrodAll enc Try.prog W 0 (fun _ => true) true Try.f3.params.toList args.toList ds p := hA0
  rw [Try.params3] at hA hval
  obtain ⟨v0, vs0, d0, ds0, p0, q0, hargs, rfl, rfl, h0, r0⟩ := trodAll_cons hA
  obtain ⟨rfl, rfl, rfl⟩ := trodAll_nil r0
  obtain rfl : args = #[v0] := by cases args; simp_all
  obtain ⟨rfl, rfl⟩ := trodVars_none hV
  obtain ⟨a0, len0, cap0, rfl⟩ := okWide_slice Try.underlying22 (hval 0 22 v0 rfl rfl)
  have k0 := h0
  have lt0 : ∀ x ∈ p0, x.block < W.heap.size := by obtain ⟨m, hm⟩ := k0; exact DataW.trod_lt m _ _ _ hm
  obtain ⟨z0, w0⟩ : ∃ zs, IsRow .u8 W a0 len0 cap0 zs := by
    obtain ⟨fuel, hf⟩ := h0
    rcases open_ints Try.underlying22 Try.underlying5 (by kernel_rfl) hf with ⟨hcs, _⟩ | ⟨x, l, c, zs, hcs, _, hl, hm, hz, _, hcell, hwz⟩
    · simp [Value.cells] at hcs
      obtain ⟨rfl, rfl, rfl⟩ := hcs
      exact ⟨[], .inl ⟨rfl, rfl, rfl, rfl⟩⟩
    · simp [Value.cells] at hcs
      obtain ⟨rfl, rfl, rfl⟩ := hcs
      exact ⟨zs, .inr ⟨_, rfl, hl, hm, by simpa using hz, hcell, hwz⟩⟩
  clear hA0 hval0
  refine (walk a0 len0 cap0 z0 W w0).mono fun e W' ⟨he, bel⟩ => ?_
  subst he
  exact ⟨_, rfl, _, _, _, [], _, [], hW', trodAll_mk1 (shut_bool Try.underlying4 _), (trodAll_cons_mk (Below.trod laidOut (by kernel_rfl) (of_decide_eq_true (by kernel_rfl)) k0 bel lt0) trodAll_mk0), rfl, bel.frame _, fun h => by cases h⟩

theorem over : Rows.fnAmountsRow.holds Try.pinned (OpenSpec.ofChange Rows.fnAmountsSpec) :=
  OpenClaim.holds_of_wide 3 Try.f3 rfl rfl rfl rfl rfl rfl rfl ⟨rfl, rfl, rfl, rfl, rfl⟩ rfl rfl rfl rfl rfl (by kernel_rfl) Try.func3 (by kernel_rfl)
    (of_decide_eq_true (by kernel_rfl)) (by unfold Func.isWrapper; first | (rw [if_pos (by decide +kernel)]; kernel_rfl) | (rw [if_neg (by decide +kernel)]; exact ⟨rfl, rfl⟩))
    (fun os started H enc _ => lifted os started H enc)

/-- ████ THE STATEMENT ████ -/
theorem proved : Rows.FnAmountsSaid := over
#print axioms proved
end Go.Proofs.Ytbpopaojkmdffaa.fnAmounts
