/- The contract of the program's shelf.did. -/
import Derived.Test.YtiilkkdbifhojaaDkI7
namespace Go.Proofs.Ytiilkkdbifhojaa
open Go.ChangeShapes Go.WideShapes Go.ChangeAt Go.RowKit Go.Maps
set_option linter.unusedVariables false
set_option maxRecDepth 100000
theorem upon_invoke {P : Program} {o : Oper} {a : Act} {K : Act → World → Prop} {Q : Exit → Act → World → Prop} {r : Result Next} (f : FuncId) (args : Array Value) (w : World) (hr : r = .ok (.enter f args) w) (h : Oper.upon P o a K Q (.ok (.enter f args) w)) : Oper.upon P o a K Q r := by rw [hr]; exact h
/-- how an op is answered -/
def didV (l : List Fl) (o : Dp) : Int := if formB o then (if (doL l o).2 then (if fitB (doL l o).1 then 0 else 4) else 3) else 2
def DidEnd (base m N : Nat) (l : List Fl) (o : Dp) (w : World) (e : Ending) (w' : World) : Prop := e = .returned (.int .i64 (didV l o)) ∧ Below base w w' ∧ (formB o = true → (doL l o).2 = true → ∃ β, Shelf base m (doL l o).1 β (N + 1) w')
theorem kind_of {o : Dp} (h : formB o = true) : o.kind = 1 ∨ o.kind = 2 ∨ o.kind = 3 := by
  simp only [formB, Bool.and_eq_true, inB, decide_eq_true_eq] at h
  omega
theorem do_app {l : List Fl} {nm tn da : ByteArray} : doL l ⟨1, nm, tn, da⟩ = (putL l nm (appD l nm da), true) := by simp [doL]
theorem do_ren {l : List Fl} {nm tn da : ByteArray} : doL l ⟨2, nm, tn, da⟩ = if hasN l nm then (putL (cutL l nm) tn (dataL l nm), true) else (l, false) := by
  cases e : hasN l nm with
  | true => obtain ⟨k, hk, ha, _⟩ := hasN_at e; simp [doL, ha]
  | false => simp [doL, hasN_no e]
theorem do_rem {l : List Fl} {nm tn da : ByteArray} : doL l ⟨3, nm, tn, da⟩ = if hasN l nm then (cutL l nm, true) else (l, false) := by
  cases e : hasN l nm with
  | true => obtain ⟨k, hk, ha, _⟩ := hasN_at e; simp [doL, ha]
  | false => simp [doL, hasN_no e]
set_option maxHeartbeats 4000000 in
theorem did_app (base m N : Nat) (l : List Fl) (β : ByteArray → Bd) (nm tn da : ByteArray) (w : World) (hs : SmO ⟨1, nm, tn, da⟩) (hN : N ≤ 10000) (hz : datL l ≤ 400000) (hz2 : datL (doL l ⟨1, nm, tn, da⟩).1 ≤ 1000000000) (h : Shelf base m l β N w) (hf : formB ⟨1, nm, tn, da⟩ = true) :
    Calls Try.prog 20 #[.map (some m), .agg #[.int .i64 1, .string nm, .string tn, .string da]] w fun e w' => DidEnd base m N l ⟨1, nm, tn, da⟩ w e w' := by
  have HH : Hid _ := hide h
  have HBL : Hid _ := hide h.base_le
  have HB0 : Hid (Below w.heap.size w (w.alloc (.cells #[.int .i64 1, .string nm, .string tn, .string da] 36))) := hide (below_alloc (Below.refl _ _) _)
  have HOP := opOf_any ⟨1, nm, tn, da⟩ (w.alloc (.cells #[.int .i64 1, .string nm, .string tn, .string da] 36)) hs
  obtain ⟨s1, s2, s3⟩ := hs
  simp only at s1 s2 s3
  rw [hf] at HOP
  have HO : Hid _ := hide HOP
  have HF : Hid _ := hide hf
  clear HOP h hf
  go_enter Try.func20, Try.ntmps20
  go_wp2_with fail
  refine HO.out.mono ?_
  rintro e w1 ⟨rfl, hb1⟩
  have HB1 : Hid _ := hide (below_trans HB0.out hb1)
  have HS1 : Hid _ := hide (HH.out.below HB1.out)
  clear hb1
  have eo : opV ⟨1, nm, tn, da⟩ = .iface 96 (.agg #[.string nm, .string da]) := rfl
  rw [eo]
  go_wp2_with fail
  refine upon_invoke 108 #[.agg #[.string nm, .string da], .map (some m)] w1 (by kernel_rfl) ?_
  rw [Oper.upon_enter]
  refine (appFinds_any nm da m w1).mono ?_
  rintro e w2 ⟨rfl, hb2⟩
  have HB2 : Hid _ := hide (below_trans HB1.out hb2)
  have HS2 : Hid _ := hide (HS1.out.below hb2)
  clear hb2
  go_wp2_with fail
  refine upon_invoke 107 #[.agg #[.string nm, .string da], .map (some m)] w2 (by kernel_rfl) ?_
  rw [Oper.upon_enter]
  refine (appDo_any base m N l β nm da w2 (by omega) (by omega) (by omega) (by omega) HS2.out).mono ?_
  rintro e w3 ⟨rfl, hb3, β3, hsh3⟩
  have HB3 : Hid (Below base w w3) := hide ((HB2.out.mono HBL.out).trans hb3)
  have HS3 : Hid (Shelf base m (doL l ⟨1, nm, tn, da⟩).1 β3 (N + 1) w3) := hide (by rw [do_app]; exact hsh3)
  clear hb3 hsh3
  go_wp2_with fail
  refine (fits_any base m (N + 1) _ β3 w3 hz2 HS3.out).mono ?_
  rintro e w4 ⟨rfl, hb4⟩
  have HB4 : Hid (Below base w w4) := hide (HB3.out.trans (hb4.mono (Nat.le_trans HBL.out HB3.out.size)))
  have HS4 : Hid _ := hide (HS3.out.below hb4)
  clear hb4
  have HDV : Hid (didV l ⟨1, nm, tn, da⟩ = if fitB (doL l ⟨1, nm, tn, da⟩).1 then 0 else 4) := hide (by unfold didV; rw [HF.out, do_app]; rfl)
  have HEN : Hid (∀ c : Int, c = didV l ⟨1, nm, tn, da⟩ → DidEnd base m N l ⟨1, nm, tn, da⟩ w (.returned (.int .i64 c)) w4) := hide (fun c hc => ⟨by rw [hc], HB4.out, fun _ _ => ⟨β3, HS4.out⟩⟩)
  generalize (doL l ⟨1, nm, tn, da⟩).1 = l2 at *
  cases qf : fitB l2
  · have HC : Hid ((4 : Int) = didV l ⟨1, nm, tn, da⟩) := hide (by rw [HDV.out, qf]; rfl)
    go_wp2
    go_ret
    exact HEN.out _ HC.out
  · have HC : Hid ((0 : Int) = didV l ⟨1, nm, tn, da⟩) := hide (by rw [HDV.out, qf]; rfl)
    go_wp2
    go_ret
    exact HEN.out _ HC.out
set_option maxHeartbeats 4000000 in
theorem did_ren (base m N : Nat) (l : List Fl) (β : ByteArray → Bd) (nm tn da : ByteArray) (w : World) (hs : SmO ⟨2, nm, tn, da⟩) (hN : N ≤ 10000) (hz : datL l ≤ 400000) (hz2 : datL (doL l ⟨2, nm, tn, da⟩).1 ≤ 1000000000) (h : Shelf base m l β N w) (hf : formB ⟨2, nm, tn, da⟩ = true) :
    Calls Try.prog 20 #[.map (some m), .agg #[.int .i64 2, .string nm, .string tn, .string da]] w fun e w' => DidEnd base m N l ⟨2, nm, tn, da⟩ w e w' := by
  have HH : Hid _ := hide h
  have HBL : Hid _ := hide h.base_le
  have HB0 : Hid (Below w.heap.size w (w.alloc (.cells #[.int .i64 2, .string nm, .string tn, .string da] 36))) := hide (below_alloc (Below.refl _ _) _)
  have HOP := opOf_any ⟨2, nm, tn, da⟩ (w.alloc (.cells #[.int .i64 2, .string nm, .string tn, .string da] 36)) hs
  obtain ⟨s1, s2, s3⟩ := hs
  simp only at s1 s2 s3
  rw [hf] at HOP
  have HO : Hid _ := hide HOP
  have HF : Hid _ := hide hf
  clear HOP h hf
  go_enter Try.func20, Try.ntmps20
  go_wp2_with fail
  refine HO.out.mono ?_
  rintro e w1 ⟨rfl, hb1⟩
  have HB1 : Hid _ := hide (below_trans HB0.out hb1)
  have HS1 : Hid _ := hide (HH.out.below HB1.out)
  clear hb1
  have eo : opV ⟨2, nm, tn, da⟩ = .iface 98 (.agg #[.string nm, .string tn]) := rfl
  rw [eo]
  go_wp2_with fail
  refine upon_invoke 113 #[.agg #[.string nm, .string tn], .map (some m)] w1 (by kernel_rfl) ?_
  rw [Oper.upon_enter]
  refine (renFinds_any base m N l β nm tn w1 (by omega) HS1.out).mono ?_
  rintro e w2 ⟨rfl, hb2⟩
  have HB2 : Hid _ := hide (below_trans HB1.out hb2)
  have HS2 : Hid _ := hide (HS1.out.below hb2)
  clear hb2
  cases hh : hasN l nm
  · have HEN : Hid (DidEnd base m N l ⟨2, nm, tn, da⟩ w (.returned (.int .i64 3)) w2) := hide ⟨by unfold didV; rw [HF.out, do_ren, hh]; rfl, HB2.out.mono HBL.out, fun _ q => by rw [do_ren, hh] at q; cases q⟩
    go_wp2
    go_ret
    exact HEN.out
  · skip
    go_wp2_with fail
    refine upon_invoke 112 #[.agg #[.string nm, .string tn], .map (some m)] w2 (by kernel_rfl) ?_
    rw [Oper.upon_enter]
    refine (renDo_any base m N l β nm tn w2 (by omega) (by omega) (by omega) hh HS2.out).mono ?_
    rintro e w3 ⟨rfl, hb3, β3, hsh3⟩
    have HB3 : Hid (Below base w w3) := hide ((HB2.out.mono HBL.out).trans hb3)
    have HS3 : Hid (Shelf base m (doL l ⟨2, nm, tn, da⟩).1 β3 (N + 1) w3) := hide (by rw [do_ren, hh, if_pos rfl]; exact hsh3)
    clear hb3 hsh3
    go_wp2_with fail
    refine (fits_any base m (N + 1) _ β3 w3 hz2 HS3.out).mono ?_
    rintro e w4 ⟨rfl, hb4⟩
    have HB4 : Hid (Below base w w4) := hide (HB3.out.trans (hb4.mono (Nat.le_trans HBL.out HB3.out.size)))
    have HS4 : Hid _ := hide (HS3.out.below hb4)
    clear hb4
    have HDV : Hid (didV l ⟨2, nm, tn, da⟩ = if fitB (doL l ⟨2, nm, tn, da⟩).1 then 0 else 4) := hide (by unfold didV; rw [HF.out, do_ren, hh, if_pos rfl]; rfl)
    have HEN : Hid (∀ c : Int, c = didV l ⟨2, nm, tn, da⟩ → DidEnd base m N l ⟨2, nm, tn, da⟩ w (.returned (.int .i64 c)) w4) := hide (fun c hc => ⟨by rw [hc], HB4.out, fun _ _ => ⟨β3, HS4.out⟩⟩)
    generalize (doL l ⟨2, nm, tn, da⟩).1 = l2 at *
    cases qf : fitB l2
    · have HC : Hid ((4 : Int) = didV l ⟨2, nm, tn, da⟩) := hide (by rw [HDV.out, qf]; rfl)
      go_wp2
      go_ret
      exact HEN.out _ HC.out
    · have HC : Hid ((0 : Int) = didV l ⟨2, nm, tn, da⟩) := hide (by rw [HDV.out, qf]; rfl)
      go_wp2
      go_ret
      exact HEN.out _ HC.out
set_option maxHeartbeats 4000000 in
theorem did_rem (base m N : Nat) (l : List Fl) (β : ByteArray → Bd) (nm tn da : ByteArray) (w : World) (hs : SmO ⟨3, nm, tn, da⟩) (hN : N ≤ 10000) (hz : datL l ≤ 400000) (hz2 : datL (doL l ⟨3, nm, tn, da⟩).1 ≤ 1000000000) (h : Shelf base m l β N w) (hf : formB ⟨3, nm, tn, da⟩ = true) :
    Calls Try.prog 20 #[.map (some m), .agg #[.int .i64 3, .string nm, .string tn, .string da]] w fun e w' => DidEnd base m N l ⟨3, nm, tn, da⟩ w e w' := by
  have HH : Hid _ := hide h
  have HBL : Hid _ := hide h.base_le
  have HB0 : Hid (Below w.heap.size w (w.alloc (.cells #[.int .i64 3, .string nm, .string tn, .string da] 36))) := hide (below_alloc (Below.refl _ _) _)
  have HOP := opOf_any ⟨3, nm, tn, da⟩ (w.alloc (.cells #[.int .i64 3, .string nm, .string tn, .string da] 36)) hs
  obtain ⟨s1, s2, s3⟩ := hs
  simp only at s1 s2 s3
  rw [hf] at HOP
  have HO : Hid _ := hide HOP
  have HF : Hid _ := hide hf
  clear HOP h hf
  go_enter Try.func20, Try.ntmps20
  go_wp2_with fail
  refine HO.out.mono ?_
  rintro e w1 ⟨rfl, hb1⟩
  have HB1 : Hid _ := hide (below_trans HB0.out hb1)
  have HS1 : Hid _ := hide (HH.out.below HB1.out)
  clear hb1
  have eo : opV ⟨3, nm, tn, da⟩ = .iface 100 (.agg #[.string nm]) := rfl
  rw [eo]
  go_wp2_with fail
  refine upon_invoke 119 #[.agg #[.string nm], .map (some m)] w1 (by kernel_rfl) ?_
  rw [Oper.upon_enter]
  refine (remFinds_any base m N l β nm w1 (by omega) HS1.out).mono ?_
  rintro e w2 ⟨rfl, hb2⟩
  have HB2 : Hid _ := hide (below_trans HB1.out hb2)
  have HS2 : Hid _ := hide (HS1.out.below hb2)
  clear hb2
  cases hh : hasN l nm
  · have HEN : Hid (DidEnd base m N l ⟨3, nm, tn, da⟩ w (.returned (.int .i64 3)) w2) := hide ⟨by unfold didV; rw [HF.out, do_rem, hh]; rfl, HB2.out.mono HBL.out, fun _ q => by rw [do_rem, hh] at q; cases q⟩
    go_wp2
    go_ret
    exact HEN.out
  · skip
    go_wp2_with fail
    refine upon_invoke 118 #[.agg #[.string nm], .map (some m)] w2 (by kernel_rfl) ?_
    rw [Oper.upon_enter]
    refine (remDo_any base m N l β nm w2 (by omega) HS2.out).mono ?_
    rintro e w3 ⟨rfl, hb3, β3, hsh3⟩
    have HB3 : Hid (Below base w w3) := hide ((HB2.out.mono HBL.out).trans hb3)
    have HS3 : Hid (Shelf base m (doL l ⟨3, nm, tn, da⟩).1 β3 (N + 1) w3) := hide (by rw [do_rem, hh, if_pos rfl]; exact hsh3.mono (by omega))
    clear hb3 hsh3
    go_wp2_with fail
    refine (fits_any base m (N + 1) _ β3 w3 hz2 HS3.out).mono ?_
    rintro e w4 ⟨rfl, hb4⟩
    have HB4 : Hid (Below base w w4) := hide (HB3.out.trans (hb4.mono (Nat.le_trans HBL.out HB3.out.size)))
    have HS4 : Hid _ := hide (HS3.out.below hb4)
    clear hb4
    have HDV : Hid (didV l ⟨3, nm, tn, da⟩ = if fitB (doL l ⟨3, nm, tn, da⟩).1 then 0 else 4) := hide (by unfold didV; rw [HF.out, do_rem, hh, if_pos rfl]; rfl)
    have HEN : Hid (∀ c : Int, c = didV l ⟨3, nm, tn, da⟩ → DidEnd base m N l ⟨3, nm, tn, da⟩ w (.returned (.int .i64 c)) w4) := hide (fun c hc => ⟨by rw [hc], HB4.out, fun _ _ => ⟨β3, HS4.out⟩⟩)
    generalize (doL l ⟨3, nm, tn, da⟩).1 = l2 at *
    cases qf : fitB l2
    · have HC : Hid ((4 : Int) = didV l ⟨3, nm, tn, da⟩) := hide (by rw [HDV.out, qf]; rfl)
      go_wp2
      go_ret
      exact HEN.out _ HC.out
    · have HC : Hid ((0 : Int) = didV l ⟨3, nm, tn, da⟩) := hide (by rw [HDV.out, qf]; rfl)
      go_wp2
      go_ret
      exact HEN.out _ HC.out
set_option maxHeartbeats 1000000 in
theorem did_any (base m N : Nat) (l : List Fl) (β : ByteArray → Bd) (o : Dp) (w : World) (hs : SmO o) (hN : N ≤ 10000) (hz : datL l ≤ 400000) (hz2 : datL (doL l o).1 ≤ 1000000000) (h : Shelf base m l β N w) :
    Calls Try.prog 20 #[.map (some m), .agg #[.int .i64 o.kind, .string o.nm, .string o.tn, .string o.da]] w fun e w' => DidEnd base m N l o w e w' := by
  cases hf : formB o with
  | true =>
    obtain ⟨kind, nm, tn, da⟩ := o
    rcases kind_of hf with k | k | k
    · simp only at k; subst k; exact did_app base m N l β nm tn da w hs hN hz hz2 h hf
    · simp only at k; subst k; exact did_ren base m N l β nm tn da w hs hN hz hz2 h hf
    · simp only at k; subst k; exact did_rem base m N l β nm tn da w hs hN hz hz2 h hf
  | false =>
    have HBL : Hid _ := hide h.base_le
    have HB0 : Hid (Below w.heap.size w (w.alloc (.cells #[.int .i64 o.kind, .string o.nm, .string o.tn, .string o.da] 36))) := hide (below_alloc (Below.refl _ _) _)
    have HOP := opOf_any o (w.alloc (.cells #[.int .i64 o.kind, .string o.nm, .string o.tn, .string o.da] 36)) hs
    rw [hf] at HOP
    have HO : Hid _ := hide HOP
    have HF : Hid _ := hide hf
    clear HOP h hf
    go_enter Try.func20, Try.ntmps20
    go_wp2_with fail
    refine HO.out.mono ?_
    rintro e w1 ⟨rfl, hb1⟩
    have HEN : Hid (DidEnd base m N l o w (.returned (.int .i64 2)) w1) := hide ⟨by unfold didV; rw [HF.out]; rfl, (below_trans HB0.out hb1).mono HBL.out, fun q => by rw [HF.out] at q; cases q⟩
    clear hb1
    generalize opV o = ov at *
    go_wp2
    go_ret
    exact HEN.out
end Go.Proofs.Ytiilkkdbifhojaa
