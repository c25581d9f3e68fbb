/- The contracts of the model's l8Form, l8Do and DiskOk. -/
import Derived.Test.YtiilkkdbifhojaaDkS3
import Derived.Deep.RegionHeld
namespace Go.Proofs.Ytiilkkdbifhojaa
open Go.ChangeShapes Go.WideShapes Go.ChangeAt Go.RowKit
set_option linter.unusedVariables false
set_option maxRecDepth 100000
set_option maxHeartbeats 4000000 in
theorem l8Form_any (o : Dp) (w : World) (hs : SmO o) :
    Calls Try.prog 25 #[.agg #[.int .i64 o.kind, .string o.nm, .string o.tn, .string o.da]] w fun e w' => e = .returned (.bool (formB o)) ∧ Below w.heap.size w w' := by
  obtain ⟨s1, s2, s3⟩ := hs
  cases q0 : inB 1 3 o.kind
  · skip
    have HR : Hid (formB o = _) := hide (by unfold formB; rw [q0])
    go_enter Try.func25, Try.ntmps25
    go_wp2_with (first | (go_at_call 50; refine (l1In_any _ _ _ _).mono ?_; rintro e w' ⟨rfl, hw'⟩; have hw'' := hw'.symm; subst hw'') | (go_at_call 46; refine (l8Name_any _ _ (by omega)).mono ?_; rintro e w' ⟨rfl, hw'⟩; have hw'' := hw'.symm; subst hw'') | fail)
    go_ret
    exact ⟨by rw [HR.out]; rfl, below_alloc (Below.refl _ _) _⟩
  · skip
    cases q1 : nmB o.nm
    · skip
      have HR : Hid (formB o = _) := hide (by unfold formB; rw [q0, q1])
      go_enter Try.func25, Try.ntmps25
      go_wp2_with (first | (go_at_call 50; refine (l1In_any _ _ _ _).mono ?_; rintro e w' ⟨rfl, hw'⟩; have hw'' := hw'.symm; subst hw'') | (go_at_call 46; refine (l8Name_any _ _ (by omega)).mono ?_; rintro e w' ⟨rfl, hw'⟩; have hw'' := hw'.symm; subst hw'') | fail)
      go_ret
      exact ⟨by rw [HR.out]; rfl, below_alloc (Below.refl _ _) _⟩
    · skip
      cases q2 : (o.kind == 2)
      · skip
        cases q5 : o.tn.toList.isEmpty
        · skip
          have HR : Hid (formB o = _) := hide (by unfold formB; rw [q0, q1, q2, show emB o.tn = _ from q5])
          go_enter Try.func25, Try.ntmps25
          go_wp2_with (first | (go_at_call 50; refine (l1In_any _ _ _ _).mono ?_; rintro e w' ⟨rfl, hw'⟩; have hw'' := hw'.symm; subst hw'') | (go_at_call 46; refine (l8Name_any _ _ (by omega)).mono ?_; rintro e w' ⟨rfl, hw'⟩; have hw'' := hw'.symm; subst hw'') | fail)
          go_ret
          exact ⟨by rw [HR.out]; rfl, below_alloc (Below.refl _ _) _⟩
        · skip
          cases q6 : (o.kind == 1)
          · skip
            cases q4 : o.da.toList.isEmpty
            · skip
              have HR : Hid (formB o = _) := hide (by unfold formB; rw [q0, q1, q2, show emB o.tn = _ from q5, q6, show emB o.da = _ from q4])
              go_enter Try.func25, Try.ntmps25
              go_wp2_with (first | (go_at_call 50; refine (l1In_any _ _ _ _).mono ?_; rintro e w' ⟨rfl, hw'⟩; have hw'' := hw'.symm; subst hw'') | (go_at_call 46; refine (l8Name_any _ _ (by omega)).mono ?_; rintro e w' ⟨rfl, hw'⟩; have hw'' := hw'.symm; subst hw'') | fail)
              go_ret
              exact ⟨by rw [HR.out]; rfl, below_alloc (Below.refl _ _) _⟩
            · skip
              have HR : Hid (formB o = _) := hide (by unfold formB; rw [q0, q1, q2, show emB o.tn = _ from q5, q6, show emB o.da = _ from q4])
              go_enter Try.func25, Try.ntmps25
              go_wp2_with (first | (go_at_call 50; refine (l1In_any _ _ _ _).mono ?_; rintro e w' ⟨rfl, hw'⟩; have hw'' := hw'.symm; subst hw'') | (go_at_call 46; refine (l8Name_any _ _ (by omega)).mono ?_; rintro e w' ⟨rfl, hw'⟩; have hw'' := hw'.symm; subst hw'') | fail)
              go_ret
              exact ⟨by rw [HR.out]; rfl, below_alloc (Below.refl _ _) _⟩
          · skip
            have HR : Hid (formB o = _) := hide (by unfold formB; rw [q0, q1, q2, show emB o.tn = _ from q5, q6])
            go_enter Try.func25, Try.ntmps25
            go_wp2_with (first | (go_at_call 50; refine (l1In_any _ _ _ _).mono ?_; rintro e w' ⟨rfl, hw'⟩; have hw'' := hw'.symm; subst hw'') | (go_at_call 46; refine (l8Name_any _ _ (by omega)).mono ?_; rintro e w' ⟨rfl, hw'⟩; have hw'' := hw'.symm; subst hw'') | fail)
            go_ret
            exact ⟨by rw [HR.out]; rfl, below_alloc (Below.refl _ _) _⟩
      · skip
        cases q3 : nmB o.tn
        · skip
          have HR : Hid (formB o = _) := hide (by unfold formB; rw [q0, q1, q2, q3])
          go_enter Try.func25, Try.ntmps25
          go_wp2_with (first | (go_at_call 50; refine (l1In_any _ _ _ _).mono ?_; rintro e w' ⟨rfl, hw'⟩; have hw'' := hw'.symm; subst hw'') | (go_at_call 46; refine (l8Name_any _ _ (by omega)).mono ?_; rintro e w' ⟨rfl, hw'⟩; have hw'' := hw'.symm; subst hw'') | fail)
          go_ret
          exact ⟨by rw [HR.out]; rfl, below_alloc (Below.refl _ _) _⟩
        · skip
          cases q4 : o.da.toList.isEmpty
          · skip
            have HR : Hid (formB o = _) := hide (by unfold formB; rw [q0, q1, q2, q3, show emB o.da = _ from q4])
            go_enter Try.func25, Try.ntmps25
            go_wp2_with (first | (go_at_call 50; refine (l1In_any _ _ _ _).mono ?_; rintro e w' ⟨rfl, hw'⟩; have hw'' := hw'.symm; subst hw'') | (go_at_call 46; refine (l8Name_any _ _ (by omega)).mono ?_; rintro e w' ⟨rfl, hw'⟩; have hw'' := hw'.symm; subst hw'') | fail)
            go_ret
            exact ⟨by rw [HR.out]; rfl, below_alloc (Below.refl _ _) _⟩
          · skip
            have HR : Hid (formB o = _) := hide (by unfold formB; rw [q0, q1, q2, q3, show emB o.da = _ from q4])
            go_enter Try.func25, Try.ntmps25
            go_wp2_with (first | (go_at_call 50; refine (l1In_any _ _ _ _).mono ?_; rintro e w' ⟨rfl, hw'⟩; have hw'' := hw'.symm; subst hw'') | (go_at_call 46; refine (l8Name_any _ _ (by omega)).mono ?_; rintro e w' ⟨rfl, hw'⟩; have hw'' := hw'.symm; subst hw'') | fail)
            go_ret
            exact ⟨by rw [HR.out]; rfl, below_alloc (Below.refl _ _) _⟩
theorem data_at {l : List Fl} {nm : ByteArray} {k : Nat} (h : atL l nm = some k) (hk : k < l.length) : dataL l nm = (l[k]).da := by
  unfold dataL
  rw [h]
  simp only [List.getElem?_eq_getElem hk]
def DoEnd (l : List Fl) (o : Dp) (w : World) (e : Ending) (w' : World) : Prop := Below w.heap.size w w' ∧ ∃ v, e = .returned (.tuple #[v, .bool (doL l o).2]) ∧ w'.ownsRow w.heap.size 52 2 v (doL l o).1.length ((doL l o).1.flatMap flCells)
theorem own_from {l : List Fl} {w w' : World} {base : Nat} {v : Value} (h : w'.ownsRow base 52 2 v l.length (l.flatMap flCells)) (hb : w.heap.size ≤ base) : w'.ownsRow w.heap.size 52 2 v l.length (l.flatMap flCells) := by
  obtain ⟨hl, h0 | ⟨g, cap, cur, h1, hg, r⟩⟩ := h
  · exact ⟨hl, .inl h0⟩
  · exact ⟨hl, .inr ⟨g, cap, cur, h1, Nat.le_trans hb hg, r⟩⟩
abbrev S2c (p q : Addr) (u v : Value) (W x : World) : Prop := x.cell? p = some u ∧ x.cell? q = some v ∧ Hid (Below W.heap.size W x)
theorem S2c.of {p q : Addr} {u v : Value} {W x : World} (h1 : W.cell? p = some u) (h2 : W.cell? q = some v) (b : Below W.heap.size W x) : S2c p q u v W x := ⟨below_keeps b _ _ h1, below_keeps b _ _ h2, hide b⟩
theorem S2c.on {p q : Addr} {u v : Value} {W x y : World} (h : S2c p q u v W x) (b : Below x.heap.size x y) : S2c p q u v W y := ⟨below_keeps b _ _ h.1, below_keeps b _ _ h.2.1, hide (below_trans h.2.2.out b)⟩
set_option maxHeartbeats 4000000 in
theorem l8Do_any (a : Option Addr) (l : List Fl) (cap : Nat) (o : Dp) (w : World) (hl : l.length ≤ 400) (hcap : a = none → cap = 0) (hs : SmG l) (ho : SmO o) (h : RowAt 2 flCells w a l) :
    Calls Try.prog 24 #[.slice a l.length cap, .agg #[.int .i64 o.kind, .string o.nm, .string o.tn, .string o.da]] w fun e w' => DoEnd l o w e w' := by
  have HC : Hid _ := hide h
  have HS : Hid _ := hide hs
  have HO : Hid _ := hide ho
  have HCP : Hid _ := hide hcap
  obtain ⟨s1, s2, s3⟩ := ho
  clear h hs hcap
  obtain ⟨i0, hi0, hz0, hz1, hz2⟩ := info_parts infoF
  have hu := huF
  have HB0 : Hid (Below w.heap.size w (w.alloc (.cells #[.int .i64 o.kind, .string o.nm, .string o.tn, .string o.da] 36))) := hide (below_alloc (Below.refl _ _) _)
  have HC0 : Hid (RowAt 2 flCells (w.alloc (.cells #[.int .i64 o.kind, .string o.nm, .string o.tn, .string o.da] 36)) a l) := hide (HC.out.below HB0.out)
  go_enter Try.func24, Try.ntmps24
  go_wp2_with fail
  refine (l8At_any a l cap o.nm _ (by omega) HC0.out).mono ?_
  rintro e w1 ⟨rfl, hw1⟩
  have hsz1 : w.heap.size < w1.heap.size := by rw [hw1]; simp
  have x0 : w1.cell? ⟨w.heap.size, 0, none⟩ = some (.int .i64 o.kind) := by rw [hw1]; exact World.cell?_alloc_at _ _ _ _ rfl
  have x1 : w1.cell? ⟨w.heap.size, 1, none⟩ = some (.string o.nm) := by rw [hw1]; exact World.cell?_alloc_at _ _ _ _ rfl
  have x2 : w1.cell? ⟨w.heap.size, 2, none⟩ = some (.string o.tn) := by rw [hw1]; exact World.cell?_alloc_at _ _ _ _ rfl
  have x3 : w1.cell? ⟨w.heap.size, 3, none⟩ = some (.string o.da) := by rw [hw1]; exact World.cell?_alloc_at _ _ _ _ rfl
  have HB1 : Hid (Below w.heap.size w w1) := hide (by rw [hw1]; exact HB0.out)
  have HC1 : Hid (RowAt 2 flCells w1 a l) := hide (by rw [hw1]; exact HC0.out)
  have HS1 : Hid (w.heap.size ≤ w1.heap.size) := hide (Nat.le_of_lt hsz1)
  clear hw1 HB0 HC0
  cases hat : atL l o.nm with
  | none =>
    cases q1 : (o.kind == 1)
    · have HE : Hid (doL l o = (l, false)) := hide (by simp [doL, q1, hat])
      simp only [ixV]
      go_wp2_with (first | (at_builtin; refine Shut2.mk ?_) | fail)
      refine Shut2.mk' ?_
      refine wpList_append_any rfl _ _ 24 rfl w.heap.size 52 i0 _ 2 32 hu hi0 hz0 hz1 hz2 rfl (by decide) (.slice (some ⟨w1.heap.size, 0, none⟩) 0 0) 0 [] rfl (World.ownsRow_made w1 #[] 0 HS1.out (by unfold maxLen; omega) rfl) a l.length cap (l.flatMap flCells) rfl (flat_len flCells 2 flLen l) (fun e => ⟨row_none HC1.out e, HCP.out e⟩) (RowAt.news_any flLen (by decide) (HC1.out.below (below_alloc (Below.refl _ _) _))) (fl_one l) (by unfold maxLen; omega) (by omega) (by have := HS1.out; simp; omega) ?_
      intro v2 w2 ho2 hg2 _
      have HB2 : Hid (Below w.heap.size w w2) := hide ((below_alloc HB1.out _).grown hg2 (by have := HS1.out; simp; omega) (fun j hj => by
        simp only [Value.ownBlock, Option.some.injEq] at hj
        have := HS1.out
        omega))
      have HO2 : Hid _ := hide ho2
      clear ho2 hg2
      go_wp2
      exact bodyPost_ret (v := .tuple #[v2, .bool false]) (by simp [results, Try.results24, go_sem]) rfl ⟨HB2.out, v2, by rw [HE.out], by rw [HE.out]; simpa using HO2.out⟩
    · have HE : Hid (doL l o = (putL l o.nm o.da, true)) := hide (by simp [doL, appD, q1, hat])
      simp only [ixV]
      go_wp2_with fail
      refine (l8Put_any a l cap o.nm o.da w1 (by omega) HC1.out).mono ?_
      rintro e w2 ⟨hb2, v2, rfl, ho2⟩
      have HB2 : Hid _ := hide (below_trans HB1.out hb2)
      have HO2 : Hid _ := hide (own_from ho2 HS1.out)
      clear hb2 ho2
      go_wp2
      exact bodyPost_ret (v := .tuple #[v2, .bool true]) (by simp [results, Try.results24, go_sem]) rfl ⟨HB2.out, v2, by rw [HE.out], by rw [HE.out]; exact HO2.out⟩
  | some k =>
    obtain ⟨hk, hnm⟩ := at_some hat
    have hda := data_at hat hk
    obtain ⟨b, off, rfl, hb, c0, c1⟩ := fl_row HC1.out k hk
    have hk' : (k : Int) < (l.length : Int) := by omega
    have s5 := (HS.out _ (List.getElem_mem hk)).2
    cases q1 : (o.kind == 1)
    · cases q2 : (o.kind == 2)
      · have HE : Hid (doL l o = (cutL l o.nm, true)) := hide (by simp [doL, q1, q2, hat])
        simp only [ixV]
        go_wp2_with fail
        refine (l8Cut_any _ l cap o.nm w1 (by omega) HC1.out).mono ?_
        rintro e w2 ⟨hb2, v2, rfl, ho2⟩
        have y0 : w2.cell? ⟨w.heap.size, 0, none⟩ = some (.int .i64 o.kind) := (hb2.cell hsz1).trans x0
        have hsz2 : w.heap.size < w2.heap.size := Nat.lt_of_lt_of_le hsz1 hb2.size
        have HB2 : Hid _ := hide (below_trans HB1.out hb2)
        have HO2 : Hid _ := hide (own_from ho2 HS1.out)
        clear hb2 ho2
        go_wp2
        exact bodyPost_ret (v := .tuple #[v2, .bool true]) (by simp [results, Try.results24, go_sem]) rfl ⟨HB2.out, v2, by rw [HE.out], by rw [HE.out]; exact HO2.out⟩
      · have HE : Hid (doL l o = (putL (cutL l o.nm) o.tn (l[k]).da, true)) := hide (by simp [doL, q1, q2, hat, hda])
        simp only [ixV]
        go_wp2_with fail
        refine (l8Cut_any _ l cap o.nm w1 (by omega) HC1.out).mono ?_
        rintro e w2 ⟨hb2, v2, rfl, ho2⟩
        have y0 : w2.cell? ⟨w.heap.size, 0, none⟩ = some (.int .i64 o.kind) := (hb2.cell hsz1).trans x0
        have y2 : w2.cell? ⟨w.heap.size, 2, none⟩ = some (.string o.tn) := (hb2.cell hsz1).trans x2
        have d1 : w2.cell? ⟨b, off + k * 2 + 1, none⟩ = some (.string (l[k]).da) := (hb2.cell hb).trans c1
        have hb' : b < w2.heap.size := Nat.lt_of_lt_of_le hb hb2.size
        have hsz2 : w.heap.size < w2.heap.size := Nat.lt_of_lt_of_le hsz1 hb2.size
        obtain ⟨a2, c2, rfl, hr2, _⟩ := own_read ho2
        have HB2 : Hid _ := hide (below_trans HB1.out hb2)
        have HR2 : Hid _ := hide hr2
        have HCL : Hid ((cutL l o.nm).length ≤ 400) := hide (Nat.le_trans (cutL_len l o.nm) hl)
        have HWS : Hid (w.heap.size ≤ w2.heap.size) := hide (Nat.le_of_lt hsz2)
        clear hb2 ho2 hr2
        have HPX : Hid (∀ x, S2c ⟨w.heap.size, 2, none⟩ ⟨b, off + k * 2 + 1, none⟩ (.string o.tn) (.string (l[k]).da) w2 x → Calls Try.prog 48 #[.slice a2 (cutL l o.nm).length c2, .string o.tn, .string (l[k]).da] x fun e w' => NewF (putL (cutL l o.nm) o.tn (l[k]).da) x e w') := hide (fun x hx => l8Put_any a2 (cutL l o.nm) c2 o.tn (l[k]).da x (by have := HCL.out; omega) (HR2.out.below hx.2.2.out))
        go_wp2_with fail
        go_region_held (fun x => x.cell? ⟨w.heap.size, 2, none⟩ = some (.string o.tn) ∧ x.cell? ⟨b, off + k * 2 + 1, none⟩ = some (.string (l[k]).da) ∧ Hid (Below w2.heap.size w2 x))
          (first | with_reducible exact S2c.of y2 d1 (Below.refl _ _).drew | with_reducible exact S2c.on (by assumption) (by assumption) | with_reducible assumption)
          (first | (go_at_call 48; refine (HPX.out _ (by assumption)).mono ?_; rintro e w3 ⟨hb3, v3, rfl, ho3⟩))
        have HB3 : Hid (Below w2.heap.size w2 w3) := (by assumption : S2c ⟨w.heap.size, 2, none⟩ ⟨b, off + k * 2 + 1, none⟩ (.string o.tn) (.string (l[k]).da) w2 w3).2.2
        have HO3 : Hid (w3.ownsRow w.heap.size 52 2 v3 (putL (cutL l o.nm) o.tn (l[k]).da).length ((putL (cutL l o.nm) o.tn (l[k]).da).flatMap flCells)) := hide (own_from ho3 HWS.out)
        have HB4 : Hid (Below w.heap.size w w3) := hide (below_trans HB2.out HB3.out)
        clear hb3 ho3
        go_wp2
        exact bodyPost_ret (v := .tuple #[v3, .bool true]) (by simp [results, Try.results24, go_sem]) rfl ⟨HB4.out, v3, by rw [HE.out], by rw [HE.out]; exact HO3.out⟩
    · have HE : Hid (doL l o = (putL l o.nm ((l[k]).da ++ o.da), true)) := hide (by simp [doL, appD, q1, hat, hda])
      simp only [ixV]
      go_wp2_with fail
      refine (l8Put_any _ l cap o.nm ((l[k]).da ++ o.da) w1 (by omega) HC1.out).mono ?_
      rintro e w2 ⟨hb2, v2, rfl, ho2⟩
      have HB2 : Hid _ := hide (below_trans HB1.out hb2)
      have HO2 : Hid _ := hide (own_from ho2 HS1.out)
      clear hb2 ho2
      go_wp2
      exact bodyPost_ret (v := .tuple #[v2, .bool true]) (by simp [results, Try.results24, go_sem]) rfl ⟨HB2.out, v2, by rw [HE.out], by rw [HE.out]; exact HO2.out⟩
end Go.Proofs.Ytiilkkdbifhojaa
