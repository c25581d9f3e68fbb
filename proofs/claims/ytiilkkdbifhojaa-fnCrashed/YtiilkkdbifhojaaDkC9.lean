/- The program's keptOps. -/
import Derived.Test.YtiilkkdbifhojaaDkC8
import Derived.Test.YtiilkkdbifhojaaDkY0
namespace Go.Proofs.Ytiilkkdbifhojaa
open Go.ChangeShapes Go.WideShapes Go.ChangeAt Go.RowKit Go.Maps
set_option linter.unusedVariables false
set_option maxRecDepth 100000
def opCells (o : Dp) : List Value := [opV o]
theorem opLen (x : Dp) : (opCells x).length = 1 := rfl
theorem op_one (o : Dp) : (opV o).oneCell' = true := by
  unfold opV
  split
  · rfl
  · split
    · rfl
    · split <;> rfl
theorem op_iface {o : Dp} (h : formB o = true) : ∃ t x, opV o = .iface t x := by
  rcases kind_of h with k | k | k <;> simp [opV, k]
theorem infoDO : (Try.prog.info? 61).map (fun i => (i.zero, i.size, i.bytes)) = some (some .nilIface, 1, 16) := by kernel_rfl
theorem huDO : Try.prog.underlying 58 = some (.slice 61) := by kernel_rfl
/-- the operations at the places, none torn -/
def crsU (ops : List Dp) (keep : List Int) : List Dp := keep.map fun n => (ops[n.toNat]?).getD ⟨0, ⟨#[]⟩, ⟨#[]⟩, ⟨#[]⟩⟩
theorem crsU_len (ops : List Dp) (keep : List Int) : (crsU ops keep).length = keep.length := by simp [crsU]
theorem crsU_at {ops : List Dp} {keep : List Int} {k n : Nat} (hk : k < keep.length) (hn : keep[k] = (n : Int)) (hno : n < ops.length) : (crsU ops keep)[k]? = some ops[n] := by
  simp [crsU, List.getElem?_eq_getElem hk, hn, List.getElem?_eq_getElem hno]
theorem crsU_next {ops : List Dp} {keep : List Int} {k n : Nat} (hk : k < keep.length) (hn : keep[k] = (n : Int)) (hno : n < ops.length) : (crsU ops keep).take (k + 1) = (crsU ops keep).take k ++ [ops[n]] := by
  rw [List.take_add_one, crsU_at hk hn hno]
  rfl
theorem crsO_set {ops : List Dp} {keep : List Int} {torn : Int} {m q : Nat} (hm : keep.length = m + 1) (hk : m < keep.length) (hq : keep[m] = (q : Int)) (hqo : q < ops.length) (hp : placesB keep ops.length = true) : crsO ops keep torn = (crsU ops keep).set m (tornO torn ops[q]) := by
  apply List.ext_getElem?
  intro j
  rcases Nat.lt_or_ge j keep.length with hj | hj
  · obtain ⟨n, hn, hno⟩ := pl_in hp hj
    rw [crs_at hj hn hno]
    by_cases e : j = m
    · subst e
      have en : n = q := by
        have : (n : Int) = (q : Int) := hn.symm.trans hq
        omega
      subst en
      rw [if_pos hm.symm, List.getElem?_set_self (by rw [crsU_len]; exact hj)]
    · rw [if_neg (by omega), List.getElem?_set_ne (by omega), crsU_at hj hn hno]
  · rw [List.getElem?_eq_none (by rw [crs_len]; exact hj), List.getElem?_eq_none (by rw [List.length_set, crsU_len]; exact hj)]
theorem own_op {w : World} {g : Nat} {a : Option Addr} {cap : Nat} {l : List Dp} (h : OwnRow 1 opCells w g a cap l) (i : Nat) (hi : i < l.length) : a = some ⟨g, 0, none⟩ ∧ g < w.heap.size ∧ w.cell? ⟨g, i, none⟩ = some (opV l[i]) ∧ w.frozen? ⟨g, i, none⟩ = false := by
  obtain ⟨b, off, e, hb, hc⟩ := h.rows i hi
  obtain ⟨e2, hf⟩ := h.own (by omega)
  have e' := e
  rw [e2] at e'
  simp only [Option.some.injEq, Addr.mk.injEq, and_true] at e'
  obtain ⟨rfl, rfl⟩ := e'
  exact ⟨e2, hb, by have := hc 0 (opV l[i]) rfl; simpa using this, hf i⟩
def NewOps (l : List Dp) (w : World) (e : Ending) (w' : World) : Prop := Below w.heap.size w w' ∧ ∃ g a cap, w.heap.size ≤ g ∧ e = .returned (.slice a l.length cap) ∧ OwnRow 1 opCells w' g a cap l
theorem kept_end {ops : List Dp} {keep : List Int} {torn : Int} {m q g vc : Nat} {va : Option Addr} {w wr w2 : World} {u : Value} (hm : keep.length = m + 1) (hk : m < keep.length) (hq : keep[m] = (q : Int)) (hqo : q < ops.length) (hp : placesB keep ops.length = true) (how : OwnRow 1 opCells wr g va vc (crsU ops keep)) (hb : Below w.heap.size w wr) (hg : w.heap.size ≤ g) (hb2 : Below wr.heap.size wr w2) (hu : u = opV (tornO torn ops[q])) :
    NewOps (crsO ops keep torn) w (.returned (.slice va keep.length vc)) (w2.setCell ⟨g, m, none⟩ u) := by
  refine ⟨(below_trans hb hb2).setCell (p := ⟨g, m, none⟩) hg _, g, va, vc, hg, by rw [crs_len], ?_⟩
  have h1 := (how.below hb2).set (l' := crsO ops keep torn) (i := m) (r := 0) (u := u) opLen (by rw [crsU_len]; exact hk) (by decide) (by rw [crs_len, crsU_len]) (fun k hk1 hk2 r' v hv => by
    have er : r' = 0 := by
      have := (List.getElem?_eq_some_iff.1 hv).1
      rw [opLen] at this
      omega
    subst er
    have e1 : (crsO ops keep torn)[k] = if m = k then tornO torn ops[q] else (crsU ops keep)[k] := by
      have := congrArg (fun l => l[k]?) (crsO_set (torn := torn) hm hk hq hqo hp)
      simp only [List.getElem?_set, List.getElem?_eq_getElem hk1, List.getElem?_eq_getElem hk2] at this
      split at this
      · rename_i e
        rw [if_pos e]
        split at this
        · simpa using this
        · cases this
      · rename_i e
        rw [if_neg e]
        simpa using this
    by_cases e : m = k
    · left
      rw [e1, if_pos e] at hv
      simp only [opCells, List.getElem?_cons_zero, Option.some.injEq] at hv
      exact ⟨e.symm, rfl, by rw [hu, hv]⟩
    · right
      rw [e1, if_neg e] at hv
      exact ⟨fun z => e z.1.symm, hv⟩)
  simpa using h1
theorem torn_app {n : Nat} {nm tn da : ByteArray} : Value.iface 96 (.agg #[.string nm, .string (cutD n da)]) = opV (tornO (n : Int) ⟨1, nm, tn, da⟩) := by
  unfold tornO cutD
  by_cases h : n < da.size
  · rw [if_pos h, if_pos ⟨rfl, by show (n : Int) < (da.size : Int); omega⟩]
    simp [opV]
  · rw [if_neg h, if_neg (fun z => h (by have := z.2; simp only at this; omega))]
    rfl
theorem torn_other {n : Int} {o : Dp} (h : o.kind ≠ 1) : opV o = opV (tornO n o) := by
  unfold tornO
  rw [if_neg (fun z => h z.1)]
set_option maxHeartbeats 8000000 in
theorem keptOps_any (oa ka : Option Addr) (oc kc : Nat) (ops : List Dp) (keep : List Int) (n : Nat) (w : World) (hk : keep.length ≤ 200) (hol : ops.length ≤ 200) (hpl : placesB keep ops.length = true) (hsm : ∀ o ∈ ops, SmO o) (hfm : ∀ o ∈ ops, formB o = true) (ho : RowAt 4 dpCells w oa ops) (hp : RowAt 1 i64Cells w ka keep) :
    Calls Try.prog 28 #[.slice oa ops.length oc, .slice ka keep.length kc, .int .i64 (n : Int)] w fun e w' => NewOps (crsO ops keep (n : Int)) w e w' := by
  have HO : Hid _ := hide ho
  have HP : Hid _ := hide hp
  have HPL : Hid _ := hide hpl
  have HSM : Hid _ := hide hsm
  have HFM : Hid _ := hide hfm
  clear ho hp hpl hsm hfm
  obtain ⟨j0, hj0, hy0, hy1, hy2⟩ := info_parts infoDO
  have hv := huDO
  go_enter Try.func28, Try.ntmps28
  go_wp2
  go_loopw [7, 15] (fun v i wr => ∃ k : Nat, k ≤ keep.length ∧ i = .int .i64 (k : Int) ∧ Hid (Below w.heap.size w wr) ∧ Hid (wr.ownsRow w.heap.size 61 1 v k (((crsU ops keep).take k).flatMap opCells))) (fun v i wr => keep.length - (intOf i).toNat)
  case atStart => exact ⟨0, Nat.zero_le _, rfl, hide (Below.refl _ _), hide ⟨by simp, .inl ⟨rfl, rfl⟩⟩⟩
  case round =>
    obtain ⟨k, hk1, rfl, HX, HR⟩ := hrel
    obtain ⟨va, vc, rfl⟩ := row_shape HR.out
    by_cases hlt : k < keep.length
    · have hlt' : (k : Int) < (keep.length : Int) := by omega
      obtain ⟨b, off, rfl, hb, c0⟩ := pl_row (HP.out.below HX.out) k hlt
      obtain ⟨m, hm, hmo⟩ := pl_in HPL.out hlt
      have hmo' : (m : Int) < (ops.length : Int) := by omega
      obtain ⟨b2, off2, rfl, hb2, q0, q1, q2, q3⟩ := dp_row (HO.out.below HX.out) m hmo
      rw [hm] at c0
      have HNX : Hid _ := hide (crsU_next hlt hm hmo)
      have HSO : Hid (SmO ops[m]) := hide (HSM.out _ (List.getElem_mem hmo))
      clear hm hb hb2
      go_wp2_with fail
      refine (opOf_any ops[m] wr HSO.out).mono ?_
      rintro e w4 ⟨rfl, hb4⟩
      have HX4 : Hid _ := hide (below_trans HX.out hb4)
      have HR4 : Hid _ := hide (own_keep HR.out hb4)
      clear hb4 HX HR c0 q0 q1 q2 q3
      obtain ⟨ot, ox, hov⟩ := op_iface (HFM.out _ (List.getElem_mem hmo))
      rw [hov]
      have HVV : Hid _ := hide hov
      clear hov
      generalize formB ops[m] = fb at *
      go_wp2_with (first | (at_builtin; refine Shut2.mk ?_) | fail)
      refine Shut2.mk' ?_
      refine wpList_append_own_at _ rfl _ _ 58 rfl w.heap.size 61 j0 _ 1 16 hv hj0 hy0 hy1 hy2 rfl (by decide) (.slice va k vc) k (((crsU ops keep).take k).flatMap opCells) rfl ?own ⟨w4.heap.size, 0, none⟩ 1 1 [.iface ot ox] rfl rfl ?news (by simp [Value.oneCell']) (by unfold maxLen; omega) (by omega) ?base ?_
      case own => exact own_keep HR4.out (below_alloc (Below.refl _ _) _)
      case news => exact news1 (World.cell?_alloc_at _ _ _ _ rfl)
      case base => have := HX4.out.size; simp; omega
      intro v6 w6 ho6 hg6 _ _
      have HR6 : Hid (w6.ownsRow w.heap.size 61 1 v6 (k + 1) (((crsU ops keep).take (k + 1)).flatMap opCells)) := hide (by
        rw [HNX.out, List.flatMap_append]
        simpa [opCells, HVV.out] using ho6)
      have HX6 : Hid (Below w.heap.size w w6) := hide ((below_alloc HX4.out _).grown hg6 (by have := HX4.out.size; simp; omega) (fun j hj => own_base HR4.out j hj))
      clear HR4 ho6 hg6 HX4
      go_wp2
      exact ⟨⟨k + 1, by omega, by go_num, HX6, HR6⟩, by simp [intOf]; omega⟩
    · have hlt' : ¬ (k : Int) < (keep.length : Int) := by omega
      have ek : k = keep.length := by omega
      subst ek
      obtain ⟨g, a, cap, hg, he, how⟩ := own_of_row opLen (l := crsU ops keep) (w := wr) (base := w.heap.size) (e := 61) (v := .slice va keep.length vc) (by
        have := HR.out
        rw [List.take_of_length_le (by rw [crsU_len]; exact Nat.le_refl _)] at this
        rw [crsU_len]; exact this)
      simp only [Value.slice.injEq] at he
      obtain ⟨rfl, -, rfl⟩ := he
      by_cases hz : keep.length = 0
      · have HE : Hid (NewOps (crsO ops keep (n : Int)) w (.returned (.slice va keep.length vc)) wr) := hide ⟨HX.out, g, va, vc, hg, by rw [crs_len], by
          have e0 : crsO ops keep (n : Int) = [] := List.eq_nil_of_length_eq_zero (by rw [crs_len]; exact hz)
          rw [e0]; exact OwnRow.nil⟩
        have hw1 : IntKind.i64.wrap ((keep.length : Int) - 1) = (keep.length : Int) - 1 := wrap_less (by omega)
        have hw2 : ¬ (0 : Int) ≤ (keep.length : Int) - 1 := by omega
        have HZ : Hid _ := hide hz
        clear how HR hz hlt'
        go_wp2
        go_ret
        exact HE.out
      · obtain ⟨m, hm⟩ : ∃ m, keep.length = m + 1 := ⟨keep.length - 1, by omega⟩
        have hmk : m < keep.length := by omega
        obtain ⟨q, hq, hqo⟩ := pl_in HPL.out hmk
        obtain ⟨e1, hgl, c0, f0⟩ := own_op how m (by rw [crsU_len]; exact hmk)
        subst e1
        have e2 : (crsU ops keep)[m]'(by rw [crsU_len]; exact hmk) = ops[q] := by
          have := crsU_at hmk hq hqo
          rw [List.getElem?_eq_getElem (by rw [crsU_len]; exact hmk)] at this
          simpa using this
        rw [e2] at c0
        have HF : Hid (formB ops[q] = true) := hide (HFM.out _ (List.getElem_mem hqo))
        have HS : Hid (SmO ops[q]) := hide (HSM.out _ (List.getElem_mem hqo))
        have HE : Hid (∀ (w2 : World) (u : Value), Below wr.heap.size wr w2 → u = opV (tornO (n : Int) ops[q]) → NewOps (crsO ops keep (n : Int)) w (.returned (.slice (some ⟨g, 0, none⟩) keep.length vc)) (w2.setCell ⟨g, m, none⟩ u)) := hide (fun w2 u hb2 hu => kept_end hm hmk hq hqo HPL.out how HX.out hg hb2 hu)
        have HC : Hid _ := hide (And.intro c0 f0)
        have hm1 : IntKind.i64.wrap ((keep.length : Int) - 1) = (m : Int) := wrap_pred hm (by omega)
        have hm2 : (m : Int) < (keep.length : Int) := by omega
        have hm3 : (0 : Int) ≤ (m : Int) := by omega
        clear e2 how HR hz hlt' hm hq
        generalize ops[q] = o at *
        obtain ⟨kind, nm, tn, da⟩ := o
        have hs := HS.out
        obtain ⟨s1, s2, s3⟩ := hs
        simp only at s1 s2 s3
        rcases kind_of HF.out with kk | kk | kk
        · simp only at kk
          subst kk
          have eo : opV ⟨1, nm, tn, da⟩ = .iface 96 (.agg #[.string nm, .string da]) := rfl
          rw [eo] at c0
          go_wp2_with fail
          refine upon_invoke 110 #[.agg #[.string nm, .string da], .int .i64 (n : Int)] wr (by kernel_rfl) ?_
          rw [Oper.upon_enter]
          refine (appTorn_any nm da n wr s3).mono ?_
          rintro e w2 ⟨rfl, hb2⟩
          have HE2 : Hid _ := hide (HE.out w2 _ hb2 torn_app)
          have d0 := below_keeps hb2 _ _ HC.out.1
          have g0 : w2.frozen? ⟨g, m, none⟩ = false := (hb2.frozen hgl).trans HC.out.2
          clear hb2 c0 f0 HE
          go_wp2
          exact bodyPost_ret (v := .slice (some ⟨g, 0, none⟩) keep.length vc) (by simp [results, Try.results28, go_sem]) rfl HE2.out
        · simp only at kk
          subst kk
          have eo : opV ⟨2, nm, tn, da⟩ = .iface 98 (.agg #[.string nm, .string tn]) := rfl
          rw [eo] at c0
          go_wp2_with fail
          refine upon_invoke 115 #[.agg #[.string nm, .string tn], .int .i64 (n : Int)] wr (by kernel_rfl) ?_
          rw [Oper.upon_enter]
          refine (renTorn_any nm tn n wr).mono ?_
          rintro e w2 ⟨rfl, hb2⟩
          have HE2 : Hid _ := hide (HE.out w2 _ hb2 (eo.symm.trans (torn_other (fun z => by cases z))))
          have d0 := below_keeps hb2 _ _ HC.out.1
          have g0 : w2.frozen? ⟨g, m, none⟩ = false := (hb2.frozen hgl).trans HC.out.2
          clear hb2 c0 f0 HE
          go_wp2
          exact bodyPost_ret (v := .slice (some ⟨g, 0, none⟩) keep.length vc) (by simp [results, Try.results28, go_sem]) rfl HE2.out
        · simp only at kk
          subst kk
          have eo : opV ⟨3, nm, tn, da⟩ = .iface 100 (.agg #[.string nm]) := rfl
          rw [eo] at c0
          go_wp2_with fail
          refine upon_invoke 121 #[.agg #[.string nm], .int .i64 (n : Int)] wr (by kernel_rfl) ?_
          rw [Oper.upon_enter]
          refine (remTorn_any nm n wr).mono ?_
          rintro e w2 ⟨rfl, hb2⟩
          have HE2 : Hid _ := hide (HE.out w2 _ hb2 (eo.symm.trans (torn_other (fun z => by cases z))))
          have d0 := below_keeps hb2 _ _ HC.out.1
          have g0 : w2.frozen? ⟨g, m, none⟩ = false := (hb2.frozen hgl).trans HC.out.2
          clear hb2 c0 f0 HE
          go_wp2
          exact bodyPost_ret (v := .slice (some ⟨g, 0, none⟩) keep.length vc) (by simp [results, Try.results28, go_sem]) rfl HE2.out
end Go.Proofs.Ytiilkkdbifhojaa
