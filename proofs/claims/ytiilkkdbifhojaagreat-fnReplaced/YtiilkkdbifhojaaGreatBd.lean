/- The contract of the program's shelf.files: the files of a shelf, sorted. -/
import Derived.Test.YtiilkkdbifhojaaGreatBb
import Derived.Test.YtiilkkdbifhojaaGreatLib
import Derived.Test.YtiilkkdbifhojaaGreatBc
namespace Go.Proofs.YtiilkkdbifhojaaGreat
open Go.ChangeShapes Go.WideShapes Go.ChangeAt Go.RowKit Go.Maps Go.Sort
set_option linter.unusedVariables false
set_option maxRecDepth 100000
def nmL (l : List Fl) : List (List UInt8) := l.map (fun f => f.nm.data.toList)
theorem nm_toList (s : ByteArray) : s.toList = s.data.toList := Lib.toList_data s
theorem keys_perm {w : World} {m n : Nat} {l : List Fl} {D : DataW Unit} (ho : w.ownsMap Tryz.prog 9 bdElem m n D) (hs : Srt l) {β : ByteArray → Bd} (hat : ∀ f ∈ l, ∀ z, D.atKey (kn f.nm) z = (β f.nm).D) (honly : ∀ kl, Maps.has D kl = true → ∃ f ∈ l, kl = kn f.nm) : (nmL l).Perm (strKeys D) := by
  obtain ⟨es, rfl, hp, _⟩ := ho.entries law9
  obtain ⟨es', e, hk⟩ := World.ownsMap.keysOf ho
  cases e
  refine perm_strKeys hp (fun p hp' => ?_) ?_ (fun x => ?_)
  · have := honly p.1 (by
      rw [has_eq, List.any_eq_true]
      exact ⟨p, hp', WideAt.sameKey_self (by
        obtain ⟨es2, e2, _, h2⟩ := ho.entries law9
        cases e2
        exact h2 p hp')⟩)
    obtain ⟨f, _, e⟩ := this
    exact ⟨_, e⟩
  · unfold nmL
    refine List.pairwise_map.2 (hs.imp fun {a b} h e => ?_)
    rw [nm_toList, nm_toList, e] at h
    exact List.lt_irrefl _ h
  · unfold nmL
    rw [List.mem_map]
    constructor
    · rintro ⟨f, hf, rfl⟩
      exact has_true_of_atKey (hat f hf)
    · intro h
      obtain ⟨f, hf, e⟩ := honly _ h
      exact ⟨f, hf, by simp only [kn, Lit.string.injEq] at e; exact e.symm⟩
theorem nmL_sorted {l : List Fl} (hs : Srt l) {ss : List (List UInt8)} (h : (nmL l).Perm ss) : ss.mergeSort (fun x y => decide (x ≤ y)) = nmL l := by
  have tr : ∀ a b c : List UInt8, leB a b = true → leB b c = true → leB a c = true := fun a b c h1 h2 => by simp only [leB, decide_eq_true_eq] at *; exact List.le_trans h1 h2
  have tot : ∀ a b : List UInt8, (leB a b || leB b a) = true := fun a b => by simp only [leB, Bool.or_eq_true, decide_eq_true_eq]; exact List.le_total a b
  refine List.Perm.eq_of_pairwise (le := fun a b => leB a b = true) (fun a b _ _ h1 h2 => ?_) (List.pairwise_mergeSort tr tot ss) ?_ ((List.mergeSort_perm ss leB).trans h.symm)
  · simp only [leB, decide_eq_true_eq] at h1 h2
    exact List.le_antisymm h1 h2
  · unfold nmL
    refine List.pairwise_map.2 (hs.imp fun {a b} h => ?_)
    simp only [leB, decide_eq_true_eq]
    rw [nm_toList, nm_toList] at h
    exact List.le_of_lt h
def nmCells (f : Fl) : List Value := [.string f.nm]
theorem nmCLen (f : Fl) : (nmCells f).length = 1 := rfl
theorem nm_enc (l : List Fl) : (nmL l).map encStr = l.flatMap nmCells := by
  induction l with
  | nil => rfl
  | cons f l ih =>
    have e : encStr f.nm.data.toList = .string f.nm := by simp [encStr]
    show encStr f.nm.data.toList :: (nmL l).map encStr = nmCells f ++ l.flatMap nmCells
    rw [ih, e]
    rfl
theorem nm_row {w : World} {a : Option Addr} {l : List Fl} (h : RowAt 1 nmCells w a l) (i : Nat) (hi : i < l.length) : ∃ b off, a = some ⟨b, off, none⟩ ∧ b < w.heap.size ∧ w.cell? ⟨b, off + i, none⟩ = some (.string l[i].nm) := by
  obtain ⟨b, off, e, hb, hc⟩ := h i hi
  exact ⟨b, off, e, hb, by simpa using hc 0 _ rfl⟩
theorem catL_data (ps : List ByteArray) : (catL ps).data.toList = (ps.map (·.data.toList)).flatten := by
  induction ps with
  | nil => rfl
  | cons x xs ih => simp [catL, ih]
theorem join_no (xs : List (List UInt8)) : Lib.join xs [] = xs.flatten := by
  cases xs with
  | nil => rfl
  | cons x r => rw [Lib.join_cons, Lib.joinTail]; simp
theorem join_is (ps : List ByteArray) : (⟨(Lib.join (ps.map (·.data.toList)) (ByteArray.mk #[]).data.toList).toArray⟩ : ByteArray) = catL ps := by
  apply ByteArray.ext
  apply Array.toList_inj.1
  rw [catL_data]
  show (Lib.join (ps.map (·.data.toList)) []).toArray.toList = _
  rw [join_no]
theorem join_any (base : Nat) (b : Bd) (w : World) (hp : b.ps.length ≤ 1000000) (hz : (catL b.ps).size ≤ 1000000000) (h : w.ownsRow base 9 1 b.v b.ps.length (strs b.ps)) :
    Calls Tryz.prog 50 #[.slice (adr b.a) b.ps.length b.c, .string ⟨#[]⟩] w fun e w' => e = .returned (.string (catL b.ps)) ∧ Below w.heap.size w w' := by
  have h' := h
  obtain ⟨_, ⟨h0, h1⟩ | ⟨g, cap, cur, h1, hbg, hg, hn, hc, hsz, ht⟩⟩ := h
  · have hps : b.ps = [] := List.eq_nil_of_length_eq_zero h1
    rw [hps]
    exact (Tryz.strings_Join_none (adr b.a) b.c ⟨#[]⟩ w).mono (fun e w' ⟨he, hw⟩ => ⟨by rw [he]; rfl, by rw [hw]; exact Below.refl _ _⟩)
  · have e1 : Value.slice (adr b.a) b.ps.length b.c = .slice (some ⟨g, 0, none⟩) b.ps.length cap := h1
    rw [e1]
    have hlen : (Lib.join (b.ps.map (·.data.toList)) (ByteArray.mk #[]).data.toList).length ≤ 140737488355328 := by
      show (Lib.join (b.ps.map (·.data.toList)) []).length ≤ _
      rw [join_no, ← catL_data, Array.length_toList]
      show (catL b.ps).size ≤ _
      omega
    have hcell : ∀ (j : Nat) x, b.ps[j]? = some x → w.cell? ⟨g, 0 + j, none⟩ = some (.string x) := fun j x hj => by
      have hj2 : (strs b.ps)[j]? = some (.string x) := by simp [strs, hj]
      rw [← ht] at hj2
      have h4 : cur.toList[j]? = some (.string x) := by
        rw [List.getElem?_take] at hj2
        split at hj2
        · exact hj2
        · cases hj2
      simp only [World.cell?, hg, Nat.zero_add]
      simpa using h4
    refine (Tryz.strings_Join g 0 cap b.ps ⟨#[]⟩ w hcell (Array.getElem?_eq_some_iff.1 hg).1 (by omega) hn hlen).mono (fun e w' ⟨he, hw⟩ => ⟨?_, hw⟩)
    rw [he, join_is]
theorem field0 (v0 v1 : Value) (w : World) : (Instr.field 83 (.agg #[v0, v1]) 0).run Tryz.prog w = .ok v0 w := by kernel_rfl
set_option maxHeartbeats 4000000 in
theorem files_any (base m N : Nat) (l : List Fl) (β : ByteArray → Bd) (w : World) (hl : l.length ≤ 1000) (hN : N ≤ 1000000) (hd : datL l ≤ 1000000000) (h : Shelf base m l β N w) :
    Calls Tryz.prog 30 #[.map (some m)] w fun e w' => NewF l w e w' := by
  have HH : Hid _ := hide h
  obtain ⟨D, n, hn, hown, hat, honly, hsz⟩ := h.map
  have HK : Hid _ := hide (keys_perm hown h.srt hat honly)
  have HKM : Hid (Calls Tryz.prog 49 #[.map (some m)] w fun e w' => e = .returned (.func (.func 58) #[] #[.pointer (some ⟨w.heap.size, 0, none⟩)]) ∧ w' = w.alloc (.cells #[.map (some m)] 56)) := hide (callsIn_wide.1 (Tryz.maps_Keys_49 (some m) w))
  have HSO : Hid _ := hide (callsIn_wide.1 (Tryz.slices_Sorted_keys_48_49 m n D bdElem w hown (by rw [hsz]; unfold maxLen; omega) (by rw [hsz]; omega)))
  have HSR : Hid _ := hide h.srt
  clear hown hat honly hsz h
  obtain ⟨i0, hi0, hz0, hz1, hz2⟩ := info_parts infoF
  have hu := huF
  go_enter Tryz.func30, Tryz.ntmps30
  go_wp2_with fail
  refine HKM.out.mono ?_
  rintro e w1 ⟨rfl, hw1⟩
  have hw1' := hw1.symm
  subst hw1'
  go_wp2_with fail
  refine HSO.out.mono ?_
  rintro e w2 ⟨v2, ss, rfl, hperm, hrow2, _, hb2⟩
  have hml := nmL_sorted HSR.out (HK.out.trans hperm.symm)
  have hsl : ss.length = l.length := by rw [hperm.length_eq, ← HK.out.length_eq]; simp [nmL]
  rw [hml, nm_enc, hsl] at hrow2
  obtain ⟨g2, a2, c2, _, rfl, ho2⟩ := own_of_row nmCLen hrow2
  have HB2 : Hid (Below w.heap.size w w2) := hide (below_trans (below_alloc (Below.refl _ _) _) hb2)
  have HR2 : Hid _ := hide ho2.rows
  clear hperm hrow2 hb2 hml hsl ho2
  go_wp2
  go_loopw [3, 10] (fun v i wr => ∃ k : Nat, k ≤ l.length ∧ i = .int .i64 (k : Int) ∧ Hid (Below w2.heap.size w2 wr) ∧ Hid (wr.ownsRow w2.heap.size 71 2 v k ((l.take k).flatMap flCells))) (fun v i wr => l.length - (intOf i).toNat)
  case atStart => exact ⟨0, Nat.zero_le _, rfl, hide (Below.refl _ _), hide ⟨by simp, .inl ⟨rfl, rfl⟩⟩⟩
  case round =>
    obtain ⟨k, hk, rfl, HX, HO⟩ := hrel
    obtain ⟨va, vc, rfl⟩ := row_shape HO.out
    by_cases hlt : k < l.length
    · have hlt' : (k : Int) < (l.length : Int) := by omega
      obtain ⟨b, off, rfl, hb, c0⟩ := nm_row (HR2.out.below HX.out) k hlt
      have hmem : l[k] ∈ l := List.getElem_mem hlt
      have HHr : Hid _ := hide (HH.out.below (below_trans HB2.out HX.out))
      have hlk : (Instr.lookup 56 (.map (some m)) (.string (l[k]).nm) false).run Tryz.prog wr = .ok (if false then .tuple #[if hasN l (l[k]).nm then (β (l[k]).nm).V else b0.V, .bool (hasN l (l[k]).nm)] else if hasN l (l[k]).nm then (β (l[k]).nm).V else b0.V) wr := HHr.out.look (HHr.out.nms _ hmem) false 0
      rw [hasN_iff.2 ⟨l[k], hmem, rfl⟩] at hlk
      simp only [Bool.false_eq_true, if_false, if_true, Bd.V] at hlk
      have HCA : Hid (catL (β (l[k]).nm).ps = (l[k]).da) := hide (HHr.out.cat _ hmem)
      have HJ : Hid (Calls Tryz.prog 50 #[.slice (adr (β (l[k]).nm).a) (β (l[k]).nm).ps.length (β (l[k]).nm).c, .string ⟨#[]⟩] wr fun e w' => e = .returned (.string (l[k]).da) ∧ Below wr.heap.size wr w') := hide (by
        rw [← HCA.out]
        refine join_any base _ wr (Nat.le_trans (HHr.out.pcs _ hmem) hN) ?_ (HHr.out.rows _ hmem)
        rw [HCA.out]
        exact Nat.le_trans (datL_mem hmem) hd)
      have HNX : Hid _ := hide (take_next l k hlt)
      have hfd := field0 (.slice (adr (β (l[k]).nm).a) (β (l[k]).nm).ps.length (β (l[k]).nm).c) (.int .i64 ((catL (β (l[k]).nm).ps).size : Int)) wr
      go_wp2_with fail
      refine HJ.out.mono ?_
      rintro e w4 ⟨rfl, hb4⟩
      have HX4 : Hid _ := hide (below_trans HX.out hb4)
      have HO4 : Hid _ := hide (own_keep HO.out hb4)
      clear hb4 HX HO hlk hfd
      go_wp2_with (first | (at_builtin; refine Shut2.mk ?_) | fail)
      refine Shut2.mk' ?_
      refine wpList_append_own_at _ rfl _ _ 24 rfl w2.heap.size 71 i0 _ 2 32 hu hi0 hz0 hz1 hz2 rfl (by decide) (.slice va k vc) k ((l.take k).flatMap flCells) rfl ?own ⟨w4.heap.size, 0, none⟩ 1 1 [.string l[k].nm, .string l[k].da] rfl rfl ?news (by simp [Value.oneCell']) (by unfold maxLen; omega) (by omega) ?base ?_
      case own => exact own_keep HO4.out (below_alloc (Below.refl _ _) _)
      case news => exact news2 (World.cell?_alloc_at _ _ _ _ rfl) (World.cell?_alloc_at _ _ _ _ rfl)
      case base => have := HX4.out.size; simp; omega
      intro v6 w6 ho6 hg6 _ _
      have HO6 : Hid (w6.ownsRow w2.heap.size 71 2 v6 (k + 1) ((l.take (k + 1)).flatMap flCells)) := hide (by
        rw [HNX.out, List.flatMap_append]
        simpa [flCells] using ho6)
      have HX6 : Hid (Below w2.heap.size w2 w6) := hide ((below_alloc HX4.out _).grown hg6 (by have := HX4.out.size; simp; omega) (fun j hj => own_base HO4.out j hj))
      clear HO4 ho6 hg6 HX4
      go_wp2
      exact ⟨⟨k + 1, by omega, by go_num, HX6, HO6⟩, by simp [intOf]; omega⟩
    · have hlt' : ¬ (k : Int) < (l.length : Int) := by omega
      have HE : Hid (NewF l w (.returned (.slice va k vc)) wr) := hide (newF_of (below_trans HB2.out HX.out) (by
        have := HO.out
        rw [List.take_of_length_le (by omega)] at this
        have hkl : k = l.length := by omega
        rw [hkl] at this ⊢
        obtain ⟨hl', h0 | ⟨g, cap, cur, h1, hg, r⟩⟩ := this
        · exact ⟨hl', .inl h0⟩
        · exact ⟨hl', .inr ⟨g, cap, cur, h1, Nat.le_trans HB2.out.size hg, r⟩⟩))
      go_wp2
      go_ret
      exact HE.out
end Go.Proofs.YtiilkkdbifhojaaGreat
/- The contracts of the program's disk ops: right, asked, opOf. -/
namespace Go.Proofs.YtiilkkdbifhojaaGreat
open Go.ChangeShapes Go.WideShapes Go.ChangeAt Go.RowKit Go.Maps
set_option linter.unusedVariables false
set_option maxRecDepth 100000
theorem appRight_any (nm da : ByteArray) (w : World) (h1 : nm.size ≤ 4194304) :
    Calls Tryz.prog 106 #[.agg #[.string nm, .string da]] w fun e w' => e = .returned (.bool (nmB nm)) ∧ Below w.heap.size w w' := by
  go_enter Tryz.func106, Tryz.ntmps106
  go_wp2_with (first | (go_at_call 51; refine (fileNameOk_any _ _ h1).mono ?_; rintro e w' ⟨rfl, hw'⟩; have hw'' := hw'.symm; subst hw'') | fail)
  go_ret
  exact ⟨rfl, below_alloc (Below.refl _ _) _⟩
theorem renRight_any (nm tn : ByteArray) (w : World) (h1 : nm.size ≤ 4194304) (h2 : tn.size ≤ 4194304) :
    Calls Tryz.prog 111 #[.agg #[.string nm, .string tn]] w fun e w' => e = .returned (.bool (nmB nm && nmB tn)) ∧ Below w.heap.size w w' := by
  cases q : nmB nm <;> cases q2 : nmB tn
  all_goals
    go_enter Tryz.func111, Tryz.ntmps111
    go_wp2_with (first | (go_at_call 51; refine (fileNameOk_any _ _ (by assumption)).mono ?_; rintro e w' ⟨rfl, hw'⟩; have hw'' := hw'.symm; subst hw'') | fail)
    go_ret
    exact ⟨by simp, below_alloc (Below.refl _ _) _⟩
theorem remRight_any (nm : ByteArray) (w : World) (h1 : nm.size ≤ 4194304) :
    Calls Tryz.prog 117 #[.agg #[.string nm]] w fun e w' => e = .returned (.bool (nmB nm)) ∧ Below w.heap.size w w' := by
  go_enter Tryz.func117, Tryz.ntmps117
  go_wp2_with (first | (go_at_call 51; refine (fileNameOk_any _ _ h1).mono ?_; rintro e w' ⟨rfl, hw'⟩; have hw'' := hw'.symm; subst hw'') | fail)
  go_ret
  exact ⟨rfl, below_alloc (Below.refl _ _) _⟩
theorem appAsked_any (nm da : ByteArray) (w : World) :
    Calls Tryz.prog 103 #[.agg #[.string nm, .string da]] w fun e w' => e = .returned (.agg #[.int .i64 1, .string nm, .string ⟨#[]⟩, .string da]) ∧ Below w.heap.size w w' := by
  go_enter Tryz.func103, Tryz.ntmps103
  go_wp2
  exact bodyPost_ret (v := .agg #[.int .i64 1, .string nm, .string ⟨#[]⟩, .string da]) (by simp [results, Tryz.results103, go_sem]) rfl ⟨rfl, below_alloc (below_alloc (Below.refl _ _) _) _⟩
theorem renAsked_any (nm tn : ByteArray) (w : World) :
    Calls Tryz.prog 108 #[.agg #[.string nm, .string tn]] w fun e w' => e = .returned (.agg #[.int .i64 2, .string nm, .string tn, .string ⟨#[]⟩]) ∧ Below w.heap.size w w' := by
  go_enter Tryz.func108, Tryz.ntmps108
  go_wp2
  exact bodyPost_ret (v := .agg #[.int .i64 2, .string nm, .string tn, .string ⟨#[]⟩]) (by simp [results, Tryz.results108, go_sem]) rfl ⟨rfl, below_alloc (below_alloc (Below.refl _ _) _) _⟩
theorem remAsked_any (nm : ByteArray) (w : World) :
    Calls Tryz.prog 114 #[.agg #[.string nm]] w fun e w' => e = .returned (.agg #[.int .i64 3, .string nm, .string ⟨#[]⟩, .string ⟨#[]⟩]) ∧ Below w.heap.size w w' := by
  go_enter Tryz.func114, Tryz.ntmps114
  go_wp2
  exact bodyPost_ret (v := .agg #[.int .i64 3, .string nm, .string ⟨#[]⟩, .string ⟨#[]⟩]) (by simp [results, Tryz.results114, go_sem]) rfl ⟨rfl, below_alloc (below_alloc (Below.refl _ _) _) _⟩
def opV (o : Dp) : Value := if o.kind == 1 then .iface 97 (.agg #[.string o.nm, .string o.da]) else if o.kind == 2 then .iface 99 (.agg #[.string o.nm, .string o.tn]) else if o.kind == 3 then .iface 101 (.agg #[.string o.nm]) else .nilIface
theorem quiet_invoke {P : Program} {ops : Array Oper} {C : World → Prop} {Q : Act → Prop} {a : Act} {o : Oper} {rest : List Oper} (f : FuncId) (args : Array Value) (v : Value) (hw : Region.wanted o (yielded ops a.tmps) = true) (hr : ∀ w, (execOp a.eval o).run P w = .ok (.enter f args) w) (hc : ∀ w, C w → Calls P f args w (fun e w'' => e = .returned v ∧ C w'')) (h : wpQuiet P ops C Q rest (a.put o.dst v)) : wpQuiet P ops C Q (o :: rest) a :=
  BigFrame.wpQuiet_want hw fun K hK => ⟨v, fun w hC => by unfold Oper.quietAt; rw [hr]; exact ⟨rfl, hc w hC⟩, hK _ h⟩
theorem later_all {P : Program} {f : FuncId} {args : Array Value} {W : World} {v : Value} (h : ∀ w, Calls P f args w fun e w' => e = .returned v ∧ Below w.heap.size w w') : ∀ w, (∃ x : Later W, w = x.w) → Calls P f args w (fun e w'' => e = .returned v ∧ ∃ x : Later W, w'' = x.w) := by
  rintro w ⟨x, rfl⟩
  exact later_of (h x.w)
set_option maxHeartbeats 2000000 in
theorem opOf_app (nm tn da : ByteArray) (w : World) (h1 : nm.size ≤ 1048600) (h2 : tn.size ≤ 1048600) :
    Calls Tryz.prog 47 #[.agg #[.int .i64 1, .string nm, .string tn, .string da]] w fun e w' => e = .returned (.tuple #[.iface 97 (.agg #[.string nm, .string da]), .bool (nmB nm && emB tn)]) ∧ Below w.heap.size w w' := by
  have hne : Nonempty (Later (w.alloc (.cells #[.int .i64 1, .string nm, .string tn, .string da] 50))) := later_there _
  have d0 : ∀ y : Later (w.alloc (.cells #[.int .i64 1, .string nm, .string tn, .string da] 50)), y.w.cell? ⟨w.heap.size, 0, none⟩ = some (.int .i64 1) := later_cell (World.cell?_alloc_at _ _ _ _ rfl)
  have d1 : ∀ y : Later (w.alloc (.cells #[.int .i64 1, .string nm, .string tn, .string da] 50)), y.w.cell? ⟨w.heap.size, 1, none⟩ = some (.string nm) := later_cell (World.cell?_alloc_at _ _ _ _ rfl)
  have d2 : ∀ y : Later (w.alloc (.cells #[.int .i64 1, .string nm, .string tn, .string da] 50)), y.w.cell? ⟨w.heap.size, 2, none⟩ = some (.string tn) := later_cell (World.cell?_alloc_at _ _ _ _ rfl)
  have d3 : ∀ y : Later (w.alloc (.cells #[.int .i64 1, .string nm, .string tn, .string da] 50)), y.w.cell? ⟨w.heap.size, 3, none⟩ = some (.string da) := later_cell (World.cell?_alloc_at _ _ _ _ rfl)
  cases q1 : (nmB nm)
  · have HR : Hid ((false && emB tn) = false) := hide (by simp)
    go_enter Tryz.func47, Tryz.ntmps47
    go_wp2_with fail
    refine wp_region_later (w.alloc (.cells #[.int .i64 1, .string nm, .string tn, .string da] 50)) (by kernel_rfl) (by kernel_rfl) ((Below.refl _ _).drew) ?_
    go_big_quiet_step (fail)
    go_big_quiet_step (fail)
    refine quiet_invoke 106 #[.agg #[.string nm, .string da]] (.bool false) (by kernel_rfl) (fun w => by kernel_rfl) (later_all (fun w => by rw [← q1]; exact appRight_any nm da w (by omega))) ?_
    go_frame
    repeat (go_big_quiet_step (fail))
    refine wpQuiet_nil ?_
    intro _ hw'
    obtain ⟨nx, rfl⟩ := hw'
    go_wp2
    exact bodyPost_ret (v := .tuple #[.iface 97 (.agg #[.string nm, .string da]), .bool false]) (by simp [results, Tryz.results47, go_sem]) rfl ⟨by rw [HR.out], below_trans (below_alloc (Below.refl _ _) _) nx.below⟩
  · skip
    cases e1 : tn.toList.isEmpty
    · skip
      have HR : Hid ((true && emB tn) = false) := hide (by simp [emB, e1])
      go_enter Tryz.func47, Tryz.ntmps47
      go_wp2_with fail
      refine wp_region_later (w.alloc (.cells #[.int .i64 1, .string nm, .string tn, .string da] 50)) (by kernel_rfl) (by kernel_rfl) ((Below.refl _ _).drew) ?_
      go_big_quiet_step (fail)
      go_big_quiet_step (fail)
      refine quiet_invoke 106 #[.agg #[.string nm, .string da]] (.bool true) (by kernel_rfl) (fun w => by kernel_rfl) (later_all (fun w => by rw [← q1]; exact appRight_any nm da w (by omega))) ?_
      go_frame
      go_big_quiet_step (fail)
      go_big_quiet_step (fail)
      refine quiet_invoke 103 #[.agg #[.string nm, .string da]] (.agg #[.int .i64 1, .string nm, .string ⟨#[]⟩, .string da]) (by kernel_rfl) (fun w => by kernel_rfl) (later_all (fun w => appAsked_any nm da w)) ?_
      go_frame
      repeat (go_big_quiet_step (fail))
      refine wpQuiet_nil ?_
      intro _ hw'
      obtain ⟨nx, rfl⟩ := hw'
      go_wp2
      exact bodyPost_ret (v := .tuple #[.iface 97 (.agg #[.string nm, .string da]), .bool false]) (by simp [results, Tryz.results47, go_sem]) rfl ⟨by rw [HR.out], below_trans (below_alloc (Below.refl _ _) _) nx.below⟩
    · skip
      have HR : Hid ((true && emB tn) = true) := hide (by simp [emB, e1])
      go_enter Tryz.func47, Tryz.ntmps47
      go_wp2_with fail
      refine wp_region_later (w.alloc (.cells #[.int .i64 1, .string nm, .string tn, .string da] 50)) (by kernel_rfl) (by kernel_rfl) ((Below.refl _ _).drew) ?_
      go_big_quiet_step (fail)
      go_big_quiet_step (fail)
      refine quiet_invoke 106 #[.agg #[.string nm, .string da]] (.bool true) (by kernel_rfl) (fun w => by kernel_rfl) (later_all (fun w => by rw [← q1]; exact appRight_any nm da w (by omega))) ?_
      go_frame
      go_big_quiet_step (fail)
      go_big_quiet_step (fail)
      refine quiet_invoke 103 #[.agg #[.string nm, .string da]] (.agg #[.int .i64 1, .string nm, .string ⟨#[]⟩, .string da]) (by kernel_rfl) (fun w => by kernel_rfl) (later_all (fun w => appAsked_any nm da w)) ?_
      go_frame
      repeat (go_big_quiet_step (fail))
      refine wpQuiet_nil ?_
      intro _ hw'
      obtain ⟨nx, rfl⟩ := hw'
      go_wp2
      exact bodyPost_ret (v := .tuple #[.iface 97 (.agg #[.string nm, .string da]), .bool true]) (by simp [results, Tryz.results47, go_sem]) rfl ⟨by rw [HR.out], below_trans (below_alloc (Below.refl _ _) _) nx.below⟩
set_option maxHeartbeats 2000000 in
theorem opOf_ren (nm tn da : ByteArray) (w : World) (h1 : nm.size ≤ 1048600) (h2 : tn.size ≤ 1048600) :
    Calls Tryz.prog 47 #[.agg #[.int .i64 2, .string nm, .string tn, .string da]] w fun e w' => e = .returned (.tuple #[.iface 99 (.agg #[.string nm, .string tn]), .bool ((nmB nm && nmB tn) && emB da)]) ∧ Below w.heap.size w w' := by
  have hne : Nonempty (Later (w.alloc (.cells #[.int .i64 2, .string nm, .string tn, .string da] 50))) := later_there _
  have d0 : ∀ y : Later (w.alloc (.cells #[.int .i64 2, .string nm, .string tn, .string da] 50)), y.w.cell? ⟨w.heap.size, 0, none⟩ = some (.int .i64 2) := later_cell (World.cell?_alloc_at _ _ _ _ rfl)
  have d1 : ∀ y : Later (w.alloc (.cells #[.int .i64 2, .string nm, .string tn, .string da] 50)), y.w.cell? ⟨w.heap.size, 1, none⟩ = some (.string nm) := later_cell (World.cell?_alloc_at _ _ _ _ rfl)
  have d2 : ∀ y : Later (w.alloc (.cells #[.int .i64 2, .string nm, .string tn, .string da] 50)), y.w.cell? ⟨w.heap.size, 2, none⟩ = some (.string tn) := later_cell (World.cell?_alloc_at _ _ _ _ rfl)
  have d3 : ∀ y : Later (w.alloc (.cells #[.int .i64 2, .string nm, .string tn, .string da] 50)), y.w.cell? ⟨w.heap.size, 3, none⟩ = some (.string da) := later_cell (World.cell?_alloc_at _ _ _ _ rfl)
  cases q1 : (nmB nm && nmB tn)
  · have HR : Hid (((false) && emB da) = false) := hide (by simp)
    go_enter Tryz.func47, Tryz.ntmps47
    go_wp2_with fail
    refine wp_region_later (w.alloc (.cells #[.int .i64 2, .string nm, .string tn, .string da] 50)) (by kernel_rfl) (by kernel_rfl) ((Below.refl _ _).drew) ?_
    go_big_quiet_step (fail)
    go_big_quiet_step (fail)
    refine quiet_invoke 111 #[.agg #[.string nm, .string tn]] (.bool false) (by kernel_rfl) (fun w => by kernel_rfl) (later_all (fun w => by rw [← q1]; exact renRight_any nm tn w (by omega) (by omega))) ?_
    go_frame
    repeat (go_big_quiet_step (fail))
    refine wpQuiet_nil ?_
    intro _ hw'
    obtain ⟨nx, rfl⟩ := hw'
    go_wp2
    exact bodyPost_ret (v := .tuple #[.iface 99 (.agg #[.string nm, .string tn]), .bool false]) (by simp [results, Tryz.results47, go_sem]) rfl ⟨by rw [HR.out], below_trans (below_alloc (Below.refl _ _) _) nx.below⟩
  · skip
    cases e1 : da.toList.isEmpty
    · skip
      have HR : Hid (((true) && emB da) = false) := hide (by simp [emB, e1])
      go_enter Tryz.func47, Tryz.ntmps47
      go_wp2_with fail
      refine wp_region_later (w.alloc (.cells #[.int .i64 2, .string nm, .string tn, .string da] 50)) (by kernel_rfl) (by kernel_rfl) ((Below.refl _ _).drew) ?_
      go_big_quiet_step (fail)
      go_big_quiet_step (fail)
      refine quiet_invoke 111 #[.agg #[.string nm, .string tn]] (.bool true) (by kernel_rfl) (fun w => by kernel_rfl) (later_all (fun w => by rw [← q1]; exact renRight_any nm tn w (by omega) (by omega))) ?_
      go_frame
      go_big_quiet_step (fail)
      go_big_quiet_step (fail)
      refine quiet_invoke 108 #[.agg #[.string nm, .string tn]] (.agg #[.int .i64 2, .string nm, .string tn, .string ⟨#[]⟩]) (by kernel_rfl) (fun w => by kernel_rfl) (later_all (fun w => renAsked_any nm tn w)) ?_
      go_frame
      repeat (go_big_quiet_step (fail))
      refine wpQuiet_nil ?_
      intro _ hw'
      obtain ⟨nx, rfl⟩ := hw'
      go_wp2
      exact bodyPost_ret (v := .tuple #[.iface 99 (.agg #[.string nm, .string tn]), .bool false]) (by simp [results, Tryz.results47, go_sem]) rfl ⟨by rw [HR.out], below_trans (below_alloc (Below.refl _ _) _) nx.below⟩
    · skip
      have HR : Hid (((true) && emB da) = true) := hide (by simp [emB, e1])
      go_enter Tryz.func47, Tryz.ntmps47
      go_wp2_with fail
      refine wp_region_later (w.alloc (.cells #[.int .i64 2, .string nm, .string tn, .string da] 50)) (by kernel_rfl) (by kernel_rfl) ((Below.refl _ _).drew) ?_
      go_big_quiet_step (fail)
      go_big_quiet_step (fail)
      refine quiet_invoke 111 #[.agg #[.string nm, .string tn]] (.bool true) (by kernel_rfl) (fun w => by kernel_rfl) (later_all (fun w => by rw [← q1]; exact renRight_any nm tn w (by omega) (by omega))) ?_
      go_frame
      go_big_quiet_step (fail)
      go_big_quiet_step (fail)
      refine quiet_invoke 108 #[.agg #[.string nm, .string tn]] (.agg #[.int .i64 2, .string nm, .string tn, .string ⟨#[]⟩]) (by kernel_rfl) (fun w => by kernel_rfl) (later_all (fun w => renAsked_any nm tn w)) ?_
      go_frame
      repeat (go_big_quiet_step (fail))
      refine wpQuiet_nil ?_
      intro _ hw'
      obtain ⟨nx, rfl⟩ := hw'
      go_wp2
      exact bodyPost_ret (v := .tuple #[.iface 99 (.agg #[.string nm, .string tn]), .bool true]) (by simp [results, Tryz.results47, go_sem]) rfl ⟨by rw [HR.out], below_trans (below_alloc (Below.refl _ _) _) nx.below⟩
set_option maxHeartbeats 2000000 in
theorem opOf_rem (nm tn da : ByteArray) (w : World) (h1 : nm.size ≤ 1048600) (h2 : tn.size ≤ 1048600) :
    Calls Tryz.prog 47 #[.agg #[.int .i64 3, .string nm, .string tn, .string da]] w fun e w' => e = .returned (.tuple #[.iface 101 (.agg #[.string nm]), .bool (nmB nm && (emB tn && emB da))]) ∧ Below w.heap.size w w' := by
  have hne : Nonempty (Later (w.alloc (.cells #[.int .i64 3, .string nm, .string tn, .string da] 50))) := later_there _
  have d0 : ∀ y : Later (w.alloc (.cells #[.int .i64 3, .string nm, .string tn, .string da] 50)), y.w.cell? ⟨w.heap.size, 0, none⟩ = some (.int .i64 3) := later_cell (World.cell?_alloc_at _ _ _ _ rfl)
  have d1 : ∀ y : Later (w.alloc (.cells #[.int .i64 3, .string nm, .string tn, .string da] 50)), y.w.cell? ⟨w.heap.size, 1, none⟩ = some (.string nm) := later_cell (World.cell?_alloc_at _ _ _ _ rfl)
  have d2 : ∀ y : Later (w.alloc (.cells #[.int .i64 3, .string nm, .string tn, .string da] 50)), y.w.cell? ⟨w.heap.size, 2, none⟩ = some (.string tn) := later_cell (World.cell?_alloc_at _ _ _ _ rfl)
  have d3 : ∀ y : Later (w.alloc (.cells #[.int .i64 3, .string nm, .string tn, .string da] 50)), y.w.cell? ⟨w.heap.size, 3, none⟩ = some (.string da) := later_cell (World.cell?_alloc_at _ _ _ _ rfl)
  cases q1 : (nmB nm)
  · have HR : Hid ((false && (emB tn && emB da)) = false) := hide (by simp)
    go_enter Tryz.func47, Tryz.ntmps47
    go_wp2_with fail
    refine wp_region_later (w.alloc (.cells #[.int .i64 3, .string nm, .string tn, .string da] 50)) (by kernel_rfl) (by kernel_rfl) ((Below.refl _ _).drew) ?_
    go_big_quiet_step (fail)
    go_big_quiet_step (fail)
    refine quiet_invoke 117 #[.agg #[.string nm]] (.bool false) (by kernel_rfl) (fun w => by kernel_rfl) (later_all (fun w => by rw [← q1]; exact remRight_any nm w (by omega))) ?_
    go_frame
    repeat (go_big_quiet_step (fail))
    refine wpQuiet_nil ?_
    intro _ hw'
    obtain ⟨nx, rfl⟩ := hw'
    go_wp2
    exact bodyPost_ret (v := .tuple #[.iface 101 (.agg #[.string nm]), .bool false]) (by simp [results, Tryz.results47, go_sem]) rfl ⟨by rw [HR.out], below_trans (below_alloc (Below.refl _ _) _) nx.below⟩
  · skip
    cases e1 : tn.toList.isEmpty
    · skip
      cases e2 : da.toList.isEmpty
      · skip
        have HR : Hid ((true && (emB tn && emB da)) = false) := hide (by simp [emB, e1, e2])
        go_enter Tryz.func47, Tryz.ntmps47
        go_wp2_with fail
        refine wp_region_later (w.alloc (.cells #[.int .i64 3, .string nm, .string tn, .string da] 50)) (by kernel_rfl) (by kernel_rfl) ((Below.refl _ _).drew) ?_
        go_big_quiet_step (fail)
        go_big_quiet_step (fail)
        refine quiet_invoke 117 #[.agg #[.string nm]] (.bool true) (by kernel_rfl) (fun w => by kernel_rfl) (later_all (fun w => by rw [← q1]; exact remRight_any nm w (by omega))) ?_
        go_frame
        go_big_quiet_step (fail)
        go_big_quiet_step (fail)
        refine quiet_invoke 114 #[.agg #[.string nm]] (.agg #[.int .i64 3, .string nm, .string ⟨#[]⟩, .string ⟨#[]⟩]) (by kernel_rfl) (fun w => by kernel_rfl) (later_all (fun w => remAsked_any nm w)) ?_
        go_frame
        repeat (go_big_quiet_step (fail))
        refine wpQuiet_nil ?_
        intro _ hw'
        obtain ⟨nx, rfl⟩ := hw'
        go_wp2
        exact bodyPost_ret (v := .tuple #[.iface 101 (.agg #[.string nm]), .bool false]) (by simp [results, Tryz.results47, go_sem]) rfl ⟨by rw [HR.out], below_trans (below_alloc (Below.refl _ _) _) nx.below⟩
      · skip
        have HR : Hid ((true && (emB tn && emB da)) = false) := hide (by simp [emB, e1, e2])
        go_enter Tryz.func47, Tryz.ntmps47
        go_wp2_with fail
        refine wp_region_later (w.alloc (.cells #[.int .i64 3, .string nm, .string tn, .string da] 50)) (by kernel_rfl) (by kernel_rfl) ((Below.refl _ _).drew) ?_
        go_big_quiet_step (fail)
        go_big_quiet_step (fail)
        refine quiet_invoke 117 #[.agg #[.string nm]] (.bool true) (by kernel_rfl) (fun w => by kernel_rfl) (later_all (fun w => by rw [← q1]; exact remRight_any nm w (by omega))) ?_
        go_frame
        go_big_quiet_step (fail)
        go_big_quiet_step (fail)
        refine quiet_invoke 114 #[.agg #[.string nm]] (.agg #[.int .i64 3, .string nm, .string ⟨#[]⟩, .string ⟨#[]⟩]) (by kernel_rfl) (fun w => by kernel_rfl) (later_all (fun w => remAsked_any nm w)) ?_
        go_frame
        repeat (go_big_quiet_step (fail))
        refine wpQuiet_nil ?_
        intro _ hw'
        obtain ⟨nx, rfl⟩ := hw'
        go_wp2
        exact bodyPost_ret (v := .tuple #[.iface 101 (.agg #[.string nm]), .bool false]) (by simp [results, Tryz.results47, go_sem]) rfl ⟨by rw [HR.out], below_trans (below_alloc (Below.refl _ _) _) nx.below⟩
    · skip
      cases e2 : da.toList.isEmpty
      · skip
        have HR : Hid ((true && (emB tn && emB da)) = false) := hide (by simp [emB, e1, e2])
        go_enter Tryz.func47, Tryz.ntmps47
        go_wp2_with fail
        refine wp_region_later (w.alloc (.cells #[.int .i64 3, .string nm, .string tn, .string da] 50)) (by kernel_rfl) (by kernel_rfl) ((Below.refl _ _).drew) ?_
        go_big_quiet_step (fail)
        go_big_quiet_step (fail)
        refine quiet_invoke 117 #[.agg #[.string nm]] (.bool true) (by kernel_rfl) (fun w => by kernel_rfl) (later_all (fun w => by rw [← q1]; exact remRight_any nm w (by omega))) ?_
        go_frame
        go_big_quiet_step (fail)
        go_big_quiet_step (fail)
        refine quiet_invoke 114 #[.agg #[.string nm]] (.agg #[.int .i64 3, .string nm, .string ⟨#[]⟩, .string ⟨#[]⟩]) (by kernel_rfl) (fun w => by kernel_rfl) (later_all (fun w => remAsked_any nm w)) ?_
        go_frame
        repeat (go_big_quiet_step (fail))
        refine wpQuiet_nil ?_
        intro _ hw'
        obtain ⟨nx, rfl⟩ := hw'
        go_wp2
        exact bodyPost_ret (v := .tuple #[.iface 101 (.agg #[.string nm]), .bool false]) (by simp [results, Tryz.results47, go_sem]) rfl ⟨by rw [HR.out], below_trans (below_alloc (Below.refl _ _) _) nx.below⟩
      · skip
        have HR : Hid ((true && (emB tn && emB da)) = true) := hide (by simp [emB, e1, e2])
        go_enter Tryz.func47, Tryz.ntmps47
        go_wp2_with fail
        refine wp_region_later (w.alloc (.cells #[.int .i64 3, .string nm, .string tn, .string da] 50)) (by kernel_rfl) (by kernel_rfl) ((Below.refl _ _).drew) ?_
        go_big_quiet_step (fail)
        go_big_quiet_step (fail)
        refine quiet_invoke 117 #[.agg #[.string nm]] (.bool true) (by kernel_rfl) (fun w => by kernel_rfl) (later_all (fun w => by rw [← q1]; exact remRight_any nm w (by omega))) ?_
        go_frame
        go_big_quiet_step (fail)
        go_big_quiet_step (fail)
        refine quiet_invoke 114 #[.agg #[.string nm]] (.agg #[.int .i64 3, .string nm, .string ⟨#[]⟩, .string ⟨#[]⟩]) (by kernel_rfl) (fun w => by kernel_rfl) (later_all (fun w => remAsked_any nm w)) ?_
        go_frame
        repeat (go_big_quiet_step (fail))
        refine wpQuiet_nil ?_
        intro _ hw'
        obtain ⟨nx, rfl⟩ := hw'
        go_wp2
        exact bodyPost_ret (v := .tuple #[.iface 101 (.agg #[.string nm]), .bool true]) (by simp [results, Tryz.results47, go_sem]) rfl ⟨by rw [HR.out], below_trans (below_alloc (Below.refl _ _) _) nx.below⟩
end Go.Proofs.YtiilkkdbifhojaaGreat
/- The contracts of the program's opOf at any op, and of what is done to a shelf. -/
namespace Go.Proofs.YtiilkkdbifhojaaGreat
open Go.ChangeShapes Go.WideShapes Go.ChangeAt Go.RowKit Go.Maps
set_option linter.unusedVariables false
set_option maxRecDepth 100000
theorem opOf_any (o : Dp) (w : World) (hs : SmO o) :
    Calls Tryz.prog 47 #[.agg #[.int .i64 o.kind, .string o.nm, .string o.tn, .string o.da]] w fun e w' => e = .returned (.tuple #[opV o, .bool (formB o)]) ∧ Below w.heap.size w w' := by
  obtain ⟨kind, nm, tn, da⟩ := o
  obtain ⟨s1, s2, s3⟩ := hs
  simp only at s1 s2 s3 ⊢
  by_cases k1 : kind = 1
  · subst k1
    have e1 : formB ⟨1, nm, tn, da⟩ = (nmB nm && emB tn) := by simp [formB, inB]
    rw [e1]
    exact opOf_app nm tn da w s1 s2
  · by_cases k2 : kind = 2
    · subst k2
      have e1 : formB ⟨2, nm, tn, da⟩ = ((nmB nm && nmB tn) && emB da) := by simp [formB, inB, Bool.and_assoc]
      rw [e1]
      exact opOf_ren nm tn da w s1 s2
    · by_cases k3 : kind = 3
      · subst k3
        have e1 : formB ⟨3, nm, tn, da⟩ = (nmB nm && (emB tn && emB da)) := by simp [formB, inB]
        rw [e1]
        exact opOf_rem nm tn da w s1 s2
      · have e1 : formB ⟨kind, nm, tn, da⟩ = false := by
          have : inB 1 3 kind = false := by simp [inB]; omega
          simp [formB, this]
        have e2 : opV ⟨kind, nm, tn, da⟩ = .nilIface := by simp [opV, k1, k2, k3]
        rw [e1, e2]
        have q1 : (kind == 1) = false := by simpa using k1
        have q2 : (kind == 2) = false := by simpa using k2
        have q3 : (kind == 3) = false := by simpa using k3
        clear e1 e2
        go_enter Tryz.func47, Tryz.ntmps47
        go_wp2
        exact bodyPost_ret (v := .tuple #[.nilIface, .bool false]) (by simp [results, Tryz.results47, go_sem]) rfl ⟨rfl, below_alloc (Below.refl _ _) _⟩
/-- a body that is put in a place, the rows of all other names as they were -/
theorem Shelf.put2 {base m N : Nat} {l : List Fl} {β : ByteArray → Bd} {x x2 : World} (h : Shelf base m l β N x) {nm da : ByteArray} (b : Bd) (hn : nm.size ≤ 4194304) (hN : N ≤ 1000000) (hmap : ∀ n D, x.ownsMap Tryz.prog 9 bdElem m n D → x2.ownsMap Tryz.prog 9 bdElem m n D) (hrows : ∀ f ∈ l, f.nm ≠ nm → x2.ownsRow base 9 1 (β f.nm).v (β f.nm).ps.length (strs (β f.nm).ps))
    (hrow : x2.ownsRow base 9 1 b.v b.ps.length (strs b.ps)) (hcat : catL b.ps = da) (hap : ∀ f ∈ l, f.nm ≠ nm → Apt b.v (β f.nm).v ∧ Apt (β f.nm).v b.v) (hpc : b.ps.length ≤ N + 1) :
    ∃ y, (Instr.mapUpdate 56 (.map (some m)) (.string nm) b.V).run Tryz.prog x2 = .ok () y ∧ Shelf base m (putL l nm da) (upd β nm b) (N + 1) y ∧ x2.grownBy y (some m) := by
  obtain ⟨D, n, hn', ho0, hat, honly, hsz⟩ := h.map
  have ho := hmap n D ho0
  obtain ⟨y, hrun, ho2, hg⟩ := ho.update law9 uM (by unfold maxLen; omega) (kn_of (small_max hn)) b.elem
  have hh := has_of hat honly nm
  have kept : ∀ {v : Value} {k : Nat} {xs : List Value}, x2.ownsRow base 9 1 v k xs → y.ownsRow base 9 1 v k xs := fun hr => hr.kept hg (.inr (own_not_map hr ho))
  refine ⟨y, hrun, ⟨⟨D.put (kn nm) b.D, n + 1, by omega, ho2, fun f hf z => ?_, fun kl hkl => ?_, ?_⟩, h.lo, fun f hf => ?_, fun f hf => ?_, fun f hf f' hf' hne => ?_, srt_putL h.srt nm da, fun f hf => ?_, fun f hf => ?_⟩, hg⟩
  · rcases (mem_putL h.srt).1 hf with rfl | ⟨hf, hne⟩
    · rw [upd_same]; exact atKey_put_same ho.isMap (kn_key _) _ z
    · rw [upd_other hne, atKey_put_other (fun e => hne (kn_inj e))]; exact hat f hf z
  · by_cases e : kl = kn nm
    · exact ⟨⟨nm, da⟩, (mem_putL h.srt).2 (.inl rfl), e⟩
    · rw [has_put_other e] at hkl
      obtain ⟨f, hf, rfl⟩ := honly kl hkl
      exact ⟨f, (mem_putL h.srt).2 (.inr ⟨hf, fun q => e (by rw [q])⟩), rfl⟩
  · rw [size_put (ho.tidy law9), hh, len_putL h.srt, hsz]
  · rcases (mem_putL h.srt).1 hf with rfl | ⟨hf, hne⟩
    · rw [upd_same]; exact kept hrow
    · rw [upd_other hne]; exact kept (hrows f hf hne)
  · rcases (mem_putL h.srt).1 hf with rfl | ⟨hf, hne⟩
    · rw [upd_same]; exact hcat
    · rw [upd_other hne]; exact h.cat f hf
  · rcases (mem_putL h.srt).1 hf with rfl | ⟨hf, h1⟩
    · rcases (mem_putL h.srt).1 hf' with rfl | ⟨hf', h2⟩
      · exact absurd rfl hne
      · rw [upd_same, upd_other h2]; exact (hap f' hf' h2).1
    · rcases (mem_putL h.srt).1 hf' with rfl | ⟨hf', h2⟩
      · rw [upd_same, upd_other h1]; exact (hap f hf h1).2
      · rw [upd_other h1, upd_other h2]; exact h.apt f hf f' hf' hne
  · rcases (mem_putL h.srt).1 hf with rfl | ⟨hf, hne⟩
    · rw [upd_same]; exact hpc
    · rw [upd_other hne]; have := h.pcs f hf; omega
  · rcases (mem_putL h.srt).1 hf with rfl | ⟨hf, hne⟩
    · exact hn
    · exact h.nms f hf
/-- the body of a name, or an empty one -/
def bodyOf (l : List Fl) (β : ByteArray → Bd) (nm : ByteArray) : Bd := if hasN l nm then β nm else b0
theorem hasN_at {l : List Fl} {nm : ByteArray} (h : hasN l nm = true) : ∃ k, ∃ hk : k < l.length, atL l nm = some k ∧ (l[k]).nm = nm := by
  cases e : atL l nm with
  | none =>
    obtain ⟨f, hf, q⟩ := hasN_iff.1 h
    exact absurd q (at_none e f hf)
  | some k =>
    obtain ⟨hk, q⟩ := at_some e
    exact ⟨k, hk, rfl, q⟩
theorem hasN_no {l : List Fl} {nm : ByteArray} (h : hasN l nm = false) : atL l nm = none := by
  cases e : atL l nm with
  | none => rfl
  | some k =>
    obtain ⟨hk, q⟩ := at_some e
    have := hasN_iff.2 ⟨l[k], List.getElem_mem hk, q⟩
    rw [h] at this; cases this
structure BodyF (base N : Nat) (l : List Fl) (β : ByteArray → Bd) (nm : ByteArray) (x : World) (b : Bd) : Prop where
  row : x.ownsRow base 9 1 b.v b.ps.length (strs b.ps)
  pcs : b.ps.length ≤ N
  app : ∀ da, catL (b.ps ++ [da]) = appD l nm da
  apt : ∀ f ∈ l, f.nm ≠ nm → Apt b.v (β f.nm).v ∧ Apt (β f.nm).v b.v
  sz : (catL b.ps).size ≤ datL l
  dat : hasN l nm = true → catL b.ps = dataL l nm
theorem Shelf.body {base m N : Nat} {l : List Fl} {β : ByteArray → Bd} {x : World} (h : Shelf base m l β N x) (nm : ByteArray) : BodyF base N l β nm x (bodyOf l β nm) := by
  cases e : hasN l nm with
  | true =>
    obtain ⟨k, hk, ha, hq⟩ := hasN_at e
    have hm : l[k] ∈ l := List.getElem_mem hk
    have eb : bodyOf l β nm = β (l[k]).nm := by simp [bodyOf, e, hq]
    have hd := data_at ha hk
    rw [eb]
    refine ⟨h.rows _ hm, h.pcs _ hm, fun da => ?_, fun f hf hne => ⟨h.apt _ hm f hf (by rw [hq]; exact fun q => hne q.symm), h.apt f hf _ hm (by rw [hq]; exact hne)⟩, ?_, fun _ => ?_⟩
    · rw [catL_append, h.cat _ hm]
      simp [appD, ha, hd, catL]
    · rw [h.cat _ hm]; exact datL_mem hm
    · rw [h.cat _ hm, hd]
  | false =>
    have ha := hasN_no e
    have eb : bodyOf l β nm = b0 := by simp [bodyOf, e]
    rw [eb]
    refine ⟨own_b0, by simp [b0], fun da => by simp [appD, ha, b0, catL], fun f hf hne => ⟨.inl rfl, ?_⟩, by simp [b0, catL], fun q => by rw [e] at q; cases q⟩
    cases q : (β f.nm).v.ownBlock with
    | none => exact .inl q
    | some g => exact .inr (fun e2 => by rw [q] at e2; cases e2)
end Go.Proofs.YtiilkkdbifhojaaGreat
/- The contracts of the program's do and finds of each op. -/
namespace Go.Proofs.YtiilkkdbifhojaaGreat
open Go.ChangeShapes Go.WideShapes Go.ChangeAt Go.RowKit Go.Maps
set_option linter.unusedVariables false
set_option maxRecDepth 100000
def DoneEnd (base m N : Nat) (l : List Fl) (w : World) (e : Ending) (w' : World) : Prop := e = .returned (.tuple #[]) ∧ Below base w w' ∧ ∃ β, Shelf base m l β N w'
theorem Shelf.base_le {base m N : Nat} {l : List Fl} {β : ByteArray → Bd} {w : World} (h : Shelf base m l β N w) : base ≤ w.heap.size := Nat.le_of_lt (Nat.lt_of_le_of_lt h.lo h.lt)
theorem kept_any {w w' : World} {row : Option Nat} {base k sz : Nat} {e : TypeId} {v : Value} {xs : List Value} (h : w.ownsRow base e sz v k xs) (hg : w.grownBy w' row) (ha : v.ownBlock = none ∨ v.ownBlock ≠ row) : w'.ownsRow base e sz v k xs := h.kept hg ha
/-- a piece more for the body of a name -/
theorem Shelf.more {base m N : Nat} {l : List Fl} {β : ByteArray → Bd} {x x2 : World} (h : Shelf base m l β N x) {nm da : ByteArray} {b' : Bd} (hn : nm.size ≤ 4194304) (hN : N ≤ 100000) (hw : b'.ps = (bodyOf l β nm).ps ++ [da]) (hro : x2.ownsRow base 9 1 b'.v b'.ps.length (strs b'.ps)) (hg : x.grownBy x2 (bodyOf l β nm).v.ownBlock) (hli : b'.v.ownBlock = (bodyOf l β nm).v.ownBlock ∨ ∃ g, b'.v.ownBlock = some g ∧ x.heap.size ≤ g) :
    ∃ y, (Instr.mapUpdate 56 (.map (some m)) (.string nm) b'.V).run Tryz.prog x2 = .ok () y ∧ Shelf base m (putL l nm (appD l nm da)) (upd β nm b') (N + 1) y ∧ x2.grownBy y (some m) := by
  have hb := h.body nm
  refine h.put2 b' hn (by omega) (fun n D ho => ho.kept hg (fun q => own_not_map hb.row ho q.symm)) (fun f hf hne => kept_any (h.rows f hf) hg (hb.apt f hf hne).2) hro (by rw [hw]; exact hb.app da) (fun f hf hne => ?_) (by rw [hw]; simp; exact hb.pcs)
  rcases hli with q | ⟨g, q, hge⟩
  · have h1 := hb.apt f hf hne
    unfold Apt at h1 ⊢
    rw [q]
    exact h1
  · exact apt_hi (h.rows f hf) (fun g' hg' => by rw [q] at hg'; cases hg'; exact hge)
set_option maxHeartbeats 4000000 in
theorem appDo_any (base m N : Nat) (l : List Fl) (β : ByteArray → Bd) (nm da : ByteArray) (w : World) (hn : nm.size ≤ 4194304) (hd : da.size ≤ 4194304) (hN : N ≤ 100000) (hz : datL l ≤ 1000000000) (h : Shelf base m l β N w) :
    Calls Tryz.prog 104 #[.agg #[.string nm, .string da], .map (some m)] w fun e w' => DoneEnd base m (N + 1) (putL l nm (appD l nm da)) w e w' := by
  have HH : Hid _ := hide h
  have HSD : Hid (Shelf base m l β N (w.alloc (.cells #[.string nm, .string da] 97)).drew) := hide (h.below (below_alloc (Below.refl _ _) _).drew)
  have hlk : (Instr.lookup 56 (.map (some m)) (.string nm) false).run Tryz.prog (w.alloc (.cells #[.string nm, .string da] 97)).drew = .ok (bodyOf l β nm).V (w.alloc (.cells #[.string nm, .string da] 97)).drew := by
    have := HSD.out.look hn false 0
    simp only [Bool.false_eq_true, if_false] at this
    have e : (bodyOf l β nm).V = if hasN l nm then (β nm).V else b0.V := by unfold bodyOf; split <;> rfl
    rw [e]
    exact this
  have XD : Hid (Sw w.heap.size (.string nm) (.string da) (w.alloc (.cells #[.string nm, .string da] 97)).drew) := hide ⟨World.cell?_alloc_at _ _ _ _ rfl, World.cell?_alloc_at _ _ _ _ rfl⟩
  have hbf := HSD.out.body nm
  have HWT : Hid (Calls Tryz.prog 46 #[(bodyOf l β nm).V, .string da] (w.alloc (.cells #[.string nm, .string da] 97)).drew fun e w' => WithEnd base (bodyOf l β nm) da (w.alloc (.cells #[.string nm, .string da] 97)).drew e w') := hide (with_any base (bodyOf l β nm) da _ HSD.out.base_le (Nat.le_trans hbf.pcs (by omega)) (Nat.le_trans hbf.sz hz) hd hbf.row)
  have HLT : Hid (m < w.heap.size) := hide h.lt
  have HLO : Hid (∀ g, (bodyOf l β nm).v.ownBlock = some g → g < w.heap.size ∧ base ≤ g) := hide (fun g hg => by have := (h.body nm).row.lt g hg; exact ⟨this.2, this.1⟩)
  have HML : Hid (base ≤ m) := hide h.lo
  clear h hbf
  have HBD : Hid (Below base w (w.alloc (.cells #[.string nm, .string da] 97)).drew) := hide ((below_alloc (Below.refl _ _) _).drew.mono HH.out.base_le)
  have HBL : Hid _ := hide HH.out.base_le
  generalize (bodyOf l β nm).V = bV at *
  go_enter Tryz.func104, Tryz.ntmps104
  go_wp2_with fail
  go_region_held3 (fun x => x.cell? ⟨w.heap.size, 0, none⟩ = some (.string nm) ∧ x.cell? ⟨w.heap.size, 1, none⟩ = some (.string da))
    (first | with_reducible exact XD.out | (with_reducible assumption))
    (first | (go_at_call 46; refine HWT.out.mono ?_; rintro e w2 ⟨b', rfl, hps, hro, hg, hli⟩; have XS : Sw w.heap.size (.string nm) (.string da) w2 := XD.out.grown hg (fun q => by have := (HLO.out _ q).1; omega); obtain ⟨y, hrun, hsh, hgy⟩ := HSD.out.more hn (by omega) hps hro hg hli; have XY : Sw w.heap.size (.string nm) (.string da) y := XS.grown hgy (by have := HLT.out; simp; omega); have HSH : Hid _ := hide hsh; have HBY : Hid (Below base w y) := hide ((HBD.out.grown hg (Nat.le_trans HBL.out HBD.out.size) (fun j hj => (HLO.out j hj).2)).grown hgy (Nat.le_trans (Nat.le_trans HBL.out HBD.out.size) hg.size) (fun j hj => by cases hj; exact HML.out)); clear hsh hgy hg hli hro hps))
  have HE : Hid (DoneEnd base m (N + 1) (putL l nm (appD l nm da)) w (.returned (.tuple #[])) y) := hide ⟨rfl, HBY.out, _, HSH.out⟩
  clear hrun XS XY
  exact bodyPost_end (v := .tuple #[]) (by simp [results, Tryz.results104, go_sem]) rfl HE.out
set_option maxHeartbeats 2000000 in
theorem remDo_any (base m N : Nat) (l : List Fl) (β : ByteArray → Bd) (nm : ByteArray) (w : World) (hn : nm.size ≤ 4194304) (h : Shelf base m l β N w) :
    Calls Tryz.prog 115 #[.agg #[.string nm], .map (some m)] w fun e w' => DoneEnd base m N (cutL l nm) w e w' := by
  have HBL : Hid _ := hide h.base_le
  have HML : Hid _ := hide h.lo
  obtain ⟨y, hrun, hsh, hgy, _⟩ := (h.below (below_alloc (Below.refl _ _) (.cells #[.string nm] 101))).drop hn 0
  have HE : Hid (DoneEnd base m N (cutL l nm) w (.returned (.tuple #[])) y) := hide ⟨rfl, ((below_alloc (Below.refl _ _) (.cells #[.string nm] 101)).mono HBL.out).grown hgy (by have := HBL.out; simp; omega) (fun j hj => by cases hj; exact HML.out), β, hsh⟩
  clear hsh hgy h
  go_enter Tryz.func115, Tryz.ntmps115
  go_wp2
  exact bodyPost_end (v := .tuple #[]) (by simp [results, Tryz.results115, go_sem]) rfl HE.out
set_option maxHeartbeats 2000000 in
theorem renDo_any (base m N : Nat) (l : List Fl) (β : ByteArray → Bd) (nm tn : ByteArray) (w : World) (hn : nm.size ≤ 4194304) (ht : tn.size ≤ 4194304) (hN : N ≤ 100000) (hh : hasN l nm = true) (h : Shelf base m l β N w) :
    Calls Tryz.prog 109 #[.agg #[.string nm, .string tn], .map (some m)] w fun e w' => DoneEnd base m (N + 1) (putL (cutL l nm) tn (dataL l nm)) w e w' := by
  have HBL : Hid _ := hide h.base_le
  have HML : Hid _ := hide h.lo
  have HLT : Hid _ := hide h.lt
  obtain ⟨b, hb⟩ : ∃ b, b = bodyOf l β nm := ⟨_, rfl⟩
  have hbf := h.body nm
  rw [← hb] at hbf
  obtain ⟨w0, hw0⟩ : ∃ w0, w0 = w.alloc (.cells #[.string nm, .string tn] 99) := ⟨_, rfl⟩
  obtain ⟨w1, hw1⟩ : ∃ w1, w1 = w0.alloc (.cells #[.slice (adr b.a) b.ps.length b.c, .int .i64 ((catL b.ps).size : Int)] 83) := ⟨_, rfl⟩
  have b01 : Below w.heap.size w w0 := by rw [hw0]; exact below_alloc (Below.refl _ _) _
  have b12 : Below w0.heap.size w0 w1 := by rw [hw1]; exact below_alloc (Below.refl _ _) _
  have s0 : w0.heap.size = w.heap.size + 1 := by rw [hw0]; simp
  have s1 : w1.heap.size = w.heap.size + 2 := by rw [hw1]; simp; omega
  have hlk : (Instr.lookup 56 (.map (some m)) (.string nm) false).run Tryz.prog w0 = .ok (.agg #[.slice (adr b.a) b.ps.length b.c, .int .i64 ((catL b.ps).size : Int)]) w0 := by
    have := (h.below b01).look hn false 0
    simp only [Bool.false_eq_true, if_false] at this
    have e : Value.agg #[.slice (adr b.a) b.ps.length b.c, .int .i64 ((catL b.ps).size : Int)] = if hasN l nm then (β nm).V else b0.V := by rw [hb]; unfold bodyOf; split <;> rfl
    rw [e]
    exact this
  have c0 : w1.cell? ⟨w.heap.size, 0, none⟩ = some (.string nm) := by rw [b12.cell (by show w.heap.size < _; omega), hw0]; exact World.cell?_alloc_at _ _ _ _ rfl
  have c1 : w1.cell? ⟨w.heap.size, 1, none⟩ = some (.string tn) := by rw [b12.cell (by show w.heap.size < _; omega), hw0]; exact World.cell?_alloc_at _ _ _ _ rfl
  have d0 : w1.cell? ⟨w0.heap.size, 0, none⟩ = some (.slice (adr b.a) b.ps.length b.c) := by rw [hw1]; exact World.cell?_alloc_at _ _ _ _ rfl
  have d1 : w1.cell? ⟨w0.heap.size, 1, none⟩ = some (.int .i64 ((catL b.ps).size : Int)) := by rw [hw1]; exact World.cell?_alloc_at _ _ _ _ rfl
  have hS1 := h.below (below_trans b01 b12)
  obtain ⟨y, hrun, hsh, hgy, hkp⟩ := hS1.drop hn 0
  have hmlt := h.lt
  have e0 : y.cell? ⟨w.heap.size, 0, none⟩ = some (.string nm) := hgy.cell c0 (by simp; omega)
  have e1 : y.cell? ⟨w.heap.size, 1, none⟩ = some (.string tn) := hgy.cell c1 (by simp; omega)
  have f0 : y.cell? ⟨w0.heap.size, 0, none⟩ = some (.slice (adr b.a) b.ps.length b.c) := hgy.cell d0 (by simp; omega)
  have f1 : y.cell? ⟨w0.heap.size, 1, none⟩ = some (.int .i64 ((catL b.ps).size : Int)) := hgy.cell d1 (by simp; omega)
  obtain ⟨z, hrun2, hsh2, hgz⟩ := hsh.store (nm := tn) (da := dataL l nm) b ht (by omega) (hkp (own_keep hbf.row (below_trans b01 b12))) (hbf.dat hh) (fun f hf hne => hbf.apt f (mem_cutL.1 hf).1 (mem_cutL.1 hf).2) (Nat.le_trans hbf.pcs (by omega))
  simp only [Bd.V] at hrun2
  have HE : Hid (DoneEnd base m (N + 1) (putL (cutL l nm) tn (dataL l nm)) w (.returned (.tuple #[])) z) := hide ⟨rfl, (((below_trans b01 b12).mono HBL.out).grown hgy (by have := HBL.out; omega) (fun j hj => by cases hj; exact HML.out)).grown hgz (by have := HBL.out; have := hgy.size; omega) (fun j hj => by cases hj; exact HML.out), _, hsh2⟩
  have l3 : w.heap.size < y.heap.size := by have := hgy.size; omega
  have l4 : w0.heap.size < y.heap.size := by have := hgy.size; omega
  clear hsh hsh2 hgy hgz hkp hS1 hbf b01 b12 h hb s0 s1 hmlt c0 c1 d0 d1
  subst hw1
  subst hw0
  simp only [World.size_alloc] at f0 f1 l4
  go_enter Tryz.func109, Tryz.ntmps109
  go_wp2
  exact bodyPost_end (v := .tuple #[]) (by simp [results, Tryz.results109, go_sem]) rfl HE.out
theorem appFinds_any (nm da : ByteArray) (m : Nat) (w : World) :
    Calls Tryz.prog 105 #[.agg #[.string nm, .string da], .map (some m)] w fun e w' => e = .returned (.bool true) ∧ Below w.heap.size w w' := by
  go_enter Tryz.func105, Tryz.ntmps105
  go_wp2
  go_ret
  exact ⟨rfl, below_alloc (Below.refl _ _) _⟩
theorem renFinds_any (base m N : Nat) (l : List Fl) (β : ByteArray → Bd) (nm tn : ByteArray) (w : World) (hn : nm.size ≤ 4194304) (h : Shelf base m l β N w) :
    Calls Tryz.prog 110 #[.agg #[.string nm, .string tn], .map (some m)] w fun e w' => e = .returned (.bool (hasN l nm)) ∧ Below w.heap.size w w' := by
  have HH : Hid _ := hide h
  clear h
  go_enter Tryz.func110, Tryz.ntmps110
  go_wp2_with fail
  refine (has_any base m N l β nm _ hn (HH.out.below (below_alloc (Below.refl _ _) _))).mono ?_
  rintro e w1 ⟨rfl, hb1⟩
  have HB1 : Hid _ := hide (below_trans (below_alloc (Below.refl _ _) _) hb1)
  clear hb1
  go_wp2
  go_ret
  exact ⟨rfl, HB1.out⟩
theorem remFinds_any (base m N : Nat) (l : List Fl) (β : ByteArray → Bd) (nm : ByteArray) (w : World) (hn : nm.size ≤ 4194304) (h : Shelf base m l β N w) :
    Calls Tryz.prog 116 #[.agg #[.string nm], .map (some m)] w fun e w' => e = .returned (.bool (hasN l nm)) ∧ Below w.heap.size w w' := by
  have HH : Hid _ := hide h
  clear h
  go_enter Tryz.func116, Tryz.ntmps116
  go_wp2_with fail
  refine (has_any base m N l β nm _ hn (HH.out.below (below_alloc (Below.refl _ _) _))).mono ?_
  rintro e w1 ⟨rfl, hb1⟩
  have HB1 : Hid _ := hide (below_trans (below_alloc (Below.refl _ _) _) hb1)
  clear hb1
  go_wp2
  go_ret
  exact ⟨rfl, HB1.out⟩
end Go.Proofs.YtiilkkdbifhojaaGreat
/- The contract of the program's shelf.did. -/
namespace Go.Proofs.YtiilkkdbifhojaaGreat
open Go.ChangeShapes Go.WideShapes Go.ChangeAt Go.RowKit Go.Maps
set_option linter.unusedVariables false
set_option maxRecDepth 100000
theorem upon_invoke {P : Program} {o : Oper} {a : Act} {K : Act → World → Prop} {Q : Exit → Act → World → Prop} {r : Result Next} (f : FuncId) (args : Array Value) (w : World) (hr : r = .ok (.enter f args) w) (h : Oper.upon P o a K Q (.ok (.enter f args) w)) : Oper.upon P o a K Q r := by rw [hr]; exact h
/-- how an op is answered -/
def didV (l : List Fl) (o : Dp) : Int := if formB o then (if (doL l o).2 then (if fitB (doL l o).1 then 0 else 4) else 3) else 2
def DidEnd (base m N : Nat) (l : List Fl) (o : Dp) (w : World) (e : Ending) (w' : World) : Prop := e = .returned (.int .i64 (didV l o)) ∧ Below base w w' ∧ (formB o = true → (doL l o).2 = true → ∃ β, Shelf base m (doL l o).1 β (N + 1) w')
theorem kind_of {o : Dp} (h : formB o = true) : o.kind = 1 ∨ o.kind = 2 ∨ o.kind = 3 := by
  simp only [formB, Bool.and_eq_true, inB, decide_eq_true_eq] at h
  omega
theorem do_app {l : List Fl} {nm tn da : ByteArray} : doL l ⟨1, nm, tn, da⟩ = (putL l nm (appD l nm da), true) := by simp [doL]
theorem do_ren {l : List Fl} {nm tn da : ByteArray} : doL l ⟨2, nm, tn, da⟩ = if hasN l nm then (putL (cutL l nm) tn (dataL l nm), true) else (l, false) := by
  cases e : hasN l nm with
  | true => obtain ⟨k, hk, ha, _⟩ := hasN_at e; simp [doL, ha]
  | false => simp [doL, hasN_no e]
theorem do_rem {l : List Fl} {nm tn da : ByteArray} : doL l ⟨3, nm, tn, da⟩ = if hasN l nm then (cutL l nm, true) else (l, false) := by
  cases e : hasN l nm with
  | true => obtain ⟨k, hk, ha, _⟩ := hasN_at e; simp [doL, ha]
  | false => simp [doL, hasN_no e]
set_option maxHeartbeats 4000000 in
theorem did_app (base m N : Nat) (l : List Fl) (β : ByteArray → Bd) (nm tn da : ByteArray) (w : World) (hs : SmO ⟨1, nm, tn, da⟩) (hN : N ≤ 10000) (hz : datL l ≤ 400000) (hz2 : datL (doL l ⟨1, nm, tn, da⟩).1 ≤ 1000000000) (h : Shelf base m l β N w) (hf : formB ⟨1, nm, tn, da⟩ = true) :
    Calls Tryz.prog 37 #[.map (some m), .agg #[.int .i64 1, .string nm, .string tn, .string da]] w fun e w' => DidEnd base m N l ⟨1, nm, tn, da⟩ w e w' := by
  have HH : Hid _ := hide h
  have HBL : Hid _ := hide h.base_le
  have HB0 : Hid (Below w.heap.size w (w.alloc (.cells #[.int .i64 1, .string nm, .string tn, .string da] 50))) := hide (below_alloc (Below.refl _ _) _)
  have HOP := opOf_any ⟨1, nm, tn, da⟩ (w.alloc (.cells #[.int .i64 1, .string nm, .string tn, .string da] 50)) hs
  obtain ⟨s1, s2, s3⟩ := hs
  simp only at s1 s2 s3
  rw [hf] at HOP
  have HO : Hid _ := hide HOP
  have HF : Hid _ := hide hf
  clear HOP h hf
  go_enter Tryz.func37, Tryz.ntmps37
  go_wp2_with fail
  refine HO.out.mono ?_
  rintro e w1 ⟨rfl, hb1⟩
  have HB1 : Hid _ := hide (below_trans HB0.out hb1)
  have HS1 : Hid _ := hide (HH.out.below HB1.out)
  clear hb1
  have eo : opV ⟨1, nm, tn, da⟩ = .iface 97 (.agg #[.string nm, .string da]) := rfl
  rw [eo]
  go_wp2_with fail
  refine upon_invoke 105 #[.agg #[.string nm, .string da], .map (some m)] w1 (by kernel_rfl) ?_
  rw [Oper.upon_enter]
  refine (appFinds_any nm da m w1).mono ?_
  rintro e w2 ⟨rfl, hb2⟩
  have HB2 : Hid _ := hide (below_trans HB1.out hb2)
  have HS2 : Hid _ := hide (HS1.out.below hb2)
  clear hb2
  go_wp2_with fail
  refine upon_invoke 104 #[.agg #[.string nm, .string da], .map (some m)] w2 (by kernel_rfl) ?_
  rw [Oper.upon_enter]
  refine (appDo_any base m N l β nm da w2 (by omega) (by omega) (by omega) (by omega) HS2.out).mono ?_
  rintro e w3 ⟨rfl, hb3, β3, hsh3⟩
  have HB3 : Hid (Below base w w3) := hide ((HB2.out.mono HBL.out).trans hb3)
  have HS3 : Hid (Shelf base m (doL l ⟨1, nm, tn, da⟩).1 β3 (N + 1) w3) := hide (by rw [do_app]; exact hsh3)
  clear hb3 hsh3
  go_wp2_with fail
  refine (fits_any base m (N + 1) _ β3 w3 hz2 HS3.out).mono ?_
  rintro e w4 ⟨rfl, hb4⟩
  have HB4 : Hid (Below base w w4) := hide (HB3.out.trans (hb4.mono (Nat.le_trans HBL.out HB3.out.size)))
  have HS4 : Hid _ := hide (HS3.out.below hb4)
  clear hb4
  have HDV : Hid (didV l ⟨1, nm, tn, da⟩ = if fitB (doL l ⟨1, nm, tn, da⟩).1 then 0 else 4) := hide (by unfold didV; rw [HF.out, do_app]; rfl)
  have HEN : Hid (∀ c : Int, c = didV l ⟨1, nm, tn, da⟩ → DidEnd base m N l ⟨1, nm, tn, da⟩ w (.returned (.int .i64 c)) w4) := hide (fun c hc => ⟨by rw [hc], HB4.out, fun _ _ => ⟨β3, HS4.out⟩⟩)
  generalize (doL l ⟨1, nm, tn, da⟩).1 = l2 at *
  cases qf : fitB l2
  · have HC : Hid ((4 : Int) = didV l ⟨1, nm, tn, da⟩) := hide (by rw [HDV.out, qf]; rfl)
    go_wp2
    go_ret
    exact HEN.out _ HC.out
  · have HC : Hid ((0 : Int) = didV l ⟨1, nm, tn, da⟩) := hide (by rw [HDV.out, qf]; rfl)
    go_wp2
    go_ret
    exact HEN.out _ HC.out
set_option maxHeartbeats 4000000 in
theorem did_ren (base m N : Nat) (l : List Fl) (β : ByteArray → Bd) (nm tn da : ByteArray) (w : World) (hs : SmO ⟨2, nm, tn, da⟩) (hN : N ≤ 10000) (hz : datL l ≤ 400000) (hz2 : datL (doL l ⟨2, nm, tn, da⟩).1 ≤ 1000000000) (h : Shelf base m l β N w) (hf : formB ⟨2, nm, tn, da⟩ = true) :
    Calls Tryz.prog 37 #[.map (some m), .agg #[.int .i64 2, .string nm, .string tn, .string da]] w fun e w' => DidEnd base m N l ⟨2, nm, tn, da⟩ w e w' := by
  have HH : Hid _ := hide h
  have HBL : Hid _ := hide h.base_le
  have HB0 : Hid (Below w.heap.size w (w.alloc (.cells #[.int .i64 2, .string nm, .string tn, .string da] 50))) := hide (below_alloc (Below.refl _ _) _)
  have HOP := opOf_any ⟨2, nm, tn, da⟩ (w.alloc (.cells #[.int .i64 2, .string nm, .string tn, .string da] 50)) hs
  obtain ⟨s1, s2, s3⟩ := hs
  simp only at s1 s2 s3
  rw [hf] at HOP
  have HO : Hid _ := hide HOP
  have HF : Hid _ := hide hf
  clear HOP h hf
  go_enter Tryz.func37, Tryz.ntmps37
  go_wp2_with fail
  refine HO.out.mono ?_
  rintro e w1 ⟨rfl, hb1⟩
  have HB1 : Hid _ := hide (below_trans HB0.out hb1)
  have HS1 : Hid _ := hide (HH.out.below HB1.out)
  clear hb1
  have eo : opV ⟨2, nm, tn, da⟩ = .iface 99 (.agg #[.string nm, .string tn]) := rfl
  rw [eo]
  go_wp2_with fail
  refine upon_invoke 110 #[.agg #[.string nm, .string tn], .map (some m)] w1 (by kernel_rfl) ?_
  rw [Oper.upon_enter]
  refine (renFinds_any base m N l β nm tn w1 (by omega) HS1.out).mono ?_
  rintro e w2 ⟨rfl, hb2⟩
  have HB2 : Hid _ := hide (below_trans HB1.out hb2)
  have HS2 : Hid _ := hide (HS1.out.below hb2)
  clear hb2
  cases hh : hasN l nm
  · have HEN : Hid (DidEnd base m N l ⟨2, nm, tn, da⟩ w (.returned (.int .i64 3)) w2) := hide ⟨by unfold didV; rw [HF.out, do_ren, hh]; rfl, HB2.out.mono HBL.out, fun _ q => by rw [do_ren, hh] at q; cases q⟩
    go_wp2
    go_ret
    exact HEN.out
  · skip
    go_wp2_with fail
    refine upon_invoke 109 #[.agg #[.string nm, .string tn], .map (some m)] w2 (by kernel_rfl) ?_
    rw [Oper.upon_enter]
    refine (renDo_any base m N l β nm tn w2 (by omega) (by omega) (by omega) hh HS2.out).mono ?_
    rintro e w3 ⟨rfl, hb3, β3, hsh3⟩
    have HB3 : Hid (Below base w w3) := hide ((HB2.out.mono HBL.out).trans hb3)
    have HS3 : Hid (Shelf base m (doL l ⟨2, nm, tn, da⟩).1 β3 (N + 1) w3) := hide (by rw [do_ren, hh, if_pos rfl]; exact hsh3)
    clear hb3 hsh3
    go_wp2_with fail
    refine (fits_any base m (N + 1) _ β3 w3 hz2 HS3.out).mono ?_
    rintro e w4 ⟨rfl, hb4⟩
    have HB4 : Hid (Below base w w4) := hide (HB3.out.trans (hb4.mono (Nat.le_trans HBL.out HB3.out.size)))
    have HS4 : Hid _ := hide (HS3.out.below hb4)
    clear hb4
    have HDV : Hid (didV l ⟨2, nm, tn, da⟩ = if fitB (doL l ⟨2, nm, tn, da⟩).1 then 0 else 4) := hide (by unfold didV; rw [HF.out, do_ren, hh, if_pos rfl]; rfl)
    have HEN : Hid (∀ c : Int, c = didV l ⟨2, nm, tn, da⟩ → DidEnd base m N l ⟨2, nm, tn, da⟩ w (.returned (.int .i64 c)) w4) := hide (fun c hc => ⟨by rw [hc], HB4.out, fun _ _ => ⟨β3, HS4.out⟩⟩)
    generalize (doL l ⟨2, nm, tn, da⟩).1 = l2 at *
    cases qf : fitB l2
    · have HC : Hid ((4 : Int) = didV l ⟨2, nm, tn, da⟩) := hide (by rw [HDV.out, qf]; rfl)
      go_wp2
      go_ret
      exact HEN.out _ HC.out
    · have HC : Hid ((0 : Int) = didV l ⟨2, nm, tn, da⟩) := hide (by rw [HDV.out, qf]; rfl)
      go_wp2
      go_ret
      exact HEN.out _ HC.out
set_option maxHeartbeats 4000000 in
theorem did_rem (base m N : Nat) (l : List Fl) (β : ByteArray → Bd) (nm tn da : ByteArray) (w : World) (hs : SmO ⟨3, nm, tn, da⟩) (hN : N ≤ 10000) (hz : datL l ≤ 400000) (hz2 : datL (doL l ⟨3, nm, tn, da⟩).1 ≤ 1000000000) (h : Shelf base m l β N w) (hf : formB ⟨3, nm, tn, da⟩ = true) :
    Calls Tryz.prog 37 #[.map (some m), .agg #[.int .i64 3, .string nm, .string tn, .string da]] w fun e w' => DidEnd base m N l ⟨3, nm, tn, da⟩ w e w' := by
  have HH : Hid _ := hide h
  have HBL : Hid _ := hide h.base_le
  have HB0 : Hid (Below w.heap.size w (w.alloc (.cells #[.int .i64 3, .string nm, .string tn, .string da] 50))) := hide (below_alloc (Below.refl _ _) _)
  have HOP := opOf_any ⟨3, nm, tn, da⟩ (w.alloc (.cells #[.int .i64 3, .string nm, .string tn, .string da] 50)) hs
  obtain ⟨s1, s2, s3⟩ := hs
  simp only at s1 s2 s3
  rw [hf] at HOP
  have HO : Hid _ := hide HOP
  have HF : Hid _ := hide hf
  clear HOP h hf
  go_enter Tryz.func37, Tryz.ntmps37
  go_wp2_with fail
  refine HO.out.mono ?_
  rintro e w1 ⟨rfl, hb1⟩
  have HB1 : Hid _ := hide (below_trans HB0.out hb1)
  have HS1 : Hid _ := hide (HH.out.below HB1.out)
  clear hb1
  have eo : opV ⟨3, nm, tn, da⟩ = .iface 101 (.agg #[.string nm]) := rfl
  rw [eo]
  go_wp2_with fail
  refine upon_invoke 116 #[.agg #[.string nm], .map (some m)] w1 (by kernel_rfl) ?_
  rw [Oper.upon_enter]
  refine (remFinds_any base m N l β nm w1 (by omega) HS1.out).mono ?_
  rintro e w2 ⟨rfl, hb2⟩
  have HB2 : Hid _ := hide (below_trans HB1.out hb2)
  have HS2 : Hid _ := hide (HS1.out.below hb2)
  clear hb2
  cases hh : hasN l nm
  · have HEN : Hid (DidEnd base m N l ⟨3, nm, tn, da⟩ w (.returned (.int .i64 3)) w2) := hide ⟨by unfold didV; rw [HF.out, do_rem, hh]; rfl, HB2.out.mono HBL.out, fun _ q => by rw [do_rem, hh] at q; cases q⟩
    go_wp2
    go_ret
    exact HEN.out
  · skip
    go_wp2_with fail
    refine upon_invoke 115 #[.agg #[.string nm], .map (some m)] w2 (by kernel_rfl) ?_
    rw [Oper.upon_enter]
    refine (remDo_any base m N l β nm w2 (by omega) HS2.out).mono ?_
    rintro e w3 ⟨rfl, hb3, β3, hsh3⟩
    have HB3 : Hid (Below base w w3) := hide ((HB2.out.mono HBL.out).trans hb3)
    have HS3 : Hid (Shelf base m (doL l ⟨3, nm, tn, da⟩).1 β3 (N + 1) w3) := hide (by rw [do_rem, hh, if_pos rfl]; exact hsh3.mono (by omega))
    clear hb3 hsh3
    go_wp2_with fail
    refine (fits_any base m (N + 1) _ β3 w3 hz2 HS3.out).mono ?_
    rintro e w4 ⟨rfl, hb4⟩
    have HB4 : Hid (Below base w w4) := hide (HB3.out.trans (hb4.mono (Nat.le_trans HBL.out HB3.out.size)))
    have HS4 : Hid _ := hide (HS3.out.below hb4)
    clear hb4
    have HDV : Hid (didV l ⟨3, nm, tn, da⟩ = if fitB (doL l ⟨3, nm, tn, da⟩).1 then 0 else 4) := hide (by unfold didV; rw [HF.out, do_rem, hh, if_pos rfl]; rfl)
    have HEN : Hid (∀ c : Int, c = didV l ⟨3, nm, tn, da⟩ → DidEnd base m N l ⟨3, nm, tn, da⟩ w (.returned (.int .i64 c)) w4) := hide (fun c hc => ⟨by rw [hc], HB4.out, fun _ _ => ⟨β3, HS4.out⟩⟩)
    generalize (doL l ⟨3, nm, tn, da⟩).1 = l2 at *
    cases qf : fitB l2
    · have HC : Hid ((4 : Int) = didV l ⟨3, nm, tn, da⟩) := hide (by rw [HDV.out, qf]; rfl)
      go_wp2
      go_ret
      exact HEN.out _ HC.out
    · have HC : Hid ((0 : Int) = didV l ⟨3, nm, tn, da⟩) := hide (by rw [HDV.out, qf]; rfl)
      go_wp2
      go_ret
      exact HEN.out _ HC.out
set_option maxHeartbeats 1000000 in
theorem did_any (base m N : Nat) (l : List Fl) (β : ByteArray → Bd) (o : Dp) (w : World) (hs : SmO o) (hN : N ≤ 10000) (hz : datL l ≤ 400000) (hz2 : datL (doL l o).1 ≤ 1000000000) (h : Shelf base m l β N w) :
    Calls Tryz.prog 37 #[.map (some m), .agg #[.int .i64 o.kind, .string o.nm, .string o.tn, .string o.da]] w fun e w' => DidEnd base m N l o w e w' := by
  cases hf : formB o with
  | true =>
    obtain ⟨kind, nm, tn, da⟩ := o
    rcases kind_of hf with k | k | k
    · simp only at k; subst k; exact did_app base m N l β nm tn da w hs hN hz hz2 h hf
    · simp only at k; subst k; exact did_ren base m N l β nm tn da w hs hN hz hz2 h hf
    · simp only at k; subst k; exact did_rem base m N l β nm tn da w hs hN hz hz2 h hf
  | false =>
    have HBL : Hid _ := hide h.base_le
    have HB0 : Hid (Below w.heap.size w (w.alloc (.cells #[.int .i64 o.kind, .string o.nm, .string o.tn, .string o.da] 50))) := hide (below_alloc (Below.refl _ _) _)
    have HOP := opOf_any o (w.alloc (.cells #[.int .i64 o.kind, .string o.nm, .string o.tn, .string o.da] 50)) hs
    rw [hf] at HOP
    have HO : Hid _ := hide HOP
    have HF : Hid _ := hide hf
    clear HOP h hf
    go_enter Tryz.func37, Tryz.ntmps37
    go_wp2_with fail
    refine HO.out.mono ?_
    rintro e w1 ⟨rfl, hb1⟩
    have HEN : Hid (DidEnd base m N l o w (.returned (.int .i64 2)) w1) := hide ⟨by unfold didV; rw [HF.out]; rfl, (below_trans HB0.out hb1).mono HBL.out, fun q => by rw [HF.out] at q; cases q⟩
    clear hb1
    generalize opV o = ov at *
    go_wp2
    go_ret
    exact HEN.out
end Go.Proofs.YtiilkkdbifhojaaGreat
/- The contract of the program's DiskOk. -/
namespace Go.Proofs.YtiilkkdbifhojaaGreat
open Go.ChangeShapes Go.WideShapes Go.ChangeAt Go.RowKit Go.Maps
set_option linter.unusedVariables false
set_option maxRecDepth 100000
set_option maxHeartbeats 4000000 in
theorem equal_any (a c : Option Addr) (l l' : List Fl) (ca cc : Nat) (w : World) (hl : l.length ≤ 1048576) (hl' : l'.length ≤ 1048576) (h : RowAt 2 flCells w a l) (h' : RowAt 2 flCells w c l') :
    Calls Tryz.prog 38 #[.slice a l.length ca, .slice c l'.length cc] w fun e w' => e = .returned (.bool (decide (l = l'))) ∧ Below w.heap.size w w' := by
  have HC : Hid _ := hide h
  have HC' : Hid _ := hide h'
  clear h h'
  by_cases hln : l.length = l'.length
  · have hln' : ((l.length : Int) != (l'.length : Int)) = false := by simp; omega
    have HLN : Hid _ := hide hln
    clear hln
    go_enter Tryz.func38, Tryz.ntmps38
    go_wp2
    go_loopw [13] (fun i wr => ∃ (k : Nat), k ≤ l.length ∧ i = .int .i64 (k : Int) ∧ Hid (Below w.heap.size w wr) ∧ Hid (∀ j (hj : j < l.length) (hj' : j < l'.length), j < k → l[j] = l'[j])) (fun i wr => l.length - (intOf i).toNat)
    case atStart => exact ⟨0, Nat.zero_le _, rfl, hide (Below.refl _ _), hide (fun j _ _ hj => by omega)⟩
    case round =>
      obtain ⟨k, hk, rfl, HB, HE⟩ := hrel
      by_cases hlt : k < l.length
      · have hlt' : (k : Int) < (l.length : Int) := by omega
        have hl2 : k < l'.length := by have := HLN.out; omega
        have hl3 : (k : Int) < (l'.length : Int) := by omega
        obtain ⟨b, off, rfl, hb, c0, c1⟩ := fl_row (HC.out.below HB.out) k hlt
        obtain ⟨b', off', rfl, hb', p0, p1⟩ := fl_row (HC'.out.below HB.out) k hl2
        by_cases he : l[k] = l'[k]
        · have HE2 : Hid (∀ j (hj : j < l.length) (hj' : j < l'.length), j < k + 1 → l[j] = l'[j]) := hide (fun j hj hj' hjk => by
            rcases Nat.lt_or_ge j k with h | h
            · exact HE.out j hj hj' h
            · obtain rfl : j = k := by omega
              exact he)
          rw [← he] at p0 p1
          clear he
          go_wp2_with fail
          go_quiet (fail)
          go_wp2
          exact ⟨⟨k + 1, by omega, by go_num, hide (below_drewN HB.out _), HE2⟩, by simp [intOf]; omega⟩
        · have HR : Hid (decide (l = l') = false) := hide (by simp; intro e; exact he (by simp [e]))
          have hnn : ((l[k]).nm.toList == (l'[k]).nm.toList && (l[k]).da.toList == (l'[k]).da.toList) = false := by
            rw [Bool.eq_false_iff]
            intro e
            simp only [Bool.and_eq_true] at e
            exact he (by
              have e1 := beq_bytes.1 e.1
              have e2 := beq_bytes.1 e.2
              revert e1 e2
              cases l[k]; cases l'[k]; simp_all)
          clear he
          cases e1 : ((l[k]).nm.toList == (l'[k]).nm.toList)
          · go_wp2_with fail
            go_quiet (fail)
            go_wp2
            go_ret
            exact ⟨by rw [HR.out]; rfl, below_drewN HB.out _⟩
          · rw [e1, Bool.true_and] at hnn
            go_wp2_with fail
            go_quiet (fail)
            go_wp2
            go_ret
            exact ⟨by rw [HR.out]; rfl, below_drewN HB.out _⟩
      · have hk' : ¬ (k : Int) < (l.length : Int) := by omega
        have HR : Hid (decide (l = l') = true) := hide (by
          simp only [decide_eq_true_eq]
          have := HLN.out
          exact List.ext_getElem this (fun i h1 h2 => HE.out i h1 h2 (by omega)))
        go_wp2
        go_ret
        exact ⟨by rw [HR.out]; rfl, HB.out⟩
  · have HR : Hid (decide (l = l') = false) := hide (by simp; intro e; exact hln (by rw [e]))
    have hln' : ((l.length : Int) != (l'.length : Int)) = true := by simp; omega
    go_enter Tryz.func38, Tryz.ntmps38
    go_wp2
    go_ret
    exact ⟨by rw [HR.out]; rfl, Below.refl _ _⟩
theorem flB_of {l : List Fl} (hs : Srt l) (hn : ∀ f ∈ l, nmB f.nm = true) : allTo (flB l) l.length = true := by
  have : ∀ k, k ≤ l.length → allTo (flB l) k = true := by
    intro k
    induction k with
    | zero => intro _; rfl
    | succ k ih =>
      intro hk
      refine allTo_step (ih (by omega)) ?_
      have hlt : k < l.length := by omega
      rw [flB_at hlt, hn _ (List.getElem_mem hlt), Bool.true_and]
      cases k with
      | zero => rfl
      | succ m =>
        rw [rises_fl hlt]
        exact less_iff.2 (List.pairwise_iff_getElem.1 hs m (m + 1) (by omega) hlt (by omega))
  exact this _ (Nat.le_refl _)
theorem filesB_nms {l : List Fl} (h : filesB l = true) : ∀ f ∈ l, nmB f.nm = true := fun f hf => by
  obtain ⟨i, hi, rfl⟩ := List.getElem_of_mem hf
  have := allTo_get (filesB_parts h).2.1 hi
  rw [flB_at hi] at this
  simp only [Bool.and_eq_true] at this
  exact this.1
theorem fit_files {l : List Fl} (hs : Srt l) (hn : ∀ f ∈ l, nmB f.nm = true) : filesB l = fitB l := by
  simp only [filesB, fitB, flB_of hs hn, Bool.and_true]
  congr 1
  exact decide_eq_decide.2 (by omega)
theorem doL_files {l : List Fl} {o : Dp} (h : filesB l = true) (hf : formB o = true) : filesB (doL l o).1 = fitB (doL l o).1 := by
  have hs := filesB_srt h
  have hn := filesB_nms h
  have hnm : nmB o.nm = true := by simp only [formB, Bool.and_eq_true] at hf; exact hf.1.2
  have htn : (o.kind == 2) = true → nmB o.tn = true := fun q => by
    simp only [formB, q, if_true, Bool.and_eq_true] at hf
    exact hf.2.1
  unfold doL
  split
  · refine fit_files (srt_putL hs _ _) (fun f hf => ?_)
    rcases (mem_putL hs).1 hf with rfl | ⟨hf, _⟩
    · exact hnm
    · exact hn f hf
  · split
    · exact fit_files hs hn
    · simp only
      split
      · rename_i q
        refine fit_files (srt_putL (srt_cutL hs _) _ _) (fun f hf => ?_)
        rcases (mem_putL (srt_cutL hs _)).1 hf with rfl | ⟨hf, _⟩
        · exact htn q
        · exact hn f (mem_cutL.1 hf).1
      · exact fit_files (srt_cutL hs _) (fun f hf => hn f (mem_cutL.1 hf).1)
theorem step_did {l : List Fl} {o : Dp} (h : filesB l = true) : (didV l o = 0 ∧ stepL l o = some (doL l o).1 ∧ formB o = true ∧ (doL l o).2 = true ∧ filesB (doL l o).1 = true) ∨ ((didV l o != 0) = true ∧ stepL l o = none) := by
  unfold didV stepL
  cases hf : formB o with
  | false => exact .inr ⟨by simp, by simp⟩
  | true =>
    rw [doL_files h hf]
    cases hd : (doL l o).2 with
    | false => exact .inr ⟨by simp, by simp⟩
    | true =>
      cases hb : fitB (doL l o).1 with
      | false => exact .inr ⟨by simp, by simp⟩
      | true => exact .inl ⟨by simp, by simp, rfl, rfl, rfl⟩
theorem doL_dat {l : List Fl} {o : Dp} (h : filesB l = true) (ho : SmO o) : datL (doL l o).1 ≤ 1000000000 := by
  obtain ⟨h1, h2⟩ := doL_small h ho
  have h3 := datL_bd (l := (doL l o).1) (M := 4194304) (fun f hf => (h1 f hf).2)
  have h4 : 4194304 * (doL l o).1.length ≤ 4194304 * 200 := Nat.mul_le_mul_left _ h2
  omega
abbrev S1c (p : Addr) (u : Value) (W x : World) : Prop := x.cell? p = some u ∧ Hid (Below W.heap.size W x)
theorem S1c.of {p : Addr} {u : Value} {W x : World} (h1 : W.cell? p = some u) (b : Below W.heap.size W x) : S1c p u W x := ⟨below_keeps b _ _ h1, hide b⟩
theorem S1c.on {p : Addr} {u : Value} {W x y : World} (h : S1c p u W x) (b : Below x.heap.size x y) : S1c p u W y := ⟨below_keeps b _ _ h.1, hide (below_trans h.2.out b)⟩
set_option maxHeartbeats 8000000 in
theorem implDiskOk_any (la sa oa : Option Addr) (lc sc oc : Nat) (live safe : List Fl) (ops : List Dp) (w : World) (hl : live.length ≤ 1048576) (hs : safe.length ≤ 1048576) (hn : ops.length ≤ 1048576) (gl : SmF live) (gs : SmF safe) (go : ∀ o ∈ ops, SmO o)
    (h1 : RowAt 2 flCells w la live) (h2 : RowAt 2 flCells w sa safe) (h3 : RowAt 4 dpCells w oa ops) :
    Calls Tryz.prog 16 #[.agg #[.slice la live.length lc, .slice sa safe.length sc, .slice oa ops.length oc]] w fun e w' => e = .returned (.bool (diskB ⟨live, safe, ops⟩)) ∧ Below w.heap.size w w' := by
  have H1 : Hid _ := hide h1
  have H2 : Hid _ := hide h2
  have H3 : Hid _ := hide h3
  have GO : Hid _ := hide go
  clear h1 h2 h3 go
  have HX0 : Hid (Below (w.heap.size + 1) (w.alloc (.cells #[.slice la live.length lc, .slice sa safe.length sc, .slice oa ops.length oc] 27)) (w.alloc (.cells #[.slice la live.length lc, .slice sa safe.length sc, .slice oa ops.length oc] 27))) := hide (Below.refl _ _)
  by_cases h200 : ops.length ≤ 200
  · have a2 : ¬ (200 : Int) < (ops.length : Int) := by omega
    go_enter Tryz.func16, Tryz.ntmps16
    go_wp2_with fail
    refine (filesOk_any la live lc _ hl gl.g0 (H1.out.below (box_old HX0.out))).mono ?_
    rintro e w1 ⟨rfl, hb1⟩
    have HX1 : Hid _ := hide (box_on HX0.out hb1)
    clear hb1 HX0
    obtain ⟨x0, x1, x2⟩ := box3 HX1.out
    have xl := box_lt HX1.out
    cases q1 : filesB live
    · have HR : Hid (diskB ⟨live, safe, ops⟩ = false) := hide (by simp [diskB, q1])
      go_wp2
      go_ret
      exact ⟨by rw [HR.out]; rfl, box_old HX1.out⟩
    · go_wp2_with fail
      refine (filesOk_any sa safe sc _ hs gs.g0 (H2.out.below (box_old HX1.out))).mono ?_
      rintro e w2 ⟨rfl, hb2⟩
      have HX2 : Hid _ := hide (box_on HX1.out hb2)
      clear hb2 HX1 x0 x1 x2 xl
      obtain ⟨x0, x1, x2⟩ := box3 HX2.out
      have xl := box_lt HX2.out
      cases q2 : filesB safe
      · have HR : Hid (diskB ⟨live, safe, ops⟩ = false) := hide (by simp [diskB, q2])
        go_wp2
        go_ret
        exact ⟨by rw [HR.out]; rfl, box_old HX2.out⟩
      · have HRUN : Hid _ := hide (diskB_run q1 q2 h200)
        have HQ2 : Hid _ := hide q2
        have h60 : live.length ≤ 60 := (filesB_parts q1).1
        have hs60 : safe.length ≤ 60 := (filesB_parts q2).1
        go_wp2_with fail
        refine (shelfOf_any sa safe sc w2 hs60 gs.g0 (filesB_srt q2) (H2.out.below (box_old HX2.out))).mono ?_
        rintro e w3 ⟨hb3, m, β, rfl, hsh⟩
        have HX3 : Hid _ := hide (box_on HX2.out hb3)
        have HSH : Hid _ := hide (hsh.mono hs60)
        have HBS : Hid (w.heap.size + 1 ≤ w2.heap.size) := hide xl
        clear hb3 hsh HX2 x0 x1 x2 xl q1 q2
        obtain ⟨x0, x1, x2⟩ := box3 HX3.out
        have xl := box_lt HX3.out
        generalize w2.heap.size = base at *
        go_wp2
        go_loopw [28] (fun i wr => ∃ (k : Nat) (now : List Fl) (β : ByteArray → Bd), k ≤ ops.length ∧ i = .int .i64 (k : Int) ∧ Hid (runL safe (ops.take k) = some now) ∧ Hid (filesB now = true) ∧ Hid (Shelf base m now β (60 + k) wr) ∧ Hid (Below (w.heap.size + 1) (w.alloc (.cells #[.slice la live.length lc, .slice sa safe.length sc, .slice oa ops.length oc] 27)) wr)) (fun i wr => ops.length - (intOf i).toNat)
        case atStart => exact ⟨0, safe, β, Nat.zero_le _, rfl, hide rfl, HQ2, HSH, HX3⟩
        case round =>
          clear HSH HX3 x0 x1 x2 xl
          obtain ⟨k, now, β, hk, rfl, HRK, HFN, HSH, HX⟩ := hrel
          obtain ⟨x0, x1, x2⟩ := box3 HX.out
          have xl := box_lt HX.out
          by_cases hlt : k < ops.length
          · have hlt' : (k : Int) < (ops.length : Int) := by omega
            obtain ⟨b, off, rfl, hb, c0, c1, c2, c3⟩ := dp_row (H3.out.below (box_old HX.out)) k hlt
            have HSO : Hid (SmO ops[k]) := hide (GO.out _ (List.getElem_mem hlt))
            have HW2 : Hid (Below wr.heap.size wr (wr.alloc (.cells #[.int .i64 (ops[k]).kind, .string (ops[k]).nm, .string (ops[k]).tn, .string (ops[k]).da] 50))) := hide (below_alloc (Below.refl _ _) _)
            have HSD : Hid _ := hide (step_did (o := ops[k]) HFN.out)
            have HBB : Hid _ := hide HSH.out.base_le
            go_wp2_with fail
            refine (did_any base m (60 + k) now β ops[k] _ HSO.out (by omega) (by have := (filesB_parts HFN.out).2.2; omega) (doL_dat HFN.out HSO.out) (HSH.out.below HW2.out)).mono ?_
            rintro e w4 ⟨rfl, hb4, hsh4⟩
            have HX4 : Hid (Below (w.heap.size + 1) (w.alloc (.cells #[.slice la live.length lc, .slice sa safe.length sc, .slice (some ⟨b, off, none⟩) ops.length oc] 27)) w4) := hide ((HX.out.trans (HW2.out.mono xl)).trans (hb4.mono HBS.out))
            have HS4 : Hid _ := hide hsh4
            clear hb4 hsh4 HX x0 x1 x2 xl c0 c1 c2 c3 hb HW2
            rcases HSD.out with ⟨d0, d1, d2, d3, d4⟩ | ⟨d0, d1⟩
            · obtain ⟨β4, hsh5⟩ := HS4.out d2 d3
              have HS5 : Hid (Shelf base m (doL now ops[k]).1 β4 (60 + (k + 1)) w4) := hide hsh5
              have HRK2 : Hid (runL safe (ops.take (k + 1)) = some (doL now ops[k]).1) := hide (by rw [runL_next safe ops k hlt HRK.out]; exact d1)
              have HD4 : Hid _ := hide d4
              rw [d0]
              clear d0 d1 d2 d3 d4 hsh5 HS4 HSD
              go_wp2
              exact ⟨⟨k + 1, _, β4, by omega, by go_num, HRK2, HD4, HS5, HX4⟩, by simp [intOf]; omega⟩
            · have HR : Hid (diskB ⟨live, safe, ops⟩ = false) := hide (diskB_stop hlt HRK.out d1)
              clear d1 HS4 HSD
              generalize didV now ops[k] = dv at *
              go_wp2
              go_ret
              exact ⟨by rw [HR.out]; rfl, box_old HX4.out⟩
          · have hk' : ¬ (k : Int) < (ops.length : Int) := by omega
            have HRR : Hid (diskB ⟨live, safe, ops⟩ = decide (now = live)) := hide (by
              have := HRK.out
              rw [List.take_of_length_le (by omega)] at this
              rw [HRUN.out, this]
              rfl)
            have hn60 : now.length ≤ 60 := (filesB_parts HFN.out).1
            have hnd : datL now ≤ 200000 := (filesB_parts HFN.out).2.2
            have HFL : Hid (∀ x, S1c ⟨w.heap.size, 0, none⟩ (.slice la live.length lc) wr x → Calls Tryz.prog 30 #[.map (some m)] x fun e w' => NewF now x e w') := hide (fun x hx => files_any base m (60 + k) now β x (by omega) (by omega) (by omega) (HSH.out.below hx.2.out))
            go_wp2_with fail
            go_region_held3 (fun x => x.cell? ⟨w.heap.size, 0, none⟩ = some (.slice la live.length lc) ∧ Hid (Below wr.heap.size wr x))
              (first | with_reducible exact S1c.of x0 (Below.refl _ _).drew | with_reducible exact S1c.on (by assumption) (by assumption) | with_reducible assumption)
              (first
                | (go_at_call 30; refine (HFL.out _ (by assumption)).mono ?_; rintro e w4 ⟨hb4, v4, rfl, ho4⟩; obtain ⟨a4, c4, rfl, hr4, _⟩ := own_read ho4; have HR4 : Hid _ := hide hr4; clear ho4 hr4)
                | (go_at_call 38; refine (equal_any a4 la now live c4 lc _ (by omega) (by omega) HR4.out (H1.out.below (below_trans (box_old HX.out) (by assumption : S1c ⟨w.heap.size, 0, none⟩ (.slice la live.length lc) wr _).2.out))).mono ?_; rintro e w5 ⟨rfl, hb5⟩))
            have HE : Hid (Below w.heap.size w w5) := hide (below_trans (box_old HX.out) (by assumption : S1c ⟨w.heap.size, 0, none⟩ (.slice la live.length lc) wr w5).2.out)
            clear hb4 hb5
            go_wp2
            go_ret
            exact ⟨by rw [HRR.out]; rfl, HE.out⟩
  · have a2 : (200 : Int) < (ops.length : Int) := by omega
    have HR : Hid (diskB ⟨live, safe, ops⟩ = false) := hide (by simp [diskB, h200])
    go_enter Tryz.func16, Tryz.ntmps16
    go_wp2
    go_ret
    exact ⟨by rw [HR.out]; rfl, box_old HX0.out⟩
end Go.Proofs.YtiilkkdbifhojaaGreat
/- What the walks of the laws of disks carry on. -/
namespace Go.Proofs.YtiilkkdbifhojaaGreat
open Go.ChangeShapes Go.WideShapes Go.ChangeAt Go.RowKit
set_option linter.unusedVariables false
set_option maxRecDepth 100000
def YesEnd (w : World) (e : Ending) (w' : World) : Prop := e = .returned (.bool true) ∧ Below w.heap.size w w'
theorem bne_bool (b : Bool) : (b != b) = false := by cases b <;> rfl
theorem Sms.f {l : List Fl} (h : Sms SmF1 l) : SmF l := h.2
abbrev S6d (A B : Nat) (p0 p1 p2 q0 q1 q2 : Value) (W x : World) : Prop := x.cell? ⟨A, 0, none⟩ = some p0 ∧ x.cell? ⟨A, 1, none⟩ = some p1 ∧ x.cell? ⟨A, 2, none⟩ = some p2 ∧ x.cell? ⟨B, 0, none⟩ = some q0 ∧ x.cell? ⟨B, 1, none⟩ = some q1 ∧ x.cell? ⟨B, 2, none⟩ = some q2 ∧ Hid (Below W.heap.size W x)
theorem S6d.of {A B : Nat} {p0 p1 p2 q0 q1 q2 : Value} {W x : World} (h : Blk A [p0, p1, p2] W) (k : Blk B [q0, q1, q2] W) (b : Below W.heap.size W x) : S6d A B p0 p1 p2 q0 q1 q2 W x :=
  ⟨(h.below b).c 0 _ rfl, (h.below b).c 1 _ rfl, (h.below b).c 2 _ rfl, (k.below b).c 0 _ rfl, (k.below b).c 1 _ rfl, (k.below b).c 2 _ rfl, hide b⟩
theorem S6d.on {A B : Nat} {p0 p1 p2 q0 q1 q2 : Value} {W x y : World} (h : S6d A B p0 p1 p2 q0 q1 q2 W x) (b : Below x.heap.size x y) : S6d A B p0 p1 p2 q0 q1 q2 W y :=
  ⟨below_keeps b _ _ h.1, below_keeps b _ _ h.2.1, below_keeps b _ _ h.2.2.1, below_keeps b _ _ h.2.2.2.1, below_keeps b _ _ h.2.2.2.2.1, below_keeps b _ _ h.2.2.2.2.2.1, hide (below_trans h.2.2.2.2.2.2.out b)⟩
theorem S6d.old {A B : Nat} {p0 p1 p2 q0 q1 q2 : Value} {W x : World} (h : S6d A B p0 p1 p2 q0 q1 q2 W x) : Below W.heap.size W x := h.2.2.2.2.2.2.out
end Go.Proofs.YtiilkkdbifhojaaGreat
/- slices.Clone of files, the program's restingDisk. -/
namespace Go.Proofs.YtiilkkdbifhojaaGreat
open Go.ChangeShapes Go.WideShapes Go.ChangeAt Go.RowKit
set_option linter.unusedVariables false
set_option maxRecDepth 100000
/-- a new disk of the call's own -/
def DiskEnd (L S : List Fl) (O : List Dp) (w : World) (e : Ending) (w' : World) : Prop :=
  Below w.heap.size w w' ∧ ∃ (a1 a2 a3 : Option Addr) (c1 c2 c3 g1 g2 g3 : Nat), e = .returned (.agg #[.slice a1 L.length c1, .slice a2 S.length c2, .slice a3 O.length c3]) ∧ ((a1 = none → c1 = 0) ∧ (a2 = none → c2 = 0) ∧ (a3 = none → c3 = 0)) ∧ OwnR w.heap.size w'.heap.size a1 a2 a3 c1 c2 c3 g1 g2 g3 L S O w'
theorem own_of_row2 {A : Type} {sz : Nat} {f : A → List Value} (hf : ∀ x, (f x).length = sz) {w : World} {base : Nat} {e : TypeId} {v : Value} {l : List A} (h : w.ownsRow base e sz v l.length (l.flatMap f)) : ∃ g a cap, base ≤ g ∧ v = .slice a l.length cap ∧ (a = none → cap = 0) ∧ OwnRow sz f w g a cap l := by
  have h' := h
  obtain ⟨g, a, cap, hg, e1, ho⟩ := own_of_row hf h
  refine ⟨g, a, cap, hg, e1, fun ha => ?_, ho⟩
  obtain ⟨hl, ⟨h0, h1⟩ | ⟨g', cap', cur, h1, _⟩⟩ := h'
  · rw [h0] at e1
    simp only [Value.slice.injEq] at e1
    exact e1.2.2.symm
  · rw [h1, ha] at e1
    simp only [Value.slice.injEq] at e1
    cases e1.1
def NewFs (l : List Fl) (w : World) (e : Ending) (w' : World) : Prop := Below w.heap.size w w' ∧ ∃ g a cap, w.heap.size ≤ g ∧ e = .returned (.slice a l.length cap) ∧ (a = none → cap = 0) ∧ OwnRow 2 flCells w' g a cap l
set_option maxHeartbeats 2000000 in
theorem cloneF_any (a : Option Addr) (l : List Fl) (cap : Nat) (w : World) (hl : l.length ≤ 1048576) (hc : a = none → cap = 0) (h : RowAt 2 flCells w a l) :
    Calls Tryz.prog 39 #[.slice a l.length cap] w fun e w' => NewFs l w e w' := by
  obtain ⟨i0, hi0, hz0, hz1, hz2⟩ := info_parts infoF
  have hu := huF
  have HN : Hid _ := hide (h.news_any flLen (by decide))
  cases a with
  | none =>
    have e0 : l = [] := List.eq_nil_of_length_eq_zero (row_none h rfl)
    subst e0
    obtain rfl := hc rfl
    clear h
    have he : ∀ w : World, (binOp .eql 24 (.slice none 0 0) (.slice none 0 0)).run Tryz.prog w = .ok (.bool true) w := fun _ => rfl
    go_enter Tryz.func39, Tryz.ntmps39
    go_wp2
    go_ret
    exact ⟨Below.refl _ _, w.heap.size, none, 0, Nat.le_refl _, rfl, fun _ => rfl, OwnRow.nil⟩
  | some ad =>
    clear h
    have he : ∀ w : World, (binOp .eql 24 (.slice (some ad) l.length cap) (.slice none 0 0)).run Tryz.prog w = .ok (.bool false) w := fun _ => rfl
    go_enter Tryz.func39, Tryz.ntmps39
    go_wp2_with (first | (at_builtin; refine Shut2.mk ?_) | go_in)
    refine Shut2.mk' ?_
    refine wpList_append_own_at _ rfl _ _ 24 rfl w.heap.size 71 i0 _ 2 32 hu hi0 hz0 hz1 hz2 rfl (by decide) _ 0 [] rfl ?own ad l.length cap (l.flatMap flCells) rfl (flat_len flCells 2 flLen l) ?news (fl_one l) (by unfold maxLen; omega) (by omega) ?base ?_
    case own => exact World.ownsRow_made w #[] 0 (Nat.le_refl _) (by unfold maxLen; omega) rfl
    case news => exact fun j u hj => (World.grownBy_alloc w _ none).cell (HN.out ad rfl j u hj) (by simp)
    case base => simp
    intro v' w1 hown' hgrow hnil hloc
    have HB : Hid (Below w.heap.size w w1) := hide (below_grown hgrow (below_alloc (Below.refl _ _) _) (fun j hj => by cases hj; exact Nat.le_refl _))
    have HO : Hid _ := hide hown'
    clear hown' hgrow hnil hloc
    go_wp2
    go_ret
    have ho := HO.out
    rw [List.nil_append, Nat.zero_add] at ho
    obtain ⟨g, a, c, k1, rfl, k2, k3⟩ := own_of_row2 flLen ho
    exact ⟨HB.out, g, a, c, k1, rfl, k2, k3⟩
set_option maxHeartbeats 4000000 in
theorem resting_any (a : Option Addr) (l : List Fl) (cap : Nat) (w : World) (hl : l.length ≤ 1048576) (hc : a = none → cap = 0) (h : RowAt 2 flCells w a l) :
    Calls Tryz.prog 17 #[.slice a l.length cap] w fun e w' => DiskEnd l l [] w e w' := by
  have HL : Hid _ := hide h
  have HC : Hid _ := hide hc
  clear h hc
  have KX0 : Hid (Blk w.heap.size [.slice none 0 0, .slice none 0 0, .slice none 0 0] (w.alloc (.cells #[.slice none 0 0, .slice none 0 0, .slice none 0 0] 27))) := hide Blk.new
  have HX0 : Hid (Below w.heap.size w (w.alloc (.cells #[.slice none 0 0, .slice none 0 0, .slice none 0 0] 27)) ∧ w.heap.size + 1 ≤ (w.alloc (.cells #[.slice none 0 0, .slice none 0 0, .slice none 0 0] 27)).heap.size) := hide ⟨below_alloc (Below.refl _ _) _, by simp⟩
  go_enter Tryz.func17, Tryz.ntmps17
  go_wp2_with fail
  generalize w.alloc (.cells #[.slice none 0 0, .slice none 0 0, .slice none 0 0] 27) = wa at *
  refine (cloneF_any a l cap wa hl HC.out (HL.out.below HX0.out.1)).mono ?_
  rintro e w1 ⟨hb1, g1, a1, c1, k1, rfl, n1, o1⟩
  have HX1 : Hid _ := hide (below_trans HX0.out.1 hb1)
  have HB1 : Hid _ := hide hb1
  have KX1 : Hid _ := hide (KX0.out.below hb1)
  have HO1 : Hid (wa.heap.size ≤ g1 ∧ (a1 = none → c1 = 0) ∧ OwnRow 2 flCells w1 g1 a1 c1 l) := hide ⟨k1, n1, o1⟩
  clear hb1 k1 n1 o1 KX0
  go_wp2_with fail
  refine (cloneF_any a l cap w1 hl HC.out (HL.out.below HX1.out)).mono ?_
  rintro e w2 ⟨hb2, g2, a2, c2, k2, rfl, n2, o2⟩
  have y := KX1.out.below hb2
  have y0 := y.c 0 _ rfl
  have y1 := y.c 1 _ rfl
  have y2 := y.c 2 _ rfl
  have f0 := y.f 0
  have f1 := y.f 1
  have f2 := y.f 2
  have HY : Hid _ := hide y
  have HE : Hid (DiskEnd l l [] w (.returned (.agg #[.slice a1 l.length c1, .slice a2 l.length c2, .slice none 0 0])) (((w2.setCell ⟨w.heap.size, 0, none⟩ (.slice a1 l.length c1)).setCell ⟨w.heap.size, 1, none⟩ (.slice a2 l.length c2)).setCell ⟨w.heap.size, 2, none⟩ (.slice none 0 0))) := hide (by
    obtain ⟨Y, hY⟩ : ∃ Y, Y = (((w2.setCell ⟨w.heap.size, 0, none⟩ (.slice a1 l.length c1)).setCell ⟨w.heap.size, 1, none⟩ (.slice a2 l.length c2)).setCell ⟨w.heap.size, 2, none⟩ (.slice none 0 0)) := ⟨_, rfl⟩
    rw [← hY]
    have eY : ∀ g, w.heap.size + 1 ≤ g → Y.heap[g]? = w2.heap[g]? := fun g hg => by rw [hY, set_block _ _ (by omega), set_block _ _ (by omega), set_block _ _ (by omega)]
    have sY : Y.heap.size = w2.heap.size := by rw [hY, size_setCell, size_setCell, size_setCell]
    have bY : Below w.heap.size w Y := by
      rw [hY]
      exact (((below_trans HX1.out hb2).setCell (p := ⟨w.heap.size, 0, none⟩) (Nat.le_refl _) _).setCell (p := ⟨w.heap.size, 1, none⟩) (Nat.le_refl _) _).setCell (p := ⟨w.heap.size, 2, none⟩) (Nat.le_refl _) _
    have l0 := HX0.out.2
    have l1 := HO1.out.1
    have s1 := HB1.out.size
    have s2 := hb2.size
    have r1 : OwnRow 2 flCells Y g1 a1 c1 l := (HO1.out.2.2.below hb2).keepB (fun p => eY g1 (by omega))
    have r2 : OwnRow 2 flCells Y g2 a2 c2 l := o2.keepB (fun p => eY g2 (by omega))
    exact ⟨bY, a1, a2, none, c1, c2, 0, g1, g2, 0, rfl, ⟨HO1.out.2.1, n2, fun _ => rfl⟩, r1, r2, OwnRow.nil, fun p _ => by have := HO1.out.2.2.lt p; omega, fun _ q => by simp at q, fun _ q => by simp at q, fun p => ⟨by omega, r1.lt p⟩, fun p => ⟨by omega, r2.lt p⟩, fun q => by simp at q⟩)
  have HS : Hid (∃ Y, (((w2.setCell ⟨w.heap.size, 0, none⟩ (.slice a1 l.length c1)).setCell ⟨w.heap.size, 1, none⟩ (.slice a2 l.length c2)).setCell ⟨w.heap.size, 2, none⟩ (.slice none 0 0)) = Y ∧ Blk (w.heap.size) [.slice a1 l.length c1, .slice a2 l.length c2, .slice none 0 0] Y) := hide ⟨_, rfl, (((HY.out).set 0 (.slice a1 l.length c1) (by simp)).set 1 (.slice a2 l.length c2) (by simp)).set 2 (.slice none 0 0) (by simp)⟩
  clear y hb2 k2 n2 o2
  go_wp2
  obtain ⟨Y, hY, kY⟩ := HS.out
  rw [hY] at HE ⊢
  have z0 := kY.c 0 _ rfl
  have z1 := kY.c 1 _ rfl
  have z2 := kY.c 2 _ rfl
  exact bodyPost_ret (v := .agg #[.slice a1 l.length c1, .slice a2 l.length c2, .slice none 0 0]) (by simp [results, Tryz.results17, go_sem, z0, z1, z2]) rfl HE.out
end Go.Proofs.YtiilkkdbifhojaaGreat
