/- The contract of the program's shelf.files: the files of a shelf, sorted. -/
import Derived.Test.YtiilkkdbifhojaaDkI3
import Derived.Test.YtiilkkdbifhojaaLib
namespace Go.Proofs.Ytiilkkdbifhojaa
open Go.ChangeShapes Go.WideShapes Go.ChangeAt Go.RowKit Go.Maps Go.Sort
set_option linter.unusedVariables false
set_option maxRecDepth 100000
def nmL (l : List Fl) : List (List UInt8) := l.map (fun f => f.nm.data.toList)
theorem nm_toList (s : ByteArray) : s.toList = s.data.toList := Lib.toList_data s
theorem keys_perm {w : World} {m n : Nat} {l : List Fl} {D : DataW Unit} (ho : w.ownsMap Try.prog 9 bdElem m n D) (hs : Srt l) {β : ByteArray → Bd} (hat : ∀ f ∈ l, ∀ z, D.atKey (kn f.nm) z = (β f.nm).D) (honly : ∀ kl, Maps.has D kl = true → ∃ f ∈ l, kl = kn f.nm) : (nmL l).Perm (strKeys D) := by
  obtain ⟨es, rfl, hp, _⟩ := ho.entries law9
  obtain ⟨es', e, hk⟩ := World.ownsMap.keysOf ho
  cases e
  refine perm_strKeys hp (fun p hp' => ?_) ?_ (fun x => ?_)
  · have := honly p.1 (by
      rw [has_eq, List.any_eq_true]
      exact ⟨p, hp', WideAt.sameKey_self (by
        obtain ⟨es2, e2, _, h2⟩ := ho.entries law9
        cases e2
        exact h2 p hp')⟩)
    obtain ⟨f, _, e⟩ := this
    exact ⟨_, e⟩
  · unfold nmL
    refine List.pairwise_map.2 (hs.imp fun {a b} h e => ?_)
    rw [nm_toList, nm_toList, e] at h
    exact List.lt_irrefl _ h
  · unfold nmL
    rw [List.mem_map]
    constructor
    · rintro ⟨f, hf, rfl⟩
      exact has_true_of_atKey (hat f hf)
    · intro h
      obtain ⟨f, hf, e⟩ := honly _ h
      exact ⟨f, hf, by simp only [kn, Lit.string.injEq] at e; exact e.symm⟩
theorem nmL_sorted {l : List Fl} (hs : Srt l) {ss : List (List UInt8)} (h : (nmL l).Perm ss) : ss.mergeSort (fun x y => decide (x ≤ y)) = nmL l := by
  have tr : ∀ a b c : List UInt8, leB a b = true → leB b c = true → leB a c = true := fun a b c h1 h2 => by simp only [leB, decide_eq_true_eq] at *; exact List.le_trans h1 h2
  have tot : ∀ a b : List UInt8, (leB a b || leB b a) = true := fun a b => by simp only [leB, Bool.or_eq_true, decide_eq_true_eq]; exact List.le_total a b
  refine List.Perm.eq_of_pairwise (le := fun a b => leB a b = true) (fun a b _ _ h1 h2 => ?_) (List.pairwise_mergeSort tr tot ss) ?_ ((List.mergeSort_perm ss leB).trans h.symm)
  · simp only [leB, decide_eq_true_eq] at h1 h2
    exact List.le_antisymm h1 h2
  · unfold nmL
    refine List.pairwise_map.2 (hs.imp fun {a b} h => ?_)
    simp only [leB, decide_eq_true_eq]
    rw [nm_toList, nm_toList] at h
    exact List.le_of_lt h
def nmCells (f : Fl) : List Value := [.string f.nm]
theorem nmCLen (f : Fl) : (nmCells f).length = 1 := rfl
theorem nm_enc (l : List Fl) : (nmL l).map encStr = l.flatMap nmCells := by
  induction l with
  | nil => rfl
  | cons f l ih =>
    have e : encStr f.nm.data.toList = .string f.nm := by simp [encStr]
    show encStr f.nm.data.toList :: (nmL l).map encStr = nmCells f ++ l.flatMap nmCells
    rw [ih, e]
    rfl
theorem nm_row {w : World} {a : Option Addr} {l : List Fl} (h : RowAt 1 nmCells w a l) (i : Nat) (hi : i < l.length) : ∃ b off, a = some ⟨b, off, none⟩ ∧ b < w.heap.size ∧ w.cell? ⟨b, off + i, none⟩ = some (.string l[i].nm) := by
  obtain ⟨b, off, e, hb, hc⟩ := h i hi
  exact ⟨b, off, e, hb, by simpa using hc 0 _ rfl⟩
theorem catL_data (ps : List ByteArray) : (catL ps).data.toList = (ps.map (·.data.toList)).flatten := by
  induction ps with
  | nil => rfl
  | cons x xs ih => simp [catL, ih]
theorem join_no (xs : List (List UInt8)) : Lib.join xs [] = xs.flatten := by
  cases xs with
  | nil => rfl
  | cons x r => rw [Lib.join_cons, Lib.joinTail]; simp
theorem join_is (ps : List ByteArray) : (⟨(Lib.join (ps.map (·.data.toList)) (ByteArray.mk #[]).data.toList).toArray⟩ : ByteArray) = catL ps := by
  apply ByteArray.ext
  apply Array.toList_inj.1
  rw [catL_data]
  show (Lib.join (ps.map (·.data.toList)) []).toArray.toList = _
  rw [join_no]
theorem join_any (base : Nat) (b : Bd) (w : World) (hp : b.ps.length ≤ 1000000) (hz : (catL b.ps).size ≤ 1000000000) (h : w.ownsRow base 9 1 b.v b.ps.length (strs b.ps)) :
    Calls Try.prog 45 #[.slice (adr b.a) b.ps.length b.c, .string ⟨#[]⟩] w fun e w' => e = .returned (.string (catL b.ps)) ∧ Below w.heap.size w w' := by
  have h' := h
  obtain ⟨_, ⟨h0, h1⟩ | ⟨g, cap, cur, h1, hbg, hg, hn, hc, hsz, ht⟩⟩ := h
  · have hps : b.ps = [] := List.eq_nil_of_length_eq_zero h1
    rw [hps]
    exact (Try.strings_Join_none (adr b.a) b.c ⟨#[]⟩ w).mono (fun e w' ⟨he, hw⟩ => ⟨by rw [he]; rfl, by rw [hw]; exact Below.refl _ _⟩)
  · have e1 : Value.slice (adr b.a) b.ps.length b.c = .slice (some ⟨g, 0, none⟩) b.ps.length cap := h1
    rw [e1]
    have hlen : (Lib.join (b.ps.map (·.data.toList)) (ByteArray.mk #[]).data.toList).length ≤ 140737488355328 := by
      show (Lib.join (b.ps.map (·.data.toList)) []).length ≤ _
      rw [join_no, ← catL_data, Array.length_toList]
      show (catL b.ps).size ≤ _
      omega
    have hcell : ∀ (j : Nat) x, b.ps[j]? = some x → w.cell? ⟨g, 0 + j, none⟩ = some (.string x) := fun j x hj => by
      have hj2 : (strs b.ps)[j]? = some (.string x) := by simp [strs, hj]
      rw [← ht] at hj2
      have h4 : cur.toList[j]? = some (.string x) := by
        rw [List.getElem?_take] at hj2
        split at hj2
        · exact hj2
        · cases hj2
      simp only [World.cell?, hg, Nat.zero_add]
      simpa using h4
    refine (Try.strings_Join g 0 cap b.ps ⟨#[]⟩ w hcell (Array.getElem?_eq_some_iff.1 hg).1 (by omega) hn hlen).mono (fun e w' ⟨he, hw⟩ => ⟨?_, hw⟩)
    rw [he, join_is]
theorem field0 (v0 v1 : Value) (w : World) : (Instr.field 77 (.agg #[v0, v1]) 0).run Try.prog w = .ok v0 w := by kernel_rfl
set_option maxHeartbeats 4000000 in
theorem files_any (base m N : Nat) (l : List Fl) (β : ByteArray → Bd) (w : World) (hl : l.length ≤ 1000) (hN : N ≤ 1000000) (hd : datL l ≤ 1000000000) (h : Shelf base m l β N w) :
    Calls Try.prog 22 #[.map (some m)] w fun e w' => NewF l w e w' := by
  have HH : Hid _ := hide h
  obtain ⟨D, n, hn, hown, hat, honly, hsz⟩ := h.map
  have HK : Hid _ := hide (keys_perm hown h.srt hat honly)
  have HKM : Hid (Calls Try.prog 44 #[.map (some m)] w fun e w' => e = .returned (.func (.func 60) #[] #[.pointer (some ⟨w.heap.size, 0, none⟩)]) ∧ w' = w.alloc (.cells #[.map (some m)] 48)) := hide (callsIn_wide.1 (Try.maps_Keys_44 (some m) w))
  have HSO : Hid _ := hide (callsIn_wide.1 (Try.slices_Sorted_keys_43_44 m n D bdElem w hown (by rw [hsz]; unfold maxLen; omega) (by rw [hsz]; omega)))
  have HSR : Hid _ := hide h.srt
  clear hown hat honly hsz h
  obtain ⟨i0, hi0, hz0, hz1, hz2⟩ := info_parts infoF
  have hu := huF
  go_enter Try.func22, Try.ntmps22
  go_wp2_with fail
  refine HKM.out.mono ?_
  rintro e w1 ⟨rfl, hw1⟩
  have hw1' := hw1.symm
  subst hw1'
  go_wp2_with fail
  refine HSO.out.mono ?_
  rintro e w2 ⟨v2, ss, rfl, hperm, hrow2, _, hb2⟩
  have hml := nmL_sorted HSR.out (HK.out.trans hperm.symm)
  have hsl : ss.length = l.length := by rw [hperm.length_eq, ← HK.out.length_eq]; simp [nmL]
  rw [hml, nm_enc, hsl] at hrow2
  obtain ⟨g2, a2, c2, _, rfl, ho2⟩ := own_of_row nmCLen hrow2
  have HB2 : Hid (Below w.heap.size w w2) := hide (below_trans (below_alloc (Below.refl _ _) _) hb2)
  have HR2 : Hid _ := hide ho2.rows
  clear hperm hrow2 hb2 hml hsl ho2
  go_wp2
  go_loopw [3, 10] (fun v i wr => ∃ k : Nat, k ≤ l.length ∧ i = .int .i64 (k : Int) ∧ Hid (Below w2.heap.size w2 wr) ∧ Hid (wr.ownsRow w2.heap.size 52 2 v k ((l.take k).flatMap flCells))) (fun v i wr => l.length - (intOf i).toNat)
  case atStart => exact ⟨0, Nat.zero_le _, rfl, hide (Below.refl _ _), hide ⟨by simp, .inl ⟨rfl, rfl⟩⟩⟩
  case round =>
    obtain ⟨k, hk, rfl, HX, HO⟩ := hrel
    obtain ⟨va, vc, rfl⟩ := row_shape HO.out
    by_cases hlt : k < l.length
    · have hlt' : (k : Int) < (l.length : Int) := by omega
      obtain ⟨b, off, rfl, hb, c0⟩ := nm_row (HR2.out.below HX.out) k hlt
      have hmem : l[k] ∈ l := List.getElem_mem hlt
      have HHr : Hid _ := hide (HH.out.below (below_trans HB2.out HX.out))
      have hlk : (Instr.lookup 48 (.map (some m)) (.string (l[k]).nm) false).run Try.prog wr = .ok (if false then .tuple #[if hasN l (l[k]).nm then (β (l[k]).nm).V else b0.V, .bool (hasN l (l[k]).nm)] else if hasN l (l[k]).nm then (β (l[k]).nm).V else b0.V) wr := HHr.out.look (HHr.out.nms _ hmem) false 0
      rw [hasN_iff.2 ⟨l[k], hmem, rfl⟩] at hlk
      simp only [Bool.false_eq_true, if_false, if_true, Bd.V] at hlk
      have HCA : Hid (catL (β (l[k]).nm).ps = (l[k]).da) := hide (HHr.out.cat _ hmem)
      have HJ : Hid (Calls Try.prog 45 #[.slice (adr (β (l[k]).nm).a) (β (l[k]).nm).ps.length (β (l[k]).nm).c, .string ⟨#[]⟩] wr fun e w' => e = .returned (.string (l[k]).da) ∧ Below wr.heap.size wr w') := hide (by
        rw [← HCA.out]
        refine join_any base _ wr (Nat.le_trans (HHr.out.pcs _ hmem) hN) ?_ (HHr.out.rows _ hmem)
        rw [HCA.out]
        exact Nat.le_trans (datL_mem hmem) hd)
      have HNX : Hid _ := hide (take_next l k hlt)
      have hfd := field0 (.slice (adr (β (l[k]).nm).a) (β (l[k]).nm).ps.length (β (l[k]).nm).c) (.int .i64 ((catL (β (l[k]).nm).ps).size : Int)) wr
      go_wp2_with fail
      refine HJ.out.mono ?_
      rintro e w4 ⟨rfl, hb4⟩
      have HX4 : Hid _ := hide (below_trans HX.out hb4)
      have HO4 : Hid _ := hide (own_keep HO.out hb4)
      clear hb4 HX HO hlk hfd
      go_wp2_with (first | (at_builtin; refine Shut2.mk ?_) | fail)
      refine Shut2.mk' ?_
      refine wpList_append_own_at _ rfl _ _ 24 rfl w2.heap.size 52 i0 _ 2 32 hu hi0 hz0 hz1 hz2 rfl (by decide) (.slice va k vc) k ((l.take k).flatMap flCells) rfl ?own ⟨w4.heap.size, 0, none⟩ 1 1 [.string l[k].nm, .string l[k].da] rfl rfl ?news (by simp [Value.oneCell']) (by unfold maxLen; omega) (by omega) ?base ?_
      case own => exact own_keep HO4.out (below_alloc (Below.refl _ _) _)
      case news => exact news2 (World.cell?_alloc_at _ _ _ _ rfl) (World.cell?_alloc_at _ _ _ _ rfl)
      case base => have := HX4.out.size; simp; omega
      intro v6 w6 ho6 hg6 _ _
      have HO6 : Hid (w6.ownsRow w2.heap.size 52 2 v6 (k + 1) ((l.take (k + 1)).flatMap flCells)) := hide (by
        rw [HNX.out, List.flatMap_append]
        simpa [flCells] using ho6)
      have HX6 : Hid (Below w2.heap.size w2 w6) := hide ((below_alloc HX4.out _).grown hg6 (by have := HX4.out.size; simp; omega) (fun j hj => own_base HO4.out j hj))
      clear HO4 ho6 hg6 HX4
      go_wp2
      exact ⟨⟨k + 1, by omega, by go_num, HX6, HO6⟩, by simp [intOf]; omega⟩
    · have hlt' : ¬ (k : Int) < (l.length : Int) := by omega
      have HE : Hid (NewF l w (.returned (.slice va k vc)) wr) := hide (newF_of (below_trans HB2.out HX.out) (by
        have := HO.out
        rw [List.take_of_length_le (by omega)] at this
        have hkl : k = l.length := by omega
        rw [hkl] at this ⊢
        obtain ⟨hl', h0 | ⟨g, cap, cur, h1, hg, r⟩⟩ := this
        · exact ⟨hl', .inl h0⟩
        · exact ⟨hl', .inr ⟨g, cap, cur, h1, Nat.le_trans HB2.out.size hg, r⟩⟩))
      go_wp2
      go_ret
      exact HE.out
end Go.Proofs.Ytiilkkdbifhojaa
