/- Crash as data: the places that are kept, the torn operation, what is left. -/
import Derived.Test.YtiilkkdbifhojaaGreatBa
import Derived.Test.YtiilkkdbifhojaaGreatBb
namespace Go.Proofs.YtiilkkdbifhojaaGreat
open Go.ChangeShapes Go.WideShapes Go.ChangeAt Go.RowKit
set_option linter.unusedVariables false
set_option maxRecDepth 100000
def i64Cells (n : Int) : List Value := [.int .i64 n]
theorem i64Len (x : Int) : (i64Cells x).length = 1 := rfl
/-- one place: within, and beyond the place before it -/
def plB (keep : List Int) (many : Nat) (k : Nat) : Bool := match keep[k]? with
  | none => false
  | some n => inB 0 ((many : Int) - 1) n && (match k with
    | 0 => true
    | m + 1 => match keep[m]? with
      | none => false
      | some p => decide (p < n))
theorem pl_row {w : World} {a : Option Addr} {l : List Int} (h : RowAt 1 i64Cells w a l) (i : Nat) (hi : i < l.length) : ∃ b off, a = some ⟨b, off, none⟩ ∧ b < w.heap.size ∧ w.cell? ⟨b, off + i, none⟩ = some (.int .i64 l[i]) := by
  obtain ⟨b, off, e, hb, hc⟩ := h i hi
  exact ⟨b, off, e, hb, by have := hc 0 (.int .i64 l[i]) rfl; simpa using this⟩
theorem pl_zero {keep : List Int} {many : Nat} (h : 0 < keep.length) : plB keep many 0 = inB 0 ((many : Int) - 1) keep[0] := by simp [plB, List.getElem?_eq_getElem h]
theorem pl_succ {keep : List Int} {many k : Nat} (h : k + 1 < keep.length) : plB keep many (k + 1) = (inB 0 ((many : Int) - 1) keep[k + 1] && decide (keep[k] < keep[k + 1])) := by
  simp [plB, List.getElem?_eq_getElem h, List.getElem?_eq_getElem (show k < keep.length by omega)]
def placesB (keep : List Int) (many : Nat) : Bool := allTo (plB keep many) keep.length
/-- the operation at a place, torn where it is the last and an append -/
def tornO (torn : Int) (o : Dp) : Dp := if o.kind = 1 ∧ torn < (o.da.size : Int) then { o with da := o.da.extract 0 torn.toNat } else o
def keptL (ops : List Dp) : List Int → List Dp
  | [] => []
  | n :: t => match ops[n.toNat]? with
    | none => keptL ops t
    | some o => o :: keptL ops t
/-- one after another, whatever each finds -/
def goL (l : List Fl) (os : List Dp) : List Fl := os.foldl (fun l o => (doL l o).1) l
theorem goL_next (l : List Fl) (os : List Dp) (k : Nat) (h : k < os.length) : goL l (os.take (k + 1)) = (doL (goL l (os.take k)) os[k]).1 := by
  unfold goL
  rw [List.take_add_one, List.getElem?_eq_getElem h, List.foldl_append]
  rfl
end Go.Proofs.YtiilkkdbifhojaaGreat
/- The contract of the program's placesOk. -/
namespace Go.Proofs.YtiilkkdbifhojaaGreat
open Go.ChangeShapes Go.WideShapes Go.ChangeAt Go.RowKit
set_option linter.unusedVariables false
set_option maxRecDepth 100000
theorem wrap_less {n : Nat} (h : n ≤ 1048576) : IntKind.i64.wrap ((n : Int) - 1) = (n : Int) - 1 := by simp only [IntKind.wrap, IntKind.signed, IntKind.bits]; simp; omega
theorem places_no {l : List Int} {many k : Nat} (hk : k < l.length) (h : plB l many k = false) : placesB l many = false := allTo_false hk h
set_option maxHeartbeats 4000000 in
theorem placesOk_any (a : Option Addr) (l : List Int) (cap many : Nat) (w : World) (hl : l.length ≤ 1048576) (hm : many ≤ 1048576) (h : RowAt 1 i64Cells w a l) :
    Calls Tryz.prog 26 #[.slice a l.length cap, .int .i64 (many : Int)] w fun e w' => e = .returned (.bool (placesB l many)) ∧ w' = w := by
  have HC : Hid _ := hide h
  clear h
  have hw1 := wrap_less hm
  go_enter Tryz.func26, Tryz.ntmps26
  go_wp2
  go_loopw [9] (fun i wr => ∃ k : Nat, k ≤ l.length ∧ i = .int .i64 (k : Int) ∧ wr = w ∧ Hid (allTo (plB l many) k = true)) (fun i wr => l.length - (intOf i).toNat)
  case atStart => exact ⟨0, Nat.zero_le _, rfl, rfl, hide rfl⟩
  case round =>
    obtain ⟨k, hk, rfl, hwr, HG⟩ := hrel
    rw [hwr]
    clear hwr
    by_cases hlt : k < l.length
    · have hlt' : (k : Int) < (l.length : Int) := by omega
      obtain ⟨b, off, rfl, hb, c0⟩ := pl_row HC.out k hlt
      by_cases hz : k = 0
      · have hz' : ¬ (0 : Int) < (k : Int) := by omega
        cases q : inB 0 ((many : Int) - 1) l[k]
        · have HR : Hid (placesB l many = false) := hide (places_no hlt (by subst hz; rw [pl_zero hlt]; exact q))
          clear hz
          go_wp2_with (first | (go_at_call 45; refine (within_any _ _ _ _).mono ?_; rintro e w' ⟨rfl, hw'⟩; rw [hw']; clear hw' w') | fail)
          go_ret
          exact ⟨by rw [HR.out]; rfl, rfl⟩
        · have HG2 : Hid (allTo (plB l many) (k + 1) = true) := hide (allTo_step HG.out (by subst hz; rw [pl_zero hlt]; exact q))
          clear hz
          go_wp2_with (first | (go_at_call 45; refine (within_any _ _ _ _).mono ?_; rintro e w' ⟨rfl, hw'⟩; rw [hw']; clear hw' w') | fail)
          exact ⟨⟨k + 1, by omega, by go_num, trivial, HG2⟩, by simp [intOf]; omega⟩
      · obtain ⟨m, hmk⟩ : ∃ m, k = m + 1 := ⟨k - 1, by omega⟩
        have hm3 : m < l.length := by omega
        obtain ⟨b', off', heq, hb', p0⟩ := pl_row HC.out m hm3
        simp only [Option.some.injEq, Addr.mk.injEq, and_true] at heq
        obtain ⟨rfl, rfl⟩ := heq
        have hz' : (0 : Int) < (k : Int) := by omega
        have hm1 : IntKind.i64.wrap ((k : Int) - 1) = (m : Int) := wrap_pred hmk (by omega)
        have hm2 : (m : Int) < (l.length : Int) := by omega
        have hpl : plB l many k = (inB 0 ((many : Int) - 1) l[k] && decide (l[m] < l[k])) := by subst hmk; exact pl_succ hlt
        by_cases q2 : l[m] < l[k]
        · have q3 : ¬ l[k] ≤ l[m] := by omega
          cases q : inB 0 ((many : Int) - 1) l[k]
          · have HR : Hid (placesB l many = false) := hide (places_no hlt (by rw [hpl, q]; rfl))
            clear hz hmk hpl
            go_wp2_with (first | (go_at_call 45; refine (within_any _ _ _ _).mono ?_; rintro e w' ⟨rfl, hw'⟩; rw [hw']; clear hw' w') | fail)
            go_ret
            exact ⟨by rw [HR.out]; rfl, rfl⟩
          · have HG2 : Hid (allTo (plB l many) (k + 1) = true) := hide (allTo_step HG.out (by rw [hpl, q, decide_eq_true q2]; rfl))
            clear hz hmk hpl
            go_wp2_with (first | (go_at_call 45; refine (within_any _ _ _ _).mono ?_; rintro e w' ⟨rfl, hw'⟩; rw [hw']; clear hw' w') | fail)
            exact ⟨⟨k + 1, by omega, by go_num, trivial, HG2⟩, by simp [intOf]; omega⟩
        · have q3 : l[k] ≤ l[m] := by omega
          have HR : Hid (placesB l many = false) := hide (places_no hlt (by rw [hpl, decide_eq_false q2, Bool.and_false]))
          clear hz hmk hpl
          go_wp2_with fail
          go_ret
          exact ⟨by rw [HR.out]; rfl, rfl⟩
    · have hk' : ¬ (k : Int) < (l.length : Int) := by omega
      have HR : Hid (placesB l many = true) := hide (by
        have h1 := HG.out
        rw [show k = l.length by omega] at h1
        exact h1)
      go_wp2
      go_ret
      exact ⟨by rw [HR.out]; rfl, rfl⟩
end Go.Proofs.YtiilkkdbifhojaaGreat
/- How much the kept operations may lay up: sums of data over operations that are done one after another, whatever was left out. -/
namespace Go.Proofs.YtiilkkdbifhojaaGreat
open Go.ChangeShapes Go.WideShapes Go.ChangeAt Go.RowKit
set_option linter.unusedVariables false
def eqF (l : List Fl) (nm : ByteArray) : List Fl := l.filter (fun f => f.nm.toList == nm.toList)
theorem dat_parts (l : List Fl) (nm : ByteArray) : datL (l.filter (fun f => Op.bytesLess f.nm.toList nm.toList)) + datL (l.filter (fun f => Op.bytesLess nm.toList f.nm.toList)) + datL (eqF l nm) = datL l ∧ datL (cutL l nm) + datL (eqF l nm) = datL l := by
  induction l with
  | nil => simp [eqF, cutL, datL]
  | cons x t ih =>
    obtain ⟨i1, i2⟩ := ih
    unfold eqF at i1
    unfold cutL eqF at i2 ⊢
    rcases tri x.nm nm with h | h | h
    · have h1 := less_iff.2 h
      have h1' := less_no (.inl h)
      have h2 : (x.nm.toList == nm.toList) = false := beq_no (fun q => by rw [q] at h; exact List.lt_irrefl _ h)
      simp only [List.filter_cons, h1, h1', h2, Bool.not_false, if_true, Bool.false_eq_true, if_false, datL]
      omega
    · have h1 := less_no (.inr h)
      have h1' := less_no (.inr h.symm)
      have h2 : (x.nm.toList == nm.toList) = true := beq_bytes.2 h
      simp only [List.filter_cons, h1, h1', h2, Bool.not_true, if_true, Bool.false_eq_true, if_false, datL]
      omega
    · have h1 := less_no (.inl h)
      have h1' := less_iff.2 h
      have h2 : (x.nm.toList == nm.toList) = false := beq_no (fun q => by rw [q] at h; exact List.lt_irrefl _ h)
      simp only [List.filter_cons, h1, h1', h2, Bool.not_false, if_true, Bool.false_eq_true, if_false, datL]
      omega
theorem dataL_le (l : List Fl) (nm : ByteArray) : (dataL l nm).size ≤ datL (eqF l nm) := by
  unfold dataL
  cases h : atL l nm with
  | none => simp
  | some k =>
    obtain ⟨hk, e⟩ := at_some h
    simp only [List.getElem?_eq_getElem hk]
    exact datL_mem (List.mem_filter.2 ⟨List.getElem_mem hk, beq_bytes.2 e⟩)
theorem dat_putL {l : List Fl} (hs : Srt l) (nm da : ByteArray) : datL (putL l nm da) + datL (eqF l nm) = datL l + da.size := by
  rw [putL_eq hs]
  unfold putF
  rw [datL_append]
  have := (dat_parts l nm).1
  simp only [datL]
  omega
theorem dat_doL {l : List Fl} (hs : Srt l) (o : Dp) : datL (doL l o).1 ≤ datL l + o.da.size := by
  unfold doL
  split
  · have h1 := dat_putL hs o.nm (appD l o.nm o.da)
    have h2 := dataL_le l o.nm
    have h3 : (appD l o.nm o.da).size ≤ (dataL l o.nm).size + o.da.size := by
      unfold appD
      split
      · omega
      · rw [ByteArray.size_append]; omega
    simp only
    omega
  · split
    · simp only; omega
    · simp only
      have h0 := (dat_parts l o.nm).2
      have h2 := dataL_le l o.nm
      split
      · have h1 := dat_putL (srt_cutL hs o.nm) o.tn (dataL l o.nm)
        omega
      · omega
theorem srt_doL {l : List Fl} (hs : Srt l) (o : Dp) : Srt (doL l o).1 := by
  unfold doL
  split
  · exact srt_putL hs _ _
  · split
    · exact hs
    · simp only
      split
      · exact srt_putL (srt_cutL hs _) _ _
      · exact srt_cutL hs _
theorem len_doL {l : List Fl} (hs : Srt l) (o : Dp) : (doL l o).1.length ≤ l.length + 1 := by
  unfold doL
  split
  · simp only; rw [len_putL hs]; split <;> omega
  · split
    · simp only; omega
    · simp only
      have h0 := cutL_len l o.nm
      split
      · rw [len_putL (srt_cutL hs o.nm)]; split <;> omega
      · omega
/-- what holds behind k operations, each of at most 200000 bytes -/
theorem goL_bd {l : List Fl} (hs : Srt l) (hd : datL l ≤ 200000) (hl : l.length ≤ 60) (os : List Dp) (ho : ∀ o ∈ os, o.da.size ≤ 200000) : ∀ k, k ≤ os.length → Srt (goL l (os.take k)) ∧ (goL l (os.take k)).length ≤ 60 + k ∧ datL (goL l (os.take k)) ≤ 200000 * (k + 1)
  | 0, _ => by simp [goL]; exact ⟨hs, hl, hd⟩
  | k + 1, h => by
    obtain ⟨i1, i2, i3⟩ := goL_bd hs hd hl os ho k (by omega)
    have hk : k < os.length := by omega
    rw [goL_next l os k hk]
    have h1 := dat_doL i1 os[k]
    have h2 := ho os[k] (List.getElem_mem hk)
    have h3 := len_doL i1 os[k]
    exact ⟨srt_doL i1 _, by omega, by omega⟩
end Go.Proofs.YtiilkkdbifhojaaGreat
/- The operations of a right disk are small. -/
namespace Go.Proofs.YtiilkkdbifhojaaGreat
open Go.ChangeShapes Go.WideShapes Go.ChangeAt Go.RowKit
set_option linter.unusedVariables false
theorem em_size {s : ByteArray} (h : emB s = true) : s.size = 0 := by
  unfold emB at h
  rw [Lib.toList_data, List.isEmpty_iff] at h
  show s.data.size = 0
  rw [← Array.length_toList, h]
  rfl
theorem step_small {l l' : List Fl} {o : Dp} (hf : filesB l = true) (h : stepL l o = some l') : formB o = true ∧ o.da.size ≤ 200000 ∧ filesB l' = true := by
  unfold stepL at h
  split at h
  · rename_i hq
    simp only [Option.some.injEq] at h
    simp only [Bool.and_eq_true] at hq
    obtain ⟨⟨h1, h2⟩, h3⟩ := hq
    refine ⟨h2, ?_, h ▸ h3⟩
    by_cases hk : (o.kind == 1) = true
    · have e : (doL l o).1 = putL l o.nm (appD l o.nm o.da) := by unfold doL; rw [if_pos hk]
      have hm : (⟨o.nm, appD l o.nm o.da⟩ : Fl) ∈ putL l o.nm (appD l o.nm o.da) := (mem_putL (filesB_srt hf)).2 (.inl rfl)
      rw [e] at h3
      have h4 := datL_mem hm
      have h5 := (filesB_parts h3).2.2
      have h6 : o.da.size ≤ (appD l o.nm o.da).size := by
        unfold appD
        split
        · omega
        · rw [ByteArray.size_append]; omega
      simp only at h4
      omega
    · have : o.da.size = 0 := by
        simp only [formB, Bool.and_eq_true] at h2
        have h4 := h2.2
        split at h4
        · simp only [Bool.and_eq_true] at h4
          exact em_size h4.2
        · simp only [Bool.and_eq_true, Bool.or_eq_true] at h4
          rcases h4.2 with q | q
          · exact absurd q hk
          · exact em_size q
      omega
  · cases h
theorem run_small : ∀ (os : List Dp) (l l' : List Fl), filesB l = true → runL l os = some l' → ∀ o ∈ os, formB o = true ∧ o.da.size ≤ 200000
  | [], _, _, _, _ => fun o ho => by simp at ho
  | o :: t, l, l', hf, h => fun x hx => by
    simp only [runL] at h
    cases hs : stepL l o with
    | none => rw [hs] at h; cases h
    | some l1 =>
      rw [hs] at h
      obtain ⟨a, b, c⟩ := step_small hf hs
      rcases List.mem_cons.1 hx with e | e
      · rw [e]; exact ⟨a, b⟩
      · exact run_small t l1 l' c h x e
theorem disk_small {live safe : List Fl} {ops : List Dp} (h : diskB ⟨live, safe, ops⟩ = true) : ∀ o ∈ ops, formB o = true ∧ o.da.size ≤ 200000 := by
  simp only [diskB, Bool.and_eq_true] at h
  have hr := h.2
  cases e : runL safe ops with
  | none => rw [e] at hr; cases hr
  | some l => exact run_small ops safe l h.1.1.2 e
end Go.Proofs.YtiilkkdbifhojaaGreat
/- What Crash gives, as data; what holds of the operations that are kept. -/
namespace Go.Proofs.YtiilkkdbifhojaaGreat
open Go.ChangeShapes Go.WideShapes Go.ChangeAt Go.RowKit
set_option linter.unusedVariables false
set_option maxRecDepth 100000
/-- the operation that is done at the k-th place -/
def crsO (ops : List Dp) (keep : List Int) (torn : Int) : List Dp := (List.range keep.length).map fun (k : Nat) => match ops[((keep[k]?).getD 0).toNat]? with
  | none => ⟨0, ⟨#[]⟩, ⟨#[]⟩, ⟨#[]⟩⟩
  | some o => if k + 1 = keep.length then tornO torn o else o
def crsB (live safe : List Fl) (ops : List Dp) (keep : List Int) (torn : Int) : Bool := diskB ⟨live, safe, ops⟩ && decide (0 ≤ torn) && placesB keep ops.length && filesB (goL safe (crsO ops keep torn))
def crsL (live safe : List Fl) (ops : List Dp) (keep : List Int) (torn : Int) : List Fl := bif crsB live safe ops keep torn then goL safe (crsO ops keep torn) else []
theorem crs_no {live safe : List Fl} {ops : List Dp} {keep : List Int} {torn : Int} (h : crsB live safe ops keep torn = false) : crsL live safe ops keep torn = [] := by simp [crsL, h]
theorem pl_in {keep : List Int} {many k : Nat} (h : placesB keep many = true) (hk : k < keep.length) : ∃ n : Nat, keep[k] = (n : Int) ∧ n < many := by
  have h1 := allTo_get h hk
  have h2 : inB 0 ((many : Int) - 1) keep[k] = true := by
    cases k with
    | zero => rw [pl_zero hk] at h1; exact h1
    | succ m => rw [pl_succ hk] at h1; simp only [Bool.and_eq_true] at h1; exact h1.1
  simp only [inB, decide_eq_true_eq] at h2
  exact ⟨keep[k].toNat, by omega, by omega⟩
theorem crs_len (ops : List Dp) (keep : List Int) (torn : Int) : (crsO ops keep torn).length = keep.length := by simp [crsO]
theorem crs_at {ops : List Dp} {keep : List Int} {torn : Int} {k n : Nat} (hk : k < keep.length) (hn : keep[k] = (n : Int)) (hno : n < ops.length) : (crsO ops keep torn)[k]? = some (if k + 1 = keep.length then tornO torn ops[n] else ops[n]) := by
  simp [crsO, List.getElem?_range hk, List.getElem?_eq_getElem hk, hn, List.getElem?_eq_getElem hno]
theorem torn_form (torn : Int) (o : Dp) : formB (tornO torn o) = formB o := by
  unfold tornO
  split
  · rename_i h
    simp [formB, h.1]
  · rfl
theorem torn_da (torn : Int) (o : Dp) : (tornO torn o).da.size ≤ o.da.size := by
  unfold tornO
  split
  · rename_i h
    simp only [ByteArray.size_extract]
    omega
  · omega
theorem places_ge {keep : List Int} {many : Nat} (h : placesB keep many = true) : ∀ k (hk : k < keep.length), (k : Int) ≤ keep[k]
  | 0, hk => by
    obtain ⟨n, hn, _⟩ := pl_in h hk
    omega
  | k + 1, hk => by
    have h1 := places_ge h k (by omega)
    have h2 := allTo_get h hk
    rw [pl_succ hk] at h2
    simp only [Bool.and_eq_true, decide_eq_true_eq] at h2
    have := h2.2
    omega
theorem places_len {keep : List Int} {many : Nat} (h : placesB keep many = true) : keep.length ≤ many := by
  rcases Nat.eq_zero_or_pos keep.length with e | e
  · omega
  · have h1 := places_ge h (keep.length - 1) (by omega)
    obtain ⟨n, hn, hm⟩ := pl_in h (show keep.length - 1 < keep.length by omega)
    omega
/-- each operation that is kept is well formed and small -/
theorem crs_small {live safe : List Fl} {ops : List Dp} {keep : List Int} {torn : Int} (h : diskB ⟨live, safe, ops⟩ = true) (hp : placesB keep ops.length = true) : ∀ o ∈ crsO ops keep torn, formB o = true ∧ o.da.size ≤ 200000 := fun o ho => by
  obtain ⟨k, hk, rfl⟩ := List.getElem_of_mem ho
  have hk' : k < keep.length := by rw [crs_len] at hk; exact hk
  obtain ⟨n, hn, hno⟩ := pl_in hp hk'
  have e := crs_at (torn := torn) hk' hn hno
  rw [List.getElem?_eq_getElem hk] at e
  simp only [Option.some.injEq] at e
  rw [e]
  obtain ⟨f1, f2⟩ := disk_small h ops[n] (List.getElem_mem hno)
  split
  · exact ⟨by rw [torn_form]; exact f1, Nat.le_trans (torn_da _ _) f2⟩
  · exact ⟨f1, f2⟩
theorem nms_doL {l : List Fl} {o : Dp} (hn : ∀ f ∈ l, nmB f.nm = true) (hf : formB o = true) : ∀ f ∈ (doL l o).1, nmB f.nm = true := fun f hm => by
  have hnm : nmB o.nm = true := by simp only [formB, Bool.and_eq_true] at hf; exact hf.1.2
  unfold doL at hm
  split at hm
  · rcases putL_mem hm with q | q
    · exact hn f q
    · rw [q]; exact hnm
  · split at hm
    · exact hn f hm
    · simp only at hm
      split at hm
      · rename_i h2
        have htn : nmB o.tn = true := by
          simp only [formB, Bool.and_eq_true] at hf
          have h4 := hf.2
          rw [if_pos h2] at h4
          simp only [Bool.and_eq_true] at h4
          exact h4.1
        rcases putL_mem hm with q | q
        · exact hn f (mem_cutL.1 q).1
        · rw [q]; exact htn
      · exact hn f (mem_cutL.1 hm).1
theorem goL_nms {l : List Fl} (os : List Dp) (hn : ∀ f ∈ l, nmB f.nm = true) (ho : ∀ o ∈ os, formB o = true) : ∀ k, k ≤ os.length → ∀ f ∈ goL l (os.take k), nmB f.nm = true
  | 0, _ => by simpa [goL] using hn
  | k + 1, h => by
    have hk : k < os.length := by omega
    rw [goL_next l os k hk]
    exact nms_doL (goL_nms os hn ho k (by omega)) (ho _ (List.getElem_mem hk))
end Go.Proofs.YtiilkkdbifhojaaGreat
