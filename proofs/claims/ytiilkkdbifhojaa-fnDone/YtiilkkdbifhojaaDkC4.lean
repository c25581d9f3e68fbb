/- How much the kept operations may lay up: sums of data over operations that are done one after another, whatever was left out. -/
import Derived.Test.YtiilkkdbifhojaaDkC1
import Derived.Test.YtiilkkdbifhojaaDkL
namespace Go.Proofs.Ytiilkkdbifhojaa
open Go.ChangeShapes Go.WideShapes Go.ChangeAt Go.RowKit
set_option linter.unusedVariables false
def eqF (l : List Fl) (nm : ByteArray) : List Fl := l.filter (fun f => f.nm.toList == nm.toList)
theorem dat_parts (l : List Fl) (nm : ByteArray) : datL (l.filter (fun f => Op.bytesLess f.nm.toList nm.toList)) + datL (l.filter (fun f => Op.bytesLess nm.toList f.nm.toList)) + datL (eqF l nm) = datL l ∧ datL (cutL l nm) + datL (eqF l nm) = datL l := by
  induction l with
  | nil => simp [eqF, cutL, datL]
  | cons x t ih =>
    obtain ⟨i1, i2⟩ := ih
    unfold eqF at i1
    unfold cutL eqF at i2 ⊢
    rcases tri x.nm nm with h | h | h
    · have h1 := less_iff.2 h
      have h1' := less_no (.inl h)
      have h2 : (x.nm.toList == nm.toList) = false := beq_no (fun q => by rw [q] at h; exact List.lt_irrefl _ h)
      simp only [List.filter_cons, h1, h1', h2, Bool.not_false, if_true, Bool.false_eq_true, if_false, datL]
      omega
    · have h1 := less_no (.inr h)
      have h1' := less_no (.inr h.symm)
      have h2 : (x.nm.toList == nm.toList) = true := beq_bytes.2 h
      simp only [List.filter_cons, h1, h1', h2, Bool.not_true, if_true, Bool.false_eq_true, if_false, datL]
      omega
    · have h1 := less_no (.inl h)
      have h1' := less_iff.2 h
      have h2 : (x.nm.toList == nm.toList) = false := beq_no (fun q => by rw [q] at h; exact List.lt_irrefl _ h)
      simp only [List.filter_cons, h1, h1', h2, Bool.not_false, if_true, Bool.false_eq_true, if_false, datL]
      omega
theorem dataL_le (l : List Fl) (nm : ByteArray) : (dataL l nm).size ≤ datL (eqF l nm) := by
  unfold dataL
  cases h : atL l nm with
  | none => simp
  | some k =>
    obtain ⟨hk, e⟩ := at_some h
    simp only [List.getElem?_eq_getElem hk]
    exact datL_mem (List.mem_filter.2 ⟨List.getElem_mem hk, beq_bytes.2 e⟩)
theorem dat_putL {l : List Fl} (hs : Srt l) (nm da : ByteArray) : datL (putL l nm da) + datL (eqF l nm) = datL l + da.size := by
  rw [putL_eq hs]
  unfold putF
  rw [datL_append]
  have := (dat_parts l nm).1
  simp only [datL]
  omega
theorem dat_doL {l : List Fl} (hs : Srt l) (o : Dp) : datL (doL l o).1 ≤ datL l + o.da.size := by
  unfold doL
  split
  · have h1 := dat_putL hs o.nm (appD l o.nm o.da)
    have h2 := dataL_le l o.nm
    have h3 : (appD l o.nm o.da).size ≤ (dataL l o.nm).size + o.da.size := by
      unfold appD
      split
      · omega
      · rw [ByteArray.size_append]; omega
    simp only
    omega
  · split
    · simp only; omega
    · simp only
      have h0 := (dat_parts l o.nm).2
      have h2 := dataL_le l o.nm
      split
      · have h1 := dat_putL (srt_cutL hs o.nm) o.tn (dataL l o.nm)
        omega
      · omega
theorem srt_doL {l : List Fl} (hs : Srt l) (o : Dp) : Srt (doL l o).1 := by
  unfold doL
  split
  · exact srt_putL hs _ _
  · split
    · exact hs
    · simp only
      split
      · exact srt_putL (srt_cutL hs _) _ _
      · exact srt_cutL hs _
theorem len_doL {l : List Fl} (hs : Srt l) (o : Dp) : (doL l o).1.length ≤ l.length + 1 := by
  unfold doL
  split
  · simp only; rw [len_putL hs]; split <;> omega
  · split
    · simp only; omega
    · simp only
      have h0 := cutL_len l o.nm
      split
      · rw [len_putL (srt_cutL hs o.nm)]; split <;> omega
      · omega
/-- what holds behind k operations, each of at most 200000 bytes -/
theorem goL_bd {l : List Fl} (hs : Srt l) (hd : datL l ≤ 200000) (hl : l.length ≤ 60) (os : List Dp) (ho : ∀ o ∈ os, o.da.size ≤ 200000) : ∀ k, k ≤ os.length → Srt (goL l (os.take k)) ∧ (goL l (os.take k)).length ≤ 60 + k ∧ datL (goL l (os.take k)) ≤ 200000 * (k + 1)
  | 0, _ => by simp [goL]; exact ⟨hs, hl, hd⟩
  | k + 1, h => by
    obtain ⟨i1, i2, i3⟩ := goL_bd hs hd hl os ho k (by omega)
    have hk : k < os.length := by omega
    rw [goL_next l os k hk]
    have h1 := dat_doL i1 os[k]
    have h2 := ho os[k] (List.getElem_mem hk)
    have h3 := len_doL i1 os[k]
    exact ⟨srt_doL i1 _, by omega, by omega⟩
end Go.Proofs.Ytiilkkdbifhojaa
