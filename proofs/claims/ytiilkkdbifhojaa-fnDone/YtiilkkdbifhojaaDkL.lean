/- Sorted files: what is put among them and what is cut out. -/
import Derived.Test.YtiilkkdbifhojaaDkM
namespace Go.Proofs.Ytiilkkdbifhojaa
open Go.ChangeShapes Go.WideShapes Go.ChangeAt Go.RowKit Go.Maps
set_option linter.unusedVariables false
theorem less_iff {a b : ByteArray} : Op.bytesLess a.toList b.toList = true ↔ a.toList < b.toList := by rw [less_eq]; simp
theorem toList_inj {a b : ByteArray} (h : a.toList = b.toList) : a = b := beq_bytes.1 (beq_iff_eq.2 h)
theorem tri (a b : ByteArray) : a.toList < b.toList ∨ a = b ∨ b.toList < a.toList := by
  by_cases h1 : a.toList < b.toList
  · exact .inl h1
  · by_cases h2 : b.toList < a.toList
    · exact .inr (.inr h2)
    · exact .inr (.inl (toList_inj (List.le_antisymm (List.not_lt.1 h2) (List.not_lt.1 h1))))
def putF (l : List Fl) (nm da : ByteArray) : List Fl := l.filter (fun f => Op.bytesLess f.nm.toList nm.toList) ++ ⟨nm, da⟩ :: l.filter (fun f => Op.bytesLess nm.toList f.nm.toList)
theorem less_no {a b : ByteArray} (h : b.toList < a.toList ∨ a = b) : Op.bytesLess a.toList b.toList = false := by
  rw [less_eq]
  simp only [decide_eq_false_iff_not]
  rcases h with h | rfl
  · exact List.not_lt.2 (List.le_of_lt h)
  · exact List.lt_irrefl _
def PutI (l : List Fl) (nm da : ByteArray) (k : Nat) : Prop :=
  (putK l nm da k = (l.take k, false) ∧ ∀ f ∈ l.take k, f.nm.toList < nm.toList) ∨
  (putK l nm da k = (putF (l.take k) nm da, true) ∧ ∃ f ∈ l.take k, ¬ f.nm.toList < nm.toList)
theorem filter_all {l : List Fl} {nm : ByteArray} (h : ∀ f ∈ l, f.nm.toList < nm.toList) : l.filter (fun f => Op.bytesLess f.nm.toList nm.toList) = l ∧ l.filter (fun f => Op.bytesLess nm.toList f.nm.toList) = [] :=
  ⟨List.filter_eq_self.2 fun f hf => less_iff.2 (h f hf), List.filter_eq_nil_iff.2 fun f hf => by rw [less_no (.inl (h f hf))]; simp⟩
theorem putI {l : List Fl} (hs : Srt l) (nm da : ByteArray) : ∀ k, k ≤ l.length → PutI l nm da k
  | 0, _ => .inl ⟨by simp [putK], fun f hf => by simp at hf⟩
  | k + 1, hk => by
    have hlt : k < l.length := by omega
    have ih := putI hs nm da k (by omega)
    have hx : ∀ f ∈ l.take k, f.nm.toList < (l[k]).nm.toList := fun f hf => by
      obtain ⟨i, hi, rfl⟩ := List.getElem_of_mem hf
      have hi2 : i < k := by simp at hi; omega
      have e : (l.take k)[i] = l[i]'(by omega) := by simp
      rw [e]
      exact List.pairwise_iff_getElem.1 hs i k (by omega) hlt hi2
    unfold PutI at ih ⊢
    rw [putK_next l nm da k hlt, take_next l k hlt]
    generalize l.take k = P at *
    generalize l[k] = x at *
    rcases ih with ⟨e, hall⟩ | ⟨e, f0, hf0, hn0⟩
    · rw [e]
      obtain ⟨fa, fb⟩ := filter_all hall
      rcases tri x.nm nm with h | h | h
      · refine .inl ⟨?_, ?_⟩
        · have h1 := less_iff.2 h
          have h2 : (x.nm.toList == nm.toList) = false := beq_no (fun q => by rw [q] at h; exact List.lt_irrefl _ h)
          simp [putS, h1, h2]
        · intro f hf
          simp only [List.mem_append, List.mem_singleton] at hf
          rcases hf with hf | rfl
          · exact hall f hf
          · exact h
      · refine .inr ⟨?_, x, by simp, by rw [h]; exact List.lt_irrefl _⟩
        have h1 := less_no (.inr h)
        have h1' := less_no (.inr h.symm)
        have h2 : (x.nm.toList == nm.toList) = true := beq_bytes.2 h
        simp [putS, putF, h1, h1', h2, List.filter_append, fa, fb]
      · refine .inr ⟨?_, x, by simp, List.not_lt.2 (List.le_of_lt h)⟩
        have h1 := less_no (.inl h)
        have h1' := less_iff.2 h
        have h2 : (x.nm.toList == nm.toList) = false := beq_no (fun q => by rw [q] at h; exact List.lt_irrefl _ h)
        simp [putS, putF, h1, h1', h2, List.filter_append, fa, fb]
    · rw [e]
      have hgt : nm.toList < x.nm.toList := by
        have h1 := hx f0 hf0
        rcases tri f0.nm nm with q | q | q
        · exact absurd q hn0
        · rw [← q]; exact h1
        · exact List.lt_trans q h1
      refine .inr ⟨?_, f0, by simp [hf0], hn0⟩
      have h1 := less_no (.inl hgt)
      have h1' := less_iff.2 hgt
      have h2 : (x.nm.toList == nm.toList) = false := beq_no (fun q => by rw [q] at hgt; exact List.lt_irrefl _ hgt)
      simp [putS, putF, h1, h1', h2, List.filter_append]
theorem putL_eq {l : List Fl} (hs : Srt l) (nm da : ByteArray) : putL l nm da = putF l nm da := by
  have h := putI hs nm da l.length (Nat.le_refl _)
  unfold PutI at h
  rw [List.take_length] at h
  rcases h with ⟨e, hall⟩ | ⟨e, _⟩
  · obtain ⟨fa, fb⟩ := filter_all hall
    simp [putL, e, putF, fa, fb]
  · simp [putL, e]
theorem mem_putF {l : List Fl} {nm da : ByteArray} {f : Fl} : f ∈ putF l nm da ↔ f = ⟨nm, da⟩ ∨ (f ∈ l ∧ f.nm ≠ nm) := by
  unfold putF
  simp only [List.mem_append, List.mem_filter, List.mem_cons, less_iff]
  constructor
  · rintro (⟨h, q⟩ | h | ⟨h, q⟩)
    · exact .inr ⟨h, fun e => by rw [e] at q; exact List.lt_irrefl _ q⟩
    · exact .inl h
    · exact .inr ⟨h, fun e => by rw [e] at q; exact List.lt_irrefl _ q⟩
  · rintro (h | ⟨h, q⟩)
    · exact .inr (.inl h)
    · rcases tri f.nm nm with t | t | t
      · exact .inl ⟨h, t⟩
      · exact absurd t q
      · exact .inr (.inr ⟨h, t⟩)
theorem srt_putF {l : List Fl} (hs : Srt l) (nm da : ByteArray) : Srt (putF l nm da) := by
  unfold putF Srt
  rw [List.pairwise_append]
  refine ⟨hs.sublist List.filter_sublist, ?_, ?_⟩
  · rw [List.pairwise_cons]
    refine ⟨fun f hf => less_iff.1 (List.mem_filter.1 hf).2, hs.sublist List.filter_sublist⟩
  · intro x hx y hy
    have h1 := less_iff.1 (List.mem_filter.1 hx).2
    simp only [List.mem_cons] at hy
    rcases hy with rfl | hy
    · exact h1
    · exact List.lt_trans h1 (less_iff.1 (List.mem_filter.1 hy).2)
theorem srt_inj {l : List Fl} (hs : Srt l) {f g : Fl} (hf : f ∈ l) (hg : g ∈ l) (e : f.nm = g.nm) : f = g := by
  obtain ⟨i, hi, rfl⟩ := List.getElem_of_mem hf
  obtain ⟨j, hj, rfl⟩ := List.getElem_of_mem hg
  rcases Nat.lt_trichotomy i j with q | q | q
  · have := List.pairwise_iff_getElem.1 hs i j hi hj q
    rw [e] at this
    exact absurd this (List.lt_irrefl _)
  · subst q; rfl
  · have := List.pairwise_iff_getElem.1 hs j i hj hi q
    rw [e] at this
    exact absurd this (List.lt_irrefl _)
def hasN (l : List Fl) (nm : ByteArray) : Bool := l.any (fun f => f.nm.toList == nm.toList)
theorem hasN_iff {l : List Fl} {nm : ByteArray} : hasN l nm = true ↔ ∃ f ∈ l, f.nm = nm := by
  unfold hasN
  rw [List.any_eq_true]
  exact ⟨fun ⟨f, hf, e⟩ => ⟨f, hf, beq_bytes.1 e⟩, fun ⟨f, hf, e⟩ => ⟨f, hf, beq_bytes.2 e⟩⟩
theorem len_parts {l : List Fl} (hs : Srt l) (nm : ByteArray) : (l.filter (fun f => Op.bytesLess f.nm.toList nm.toList)).length + (l.filter (fun f => Op.bytesLess nm.toList f.nm.toList)).length + (if hasN l nm then 1 else 0) = l.length ∧ (cutL l nm).length + (if hasN l nm then 1 else 0) = l.length := by
  induction l with
  | nil => simp [hasN, cutL]
  | cons x t ih =>
    have hs' := List.pairwise_cons.1 hs
    obtain ⟨i1, i2⟩ := ih hs'.2
    have hno : x.nm = nm → hasN t nm = false := fun e => by
      rw [Bool.eq_false_iff]
      intro q
      obtain ⟨f, hf, e2⟩ := hasN_iff.1 q
      have := hs'.1 f hf
      rw [e, e2] at this
      exact List.lt_irrefl _ this
    unfold cutL at i2 ⊢
    rcases tri x.nm nm with h | h | h
    · have h1 := less_iff.2 h
      have h1' := less_no (.inl h)
      have h2 : (x.nm.toList == nm.toList) = false := beq_no (fun q => by rw [q] at h; exact List.lt_irrefl _ h)
      have h3 : hasN (x :: t) nm = hasN t nm := by simp [hasN, h2]
      simp only [List.filter_cons, h1, h1', h2, h3, Bool.not_false, if_true, List.length_cons, Bool.false_eq_true, if_false]
      omega
    · have h1 := less_no (.inr h)
      have h1' := less_no (.inr h.symm)
      have h2 : (x.nm.toList == nm.toList) = true := beq_bytes.2 h
      have h3 : hasN (x :: t) nm = true := by simp [hasN, h2]
      rw [hno h] at i1 i2
      simp only [List.filter_cons, h1, h1', h2, h3, Bool.not_true, if_true, List.length_cons, Bool.false_eq_true, if_false] at i1 i2 ⊢
      omega
    · have h1 := less_no (.inl h)
      have h1' := less_iff.2 h
      have h2 : (x.nm.toList == nm.toList) = false := beq_no (fun q => by rw [q] at h; exact List.lt_irrefl _ h)
      have h3 : hasN (x :: t) nm = hasN t nm := by simp [hasN, h2]
      simp only [List.filter_cons, h1, h1', h2, h3, Bool.not_false, if_true, List.length_cons, Bool.false_eq_true, if_false]
      omega
theorem len_putL {l : List Fl} (hs : Srt l) (nm da : ByteArray) : (putL l nm da).length = if hasN l nm then l.length else l.length + 1 := by
  have := (len_parts hs nm).1
  rw [putL_eq hs]
  unfold putF
  simp only [List.length_append, List.length_cons]
  split <;> simp_all <;> omega
theorem len_cutL {l : List Fl} (hs : Srt l) (nm : ByteArray) : (cutL l nm).length + (if hasN l nm then 1 else 0) = l.length := (len_parts hs nm).2
theorem mem_cutL {l : List Fl} {nm : ByteArray} {f : Fl} : f ∈ cutL l nm ↔ f ∈ l ∧ f.nm ≠ nm := by
  unfold cutL
  rw [List.mem_filter]
  constructor
  · rintro ⟨h, q⟩
    refine ⟨h, fun e => ?_⟩
    rw [beq_bytes.2 e] at q
    cases q
  · rintro ⟨h, q⟩
    exact ⟨h, by rw [beq_no q]; rfl⟩
theorem srt_cutL {l : List Fl} (hs : Srt l) (nm : ByteArray) : Srt (cutL l nm) := hs.sublist List.filter_sublist
theorem mem_putL {l : List Fl} (hs : Srt l) {nm da : ByteArray} {f : Fl} : f ∈ putL l nm da ↔ f = ⟨nm, da⟩ ∨ (f ∈ l ∧ f.nm ≠ nm) := by rw [putL_eq hs]; exact mem_putF
theorem srt_putL {l : List Fl} (hs : Srt l) (nm da : ByteArray) : Srt (putL l nm da) := by rw [putL_eq hs]; exact srt_putF hs nm da
end Go.Proofs.Ytiilkkdbifhojaa
