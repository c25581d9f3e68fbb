/- The operations of a right disk are small. -/
import Derived.Test.YtiilkkdbifhojaaDkC4
import Derived.Test.YtiilkkdbifhojaaDkI3
namespace Go.Proofs.Ytiilkkdbifhojaa
open Go.ChangeShapes Go.WideShapes Go.ChangeAt Go.RowKit
set_option linter.unusedVariables false
theorem em_size {s : ByteArray} (h : emB s = true) : s.size = 0 := by
  unfold emB at h
  rw [Lib.toList_data, List.isEmpty_iff] at h
  show s.data.size = 0
  rw [← Array.length_toList, h]
  rfl
theorem step_small {l l' : List Fl} {o : Dp} (hf : filesB l = true) (h : stepL l o = some l') : formB o = true ∧ o.da.size ≤ 200000 ∧ filesB l' = true := by
  unfold stepL at h
  split at h
  · rename_i hq
    simp only [Option.some.injEq] at h
    simp only [Bool.and_eq_true] at hq
    obtain ⟨⟨h1, h2⟩, h3⟩ := hq
    refine ⟨h2, ?_, h ▸ h3⟩
    by_cases hk : (o.kind == 1) = true
    · have e : (doL l o).1 = putL l o.nm (appD l o.nm o.da) := by unfold doL; rw [if_pos hk]
      have hm : (⟨o.nm, appD l o.nm o.da⟩ : Fl) ∈ putL l o.nm (appD l o.nm o.da) := (mem_putL (filesB_srt hf)).2 (.inl rfl)
      rw [e] at h3
      have h4 := datL_mem hm
      have h5 := (filesB_parts h3).2.2
      have h6 : o.da.size ≤ (appD l o.nm o.da).size := by
        unfold appD
        split
        · omega
        · rw [ByteArray.size_append]; omega
      simp only at h4
      omega
    · have : o.da.size = 0 := by
        simp only [formB, Bool.and_eq_true] at h2
        have h4 := h2.2
        split at h4
        · simp only [Bool.and_eq_true] at h4
          exact em_size h4.2
        · simp only [Bool.and_eq_true, Bool.or_eq_true] at h4
          rcases h4.2 with q | q
          · exact absurd q hk
          · exact em_size q
      omega
  · cases h
theorem run_small : ∀ (os : List Dp) (l l' : List Fl), filesB l = true → runL l os = some l' → ∀ o ∈ os, formB o = true ∧ o.da.size ≤ 200000
  | [], _, _, _, _ => fun o ho => by simp at ho
  | o :: t, l, l', hf, h => fun x hx => by
    simp only [runL] at h
    cases hs : stepL l o with
    | none => rw [hs] at h; cases h
    | some l1 =>
      rw [hs] at h
      obtain ⟨a, b, c⟩ := step_small hf hs
      rcases List.mem_cons.1 hx with e | e
      · rw [e]; exact ⟨a, b⟩
      · exact run_small t l1 l' c h x e
theorem disk_small {live safe : List Fl} {ops : List Dp} (h : diskB ⟨live, safe, ops⟩ = true) : ∀ o ∈ ops, formB o = true ∧ o.da.size ≤ 200000 := by
  simp only [diskB, Bool.and_eq_true] at h
  have hr := h.2
  cases e : runL safe ops with
  | none => rw [e] at hr; cases hr
  | some l => exact run_small ops safe l h.1.1.2 e
end Go.Proofs.Ytiilkkdbifhojaa
