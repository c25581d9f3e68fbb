/- What Crash gives, as data; what holds of the operations that are kept. -/
import Derived.Test.YtiilkkdbifhojaaDkC2
import Derived.Test.YtiilkkdbifhojaaDkC5
namespace Go.Proofs.Ytiilkkdbifhojaa
open Go.ChangeShapes Go.WideShapes Go.ChangeAt Go.RowKit
set_option linter.unusedVariables false
set_option maxRecDepth 100000
/-- the operation that is done at the k-th place -/
def crsO (ops : List Dp) (keep : List Int) (torn : Int) : List Dp := (List.range keep.length).map fun (k : Nat) => match ops[((keep[k]?).getD 0).toNat]? with
  | none => ⟨0, ⟨#[]⟩, ⟨#[]⟩, ⟨#[]⟩⟩
  | some o => if k + 1 = keep.length then tornO torn o else o
def crsB (live safe : List Fl) (ops : List Dp) (keep : List Int) (torn : Int) : Bool := diskB ⟨live, safe, ops⟩ && decide (0 ≤ torn) && placesB keep ops.length && filesB (goL safe (crsO ops keep torn))
def crsL (live safe : List Fl) (ops : List Dp) (keep : List Int) (torn : Int) : List Fl := bif crsB live safe ops keep torn then goL safe (crsO ops keep torn) else []
theorem crs_no {live safe : List Fl} {ops : List Dp} {keep : List Int} {torn : Int} (h : crsB live safe ops keep torn = false) : crsL live safe ops keep torn = [] := by simp [crsL, h]
theorem pl_in {keep : List Int} {many k : Nat} (h : placesB keep many = true) (hk : k < keep.length) : ∃ n : Nat, keep[k] = (n : Int) ∧ n < many := by
  have h1 := allTo_get h hk
  have h2 : inB 0 ((many : Int) - 1) keep[k] = true := by
    cases k with
    | zero => rw [pl_zero hk] at h1; exact h1
    | succ m => rw [pl_succ hk] at h1; simp only [Bool.and_eq_true] at h1; exact h1.1
  simp only [inB, decide_eq_true_eq] at h2
  exact ⟨keep[k].toNat, by omega, by omega⟩
theorem crs_len (ops : List Dp) (keep : List Int) (torn : Int) : (crsO ops keep torn).length = keep.length := by simp [crsO]
theorem crs_at {ops : List Dp} {keep : List Int} {torn : Int} {k n : Nat} (hk : k < keep.length) (hn : keep[k] = (n : Int)) (hno : n < ops.length) : (crsO ops keep torn)[k]? = some (if k + 1 = keep.length then tornO torn ops[n] else ops[n]) := by
  simp [crsO, List.getElem?_range hk, List.getElem?_eq_getElem hk, hn, List.getElem?_eq_getElem hno]
theorem torn_form (torn : Int) (o : Dp) : formB (tornO torn o) = formB o := by
  unfold tornO
  split
  · rename_i h
    simp [formB, h.1]
  · rfl
theorem torn_da (torn : Int) (o : Dp) : (tornO torn o).da.size ≤ o.da.size := by
  unfold tornO
  split
  · rename_i h
    simp only [ByteArray.size_extract]
    omega
  · omega
theorem places_ge {keep : List Int} {many : Nat} (h : placesB keep many = true) : ∀ k (hk : k < keep.length), (k : Int) ≤ keep[k]
  | 0, hk => by
    obtain ⟨n, hn, _⟩ := pl_in h hk
    omega
  | k + 1, hk => by
    have h1 := places_ge h k (by omega)
    have h2 := allTo_get h hk
    rw [pl_succ hk] at h2
    simp only [Bool.and_eq_true, decide_eq_true_eq] at h2
    have := h2.2
    omega
theorem places_len {keep : List Int} {many : Nat} (h : placesB keep many = true) : keep.length ≤ many := by
  rcases Nat.eq_zero_or_pos keep.length with e | e
  · omega
  · have h1 := places_ge h (keep.length - 1) (by omega)
    obtain ⟨n, hn, hm⟩ := pl_in h (show keep.length - 1 < keep.length by omega)
    omega
/-- each operation that is kept is well formed and small -/
theorem crs_small {live safe : List Fl} {ops : List Dp} {keep : List Int} {torn : Int} (h : diskB ⟨live, safe, ops⟩ = true) (hp : placesB keep ops.length = true) : ∀ o ∈ crsO ops keep torn, formB o = true ∧ o.da.size ≤ 200000 := fun o ho => by
  obtain ⟨k, hk, rfl⟩ := List.getElem_of_mem ho
  have hk' : k < keep.length := by rw [crs_len] at hk; exact hk
  obtain ⟨n, hn, hno⟩ := pl_in hp hk'
  have e := crs_at (torn := torn) hk' hn hno
  rw [List.getElem?_eq_getElem hk] at e
  simp only [Option.some.injEq] at e
  rw [e]
  obtain ⟨f1, f2⟩ := disk_small h ops[n] (List.getElem_mem hno)
  split
  · exact ⟨by rw [torn_form]; exact f1, Nat.le_trans (torn_da _ _) f2⟩
  · exact ⟨f1, f2⟩
theorem nms_doL {l : List Fl} {o : Dp} (hn : ∀ f ∈ l, nmB f.nm = true) (hf : formB o = true) : ∀ f ∈ (doL l o).1, nmB f.nm = true := fun f hm => by
  have hnm : nmB o.nm = true := by simp only [formB, Bool.and_eq_true] at hf; exact hf.1.2
  unfold doL at hm
  split at hm
  · rcases putL_mem hm with q | q
    · exact hn f q
    · rw [q]; exact hnm
  · split at hm
    · exact hn f hm
    · simp only at hm
      split at hm
      · rename_i h2
        have htn : nmB o.tn = true := by
          simp only [formB, Bool.and_eq_true] at hf
          have h4 := hf.2
          rw [if_pos h2] at h4
          simp only [Bool.and_eq_true] at h4
          exact h4.1
        rcases putL_mem hm with q | q
        · exact hn f (mem_cutL.1 q).1
        · rw [q]; exact htn
      · exact hn f (mem_cutL.1 hm).1
theorem goL_nms {l : List Fl} (os : List Dp) (hn : ∀ f ∈ l, nmB f.nm = true) (ho : ∀ o ∈ os, formB o = true) : ∀ k, k ≤ os.length → ∀ f ∈ goL l (os.take k), nmB f.nm = true
  | 0, _ => by simpa [goL] using hn
  | k + 1, h => by
    have hk : k < os.length := by omega
    rw [goL_next l os k hk]
    exact nms_doL (goL_nms os hn ho k (by omega)) (ho _ (List.getElem_mem hk))
end Go.Proofs.Ytiilkkdbifhojaa
