/- A region that draws its order, by what holds whatever of its operations have come up. -/
import Derived.Test.YtiilkkdbifhojaaRow
import Derived.Orders
namespace Go.Proofs.Ytiilkkdbifhojaa
open Go.ChangeShapes Go.WideShapes Go.ChangeAt Go.RowKit
set_option linter.unusedVariables false
theorem count_zero_false {L : Array Bool} (h : L.toList.count false = 0) (j : Nat) : L.getD j true ≠ false := by
  intro hj
  have hm : false ∈ L.toList := by
    rcases Nat.lt_or_ge j L.size with hlt | hge
    · have : L[j] = false := by simpa [hlt] using hj
      rw [← this]; exact Array.getElem_mem_toList hlt
    · simp [Array.getElem?_eq_none hge] at hj
  exact absurd h (Nat.ne_of_gt (List.count_pos_iff.2 hm))
theorem count_set_false {L : Array Bool} {j : Nat} (hj : L.getD j true = false) : (L.setIfInBounds j true).toList.count false + 1 = L.toList.count false := by
  have hlt : j < L.size := by
    rcases Nat.lt_or_ge j L.size with hlt | hge
    · exact hlt
    · simp [Array.getElem?_eq_none hge] at hj
  have e : L[j] = false := by simpa [hlt] using hj
  have hm : false ∈ L.toList := by rw [← e]; exact Array.getElem_mem_toList hlt
  have hp := List.count_pos_iff.2 hm
  rw [Array.toList_setIfInBounds, List.count_set (by simpa using hlt)]
  have e' : L.toList[j]'(by simpa using hlt) = false := by simpa using e
  rw [e', if_pos (by decide), if_neg (by decide)]
  omega
/-- what holds whatever has come up, and is kept by each that may come up next -/
theorem wpAny_inv {P : Program} {ops : Array Oper} {Q : Exit → Act → World → Prop} {md : Region.Mode} (I : Array Bool → Act → World → Prop)
    (hst : ∀ L a w i, I L a w → i ∈ Region.ready md ops L → ∀ K : Act → World → Prop, (∀ a' w', I (L.setIfInBounds i true) a' w' → K a' w') → wpOp P ops Q i K a w)
    (hen : ∀ L a w, I L a w → Region.ready md ops L = [] → Q .normal a w) :
    ∀ fuel L a w, I L a w → L.toList.count false ≤ fuel → wpAny P md ops Q fuel L a w := by
  intro fuel
  induction fuel with
  | zero =>
    intro L a w h hc
    have hr : Region.ready md ops L = [] := by
      cases hr : Region.ready md ops L with
      | nil => rfl
      | cons j t =>
        have : j ∈ Region.ready md ops L := by rw [hr]; exact List.mem_cons_self
        exact absurd (mem_ready.1 this).1 (count_zero_false (by omega) j)
    exact ⟨hr, hen L a w h hr⟩
  | succ fuel ih =>
    intro L a w h hc
    refine ⟨fun hr => hen L a w h hr, fun i hi => hst L a w i h hi _ fun a' w' h' => ih _ a' w' h' ?_⟩
    have := count_set_false (mem_ready.1 hi).1
    omega
theorem wp_region_inv {P : Program} {ops : Array Oper} {Q : Exit → Act → World → Prop} {id : Nat} {a : Act} {w : World} (hm : P.follows .mixedOrders = true) (I : Array Bool → Act → World → Prop)
    (hst : ∀ L a w i, I L a w → i ∈ Region.ready .any ops L → ∀ K : Act → World → Prop, (∀ a' w', I (L.setIfInBounds i true) a' w' → K a' w') → wpOp P ops Q i K a w)
    (hen : ∀ L a w, I L a w → Region.ready .any ops L = [] → Q .normal a w) (h0 : I (Array.replicate ops.size false) a w.drew) : (Code.region id ops true).wp P Q a w :=
  wp_region_any hm (wpAny_inv I hst hen _ _ _ _ h0 (by
    have h := List.count_le_length (a := false) (l := (Array.replicate ops.size false).toList)
    rw [Array.length_toList, Array.size_replicate] at h
    exact h))
/-- one operation, run -/
theorem wpOp_run {P : Program} {ops : Array Oper} {Q : Exit → Act → World → Prop} {i : Nat} {o : Oper} {a : Act} {w : World} {K : Act → World → Prop} (hi : ops[i]? = some o) (hg : o.guard = none) {v : Value} {w' : World} (hr : (execOp a.eval o).run P w = .ok (.value v) w') (h : K (a.put o.dst v) w') : wpOp P ops Q i K a w := by
  unfold wpOp
  have hw : Region.wanted o (yielded ops a.tmps) = true := by simp [Region.wanted, hg]
  simp only [hi, hw, if_true]
  exact .inl (by unfold Oper.wp; rw [hr]; exact h)
theorem wpOp_skip {P : Program} {ops : Array Oper} {Q : Exit → Act → World → Prop} {i : Nat} {o : Oper} {a : Act} {w : World} {K : Act → World → Prop} (hi : ops[i]? = some o) (hg : o.guard = none) {w' : World} (hr : (execOp a.eval o).run P w = .ok .skip w') (h : K (a.put o.dst undef) w') : wpOp P ops Q i K a w := by
  unfold wpOp
  have hw : Region.wanted o (yielded ops a.tmps) = true := by simp [Region.wanted, hg]
  simp only [hi, hw, if_true]
  exact .inl (by unfold Oper.wp; rw [hr]; exact h)
end Go.Proofs.Ytiilkkdbifhojaa
