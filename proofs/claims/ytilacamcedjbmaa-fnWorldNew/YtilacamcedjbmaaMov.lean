/- Moves as data; slices.Clone of slots; neighbours. -/
import Derived.Test.YtilacamcedjbmaaTo
import Derived.Test.YtilacamcedjbmaaOf
namespace Go.Proofs.Ytilacamcedjbmaa
open Go.ChangeShapes Go.WideShapes Go.ChangeAt Go.RowKit
set_option linter.unusedVariables false
theorem off_ne {sz i k r r' : Nat} (hr : r < sz) (hr' : r' < sz) (h : ¬ (k = i ∧ r' = r)) : i * sz + r ≠ k * sz + r' := by
  intro e
  rcases Nat.lt_trichotomy k i with h1 | h1 | h1
  · have := Nat.mul_le_mul_right sz (show k + 1 ≤ i from h1)
    rw [Nat.succ_mul] at this; omega
  · subst h1; exact h ⟨rfl, by omega⟩
  · have := Nat.mul_le_mul_right sz (show i + 1 ≤ k from h1)
    rw [Nat.succ_mul] at this; omega
/-- one cell of an own row is written -/
theorem OwnRow.set {A : Type} {sz : Nat} {f : A → List Value} (hf : ∀ x, (f x).length = sz) {w : World} {g : Nat} {a : Option Addr} {cap : Nat} {l l' : List A} {i r : Nat} {u : Value} (h : OwnRow sz f w g a cap l) (hi : i < l.length) (hr : r < sz) (hlen : l'.length = l.length)
    (hc : ∀ k (hk : k < l'.length) (hk' : k < l.length) r' v, (f l'[k])[r']? = some v → (k = i ∧ r' = r ∧ v = u) ∨ (¬ (k = i ∧ r' = r) ∧ (f l[k])[r']? = some v)) : OwnRow sz f (w.setCell ⟨g, i * sz + r, none⟩ u) g a cap l' := by
  obtain ⟨ea, hfz⟩ := h.own (by omega)
  refine ⟨fun k hk => ?_, fun h0 => ⟨ea, fun j => by rw [frozen_set]; exact hfz j⟩, by rw [hlen]; exact h.room⟩
  have hk' : k < l.length := by omega
  obtain ⟨b, off, e, hb, hcell⟩ := h.rows k hk'
  have e' := e
  rw [ea] at e'
  simp only [Option.some.injEq, Addr.mk.injEq, and_true] at e'
  obtain ⟨rfl, rfl⟩ := e'
  refine ⟨g, 0, e, by rw [size_setCell]; exact hb, fun r' v hv => ?_⟩
  rw [Nat.zero_add]
  have hr' : r' < sz := by rw [← hf l'[k]]; exact (List.getElem?_eq_some_iff.1 hv).1
  rcases hc k hk hk' r' v hv with ⟨rfl, rfl, rfl⟩ | ⟨hne, ho⟩
  · obtain ⟨b2, off2, e2, _, hcell2⟩ := h.rows k hi
    rw [ea] at e2
    simp only [Option.some.injEq, Addr.mk.injEq, and_true] at e2
    obtain ⟨rfl, rfl⟩ := e2
    have hin : r' < (f l[k]).length := by rw [hf]; exact hr
    have := hcell2 r' _ (List.getElem?_eq_getElem hin)
    rw [Nat.zero_add] at this
    exact cell_set_same this
  · rw [cell_set_other (.inr (off_ne hr hr' hne))]
    have := hcell r' v ho
    rwa [Nat.zero_add] at this
def addHas (l : List Slt) (i : Nat) (d : Int) : List Slt := l.modify i fun s => ⟨s.id, s.up, s.has + d⟩
theorem addHas_len (l : List Slt) (i : Nat) (d : Int) : (addHas l i d).length = l.length := by simp [addHas]
theorem addHas_get (l : List Slt) (i : Nat) (d : Int) (k : Nat) (hk : k < (addHas l i d).length) (hk' : k < l.length) : (addHas l i d)[k] = if i = k then ⟨l[k].id, l[k].up, l[k].has + d⟩ else l[k] := by
  simp [addHas, List.getElem_modify]
theorem OwnRow.addHas {w : World} {g : Nat} {a : Option Addr} {cap : Nat} {l : List Slt} {i : Nat} {d u : Int} (h : OwnRow 3 sltCells w g a cap l) (hi : i < l.length) (hu : u = l[i].has + d) : OwnRow 3 sltCells (w.setCell ⟨g, i * 3 + 2, none⟩ (.int .i64 u)) g a cap (addHas l i d) := by
  subst hu
  refine OwnRow.set sltLen h hi (by decide) (addHas_len _ _ _) (fun k hk hk' r' v hv => ?_)
  rw [addHas_get l i d k hk hk'] at hv
  by_cases e : i = k
  · subst e
    rw [if_pos rfl] at hv
    match r', hv with
    | 0, hv => exact .inr ⟨by omega, hv⟩
    | 1, hv => exact .inr ⟨by omega, hv⟩
    | 2, hv => simp [sltCells] at hv; exact .inl ⟨rfl, rfl, hv.symm⟩
    | r + 3, hv => simp [sltCells] at hv
  · rw [if_neg e] at hv
    exact .inr ⟨by omega, hv⟩
def nbB (x y : Slt) : Bool := x.up == y.id || y.up == x.id
def movOk (l : List Slt) (f t amt : Int) : Bool := rightsB l && decide (0 ≤ posL l f) && decide (0 ≤ posL l t) && (match l[(posL l f).toNat]?, l[(posL l t).toNat]? with | some x, some y => nbB x y && inB 1 x.has amt | _, _ => false)
def movL (l : List Slt) (f t amt : Int) : List Slt := if movOk l f t amt then addHas (addHas l (posL l f).toNat (-amt)) (posL l t).toNat amt else []
theorem movOk_wrong {l : List Slt} {f t amt : Int} (h : rightsB l = false) : movOk l f t amt = false := by simp [movOk, h]
theorem movOk_none1 {l : List Slt} {f t amt : Int} (h : posL l f = -1) : movOk l f t amt = false := by simp [movOk, h]
theorem movOk_none2 {l : List Slt} {f t amt : Int} (h : posL l t = -1) : movOk l f t amt = false := by simp [movOk, h]
theorem movOk_at {l : List Slt} {f t amt : Int} {i j : Nat} (h : rightsB l = true) (hi : i < l.length) (hj : j < l.length) (hf : posL l f = (i : Int)) (ht : posL l t = (j : Int)) : movOk l f t amt = (nbB l[i] l[j] && inB 1 l[i].has amt) := by
  simp [movOk, h, hf, ht, hi, hj]
theorem movL_no {l : List Slt} {f t amt : Int} (h : movOk l f t amt = false) : movL l f t amt = [] := by simp [movL, h]
theorem movL_yes {l : List Slt} {f t amt : Int} {i j : Nat} (h : movOk l f t amt = true) (hf : posL l f = (i : Int)) (ht : posL l t = (j : Int)) : movL l f t amt = addHas (addHas l i (-amt)) j amt := by
  simp [movL, h, hf, ht]
/-- in a right list a slot is not above itself -/
theorem up_lt {l : List Slt} (h : rightsB l = true) (i : Nat) (hi : i < l.length) : l[i].up < l[i].id := by
  have hg : ∀ j (h : j < l.length), slotB (l.take j) l[j] = true := by
    simp only [rightsB, Bool.and_eq_true, decide_eq_true_eq] at h
    exact h.1.2
  have inc : ∀ k m (hk : k + m < l.length), (l[k]'(by omega)).id ≤ (l[k + m]).id := by
    intro k m
    induction m with
    | zero => intro hk; simp
    | succ m ih =>
      intro hk
      have h1 := ih (by omega)
      have h2 := hg (k + m + 1) hk
      rw [slotB_succ (m := k + m) hk] at h2
      simp only [Bool.and_eq_true, decide_eq_true_eq] at h2
      have := h2.2.1
      show (l[k]'(by omega)).id ≤ (l[k + m + 1]).id
      omega
  have h2 := hg i hi
  cases i with
  | zero =>
    rw [slotB_zero hi] at h2
    simp only [Bool.and_eq_true, beq_iff_eq, inB, decide_eq_true_eq] at h2
    omega
  | succ m =>
    rw [slotB_succ hi] at h2
    simp only [Bool.and_eq_true, decide_eq_true_eq] at h2
    rcases posL_cases (l.take (m + 1)) (l[m + 1]).up with ⟨k, hk, _, he⟩ | ⟨hp, _⟩
    · have hk2 : k ≤ m := by simp at hk; omega
      have e : (l.take (m + 1))[k] = l[k]'(by omega) := by simp
      rw [e] at he
      have h3 := inc k (m - k) (by omega)
      have e2 : k + (m - k) = m := by omega
      simp only [e2] at h3
      have := h2.2.1
      omega
    · omega
theorem nb_self {l : List Slt} (h : rightsB l = true) (i : Nat) (hi : i < l.length) : nbB l[i] l[i] = false := by
  have := up_lt h i hi
  simp only [nbB, Bool.or_self, beq_eq_false_iff_ne]
  omega
set_option maxHeartbeats 1000000 in
theorem neighbours_any (x y : Slt) (w : World) :
    Calls Try.prog 26 #[.agg #[.int .i64 x.id, .int .i64 x.up, .int .i64 x.has], .agg #[.int .i64 y.id, .int .i64 y.up, .int .i64 y.has]] w fun e w' => e = .returned (.bool (nbB x y)) ∧ Below w.heap.size w w' := by
  cases h1 : (x.up == y.id)
  · have HR : Hid (nbB x y = (y.up == x.id)) := hide (by simp [nbB, h1])
    go_enter Try.func26, Try.ntmps26
    go_wp2
    go_ret
    exact ⟨by rw [HR.out]; rfl, below_alloc (below_alloc (Below.refl _ _) _) _⟩
  · have HR : Hid (nbB x y = true) := hide (by simp [nbB, h1])
    go_enter Try.func26, Try.ntmps26
    go_wp2
    go_ret
    exact ⟨by rw [HR.out]; rfl, below_alloc (below_alloc (Below.refl _ _) _) _⟩
theorem slt_one (l : List Slt) : ∀ u ∈ l.flatMap sltCells, u.oneCell' = true := fun u hu => by
  obtain ⟨x, _, hx⟩ := List.mem_flatMap.1 hu
  simp only [sltCells, List.mem_cons, List.not_mem_nil, or_false] at hx
  rcases hx with rfl | rfl | rfl <;> rfl
/-- a new row of the call's own, that reads as the list -/
def NewRow {A : Type} (sz : Nat) (f : A → List Value) (l : List A) (w : World) (v : Value) (w' : World) : Prop := ∃ g a cap, w.heap.size ≤ g ∧ v = .slice a l.length cap ∧ OwnRow sz f w' g a cap l
theorem NewRow.below {A : Type} {sz : Nat} {f : A → List Value} {l : List A} {w x y : World} {v : Value} (h : NewRow sz f l w v x) (b : Below x.heap.size x y) : NewRow sz f l w v y := by
  obtain ⟨g, a, cap, hg, e, ho⟩ := h
  exact ⟨g, a, cap, hg, e, ho.below b⟩
def CloneEnd (l : List Slt) (w : World) (e : Ending) (w' : World) : Prop := Below w.heap.size w w' ∧ ∃ v, e = .returned v ∧ NewRow 3 sltCells l w v w'
end Go.Proofs.Ytilacamcedjbmaa
