/- A new world's nodes, each with a row of its own, as they are laid one behind the other. -/
import Derived.Test.YtilacamcedjbmaaPo
namespace Go.Proofs.Ytilacamcedjbmaa
open Go.ChangeShapes Go.WideShapes Go.ChangeAt Go.RowKit
set_option linter.unusedVariables false
/-- a slot's node -/
def mkN (l : List Slt) (s : Slt) (pa : Option Addr) (pc : Nat) : Nd := ⟨s.id, s.has, 0, 0, none, 0, [], pa, pc, peersL l s⟩
def Nd.pv (n : Nd) : Value := .slice n.pa n.peers.length n.pc
structure Res3 (b : Nat) (x : World) : Prop where
  lt : b < x.heap.size
  c : ∀ j, j < 3 → ∃ v, x.cell? ⟨b, j, none⟩ = some v
  f : ∀ j, x.frozen? ⟨b, j, none⟩ = false
theorem Res3.keep {b : Nat} {x y : World} (h : Res3 b x) (hb : y.heap[b]? = x.heap[b]?) (hs : x.heap.size ≤ y.heap.size) : Res3 b y :=
  ⟨Nat.lt_of_lt_of_le h.lt hs, fun j hj => by obtain ⟨v, hv⟩ := h.c j hj; exact ⟨v, (World.cell?_of_block hb).trans hv⟩, fun j => (World.frozen?_of_block hb).trans (h.f j)⟩
theorem res3_new (w : World) (v0 v1 v2 : Value) (T : TypeId) : Res3 w.heap.size (w.alloc (.cells #[v0, v1, v2] T)) := by
  refine ⟨by simp, fun j hj => ?_, frozen_of_block (heap_alloc_new w _)⟩
  match j, hj with
  | 0, _ => exact ⟨_, World.cell?_alloc_at _ _ _ _ rfl⟩
  | 1, _ => exact ⟨_, World.cell?_alloc_at _ _ _ _ rfl⟩
  | 2, _ => exact ⟨_, World.cell?_alloc_at _ _ _ _ rfl⟩
/-- two rows that lie apart -/
def Apt (u v : Value) : Prop := u.ownBlock = none ∨ u.ownBlock ≠ v.ownBlock
/-- the nodes of the first k slots: their row, and each one's row of peers -/
structure Fst (base : Nat) (l : List Slt) (k : Nat) (v : Value) (L : List Nd) (x : World) : Prop where
  len : L.length = k
  is : ∀ i (h : i < L.length) (h' : i < l.length), ∃ pa pc, L[i] = mkN l l[i] pa pc
  row : x.ownsRow base 35 6 v L.length (L.flatMap ndCells)
  prs : ∀ i (h : i < L.length), x.ownsRow base 50 4 L[i].pv L[i].peers.length (L[i].peers.flatMap prCells)
  ap : ∀ i (h : i < L.length), Apt L[i].pv v
  ap2 : ∀ i j (h : i < L.length) (h' : j < L.length), i ≠ j → Apt L[i].pv L[j].pv
theorem Fst.below {base : Nat} {l : List Slt} {k : Nat} {v : Value} {L : List Nd} {x y : World} (h : Fst base l k v L x) (b : Below x.heap.size x y) : Fst base l k v L y :=
  { h with row := own_keep h.row b, prs := fun i hi => own_keep (h.prs i hi) b }
theorem own_put {x : World} {base : Nat} {e : TypeId} {sz : Nat} {v : Value} {n : Nat} {xs : List Value} (h : x.ownsRow base e sz v n xs) {K o : Nat} (hK : K < base) (u : Value) : (x.setCell ⟨K, o, none⟩ u).ownsRow base e sz v n xs :=
  h.kept (grown_set x K o u) (.inr (fun q => by have := (h.lt K q).1; omega))
theorem Fst.put {base : Nat} {l : List Slt} {k : Nat} {v : Value} {L : List Nd} {x : World} (h : Fst base l k v L x) {K o : Nat} (hK : K < base) (u : Value) : Fst base l k v L (x.setCell ⟨K, o, none⟩ u) :=
  { h with row := own_put h.row hK u, prs := fun i hi => own_put (h.prs i hi) hK u }
theorem Fst.nil {base : Nat} {l : List Slt} {x : World} : Fst base l 0 (.slice none 0 0) [] x :=
  ⟨rfl, fun i h => by simp at h, ⟨by simp, .inl ⟨rfl, rfl⟩⟩, fun i h => by simp at h, fun i h => by simp at h, fun i j h => by simp at h⟩
/-- one node more -/
theorem Fst.grow {base : Nat} {l : List Slt} {k : Nat} {v v2 : Value} {L : List Nd} {x y : World} {n : Nd} (h : Fst base l k v L x) (hk : k < l.length) {pa : Option Addr} {pc : Nat} (hn : n = mkN l l[k] pa pc)
    (hp : x.ownsRow base 50 4 n.pv n.peers.length (n.peers.flatMap prCells)) (hpv : Apt n.pv v) (hpp : ∀ i (h : i < L.length), Apt n.pv L[i].pv ∧ Apt L[i].pv n.pv)
    (hg : x.grownBy y v.ownBlock) (ho : y.ownsRow base 35 6 v2 (L ++ [n]).length ((L ++ [n]).flatMap ndCells)) (hl : v2.ownBlock = v.ownBlock ∨ v2.ownBlock = some x.heap.size) : Fst base l (k + 1) v2 (L ++ [n]) y := by
  have far : ∀ {u : Value} {m : Nat} {zs : List Value}, x.ownsRow base 50 4 u m zs → Apt u v → Apt u v2 := fun {u m zs} hu ha => by
    cases hb : u.ownBlock with
    | none => exact .inl hb
    | some b =>
      refine .inr (fun q => ?_)
      rcases hl with e | e
      · rcases ha with ha | ha
        · rw [hb] at ha; cases ha
        · exact ha (q.trans e)
      · rw [e, hb] at q
        simp only [Option.some.injEq] at q
        have := (hu.lt b hb).2
        omega
  have keep : ∀ {u : Value} {m : Nat} {zs : List Value}, x.ownsRow base 50 4 u m zs → Apt u v → y.ownsRow base 50 4 u m zs := fun hu ha => hu.kept hg ha
  have ln := h.len
  refine ⟨by simp [ln], fun i hi hi' => ?_, ho, fun i hi => ?_, fun i hi => ?_, fun i j hi hj hij => ?_⟩
  · by_cases q : i < L.length
    · rw [List.getElem_append_left q]; exact h.is i q hi'
    · have : i = L.length := by simp at hi; omega
      subst this
      simp only [List.getElem_append_right (Nat.le_refl _), Nat.sub_self, List.getElem_cons_zero]
      exact ⟨pa, pc, by rw [hn]; simp only [ln]⟩
  · by_cases q : i < L.length
    · rw [List.getElem_append_left q]; exact keep (h.prs i q) (h.ap i q)
    · have : i = L.length := by simp at hi; omega
      subst this
      simp only [List.getElem_append_right (Nat.le_refl _), Nat.sub_self, List.getElem_cons_zero]
      exact keep hp hpv
  · by_cases q : i < L.length
    · rw [List.getElem_append_left q]; exact far (h.prs i q) (h.ap i q)
    · have : i = L.length := by simp at hi; omega
      subst this
      simp only [List.getElem_append_right (Nat.le_refl _), Nat.sub_self, List.getElem_cons_zero]
      exact far hp hpv
  · by_cases q : i < L.length
    · by_cases q2 : j < L.length
      · rw [List.getElem_append_left q, List.getElem_append_left q2]; exact h.ap2 i j q q2 hij
      · have : j = L.length := by simp at hj; omega
        subst this
        rw [List.getElem_append_left q]
        simp only [List.getElem_append_right (Nat.le_refl _), Nat.sub_self, List.getElem_cons_zero]
        exact (hpp i q).2
    · have : i = L.length := by simp at hi; omega
      subst this
      have q2 : j < L.length := by simp at hj; omega
      rw [List.getElem_append_left q2]
      simp only [List.getElem_append_right (Nat.le_refl _), Nat.sub_self, List.getElem_cons_zero]
      exact (hpp j q2).1
/-- a new row lies apart from all older ones, and they from it -/
theorem apt_new {x y : World} {base b2 : Nat} {e e2 : TypeId} {sz sz2 : Nat} {u v : Value} {m m2 : Nat} {xs ys : List Value} (hu : y.ownsRow b2 e sz u m xs) (hb : x.heap.size ≤ b2) (hv : x.ownsRow base e2 sz2 v m2 ys) : Apt u v ∧ Apt v u := by
  constructor
  · cases hq : u.ownBlock with
    | none => exact .inl hq
    | some b =>
      refine .inr (fun q => ?_)
      have h1 := (hu.lt b hq).1
      have h2 := (hv.lt b (by rw [← q]; exact hq)).2
      omega
  · cases hq : v.ownBlock with
    | none => exact .inl hq
    | some b =>
      refine .inr (fun q => ?_)
      have h1 := (hv.lt b hq).2
      have h2 := (hu.lt b (by rw [← q]; exact hq)).1
      omega
/-- what WorldNew keeps: its answer's block, its variable, the nodes -/
structure Wn (w : World) (K : Nat) (st : Int) (l : List Slt) (k : Nat) (v : Value) (L : List Nd) (x : World) : Prop where
  old : Below w.heap.size w x
  res : Res3 w.heap.size x
  lo : w.heap.size < K
  var : Res3 K x
  c0 : x.cell? ⟨K, 0, none⟩ = some (.int .i64 st)
  c1 : x.cell? ⟨K, 1, none⟩ = some v
  c2 : x.cell? ⟨K, 2, none⟩ = some (.slice none 0 0)
  fst : Fst (K + 1) l k v L x
theorem Wn.below {w : World} {K : Nat} {st : Int} {l : List Slt} {k : Nat} {v : Value} {L : List Nd} {x y : World} (h : Wn w K st l k v L x) (b : Below x.heap.size x y) : Wn w K st l k v L y :=
  { h with
    old := below_trans h.old b
    res := h.res.keep (b.block _ h.res.lt) b.size
    var := h.var.keep (b.block _ h.var.lt) b.size
    c0 := (b.cell h.var.lt).trans h.c0
    c1 := (b.cell h.var.lt).trans h.c1
    c2 := (b.cell h.var.lt).trans h.c2
    fst := h.fst.below b }
end Go.Proofs.Ytilacamcedjbmaa
