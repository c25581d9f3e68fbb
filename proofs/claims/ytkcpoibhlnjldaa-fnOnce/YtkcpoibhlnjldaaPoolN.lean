/- Pools: pieces put together, and an end written anew in a row of peers. -/
import Derived.Test.YtkcpoibhlnjldaaAcC
namespace Go.Proofs.Ytkcpoibhlnjldaa
open Go.Value renaming int → J, slice → V
open Go.IntKind renaming i64 → Z
open Go.ChangeShapes Go.WideShapes Go.ChangeAt Go.RowKit
set_option linter.unusedVariables false
theorem flat_set {S : List (List Rs)} {i : Nat} {rs : List Rs} (hi : S[i]? = some rs) (rs' : List Rs) : (rs' ++ S.flatten).Perm (rs ++ (S.set i rs').flatten) := by
 obtain ⟨A, B, e, e'⟩ := slot_split hi rs'
 rw [e, e']
 have p1 : (rs' ++ (A ++ (rs ++ B))).Perm (rs' ++ (rs ++ (A ++ B))) := List.Perm.append_left _ (List.perm_append_comm_assoc _ _ _)
 have p2 : (rs ++ (A ++ (rs' ++ B))).Perm (rs ++ (rs' ++ (A ++ B))) := List.Perm.append_left _ (List.perm_append_comm_assoc _ _ _)
 exact p1.trans ((List.perm_append_comm_assoc _ _ _).trans p2.symm)
/-- one place's pieces put to another's -/
theorem Pool.merge {F : List Nat} {w x : World} {S : List (List Rs)} (h : Pool F w S x) {i j : Nat} {ri rj : List Rs} (hij : i ≠ j) (hi : S[i]? = some ri) (hj : S[j]? = some rj) : Pool F w ((S.set i (ri ++ rj)).set j []) x := by
 refine h.perm ?_
 have p1 := flat_set hi (ri ++ rj)
 have p2 := flat_set (S := S.set i (ri ++ rj)) (i := j) (rs := rj) (by rw [List.getElem?_set_ne hij]; exact hj) []
 rw [List.nil_append] at p2
 have p3 : (ri ++ (rj ++ S.flatten)).Perm (ri ++ (rj ++ ((S.set i (ri ++ rj)).set j []).flatten)) := by
  rw [← List.append_assoc]
  exact p1.trans (List.Perm.append_left _ p2)
 exact (List.perm_append_left_iff _).1 ((List.perm_append_left_iff _).1 p3)
theorem Star.swap {A B : List Rs} {r o : Rs} {x : World} (h : Star ((A ++ r :: B) ++ [o]) x) : Star (A ++ o :: B) x := by
 have p : ((A ++ r :: B) ++ [o]).Perm ((A ++ o :: B) ++ [r]) := by
  refine (List.perm_append_comm).trans ?_
  refine List.Perm.trans ?_ (List.perm_append_comm).symm
  show (o :: (A ++ r :: B)).Perm (r :: (A ++ o :: B))
  refine (List.Perm.cons _ List.perm_middle).trans ?_
  refine List.Perm.trans ?_ (List.Perm.cons _ List.perm_middle).symm
  exact List.Perm.swap _ _ _
 exact (h.perm p).left
theorem endsL_set {l : List Pr} {k : Nat} (hk : k < l.length) (p : Pr) : ∃ A B, endsL l = A ++ orow 2 prcCells l[k].a l[k].cap l[k].E.out :: B ∧ endsL (l.set k p) = A ++ orow 2 prcCells p.a p.cap p.E.out :: B := by
 refine ⟨endsL (l.take k), endsL (l.drop (k + 1)), ?_, ?_⟩
 ·have e : l = l.take k ++ l[k] :: l.drop (k + 1) := by simp
  rw [show endsL l = endsL (l.take k ++ l[k] :: l.drop (k + 1)) from congrArg endsL e]
  simp only [endsL, List.map_append, List.map_cons]
 ·rw [List.set_eq_take_append_cons_drop, if_pos hk]
  simp [endsL]
/-- the end of one peer is another row -/
theorem Pool.setEnds {F : List Nat} {w x : World} {S : List (List Rs)} (h : Pool F w S x) {i j : Nat} {l : List Pr} {p : Pr} {k : Nat} (hk : k < l.length) (hij : i ≠ j) (hi : S[i]? = some (endsL l)) (hj : S[j]? = some [orow 2 prcCells p.a p.cap p.E.out]) : Pool F w ((S.set i (endsL (l.set k p))).set j []) x := by
 obtain ⟨A, B, e1, e2⟩ := endsL_set hk p
 have h1 := h.merge hij hi hj
 have hl : i < S.length := (List.getElem?_eq_some_iff.1 hi).1
 have g : ((S.set i (endsL l ++ [orow 2 prcCells p.a p.cap p.E.out])).set j [])[i]? = some (endsL l ++ [orow 2 prcCells p.a p.cap p.E.out]) := by
  rw [List.getElem?_set_ne (Ne.symm hij)]
  simp [hl]
 have h2 := h1.step (rs' := endsL (l.set k p)) g (Fr.refl _ _) (by
  have := h1.get g
  rw [e1] at this
  rw [e2]
  exact this.swap) (fun b hb => .inl (by
  rw [e2, fps_app, fps_cons] at hb
  rw [e1, fps_app, fps_app, fps_cons, fps_one]
  simp only [List.mem_append] at hb ⊢
  rcases hb with q | q | q
  ·exact .inl (.inl q)
  ·exact .inr q
  ·exact .inl (.inr (.inr q))))
 rw [List.set_comm _ _ (Ne.symm hij), List.set_set] at h2
 exact h2
/-- one element of an own row is turned at one cell -/
theorem own_turn {A : Type} {sz : Nat} {f : A → List Value} (hf : ∀ x, (f x).length = sz) {w : World} {g : Nat} {a : Option Addr} {cap : Nat} {l : List A} {i r : Nat} {u : Value} (h : OwnRow sz f w g a cap l) (hi : i < l.length) (p : A) (hr : r < sz) (hc : ∀ r' v, (f p)[r']? = some v → (r' = r ∧ v = u) ∨ (r' ≠ r ∧ (f l[i])[r']? = some v)) : OwnRow sz f (w.setCell ⟨g, i * sz + r, none⟩ u) g a cap (l.set i p) := by
 refine h.set hf hi hr (by simp) (fun k hk hk' r' v hv => ?_)
 by_cases e : i = k
 ·subst e
  simp only [List.getElem_set_self] at hv
  rcases hc r' v hv with ⟨h1, h2⟩ | ⟨h1, h2⟩
  ·exact .inl ⟨rfl, h1, h2⟩
  ·exact .inr ⟨fun q => h1 q.2, h2⟩
 ·rw [List.getElem_set_ne e] at hv
  exact .inr ⟨fun q => e q.1.symm, hv⟩
theorem own_setEnd {x : World} {g : Nat} {a : Option Addr} {cap k : Nat} {l : List Pr} (h : OwnRow 4 prCells x g a cap l) (hk : k < l.length) (p : Pr) (hp : p.id = l[k].id) :
  OwnRow 4 prCells (((x.setCell ⟨g, k * 4 + 1, none⟩ (V p.a p.E.out.length p.cap)).setCell ⟨g, k * 4 + 2, none⟩ (J Z p.E.sent)).setCell ⟨g, k * 4 + 3, none⟩ (J Z p.E.got)) g a cap (l.set k p) := by
 have h1 := own_turn prLen h hk (r := 1) (u := V p.a p.E.out.length p.cap) ⟨p.id, p.a, p.cap, ⟨p.E.out, l[k].E.sent, l[k].E.got⟩⟩ (by decide) (fun r v hv => by
  match r, hv with
  | 0, hv => simp [prCells] at hv; exact .inr ⟨by omega, by simp [prCells, ← hp, hv]⟩
  | 1, hv => simp [prCells] at hv; exact .inl ⟨rfl, hv.symm⟩
  | 2, hv => simp [prCells] at hv; exact .inr ⟨by omega, by simp [prCells, hv]⟩
  | 3, hv => simp [prCells] at hv; exact .inr ⟨by omega, by simp [prCells, hv]⟩)
 have h2 := own_turn prLen h1 (by simpa using hk) (r := 2) (u := J Z p.E.sent) ⟨p.id, p.a, p.cap, ⟨p.E.out, p.E.sent, l[k].E.got⟩⟩ (by decide) (fun r v hv => by
  rw [List.getElem_set_self]
  match r, hv with
  | 0, hv => simp [prCells] at hv; exact .inr ⟨by omega, by simp [prCells, hv]⟩
  | 1, hv => simp [prCells] at hv; exact .inr ⟨by omega, by simp [prCells, hv]⟩
  | 2, hv => simp [prCells] at hv; exact .inl ⟨rfl, hv.symm⟩
  | 3, hv => simp [prCells] at hv; exact .inr ⟨by omega, by simp [prCells, hv]⟩)
 have h3 := own_turn prLen h2 (by simpa using hk) (r := 3) (u := J Z p.E.got) p (by decide) (fun r v hv => by
  rw [List.getElem_set_self]
  match r, hv with
  | 0, hv => simp [prCells] at hv; exact .inr ⟨by omega, by simp [prCells, hv]⟩
  | 1, hv => simp [prCells] at hv; exact .inr ⟨by omega, by simp [prCells, hv]⟩
  | 2, hv => simp [prCells] at hv; exact .inr ⟨by omega, by simp [prCells, hv]⟩
  | 3, hv => simp [prCells] at hv; exact .inl ⟨rfl, hv.symm⟩)
 simp only [List.set_set] at h3
 exact h3
/-- three cells of a row of peers written: the end of one of them -/
theorem Pool.setPeer {F : List Nat} {w x : World} {S : List (List Rs)} (h : Pool F w S x) {i k g : Nat} {a : Option Addr} {cap : Nat} {l : List Pr} (hi : S[i]? = some [orow 4 prCells a cap l]) (hk : k < l.length) (p : Pr) (hp : p.id = l[k].id) (hg : gOf a = g) :
  Pool F w (S.set i [orow 4 prCells a cap (l.set k p)]) (((x.setCell ⟨g, k * 4 + 1, none⟩ (V p.a p.E.out.length p.cap)).setCell ⟨g, k * 4 + 2, none⟩ (J Z p.E.sent)).setCell ⟨g, k * 4 + 3, none⟩ (J Z p.E.got)) := by
 subst hg
 have o := own_setEnd (h.orowAt hi) hk p hp
 obtain ⟨st, _⟩ := Star.ofOrow o
 have hm : gOf a ∈ fps [orow 4 prCells a cap l] := by rw [fps_one, orow_fp, if_neg (by omega)]; simp
 refine h.step hi ((((Fr.refl _ _).set (.inl hm)).set (.inl hm)).set (.inl hm)) st (fun b hb => .inl ?_)
 rw [fps_one] at hb ⊢
 obtain ⟨_, rfl⟩ := orow_mem hb
 rw [fps_one] at hm
 exact hm
end Go.Proofs.Ytkcpoibhlnjldaa
