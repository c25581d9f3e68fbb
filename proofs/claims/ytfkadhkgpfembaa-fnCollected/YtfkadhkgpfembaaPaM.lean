/- A way from one slot to another one: turned round it is the way back, it comes to none twice, each step goes right up or right down. -/
import Derived.Test.YtfkadhkgpfembaaPMath
namespace Go.Proofs.Ytfkadhkgpfembaa
set_option linter.unusedVariables false
/-- a step right up or right down -/
def Near (l : List Slt) (x y : Int) : Prop := (InL l x ∧ upL l x = y) ∨ (InL l y ∧ upL l y = x)
/-- what the law asks of a way -/
structure WayOk (l : List Slt) (a b : Int) (p : List Int) : Prop where
  first : p.head? = some a
  last : p.getLast? = some b
  le : ∀ x ∈ p, x ≤ max a b
  nodup : p.Nodup
  near : ∀ i x y, p[i]? = some x → p[i + 1]? = some y → Near l x y
  one : p.length = 1 ↔ a = b
theorem way_rev {l : List Slt} (h : rightsB l = true) : ∀ n a b, InL l a → InL l b → a.toNat + b.toNat ≤ n → (wayF l n a b).reverse = wayF l n b a := by
  intro n
  induction n with
  | zero => intro a b ha hb hn; have := ha.pos h; have := hb.pos h; omega
  | succ n ih =>
    intro a b ha hb hn
    simp only [wayF]
    by_cases h1 : b < a
    · have hu := (ha.up h).1
      have hin := ha.up_in h hb h1
      have := hin.pos h
      have := ha.pos h
      rw [if_pos h1, if_neg (by omega), if_pos h1, List.reverse_cons, ih _ _ hin hb (by omega)]
    · by_cases h2 : a < b
      · have hu := (hb.up h).1
        have hin := hb.up_in h ha h2
        have := hin.pos h
        have := hb.pos h
        rw [if_neg h1, if_pos h2, if_pos h2, List.reverse_append, ih _ _ ha hin (by omega)]
        rfl
      · rw [if_neg h1, if_neg h2, if_neg h2, if_neg h1]
        have : a = b := by omega
        subst this; rfl
theorem way_ok {l : List Slt} (h : rightsB l = true) : ∀ n a b, InL l a → InL l b → a.toNat + b.toNat ≤ n → WayOk l a b (wayF l n a b) := by
  intro n
  induction n with
  | zero => intro a b ha hb hn; have := ha.pos h; have := hb.pos h; omega
  | succ n ih =>
    intro a b ha hb hn
    simp only [wayF]
    by_cases h1 : b < a
    · have hu := (ha.up h).1
      have hin := ha.up_in h hb h1
      have hp1 := hin.pos h
      have hp2 := ha.pos h
      have k := ih _ _ hin hb (by omega)
      have hne := wayF_ne l n (upL l a) b
      generalize wayF l n (upL l a) b = q at *
      rw [if_pos h1]
      refine ⟨rfl, ?_, ?_, ?_, ?_, ?_⟩
      · rw [List.getLast?_cons, k.last]; rfl
      · intro x hx
        rcases List.mem_cons.1 hx with rfl | hx
        · omega
        · have := k.le x hx; omega
      · refine List.nodup_cons.2 ⟨fun hm => ?_, k.nodup⟩
        have := k.le a hm; omega
      · intro i x y hx hy
        cases i with
        | zero =>
          simp only [List.getElem?_cons_zero, Option.some.injEq] at hx
          simp only [Nat.zero_add, List.getElem?_cons_succ] at hy
          have e := k.first
          rw [List.head?_eq_getElem?, hy] at e
          simp only [Option.some.injEq] at e
          subst hx e
          exact .inl ⟨ha, rfl⟩
        | succ i =>
          simp only [List.getElem?_cons_succ] at hx hy
          exact k.near i x y hx hy
      · have : 0 < q.length := List.length_pos_iff.2 hne
        simp only [List.length_cons]
        constructor <;> intro e <;> omega
    · by_cases h2 : a < b
      · have hu := (hb.up h).1
        have hin := hb.up_in h ha h2
        have hp1 := hin.pos h
        have hp2 := hb.pos h
        have k := ih _ _ ha hin (by omega)
        have hne := wayF_ne l n a (upL l b)
        generalize wayF l n a (upL l b) = q at *
        rw [if_neg h1, if_pos h2]
        have hlen : 0 < q.length := List.length_pos_iff.2 hne
        refine ⟨?_, ?_, ?_, ?_, ?_, ?_⟩
        · rw [List.head?_append, k.first]; rfl
        · simp
        · intro x hx
          rcases List.mem_append.1 hx with hx | hx
          · have := k.le x hx; omega
          · simp at hx; omega
        · refine List.nodup_append.2 ⟨k.nodup, by simp, fun x hx y hy => ?_⟩
          simp at hy
          have := k.le x hx
          omega
        · intro i x y hx hy
          rcases Nat.lt_or_ge (i + 1) q.length with hi | hi
          · rw [List.getElem?_append_left (by omega)] at hx
            rw [List.getElem?_append_left hi] at hy
            exact k.near i x y hx hy
          · have hy2 := (List.getElem?_eq_some_iff.1 hy).1
            simp at hy2
            have hi2 : i + 1 = q.length := by omega
            rw [List.getElem?_append_right (by omega), hi2, Nat.sub_self] at hy
            simp only [List.getElem?_cons_zero, Option.some.injEq] at hy
            rw [List.getElem?_append_left (by omega)] at hx
            have e := k.last
            rw [List.getLast?_eq_getElem?, show q.length - 1 = i by omega, hx] at e
            simp only [Option.some.injEq] at e
            subst hy e
            exact .inr ⟨hb, rfl⟩
        · simp only [List.length_append, List.length_cons, List.length_nil]
          constructor <;> intro e <;> omega
      · have : a = b := by omega
        subst this
        rw [if_neg h1, if_neg h2]
        refine ⟨rfl, rfl, fun x hx => by simp at hx; omega, by simp, fun i x y hx hy => ?_, by simp⟩
        simp at hy
end Go.Proofs.Ytfkadhkgpfembaa
