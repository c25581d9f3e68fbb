/- The small helpers: within, l1In; worlds in which nothing has turned. -/
import Derived.Test.YtiilkkdbifhojaaRows
import Derived.WalkKit
import Derived.ProofKit
import Derived.OpenShut
import Derived.ShutString
import Derived.WalkSpells
import Derived.WalkLawsBesides
import Derived.Below
import Derived.Deep.QuietTactic
import Derived.BigQuiet
import Derived.BigRegion
import Derived.Deep.RegionWith
namespace Go.Proofs.Ytiilkkdbifhojaa
open Go.ChangeShapes Go.WideShapes Go.ChangeAt Go.RowKit
set_option linter.unusedVariables false
theorem hide {p : Prop} (h : p) : Hid p := h
/-- an int64 -/
def I64 (n : Int) : Prop := -9223372036854775808 ≤ n ∧ n ≤ 9223372036854775807
theorem below_alloc {w w' : World} (h : Below w.heap.size w w') (o : Obj) : Below w.heap.size w (w'.alloc o) := h.alloc h.size o
theorem below_trans {a b c : World} (h : Below a.heap.size a b) (k : Below b.heap.size b c) : Below a.heap.size a c := h.trans (k.mono h.size)
theorem below_drewN {a w : World} {B : Nat} (h : Below B a w) : ∀ q, Below B a (w.drewN q)
  | 0 => h
  | q + 1 => (below_drewN h q).drew
def inB (lo hi n : Int) : Bool := decide (lo ≤ n ∧ n ≤ hi)
theorem within_any (n lo hi : Int) (w : World) :
    Calls Try.prog 51 #[.int .i64 n, .int .i64 lo, .int .i64 hi] w fun e w' => e = .returned (.bool (inB lo hi n)) ∧ w' = w := by
  by_cases h1 : lo ≤ n
  · by_cases h2 : n ≤ hi
    · have HR : Hid (inB lo hi n = true) := hide (by simp [inB, h1, h2])
      go_enter Try.func51, Try.ntmps51
      go_wp2
      go_ret
      exact ⟨by rw [HR.out]; rfl, rfl⟩
    · have HR : Hid (inB lo hi n = false) := hide (by simp [inB, h1, h2])
      go_enter Try.func51, Try.ntmps51
      go_wp2
      go_ret
      exact ⟨by rw [HR.out]; rfl, rfl⟩
  · have HR : Hid (inB lo hi n = false) := hide (by simp [inB, h1])
    go_enter Try.func51, Try.ntmps51
    go_wp2
    go_ret
    exact ⟨by rw [HR.out]; rfl, rfl⟩
theorem l1In_any (n lo hi : Int) (w : World) :
    Calls Try.prog 50 #[.int .i64 n, .int .i64 lo, .int .i64 hi] w fun e w' => e = .returned (.bool (inB lo hi n)) ∧ w' = w := by
  by_cases h1 : lo ≤ n
  · by_cases h2 : n ≤ hi
    · have HR : Hid (inB lo hi n = true) := hide (by simp [inB, h1, h2])
      go_enter Try.func50, Try.ntmps50
      go_wp2
      go_ret
      exact ⟨by rw [HR.out]; rfl, rfl⟩
    · have HR : Hid (inB lo hi n = false) := hide (by simp [inB, h1, h2])
      go_enter Try.func50, Try.ntmps50
      go_wp2
      go_ret
      exact ⟨by rw [HR.out]; rfl, rfl⟩
  · have HR : Hid (inB lo hi n = false) := hide (by simp [inB, h1])
    go_enter Try.func50, Try.ntmps50
    go_wp2
    go_ret
    exact ⟨by rw [HR.out]; rfl, rfl⟩
/-- a world in which of what W has nothing has turned -/
structure Later (W : World) where
  w : World
  below : Below W.heap.size W w
theorem later_there (W : World) : Nonempty (Later W) := ⟨⟨W, Below.refl _ _⟩⟩
theorem wp_region_later {P : Program} {id : Nat} {Q : Exit → Act → World → Prop} {a : Act} {w : World} {l : List Oper} (W : World) (hm : P.follows .mixedOrders = true) (hB : Region.lexB .any l.toArray = true) (h0 : Below W.heap.size W w.drew)
    (h : wpQuiet P l.toArray (fun w' => ∃ x : Later W, w' = x.w) (fun a' => ∀ w', (∃ x : Later W, w' = x.w) → Q .normal a' w') l a) : (Code.region id l.toArray true).wp P Q a w :=
  wp_region_quiet (C := fun w' => ∃ x : Later W, w' = x.w) hm hB ⟨⟨_, h0⟩, rfl⟩ h
theorem later_same {P : Program} {f : FuncId} {args : Array Value} {W : World} {x : Later W} {v : Value}
    (h : Calls P f args x.w fun e w' => e = .returned v ∧ w' = x.w) : Calls P f args x.w fun e w'' => e = .returned v ∧ ∃ y : Later W, w'' = y.w :=
  h.mono fun _ _ ⟨he, hm⟩ => ⟨he, x, hm⟩
theorem later_of {P : Program} {f : FuncId} {args : Array Value} {W : World} {x : Later W} {v : Value}
    (h : Calls P f args x.w fun e w' => e = .returned v ∧ Below x.w.heap.size x.w w') : Calls P f args x.w fun e w'' => e = .returned v ∧ ∃ y : Later W, w'' = y.w :=
  h.mono fun _ w' ⟨he, hm⟩ => ⟨he, ⟨w', below_trans x.below hm⟩, rfl⟩
theorem later_new3 {wr : World} {v0 v1 v2 : Value} {T : TypeId} :
    (∀ x : Later (wr.alloc (.cells #[v0, v1, v2] T)), x.w.cell? ⟨wr.heap.size, 0, none⟩ = some v0) ∧ (∀ x : Later (wr.alloc (.cells #[v0, v1, v2] T)), x.w.cell? ⟨wr.heap.size, 1, none⟩ = some v1) ∧ (∀ x : Later (wr.alloc (.cells #[v0, v1, v2] T)), x.w.cell? ⟨wr.heap.size, 2, none⟩ = some v2) := by
  have h1 : wr.heap.size < (wr.alloc (.cells #[v0, v1, v2] T)).heap.size := by simp
  exact ⟨fun x => (x.below.cell h1).trans (World.cell?_alloc_at _ _ _ _ rfl), fun x => (x.below.cell h1).trans (World.cell?_alloc_at _ _ _ _ rfl), fun x => (x.below.cell h1).trans (World.cell?_alloc_at _ _ _ _ rfl)⟩
theorem later_old {wr : World} {o : Obj} {b f : Nat} {v : Value} (hb : b < wr.heap.size) (h : wr.cell? ⟨b, f, none⟩ = some v) : ∀ x : Later (wr.alloc o), x.w.cell? ⟨b, f, none⟩ = some v :=
  fun x => (x.below.cell (by simp; omega)).trans ((World.cell?_alloc_past _ _ _ hb).trans h)
def Shut2 (p : Prop) : Prop := p
theorem Shut2.mk {p : Prop} (h : Shut2 p) : p := h
theorem Shut2.mk' {p : Prop} (h : p) : Shut2 p := h
theorem take_next {A : Type} (l : List A) (k : Nat) (h : k < l.length) : l.take (k + 1) = l.take k ++ [l[k]] := List.take_succ_eq_append_getElem h
end Go.Proofs.Ytiilkkdbifhojaa
