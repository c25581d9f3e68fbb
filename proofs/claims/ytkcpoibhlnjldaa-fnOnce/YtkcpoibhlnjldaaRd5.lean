/- The drawn amount and the drawn text. -/
import Derived.Test.YtkcpoibhlnjldaaBc
namespace Go.Proofs.Ytkcpoibhlnjldaa
open Go.Value renaming int → J, slice → V
open Go.IntKind renaming i64 → Z
open Go.ChangeShapes Go.WideShapes Go.ChangeAt Go.RowKit
set_option linter.unusedVariables false
set_option maxHeartbeats 1000000 in
set_option maxRecDepth 100000 in
theorem l1Open_any (a : Option Addr) (len cap : Nat) (w : World) : Calls Try.prog 11 #[V a len cap] w fun e w' => e = .returned (.pointer (some ⟨w.heap.size, 0, none⟩)) ∧ w' = w.alloc (.cells #[V a len cap, J Z 0] 72) := by
 go_enter Try.func11, Try.ntmps11
 go_wp2
 go_ret
 exact ⟨rfl, rfl⟩
/-- the bytes of a drawn input, as the law is given them -/
def IsCode (w : World) (a : Option Addr) (len : Nat) : Prop := len ≤ 2 ^ 63 - 1 ∧ ∀ i, i < len → ∃ b off, a = some ⟨b, off, none⟩ ∧ b < w.heap.size ∧ ∃ z : Int, 0 ≤ z ∧ z ≤ 255 ∧ w.cell? ⟨b, off + i, none⟩ = some (.int .u8 z)
theorem IsCode.below {w w' : World} {a : Option Addr} {len : Nat} (h : IsCode w a len) (k : Below w.heap.size w w') : IsCode w' a len := by
 refine ⟨h.1, fun i hi => ?_⟩
 obtain ⟨b, off, e, hb, z, z0, z1, hz⟩ := h.2 i hi
 exact ⟨b, off, e, by have := k.size; omega, z, z0, z1, by rw [k.cell (by exact hb)]; exact hz⟩
theorem rd_open {w : World} {a : Option Addr} {len cap : Nat} (h : IsCode w a len) : Rd w.heap.size (w.alloc (.cells #[V a len cap, J Z 0] 72)) := by
 refine ⟨a, len, cap, 0, by simp, by simp, Nat.zero_le _, h.1, by simp, by simp, fun i hi => ?_⟩
 obtain ⟨b, off, e, hb, z, z0, z1, hz⟩ := h.2 i hi
 exact ⟨b, off, e, hb, z, z0, z1, by rw [World.cell?_alloc_past _ _ _ hb]; exact hz⟩
end Go.Proofs.Ytkcpoibhlnjldaa
