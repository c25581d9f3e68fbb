/- The drawn amount and the drawn text. -/
import Derived.Test.YtiilkkdbifhojaaRd2
namespace Go.Proofs.Ytiilkkdbifhojaa
open Go.ChangeShapes Go.WideShapes Go.ChangeAt Go.RowKit
set_option linter.unusedVariables false
set_option maxHeartbeats 1000000 in
set_option maxRecDepth 100000 in
theorem l1Open_any (a : Option Addr) (len cap : Nat) (w : World) : Calls Try.prog 16 #[.slice a len cap] w fun e w' => e = .returned (.pointer (some ⟨w.heap.size, 0, none⟩)) ∧ w' = w.alloc (.cells #[.slice a len cap, .int .i64 0] 71) := by
  go_enter Try.func16, Try.ntmps16
  go_wp2
  go_ret
  exact ⟨rfl, rfl⟩
/-- the bytes of a drawn input, as the law is given them -/
def IsCode (w : World) (a : Option Addr) (len : Nat) : Prop := len ≤ 2 ^ 63 - 1 ∧ ∀ i, i < len → ∃ b off, a = some ⟨b, off, none⟩ ∧ b < w.heap.size ∧ ∃ z : Int, 0 ≤ z ∧ z ≤ 255 ∧ w.cell? ⟨b, off + i, none⟩ = some (.int .u8 z)
theorem IsCode.below {w w' : World} {a : Option Addr} {len : Nat} (h : IsCode w a len) (k : Below w.heap.size w w') : IsCode w' a len := by
  refine ⟨h.1, fun i hi => ?_⟩
  obtain ⟨b, off, e, hb, z, z0, z1, hz⟩ := h.2 i hi
  exact ⟨b, off, e, by have := k.size; omega, z, z0, z1, by rw [k.cell (by exact hb)]; exact hz⟩
theorem rd_open {w : World} {a : Option Addr} {len cap : Nat} (h : IsCode w a len) : Rd w.heap.size (w.alloc (.cells #[.slice a len cap, .int .i64 0] 71)) := by
  refine ⟨a, len, cap, 0, by simp, by simp, Nat.zero_le _, h.1, by simp, by simp, fun i hi => ?_⟩
  obtain ⟨b, off, e, hb, z, z0, z1, hz⟩ := h.2 i hi
  exact ⟨b, off, e, hb, z, z0, z1, by rw [World.cell?_alloc_past _ _ _ hb]; exact hz⟩
theorem str_cell {w w1 : World} {B : Nat} {cs : Array Value} {T : TypeId} (hB : B < w.heap.size) (HA : Apart B (w.alloc (.cells cs T)) w1) (q : Nat) (t : ByteArray) (h : cs[q]? = some (.string t)) : w1.cell? ⟨w.heap.size, q, none⟩ = some (.string t) := by
  rw [HA.cell (by simp) (by omega)]; simpa using h
end Go.Proofs.Ytiilkkdbifhojaa
