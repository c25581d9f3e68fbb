/- Two equal commands are equal, for the laws' helper. -/
import Derived.Test.YtbcodlgpdehdhaaDoorTxtS
namespace Go.Proofs.YtbcodlgpdehdhaaDoor
open Go.ChangeShapes Go.WideShapes Go.ChangeAt Go.RowKit
set_option linter.unusedVariables false
set_option maxRecDepth 100000
set_option maxHeartbeats 2000000 in
theorem eqCommand_any (id kind : Int) (f t : ByteArray) (am ref : Int) (w : World) :
    Calls Tryd.prog 6 #[.agg #[.int .i64 id, .int .i64 kind, .string f, .string t, .int .i64 am, .int .i64 ref], .agg #[.int .i64 id, .int .i64 kind, .string f, .string t, .int .i64 am, .int .i64 ref]] w fun e w' => e = .returned (.bool true) ∧ Below w.heap.size w w' := by
  have b0 : (id != id) = false := by simp
  have b1 : (kind != kind) = false := by simp
  have b2 : (f.toList != f.toList) = false := by simp
  have b3 : (t.toList != t.toList) = false := by simp
  have b4 : (am != am) = false := by simp
  have b5 : (ref != ref) = false := by simp
  go_enter Tryd.func6, Tryd.ntmps6
  go_wp2
  go_ret
  exact ⟨rfl, below_alloc (below_alloc (Below.refl _ _) _) _⟩
end Go.Proofs.YtbcodlgpdehdhaaDoor
