/- The contracts of the law's own helpers for commands. -/
import Derived.Test.YtfdnijlcngjpiaaDoorCmdI
namespace Go.Proofs.YtfdnijlcngjpiaaDoor
open Go.ChangeShapes Go.WideShapes Go.ChangeAt Go.RowKit
set_option linter.unusedVariables false
set_option maxHeartbeats 400000 in
theorem szCommand_any (id kind : Int) (f t : ByteArray) (am ref : Int) (w : World) (hf : f.size ≤ maxLen) (ht : t.size ≤ maxLen) :
    Calls Tryd.prog 5 #[.agg #[.int .i64 id, .int .i64 kind, .string f, .string t, .int .i64 am, .int .i64 ref], .int .i64 1048576] w fun e w' => Kept w w' ∧ ∃ r : Int, e = .returned (.int .i64 r) := by
  unfold maxLen at hf ht
  by_cases h1 : (1048576 : Int) - f.size < 0
  · go_enter Tryd.func5, Tryd.ntmps5
    go_wp2
    go_ret
    exact ⟨(Kept.refl _).alloc _ _, _, rfl⟩
  · by_cases h2 : (1048576 : Int) - f.size - t.size < 0
    · go_enter Tryd.func5, Tryd.ntmps5
      go_wp2
      go_ret
      exact ⟨(Kept.refl _).alloc _ _, _, rfl⟩
    · go_enter Tryd.func5, Tryd.ntmps5
      go_wp2
      go_ret
      exact ⟨(Kept.refl _).alloc _ _, _, rfl⟩
set_option maxHeartbeats 400000 in
theorem toCommand_any (id kind : Int) (f t : ByteArray) (am ref : Int) (w : World) :
    Calls Tryd.prog 7 #[.agg #[.int .i64 id, .int .i64 kind, .string f, .string t, .int .i64 am, .int .i64 ref]] w fun e w' => e = .returned (.agg #[.int .i64 id, .int .i64 kind, .string f, .string t, .int .i64 am, .int .i64 ref]) ∧ Kept w w' := by
  go_enter Tryd.func7, Tryd.ntmps7
  go_wp2
  exact bodyPost_ret (v := .agg #[.int .i64 id, .int .i64 kind, .string f, .string t, .int .i64 am, .int .i64 ref]) (by simp [results, Tryd.results7, go_sem]) rfl ⟨rfl, (((Kept.refl _).alloc _ _).alloc _ _).alloc _ _⟩
end Go.Proofs.YtfdnijlcngjpiaaDoor
