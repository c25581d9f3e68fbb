/- What the listed variable gives: it holds an interface; read again behind the call. -/
import Derived.Test.YtggklchfhgffiaaDoorLaw
import Derived.Test.YtggklchfhgffiaaDoorOpen
import Derived.ChangeSame
import Derived.ChangeVars
import Derived.JoinedOf
import Derived.RowKit
import Derived.RowKitTokens
import Derived.LaidLaws
import Derived.LaidMore
import Derived.Stop.LaidErr
import Derived.Stop.Joined
namespace Go.Proofs.YtggklchfhgffiaaDoor
open Go.ChangeShapes Go.WideShapes Go.ChangeAt Go.RowKit
set_option linter.unusedVariables false
theorem own : ownKnob Tryd.prog.godebug = none := by kernel_rfl
theorem laidOut : laidOutB Tryd.prog = true := by kernel_rfl
theorem gDen : Tryd.prog.globalNamed "loop.example/g00280/impl.errDenied" = some 0 := by kernel_rfl
theorem tDen : (Tryd.prog.globals[0]?).map (·.type) = some 80 := by kernel_rfl
theorem cells110 : Tryd.prog.cellsOf 110 = 1 := by kernel_rfl
theorem starS : "*" ++ "errors.errorString" = "*errors.errorString" := by decide
theorem row92 (u : TypeId) (h : Tryd.prog.typeName? 3 u = some "*errors.errorString") : u = 92 :=
  typeName_ptr_named (nm := "errors.errorString") (by rw [starS]; kernel_rfl) (by kernel_rfl) (by decide) u (by rw [starS]; exact h)
/-- the list of the rows -/
abbrev laidDen : List (String × DataW Unit) := [("loop.example/g00280/impl.errDenied", Rows.laid_loop_example_g00280_impl_errDenied)]
theorem den_of_laid {W : World} (h : laidMetH Tryd.prog laidDen W) : ∃ a, W.var? Tryd.prog "loop.example/g00280/impl.errDenied" = some #[.iface 92 (.pointer (some a))] := by
  rw [MakeChecks.laidMetH_plain _ _ _ (by kernel_rfl)] at h
  obtain ⟨a0, s0, hv0, _⟩ := laid_sentinel h gDen tDen Tryd.underlying80 row92 Tryd.underlying92 Tryd.underlying110 rfl rfl Tryd.underlying9 cells110 cells9
  exact ⟨a0, hv0⟩
theorem den_cell {W : World} {x : Value} (h : W.var? Tryd.prog "loop.example/g00280/impl.errDenied" = some #[x]) : W.cell? ⟨0, 0, none⟩ = some x := by simpa using World.var?_cell gDen h 0
theorem den_kept {W W' : World} {x : Value} (h : W.var? Tryd.prog "loop.example/g00280/impl.errDenied" = some #[x]) (b : Below W.heap.size W W') : W'.var? Tryd.prog "loop.example/g00280/impl.errDenied" = some #[x] := by
  have hlt : 0 < W.heap.size := cell_lt (den_cell h)
  unfold World.var? at h ⊢
  rw [gDen] at h ⊢
  simp only [Option.bind_some] at h ⊢
  rw [b.block 0 hlt]
  exact h
theorem door_met (os : Os) (args : Array Value) : laidMetH Tryd.prog laidDen ((World.doorLaid Tryd.prog 400 os).forCall (fun _ _ => 0) ⟨#[], args, []⟩).memory := by
  rw [MakeChecks.laidMetH_plain _ _ _ (by kernel_rfl)]
  exact laidMet_of_run' 8 (by kernel_rfl) (by kernel_rfl)
end Go.Proofs.YtggklchfhgffiaaDoor
