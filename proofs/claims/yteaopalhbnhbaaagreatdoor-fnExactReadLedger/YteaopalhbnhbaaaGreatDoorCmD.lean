/- A command as data; a world gets a name. -/
import Derived.Test.YteaopalhbnhbaaaGreatDoorCmdL
namespace Go.Proofs.YteaopalhbnhbaaaGreatDoor
open Go.ChangeShapes Go.WideShapes Go.ChangeAt Go.RowKit
set_option linter.unusedVariables false
/-- a command -/
structure Cm where
  id : Int
  kind : Int
  fr : ByteArray
  to : ByteArray
  am : Int
  ref : Int
def Cm.v (c : Cm) : Value := .agg #[.int .i64 c.id, .int .i64 c.kind, .string c.fr, .string c.to, .int .i64 c.am, .int .i64 c.ref]
def Cm.cells (c : Cm) : List Value := [.int .i64 c.id, .int .i64 c.kind, .string c.fr, .string c.to, .int .i64 c.am, .int .i64 c.ref]
def Cm.B (c : Cm) : Bool := cmdB c.id c.kind c.fr c.to c.am c.ref
theorem cnm_world {P : Program} {c : Code} {Q : Exit → Act → World → Prop} {a : Act} {w : World} (h : ∀ W, W = w → c.wp P Q a W) : c.wp P Q a w := h w rfl
theorem cnm_calls {P : Program} {f : FuncId} {args : Array Value} {w : World} {R : Ending → World → Prop} (h : ∀ W, W = w → Calls P f args W R) : Calls P f args w R := h w rfl
end Go.Proofs.YteaopalhbnhbaaaGreatDoor
