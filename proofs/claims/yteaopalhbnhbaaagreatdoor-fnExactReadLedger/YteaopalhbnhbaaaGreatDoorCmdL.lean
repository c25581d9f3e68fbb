/- The contracts of the law's own helpers for commands. -/
import Derived.Test.YteaopalhbnhbaaaGreatDoorCmdI
namespace Go.Proofs.YteaopalhbnhbaaaGreatDoor
open Go.ChangeShapes Go.WideShapes Go.ChangeAt Go.RowKit
set_option linter.unusedVariables false
set_option maxRecDepth 100000
end Go.Proofs.YteaopalhbnhbaaaGreatDoor
