/- The contract of the program's CommandOk. -/
import Derived.Test.YteaopalhbnhbaaaGreatDoorCmdS
namespace Go.Proofs.YteaopalhbnhbaaaGreatDoor
open Go.ChangeShapes Go.WideShapes Go.ChangeAt Go.RowKit
set_option linter.unusedVariables false
set_option maxRecDepth 100000
end Go.Proofs.YteaopalhbnhbaaaGreatDoor
