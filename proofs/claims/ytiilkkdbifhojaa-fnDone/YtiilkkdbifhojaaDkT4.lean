/- The contracts of the laws' eqFile, eqDOp, eqFileS, eqDOpS, eqDisk: equal disks are equal. -/
import Derived.Test.YtiilkkdbifhojaaDkT3
namespace Go.Proofs.Ytiilkkdbifhojaa
open Go.ChangeShapes Go.WideShapes Go.ChangeAt Go.RowKit
set_option linter.unusedVariables false
set_option maxRecDepth 100000
end Go.Proofs.Ytiilkkdbifhojaa
