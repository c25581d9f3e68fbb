import Derived.Test.YtdbmmdecclalgaaGreatDoorQbn
namespace Go.Proofs.YtdbmmdecclalgaaGreatDoor
open Go.Value renaming int → ae, slice → af, agg → aj
open Go.IntKind renaming i64 → au
open Go.ChangeShapes Go.WideShapes Go.ChangeAt Go.RowKit Go.Lib
set_option linter.unusedVariables false
set_option maxRecDepth 100000
def Qu(aO aR:List Fl)(ops:List Dp)(w:World)(e:Ending)(w':World):Prop :=
 ∃p:LP,e=.returned (.tuple #[aj #[af p.aa (yN aO aR ops).1.aI.length p.ca,af p.ha (yN aO aR ops).1.az.length p.ch,af p.sa (yN aO aR ops).1.aH.length p.cs],ae au (yN aO aR ops).2.1,ae au (yN aO aR ops).2.2])/\jr p (yN aO aR ops).1/\Pool [] w [bC p (yN aO aR ops).1] w'
theorem Sb(aO aR:List Fl)(ops:List Dp)(h:∀L n,(if (gu aO fQ).2=true then kE (gu aO fQ).1 else some (cZ,0))=some (L,n)->df L=true):df (yN aO aR ops).1=true:=by
 unfold yN BS;split
 ·cases hb:(if (gu aO fQ).2=true then kE (gu aO fQ).1 else some (cZ,0)) with
  | none=>exact lu
  | some s=>exact QW _ _ (h s.1 s.2 hb)
 ·exact lu
end Go.Proofs.YtdbmmdecclalgaaGreatDoor
