import Derived.Test.YtdbmmdecclalgaaGreatDoorQaa
import Derived.Below
import Derived.Deep.QuietTactic
import Derived.BigQuiet
import Derived.BigRegion
import Derived.Deep.RegionHeld
namespace Go.Proofs.YtdbmmdecclalgaaGreatDoor
open Go.ChangeShapes Go.WideShapes Go.ChangeAt Go.RowKit
set_option linter.unusedVariables false
set_option maxRecDepth 100000
theorem below_drewN{a w:World}{B:Nat}(h:Below B a w):∀q,Below B a (w.drewN q)
 | 0=>h
 | q+1=>(below_drewN h q).drew
structure Later(W:World) where
 w:World
 below:Below W.heap.size W w
theorem bO(W:World):Nonempty (Later W):=⟨⟨W,Below.refl _ _⟩⟩
theorem aU{P:Program}{id:Nat}{Q:Exit->Act->World->Prop}{a:Act}{w:World}{l:List Oper}(W:World)(hm:P.follows .mixedOrders=true)(hB:Region.lexB .any l.toArray=true)(h0:Below W.heap.size W w.drew)
  (h:wpQuiet P l.toArray (fun w'=>∃x:Later W,w'=x.w) (fun a'=>∀w',(∃x:Later W,w'=x.w)->Q .normal a' w') l a):(Code.region id l.toArray true).wp P Q a w :=
 wp_region_quiet (C:=fun w'=>∃x:Later W,w'=x.w) hm hB ⟨⟨_,h0⟩,rfl⟩ h
theorem bZ{P:Program}{f:FuncId}{args:Array Value}{W:World}{x:Later W}{v:Value}
  (h:Calls P f args x.w fun e w'=>e=.returned v/\w'=x.w):Calls P f args x.w fun e w''=>e=.returned v/\∃y:Later W,w''=y.w :=
 h.mono fun _ _ ⟨he,hm⟩=>⟨he,x,hm⟩
theorem dh{P:Program}{f:FuncId}{args:Array Value}{W:World}{x:Later W}{v:Value}
  (h:Calls P f args x.w fun e w'=>e=.returned v/\Below x.w.heap.size x.w w'):Calls P f args x.w fun e w''=>e=.returned v/\∃y:Later W,w''=y.w :=
 h.mono fun _ w' ⟨he,hm⟩=>⟨he,⟨w',aJ x.below hm⟩,rfl⟩
end Go.Proofs.YtdbmmdecclalgaaGreatDoor
