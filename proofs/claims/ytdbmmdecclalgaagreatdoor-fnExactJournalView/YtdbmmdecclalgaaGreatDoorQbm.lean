import Derived.Test.YtdbmmdecclalgaaGreatDoorQbk
import Derived.Test.YtdbmmdecclalgaaGreatDoorQbl
import Derived.Test.YtdbmmdecclalgaaGreatDoorQaq
import Derived.Test.YtdbmmdecclalgaaGreatDoorQbi
namespace Go.Proofs.YtdbmmdecclalgaaGreatDoor
open Go.Value renaming int → ae, string → ag, agg → aj, slice → af
open Go.IntKind renaming i64 → au
open Go.Proofs.Tryz Go.ChangeShapes Go.WideShapes Go.ChangeAt Go.RowKit Go.Maps Go.Lib
set_option linter.unusedVariables false
set_option maxRecDepth 100000
set_option maxHeartbeats 8000000
theorem qF(nm da:ByteArray)(w:World)(h1:nm.size<=4194304) :
  Calls prog 306 #[aj #[ag nm,ag da]] w fun e w'=>e=.returned (.bool (oW nm))/\Below w.heap.size w w':=by
 go_enter func306,ntmps306;go_wp2_with (first|(go_at_call 82;refine(gD _ _ h1).mono ?_;rintro e w'⟨rfl,hw'⟩;have hw'':=hw'.symm;subst hw'')|fail);go_ret;exact⟨rfl,aF (Below.refl _ _) _⟩
theorem qg(nm tn:ByteArray)(w:World)(h1:nm.size<=4194304)(h2:tn.size<=4194304) :
  Calls prog 311 #[aj #[ag nm,ag tn]] w fun e w'=>e=.returned (.bool (oW nm&&oW tn))/\Below w.heap.size w w':=by
 cases q:oW nm<;>cases q2:oW tn
 all_goals
  go_enter func311,ntmps311;go_wp2_with (first|(go_at_call 82;refine(gD _ _ (by assumption)).mono ?_;rintro e w'⟨rfl,hw'⟩;have hw'':=hw'.symm;subst hw'')|fail);go_ret;exact⟨by simp,aF (Below.refl _ _) _⟩
theorem mH(nm:ByteArray)(w:World)(h1:nm.size<=4194304) :
  Calls prog 317 #[aj #[ag nm]] w fun e w'=>e=.returned (.bool (oW nm))/\Below w.heap.size w w':=by
 go_enter func317,ntmps317;go_wp2_with (first|(go_at_call 82;refine(gD _ _ h1).mono ?_;rintro e w'⟨rfl,hw'⟩;have hw'':=hw'.symm;subst hw'')|fail);go_ret;exact⟨rfl,aF (Below.refl _ _) _⟩
theorem vQ(nm da:ByteArray)(w:World) :
  Calls prog 303 #[aj #[ag nm,ag da]] w fun e w'=>e=.returned (aj #[ae au 1,ag nm,ag ⟨#[]⟩,ag da])/\Below w.heap.size w w':=by
 go_enter func303,ntmps303;go_wp2;exact bodyPost_ret (v:=aj #[ae au 1,ag nm,ag ⟨#[]⟩,ag da]) (by simp[results,results303,go_sem]) rfl ⟨rfl,aF (aF (Below.refl _ _) _) _⟩
theorem uK(nm tn:ByteArray)(w:World) :
  Calls prog 308 #[aj #[ag nm,ag tn]] w fun e w'=>e=.returned (aj #[ae au 2,ag nm,ag tn,ag ⟨#[]⟩])/\Below w.heap.size w w':=by
 go_enter func308,ntmps308;go_wp2;exact bodyPost_ret (v:=aj #[ae au 2,ag nm,ag tn,ag ⟨#[]⟩]) (by simp[results,results308,go_sem]) rfl ⟨rfl,aF (aF (Below.refl _ _) _) _⟩
theorem ql(nm:ByteArray)(w:World) :
  Calls prog 314 #[aj #[ag nm]] w fun e w'=>e=.returned (aj #[ae au 3,ag nm,ag ⟨#[]⟩,ag ⟨#[]⟩])/\Below w.heap.size w w':=by
 go_enter func314,ntmps314;go_wp2;exact bodyPost_ret (v:=aj #[ae au 3,ag nm,ag ⟨#[]⟩,ag ⟨#[]⟩]) (by simp[results,results314,go_sem]) rfl ⟨rfl,aF (aF (Below.refl _ _) _) _⟩
def QI(o:Dp):Value:=if o.kind==1 then .iface 170 (aj #[ag o.nm,ag o.da]) else if o.kind==2 then .iface 172 (aj #[ag o.nm,ag o.tn]) else if o.kind==3 then .iface 174 (aj #[ag o.nm]) else .nilIface
theorem dM{P:Program}{ops:Array Oper}{C:World->Prop}{Q:Act->Prop}{a:Act}{o:Oper}{rest:List Oper}(f:FuncId)(args:Array Value)(v:Value)(hw:Region.wanted o (yielded ops a.tmps)=true)(hr:∀w,(execOp a.eval o).run P w=.ok (.enter f args) w)(hc:∀w,C w->Calls P f args w (fun e w''=>e=.returned v/\C w''))(h:wpQuiet P ops C Q rest (a.put o.dst v)):wpQuiet P ops C Q (o::rest) a :=
 BigFrame.wpQuiet_want hw fun K hK=>⟨v,fun w hC=>by unfold Oper.quietAt;rw[hr];exact⟨rfl,hc w hC⟩,hK _ h⟩
theorem fB{P:Program}{f:FuncId}{args:Array Value}{W:World}{v:Value}(h:∀w,Calls P f args w fun e w'=>e=.returned v/\Below w.heap.size w w'):∀w,(∃x:Later W,w=x.w)->Calls P f args w (fun e w''=>e=.returned v/\∃x:Later W,w''=x.w):=by
 rintro w⟨x,rfl⟩;exact dh (h x.w)
theorem MK(nm tn da:ByteArray)(w:World)(h1:nm.size<=1048600)(h2:tn.size<=1048600) :
  Calls prog 85 #[aj #[ae au 1,ag nm,ag tn,ag da]] w fun e w'=>e=.returned (.tuple #[.iface 170 (aj #[ag nm,ag da]),.bool (oW nm&&qU tn)])/\Below w.heap.size w w':=by
 have hne:Nonempty (Later (w.alloc (.cells #[ae au 1,ag nm,ag tn,ag da] 76))):=bO _;have d0:∀y:Later (w.alloc (.cells #[ae au 1,ag nm,ag tn,ag da] 76)),y.w.cell? ⟨w.heap.size,0,none⟩=some (ae au 1):=bN (World.cell?_alloc_at _ _ _ _ rfl);have d1:∀y:Later (w.alloc (.cells #[ae au 1,ag nm,ag tn,ag da] 76)),y.w.cell? ⟨w.heap.size,1,none⟩=some (ag nm):=bN (World.cell?_alloc_at _ _ _ _ rfl);have d2:∀y:Later (w.alloc (.cells #[ae au 1,ag nm,ag tn,ag da] 76)),y.w.cell? ⟨w.heap.size,2,none⟩=some (ag tn):=bN (World.cell?_alloc_at _ _ _ _ rfl);have d3:∀y:Later (w.alloc (.cells #[ae au 1,ag nm,ag tn,ag da] 76)),y.w.cell? ⟨w.heap.size,3,none⟩=some (ag da):=bN (World.cell?_alloc_at _ _ _ _ rfl);cases q1:(oW nm)
 ·have HR:Hid ((false&&qU tn)=false):=hide (by simp);go_enter func85,ntmps85;go_wp2_with fail;refine aU (w.alloc (.cells #[ae au 1,ag nm,ag tn,ag da] 76)) (by kernel_rfl) (by kernel_rfl) ((Below.refl _ _).drew) ?_;go_big_quiet_step (fail);go_big_quiet_step (fail);refine dM 306 #[aj #[ag nm,ag da]] (.bool false) (by kernel_rfl) (fun w=>by kernel_rfl) (fB (fun w=>by rw[<-q1];exact qF nm da w (by omega))) ?_;go_frame
  repeat (go_big_quiet_step (fail))
  refine wpQuiet_nil ?_;intro _ hw';obtain⟨nx,rfl⟩:=hw';go_wp2;exact bodyPost_ret (v:=.tuple #[.iface 170 (aj #[ag nm,ag da]),.bool false]) (by simp[results,results85,go_sem]) rfl ⟨by rw[HR.out],aJ (aF (Below.refl _ _) _) nx.below⟩
 ·skip;cases e1:tn.toList.isEmpty
  ·skip;have HR:Hid ((true&&qU tn)=false):=hide (by simp[qU,e1]);go_enter func85,ntmps85;go_wp2_with fail;refine aU (w.alloc (.cells #[ae au 1,ag nm,ag tn,ag da] 76)) (by kernel_rfl) (by kernel_rfl) ((Below.refl _ _).drew) ?_;go_big_quiet_step (fail);go_big_quiet_step (fail);refine dM 306 #[aj #[ag nm,ag da]] (.bool true) (by kernel_rfl) (fun w=>by kernel_rfl) (fB (fun w=>by rw[<-q1];exact qF nm da w (by omega))) ?_;go_frame;go_big_quiet_step (fail);go_big_quiet_step (fail);refine dM 303 #[aj #[ag nm,ag da]] (aj #[ae au 1,ag nm,ag ⟨#[]⟩,ag da]) (by kernel_rfl) (fun w=>by kernel_rfl) (fB (fun w=>vQ nm da w)) ?_;go_frame
   repeat (go_big_quiet_step (fail))
   refine wpQuiet_nil ?_;intro _ hw';obtain⟨nx,rfl⟩:=hw';go_wp2;exact bodyPost_ret (v:=.tuple #[.iface 170 (aj #[ag nm,ag da]),.bool false]) (by simp[results,results85,go_sem]) rfl ⟨by rw[HR.out],aJ (aF (Below.refl _ _) _) nx.below⟩
  ·skip;have HR:Hid ((true&&qU tn)=true):=hide (by simp[qU,e1]);go_enter func85,ntmps85;go_wp2_with fail;refine aU (w.alloc (.cells #[ae au 1,ag nm,ag tn,ag da] 76)) (by kernel_rfl) (by kernel_rfl) ((Below.refl _ _).drew) ?_;go_big_quiet_step (fail);go_big_quiet_step (fail);refine dM 306 #[aj #[ag nm,ag da]] (.bool true) (by kernel_rfl) (fun w=>by kernel_rfl) (fB (fun w=>by rw[<-q1];exact qF nm da w (by omega))) ?_;go_frame;go_big_quiet_step (fail);go_big_quiet_step (fail);refine dM 303 #[aj #[ag nm,ag da]] (aj #[ae au 1,ag nm,ag ⟨#[]⟩,ag da]) (by kernel_rfl) (fun w=>by kernel_rfl) (fB (fun w=>vQ nm da w)) ?_;go_frame
   repeat (go_big_quiet_step (fail))
   refine wpQuiet_nil ?_;intro _ hw';obtain⟨nx,rfl⟩:=hw';go_wp2;exact bodyPost_ret (v:=.tuple #[.iface 170 (aj #[ag nm,ag da]),.bool true]) (by simp[results,results85,go_sem]) rfl ⟨by rw[HR.out],aJ (aF (Below.refl _ _) _) nx.below⟩
theorem MI(nm tn da:ByteArray)(w:World)(h1:nm.size<=1048600)(h2:tn.size<=1048600) :
  Calls prog 85 #[aj #[ae au 2,ag nm,ag tn,ag da]] w fun e w'=>e=.returned (.tuple #[.iface 172 (aj #[ag nm,ag tn]),.bool ((oW nm&&oW tn)&&qU da)])/\Below w.heap.size w w':=by
 have hne:Nonempty (Later (w.alloc (.cells #[ae au 2,ag nm,ag tn,ag da] 76))):=bO _;have d0:∀y:Later (w.alloc (.cells #[ae au 2,ag nm,ag tn,ag da] 76)),y.w.cell? ⟨w.heap.size,0,none⟩=some (ae au 2):=bN (World.cell?_alloc_at _ _ _ _ rfl);have d1:∀y:Later (w.alloc (.cells #[ae au 2,ag nm,ag tn,ag da] 76)),y.w.cell? ⟨w.heap.size,1,none⟩=some (ag nm):=bN (World.cell?_alloc_at _ _ _ _ rfl);have d2:∀y:Later (w.alloc (.cells #[ae au 2,ag nm,ag tn,ag da] 76)),y.w.cell? ⟨w.heap.size,2,none⟩=some (ag tn):=bN (World.cell?_alloc_at _ _ _ _ rfl);have d3:∀y:Later (w.alloc (.cells #[ae au 2,ag nm,ag tn,ag da] 76)),y.w.cell? ⟨w.heap.size,3,none⟩=some (ag da):=bN (World.cell?_alloc_at _ _ _ _ rfl);cases q1:(oW nm&&oW tn)
 ·have HR:Hid (((false)&&qU da)=false):=hide (by simp);go_enter func85,ntmps85;go_wp2_with fail;refine aU (w.alloc (.cells #[ae au 2,ag nm,ag tn,ag da] 76)) (by kernel_rfl) (by kernel_rfl) ((Below.refl _ _).drew) ?_;go_big_quiet_step (fail);go_big_quiet_step (fail);refine dM 311 #[aj #[ag nm,ag tn]] (.bool false) (by kernel_rfl) (fun w=>by kernel_rfl) (fB (fun w=>by rw[<-q1];exact qg nm tn w (by omega) (by omega))) ?_;go_frame
  repeat (go_big_quiet_step (fail))
  refine wpQuiet_nil ?_;intro _ hw';obtain⟨nx,rfl⟩:=hw';go_wp2;exact bodyPost_ret (v:=.tuple #[.iface 172 (aj #[ag nm,ag tn]),.bool false]) (by simp[results,results85,go_sem]) rfl ⟨by rw[HR.out],aJ (aF (Below.refl _ _) _) nx.below⟩
 ·skip;cases e1:da.toList.isEmpty
  ·skip;have HR:Hid (((true)&&qU da)=false):=hide (by simp[qU,e1]);go_enter func85,ntmps85;go_wp2_with fail;refine aU (w.alloc (.cells #[ae au 2,ag nm,ag tn,ag da] 76)) (by kernel_rfl) (by kernel_rfl) ((Below.refl _ _).drew) ?_;go_big_quiet_step (fail);go_big_quiet_step (fail);refine dM 311 #[aj #[ag nm,ag tn]] (.bool true) (by kernel_rfl) (fun w=>by kernel_rfl) (fB (fun w=>by rw[<-q1];exact qg nm tn w (by omega) (by omega))) ?_;go_frame;go_big_quiet_step (fail);go_big_quiet_step (fail);refine dM 308 #[aj #[ag nm,ag tn]] (aj #[ae au 2,ag nm,ag tn,ag ⟨#[]⟩]) (by kernel_rfl) (fun w=>by kernel_rfl) (fB (fun w=>uK nm tn w)) ?_;go_frame
   repeat (go_big_quiet_step (fail))
   refine wpQuiet_nil ?_;intro _ hw';obtain⟨nx,rfl⟩:=hw';go_wp2;exact bodyPost_ret (v:=.tuple #[.iface 172 (aj #[ag nm,ag tn]),.bool false]) (by simp[results,results85,go_sem]) rfl ⟨by rw[HR.out],aJ (aF (Below.refl _ _) _) nx.below⟩
  ·skip;have HR:Hid (((true)&&qU da)=true):=hide (by simp[qU,e1]);go_enter func85,ntmps85;go_wp2_with fail;refine aU (w.alloc (.cells #[ae au 2,ag nm,ag tn,ag da] 76)) (by kernel_rfl) (by kernel_rfl) ((Below.refl _ _).drew) ?_;go_big_quiet_step (fail);go_big_quiet_step (fail);refine dM 311 #[aj #[ag nm,ag tn]] (.bool true) (by kernel_rfl) (fun w=>by kernel_rfl) (fB (fun w=>by rw[<-q1];exact qg nm tn w (by omega) (by omega))) ?_;go_frame;go_big_quiet_step (fail);go_big_quiet_step (fail);refine dM 308 #[aj #[ag nm,ag tn]] (aj #[ae au 2,ag nm,ag tn,ag ⟨#[]⟩]) (by kernel_rfl) (fun w=>by kernel_rfl) (fB (fun w=>uK nm tn w)) ?_;go_frame
   repeat (go_big_quiet_step (fail))
   refine wpQuiet_nil ?_;intro _ hw';obtain⟨nx,rfl⟩:=hw';go_wp2;exact bodyPost_ret (v:=.tuple #[.iface 172 (aj #[ag nm,ag tn]),.bool true]) (by simp[results,results85,go_sem]) rfl ⟨by rw[HR.out],aJ (aF (Below.refl _ _) _) nx.below⟩
theorem MJ(nm tn da:ByteArray)(w:World)(h1:nm.size<=1048600)(h2:tn.size<=1048600) :
  Calls prog 85 #[aj #[ae au 3,ag nm,ag tn,ag da]] w fun e w'=>e=.returned (.tuple #[.iface 174 (aj #[ag nm]),.bool (oW nm&&(qU tn&&qU da))])/\Below w.heap.size w w':=by
 have hne:Nonempty (Later (w.alloc (.cells #[ae au 3,ag nm,ag tn,ag da] 76))):=bO _;have d0:∀y:Later (w.alloc (.cells #[ae au 3,ag nm,ag tn,ag da] 76)),y.w.cell? ⟨w.heap.size,0,none⟩=some (ae au 3):=bN (World.cell?_alloc_at _ _ _ _ rfl);have d1:∀y:Later (w.alloc (.cells #[ae au 3,ag nm,ag tn,ag da] 76)),y.w.cell? ⟨w.heap.size,1,none⟩=some (ag nm):=bN (World.cell?_alloc_at _ _ _ _ rfl);have d2:∀y:Later (w.alloc (.cells #[ae au 3,ag nm,ag tn,ag da] 76)),y.w.cell? ⟨w.heap.size,2,none⟩=some (ag tn):=bN (World.cell?_alloc_at _ _ _ _ rfl);have d3:∀y:Later (w.alloc (.cells #[ae au 3,ag nm,ag tn,ag da] 76)),y.w.cell? ⟨w.heap.size,3,none⟩=some (ag da):=bN (World.cell?_alloc_at _ _ _ _ rfl);cases q1:(oW nm)
 ·have HR:Hid ((false&&(qU tn&&qU da))=false):=hide (by simp);go_enter func85,ntmps85;go_wp2_with fail;refine aU (w.alloc (.cells #[ae au 3,ag nm,ag tn,ag da] 76)) (by kernel_rfl) (by kernel_rfl) ((Below.refl _ _).drew) ?_;go_big_quiet_step (fail);go_big_quiet_step (fail);refine dM 317 #[aj #[ag nm]] (.bool false) (by kernel_rfl) (fun w=>by kernel_rfl) (fB (fun w=>by rw[<-q1];exact mH nm w (by omega))) ?_;go_frame
  repeat (go_big_quiet_step (fail))
  refine wpQuiet_nil ?_;intro _ hw';obtain⟨nx,rfl⟩:=hw';go_wp2;exact bodyPost_ret (v:=.tuple #[.iface 174 (aj #[ag nm]),.bool false]) (by simp[results,results85,go_sem]) rfl ⟨by rw[HR.out],aJ (aF (Below.refl _ _) _) nx.below⟩
 ·skip;cases e1:tn.toList.isEmpty
  ·skip;cases e2:da.toList.isEmpty;skip
   rotate_left
   skip
   all_goals
    have HR:Hid ((true&&(qU tn&&qU da))=false):=hide (by simp[qU,e1,e2]);go_enter func85,ntmps85;go_wp2_with fail;refine aU (w.alloc (.cells #[ae au 3,ag nm,ag tn,ag da] 76)) (by kernel_rfl) (by kernel_rfl) ((Below.refl _ _).drew) ?_;go_big_quiet_step (fail);go_big_quiet_step (fail);refine dM 317 #[aj #[ag nm]] (.bool true) (by kernel_rfl) (fun w=>by kernel_rfl) (fB (fun w=>by rw[<-q1];exact mH nm w (by omega))) ?_;go_frame;go_big_quiet_step (fail);go_big_quiet_step (fail);refine dM 314 #[aj #[ag nm]] (aj #[ae au 3,ag nm,ag ⟨#[]⟩,ag ⟨#[]⟩]) (by kernel_rfl) (fun w=>by kernel_rfl) (fB (fun w=>ql nm w)) ?_;go_frame
    repeat (go_big_quiet_step (fail))
    refine wpQuiet_nil ?_;intro _ hw';obtain⟨nx,rfl⟩:=hw';go_wp2;exact bodyPost_ret (v:=.tuple #[.iface 174 (aj #[ag nm]),.bool false]) (by simp[results,results85,go_sem]) rfl ⟨by rw[HR.out],aJ (aF (Below.refl _ _) _) nx.below⟩
  ·skip;cases e2:da.toList.isEmpty
   ·skip;have HR:Hid ((true&&(qU tn&&qU da))=false):=hide (by simp[qU,e1,e2]);go_enter func85,ntmps85;go_wp2_with fail;refine aU (w.alloc (.cells #[ae au 3,ag nm,ag tn,ag da] 76)) (by kernel_rfl) (by kernel_rfl) ((Below.refl _ _).drew) ?_;go_big_quiet_step (fail);go_big_quiet_step (fail);refine dM 317 #[aj #[ag nm]] (.bool true) (by kernel_rfl) (fun w=>by kernel_rfl) (fB (fun w=>by rw[<-q1];exact mH nm w (by omega))) ?_;go_frame;go_big_quiet_step (fail);go_big_quiet_step (fail);refine dM 314 #[aj #[ag nm]] (aj #[ae au 3,ag nm,ag ⟨#[]⟩,ag ⟨#[]⟩]) (by kernel_rfl) (fun w=>by kernel_rfl) (fB (fun w=>ql nm w)) ?_;go_frame
    repeat (go_big_quiet_step (fail))
    refine wpQuiet_nil ?_;intro _ hw';obtain⟨nx,rfl⟩:=hw';go_wp2;exact bodyPost_ret (v:=.tuple #[.iface 174 (aj #[ag nm]),.bool false]) (by simp[results,results85,go_sem]) rfl ⟨by rw[HR.out],aJ (aF (Below.refl _ _) _) nx.below⟩
   ·skip;have HR:Hid ((true&&(qU tn&&qU da))=true):=hide (by simp[qU,e1,e2]);go_enter func85,ntmps85;go_wp2_with fail;refine aU (w.alloc (.cells #[ae au 3,ag nm,ag tn,ag da] 76)) (by kernel_rfl) (by kernel_rfl) ((Below.refl _ _).drew) ?_;go_big_quiet_step (fail);go_big_quiet_step (fail);refine dM 317 #[aj #[ag nm]] (.bool true) (by kernel_rfl) (fun w=>by kernel_rfl) (fB (fun w=>by rw[<-q1];exact mH nm w (by omega))) ?_;go_frame;go_big_quiet_step (fail);go_big_quiet_step (fail);refine dM 314 #[aj #[ag nm]] (aj #[ae au 3,ag nm,ag ⟨#[]⟩,ag ⟨#[]⟩]) (by kernel_rfl) (fun w=>by kernel_rfl) (fB (fun w=>ql nm w)) ?_;go_frame
    repeat (go_big_quiet_step (fail))
    refine wpQuiet_nil ?_;intro _ hw';obtain⟨nx,rfl⟩:=hw';go_wp2;exact bodyPost_ret (v:=.tuple #[.iface 174 (aj #[ag nm]),.bool true]) (by simp[results,results85,go_sem]) rfl ⟨by rw[HR.out],aJ (aF (Below.refl _ _) _) nx.below⟩
theorem uP(o:Dp)(w:World)(hs:Bp o) :
  Calls prog 85 #[aj #[ae au o.kind,ag o.nm,ag o.tn,ag o.da]] w fun e w'=>e=.returned (.tuple #[QI o,.bool (fF o)])/\Below w.heap.size w w':=by
 obtain⟨kind,nm,tn,da⟩:=o;obtain⟨s1,s2,s3⟩:=hs;simp only at s1 s2 s3⊢;by_cases k1:kind=1
 ·subst k1;have e1:fF ⟨1,nm,tn,da⟩=(oW nm&&qU tn):=by simp[fF,eu]
  rw[e1];exact MK nm tn da w s1 s2
 ·by_cases k2:kind=2
  ·subst k2;have e1:fF ⟨2,nm,tn,da⟩=((oW nm&&oW tn)&&qU da):=by simp[fF,eu,Bool.and_assoc]
   rw[e1];exact MI nm tn da w s1 s2
  ·by_cases k3:kind=3
   ·subst k3;have e1:fF ⟨3,nm,tn,da⟩=(oW nm&&(qU tn&&qU da)):=by simp[fF,eu]
    rw[e1];exact MJ nm tn da w s1 s2
   ·have e1:fF ⟨kind,nm,tn,da⟩=false:=by
     have:eu 1 3 kind=false:=by simp[eu];omega
     simp[fF,this]
    have e2:QI ⟨kind,nm,tn,da⟩=.nilIface:=by simp[QI,k1,k2,k3]
    rw[e1,e2];have q1:(kind==1)=false:=by simpa using k1
    have q2:(kind==2)=false:=by simpa using k2
    have q3:(kind==3)=false:=by simpa using k3
    clear e1 e2;go_enter func85,ntmps85;go_wp2;exact bodyPost_ret (v:=.tuple #[.nilIface,.bool false]) (by simp[results,results85,go_sem]) rfl ⟨rfl,aF (Below.refl _ _) _⟩
theorem Shelf.Tz{base m N:Nat}{l:List Fl}{β:ByteArray->Bd}{x x2:World}(h:Shelf base m l β N x){nm da:ByteArray}(b:Bd)(hn:nm.size<=4194304)(hN:N<=1000000)(hmap:∀n D,x.ownsMap prog 9 jo m n D->x2.ownsMap prog 9 jo m n D)(hrows:∀f∈l,f.nm≠nm->x2.ownsRow base 9 1 (β f.nm).v (β f.nm).ps.length (strs (β f.nm).ps))
  (hrow:x2.ownsRow base 9 1 b.v b.ps.length (strs b.ps)) (hcat:ik b.ps=da) (hap:∀f∈l,f.nm≠nm->OI b.v (β f.nm).v/\OI (β f.nm).v b.v) (hpc:b.ps.length<=N+1) :
  ∃y,(Instr.mapUpdate 97 (.map (some m)) (ag nm) b.V).run prog x2=.ok () y/\Shelf base m (jA l nm da) (Cu β nm b) (N+1) y/\x2.grownBy y (some m):=by
 obtain⟨D,n,hn',ho0,hat,honly,hsz⟩:=h.map;have ho:=hmap n D ho0;obtain⟨y,hrun,ho2,hg⟩:=ho.update qP uM (by unfold maxLen;omega) (zO (o6 hn)) b.elem;have hh:=Dx hat honly nm;have kept:∀{v:Value}{k:Nat}{xs:List Value},x2.ownsRow base 9 1 v k xs->y.ownsRow base 9 1 v k xs:=fun hr=>hr.kept hg (.inr (oq hr ho))
 refine⟨y,hrun,⟨⟨D.put (kn nm) b.D,n+1,by omega,ho2,fun f hf z=>?_,fun kl hkl=>?_,?_⟩,h.lo,fun f hf=>?_,fun f hf=>?_,fun f hf f' hf' hne=>?_,uG h.srt nm da,fun f hf=>?_,fun f hf=>?_⟩,hg⟩
 ·rcases (eO h.srt).1 hf with rfl|⟨hf,hne⟩
  ·rw[il];exact atKey_put_same ho.isMap (zP _) _ z
  ·rw[fO hne,atKey_put_other (fun e=>hne (mg e))];exact hat f hf z
 ·by_cases e:kl=kn nm
  ·exact⟨⟨nm,da⟩,(eO h.srt).2 (.inl rfl),e⟩
  ·rw[has_put_other e] at hkl;obtain⟨f,hf,rfl⟩:=honly kl hkl;exact⟨f,(eO h.srt).2 (.inr ⟨hf,fun q=>e (by rw[q])⟩),rfl⟩
 ·rw[size_put (ho.tidy qP),hh,EM h.srt,hsz]
 ·rcases (eO h.srt).1 hf with rfl|⟨hf,hne⟩
  ·rw[il];exact kept hrow
  ·rw[fO hne];exact kept (hrows f hf hne)
 ·rcases (eO h.srt).1 hf with rfl|⟨hf,hne⟩
  ·rw[il];exact hcat
  ·rw[fO hne];exact h.cat f hf
 ·rcases (eO h.srt).1 hf with rfl|⟨hf,h1⟩
  ·rcases (eO h.srt).1 hf' with rfl|⟨hf',h2⟩
   ·exact absurd rfl hne
   ·rw[il,fO h2];exact(hap f' hf' h2).1
  ·rcases (eO h.srt).1 hf' with rfl|⟨hf',h2⟩
   ·rw[il,fO h1];exact(hap f hf h1).2
   ·rw[fO h1,fO h2];exact h.apt f hf f' hf' hne
 ·rcases (eO h.srt).1 hf with rfl|⟨hf,hne⟩
  ·rw[il];exact hpc
  ·rw[fO hne];have:=h.pcs f hf;omega
 ·rcases (eO h.srt).1 hf with rfl|⟨hf,hne⟩
  ·exact hn
  ·exact h.nms f hf
def jm(l:List Fl)(β:ByteArray->Bd)(nm:ByteArray):Bd:=if gN l nm then β nm else b0
theorem Dz{l:List Fl}{nm:ByteArray}(h:gN l nm=true):∃k,∃hk:k<l.length,yC l nm=some k/\(l[k]).nm=nm:=by
 cases e:yC l nm with
 | none =>
  obtain⟨f,hf,q⟩:=nH.1 h;exact absurd q (PN e f hf)
 | some k =>
  obtain⟨hk,q⟩:=sO e;exact⟨k,hk,rfl,q⟩
theorem Dy{l:List Fl}{nm:ByteArray}(h:gN l nm=false):yC l nm=none:=by
 cases e:yC l nm with
 | none=>rfl
 | some k =>
  obtain⟨hk,q⟩:=sO e;have:=nH.2 ⟨l[k],List.getElem_mem hk,q⟩;rw[h] at this;cases this
structure Tk(base N:Nat)(l:List Fl)(β:ByteArray->Bd)(nm:ByteArray)(x:World)(b:Bd):Prop where
 row:x.ownsRow base 9 1 b.v b.ps.length (strs b.ps)
 pcs:b.ps.length<=N
 app:∀da,ik (b.ps++[da])=wX l nm da
 apt:∀f∈l,f.nm≠nm->OI b.v (β f.nm).v/\OI (β f.nm).v b.v
 sz:(ik b.ps).size<=iN l
 dat:gN l nm=true->ik b.ps=nM l nm
theorem Shelf.body{base m N:Nat}{l:List Fl}{β:ByteArray->Bd}{x:World}(h:Shelf base m l β N x)(nm:ByteArray):Tk base N l β nm x (jm l β nm):=by
 cases e:gN l nm with
 | true =>
  obtain⟨k,hk,ha,hq⟩:=Dz e;have hm:l[k]∈l:=List.getElem_mem hk;have eb:jm l β nm=β (l[k]).nm:=by simp[jm,e,hq]
  have hd:=sM ha hk;rw[eb];refine⟨h.rows _ hm,h.pcs _ hm,fun da=>?_,fun f hf hne=>⟨h.apt _ hm f hf (by rw[hq];exact fun q=>hne q.symm),h.apt f hf _ hm (by rw[hq];exact hne)⟩,?_,fun _=>?_⟩
  ·rw[xX,h.cat _ hm];simp[wX,ha,hd,ik]
  ·rw[h.cat _ hm];exact Aq hm
  ·rw[h.cat _ hm,hd]
 | false =>
  have ha:=Dy e;have eb:jm l β nm=b0:=by simp[jm,e]
  rw[eb];refine⟨MH,by simp[b0],fun da=>by simp[wX,ha,b0,ik],fun f hf hne=>⟨.inl rfl,?_⟩,by simp[b0,ik],fun q=>by rw[e] at q;cases q⟩
  cases q:(β f.nm).v.ownBlock with
  | none=>exact .inl q
  | some g=>exact .inr (fun e2=>by rw[q] at e2;cases e2)
def pV(base m N:Nat)(l:List Fl)(w:World)(e:Ending)(w':World):Prop:=e=.returned (.tuple #[])/\Below base w w'/\∃β,Shelf base m l β N w'
theorem Shelf.lM{base m N:Nat}{l:List Fl}{β:ByteArray->Bd}{w:World}(h:Shelf base m l β N w):base<=w.heap.size:=Nat.le_of_lt (Nat.lt_of_le_of_lt h.lo h.lt)
theorem M7{w w':World}{row:Option Nat}{base k sz:Nat}{e:TypeId}{v:Value}{xs:List Value}(h:w.ownsRow base e sz v k xs)(hg:w.grownBy w' row)(ha:v.ownBlock=none\/v.ownBlock≠row):w'.ownsRow base e sz v k xs:=h.kept hg ha
theorem Shelf.more{base m N:Nat}{l:List Fl}{β:ByteArray->Bd}{x x2:World}(h:Shelf base m l β N x){nm da:ByteArray}{b':Bd}(hn:nm.size<=4194304)(hN:N<=100000)(hw:b'.ps=(jm l β nm).ps++[da])(hro:x2.ownsRow base 9 1 b'.v b'.ps.length (strs b'.ps))(hg:x.grownBy x2 (jm l β nm).v.ownBlock)(hli:b'.v.ownBlock=(jm l β nm).v.ownBlock\/∃g,b'.v.ownBlock=some g/\x.heap.size<=g) :
  ∃y,(Instr.mapUpdate 97 (.map (some m)) (ag nm) b'.V).run prog x2=.ok () y/\Shelf base m (jA l nm (wX l nm da)) (Cu β nm b') (N+1) y/\x2.grownBy y (some m):=by
 have hb:=h.body nm;refine h.Tz b' hn (by omega) (fun n D ho=>ho.kept hg (fun q=>oq hb.row ho q.symm)) (fun f hf hne=>M7 (h.rows f hf) hg (hb.apt f hf hne).2) hro (by rw[hw];exact hb.app da) (fun f hf hne=>?_) (by rw[hw];simp;exact hb.pcs);rcases hli with q|⟨g,q,hge⟩
 ·have h1:=hb.apt f hf hne;unfold OI at h1⊢;rw[q];exact h1
 ·exact Oj (h.rows f hf) (fun g' hg'=>by rw[q] at hg';cases hg';exact hge)
theorem Lm(base m N:Nat)(l:List Fl)(β:ByteArray->Bd)(nm da:ByteArray)(w:World)(hn:nm.size<=4194304)(hd:da.size<=4194304)(hN:N<=100000)(hz:iN l<=1000000000)(h:Shelf base m l β N w) :
  Calls prog 304 #[aj #[ag nm,ag da],.map (some m)] w fun e w'=>pV base m (N+1) (jA l nm (wX l nm da)) w e w':=by
 have HH:=hide h;have HSD:Hid (Shelf base m l β N (w.alloc (.cells #[ag nm,ag da] 170)).drew):=hide (h.below (aF (Below.refl _ _) _).drew);have hlk:(Instr.lookup 97 (.map (some m)) (ag nm) false).run prog (w.alloc (.cells #[ag nm,ag da] 170)).drew=.ok (jm l β nm).V (w.alloc (.cells #[ag nm,ag da] 170)).drew:=by
  have:=HSD.look hn false 0;simp only[Bool.false_eq_true,if_false] at this;have e:(jm l β nm).V=if gN l nm then (β nm).V else b0.V:=by unfold jm;split<;>rfl
  rw[e];exact this
 have XD:Hid (Sw w.heap.size (ag nm) (ag da) (w.alloc (.cells #[ag nm,ag da] 170)).drew):=hide ⟨World.cell?_alloc_at _ _ _ _ rfl,World.cell?_alloc_at _ _ _ _ rfl⟩;have hbf:=HSD.body nm;have HWT:Hid (Calls prog 84 #[(jm l β nm).V,ag da] (w.alloc (.cells #[ag nm,ag da] 170)).drew fun e w'=>yR base (jm l β nm) da (w.alloc (.cells #[ag nm,ag da] 170)).drew e w'):=hide (Eb base (jm l β nm) da _ HSD.lM (Nat.le_trans hbf.pcs (by omega)) (Nat.le_trans hbf.sz hz) hd hbf.row);have HLT:Hid (m<w.heap.size):=hide h.lt;have HLO:Hid (∀g,(jm l β nm).v.ownBlock=some g->g<w.heap.size/\base<=g):=hide (fun g hg=>by have:=(h.body nm).row.lt g hg;exact⟨this.2,this.1⟩);have HML:Hid (base<=m):=hide h.lo;clear h hbf;have HBD:Hid (Below base w (w.alloc (.cells #[ag nm,ag da] 170)).drew):=hide ((aF (Below.refl _ _) _).drew.mono HH.lM);have HBL:=hide HH.lM;generalize (jm l β nm).V=bV at *;go_enter func304,ntmps304;go_wp2_with fail;go_region_held3 (fun x=>x.cell? ⟨w.heap.size,0,none⟩=some (ag nm)/\x.cell? ⟨w.heap.size,1,none⟩=some (ag da))
  (first|with_reducible exact XD.out|(with_reducible assumption))
  (first|(go_at_call 84;refine HWT.mono ?_;rintro e w2⟨b',rfl,hps,hro,hg,hli⟩;have XS:Sw w.heap.size (ag nm) (ag da) w2:=XD.grown hg (fun q=>by have:=(HLO.out _ q).1;omega);obtain⟨y,hrun,hsh,hgy⟩:=HSD.more hn (by omega) hps hro hg hli;have XY:Sw w.heap.size (ag nm) (ag da) y:=XS.grown hgy (by have:=HLT.out;simp;omega);have HSH:=hide hsh;have HBY:Hid (Below base w y):=hide ((HBD.grown hg (Nat.le_trans HBL.out HBD.size) (fun j hj=>(HLO.out j hj).2)).grown hgy (Nat.le_trans (Nat.le_trans HBL.out HBD.size) hg.size) (fun j hj=>by cases hj;exact HML.out));clear hsh hgy hg hli hro hps))
 have HE:Hid (pV base m (N+1) (jA l nm (wX l nm da)) w (.returned (.tuple #[])) y):=hide ⟨rfl,HBY.out,_,HSH.out⟩;clear hrun XS XY;exact bodyPost_end (v:=.tuple #[]) (by simp[results,results304,go_sem]) rfl HE.out
theorem JZ(base m N:Nat)(l:List Fl)(β:ByteArray->Bd)(nm:ByteArray)(w:World)(hn:nm.size<=4194304)(h:Shelf base m l β N w) :
  Calls prog 315 #[aj #[ag nm],.map (some m)] w fun e w'=>pV base m N (iD l nm) w e w':=by
 have HBL:=hide h.lM;have HML:=hide h.lo;obtain⟨y,hrun,hsh,hgy,_⟩:=(h.below (aF (Below.refl _ _) (.cells #[ag nm] 174))).drop hn 0;have HE:Hid (pV base m N (iD l nm) w (.returned (.tuple #[])) y):=hide ⟨rfl,((aF (Below.refl _ _) (.cells #[ag nm] 174)).mono HBL.out).grown hgy (by have:=HBL.out;simp;omega) (fun j hj=>by cases hj;exact HML.out),β,hsh⟩;clear hsh hgy h;go_enter func315,ntmps315;go_wp2;exact bodyPost_end (v:=.tuple #[]) (by simp[results,results315,go_sem]) rfl HE.out
theorem JY(base m N:Nat)(l:List Fl)(β:ByteArray->Bd)(nm tn:ByteArray)(w:World)(hn:nm.size<=4194304)(ht:tn.size<=4194304)(hN:N<=100000)(hh:gN l nm=true)(h:Shelf base m l β N w) :
  Calls prog 309 #[aj #[ag nm,ag tn],.map (some m)] w fun e w'=>pV base m (N+1) (jA (iD l nm) tn (nM l nm)) w e w':=by
 have HBL:=hide h.lM;have HML:=hide h.lo;have HLT:=hide h.lt;obtain⟨b,hb⟩:∃b,b=jm l β nm:=⟨_,rfl⟩;have hbf:=h.body nm;rw[<-hb] at hbf;obtain⟨w0,hw0⟩:∃w0,w0=w.alloc (.cells #[ag nm,ag tn] 172):=⟨_,rfl⟩;obtain⟨w1,hw1⟩:∃w1,w1=w0.alloc (.cells #[af (uy b.a) b.ps.length b.c,ae au ((ik b.ps).size:Int)] 136):=⟨_,rfl⟩;have b01:Below w.heap.size w w0:=by rw[hw0];exact aF (Below.refl _ _) _
 have b12:Below w0.heap.size w0 w1:=by rw[hw1];exact aF (Below.refl _ _) _
 have s0:w0.heap.size=w.heap.size+1:=by rw[hw0];simp
 have s1:w1.heap.size=w.heap.size+2:=by rw[hw1];simp;omega
 have hlk:(Instr.lookup 97 (.map (some m)) (ag nm) false).run prog w0=.ok (aj #[af (uy b.a) b.ps.length b.c,ae au ((ik b.ps).size:Int)]) w0:=by
  have:=(h.below b01).look hn false 0;simp only[Bool.false_eq_true,if_false] at this;have e:aj #[af (uy b.a) b.ps.length b.c,ae au ((ik b.ps).size:Int)]=if gN l nm then (β nm).V else b0.V:=by rw[hb];unfold jm;split<;>rfl
  rw[e];exact this
 have c0:w1.cell? ⟨w.heap.size,0,none⟩=some (ag nm):=by rw[b12.cell (by show w.heap.size<_;omega),hw0];exact World.cell?_alloc_at _ _ _ _ rfl
 have c1:w1.cell? ⟨w.heap.size,1,none⟩=some (ag tn):=by rw[b12.cell (by show w.heap.size<_;omega),hw0];exact World.cell?_alloc_at _ _ _ _ rfl
 have d0:w1.cell? ⟨w0.heap.size,0,none⟩=some (af (uy b.a) b.ps.length b.c):=by rw[hw1];exact World.cell?_alloc_at _ _ _ _ rfl
 have d1:w1.cell? ⟨w0.heap.size,1,none⟩=some (ae au ((ik b.ps).size:Int)):=by rw[hw1];exact World.cell?_alloc_at _ _ _ _ rfl
 have hS1:=h.below (aJ b01 b12);obtain⟨y,hrun,hsh,hgy,hkp⟩:=hS1.drop hn 0;have hmlt:=h.lt;have e0:y.cell? ⟨w.heap.size,0,none⟩=some (ag nm):=hgy.cell c0 (by simp;omega);have e1:y.cell? ⟨w.heap.size,1,none⟩=some (ag tn):=hgy.cell c1 (by simp;omega);have f0:y.cell? ⟨w0.heap.size,0,none⟩=some (af (uy b.a) b.ps.length b.c):=hgy.cell d0 (by simp;omega);have f1:y.cell? ⟨w0.heap.size,1,none⟩=some (ae au ((ik b.ps).size:Int)):=hgy.cell d1 (by simp;omega);obtain⟨z,hrun2,hsh2,hgz⟩:=hsh.store (nm:=tn) (da:=nM l nm) b ht (by omega) (hkp (fT hbf.row (aJ b01 b12))) (hbf.dat hh) (fun f hf hne=>hbf.apt f (jh.1 hf).1 (jh.1 hf).2) (Nat.le_trans hbf.pcs (by omega));simp only[Bd.V] at hrun2;have HE:Hid (pV base m (N+1) (jA (iD l nm) tn (nM l nm)) w (.returned (.tuple #[])) z):=hide ⟨rfl,(((aJ b01 b12).mono HBL.out).grown hgy (by have:=HBL.out;omega) (fun j hj=>by cases hj;exact HML.out)).grown hgz (by have:=HBL.out;have:=hgy.size;omega) (fun j hj=>by cases hj;exact HML.out),_,hsh2⟩;have l3:w.heap.size<y.heap.size:=by have:=hgy.size;omega
 have l4:w0.heap.size<y.heap.size:=by have:=hgy.size;omega
 clear hsh hsh2 hgy hgz hkp hS1 hbf b01 b12 h hb s0 s1 hmlt c0 c1 d0 d1;subst hw1;subst hw0;simp only[World.size_alloc] at f0 f1 l4;go_enter func309,ntmps309;go_wp2;exact bodyPost_end (v:=.tuple #[]) (by simp[results,results309,go_sem]) rfl HE.out
theorem DW(nm da:ByteArray)(m:Nat)(w:World) :
  Calls prog 305 #[aj #[ag nm,ag da],.map (some m)] w fun e w'=>e=.returned (.bool true)/\Below w.heap.size w w':=by
 go_enter func305,ntmps305;go_wp2;go_ret;exact⟨rfl,aF (Below.refl _ _) _⟩
theorem CL(base m N:Nat)(l:List Fl)(β:ByteArray->Bd)(nm tn:ByteArray)(w:World)(hn:nm.size<=4194304)(h:Shelf base m l β N w) :
  Calls prog 310 #[aj #[ag nm,ag tn],.map (some m)] w fun e w'=>e=.returned (.bool (gN l nm))/\Below w.heap.size w w':=by
 have HH:=hide h;clear h;go_enter func310,ntmps310;go_wp2_with fail;refine(Jp base m N l β nm _ hn (HH.below (aF (Below.refl _ _) _))).mono ?_;rintro e w1⟨rfl,hb1⟩;have HB1:=hide (aJ (aF (Below.refl _ _) _) hb1);clear hb1;go_wp2;go_ret;exact⟨rfl,HB1.out⟩
theorem CO(base m N:Nat)(l:List Fl)(β:ByteArray->Bd)(nm:ByteArray)(w:World)(hn:nm.size<=4194304)(h:Shelf base m l β N w) :
  Calls prog 316 #[aj #[ag nm],.map (some m)] w fun e w'=>e=.returned (.bool (gN l nm))/\Below w.heap.size w w':=by
 have HH:=hide h;clear h;go_enter func316,ntmps316;go_wp2_with fail;refine(Jp base m N l β nm _ hn (HH.below (aF (Below.refl _ _) _))).mono ?_;rintro e w1⟨rfl,hb1⟩;have HB1:=hide (aJ (aF (Below.refl _ _) _) hb1);clear hb1;go_wp2;go_ret;exact⟨rfl,HB1.out⟩
theorem ky{P:Program}{o:Oper}{a:Act}{K:Act->World->Prop}{Q:Exit->Act->World->Prop}{r:Result Next}(f:FuncId)(args:Array Value)(w:World)(hr:r=.ok (.enter f args) w)(h:Oper.upon P o a K Q (.ok (.enter f args) w)):Oper.upon P o a K Q r:=by rw[hr];exact h
def nL(l:List Fl)(o:Dp):Int:=if fF o then (if (kr l o).2 then (if ut (kr l o).1 then 0 else 4) else 3) else 2
def oU(base m N:Nat)(l:List Fl)(o:Dp)(w:World)(e:Ending)(w':World):Prop:=e=.returned (ae au (nL l o))/\Below base w w'/\(fF o=true->(kr l o).2=true->∃β,Shelf base m (kr l o).1 β (N+1) w')
theorem Pg{o:Dp}(h:fF o=true):o.kind=1\/o.kind=2\/o.kind=3:=by
 simp only[fF,Bool.and_eq_true,eu,decide_eq_true_eq] at h;omega
theorem NN{l:List Fl}{nm tn da:ByteArray}:kr l ⟨1,nm,tn,da⟩=(jA l nm (wX l nm da),true):=by simp[kr]
theorem DK{l:List Fl}{nm tn da:ByteArray}:kr l ⟨2,nm,tn,da⟩=if gN l nm then (jA (iD l nm) tn (nM l nm),true) else (l,false):=by
 cases e:gN l nm with
 | true=>obtain⟨k,hk,ha,_⟩:=Dz e;simp[kr,ha]
 | false=>simp[kr,Dy e]
theorem DL{l:List Fl}{nm tn da:ByteArray}:kr l ⟨3,nm,tn,da⟩=if gN l nm then (iD l nm,true) else (l,false):=by
 cases e:gN l nm with
 | true=>obtain⟨k,hk,ha,_⟩:=Dz e;simp[kr,ha]
 | false=>simp[kr,Dy e]
theorem PD(base m N:Nat)(l:List Fl)(β:ByteArray->Bd)(nm tn da:ByteArray)(w:World)(hs:Bp ⟨1,nm,tn,da⟩)(hN:N<=10000)(hz:iN l<=400000)(hz2:iN (kr l ⟨1,nm,tn,da⟩).1<=1000000000)(h:Shelf base m l β N w)(hf:fF ⟨1,nm,tn,da⟩=true) :
  Calls prog 51 #[.map (some m),aj #[ae au 1,ag nm,ag tn,ag da]] w fun e w'=>oU base m N l ⟨1,nm,tn,da⟩ w e w':=by
 have HH:=hide h;have HBL:=hide h.lM;have HB0:Hid (Below w.heap.size w (w.alloc (.cells #[ae au 1,ag nm,ag tn,ag da] 76))):=hide (aF (Below.refl _ _) _);have HOP:=uP ⟨1,nm,tn,da⟩ (w.alloc (.cells #[ae au 1,ag nm,ag tn,ag da] 76)) hs;obtain⟨s1,s2,s3⟩:=hs;simp only at s1 s2 s3;rw[hf] at HOP;have HO:=hide HOP;have HF:=hide hf;clear HOP h hf;go_enter func51,ntmps51;go_wp2_with fail;refine HO.mono ?_;rintro e w1⟨rfl,hb1⟩;have HB1:=hide (aJ HB0.out hb1);have HS1:=hide (HH.below HB1.out);clear hb1;have eo:QI ⟨1,nm,tn,da⟩=.iface 170 (aj #[ag nm,ag da]):=rfl;rw[eo];go_wp2_with fail;refine ky 305 #[aj #[ag nm,ag da],.map (some m)] w1 (by kernel_rfl) ?_;rw[Oper.upon_enter];refine(DW nm da m w1).mono ?_;rintro e w2⟨rfl,hb2⟩;have HB2:=hide (aJ HB1.out hb2);have HS2:=hide (HS1.below hb2);clear hb2;go_wp2_with fail;refine ky 304 #[aj #[ag nm,ag da],.map (some m)] w2 (by kernel_rfl) ?_;rw[Oper.upon_enter];refine(Lm base m N l β nm da w2 (by omega) (by omega) (by omega) (by omega) HS2.out).mono ?_;rintro e w3⟨rfl,hb3,β3,hsh3⟩;have HB3:Hid (Below base w w3):=hide ((HB2.mono HBL.out).trans hb3);have HS3:Hid (Shelf base m (kr l ⟨1,nm,tn,da⟩).1 β3 (N+1) w3):=hide (by rw[NN];exact hsh3);clear hb3 hsh3;go_wp2_with fail;refine(vI base m (N+1) _ β3 w3 hz2 HS3.out).mono ?_;rintro e w4⟨rfl,hb4⟩;have HB4:Hid (Below base w w4):=hide (HB3.trans (hb4.mono (Nat.le_trans HBL.out HB3.size)));have HS4:=hide (HS3.below hb4);clear hb4;have HDV:Hid (nL l ⟨1,nm,tn,da⟩=if ut (kr l ⟨1,nm,tn,da⟩).1 then 0 else 4):=hide (by unfold nL;rw[HF.out,NN];rfl);have HEN:Hid (∀c:Int,c=nL l ⟨1,nm,tn,da⟩->oU base m N l ⟨1,nm,tn,da⟩ w (.returned (ae au c)) w4):=hide (fun c hc=>⟨by rw[hc],HB4.out,fun _ _=>⟨β3,HS4.out⟩⟩);generalize (kr l ⟨1,nm,tn,da⟩).1=l2 at *;cases qf:ut l2
 ·have HC:Hid ((4:Int)=nL l ⟨1,nm,tn,da⟩):=hide (by rw[HDV.out,qf];rfl);go_wp2;go_ret;exact HEN.out _ HC.out
 ·have HC:Hid ((0:Int)=nL l ⟨1,nm,tn,da⟩):=hide (by rw[HDV.out,qf];rfl);go_wp2;go_ret;exact HEN.out _ HC.out
theorem Py(base m N:Nat)(l:List Fl)(β:ByteArray->Bd)(nm tn da:ByteArray)(w:World)(hs:Bp ⟨2,nm,tn,da⟩)(hN:N<=10000)(hz:iN l<=400000)(hz2:iN (kr l ⟨2,nm,tn,da⟩).1<=1000000000)(h:Shelf base m l β N w)(hf:fF ⟨2,nm,tn,da⟩=true) :
  Calls prog 51 #[.map (some m),aj #[ae au 2,ag nm,ag tn,ag da]] w fun e w'=>oU base m N l ⟨2,nm,tn,da⟩ w e w':=by
 have HH:=hide h;have HBL:=hide h.lM;have HB0:Hid (Below w.heap.size w (w.alloc (.cells #[ae au 2,ag nm,ag tn,ag da] 76))):=hide (aF (Below.refl _ _) _);have HOP:=uP ⟨2,nm,tn,da⟩ (w.alloc (.cells #[ae au 2,ag nm,ag tn,ag da] 76)) hs;obtain⟨s1,s2,s3⟩:=hs;simp only at s1 s2 s3;rw[hf] at HOP;have HO:=hide HOP;have HF:=hide hf;clear HOP h hf;go_enter func51,ntmps51;go_wp2_with fail;refine HO.mono ?_;rintro e w1⟨rfl,hb1⟩;have HB1:=hide (aJ HB0.out hb1);have HS1:=hide (HH.below HB1.out);clear hb1;have eo:QI ⟨2,nm,tn,da⟩=.iface 172 (aj #[ag nm,ag tn]):=rfl;rw[eo];go_wp2_with fail;refine ky 310 #[aj #[ag nm,ag tn],.map (some m)] w1 (by kernel_rfl) ?_;rw[Oper.upon_enter];refine(CL base m N l β nm tn w1 (by omega) HS1.out).mono ?_;rintro e w2⟨rfl,hb2⟩;have HB2:=hide (aJ HB1.out hb2);have HS2:=hide (HS1.below hb2);clear hb2;cases hh:gN l nm
 ·have HEN:Hid (oU base m N l ⟨2,nm,tn,da⟩ w (.returned (ae au 3)) w2):=hide ⟨by unfold nL;rw[HF.out,DK,hh];rfl,HB2.mono HBL.out,fun _ q=>by rw[DK,hh] at q;cases q⟩;go_wp2;go_ret;exact HEN.out
 ·skip;go_wp2_with fail;refine ky 309 #[aj #[ag nm,ag tn],.map (some m)] w2 (by kernel_rfl) ?_;rw[Oper.upon_enter];refine(JY base m N l β nm tn w2 (by omega) (by omega) (by omega) hh HS2.out).mono ?_;rintro e w3⟨rfl,hb3,β3,hsh3⟩;have HB3:Hid (Below base w w3):=hide ((HB2.mono HBL.out).trans hb3);have HS3:Hid (Shelf base m (kr l ⟨2,nm,tn,da⟩).1 β3 (N+1) w3):=hide (by rw[DK,hh,if_pos rfl];exact hsh3);clear hb3 hsh3;go_wp2_with fail;refine(vI base m (N+1) _ β3 w3 hz2 HS3.out).mono ?_;rintro e w4⟨rfl,hb4⟩;have HB4:Hid (Below base w w4):=hide (HB3.trans (hb4.mono (Nat.le_trans HBL.out HB3.size)));have HS4:=hide (HS3.below hb4);clear hb4;have HDV:Hid (nL l ⟨2,nm,tn,da⟩=if ut (kr l ⟨2,nm,tn,da⟩).1 then 0 else 4):=hide (by unfold nL;rw[HF.out,DK,hh,if_pos rfl];rfl);have HEN:Hid (∀c:Int,c=nL l ⟨2,nm,tn,da⟩->oU base m N l ⟨2,nm,tn,da⟩ w (.returned (ae au c)) w4):=hide (fun c hc=>⟨by rw[hc],HB4.out,fun _ _=>⟨β3,HS4.out⟩⟩);generalize (kr l ⟨2,nm,tn,da⟩).1=l2 at *;cases qf:ut l2
  ·have HC:Hid ((4:Int)=nL l ⟨2,nm,tn,da⟩):=hide (by rw[HDV.out,qf];rfl);go_wp2;go_ret;exact HEN.out _ HC.out
  ·have HC:Hid ((0:Int)=nL l ⟨2,nm,tn,da⟩):=hide (by rw[HDV.out,qf];rfl);go_wp2;go_ret;exact HEN.out _ HC.out
theorem Pz(base m N:Nat)(l:List Fl)(β:ByteArray->Bd)(nm tn da:ByteArray)(w:World)(hs:Bp ⟨3,nm,tn,da⟩)(hN:N<=10000)(hz:iN l<=400000)(hz2:iN (kr l ⟨3,nm,tn,da⟩).1<=1000000000)(h:Shelf base m l β N w)(hf:fF ⟨3,nm,tn,da⟩=true) :
  Calls prog 51 #[.map (some m),aj #[ae au 3,ag nm,ag tn,ag da]] w fun e w'=>oU base m N l ⟨3,nm,tn,da⟩ w e w':=by
 have HH:=hide h;have HBL:=hide h.lM;have HB0:Hid (Below w.heap.size w (w.alloc (.cells #[ae au 3,ag nm,ag tn,ag da] 76))):=hide (aF (Below.refl _ _) _);have HOP:=uP ⟨3,nm,tn,da⟩ (w.alloc (.cells #[ae au 3,ag nm,ag tn,ag da] 76)) hs;obtain⟨s1,s2,s3⟩:=hs;simp only at s1 s2 s3;rw[hf] at HOP;have HO:=hide HOP;have HF:=hide hf;clear HOP h hf;go_enter func51,ntmps51;go_wp2_with fail;refine HO.mono ?_;rintro e w1⟨rfl,hb1⟩;have HB1:=hide (aJ HB0.out hb1);have HS1:=hide (HH.below HB1.out);clear hb1;have eo:QI ⟨3,nm,tn,da⟩=.iface 174 (aj #[ag nm]):=rfl;rw[eo];go_wp2_with fail;refine ky 316 #[aj #[ag nm],.map (some m)] w1 (by kernel_rfl) ?_;rw[Oper.upon_enter];refine(CO base m N l β nm w1 (by omega) HS1.out).mono ?_;rintro e w2⟨rfl,hb2⟩;have HB2:=hide (aJ HB1.out hb2);have HS2:=hide (HS1.below hb2);clear hb2;cases hh:gN l nm
 ·have HEN:Hid (oU base m N l ⟨3,nm,tn,da⟩ w (.returned (ae au 3)) w2):=hide ⟨by unfold nL;rw[HF.out,DL,hh];rfl,HB2.mono HBL.out,fun _ q=>by rw[DL,hh] at q;cases q⟩;go_wp2;go_ret;exact HEN.out
 ·skip;go_wp2_with fail;refine ky 315 #[aj #[ag nm],.map (some m)] w2 (by kernel_rfl) ?_;rw[Oper.upon_enter];refine(JZ base m N l β nm w2 (by omega) HS2.out).mono ?_;rintro e w3⟨rfl,hb3,β3,hsh3⟩;have HB3:Hid (Below base w w3):=hide ((HB2.mono HBL.out).trans hb3);have HS3:Hid (Shelf base m (kr l ⟨3,nm,tn,da⟩).1 β3 (N+1) w3):=hide (by rw[DL,hh,if_pos rfl];exact hsh3.mono (by omega));clear hb3 hsh3;go_wp2_with fail;refine(vI base m (N+1) _ β3 w3 hz2 HS3.out).mono ?_;rintro e w4⟨rfl,hb4⟩;have HB4:Hid (Below base w w4):=hide (HB3.trans (hb4.mono (Nat.le_trans HBL.out HB3.size)));have HS4:=hide (HS3.below hb4);clear hb4;have HDV:Hid (nL l ⟨3,nm,tn,da⟩=if ut (kr l ⟨3,nm,tn,da⟩).1 then 0 else 4):=hide (by unfold nL;rw[HF.out,DL,hh,if_pos rfl];rfl);have HEN:Hid (∀c:Int,c=nL l ⟨3,nm,tn,da⟩->oU base m N l ⟨3,nm,tn,da⟩ w (.returned (ae au c)) w4):=hide (fun c hc=>⟨by rw[hc],HB4.out,fun _ _=>⟨β3,HS4.out⟩⟩);generalize (kr l ⟨3,nm,tn,da⟩).1=l2 at *;cases qf:ut l2
  ·have HC:Hid ((4:Int)=nL l ⟨3,nm,tn,da⟩):=hide (by rw[HDV.out,qf];rfl);go_wp2;go_ret;exact HEN.out _ HC.out
  ·have HC:Hid ((0:Int)=nL l ⟨3,nm,tn,da⟩):=hide (by rw[HDV.out,qf];rfl);go_wp2;go_ret;exact HEN.out _ HC.out
theorem PE(base m N:Nat)(l:List Fl)(β:ByteArray->Bd)(o:Dp)(w:World)(hs:Bp o)(hN:N<=10000)(hz:iN l<=400000)(hz2:iN (kr l o).1<=1000000000)(h:Shelf base m l β N w) :
  Calls prog 51 #[.map (some m),aj #[ae au o.kind,ag o.nm,ag o.tn,ag o.da]] w fun e w'=>oU base m N l o w e w':=by
 cases hf:fF o with
 | true =>
  obtain⟨kind,nm,tn,da⟩:=o;rcases Pg hf with k|k|k
  ·simp only at k;subst k;exact PD base m N l β nm tn da w hs hN hz hz2 h hf
  ·simp only at k;subst k;exact Py base m N l β nm tn da w hs hN hz hz2 h hf
  ·simp only at k;subst k;exact Pz base m N l β nm tn da w hs hN hz hz2 h hf
 | false =>
  have HBL:=hide h.lM;have HB0:Hid (Below w.heap.size w (w.alloc (.cells #[ae au o.kind,ag o.nm,ag o.tn,ag o.da] 76))):=hide (aF (Below.refl _ _) _);have HOP:=uP o (w.alloc (.cells #[ae au o.kind,ag o.nm,ag o.tn,ag o.da] 76)) hs;rw[hf] at HOP;have HO:=hide HOP;have HF:=hide hf;clear HOP h hf;go_enter func51,ntmps51;go_wp2_with fail;refine HO.mono ?_;rintro e w1⟨rfl,hb1⟩;have HEN:Hid (oU base m N l o w (.returned (ae au 2)) w1):=hide ⟨by unfold nL;rw[HF.out];rfl,(aJ HB0.out hb1).mono HBL.out,fun q=>by rw[HF.out] at q;cases q⟩;clear hb1;generalize QI o=ov at *;go_wp2;go_ret;exact HEN.out
theorem KW(a c:Option Addr)(l l':List Fl)(ca cc:Nat)(w:World)(hl:l.length<=1048576)(hl':l'.length<=1048576)(h:bu 2 aW w a l)(h':bu 2 aW w c l') :
  Calls prog 52 #[af a l.length ca,af c l'.length cc] w fun e w'=>e=.returned (.bool (decide (l=l')))/\Below w.heap.size w w':=by
 have HC:=hide h;have HC':=hide h';clear h h';by_cases hln:l.length=l'.length
 ·have hln':((l.length:Int) != (l'.length:Int))=false:=by simp;omega
  have HLN:=hide hln;clear hln;go_enter func52,ntmps52;go_wp2;go_loopw [13] (fun i wr=>∃(k:Nat),k<=l.length/\i=ae au (k:Int)/\Hid (Below w.heap.size w wr)/\Hid (∀j (hj:j<l.length) (hj':j<l'.length),j<k->l[j]=l'[j])) (fun i wr=>l.length-(RowKit.intOf i).toNat)
  case atStart=>exact⟨0,Nat.zero_le _,rfl,hide (Below.refl _ _),hide (fun j _ _ hj=>by omega)⟩
  case round =>
   obtain⟨k,hk,rfl,HB,HE⟩:=hrel;by_cases hlt:k<l.length
   ·have hlt':(k:Int)<(l.length:Int):=by omega
    have hl2:k<l'.length:=by have:=HLN.out;omega
    have hl3:(k:Int)<(l'.length:Int):=by omega
    obtain⟨b,off,rfl,hb,c0,c1⟩:=iL (HC.below HB.out) k hlt;obtain⟨b',off',rfl,hb',p0,p1⟩:=iL (HC'.below HB.out) k hl2;by_cases he:l[k]=l'[k]
    ·have HE2:Hid (∀j (hj:j<l.length) (hj':j<l'.length),j<k+1->l[j]=l'[j]):=hide (fun j hj hj' hjk=>by
      rcases Nat.lt_or_ge j k with h|h
      ·exact HE.out j hj hj' h
      ·obtain rfl:j=k:=by omega
       exact he)
     rw[<-he] at p0 p1;clear he;go_wp2_with fail;go_quiet (fail);go_wp2;exact⟨⟨k+1,by omega,by go_num,hide (below_drewN HB.out _),HE2⟩,by simp[RowKit.intOf];omega⟩
    ·have HR:Hid (decide (l=l')=false):=hide (by simp;intro e;exact he (by simp[e]));have hnn:((l[k]).nm.toList==(l'[k]).nm.toList&&(l[k]).da.toList==(l'[k]).da.toList)=false:=by
      rw[Bool.eq_false_iff];intro e;simp only[Bool.and_eq_true] at e;exact he (by
       have e1:=bT.1 e.1;have e2:=bT.1 e.2;revert e1 e2;cases l[k];cases l'[k];simp_all)
     clear he;cases e1:((l[k]).nm.toList==(l'[k]).nm.toList)
     ·go_wp2_with fail;go_quiet (fail);go_wp2;go_ret;exact⟨by rw[HR.out];rfl,below_drewN HB.out _⟩
     ·rw[e1,Bool.true_and] at hnn;go_wp2_with fail;go_quiet (fail);go_wp2;go_ret;exact⟨by rw[HR.out];rfl,below_drewN HB.out _⟩
   ·have hk':¬ (k:Int)<(l.length:Int):=by omega
    have HR:Hid (decide (l=l')=true):=hide (by
     simp only[decide_eq_true_eq];have:=HLN.out;exact List.ext_getElem this (fun i h1 h2=>HE.out i h1 h2 (by omega)))
    go_wp2;go_ret;exact⟨by rw[HR.out];rfl,HB.out⟩
 ·have HR:Hid (decide (l=l')=false):=hide (by simp;intro e;exact hln (by rw[e]));have hln':((l.length:Int) != (l'.length:Int))=true:=by simp;omega
  go_enter func52,ntmps52;go_wp2;go_ret;exact⟨by rw[HR.out];rfl,Below.refl _ _⟩
theorem QZ{l:List Fl}(hs:mr l)(hn:∀f∈l,oW f.nm=true):bE (F5 l) l.length=true:=by
 have:∀k,k<=l.length->bE (F5 l) k=true:=by
  intro k
  induction k with
  | zero=>intro _;rfl
  | succ k ih =>
   intro hk;refine dQ (ih (by omega)) ?_;have hlt:k<l.length:=by omega
   rw[kS hlt,hn _ (List.getElem_mem hlt),Bool.true_and]
   cases k with
   | zero=>rfl
   | succ m =>
    rw[q8 hlt];exact gU.2 (List.pairwise_iff_getElem.1 hs m (m+1) (by omega) hlt (by omega))
 exact this _ (Nat.le_refl _)
theorem Hy{l:List Fl}(h:dN l=true):∀f∈l,oW f.nm=true:=fun f hf=>by
 obtain⟨i,hi,rfl⟩:=List.getElem_of_mem hf;have:=dU (fu h).2.1 hi;rw[kS hi] at this;simp only[Bool.and_eq_true] at this;exact this.1
theorem sK{l:List Fl}(hs:mr l)(hn:∀f∈l,oW f.nm=true):dN l=ut l:=by
 simp only[dN,ut,QZ hs hn,Bool.and_true];congr 1;exact decide_eq_decide.2 (by omega)
theorem KZ{l:List Fl}{o:Dp}(h:dN l=true)(hf:fF o=true):dN (kr l o).1=ut (kr l o).1:=by
 have hs:=Ah h;have hn:=Hy h;have hnm:oW o.nm=true:=by simp only[fF,Bool.and_eq_true] at hf;exact hf.1.2
 have htn:(o.kind==2)=true->oW o.tn=true:=fun q=>by
  simp only[fF,q,if_true,Bool.and_eq_true] at hf;exact hf.2.1
 unfold kr;split
 ·refine sK (uG hs _ _) (fun f hf=>?_);rcases (eO hs).1 hf with rfl|⟨hf,_⟩
  ·exact hnm
  ·exact hn f hf
 ·split
  ·exact sK hs hn
  ·simp only;split
   ·rename_i q;refine sK (uG (uH hs _) _ _) (fun f hf=>?_);rcases (eO (uH hs _)).1 hf with rfl|⟨hf,_⟩
    ·exact htn q
    ·exact hn f (jh.1 hf).1
   ·exact sK (uH hs _) (fun f hf=>hn f (jh.1 hf).1)
theorem LX{l:List Fl}{o:Dp}(h:dN l=true):(nL l o=0/\uF l o=some (kr l o).1/\fF o=true/\(kr l o).2=true/\dN (kr l o).1=true)\/((nL l o != 0)=true/\uF l o=none):=by
 unfold nL uF
 cases hf:fF o with
 | false=>exact .inr ⟨by simp,by simp⟩
 | true =>
  rw[KZ h hf]
  cases hd:(kr l o).2 with
  | false=>exact .inr ⟨by simp,by simp⟩
  | true =>
   cases hb:ut (kr l o).1 with
   | false=>exact .inr ⟨by simp,by simp⟩
   | true=>exact .inl ⟨by simp,by simp,rfl,rfl,rfl⟩
theorem Pw{l:List Fl}{o:Dp}(h:dN l=true)(ho:Bp o):iN (kr l o).1<=1000000000:=by
 obtain⟨h1,h2⟩:=Ci h ho;have h3:=DR (l:=(kr l o).1) (M:=4194304) (fun f hf=>(h1 f hf).2);have h4:4194304*(kr l o).1.length<=4194304*200:=Nat.mul_le_mul_left _ h2;omega
abbrev OG(p:Addr)(u:Value)(W x:World):Prop:=x.cell? p=some u/\Hid (Below W.heap.size W x)
theorem OG.of{p:Addr}{u:Value}{W x:World}(h1:W.cell? p=some u)(b:Below W.heap.size W x):OG p u W x:=⟨aN b _ _ h1,hide b⟩
theorem OG.on{p:Addr}{u:Value}{W x y:World}(h:OG p u W x)(b:Below x.heap.size x y):OG p u W y:=⟨aN b _ _ h.1,hide (aJ h.2.out b)⟩
theorem zV(la sa oa:Option Addr)(lc sc oc:Nat)(aO aR:List Fl)(ops:List Dp)(w:World)(hl:aO.length<=1048576)(hs:aR.length<=1048576)(hn:ops.length<=1048576)(gl:D9 aO)(gs:D9 aR)(go:∀o∈ops,Bp o)
  (h1:bu 2 aW w la aO) (h2:bu 2 aW w sa aR) (h3:bu 4 dR w oa ops) :
  Calls prog 19 #[aj #[af la aO.length lc,af sa aR.length sc,af oa ops.length oc]] w fun e w'=>e=.returned (.bool (iZ ⟨aO,aR,ops⟩))/\Below w.heap.size w w':=by
 have H1:=hide h1;have H2:=hide h2;have H3:=hide h3;have GO:=hide go;clear h1 h2 h3 go;have HX0:Hid (Below (w.heap.size+1) (w.alloc (.cells #[af la aO.length lc,af sa aR.length sc,af oa ops.length oc] 37)) (w.alloc (.cells #[af la aO.length lc,af sa aR.length sc,af oa ops.length oc] 37))):=hide (Below.refl _ _);by_cases h200:ops.length<=200
 ·have a2:¬ (200:Int)<(ops.length:Int):=by omega
  go_enter func19,ntmps19;go_wp2_with fail;refine(xP la aO lc _ hl gl.g0 (H1.below (ed HX0.out))).mono ?_;rintro e w1⟨rfl,hb1⟩;have HX1:=hide (nP HX0.out hb1);clear hb1 HX0;obtain⟨x0,x1,x2⟩:=AB HX1.out;have xl:=nQ HX1.out;cases q1:dN aO
  ·have HR:Hid (iZ ⟨aO,aR,ops⟩=false):=hide (by simp[iZ,q1]);go_wp2;go_ret;exact⟨by rw[HR.out];rfl,ed HX1.out⟩
  ·go_wp2_with fail;refine(xP sa aR sc _ hs gs.g0 (H2.below (ed HX1.out))).mono ?_;rintro e w2⟨rfl,hb2⟩;have HX2:=hide (nP HX1.out hb2);clear hb2 HX1 x0 x1 x2 xl;obtain⟨x0,x1,x2⟩:=AB HX2.out;have xl:=nQ HX2.out;cases q2:dN aR
   ·have HR:Hid (iZ ⟨aO,aR,ops⟩=false):=hide (by simp[iZ,q2]);go_wp2;go_ret;exact⟨by rw[HR.out];rfl,ed HX2.out⟩
   ·have HRUN:=hide (Cj q1 q2 h200);have HQ2:=hide q2;have h60:aO.length<=60:=(fu q1).1;have hs60:aR.length<=60:=(fu q2).1;go_wp2_with fail;refine(xA sa aR sc w2 hs60 gs.g0 (Ah q2) (H2.below (ed HX2.out))).mono ?_;rintro e w3⟨hb3,m,β,rfl,hsh⟩;have HX3:=hide (nP HX2.out hb3);have HSH:=hide (hsh.mono hs60);have HBS:Hid (w.heap.size+1<=w2.heap.size):=hide xl;clear hb3 hsh HX2 x0 x1 x2 xl q1 q2;obtain⟨x0,x1,x2⟩:=AB HX3.out;have xl:=nQ HX3.out;generalize w2.heap.size=base at *;go_wp2;go_loopw [28] (fun i wr=>∃(k:Nat)(now:List Fl)(β:ByteArray->Bd),k<=ops.length/\i=ae au (k:Int)/\Hid (qR aR (ops.take k)=some now)/\Hid (dN now=true)/\Hid (Shelf base m now β (60+k) wr)/\Hid (Below (w.heap.size+1) (w.alloc (.cells #[af la aO.length lc,af sa aR.length sc,af oa ops.length oc] 37)) wr)) (fun i wr=>ops.length-(RowKit.intOf i).toNat)
    case atStart=>exact⟨0,aR,β,Nat.zero_le _,rfl,hide rfl,HQ2,HSH,HX3⟩
    case round =>
     clear HSH HX3 x0 x1 x2 xl;obtain⟨k,now,β,hk,rfl,HRK,HFN,HSH,HX⟩:=hrel;obtain⟨x0,x1,x2⟩:=AB HX.out;have xl:=nQ HX.out;by_cases hlt:k<ops.length
     ·have hlt':(k:Int)<(ops.length:Int):=by omega
      obtain⟨b,off,rfl,hb,c0,c1,c2,c3⟩:=wR (H3.below (ed HX.out)) k hlt;have HSO:Hid (Bp ops[k]):=hide (GO.out _ (List.getElem_mem hlt));have HW2:Hid (Below wr.heap.size wr (wr.alloc (.cells #[ae au (ops[k]).kind,ag (ops[k]).nm,ag (ops[k]).tn,ag (ops[k]).da] 76))):=hide (aF (Below.refl _ _) _);have HSD:=hide (LX (o:=ops[k]) HFN.out);have HBB:=hide HSH.lM;go_wp2_with fail;refine(PE base m (60+k) now β ops[k] _ HSO.out (by omega) (by have:=(fu HFN.out).2.2;omega) (Pw HFN.out HSO.out) (HSH.below HW2.out)).mono ?_;rintro e w4⟨rfl,hb4,hsh4⟩;have HX4:Hid (Below (w.heap.size+1) (w.alloc (.cells #[af la aO.length lc,af sa aR.length sc,af (some ⟨b,off,none⟩) ops.length oc] 37)) w4):=hide ((HX.trans (HW2.mono xl)).trans (hb4.mono HBS.out));have HS4:=hide hsh4;clear hb4 hsh4 HX x0 x1 x2 xl c0 c1 c2 c3 hb HW2;rcases HSD.out with ⟨d0,d1,d2,d3,d4⟩|⟨d0,d1⟩
      ·obtain⟨β4,hsh5⟩:=HS4.out d2 d3;have HS5:Hid (Shelf base m (kr now ops[k]).1 β4 (60+(k+1)) w4):=hide hsh5;have HRK2:Hid (qR aR (ops.take (k+1))=some (kr now ops[k]).1):=hide (by rw[ww aR ops k hlt HRK.out];exact d1);have HD4:=hide d4;rw[d0];clear d0 d1 d2 d3 d4 hsh5 HS4 HSD;go_wp2;exact⟨⟨k+1,_,β4,by omega,by go_num,HRK2,HD4,HS5,HX4⟩,by simp[RowKit.intOf];omega⟩
      ·have HR:Hid (iZ ⟨aO,aR,ops⟩=false):=hide (qD hlt HRK.out d1);clear d1 HS4 HSD;generalize nL now ops[k]=dv at *;go_wp2;go_ret;exact⟨by rw[HR.out];rfl,ed HX4.out⟩
     ·have hk':¬ (k:Int)<(ops.length:Int):=by omega
      have HRR:Hid (iZ ⟨aO,aR,ops⟩=decide (now=aO)):=hide (by
       have:=HRK.out;rw[List.take_of_length_le (by omega)] at this;rw[HRUN.out,this];rfl)
      have hn60:now.length<=60:=(fu HFN.out).1;have hnd:iN now<=200000:=(fu HFN.out).2.2;have HFL:Hid (∀x,OG ⟨w.heap.size,0,none⟩ (af la aO.length lc) wr x->Calls prog 53 #[.map (some m)] x fun e w'=>Br now x e w'):=hide (fun x hx=>KT base m (60+k) now β x (by omega) (by omega) (by omega) (HSH.below hx.2.out));go_wp2_with fail;go_region_held3 (fun x=>x.cell? ⟨w.heap.size,0,none⟩=some (af la aO.length lc)/\Hid (Below wr.heap.size wr x))
       (first|with_reducible exact OG.of x0 (Below.refl _ _).drew|with_reducible exact OG.on (by assumption) (by assumption)|with_reducible assumption)
       (first
        | (go_at_call 53;refine(HFL.out _ (by assumption)).mono ?_;rintro e w4⟨hb4,v4,rfl,ho4⟩;obtain⟨a4,c4,rfl,hr4,_⟩:=zx ho4;have HR4:=hide hr4;clear ho4 hr4)
        | (go_at_call 52;refine(KW a4 la now aO c4 lc _ (by omega) (by omega) HR4.out (H1.below (aJ (ed HX.out) (by assumption:OG ⟨w.heap.size,0,none⟩ (af la aO.length lc) wr _).2.out))).mono ?_;rintro e w5⟨rfl,hb5⟩))
      have HE:Hid (Below w.heap.size w w5):=hide (aJ (ed HX.out) (by assumption:OG ⟨w.heap.size,0,none⟩ (af la aO.length lc) wr w5).2.out);clear hb4 hb5;go_wp2;go_ret;exact⟨by rw[HRR.out];rfl,HE.out⟩
 ·have a2:(200:Int)<(ops.length:Int):=by omega
  have HR:Hid (iZ ⟨aO,aR,ops⟩=false):=hide (by simp[iZ,h200]);go_enter func19,ntmps19;go_wp2;go_ret;exact⟨by rw[HR.out];rfl,ed HX0.out⟩
def gu(l:List Fl)(nm:ByteArray):ByteArray×Bool:=match yC l nm with
 | none=>(⟨#[]⟩,false)
 | some _=>(nM l nm,true)
theorem Ap(a:Option Addr)(l:List Fl)(cap:Nat)(nm:ByteArray)(w:World)(hl:l.length<=1048576)(h:bu 2 aW w a l) :
  Calls prog 55 #[af a l.length cap,ag nm] w fun e w'=>e=.returned (.tuple #[ag (gu l nm).1,.bool (gu l nm).2])/\Below w.heap.size w w':=by
 have HC:=hide h;clear h;go_enter func55,ntmps55;go_wp2;go_loopw [10] (fun i wr=>∃k:Nat,k<=l.length/\i=ae au (k:Int)/\Hid (Below w.heap.size w wr)/\Hid (∀j (hj:j<l.length),j<k->(l[j]).nm≠nm)) (fun i wr=>l.length-(RowKit.intOf i).toNat)
 case atStart=>exact⟨0,Nat.zero_le _,rfl,hide (Below.refl _ _),hide (fun j _ hj=>by omega)⟩
 case round =>
  obtain⟨k,hk,rfl,HB,HN⟩:=hrel;by_cases hlt:k<l.length
  ·obtain⟨b,off,rfl,hb,c0,c1⟩:=iL (HC.below HB.out) k hlt;have hlt':(k:Int)<(l.length:Int):=by omega
   cases hq:((l[k]).nm.toList==nm.toList)
   ·have HN2:Hid (∀j (hj:j<l.length),j<k+1->(l[j]).nm≠nm):=hide (fun j hj hjk=>by
     rcases Nat.lt_or_ge j k with h|h
     ·exact HN.out j hj h
     ·obtain rfl:j=k:=by omega
      intro e;rw[bT.2 e] at hq;cases hq)
    go_wp2;exact⟨⟨k+1,by omega,by go_num,hide (aF HB.out _),HN2⟩,by simp[RowKit.intOf];omega⟩
   ·have hat:=Oh hlt (bT.1 hq) HN.out;have HE:Hid (gu l nm=((l[k]).da,true)):=hide (by simp[gu,hat,sM hat hlt]);clear hat;go_wp2;exact bodyPost_ret (v:=.tuple #[ag (l[k]).da,.bool true]) (by simp[results,results55,go_sem]) rfl ⟨by rw[HE.out],aF HB.out _⟩
  ·have hk':¬ (k:Int)<(l.length:Int):=by omega
   have HE:Hid (gu l nm=(⟨#[]⟩,false)):=hide (by simp[gu,JB (fun j hj=>HN.out j hj (by omega))]);go_wp2;exact bodyPost_ret (v:=.tuple #[ag ⟨#[]⟩,.bool false]) (by simp[results,results55,go_sem]) rfl ⟨by rw[HE.out],HB.out⟩
def fQ:ByteArray:=⟨#[98,97,115,101]⟩
def De:ByteArray:=⟨#[108,111,103]⟩
noncomputable def kE(b:ByteArray):Option (bM×Int):=if (frames b).length=1/\dF b=b.size then (yz ((frames b).getD 0 ⟨#[]⟩).data.toList).map fun q=>(q.2,q.1) else none
noncomputable def BS(aO:List Fl):Option (bM×Int):=(if (gu aO fQ).2=true then kE (gu aO fQ).1 else some (cZ,0)).map (nJ ((frames (gu aO De).1).map fun x=>x.data.toList))
noncomputable def yN(aO aR:List Fl)(ops:List Dp):bM×Int×Int:=if iZ ⟨aO,aR,ops⟩=true then (match BS aO with|none=>(cZ,0,2)|some s=>(s.1,s.2,0)) else (cZ,0,1)
theorem lu:df cZ=true:=by decide
theorem QW:∀(l:List (List UInt8))(s:bM×Int),df s.1=true->df (nJ l s).1=true:=by
 intro l
 induction l with
 | nil=>intro s h;exact h
 | cons x r ih =>
  intro s h;rw[nJ];split
  ·exact h
  ·split
   ·exact h
   ·split
    ·exact ih _ (CG h)
    ·exact ih _ h
end Go.Proofs.YtdbmmdecclalgaaGreatDoor
