import Derived.Shelf.SlSortCmp.WholeK
import Derived.Shelf.SlGeneric
import Derived.Ground.SlsfProg
import Derived.Test.YtdbmmdecclalgaaGreatDoorQaw
namespace Go.Proofs
open Go.Shelf Go.RowKit Go.Lib Go.Sort
def Tryz.Gu:Go.Shelf.Ren:=⟨fun|6=>172|15=>140|14=>215|28=>185|29=>186|20=>242|21=>243|22=>244|23=>245|24=>246|25=>247|26=>248|27=>249|46=>269|47=>219|48=>220|49=>270|50=>271|57=>282|n=>n,fun|22=>29|24=>112|25=>240|3=>3|39=>162|0=>0|53=>161|55=>253|4=>4|46=>244|45=>243|50=>249|5=>5|9=>9|66=>299|70=>303|76=>329|77=>330|n=>n,fun|n=>n⟩
theorem Tryz.Qx:Go.Proofs.SlLaysF0.n6 Tryz.prog Tryz.Gu:={
 mixed:=by kernel_rfl
 f6:=⟨Tryz.f172.name,by decide,Tryz.func172.trans (congrArg some (by kernel_rfl))⟩
 f14:=⟨Tryz.f215.name,by decide,Tryz.func215.trans (congrArg some (by kernel_rfl))⟩
 f15:=Tryz.func140.trans (congrArg some (by kernel_rfl))
 f20:=⟨Tryz.f242.name,by decide,Tryz.func242.trans (congrArg some (by kernel_rfl))⟩
 f21:=⟨Tryz.f243.name,by decide,Tryz.func243.trans (congrArg some (by kernel_rfl))⟩
 f22:=⟨Tryz.f244.name,by decide,Tryz.func244.trans (congrArg some (by kernel_rfl))⟩
 f23:=⟨Tryz.f245.name,by decide,Tryz.func245.trans (congrArg some (by kernel_rfl))⟩
 f24:=⟨Tryz.f246.name,by decide,Tryz.func246.trans (congrArg some (by kernel_rfl))⟩
 f25:=⟨Tryz.f247.name,by decide,Tryz.func247.trans (congrArg some (by kernel_rfl))⟩
 f26:=⟨Tryz.f248.name,by decide,Tryz.func248.trans (congrArg some (by kernel_rfl))⟩
 f27:=⟨Tryz.f249.name,by decide,Tryz.func249.trans (congrArg some (by kernel_rfl))⟩
 f28:=Tryz.func185.trans (congrArg some (by kernel_rfl))
 f29:=Tryz.func186.trans (congrArg some (by kernel_rfl))
 f46:=⟨Tryz.f269.name,by decide,Tryz.func269.trans (congrArg some (by kernel_rfl))⟩
 f47:=Tryz.func219.trans (congrArg some (by kernel_rfl))
 f48:=Tryz.func220.trans (congrArg some (by kernel_rfl))
 f49:=⟨Tryz.f270.name,by decide,Tryz.func270.trans (congrArg some (by kernel_rfl))⟩
 f50:=⟨Tryz.f271.name,by decide,Tryz.func271.trans (congrArg some (by kernel_rfl))⟩
 f57:=⟨Tryz.f282.name,by decide,Tryz.func282.trans (congrArg some (by kernel_rfl))⟩
 t0:=Tryz.underlying0
 a0:=Tryz.isAgg0
 z0:=Tryz.sizeOf0
 v0:=Tryz.zeroValue0
 t3:=Tryz.underlying3
 a3:=Tryz.isAgg3
 z3:=Tryz.sizeOf3
 v3:=Tryz.zeroValue3
 t4:=Tryz.underlying4
 a4:=Tryz.isAgg4
 z4:=Tryz.sizeOf4
 v4:=Tryz.zeroValue4
 t5:=Tryz.underlying5
 a5:=Tryz.isAgg5
 z5:=Tryz.sizeOf5
 v5:=Tryz.zeroValue5
 t9:=Tryz.underlying9
 a9:=Tryz.isAgg9
 z9:=Tryz.sizeOf9
 v9:=Tryz.zeroValue9
 t22:=Tryz.underlying29
 a22:=Tryz.isAgg29
 z22:=Tryz.sizeOf29
 v22:=Tryz.zeroValue29
 t25:=Tryz.underlying240
 a25:=Tryz.isAgg240
 z25:=Tryz.sizeOf240
 v25:=Tryz.zeroValue240
 t39:=Tryz.underlying162
 a39:=Tryz.isAgg162
 z39:=Tryz.sizeOf162
 v39:=Tryz.zeroValue162
 t45:=Tryz.underlying243
 a45:=Tryz.isAgg243
 z45:=Tryz.sizeOf243
 v45:=Tryz.zeroValue243
 t46:=Tryz.underlying244
 a46:=Tryz.isAgg244
 z46:=Tryz.sizeOf244
 v46:=Tryz.zeroValue244
 t50:=Tryz.underlying249
 a50:=Tryz.isAgg249
 z50:=Tryz.sizeOf249
 v50:=Tryz.zeroValue249
 t53:=Tryz.underlying161
 a53:=Tryz.isAgg161
 z53:=Tryz.sizeOf161
 v53:=Tryz.zeroValue161
 t55:=Tryz.underlying253
 a55:=Tryz.isAgg253
 z55:=Tryz.sizeOf253
 v55:=Tryz.zeroValue253
 t66:=Tryz.underlying299
 a66:=Tryz.isAgg299
 z66:=Tryz.sizeOf299
 v66:=Tryz.zeroValue299
 t70:=Tryz.underlying303
 a70:=Tryz.isAgg303
 z70:=Tryz.sizeOf303
 v70:=Tryz.zeroValue303
 t76:=Tryz.underlying329
 a76:=Tryz.isAgg329
 z76:=Tryz.sizeOf329
 v76:=Tryz.zeroValue329
 t77:=Tryz.underlying330
 a77:=Tryz.isAgg330
 z77:=Tryz.sizeOf330
 v77:=Tryz.zeroValue330}
def Tryz.Gw:Go.Shelf.Ren:=⟨fun|6=>207|15=>140|14=>237|28=>185|29=>186|20=>260|21=>261|22=>262|23=>263|24=>264|25=>265|26=>266|27=>267|46=>278|47=>219|48=>220|49=>279|50=>280|57=>285|n=>n,fun|22=>28|24=>109|25=>275|3=>3|39=>162|0=>0|53=>161|55=>253|4=>4|46=>244|45=>243|50=>249|5=>5|9=>9|66=>299|70=>303|76=>329|77=>330|n=>n,fun|n=>n⟩
theorem Tryz.Qy:Go.Proofs.SlLaysF0.n6 Tryz.prog Tryz.Gw:={
 mixed:=by kernel_rfl
 f6:=⟨Tryz.f207.name,by decide,Tryz.func207.trans (congrArg some (by kernel_rfl))⟩
 f14:=⟨Tryz.f237.name,by decide,Tryz.func237.trans (congrArg some (by kernel_rfl))⟩
 f15:=Tryz.func140.trans (congrArg some (by kernel_rfl))
 f20:=⟨Tryz.f260.name,by decide,Tryz.func260.trans (congrArg some (by kernel_rfl))⟩
 f21:=⟨Tryz.f261.name,by decide,Tryz.func261.trans (congrArg some (by kernel_rfl))⟩
 f22:=⟨Tryz.f262.name,by decide,Tryz.func262.trans (congrArg some (by kernel_rfl))⟩
 f23:=⟨Tryz.f263.name,by decide,Tryz.func263.trans (congrArg some (by kernel_rfl))⟩
 f24:=⟨Tryz.f264.name,by decide,Tryz.func264.trans (congrArg some (by kernel_rfl))⟩
 f25:=⟨Tryz.f265.name,by decide,Tryz.func265.trans (congrArg some (by kernel_rfl))⟩
 f26:=⟨Tryz.f266.name,by decide,Tryz.func266.trans (congrArg some (by kernel_rfl))⟩
 f27:=⟨Tryz.f267.name,by decide,Tryz.func267.trans (congrArg some (by kernel_rfl))⟩
 f28:=Tryz.func185.trans (congrArg some (by kernel_rfl))
 f29:=Tryz.func186.trans (congrArg some (by kernel_rfl))
 f46:=⟨Tryz.f278.name,by decide,Tryz.func278.trans (congrArg some (by kernel_rfl))⟩
 f47:=Tryz.func219.trans (congrArg some (by kernel_rfl))
 f48:=Tryz.func220.trans (congrArg some (by kernel_rfl))
 f49:=⟨Tryz.f279.name,by decide,Tryz.func279.trans (congrArg some (by kernel_rfl))⟩
 f50:=⟨Tryz.f280.name,by decide,Tryz.func280.trans (congrArg some (by kernel_rfl))⟩
 f57:=⟨Tryz.f285.name,by decide,Tryz.func285.trans (congrArg some (by kernel_rfl))⟩
 t0:=Tryz.underlying0
 a0:=Tryz.isAgg0
 z0:=Tryz.sizeOf0
 v0:=Tryz.zeroValue0
 t3:=Tryz.underlying3
 a3:=Tryz.isAgg3
 z3:=Tryz.sizeOf3
 v3:=Tryz.zeroValue3
 t4:=Tryz.underlying4
 a4:=Tryz.isAgg4
 z4:=Tryz.sizeOf4
 v4:=Tryz.zeroValue4
 t5:=Tryz.underlying5
 a5:=Tryz.isAgg5
 z5:=Tryz.sizeOf5
 v5:=Tryz.zeroValue5
 t9:=Tryz.underlying9
 a9:=Tryz.isAgg9
 z9:=Tryz.sizeOf9
 v9:=Tryz.zeroValue9
 t22:=Tryz.underlying28
 a22:=Tryz.isAgg28
 z22:=Tryz.sizeOf28
 v22:=Tryz.zeroValue28
 t25:=Tryz.underlying275
 a25:=Tryz.isAgg275
 z25:=Tryz.sizeOf275
 v25:=Tryz.zeroValue275
 t39:=Tryz.underlying162
 a39:=Tryz.isAgg162
 z39:=Tryz.sizeOf162
 v39:=Tryz.zeroValue162
 t45:=Tryz.underlying243
 a45:=Tryz.isAgg243
 z45:=Tryz.sizeOf243
 v45:=Tryz.zeroValue243
 t46:=Tryz.underlying244
 a46:=Tryz.isAgg244
 z46:=Tryz.sizeOf244
 v46:=Tryz.zeroValue244
 t50:=Tryz.underlying249
 a50:=Tryz.isAgg249
 z50:=Tryz.sizeOf249
 v50:=Tryz.zeroValue249
 t53:=Tryz.underlying161
 a53:=Tryz.isAgg161
 z53:=Tryz.sizeOf161
 v53:=Tryz.zeroValue161
 t55:=Tryz.underlying253
 a55:=Tryz.isAgg253
 z55:=Tryz.sizeOf253
 v55:=Tryz.zeroValue253
 t66:=Tryz.underlying299
 a66:=Tryz.isAgg299
 z66:=Tryz.sizeOf299
 v66:=Tryz.zeroValue299
 t70:=Tryz.underlying303
 a70:=Tryz.isAgg303
 z70:=Tryz.sizeOf303
 v70:=Tryz.zeroValue303
 t76:=Tryz.underlying329
 a76:=Tryz.isAgg329
 z76:=Tryz.sizeOf329
 v76:=Tryz.zeroValue329
 t77:=Tryz.underlying330
 a77:=Tryz.isAgg330
 z77:=Tryz.sizeOf330
 v77:=Tryz.zeroValue330}
end Go.Proofs
namespace Go.Proofs.YtdbmmdecclalgaaGreatDoor
open Go.ChangeShapes Go.WideShapes Go.ChangeAt Go.RowKit Go.Shelf Go.Lib Go.Sort
set_option linter.unusedVariables false
set_option maxRecDepth 100000
set_option maxHeartbeats 1000000 in
theorem xV(a b:Int)(w:World):Calls Tryz.prog 174 #[.int .i64 a,.int .i64 b] w fun e w'=>e=.returned (.int .i64 (Lib.compareInt a b))/\w'=w:=by
 by_cases h1:a<b
 ·go_enter Tryz.func174,Tryz.ntmps174;go_wp2_with (go_in);go_ret;exact⟨by simp[Lib.compareInt,h1],rfl⟩
 ·by_cases h2:b<a
  ·go_enter Tryz.func174,Tryz.ntmps174;go_wp2_with (go_in);go_ret;exact⟨by simp[Lib.compareInt,h1,h2],rfl⟩
  ·go_enter Tryz.func174,Tryz.ntmps174;go_wp2_with (go_in);go_ret;exact⟨by unfold Lib.compareInt;rw[if_neg (by omega),if_neg (by omega)];rfl,rfl⟩
set_option maxHeartbeats 1000000 in
theorem EH(x y:Sn)(W:World):Calls Tryz.prog 173 #[.agg #[.int .i64 x.id,.int .i64 x.code],.agg #[.int .i64 y.id,.int .i64 y.code]] W fun e w'=>e=.returned (.int .i64 (Lib.compareInt x.id y.id))/\∃q os',w'=grow (W.drewN q) os':=by
 have hcon:=fun W'=>xV x.id y.id W'
 generalize Lib.compareInt x.id y.id=r at hcon⊢;go_enter Tryz.func173,Tryz.ntmps173;go_wp2_with (go_at_call 174;refine(hcon _).mono ?_;rintro e w'⟨rfl,rfl⟩);go_ret;exact⟨rfl,0,_,by rw[alloc_eq_grow,alloc_eq_grow,grow_grow];rfl⟩
set_option maxHeartbeats 1000000 in
theorem Fg(x y:bP)(W:World):Calls Tryz.prog 208 #[.agg #[.int .i64 x.id,.string x.fr,.string x.to,.int .i64 x.aV],.agg #[.int .i64 y.id,.string y.fr,.string y.to,.int .i64 y.aV]] W fun e w'=>e=.returned (.int .i64 (Lib.compareInt x.id y.id))/\∃q os',w'=grow (W.drewN q) os':=by
 have hcon:=fun W'=>xV x.id y.id W'
 generalize Lib.compareInt x.id y.id=r at hcon⊢;go_enter Tryz.func208,Tryz.ntmps208;go_wp2_with (go_at_call 174;refine(hcon _).mono ?_;rintro e w'⟨rfl,rfl⟩);go_ret;exact⟨rfl,0,_,by rw[alloc_eq_grow,alloc_eq_grow,grow_grow];rfl⟩
instance:Inhabited Sn:=⟨⟨0,0⟩⟩
instance:Inhabited bP:=⟨⟨0,.empty,.empty,0⟩⟩
theorem O6(x y:Sn):ltOf (fun x y:Sn=>Lib.compareInt x.id y.id) x y=decide (x.id<y.id):=by
 unfold ltOf Lib.compareInt;by_cases h1:x.id<y.id
 ·simp[h1]
 ·by_cases h2:y.id<x.id<;>simp[h1,h2]
theorem RH:SWO (ltOf fun x y:Sn=>Lib.compareInt x.id y.id) where
 irrefl x:=by rw[O6];simp
 trans x y z h1 h2:=by rw[O6] at *;simp at *;omega
 ntrans x y z h1 h2:=by rw[O6] at *;simp at *;omega
theorem O7(x y:bP):ltOf (fun x y:bP=>Lib.compareInt x.id y.id) x y=decide (x.id<y.id):=by
 unfold ltOf Lib.compareInt;by_cases h1:x.id<y.id
 ·simp[h1]
 ·by_cases h2:y.id<x.id<;>simp[h1,h2]
theorem RI:SWO (ltOf fun x y:bP=>Lib.compareInt x.id y.id) where
 irrefl x:=by rw[O7];simp
 trans x y z h1 h2:=by rw[O7] at *;simp at *;omega
 ntrans x y z h1 h2:=by rw[O7] at *;simp at *;omega
set_option maxHeartbeats 1000000 in
theorem Gv(blk off cap:Nat)(d:Array Sn)(w:World)(hH:HoldsK aM 2 w blk off d)(hblk:blk<w.heap.size)(hsz:d.size<4611686018427387904) :
  Calls Tryz.prog 172 #[.slice (some ⟨blk,off,none⟩) d.size cap,.func (.func 173) #[] #[]] w fun e w'=>e=.returned (.tuple #[])/\∃d' n os,PermIn 0 d.size d d'/\SortedIn (ltOf fun x y:Sn=>Lib.compareInt x.id y.id) 0 d.size d'/\w'=sortWorldK aM 2 w blk off n d' os:=by
 have eg:∀args w,(callFunc 173 args).run Tryz.prog w=.ok (.enter 173 args) w:=enters_of Tryz.func173 (by kernel_rfl) rfl;exact AnyQ.slices_SortFunc Go.Proofs.Tryz.Qx 2 (fun w=>by kernel_rfl) (fun w=>by kernel_rfl) aM (fun _=>rfl) (fun x v hv=>by simp[aM] at hv;rcases hv with rfl|rfl<;>rfl) (fun x y=>Lib.compareInt x.id y.id) RH _ #[] blk off cap d w eg (fun _ _ _ _ x y=>EH x y _) hH hblk hsz
set_option maxHeartbeats 1000000 in
theorem Gx(blk off cap:Nat)(d:Array bP)(w:World)(hH:HoldsK aG 4 w blk off d)(hblk:blk<w.heap.size)(hsz:d.size<4611686018427387904) :
  Calls Tryz.prog 207 #[.slice (some ⟨blk,off,none⟩) d.size cap,.func (.func 208) #[] #[]] w fun e w'=>e=.returned (.tuple #[])/\∃d' n os,PermIn 0 d.size d d'/\SortedIn (ltOf fun x y:bP=>Lib.compareInt x.id y.id) 0 d.size d'/\w'=sortWorldK aG 4 w blk off n d' os:=by
 have eg:∀args w,(callFunc 208 args).run Tryz.prog w=.ok (.enter 208 args) w:=enters_of Tryz.func208 (by kernel_rfl) rfl;exact AnyQ.slices_SortFunc Go.Proofs.Tryz.Qy 4 (fun w=>by kernel_rfl) (fun w=>by kernel_rfl) aG (fun _=>rfl) (fun x v hv=>by simp[aG] at hv;rcases hv with rfl|rfl|rfl|rfl<;>rfl) (fun x y=>Lib.compareInt x.id y.id) RI _ #[] blk off cap d w eg (fun _ _ _ _ x y=>Fg x y _) hH hblk hsz
end Go.Proofs.YtdbmmdecclalgaaGreatDoor
