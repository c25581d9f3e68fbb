import Derived.Test.YtdbmmdecclalgaaGreatDoorQbm
import Derived.Test.YtdbmmdecclalgaaGreatDoorQau
import Derived.Test.YtdbmmdecclalgaaGreatDoorQav
import Derived.Test.YtdbmmdecclalgaaGreatDoorQar
import Derived.Test.YtdbmmdecclalgaaGreatDoorQbh
import Derived.Test.YtdbmmdecclalgaaGreatDoorQbc
namespace Go.Proofs.YtdbmmdecclalgaaGreatDoor
open Go.Value renaming int → ae, slice → af, string → ag, agg → aj
open Go.IntKind renaming i64 → au
open Go.Proofs.Tryz Go.ChangeShapes Go.WideShapes Go.ChangeAt Go.RowKit Go.Lib
set_option linter.unusedVariables false
set_option maxRecDepth 100000
set_option maxHeartbeats 4000000
def S9(l:List UInt8)(w:World)(e:Ending)(w':World):Prop :=
 ∃n r b,e=.returned (.tuple #[ae au n,ag (bs r),.bool b])/\Below w.heap.size w w'/\r.length<=l.length/\(b=true->OB l n r)/\(b=false->∀m s,¬ OB l m s)
theorem xM(l:List UInt8)(w:World)(hl:l.length<=1048576):Calls prog 43 #[ag (bs l)] w fun e w'=>S9 l w e w':=by
 go_enter func43,ntmps43;go_wp2_with fail;refine(wI (bs l) 10 _ (by rw[bD];unfold maxLen;omega)).mono ?_;rintro e w2⟨hk,⟨a,x,r,e1,ex,hno,rfl⟩|⟨hno,rfl⟩⟩
 ·obtain rfl:x=10:=UInt8.toNat_inj.1 (by have:=ex;simp;omega);have HQ:Hid (l=a++10::r):=hide (by rw[<-bS l];exact e1);have HNl:Hid (∀b∈a,b≠10):=hide (fun b hb z=>hno b hb (by rw[z];rfl));have hlen:a.length+r.length+1=l.length:=by rw[HQ.out];simp;omega
  have HB:=hide hk.below;clear hk e1 ex hno;go_wp2_with fail;refine(sH (bs a) _ (by rw[bD];unfold maxLen;omega)).mono ?_;rintro e w3⟨rfl,hw3⟩;rw[hw3,bS];clear hw3 w3;have HU:Hid (∀m s,OB l m s->iI a=true/\gM a=m/\0<=m/\m<=1000000000):=hide (fun m s hm=>by
   obtain⟨a',h1,h2,h3,h4,h5,h6⟩:=hm;have e:=(Im (r:=s) h2).1;rw[<-h1,HQ.out,(Im (r:=r) HNl.out).1] at e;subst e;exact⟨h3,h4,h5,h6⟩)
  cases hi:iI a
  ·have HI:=hide hi;go_wp2_with fail;refine bodyPost_ret (v:=.tuple #[ae au (gM a),ag (bs r),.bool false]) (by simp[results,results43,go_sem]) rfl ⟨_,r,false,rfl,HB.out,by omega,nofun,fun _ m s hm=>by have:=(HU.out m s hm).1;rw[HI.out] at this;cases this⟩
  ·have HI:=hide hi;go_wp2_with fail;refine(bz (gM a) 0 1000000000 _).mono ?_;rintro e w3⟨rfl,hw3⟩;rw[hw3];clear hw3 w3;cases hb:eu 0 1000000000 (gM a)
   ·have HNb:Hid (¬ (0<=gM a/\gM a<=1000000000)):=hide (fun z=>by simp[eu,z.1,z.2] at hb);clear hb;go_wp2_with fail;refine bodyPost_ret (v:=.tuple #[ae au (gM a),ag (bs r),.bool false]) (by simp[results,results43,go_sem]) rfl ⟨_,r,false,rfl,HB.out,by omega,nofun,fun _ m s hm=>by
     obtain⟨_,e,h5,h6⟩:=HU.out m s hm;exact HNb.out (by omega)⟩
   ·have HNb:Hid (0<=gM a/\gM a<=1000000000):=hide (by simpa[eu] using hb);clear hb;go_wp2_with fail;refine bodyPost_ret (v:=.tuple #[ae au (gM a),ag (bs r),.bool true]) (by simp[results,results43,go_sem]) rfl ⟨_,r,true,rfl,HB.out,by omega,fun _=>⟨a,HQ.out,HNl.out,HI.out,rfl,HNb.out⟩,nofun⟩
 ·have HNb:Hid (∀b∈l,b≠10):=hide (fun b hb z=>hno b (by rw[bS];exact hb) (by rw[z];rfl));have HB:=hide hk.below;have HU:Hid (∀m s,¬ OB l m s):=hide (fun m s hm=>by
   obtain⟨a',h1,_⟩:=hm;exact HNb.out 10 (by rw[h1];simp) rfl)
  clear hk hno;go_wp2_with fail;refine(sH (bs l) _ (by rw[bD];unfold maxLen;omega)).mono ?_;rintro e w3⟨rfl,hw3⟩;rw[hw3,bS];clear hw3 w3;have e0:(⟨#[]⟩:ByteArray)=bs []:=rfl;cases hi:iI l
  ·go_wp2_with fail;refine bodyPost_ret (v:=.tuple #[ae au (gM l),ag (bs []),.bool false]) (by simp[results,results43,go_sem]) rfl ⟨_,[],false,rfl,HB.out,by simp,nofun,fun _=>HU.out⟩
  ·go_wp2_with fail;refine bodyPost_ret (v:=.tuple #[ae au (gM l),ag (bs []),.bool false]) (by simp[results,results43,go_sem]) rfl ⟨_,[],false,rfl,HB.out,by simp,nofun,fun _=>HU.out⟩
theorem zK(la sa oa:Option Addr)(lc sc oc:Nat)(aO aR:List Fl)(ops:List Dp)(nm:ByteArray)(w:World)(hl:aO.length<=1048576)(h:bu 2 aW w la aO) :
  Calls prog 41 #[aj #[af la aO.length lc,af sa aR.length sc,af oa ops.length oc],ag nm] w fun e w'=>e=.returned (ag (gu aO nm).1)/\Below w.heap.size w w':=by
 have HC:=hide h;clear h;go_enter func41,ntmps41;go_upto_region 1 with fail
 refine bg (fun W1 hW1=>?_);have HP1:Hid (Pool [] w [[blk w.heap.size [af la aO.length lc,af sa aR.length sc,af oa ops.length oc]]] W1):=hide (by
  have p1:=(Pool.start w [[]] rfl).aY (i:=0) rfl [af la aO.length lc,af sa aR.length sc,af oa ops.length oc] 37;rw[hW1];exact p1)
 clear hW1;have z0:=(HP1.aB (i:=0) rfl).c 0 _ rfl;go_wp2_with fail;refine(zL la aO lc nm _ hl (HC.below HP1.below)).mono ?_;rintro e w2⟨rfl,hw2⟩;rw[hw2];clear hw2 w2
 cases ha:yC aO nm with
 | none =>
  have HE:Hid (gu aO nm=(⟨#[]⟩,false)):=hide (by simp[gu,ha]);have HB:=hide HP1.below;simp only[yO];go_wp2_with fail;go_ret;exact⟨by rw[HE.out];rfl,HB.out⟩
 | some k =>
  obtain⟨hk,_⟩:=sO ha;have HE:Hid (gu aO nm=((aO[k]).da,true)):=hide (by simp[gu,ha,sM ha hk]);have HB:=hide HP1.below;obtain⟨b,off,rfl,hb,c0,c1⟩:=iL (HC.below HP1.below) k hk;have hk':(k:Int)<(aO.length:Int):=by omega
  have hk0:¬ (k:Int)<0:=by omega
  simp only[yO];go_wp2_with fail;go_ret;exact⟨by rw[HE.out];rfl,HB.out⟩
end Go.Proofs.YtdbmmdecclalgaaGreatDoor
