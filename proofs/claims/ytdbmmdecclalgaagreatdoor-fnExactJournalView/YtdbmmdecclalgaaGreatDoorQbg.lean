import Derived.Test.YtdbmmdecclalgaaGreatDoorQaq
import Derived.Deep.RegionHeld
namespace Go.Proofs.YtdbmmdecclalgaaGreatDoor
open Go.Value renaming int → ae, slice → af, string → ag, agg → aj
open Go.IntKind renaming i64 → au
open Go.Proofs.Tryz Go.ChangeShapes Go.WideShapes Go.ChangeAt Go.RowKit
set_option linter.unusedVariables false
set_option maxRecDepth 100000
set_option maxHeartbeats 4000000
theorem Fb:(prog.info? 93).map (fun i=>(i.zero,i.size,i.bytes))=some (some (aj #[ag ByteArray.empty,ag ByteArray.empty]),2,32):=by kernel_rfl
theorem Tn:prog.underlying 34=some (.slice 93):=by kernel_rfl
theorem gW(s:ByteArray)(w:World)(h:s.size<=4194304) :
  Calls prog 63 #[ag s] w fun e w'=>e=.returned (.bool (oW s))/\w'=w:=by
 by_cases h1:(1:Int)<=(s.size:Int)
 ·by_cases h2:(s.size:Int)<=100
  ·have HR:Hid (oW s=true):=hide (by simp[oW,eu];omega);go_enter func63,ntmps63;go_wp2;go_ret;exact⟨by rw[HR.out];rfl,rfl⟩
  ·have HR:Hid (oW s=false):=hide (by simp[oW,eu];omega);go_enter func63,ntmps63;go_wp2;go_ret;exact⟨by rw[HR.out];rfl,rfl⟩
 ·have HR:Hid (oW s=false):=hide (by simp[oW,eu];omega);go_enter func63,ntmps63;go_wp2;go_ret;exact⟨by rw[HR.out];rfl,rfl⟩
theorem zL(a:Option Addr)(l:List Fl)(cap:Nat)(nm:ByteArray)(w:World)(hl:l.length<=1048576)(h:bu 2 aW w a l) :
  Calls prog 40 #[af a l.length cap,ag nm] w fun e w'=>e=.returned (ae au (yO (yC l nm)))/\w'=w:=by
 have HC:=hide h;clear h;go_enter func40,ntmps40;go_wp2;go_loop [5] (fun i=>∃k:Nat,k<=l.length/\i=ae au (k:Int)/\Hid (∀j (hj:j<l.length),j<k->(l[j]).nm≠nm)) (fun i=>l.length-(intOf i).toNat)
 case atStart=>exact⟨0,Nat.zero_le _,rfl,hide (fun j _ hj=>by omega)⟩
 case round =>
  obtain⟨k,hk,rfl,HN⟩:=hrel;by_cases hlt:k<l.length
  ·obtain⟨b,off,rfl,hb,c0,c1⟩:=iL HC.out k hlt;have hlt':(k:Int)<(l.length:Int):=by omega
   cases hq:((l[k]).nm.toList==nm.toList)
   ·have HN2:Hid (∀j (hj:j<l.length),j<k+1->(l[j]).nm≠nm):=hide (fun j hj hjk=>by
     rcases Nat.lt_or_ge j k with h|h
     ·exact HN.out j hj h
     ·obtain rfl:j=k:=by omega
      intro e;rw[bT.2 e] at hq;cases hq)
    go_wp2;exact⟨⟨k+1,by omega,by go_num,HN2⟩,by simp[intOf];omega⟩
   ·have HE:Hid (yO (yC l nm)=(k:Int)):=hide (by rw[Oh hlt (bT.1 hq) HN.out];rfl);go_wp2;go_ret;exact⟨by rw[HE.out];rfl,rfl⟩
  ·have hk':¬ (k:Int)<(l.length:Int):=by omega
   have HE:Hid (yO (yC l nm)=-1):=hide (by rw[JB (fun j hj=>HN.out j hj (by omega))];rfl);go_wp2;go_ret;exact⟨by rw[HE.out];rfl,rfl⟩
def Br(l:List Fl)(w:World)(e:Ending)(w':World):Prop:=Below w.heap.size w w'/\∃v,e=.returned v/\w'.ownsRow w.heap.size 93 2 v l.length (l.flatMap aW)
theorem yK{l:List Fl}{w w':World}{v:Value}(hb:Below w.heap.size w w')(h:w'.ownsRow w.heap.size 93 2 v l.length (l.flatMap aW)):Br l w (.returned v) w':=⟨hb,v,rfl,h⟩
theorem zx{l:List Fl}{w:World}{base:Nat}{v:Value}(h:w.ownsRow base 93 2 v l.length (l.flatMap aW)):∃a cap,v=af a l.length cap/\bu 2 aW w a l/\(a=none->cap=0):=by
 obtain⟨g,a,cap,_,e,ho⟩:=ll Cc h;refine⟨a,cap,e,ho.rows,fun ha=>?_⟩;obtain⟨_,⟨h0,h1⟩|⟨g',cap',cur,h1,_⟩⟩:=h
 ·rw[e] at h0;simp only[Value.slice.injEq] at h0;exact h0.2.2
 ·rw[e,ha] at h1;simp at h1
theorem BN(a:Option Addr)(l:List Fl)(cap:Nat)(nm:ByteArray)(w:World)(hl:l.length<=1048576)(h:bu 2 aW w a l) :
  Calls prog 65 #[af a l.length cap,ag nm] w fun e w'=>Br (iD l nm) w e w':=by
 have HC:=hide h;clear h;obtain⟨i0,hi0,hz0,hz1,hz2⟩:=info_parts Fb;have hu:=Tn;go_enter func65,ntmps65;go_wp2;go_loopw [5,6] (fun v i wr=>∃k:Nat,k<=l.length/\i=ae au (k:Int)/\Hid (Below w.heap.size w wr)/\Hid (wr.ownsRow w.heap.size 93 2 v (iD (l.take k) nm).length ((iD (l.take k) nm).flatMap aW))) (fun v i wr=>l.length-(intOf i).toNat)
 case atStart=>exact⟨0,Nat.zero_le _,rfl,hide (aF (Below.refl _ _) _),hide (World.ownsRow_made w #[] 0 (Nat.le_refl _) (by unfold maxLen;omega) rfl)⟩
 case round =>
  obtain⟨k,hk,rfl,HX,HO⟩:=hrel;obtain⟨va,vc,rfl⟩:=bv HO.out;by_cases hlt:k<l.length
  ·have hlt':(k:Int)<(l.length:Int):=by omega
   obtain⟨b,off,rfl,hb,c0,c1⟩:=iL (HC.below HX.out) k hlt;have HNX:=hide (Lf l nm k hlt);have HLN:Hid ((iD (l.take k) nm).length<=1048576):=hide (Nat.le_trans (Ar _ _) (by rw[List.length_take];omega));cases hq:((l[k]).nm.toList==nm.toList)
   ·go_wp2_with (first|(at_builtin;refine bI.mk ?_)|fail);refine bI.mk' ?_;refine wpList_append_own_at _ rfl _ _ 34 rfl w.heap.size 93 i0 _ 2 32 hu hi0 hz0 hz1 hz2 rfl (by decide) (af va (iD (l.take k) nm).length vc) (iD (l.take k) nm).length ((iD (l.take k) nm).flatMap aW) rfl ?own ⟨wr.heap.size,0,none⟩ 1 1 [ag l[k].nm,ag l[k].da] rfl rfl ?news (by simp[Value.oneCell']) (by have:=HLN.out;unfold maxLen;omega) (by have:=HLN.out;omega) ?base ?_
    case own=>exact fT HO.out (aF (Below.refl _ _) _)
    case news=>exact xJ (World.cell?_alloc_at _ _ _ _ rfl) (World.cell?_alloc_at _ _ _ _ rfl)
    case base=>have:=HX.size;simp;omega
    intro v6 w6 ho6 hg6 _ _;have hnx:=HNX.out;rw[hq] at hnx;simp only[Bool.false_eq_true,if_false] at hnx;have HO6:Hid (w6.ownsRow w.heap.size 93 2 v6 (iD (l.take (k+1)) nm).length ((iD (l.take (k+1)) nm).flatMap aW)):=hide (by
     rw[hnx,List.flatMap_append];simpa[aW] using ho6)
    have HX6:Hid (Below w.heap.size w w6):=hide ((aF HX.out _).grown hg6 (by have:=HX.size;simp;omega) (fun j hj=>jY HO.out j hj));clear hnx HNX HO ho6 hg6 HX;go_wp2;exact⟨⟨k+1,by omega,by go_num,HX6,HO6⟩,by simp[intOf];omega⟩
   ·have hnx:=HNX.out;rw[hq] at hnx;simp only[if_true,List.append_nil] at hnx;have HO5:Hid (wr.ownsRow w.heap.size 93 2 (af va (iD (l.take k) nm).length vc) (iD (l.take (k+1)) nm).length ((iD (l.take (k+1)) nm).flatMap aW)):=hide (by rw[hnx];exact HO.out);clear hnx HNX HO;go_wp2;exact⟨⟨k+1,by omega,by go_num,HX,HO5⟩,by simp[intOf];omega⟩
  ·have hlt':¬ (k:Int)<(l.length:Int):=by omega
   have HE:Hid (Br (iD l nm) w (.returned (af va (iD (l.take k) nm).length vc)) wr):=hide (yK HX.out (by
    have:=HO.out;rw[List.take_of_length_le (by omega)] at this;rw[List.take_of_length_le (by omega)];exact this))
   go_wp2;go_ret;exact HE.out
theorem wH(a:Option Addr)(l:List Fl)(cap:Nat)(nm da:ByteArray)(w:World)(hl:l.length<=1000)(h:bu 2 aW w a l) :
  Calls prog 64 #[af a l.length cap,ag nm,ag da] w fun e w'=>Br (jA l nm da) w e w':=by
 have HC:=hide h;clear h;obtain⟨i0,hi0,hz0,hz1,hz2⟩:=info_parts Fb;have hu:=Tn;go_enter func64,ntmps64;go_wp2;go_loopw [7,8,9] (fun v d i wr=>∃(k:Nat)(out:List Fl)(dn:Bool),k<=l.length/\i=ae au (k:Int)/\d=.bool dn/\Hid (lg l nm da k=(out,dn))/\Hid (Below w.heap.size w wr)/\Hid (wr.ownsRow w.heap.size 93 2 v out.length (out.flatMap aW))) (fun v d i wr=>l.length-(intOf i).toNat)
 case atStart=>exact⟨0,[],false,Nat.zero_le _,rfl,rfl,hide rfl,hide (aF (Below.refl _ _) _),hide (World.ownsRow_made w #[] 0 (Nat.le_refl _) (by unfold maxLen;omega) rfl)⟩
 case round =>
  obtain⟨k,out,dn,hk,rfl,rfl,HK,HX,HO⟩:=hrel;obtain⟨va,vc,rfl⟩:=bv HO.out;have HLN:Hid (out.length<=2000):=hide (by have:=zn l nm da k;rw[HK.out] at this;simp only at this;omega);by_cases hlt:k<l.length
  ·have hlt':(k:Int)<(l.length:Int):=by omega
   obtain⟨b,off,rfl,hb,c0,c1⟩:=iL (HC.below HX.out) k hlt;have HNX:Hid (lg l nm da (k+1)=tq nm da (out,dn) l[k]):=hide (by rw[rZ l nm da k hlt,HK.out]);cases dn
   ·cases hls:Op.bytesLess (l[k]).nm.toList nm.toList
    ·cases hq:((l[k]).nm.toList==nm.toList)
     ·go_wp2_with (first|(at_builtin;refine bI.mk ?_)|fail);refine bI.mk' ?_;refine wpList_append_own_at _ rfl _ _ 34 rfl w.heap.size 93 i0 _ 2 32 hu hi0 hz0 hz1 hz2 rfl (by decide) (af va out.length vc) out.length (out.flatMap aW) rfl ?ownf ⟨wr.heap.size,0,none⟩ 1 1 [ag nm,ag da] rfl rfl ?newsf (by simp[Value.oneCell']) (by have:=HLN.out;unfold maxLen;omega) (by have:=HLN.out;omega) ?basef ?_
      case ownf=>exact fT HO.out (aF (Below.refl _ _) _)
      case newsf=>exact xJ (World.cell?_alloc_at _ _ _ _ rfl) (World.cell?_alloc_at _ _ _ _ rfl)
      case basef=>have:=HX.size;simp;omega
      intro v6 w6 ho6 hg6 _ _;have HO6:Hid (w6.ownsRow w.heap.size 93 2 v6 (out++[(⟨nm,da⟩:Fl)]).length ((out++[(⟨nm,da⟩:Fl)]).flatMap aW)):=hide (by
       rw[List.flatMap_append];simpa[aW] using ho6)
      have HX6:Hid (Below w.heap.size w w6):=hide ((aF HX.out _).grown hg6 (by have:=HX.size;simp;omega) (fun j hj=>jY HO.out j hj));obtain⟨b2,off2,e2,hb2,d0,d1⟩:=iL (HC.below HX6.out) k hlt;simp only[Option.some.injEq,Addr.mk.injEq,and_true] at e2;obtain⟨rfl,rfl⟩:=e2;obtain⟨out2,hout2⟩:∃o,o=out++[(⟨nm,da⟩:Fl)]:=⟨_,rfl⟩;rw[<-hout2] at HO6;have HLN2:Hid (out2.length<=2001):=hide (by have:=HLN.out;rw[hout2];simp;omega);have HO2:Hid (out2=out++[(⟨nm,da⟩:Fl)]):=hide hout2;obtain⟨va6,vc6,rfl⟩:=bv HO6.out;clear HO ho6 hg6 HX c0 c1 hb hout2;go_wp2_with (first|(at_builtin;refine bI.mk ?_)|fail);refine bI.mk' ?_;refine wpList_append_own_at _ rfl _ _ 34 rfl w.heap.size 93 i0 _ 2 32 hu hi0 hz0 hz1 hz2 rfl (by decide) (af va6 out2.length vc6) out2.length (out2.flatMap aW) rfl ?owna ⟨w6.heap.size,0,none⟩ 1 1 [ag l[k].nm,ag l[k].da] rfl rfl ?newsa (by simp[Value.oneCell']) (by have:=HLN2.out;unfold maxLen;simp;omega) (by have:=HLN2.out;simp;omega) ?basea ?_
      case owna=>exact fT HO6.out (aF (Below.refl _ _) _)
      case newsa=>exact xJ (World.cell?_alloc_at _ _ _ _ rfl) (World.cell?_alloc_at _ _ _ _ rfl)
      case basea=>have:=HX6.size;simp;omega
      intro v7 w7 ho7 hg7 _ _;have HO7:Hid (w7.ownsRow w.heap.size 93 2 v7 (out2++[l[k]]).length ((out2++[l[k]]).flatMap aW)):=hide (by
       rw[List.flatMap_append];simpa[aW] using ho7)
      have HX7:Hid (Below w.heap.size w w7):=hide ((aF HX6.out _).grown hg7 (by have:=HX6.size;simp;omega) (fun j hj=>jY HO6.out j hj));have HK7:Hid (lg l nm da (k+1)=(out2++[l[k]],true)):=hide (by rw[HNX.out,HO2.out];simp[tq,hls,hq]);clear HNX HK HO6 ho7 hg7 HX6;go_wp2;exact⟨⟨k+1,out2++[l[k]],true,by omega,by go_num,rfl,HK7,HX7,HO7⟩,by simp[intOf];omega⟩
     ·go_wp2_with (first|(at_builtin;refine bI.mk ?_)|fail);refine bI.mk' ?_;refine wpList_append_own_at _ rfl _ _ 34 rfl w.heap.size 93 i0 _ 2 32 hu hi0 hz0 hz1 hz2 rfl (by decide) (af va out.length vc) out.length (out.flatMap aW) rfl ?owng ⟨wr.heap.size,0,none⟩ 1 1 [ag nm,ag da] rfl rfl ?newsg (by simp[Value.oneCell']) (by have:=HLN.out;unfold maxLen;omega) (by have:=HLN.out;omega) ?baseg ?_
      case owng=>exact fT HO.out (aF (Below.refl _ _) _)
      case newsg=>exact xJ (World.cell?_alloc_at _ _ _ _ rfl) (World.cell?_alloc_at _ _ _ _ rfl)
      case baseg=>have:=HX.size;simp;omega
      intro v6 w6 ho6 hg6 _ _;have HO6:Hid (w6.ownsRow w.heap.size 93 2 v6 (out++[(⟨nm,da⟩:Fl)]).length ((out++[(⟨nm,da⟩:Fl)]).flatMap aW)):=hide (by
       rw[List.flatMap_append];simpa[aW] using ho6)
      have HX6:Hid (Below w.heap.size w w6):=hide ((aF HX.out _).grown hg6 (by have:=HX.size;simp;omega) (fun j hj=>jY HO.out j hj));obtain⟨b2,off2,e2,hb2,d0,d1⟩:=iL (HC.below HX6.out) k hlt;simp only[Option.some.injEq,Addr.mk.injEq,and_true] at e2;obtain⟨rfl,rfl⟩:=e2;obtain⟨out2,hout2⟩:∃o,o=out++[(⟨nm,da⟩:Fl)]:=⟨_,rfl⟩;rw[<-hout2] at HO6;have HLN2:Hid (out2.length<=2001):=hide (by have:=HLN.out;rw[hout2];simp;omega);have HO2:Hid (out2=out++[(⟨nm,da⟩:Fl)]):=hide hout2;obtain⟨va6,vc6,rfl⟩:=bv HO6.out;clear HO ho6 hg6 HX c0 c1 hb hout2;have HK7:Hid (lg l nm da (k+1)=(out2,true)):=hide (by rw[HNX.out,HO2.out];simp[tq,hls,hq]);clear HNX HK;go_wp2;exact⟨⟨k+1,out2,true,by omega,by go_num,rfl,HK7,HX6,HO6⟩,by simp[intOf];omega⟩
    ·cases hq:((l[k]).nm.toList==nm.toList)
     ·go_wp2_with (first|(at_builtin;refine bI.mk ?_)|fail);refine bI.mk' ?_;refine wpList_append_own_at _ rfl _ _ 34 rfl w.heap.size 93 i0 _ 2 32 hu hi0 hz0 hz1 hz2 rfl (by decide) (af va out.length vc) out.length (out.flatMap aW) rfl ?ownb ⟨wr.heap.size,0,none⟩ 1 1 [ag l[k].nm,ag l[k].da] rfl rfl ?newsb (by simp[Value.oneCell']) (by have:=HLN.out;unfold maxLen;simp;omega) (by have:=HLN.out;simp;omega) ?baseb ?_
      case ownb=>exact fT HO.out (aF (Below.refl _ _) _)
      case newsb=>exact xJ (World.cell?_alloc_at _ _ _ _ rfl) (World.cell?_alloc_at _ _ _ _ rfl)
      case baseb=>have:=HX.size;simp;omega
      intro v7 w7 ho7 hg7 _ _;have HO7:Hid (w7.ownsRow w.heap.size 93 2 v7 (out++[l[k]]).length ((out++[l[k]]).flatMap aW)):=hide (by
       rw[List.flatMap_append];simpa[aW] using ho7)
      have HX7:Hid (Below w.heap.size w w7):=hide ((aF HX.out _).grown hg7 (by have:=HX.size;simp;omega) (fun j hj=>jY HO.out j hj));have HK7:Hid (lg l nm da (k+1)=(out++[l[k]],false)):=hide (by rw[HNX.out];simp[tq,hls,hq]);clear HNX HK HO ho7 hg7 HX;go_wp2;exact⟨⟨k+1,out++[l[k]],false,by omega,by go_num,rfl,HK7,HX7,HO7⟩,by simp[intOf];omega⟩
     ·have HK7:Hid (lg l nm da (k+1)=(out,false)):=hide (by rw[HNX.out];simp[tq,hls,hq]);clear HNX HK;go_wp2;exact⟨⟨k+1,out,false,by omega,by go_num,rfl,HK7,HX,HO⟩,by simp[intOf];omega⟩
   ·cases hq:((l[k]).nm.toList==nm.toList)
    ·go_wp2_with (first|(at_builtin;refine bI.mk ?_)|fail);refine bI.mk' ?_;refine wpList_append_own_at _ rfl _ _ 34 rfl w.heap.size 93 i0 _ 2 32 hu hi0 hz0 hz1 hz2 rfl (by decide) (af va out.length vc) out.length (out.flatMap aW) rfl ?ownc ⟨wr.heap.size,0,none⟩ 1 1 [ag l[k].nm,ag l[k].da] rfl rfl ?newsc (by simp[Value.oneCell']) (by have:=HLN.out;unfold maxLen;simp;omega) (by have:=HLN.out;simp;omega) ?basec ?_
     case ownc=>exact fT HO.out (aF (Below.refl _ _) _)
     case newsc=>exact xJ (World.cell?_alloc_at _ _ _ _ rfl) (World.cell?_alloc_at _ _ _ _ rfl)
     case basec=>have:=HX.size;simp;omega
     intro v7 w7 ho7 hg7 _ _;have HO7:Hid (w7.ownsRow w.heap.size 93 2 v7 (out++[l[k]]).length ((out++[l[k]]).flatMap aW)):=hide (by
      rw[List.flatMap_append];simpa[aW] using ho7)
     have HX7:Hid (Below w.heap.size w w7):=hide ((aF HX.out _).grown hg7 (by have:=HX.size;simp;omega) (fun j hj=>jY HO.out j hj));have HK7:Hid (lg l nm da (k+1)=(out++[l[k]],true)):=hide (by rw[HNX.out];simp[tq,hq]);clear HNX HK HO ho7 hg7 HX;go_wp2;exact⟨⟨k+1,out++[l[k]],true,by omega,by go_num,rfl,HK7,HX7,HO7⟩,by simp[intOf];omega⟩
    ·have HK7:Hid (lg l nm da (k+1)=(out,true)):=hide (by rw[HNX.out];simp[tq,hq]);clear HNX HK;go_wp2;exact⟨⟨k+1,out,true,by omega,by go_num,rfl,HK7,HX,HO⟩,by simp[intOf];omega⟩
  ·have hlt':¬ (k:Int)<(l.length:Int):=by omega
   have HE:Hid (k=l.length):=hide (by omega);cases dn
   ·go_wp2_with (first|(at_builtin;refine bI.mk ?_)|fail);refine bI.mk' ?_;refine wpList_append_own_at _ rfl _ _ 34 rfl w.heap.size 93 i0 _ 2 32 hu hi0 hz0 hz1 hz2 rfl (by decide) (af va out.length vc) out.length (out.flatMap aW) rfl ?own ⟨wr.heap.size,0,none⟩ 1 1 [ag nm,ag da] rfl rfl ?news (by simp[Value.oneCell']) (by have:=HLN.out;unfold maxLen;omega) (by have:=HLN.out;omega) ?base ?_
    case own=>exact fT HO.out (aF (Below.refl _ _) _)
    case news=>exact xJ (World.cell?_alloc_at _ _ _ _ rfl) (World.cell?_alloc_at _ _ _ _ rfl)
    case base=>have:=HX.size;simp;omega
    intro v6 w6 ho6 hg6 _ _;have HO6:Hid (w6.ownsRow w.heap.size 93 2 v6 (out++[(⟨nm,da⟩:Fl)]).length ((out++[(⟨nm,da⟩:Fl)]).flatMap aW)):=hide (by
     rw[List.flatMap_append];simpa[aW] using ho6)
    have HX6:Hid (Below w.heap.size w w6):=hide ((aF HX.out _).grown hg6 (by have:=HX.size;simp;omega) (fun j hj=>jY HO.out j hj));have HEE:Hid (Br (jA l nm da) w (.returned v6) w6):=hide (yK HX6.out (by
     have hk2:=HK.out;rw[HE.out] at hk2;have e:jA l nm da=out++[⟨nm,da⟩]:=by simp[jA,hk2]
     rw[e];exact HO6.out))
    clear HO ho6 hg6 HX HE HK;go_wp2;go_ret;exact HEE.out
   ·have HEE:Hid (Br (jA l nm da) w (.returned (af va out.length vc)) wr):=hide (yK HX.out (by
     have hk2:=HK.out;rw[HE.out] at hk2;have e:jA l nm da=out:=by simp[jA,hk2]
     rw[e];exact HO.out))
    clear HE HK;go_wp2;go_ret;exact HEE.out
theorem jJ{P:Program}{f:FuncId}{args:Array Value}{W:World}{x:Later W}{b b':Bool}(e:b=b')(h:Calls P f args x.w fun e w''=>e=.returned (.bool b)/\∃y:Later W,w''=y.w):Calls P f args x.w fun e w''=>e=.returned (.bool b')/\∃y:Later W,w''=y.w:=by rw[<-e];exact h
def Lv(l:List Fl):Prop:=∀f∈l,f.nm.size<=4194304/\f.da.size<=4194304
def SK(l:List Fl):Prop:=∀f∈l,f.nm.size<=4194304/\f.da.size<=67108864
theorem Lv.up{l:List Fl}(h:Lv l):SK l:=fun f hf=>by have:=h f hf;exact⟨by omega,by omega⟩
theorem D9.g0{l:List Fl}(h:D9 l):Lv l:=fun f hf=>by have:=h f hf;exact⟨by omega,by omega⟩
theorem D9.g{l:List Fl}(h:D9 l):SK l:=fun f hf=>by have:=h f hf;exact⟨by omega,by omega⟩
theorem Ai{l:List Fl}(h60:l.length<=60)(h:bE (F5 l) l.length=true):dN l=decide ((iN l:Int)<=200000):=by simp[dN,h60,h]
theorem pQ{l:List Fl}{k:Nat}(hk:k<l.length)(h:F5 l k=false):dN l=false:=by simp[dN,DY hk h]
theorem Kn{x y:ByteArray}(h:Op.bytesLess x.toList y.toList=false)(h':Op.bytesLess y.toList x.toList=false):(y.toList==x.toList)=true:=by
 rw[qx] at h h';simp only[decide_eq_false_iff_not] at h h';exact beq_iff_eq.2 (List.le_antisymm (List.not_lt.1 h) (List.not_lt.1 h'))
theorem J7{x y:ByteArray}(h:Op.bytesLess x.toList y.toList=true):Op.bytesLess y.toList x.toList=false/\(y.toList==x.toList)=false:=by
 rw[qx] at h⊢;simp only[decide_eq_true_eq] at h;refine⟨by simpa using List.le_of_lt h,?_⟩;rw[beq_eq_false_iff_ne];intro e;rw[e] at h;exact List.lt_irrefl _ h
theorem rH(a:Option Addr)(l:List Fl)(cap:Nat)(w:World)(hl:l.length<=1048576)(hs:SK l)(h:bu 2 aW w a l) :
  Calls prog 36 #[af a l.length cap] w fun e w'=>e=.returned (.bool (dN l))/\Below w.heap.size w w':=by
 have HC:=hide h;have HS:=hide hs;clear h hs;by_cases h60:l.length<=60
 ·have a2:¬ (60:Int)<(l.length:Int):=by omega
  go_enter func36,ntmps36;go_wp2;go_loopw [3,4] (fun s i wr=>∃(k:Nat)(z:Nat),k<=l.length/\i=ae au (k:Int)/\s=ae au (z:Int)/\Hid (z=iN (l.take k))/\z<=4093640704/\Hid (Below w.heap.size w wr)/\Hid (bE (F5 l) k=true)) (fun s i wr=>l.length-(intOf i).toNat)
  case atStart=>exact⟨0,0,Nat.zero_le _,rfl,rfl,hide (by simp[iN]),by omega,hide (Below.refl _ _),hide rfl⟩
  case round =>
   obtain⟨k,z,hk,rfl,rfl,HZ,hz,HB,HG⟩:=hrel;by_cases hlt:k<l.length
   ·have hlt':(k:Int)<(l.length:Int):=by omega
    obtain⟨b,off,rfl,hb,c0,c1⟩:=iL (HC.below HB.out) k hlt;have s1:=(HS.out _ (List.getElem_mem hlt)).1;have s2:=(HS.out _ (List.getElem_mem hlt)).2;have HZ2:Hid (z+(l[k]).da.size=iN (l.take (k+1))):=hide (by rw[HZ.out,Le l k hlt]);have hz2:z+(l[k]).da.size<=4093640704:=by rw[HZ2.out];exact NU (by omega) (fun f hf=>(HS.out f hf).2) _
    have d0:=bN c0;have d1:=bN c1;have hne:Nonempty (Later wr):=bO _;cases q1:oW (l[k]).nm
    ·have HR:Hid (dN l=false):=hide (pQ hlt (by rw[kS hlt,q1];rfl));go_wp2_with fail;refine aU wr (by kernel_rfl) (by kernel_rfl) ((Below.refl _ _).drew) ?_
     repeat (go_big_quiet_step (first|(go_at_call 63;exact jJ q1 (bZ (gW _ _ s1)))))
     refine wpQuiet_nil ?_;intro _ hw';obtain⟨nx,rfl⟩:=hw';go_wp2;go_ret;exact⟨by rw[HR.out];rfl,aJ HB.out nx.below⟩
    ·by_cases hz0:k=0
     ·have hri:Hid (q9 l k=true):=hide (by rw[hz0];rfl);have hz':decide ((0:Int)<(k:Int))=false:=by simp;omega
      have hz'':decide (0<k)=false:=by simp;omega
      clear hz0;have HG2:Hid (bE (F5 l) (k+1)=true):=hide (dQ HG.out (by rw[kS hlt,q1,hri.out];rfl));go_wp2_with fail;refine aU wr (by kernel_rfl) (by kernel_rfl) ((Below.refl _ _).drew) ?_
      repeat (go_big_quiet_step (first|(go_at_call 63;exact jJ q1 (bZ (gW _ _ s1)))))
      refine wpQuiet_nil ?_;intro _ hw';obtain⟨nx,rfl⟩:=hw';have e1:=d1 nx;go_wp2;exact⟨⟨k+1,z+(l[k]).da.size,by omega,by go_num,by go_num,HZ2,hz2,hide (aJ HB.out nx.below),HG2⟩,by simp[intOf];omega⟩
     ·obtain⟨m,hm⟩:∃m,k=m+1:=⟨k-1,by omega⟩;have hm3:m<l.length:=by omega
      obtain⟨b',off',heq,_,p0,_⟩:=iL (HC.below HB.out) m hm3;simp only[Option.some.injEq,Addr.mk.injEq,and_true] at heq;obtain⟨rfl,rfl⟩:=heq;have f0:=bN p0;have hz':(0:Int)<(k:Int):=by omega
      have hm1:IntKind.i64.wrap ((k:Int)-1)=(m:Int):=Bu hm (by omega);have hm2:(m:Int)<(l.length:Int):=by omega
      have hz'':0<k:=by omega
      have hrs:q9 l k=Op.bytesLess (l[m]).nm.toList (l[k]).nm.toList:=by subst hm;exact q8 hlt
      cases q2:Op.bytesLess (l[m]).nm.toList (l[k]).nm.toList
      ·have HR:Hid (dN l=false):=hide (pQ hlt (by rw[kS hlt,q1,hrs,q2];rfl));clear hrs hm hz0;cases e1:Op.bytesLess (l[k]).nm.toList (l[m]).nm.toList;have e2:=Kn q2 e1;go_wp2_with fail
       rotate_left
       go_wp2_with fail
       all_goals
        refine aU wr (by kernel_rfl) (by kernel_rfl) ((Below.refl _ _).drew) ?_
        repeat (go_big_quiet_step (first|(go_at_call 63;exact jJ q1 (bZ (gW _ _ s1)))))
        refine wpQuiet_nil ?_;intro _ hw';obtain⟨nx,rfl⟩:=hw';go_wp2;go_ret;exact⟨by rw[HR.out];rfl,aJ HB.out nx.below⟩
      ·have HG2:Hid (bE (F5 l) (k+1)=true):=hide (dQ HG.out (by rw[kS hlt,q1,hrs,q2];rfl));obtain⟨t1,t2⟩:=J7 q2;clear hrs hm hz0;go_wp2_with fail;refine aU wr (by kernel_rfl) (by kernel_rfl) ((Below.refl _ _).drew) ?_
       repeat (go_big_quiet_step (first|(go_at_call 63;exact jJ q1 (bZ (gW _ _ s1)))))
       refine wpQuiet_nil ?_;intro _ hw';obtain⟨nx,rfl⟩:=hw';have e1:=d1 nx;go_wp2;exact⟨⟨k+1,z+(l[k]).da.size,by omega,by go_num,by go_num,HZ2,hz2,hide (aJ HB.out nx.below),HG2⟩,by simp[intOf];omega⟩
   ·have hk':¬ (k:Int)<(l.length:Int):=by omega
    have HE:Hid (dN l=decide ((z:Int)<=200000)):=hide (by
     have hkk:k=l.length:=by omega
     have h1:=HG.out;rw[hkk] at h1;rw[Ai h60 h1,HZ.out,hkk,List.take_length])
    clear HZ;go_wp2;go_ret;exact⟨by rw[HE.out];rfl,HB.out⟩
 ·have HR:Hid (dN l=false):=hide (by simp[dN,h60]);have a2:(60:Int)<(l.length:Int):=by omega
  go_enter func36,ntmps36;go_wp2;go_ret;exact⟨by rw[HR.out];rfl,Below.refl _ _⟩
theorem G7(a c:Option Addr)(l l':List Fl)(ca cc:Nat)(w:World)(hl:l.length<=1048576)(hl':l'.length<=1048576)(h:bu 2 aW w a l)(h':bu 2 aW w c l') :
  Calls prog 39 #[af a l.length ca,af c l'.length cc] w fun e w'=>e=.returned (.bool (decide (l=l')))/\Below w.heap.size w w':=by
 have HC:=hide h;have HC':=hide h';clear h h';by_cases hln:l.length=l'.length
 ·have hln':((l.length:Int) != (l'.length:Int))=false:=by simp;omega
  have HLN:=hide hln;clear hln;go_enter func39,ntmps39;go_wp2;go_loopw [5] (fun i wr=>∃(k:Nat),k<=l.length/\i=ae au (k:Int)/\Hid (Below w.heap.size w wr)/\Hid (∀j (hj:j<l.length) (hj':j<l'.length),j<k->l[j]=l'[j])) (fun i wr=>l.length-(intOf i).toNat)
  case atStart=>exact⟨0,Nat.zero_le _,rfl,hide (Below.refl _ _),hide (fun j _ _ hj=>by omega)⟩
  case round =>
   obtain⟨k,hk,rfl,HB,HE⟩:=hrel;by_cases hlt:k<l.length
   ·have hlt':(k:Int)<(l.length:Int):=by omega
    have hl2:k<l'.length:=by have:=HLN.out;omega
    have hl3:(k:Int)<(l'.length:Int):=by omega
    obtain⟨b,off,rfl,hb,c0,c1⟩:=iL (HC.below HB.out) k hlt;obtain⟨b',off',rfl,hb',p0,p1⟩:=iL (HC'.below HB.out) k hl2;by_cases he:l[k]=l'[k]
    ·have HE2:Hid (∀j (hj:j<l.length) (hj':j<l'.length),j<k+1->l[j]=l'[j]):=hide (fun j hj hj' hjk=>by
      rcases Nat.lt_or_ge j k with h|h
      ·exact HE.out j hj hj' h
      ·obtain rfl:j=k:=by omega
       exact he)
     rw[<-he] at p0 p1;clear he;go_wp2_with fail;go_quiet (fail);go_wp2;exact⟨⟨k+1,by omega,by go_num,hide (below_drewN HB.out _),HE2⟩,by simp[intOf];omega⟩
    ·have HR:Hid (decide (l=l')=false):=hide (by simp;intro e;exact he (by simp[e]));have hnn:((l[k]).nm.toList==(l'[k]).nm.toList&&(l[k]).da.toList==(l'[k]).da.toList)=false:=by
      rw[Bool.eq_false_iff];intro e;simp only[Bool.and_eq_true] at e;exact he (by
       have e1:=bT.1 e.1;have e2:=bT.1 e.2;revert e1 e2;cases l[k];cases l'[k];simp_all)
     clear he;cases e1:((l[k]).nm.toList==(l'[k]).nm.toList)
     ·go_wp2_with fail;go_quiet (fail);go_wp2;go_ret;exact⟨by rw[HR.out];rfl,below_drewN HB.out _⟩
     ·rw[e1,Bool.true_and] at hnn;go_wp2_with fail;go_quiet (fail);go_wp2;go_ret;exact⟨by rw[HR.out];rfl,below_drewN HB.out _⟩
   ·have hk':¬ (k:Int)<(l.length:Int):=by omega
    have HR:Hid (decide (l=l')=true):=hide (by
     simp only[decide_eq_true_eq];have:=HLN.out;exact List.ext_getElem this (fun i h1 h2=>HE.out i h1 h2 (by omega)))
    go_wp2;go_ret;exact⟨by rw[HR.out];rfl,HB.out⟩
 ·have HR:Hid (decide (l=l')=false):=hide (by simp;intro e;exact hln (by rw[e]));have hln':((l.length:Int) != (l'.length:Int))=true:=by simp;omega
  go_enter func39,ntmps39;go_wp2;go_ret;exact⟨by rw[HR.out];rfl,Below.refl _ _⟩
theorem G8(o:Dp)(w:World)(hs:Bp o) :
  Calls prog 38 #[aj #[ae au o.kind,ag o.nm,ag o.tn,ag o.da]] w fun e w'=>e=.returned (.bool (fF o))/\Below w.heap.size w w':=by
 obtain⟨s1,s2,s3⟩:=hs;cases q0:eu 1 3 o.kind
 ·skip;have HR:Hid (fF o=_):=hide (by unfold fF;rw[q0]);go_enter func38,ntmps38;go_wp2_with (first|(go_at_call 66;refine(bz _ _ _ _).mono ?_;rintro e w'⟨rfl,hw'⟩;have hw'':=hw'.symm;subst hw'')|(go_at_call 63;refine(gW _ _ (by omega)).mono ?_;rintro e w'⟨rfl,hw'⟩;have hw'':=hw'.symm;subst hw'')|fail);go_ret;exact⟨by rw[HR.out];rfl,aF (Below.refl _ _) _⟩
 ·skip;cases q1:oW o.nm
  ·skip;have HR:Hid (fF o=_):=hide (by unfold fF;rw[q0,q1]);go_enter func38,ntmps38;go_wp2_with (first|(go_at_call 66;refine(bz _ _ _ _).mono ?_;rintro e w'⟨rfl,hw'⟩;have hw'':=hw'.symm;subst hw'')|(go_at_call 63;refine(gW _ _ (by omega)).mono ?_;rintro e w'⟨rfl,hw'⟩;have hw'':=hw'.symm;subst hw'')|fail);go_ret;exact⟨by rw[HR.out];rfl,aF (Below.refl _ _) _⟩
  ·skip;cases q2:(o.kind==2)
   ·skip;cases q5:o.tn.toList.isEmpty
    ·skip;have HR:Hid (fF o=_):=hide (by unfold fF;rw[q0,q1,q2,show qU o.tn=_ from q5]);go_enter func38,ntmps38;go_wp2_with (first|(go_at_call 66;refine(bz _ _ _ _).mono ?_;rintro e w'⟨rfl,hw'⟩;have hw'':=hw'.symm;subst hw'')|(go_at_call 63;refine(gW _ _ (by omega)).mono ?_;rintro e w'⟨rfl,hw'⟩;have hw'':=hw'.symm;subst hw'')|fail);go_ret;exact⟨by rw[HR.out];rfl,aF (Below.refl _ _) _⟩
    ·skip;cases q6:(o.kind==1)
     ·skip;cases q4:o.da.toList.isEmpty;skip
      rotate_left
      skip
      all_goals
       have HR:Hid (fF o=_):=hide (by unfold fF;rw[q0,q1,q2,show qU o.tn=_ from q5,q6,show qU o.da=_ from q4]);go_enter func38,ntmps38;go_wp2_with (first|(go_at_call 66;refine(bz _ _ _ _).mono ?_;rintro e w'⟨rfl,hw'⟩;have hw'':=hw'.symm;subst hw'')|(go_at_call 63;refine(gW _ _ (by omega)).mono ?_;rintro e w'⟨rfl,hw'⟩;have hw'':=hw'.symm;subst hw'')|fail);go_ret;exact⟨by rw[HR.out];rfl,aF (Below.refl _ _) _⟩
     ·skip;have HR:Hid (fF o=_):=hide (by unfold fF;rw[q0,q1,q2,show qU o.tn=_ from q5,q6]);go_enter func38,ntmps38;go_wp2_with (first|(go_at_call 66;refine(bz _ _ _ _).mono ?_;rintro e w'⟨rfl,hw'⟩;have hw'':=hw'.symm;subst hw'')|(go_at_call 63;refine(gW _ _ (by omega)).mono ?_;rintro e w'⟨rfl,hw'⟩;have hw'':=hw'.symm;subst hw'')|fail);go_ret;exact⟨by rw[HR.out];rfl,aF (Below.refl _ _) _⟩
   ·skip;cases q3:oW o.tn
    ·skip;have HR:Hid (fF o=_):=hide (by unfold fF;rw[q0,q1,q2,q3]);go_enter func38,ntmps38;go_wp2_with (first|(go_at_call 66;refine(bz _ _ _ _).mono ?_;rintro e w'⟨rfl,hw'⟩;have hw'':=hw'.symm;subst hw'')|(go_at_call 63;refine(gW _ _ (by omega)).mono ?_;rintro e w'⟨rfl,hw'⟩;have hw'':=hw'.symm;subst hw'')|fail);go_ret;exact⟨by rw[HR.out];rfl,aF (Below.refl _ _) _⟩
    ·skip;cases q4:o.da.toList.isEmpty;skip
     rotate_left
     skip
     all_goals
      have HR:Hid (fF o=_):=hide (by unfold fF;rw[q0,q1,q2,q3,show qU o.da=_ from q4]);go_enter func38,ntmps38;go_wp2_with (first|(go_at_call 66;refine(bz _ _ _ _).mono ?_;rintro e w'⟨rfl,hw'⟩;have hw'':=hw'.symm;subst hw'')|(go_at_call 63;refine(gW _ _ (by omega)).mono ?_;rintro e w'⟨rfl,hw'⟩;have hw'':=hw'.symm;subst hw'')|fail);go_ret;exact⟨by rw[HR.out];rfl,aF (Below.refl _ _) _⟩
theorem sM{l:List Fl}{nm:ByteArray}{k:Nat}(h:yC l nm=some k)(hk:k<l.length):nM l nm=(l[k]).da:=by
 unfold nM;rw[h];simp only[List.getElem?_eq_getElem hk]
def Rv(l:List Fl)(o:Dp)(w:World)(e:Ending)(w':World):Prop:=Below w.heap.size w w'/\∃v,e=.returned (.tuple #[v,.bool (kr l o).2])/\w'.ownsRow w.heap.size 93 2 v (kr l o).1.length ((kr l o).1.flatMap aW)
theorem uN{l:List Fl}{w w':World}{base:Nat}{v:Value}(h:w'.ownsRow base 93 2 v l.length (l.flatMap aW))(hb:w.heap.size<=base):w'.ownsRow w.heap.size 93 2 v l.length (l.flatMap aW):=by
 obtain⟨hl,h0|⟨g,cap,cur,h1,hg,r⟩⟩:=h
 ·exact⟨hl,.inl h0⟩
 ·exact⟨hl,.inr ⟨g,cap,cur,h1,Nat.le_trans hb hg,r⟩⟩
abbrev PR(p q:Addr)(u v:Value)(W x:World):Prop:=x.cell? p=some u/\x.cell? q=some v/\Hid (Below W.heap.size W x)
theorem PR.of{p q:Addr}{u v:Value}{W x:World}(h1:W.cell? p=some u)(h2:W.cell? q=some v)(b:Below W.heap.size W x):PR p q u v W x:=⟨aN b _ _ h1,aN b _ _ h2,hide b⟩
theorem PR.on{p q:Addr}{u v:Value}{W x y:World}(h:PR p q u v W x)(b:Below x.heap.size x y):PR p q u v W y:=⟨aN b _ _ h.1,aN b _ _ h.2.1,hide (aJ h.2.2.out b)⟩
theorem M4(a:Option Addr)(l:List Fl)(cap:Nat)(o:Dp)(w:World)(hl:l.length<=400)(hcap:a=none->cap=0)(hs:SK l)(ho:Bp o)(h:bu 2 aW w a l) :
  Calls prog 37 #[af a l.length cap,aj #[ae au o.kind,ag o.nm,ag o.tn,ag o.da]] w fun e w'=>Rv l o w e w':=by
 have HC:=hide h;have HS:=hide hs;have HO:=hide ho;have HCP:=hide hcap;obtain⟨s1,s2,s3⟩:=ho;clear h hs hcap;obtain⟨i0,hi0,hz0,hz1,hz2⟩:=info_parts Fb;have hu:=Tn;have HB0:Hid (Below w.heap.size w (w.alloc (.cells #[ae au o.kind,ag o.nm,ag o.tn,ag o.da] 76))):=hide (aF (Below.refl _ _) _);have HC0:Hid (bu 2 aW (w.alloc (.cells #[ae au o.kind,ag o.nm,ag o.tn,ag o.da] 76)) a l):=hide (HC.below HB0.out);go_enter func37,ntmps37;go_wp2_with fail;refine(zL a l cap o.nm _ (by omega) HC0.out).mono ?_;rintro e w1⟨rfl,hw1⟩;have hsz1:w.heap.size<w1.heap.size:=by rw[hw1];simp
 have x0:w1.cell? ⟨w.heap.size,0,none⟩=some (ae au o.kind):=by rw[hw1];exact World.cell?_alloc_at _ _ _ _ rfl
 have x1:w1.cell? ⟨w.heap.size,1,none⟩=some (ag o.nm):=by rw[hw1];exact World.cell?_alloc_at _ _ _ _ rfl
 have x2:w1.cell? ⟨w.heap.size,2,none⟩=some (ag o.tn):=by rw[hw1];exact World.cell?_alloc_at _ _ _ _ rfl
 have x3:w1.cell? ⟨w.heap.size,3,none⟩=some (ag o.da):=by rw[hw1];exact World.cell?_alloc_at _ _ _ _ rfl
 have HB1:Hid (Below w.heap.size w w1):=hide (by rw[hw1];exact HB0.out);have HC1:Hid (bu 2 aW w1 a l):=hide (by rw[hw1];exact HC0.out);have HS1:Hid (w.heap.size<=w1.heap.size):=hide (Nat.le_of_lt hsz1);clear hw1 HB0 HC0
 cases hat:yC l o.nm with
 | none =>
  cases q1:(o.kind==1)
  ·have HE:Hid (kr l o=(l,false)):=hide (by simp[kr,q1,hat]);simp only[yO];go_wp2_with (first|(at_builtin;refine bI.mk ?_)|fail);refine bI.mk' ?_;refine bU rfl _ _ 34 rfl w.heap.size 93 i0 _ 2 32 hu hi0 hz0 hz1 hz2 rfl (by decide) (af (some ⟨w1.heap.size,0,none⟩) 0 0) 0 [] rfl (World.ownsRow_made w1 #[] 0 HS1.out (by unfold maxLen;omega) rfl) a l.length cap (l.flatMap aW) rfl (eP aW 2 Cc l) (fun e=>⟨kJ HC1.out e,HCP.out e⟩) (bu.jD Cc (by decide) (HC1.below (aF (Below.refl _ _) _))) (QY l) (by unfold maxLen;omega) (by omega) (by have:=HS1.out;simp;omega) ?_;intro v2 w2 ho2 hg2 _;have HB2:Hid (Below w.heap.size w w2):=hide ((aF HB1.out _).grown hg2 (by have:=HS1.out;simp;omega) (fun j hj=>by
    simp only[Value.ownBlock,Option.some.injEq] at hj;have:=HS1.out;omega))
   have HO2:=hide ho2;clear ho2 hg2;go_wp2;exact bodyPost_ret (v:=.tuple #[v2,.bool false]) (by simp[results,results37,go_sem]) rfl ⟨HB2.out,v2,by rw[HE.out],by rw[HE.out];simpa using HO2.out⟩
  ·have HE:Hid (kr l o=(jA l o.nm o.da,true)):=hide (by simp[kr,wX,q1,hat]);simp only[yO];go_wp2_with fail;refine(wH a l cap o.nm o.da w1 (by omega) HC1.out).mono ?_;rintro e w2⟨hb2,v2,rfl,ho2⟩;have HB2:=hide (aJ HB1.out hb2);have HO2:=hide (uN ho2 HS1.out);clear hb2 ho2;go_wp2;exact bodyPost_ret (v:=.tuple #[v2,.bool true]) (by simp[results,results37,go_sem]) rfl ⟨HB2.out,v2,by rw[HE.out],by rw[HE.out];exact HO2.out⟩
 | some k =>
  obtain⟨hk,hnm⟩:=sO hat;have hda:=sM hat hk;obtain⟨b,off,rfl,hb,c0,c1⟩:=iL HC1.out k hk;have hk':(k:Int)<(l.length:Int):=by omega
  have s5:=(HS.out _ (List.getElem_mem hk)).2;cases q1:(o.kind==1)
  ·cases q2:(o.kind==2)
   ·have HE:Hid (kr l o=(iD l o.nm,true)):=hide (by simp[kr,q1,q2,hat]);simp only[yO];go_wp2_with fail;refine(BN _ l cap o.nm w1 (by omega) HC1.out).mono ?_;rintro e w2⟨hb2,v2,rfl,ho2⟩;have y0:w2.cell? ⟨w.heap.size,0,none⟩=some (ae au o.kind):=(hb2.cell hsz1).trans x0;have hsz2:w.heap.size<w2.heap.size:=Nat.lt_of_lt_of_le hsz1 hb2.size;have HB2:=hide (aJ HB1.out hb2);have HO2:=hide (uN ho2 HS1.out);clear hb2 ho2;go_wp2;exact bodyPost_ret (v:=.tuple #[v2,.bool true]) (by simp[results,results37,go_sem]) rfl ⟨HB2.out,v2,by rw[HE.out],by rw[HE.out];exact HO2.out⟩
   ·have HE:Hid (kr l o=(jA (iD l o.nm) o.tn (l[k]).da,true)):=hide (by simp[kr,q1,q2,hat,hda]);simp only[yO];go_wp2_with fail;refine(BN _ l cap o.nm w1 (by omega) HC1.out).mono ?_;rintro e w2⟨hb2,v2,rfl,ho2⟩;have y0:w2.cell? ⟨w.heap.size,0,none⟩=some (ae au o.kind):=(hb2.cell hsz1).trans x0;have y2:w2.cell? ⟨w.heap.size,2,none⟩=some (ag o.tn):=(hb2.cell hsz1).trans x2;have d1:w2.cell? ⟨b,off+k*2+1,none⟩=some (ag (l[k]).da):=(hb2.cell hb).trans c1;have hb':b<w2.heap.size:=Nat.lt_of_lt_of_le hb hb2.size;have hsz2:w.heap.size<w2.heap.size:=Nat.lt_of_lt_of_le hsz1 hb2.size;obtain⟨a2,c2,rfl,hr2,_⟩:=zx ho2;have HB2:=hide (aJ HB1.out hb2);have HR2:=hide hr2;have HCL:Hid ((iD l o.nm).length<=400):=hide (Nat.le_trans (Ar l o.nm) hl);have HWS:Hid (w.heap.size<=w2.heap.size):=hide (Nat.le_of_lt hsz2);clear hb2 ho2 hr2;have HPX:Hid (∀x,PR ⟨w.heap.size,2,none⟩ ⟨b,off+k*2+1,none⟩ (ag o.tn) (ag (l[k]).da) w2 x->Calls prog 64 #[af a2 (iD l o.nm).length c2,ag o.tn,ag (l[k]).da] x fun e w'=>Br (jA (iD l o.nm) o.tn (l[k]).da) x e w'):=hide (fun x hx=>wH a2 (iD l o.nm) c2 o.tn (l[k]).da x (by have:=HCL.out;omega) (HR2.below hx.2.2.out));go_wp2_with fail;go_region_held (fun x=>x.cell? ⟨w.heap.size,2,none⟩=some (ag o.tn)/\x.cell? ⟨b,off+k*2+1,none⟩=some (ag (l[k]).da)/\Hid (Below w2.heap.size w2 x))
     (first|with_reducible exact PR.of y2 d1 (Below.refl _ _).drew|with_reducible exact PR.on (by assumption) (by assumption)|with_reducible assumption)
     (first|(go_at_call 64;refine(HPX.out _ (by assumption)).mono ?_;rintro e w3⟨hb3,v3,rfl,ho3⟩))
    have HB3:Hid (Below w2.heap.size w2 w3):=(by assumption:PR ⟨w.heap.size,2,none⟩ ⟨b,off+k*2+1,none⟩ (ag o.tn) (ag (l[k]).da) w2 w3).2.2;have HO3:Hid (w3.ownsRow w.heap.size 93 2 v3 (jA (iD l o.nm) o.tn (l[k]).da).length ((jA (iD l o.nm) o.tn (l[k]).da).flatMap aW)):=hide (uN ho3 HWS.out);have HB4:Hid (Below w.heap.size w w3):=hide (aJ HB2.out HB3.out);clear hb3 ho3;go_wp2;exact bodyPost_ret (v:=.tuple #[v3,.bool true]) (by simp[results,results37,go_sem]) rfl ⟨HB4.out,v3,by rw[HE.out],by rw[HE.out];exact HO3.out⟩
  ·have HE:Hid (kr l o=(jA l o.nm ((l[k]).da++o.da),true)):=hide (by simp[kr,wX,q1,hat,hda]);simp only[yO];go_wp2_with fail;refine(wH _ l cap o.nm ((l[k]).da++o.da) w1 (by omega) HC1.out).mono ?_;rintro e w2⟨hb2,v2,rfl,ho2⟩;have HB2:=hide (aJ HB1.out hb2);have HO2:=hide (uN ho2 HS1.out);clear hb2 ho2;go_wp2;exact bodyPost_ret (v:=.tuple #[v2,.bool true]) (by simp[results,results37,go_sem]) rfl ⟨HB2.out,v2,by rw[HE.out],by rw[HE.out];exact HO2.out⟩
end Go.Proofs.YtdbmmdecclalgaaGreatDoor
