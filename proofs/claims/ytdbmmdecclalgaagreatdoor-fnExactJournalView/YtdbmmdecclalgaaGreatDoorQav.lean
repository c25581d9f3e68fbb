import Derived.Test.YtdbmmdecclalgaaGreatDoorQau
import Derived.Test.YtdbmmdecclalgaaGreatDoorQak
import Derived.Test.YtdbmmdecclalgaaGreatDoorQat
namespace Go.Proofs.YtdbmmdecclalgaaGreatDoor
open Go.Value renaming int → ae, string → ag, agg → aj
open Go.IntKind renaming i64 → au
open Go.Proofs.Tryz Go.ChangeShapes Go.WideShapes Go.ChangeAt Go.RowKit
set_option linter.unusedVariables false
set_option maxRecDepth 100000
set_option maxHeartbeats 16000000
def mP(b:List UInt8)(j k:Int):Prop:=(1<=k/\k<j/\dm k=b)\/((∀m:Int,1<=m->m<j->dm m≠b)/\k=0)
theorem mP.hit{b:List UInt8}{j:Int}(h1:1<=j)(h:dm j=b):mP b (j+1) j:=.inl ⟨h1,by omega,h⟩
theorem mP.miss{b:List UInt8}{j k:Int}(h:mP b j k)(hn:dm j≠b):mP b (j+1) k:=by
 rcases h with ⟨h1,h2,h3⟩|⟨h1,h2⟩
 ·exact .inl ⟨h1,by omega,h3⟩
 ·refine .inr ⟨fun m m1 m2=>?_,h2⟩;rcases Int.lt_or_le m j with q|q
  ·exact h1 m m1 q
  ·obtain rfl:m=j:=by omega
   exact hn
structure oV(ws:List (List UInt8))(c:Cm):Prop where
 a:∃x,ws[0]?=some x/\c.id=bL x
 b:∃x,ws[1]?=some x/\mP x 6 c.kind
 c3:ws.length=3->∃x,ws[2]?=some x/\c.ref=bL x
 n3:ws.length≠3->c.ref=0
 c5:ws.length=5->∃x y z,ws[2]?=some x/\ws[3]?=some y/\ws[4]?=some z/\c.fr=bs x/\c.«to»=bs y/\c.am=bL z
 n5:ws.length≠5->c.fr=⟨#[]⟩/\c.«to»=⟨#[]⟩/\c.am=0
def Cm.T(c:Cm):List UInt8:=lU c.id c.kind c.fr c.«to» c.am c.ref
def Qr(l:List UInt8)(w:World)(e:Ending)(w':World):Prop :=
 Below w.heap.size w w'/\((∃c,(3<=(bG l).length/\oV (bG l) c/\c.T=l)/\e=.returned (.tuple #[c.v,.bool true])) \/
  (((bG l).length<3\/∃c,oV (bG l) c/\c.T≠l)/\e=.returned (.tuple #[aj #[ae au 0,ae au 0,ag ⟨#[]⟩,ag ⟨#[]⟩,ae au 0,ae au 0],.bool false])))
theorem pK{w w1 x:World}{A:Nat}(b:Below w.heap.size w w1)(h:Fr [A] w1 x)(hA:w.heap.size<=A):Below w.heap.size w x:=by
 have hs:=b.size;refine⟨h.os.trans b.os,h.tape.trans b.tape,h.output.trans b.output,Nat.le_trans hs h.size,fun i hi=>?_⟩;rw[h.block i (by omega) (by simp;omega)];exact b.block i hi
theorem Gn(l:List UInt8)(w:World)(hs:l.length<=1048576)(h3:3<=(bG l).length) :
  Calls prog 45 #[ag (bs l)] w fun e w'=>Qr l w e w':=by
 have hbd:∀x∈bG l,x.length<=1048576:=fun x hx=>Nat.le_trans (fG l x hx) hs
 obtain⟨ws,hws⟩:∃ws,ws=bG l:=⟨_,rfl⟩;have HWe:Hid (bG l=ws):=hide hws.symm;rw[<-hws] at h3 hbd;clear hws;obtain⟨a,b,c3,rest,hw⟩:∃a b c r,ws=a::b::c::r:=by
  match ws,h3 with
  | a::b::c::r,_=>exact⟨a,b,c,r,rfl⟩
 have HWx:Hid (ws=a::b::c3::rest):=hide hw;have HBd:=hide hbd;obtain⟨m,hm⟩:∃m,m=ws.length:=⟨_,rfl⟩;have HM:Hid (ws.length=m):=hide hm.symm;rw[<-hm] at h3;clear hm hw hbd;have hm0:0<m:=by omega
 have hm1:(1:Int)<(m:Int):=by omega
 have hm2:(2:Int)<(m:Int):=by omega
 have hm3:¬ (m:Int)<3:=by omega
 go_enter func45,ntmps45;go_wp2_with fail;refine Lg (fun W0 hW0=>?_);have HP0:Hid (Pool [] w [[blk w.heap.size [ae au 0,ae au 0,ag ⟨#[]⟩,ag ⟨#[]⟩,ae au 0,ae au 0]]] W0):=hide (by
  have p1:=(Pool.start w [[]] rfl).aY (i:=0) rfl [ae au 0,ae au 0,ag ⟨#[]⟩,ag ⟨#[]⟩,ae au 0,ae au 0] 88;rw[hW0];exact p1)
 have HSz:Hid (W0.heap.size=w.heap.size+1):=hide (by rw[hW0];simp);clear hW0;obtain⟨A,hA⟩:∃A,A=w.heap.size:=⟨_,rfl⟩;have HA:Hid (A=w.heap.size):=hide hA;rw[<-hA] at HP0;rw[<-hA];clear hA;refine(ow l W0 hs).mono ?_;rintro e w1⟨hb1,g,cap,rfl,hg,hc⟩;rw[HWe.out,HM.out];rw[HWe.out] at hc;have HWs:=hide hc;have HGA:Hid (g ∉ [A]):=hide (by have:=HSz.out;have:=HA.out;simp;omega);have HGl:Hid (g<w1.heap.size):=hide (dO (hc 0 a (by rw[HWx.out];rfl)));have HB1:Hid (Below w.heap.size w w1):=hide (aJ HP0.below hb1);have HP1:Hid (Pool [A] w1 [[blk A [ae au 0,ae au 0,ag ⟨#[]⟩,ag ⟨#[]⟩,ae au 0,ae au 0]],[],[]] w1):=hide ((Pool.of (Star.ou ((HP0.aB (i:=0) rfl).below hb1))).cast (by simp));clear hb1 hc hg HP0;have HW0:Hid (∀x,Fr [A] w1 x->x.cell? ⟨g,0,none⟩=some (ag (bs a))):=hide (fun x hx=>(hx.cell (p:=⟨g,0,none⟩) HGl.out HGA.out).trans (HWs.out 0 a (by rw[HWx.out];rfl)));have HW1:Hid (∀x,Fr [A] w1 x->x.cell? ⟨g,1,none⟩=some (ag (bs b))):=hide (fun x hx=>(hx.cell (p:=⟨g,1,none⟩) HGl.out HGA.out).trans (HWs.out 1 b (by rw[HWx.out];rfl)));have HW2:Hid (∀x,Fr [A] w1 x->x.cell? ⟨g,2,none⟩=some (ag (bs c3))):=hide (fun x hx=>(hx.cell (p:=⟨g,2,none⟩) HGl.out HGA.out).trans (HWs.out 2 c3 (by rw[HWx.out];rfl)));have s_0:=HW0.out w1 (Fr.refl _ _);go_wp2_with fail;refine(jK (bs a) _ (by rw[bD];have:=HBd.out a (by rw[HWx.out];simp);unfold maxLen;omega)).mono ?_;rintro e w2⟨rfl,hw2⟩;rw[hw2,bS];clear hw2 w2 s_0;obtain⟨n,hn⟩:∃n,n=bL a:=⟨_,rfl⟩;have HN:Hid (n=bL a):=hide hn;rw[<-hn];clear hn;go_upto_region 5 with fail
 refine bg (fun W3 hW3=>?_);obtain⟨C,hC⟩:∃C,C=w1.heap.size:=⟨_,rfl⟩;have HP3:Hid (Pool [A] w1 [[blk A [ae au 0,ae au 0,ag ⟨#[]⟩,ag ⟨#[]⟩,ae au 0,ae au 0]],[blk C [ae au n,ae au 0,ag ⟨#[]⟩,ag ⟨#[]⟩,ae au 0,ae au 0]],[]] W3):=hide (by
  have p1:=HP1.aY (i:=1) rfl [ae au n,ae au 0,ag ⟨#[]⟩,ag ⟨#[]⟩,ae au 0,ae au 0] 88;rw[<-hC] at p1;rw[hW3];exact p1)
 rw[<-hC];clear hW3 HP1 hC;go_upto_region 6 with fail
 refine bg (fun W4 hW4=>?_);obtain⟨K,hK⟩:∃K,K=W3.heap.size:=⟨_,rfl⟩;have HP4:Hid (Pool [A] w1 [[blk A [ae au 0,ae au 0,ag ⟨#[]⟩,ag ⟨#[]⟩,ae au 0,ae au 0]],[blk C [ae au n,ae au 0,ag ⟨#[]⟩,ag ⟨#[]⟩,ae au 0,ae au 0]],[blk K [ag ⟨#[]⟩,ag ⟨#[111,112,101,110]⟩,ag ⟨#[112,111,115,116]⟩,ag ⟨#[104,111,108,100]⟩,ag ⟨#[116,97,107,101]⟩,ag ⟨#[100,114,111,112]⟩]]] W4):=hide (by
  have p1:=HP3.aY (i:=2) rfl [ag ⟨#[]⟩,ag ⟨#[111,112,101,110]⟩,ag ⟨#[112,111,115,116]⟩,ag ⟨#[104,111,108,100]⟩,ag ⟨#[116,97,107,101]⟩,ag ⟨#[100,114,111,112]⟩] 9;rw[<-hK] at p1;rw[hW4];exact p1)
 rw[<-hK];clear hW4 HP3 hK;go_wp2_with fail;go_loopw [7] (fun i wr=>∃j:Int,(j=1\/j=2\/j=3\/j=4\/j=5\/j=6)/\i=ae au j/\Hid (∃k,mP b j k/\Pool [A] w1 [[blk A [ae au 0,ae au 0,ag ⟨#[]⟩,ag ⟨#[]⟩,ae au 0,ae au 0]],[blk C [ae au n,ae au k,ag ⟨#[]⟩,ag ⟨#[]⟩,ae au 0,ae au 0]],[blk K [ag ⟨#[]⟩,ag ⟨#[111,112,101,110]⟩,ag ⟨#[112,111,115,116]⟩,ag ⟨#[104,111,108,100]⟩,ag ⟨#[116,97,107,101]⟩,ag ⟨#[100,114,111,112]⟩]]] wr)) (fun i wr=>(6-intOf i).toNat)
 case atStart=>exact⟨1,.inl rfl,rfl,hide ⟨0,.inr ⟨fun m h1 h2=>by omega,rfl⟩,HP4.out⟩⟩
 case round =>
  clear HP4;obtain⟨j,hj,rfl,HQ⟩:=hrel;rename World=>wr
  obtain⟨k,hk,hp⟩:=HQ.out;have HK:=hide hk;have HP:Hid (Pool [A] w1 [[blk A [ae au 0,ae au 0,ag ⟨#[]⟩,ag ⟨#[]⟩,ae au 0,ae au 0]],[blk C [ae au n,ae au k,ag ⟨#[]⟩,ag ⟨#[]⟩,ae au 0,ae au 0]],[blk K [ag ⟨#[]⟩,ag ⟨#[111,112,101,110]⟩,ag ⟨#[112,111,115,116]⟩,ag ⟨#[104,111,108,100]⟩,ag ⟨#[116,97,107,101]⟩,ag ⟨#[100,114,111,112]⟩]]] wr):=hide hp;clear hk hp HQ;rcases hj with rfl|rfl|rfl|rfl|rfl|rfl
  ·have t_1:=HW1.out wr HP.fr;have t_2:=(HP.aB (i:=2) rfl).c 1 _ rfl;have e_1:=(HP.aB (i:=1) rfl).c 1 _ rfl;have f_1:=(HP.aB (i:=1) rfl).f 1;have hq0:((bs b).toList==(jX 1).toList)=(b==dm 1):=mi _ _;obtain⟨y,hy⟩:∃y,y=bs b:=⟨_,rfl⟩;obtain⟨x,hx⟩:∃x,x=jX 1:=⟨_,rfl⟩;rw[<-hy] at t_1 hq0;rw[<-hx] at hq0;have t_3:wr.cell? ⟨K,1,none⟩=some (ag x):=by rw[hx];exact t_2
   have HQ0:=hide hq0;clear hy hx t_2 hq0;cases q:(y.toList==x.toList)
   ·have HS:Hid (mP b 2 k):=hide (HK.miss (fun e=>by
     have z:(b==dm 1)=false:=HQ0.out▸q;rw[e] at z;simp at z))
    go_wp2_with fail;go_quiet (fail);go_wp2;exact⟨⟨2,by omega,by go_num,hide ⟨k,HS.out,HP.keep (below_drewN (Below.refl _ _) _)⟩⟩,by simp[intOf]⟩
   ·have HS:Hid (mP b 2 1):=hide (mP.hit (j:=1) (by omega) (by
     have z:(b==dm 1)=true:=HQ0.out▸q;exact(beq_iff_eq.1 z).symm))
    go_wp2_with fail;go_quiet (fail);go_wp2;exact⟨⟨2,by omega,by go_num,hide ⟨1,HS.out,(HP.keep (below_drewN (Below.refl _ _) _)).aQ (i:=1) rfl 1 (ae au 1) (by simp)⟩⟩,by simp[intOf]⟩
  ·have t_1:=HW1.out wr HP.fr;have t_2:=(HP.aB (i:=2) rfl).c 2 _ rfl;have e_1:=(HP.aB (i:=1) rfl).c 1 _ rfl;have f_1:=(HP.aB (i:=1) rfl).f 1;have hq0:((bs b).toList==(jX 2).toList)=(b==dm 2):=mi _ _;obtain⟨y,hy⟩:∃y,y=bs b:=⟨_,rfl⟩;obtain⟨x,hx⟩:∃x,x=jX 2:=⟨_,rfl⟩;rw[<-hy] at t_1 hq0;rw[<-hx] at hq0;have t_3:wr.cell? ⟨K,2,none⟩=some (ag x):=by rw[hx];exact t_2
   have HQ0:=hide hq0;clear hy hx t_2 hq0;cases q:(y.toList==x.toList)
   ·have HS:Hid (mP b 3 k):=hide (HK.miss (fun e=>by
     have z:(b==dm 2)=false:=HQ0.out▸q;rw[e] at z;simp at z))
    go_wp2_with fail;go_quiet (fail);go_wp2;exact⟨⟨3,by omega,by go_num,hide ⟨k,HS.out,HP.keep (below_drewN (Below.refl _ _) _)⟩⟩,by simp[intOf]⟩
   ·have HS:Hid (mP b 3 2):=hide (mP.hit (j:=2) (by omega) (by
     have z:(b==dm 2)=true:=HQ0.out▸q;exact(beq_iff_eq.1 z).symm))
    go_wp2_with fail;go_quiet (fail);go_wp2;exact⟨⟨3,by omega,by go_num,hide ⟨2,HS.out,(HP.keep (below_drewN (Below.refl _ _) _)).aQ (i:=1) rfl 1 (ae au 2) (by simp)⟩⟩,by simp[intOf]⟩
  ·have t_1:=HW1.out wr HP.fr;have t_2:=(HP.aB (i:=2) rfl).c 3 _ rfl;have e_1:=(HP.aB (i:=1) rfl).c 1 _ rfl;have f_1:=(HP.aB (i:=1) rfl).f 1;have hq0:((bs b).toList==(jX 3).toList)=(b==dm 3):=mi _ _;obtain⟨y,hy⟩:∃y,y=bs b:=⟨_,rfl⟩;obtain⟨x,hx⟩:∃x,x=jX 3:=⟨_,rfl⟩;rw[<-hy] at t_1 hq0;rw[<-hx] at hq0;have t_3:wr.cell? ⟨K,3,none⟩=some (ag x):=by rw[hx];exact t_2
   have HQ0:=hide hq0;clear hy hx t_2 hq0;cases q:(y.toList==x.toList)
   ·have HS:Hid (mP b 4 k):=hide (HK.miss (fun e=>by
     have z:(b==dm 3)=false:=HQ0.out▸q;rw[e] at z;simp at z))
    go_wp2_with fail;go_quiet (fail);go_wp2;exact⟨⟨4,by omega,by go_num,hide ⟨k,HS.out,HP.keep (below_drewN (Below.refl _ _) _)⟩⟩,by simp[intOf]⟩
   ·have HS:Hid (mP b 4 3):=hide (mP.hit (j:=3) (by omega) (by
     have z:(b==dm 3)=true:=HQ0.out▸q;exact(beq_iff_eq.1 z).symm))
    go_wp2_with fail;go_quiet (fail);go_wp2;exact⟨⟨4,by omega,by go_num,hide ⟨3,HS.out,(HP.keep (below_drewN (Below.refl _ _) _)).aQ (i:=1) rfl 1 (ae au 3) (by simp)⟩⟩,by simp[intOf]⟩
  ·have t_1:=HW1.out wr HP.fr;have t_2:=(HP.aB (i:=2) rfl).c 4 _ rfl;have e_1:=(HP.aB (i:=1) rfl).c 1 _ rfl;have f_1:=(HP.aB (i:=1) rfl).f 1;have hq0:((bs b).toList==(jX 4).toList)=(b==dm 4):=mi _ _;obtain⟨y,hy⟩:∃y,y=bs b:=⟨_,rfl⟩;obtain⟨x,hx⟩:∃x,x=jX 4:=⟨_,rfl⟩;rw[<-hy] at t_1 hq0;rw[<-hx] at hq0;have t_3:wr.cell? ⟨K,4,none⟩=some (ag x):=by rw[hx];exact t_2
   have HQ0:=hide hq0;clear hy hx t_2 hq0;cases q:(y.toList==x.toList)
   ·have HS:Hid (mP b 5 k):=hide (HK.miss (fun e=>by
     have z:(b==dm 4)=false:=HQ0.out▸q;rw[e] at z;simp at z))
    go_wp2_with fail;go_quiet (fail);go_wp2;exact⟨⟨5,by omega,by go_num,hide ⟨k,HS.out,HP.keep (below_drewN (Below.refl _ _) _)⟩⟩,by simp[intOf]⟩
   ·have HS:Hid (mP b 5 4):=hide (mP.hit (j:=4) (by omega) (by
     have z:(b==dm 4)=true:=HQ0.out▸q;exact(beq_iff_eq.1 z).symm))
    go_wp2_with fail;go_quiet (fail);go_wp2;exact⟨⟨5,by omega,by go_num,hide ⟨4,HS.out,(HP.keep (below_drewN (Below.refl _ _) _)).aQ (i:=1) rfl 1 (ae au 4) (by simp)⟩⟩,by simp[intOf]⟩
  ·have t_1:=HW1.out wr HP.fr;have t_2:=(HP.aB (i:=2) rfl).c 5 _ rfl;have e_1:=(HP.aB (i:=1) rfl).c 1 _ rfl;have f_1:=(HP.aB (i:=1) rfl).f 1;have hq0:((bs b).toList==(jX 5).toList)=(b==dm 5):=mi _ _;obtain⟨y,hy⟩:∃y,y=bs b:=⟨_,rfl⟩;obtain⟨x,hx⟩:∃x,x=jX 5:=⟨_,rfl⟩;rw[<-hy] at t_1 hq0;rw[<-hx] at hq0;have t_3:wr.cell? ⟨K,5,none⟩=some (ag x):=by rw[hx];exact t_2
   have HQ0:=hide hq0;clear hy hx t_2 hq0;cases q:(y.toList==x.toList)
   ·have HS:Hid (mP b 6 k):=hide (HK.miss (fun e=>by
     have z:(b==dm 5)=false:=HQ0.out▸q;rw[e] at z;simp at z))
    go_wp2_with fail;go_quiet (fail);go_wp2;exact⟨⟨6,by omega,by go_num,hide ⟨k,HS.out,HP.keep (below_drewN (Below.refl _ _) _)⟩⟩,by simp[intOf]⟩
   ·have HS:Hid (mP b 6 5):=hide (mP.hit (j:=5) (by omega) (by
     have z:(b==dm 5)=true:=HQ0.out▸q;exact(beq_iff_eq.1 z).symm))
    go_wp2_with fail;go_quiet (fail);go_wp2;exact⟨⟨6,by omega,by go_num,hide ⟨5,HS.out,(HP.keep (below_drewN (Below.refl _ _) _)).aQ (i:=1) rfl 1 (ae au 5) (by simp)⟩⟩,by simp[intOf]⟩
  ·have HKd:Hid (mP b 6 k):=hide HK.out;clear HK;by_cases h3e:m=3
   ·have m3:((m:Int)==3)=true:=by simp;omega
    have m5:((m:Int)==5)=false:=by simp only[beq_eq_false_iff_ne,ne_eq];omega
    have t_2:=HW2.out wr HP.fr;go_wp2_with fail;refine(jK (bs c3) _ (by rw[bD];have:=HBd.out c3 (by rw[HWx.out];simp);unfold maxLen;omega)).mono ?_;rintro e w2⟨rfl,hw2⟩;rw[hw2,bS];clear hw2 w2 t_2;obtain⟨rf,hrf⟩:∃rf,rf=bL c3:=⟨_,rfl⟩;have HRf:Hid (rf=bL c3):=hide hrf;rw[<-hrf];clear hrf;have e_5:=(HP.aB (i:=1) rfl).c 5 _ rfl;have f_5:=(HP.aB (i:=1) rfl).f 5;go_upto_region 13 with fail
    refine bg (fun W9 hW9=>?_);have HP9:Hid (Pool [A] w1 [[blk A [ae au 0,ae au 0,ag ⟨#[]⟩,ag ⟨#[]⟩,ae au 0,ae au 0]],[blk C [ae au n,ae au k,ag ⟨#[]⟩,ag ⟨#[]⟩,ae au 0,ae au rf]],[blk K [ag ⟨#[]⟩,ag ⟨#[111,112,101,110]⟩,ag ⟨#[112,111,115,116]⟩,ag ⟨#[104,111,108,100]⟩,ag ⟨#[116,97,107,101]⟩,ag ⟨#[100,114,111,112]⟩]]] W9):=hide (by
     have p1:=HP.aQ (i:=1) rfl 5 (ae au rf) (by simp);rw[hW9];exact p1)
    clear hW9 HP e_5 f_5;obtain⟨⟨g0,g1,g2,g3,g4,g5⟩,_⟩:=HP9.dY (i:=1) rfl;have HCd:Hid (oV ws (⟨n,k,⟨#[]⟩,⟨#[]⟩,0,rf⟩:Cm)):=hide ⟨⟨a,by rw[HWx.out];rfl,HN.out⟩,⟨b,by rw[HWx.out];rfl,HKd.out⟩,fun _=>⟨c3,by rw[HWx.out];rfl,HRf.out⟩,fun e=>absurd (HM.trans h3e) e,fun e=>absurd (HM.symm.trans e) (by omega),fun _=>⟨rfl,rfl,rfl⟩⟩;go_wp2_with fail;refine(pY (⟨n,k,⟨#[]⟩,⟨#[]⟩,0,rf⟩:Cm).id (⟨n,k,⟨#[]⟩,⟨#[]⟩,0,rf⟩:Cm).kind (⟨n,k,⟨#[]⟩,⟨#[]⟩,0,rf⟩:Cm).fr (⟨n,k,⟨#[]⟩,⟨#[]⟩,0,rf⟩:Cm).«to» (⟨n,k,⟨#[]⟩,⟨#[]⟩,0,rf⟩:Cm).am (⟨n,k,⟨#[]⟩,⟨#[]⟩,0,rf⟩:Cm).ref _ (by show (⟨#[]⟩:ByteArray).size<=maxLen;decide) (by show (⟨#[]⟩:ByteArray).size<=maxLen;decide)).mono ?_;rintro e w8⟨rfl,hb8⟩;have HP8:=hide (HP9.keep hb8);clear hb8 HP9 g0 g1 g2 g3 g4 g5;obtain⟨⟨g0,g1,g2,g3,g4,g5⟩,_⟩:=HP8.dY (i:=1) rfl;obtain⟨⟨z0,z1,z2,z3,z4,z5⟩,y0,y1,y2,y3,y4,y5⟩:=HP8.dY (i:=0) rfl;obtain⟨T,hT⟩:∃T,T=Cm.T (⟨n,k,⟨#[]⟩,⟨#[]⟩,0,rf⟩:Cm):=⟨_,rfl⟩;have HT:Hid (T=Cm.T (⟨n,k,⟨#[]⟩,⟨#[]⟩,0,rf⟩:Cm)):=hide hT;have hT2:bs (lU (⟨n,k,⟨#[]⟩,⟨#[]⟩,0,rf⟩:Cm).id (⟨n,k,⟨#[]⟩,⟨#[]⟩,0,rf⟩:Cm).kind (⟨n,k,⟨#[]⟩,⟨#[]⟩,0,rf⟩:Cm).fr (⟨n,k,⟨#[]⟩,⟨#[]⟩,0,rf⟩:Cm).«to» (⟨n,k,⟨#[]⟩,⟨#[]⟩,0,rf⟩:Cm).am (⟨n,k,⟨#[]⟩,⟨#[]⟩,0,rf⟩:Cm).ref)=bs T:=by rw[hT];rfl
    rw[hT2];clear hT hT2;have hq0:((bs T).toList==(bs l).toList)=(T==l):=mi _ _;cases q:(T==l)
    ·have q':((bs T).toList==(bs l).toList)=false:=by rw[hq0];exact q
     have HNe:Hid (T≠l):=hide (by simpa using q);clear q hq0;have p1:=HP8.Et (i:=0) rfl (ae au 0) (ae au 0) (ag ⟨#[]⟩) (ag ⟨#[]⟩) (ae au 0) (ae au 0);obtain⟨⟨x0,x1,x2,x3,x4,x5⟩,_⟩:=p1.dY (i:=0) rfl;have HB:=hide (pK HB1.out p1.fr (by rw[HA.out];exact Nat.le_refl _));clear p1;go_wp2_with fail;refine bodyPost_ret (v:=.tuple #[aj #[ae au 0,ae au 0,ag ⟨#[]⟩,ag ⟨#[]⟩,ae au 0,ae au 0],.bool false]) (by simp[results,results45,go_sem,x0,x1,x2,x3,x4,x5]) rfl ⟨HB.out,.inr ⟨.inr ⟨(⟨n,k,⟨#[]⟩,⟨#[]⟩,0,rf⟩:Cm),by rw[HWe.out];exact HCd.out,by rw[<-HT.out];exact HNe.out⟩,rfl⟩⟩
    ·have q':((bs T).toList==(bs l).toList)=true:=by rw[hq0];exact q
     have HEq:Hid (T=l):=hide (by simpa using q);clear q hq0;have p1:=HP8.Et (i:=0) rfl (ae au (⟨n,k,⟨#[]⟩,⟨#[]⟩,0,rf⟩:Cm).id) (ae au (⟨n,k,⟨#[]⟩,⟨#[]⟩,0,rf⟩:Cm).kind) (ag (⟨n,k,⟨#[]⟩,⟨#[]⟩,0,rf⟩:Cm).fr) (ag (⟨n,k,⟨#[]⟩,⟨#[]⟩,0,rf⟩:Cm).«to») (ae au (⟨n,k,⟨#[]⟩,⟨#[]⟩,0,rf⟩:Cm).am) (ae au (⟨n,k,⟨#[]⟩,⟨#[]⟩,0,rf⟩:Cm).ref);obtain⟨⟨x0,x1,x2,x3,x4,x5⟩,_⟩:=p1.dY (i:=0) rfl;have HB:=hide (pK HB1.out p1.fr (by rw[HA.out];exact Nat.le_refl _));clear p1;dsimp only at x0 x1 x2 x3 x4 x5;go_wp2_with fail;refine bodyPost_ret (v:=.tuple #[Cm.v (⟨n,k,⟨#[]⟩,⟨#[]⟩,0,rf⟩:Cm),.bool true]) (by simp[results,results45,go_sem,x0,x1,x2,x3,x4,x5,Cm.v]) rfl ⟨HB.out,.inl ⟨(⟨n,k,⟨#[]⟩,⟨#[]⟩,0,rf⟩:Cm),⟨by rw[HWe.out,HM.out];exact h3,by rw[HWe.out];exact HCd.out,by rw[<-HT.out];exact HEq.out⟩,rfl⟩⟩
   ·have m3:((m:Int)==3)=false:=by simp only[beq_eq_false_iff_ne,ne_eq];omega
    by_cases h5e:m=5
    ·have m5:((m:Int)==5)=true:=by simp;omega
     have hm3':(3:Int)<(m:Int):=by omega
     have hm4:(4:Int)<(m:Int):=by omega
     obtain⟨d,f,hdf⟩:∃d f,rest=[d,f]:=by
      have:=HM.out;rw[HWx.out] at this;simp only[List.length_cons] at this
      match rest,this with
      | [d,f],_=>exact⟨d,f,rfl⟩
      | [],h=>simp at h;omega
      | [_],h=>simp at h;omega
      | _::_::_::_,h=>simp at h;omega
     have HW5:Hid (ws=[a,b,c3,d,f]):=hide (by rw[HWx.out,hdf]);clear hdf;have HWd:Hid (∀x,Fr [A] w1 x->x.cell? ⟨g,3,none⟩=some (ag (bs d))):=hide (fun x hx=>(hx.cell (p:=⟨g,3,none⟩) HGl.out HGA.out).trans (HWs.out 3 d (by rw[HW5.out];rfl)));have HWf:Hid (∀x,Fr [A] w1 x->x.cell? ⟨g,4,none⟩=some (ag (bs f))):=hide (fun x hx=>(hx.cell (p:=⟨g,4,none⟩) HGl.out HGA.out).trans (HWs.out 4 f (by rw[HW5.out];rfl)));have t_2:=HW2.out wr HP.fr;have e_2:=(HP.aB (i:=1) rfl).c 2 _ rfl;have f_2:=(HP.aB (i:=1) rfl).f 2;go_upto_region 15 with fail
     refine bg (fun Wa hWa=>?_);have HPa:Hid (Pool [A] w1 [[blk A [ae au 0,ae au 0,ag ⟨#[]⟩,ag ⟨#[]⟩,ae au 0,ae au 0]],[blk C [ae au n,ae au k,ag (bs c3),ag ⟨#[]⟩,ae au 0,ae au 0]],[blk K [ag ⟨#[]⟩,ag ⟨#[111,112,101,110]⟩,ag ⟨#[112,111,115,116]⟩,ag ⟨#[104,111,108,100]⟩,ag ⟨#[116,97,107,101]⟩,ag ⟨#[100,114,111,112]⟩]]] Wa):=hide (by
      have p1:=HP.aQ (i:=1) rfl 2 (ag (bs c3)) (by simp);rw[hWa];exact p1)
     clear hWa HP e_2 f_2 t_2;have t_3:=HWd.out Wa HPa.fr;have e_3:=(HPa.aB (i:=1) rfl).c 3 _ rfl;have f_3:=(HPa.aB (i:=1) rfl).f 3;go_upto_region 16 with fail
     refine bg (fun Wb hWb=>?_);have HPb:Hid (Pool [A] w1 [[blk A [ae au 0,ae au 0,ag ⟨#[]⟩,ag ⟨#[]⟩,ae au 0,ae au 0]],[blk C [ae au n,ae au k,ag (bs c3),ag (bs d),ae au 0,ae au 0]],[blk K [ag ⟨#[]⟩,ag ⟨#[111,112,101,110]⟩,ag ⟨#[112,111,115,116]⟩,ag ⟨#[104,111,108,100]⟩,ag ⟨#[116,97,107,101]⟩,ag ⟨#[100,114,111,112]⟩]]] Wb):=hide (by
      have p1:=HPa.aQ (i:=1) rfl 3 (ag (bs d)) (by simp);rw[hWb];exact p1)
     clear hWb HPa e_3 f_3 t_3;have t_4:=HWf.out Wb HPb.fr;go_wp2_with fail;refine(jK (bs f) _ (by rw[bD];have:=HBd.out f (by rw[HW5.out];simp);unfold maxLen;omega)).mono ?_;rintro e w2⟨rfl,hw2⟩;rw[hw2,bS];clear hw2 w2 t_4;obtain⟨am,ham⟩:∃am,am=bL f:=⟨_,rfl⟩;have HAm:Hid (am=bL f):=hide ham;rw[<-ham];clear ham;have e_4:=(HPb.aB (i:=1) rfl).c 4 _ rfl;have f_4:=(HPb.aB (i:=1) rfl).f 4;go_upto_region 17 with fail
     refine bg (fun Wc hWc=>?_);have HPc:Hid (Pool [A] w1 [[blk A [ae au 0,ae au 0,ag ⟨#[]⟩,ag ⟨#[]⟩,ae au 0,ae au 0]],[blk C [ae au n,ae au k,ag (bs c3),ag (bs d),ae au am,ae au 0]],[blk K [ag ⟨#[]⟩,ag ⟨#[111,112,101,110]⟩,ag ⟨#[112,111,115,116]⟩,ag ⟨#[104,111,108,100]⟩,ag ⟨#[116,97,107,101]⟩,ag ⟨#[100,114,111,112]⟩]]] Wc):=hide (by
      have p1:=HPb.aQ (i:=1) rfl 4 (ae au am) (by simp);rw[hWc];exact p1)
     clear hWc HPb e_4 f_4;obtain⟨⟨g0,g1,g2,g3,g4,g5⟩,_⟩:=HPc.dY (i:=1) rfl;have HCd:Hid (oV ws (⟨n,k,bs c3,bs d,am,0⟩:Cm)):=hide ⟨⟨a,by rw[HWx.out];rfl,HN.out⟩,⟨b,by rw[HWx.out];rfl,HKd.out⟩,fun e=>absurd (HM.symm.trans e) (by omega),fun _=>rfl,fun _=>⟨c3,d,f,by rw[HW5.out];rfl,by rw[HW5.out];rfl,by rw[HW5.out];rfl,rfl,rfl,HAm.out⟩,fun e=>absurd (HM.trans h5e) e⟩;go_wp2_with fail;refine(pY (⟨n,k,bs c3,bs d,am,0⟩:Cm).id (⟨n,k,bs c3,bs d,am,0⟩:Cm).kind (⟨n,k,bs c3,bs d,am,0⟩:Cm).fr (⟨n,k,bs c3,bs d,am,0⟩:Cm).«to» (⟨n,k,bs c3,bs d,am,0⟩:Cm).am (⟨n,k,bs c3,bs d,am,0⟩:Cm).ref _ (by show (bs c3).size<=maxLen;rw[bD];have:=HBd.out c3 (by rw[HWx.out];simp);unfold maxLen;omega) (by show (bs d).size<=maxLen;rw[bD];have:=HBd.out d (by rw[HW5.out];simp);unfold maxLen;omega)).mono ?_;rintro e w8⟨rfl,hb8⟩;have HP8:=hide (HPc.keep hb8);clear hb8 HPc g0 g1 g2 g3 g4 g5;obtain⟨⟨g0,g1,g2,g3,g4,g5⟩,_⟩:=HP8.dY (i:=1) rfl;obtain⟨⟨z0,z1,z2,z3,z4,z5⟩,y0,y1,y2,y3,y4,y5⟩:=HP8.dY (i:=0) rfl;obtain⟨T,hT⟩:∃T,T=Cm.T (⟨n,k,bs c3,bs d,am,0⟩:Cm):=⟨_,rfl⟩;have HT:Hid (T=Cm.T (⟨n,k,bs c3,bs d,am,0⟩:Cm)):=hide hT;have hT2:bs (lU (⟨n,k,bs c3,bs d,am,0⟩:Cm).id (⟨n,k,bs c3,bs d,am,0⟩:Cm).kind (⟨n,k,bs c3,bs d,am,0⟩:Cm).fr (⟨n,k,bs c3,bs d,am,0⟩:Cm).«to» (⟨n,k,bs c3,bs d,am,0⟩:Cm).am (⟨n,k,bs c3,bs d,am,0⟩:Cm).ref)=bs T:=by rw[hT];rfl
     rw[hT2];clear hT hT2;have hq0:((bs T).toList==(bs l).toList)=(T==l):=mi _ _;cases q:(T==l)
     ·have q':((bs T).toList==(bs l).toList)=false:=by rw[hq0];exact q
      have HNe:Hid (T≠l):=hide (by simpa using q);clear q hq0;have p1:=HP8.Et (i:=0) rfl (ae au 0) (ae au 0) (ag ⟨#[]⟩) (ag ⟨#[]⟩) (ae au 0) (ae au 0);obtain⟨⟨x0,x1,x2,x3,x4,x5⟩,_⟩:=p1.dY (i:=0) rfl;have HB:=hide (pK HB1.out p1.fr (by rw[HA.out];exact Nat.le_refl _));clear p1;go_wp2_with fail;refine bodyPost_ret (v:=.tuple #[aj #[ae au 0,ae au 0,ag ⟨#[]⟩,ag ⟨#[]⟩,ae au 0,ae au 0],.bool false]) (by simp[results,results45,go_sem,x0,x1,x2,x3,x4,x5]) rfl ⟨HB.out,.inr ⟨.inr ⟨(⟨n,k,bs c3,bs d,am,0⟩:Cm),by rw[HWe.out];exact HCd.out,by rw[<-HT.out];exact HNe.out⟩,rfl⟩⟩
     ·have q':((bs T).toList==(bs l).toList)=true:=by rw[hq0];exact q
      have HEq:Hid (T=l):=hide (by simpa using q);clear q hq0;have p1:=HP8.Et (i:=0) rfl (ae au (⟨n,k,bs c3,bs d,am,0⟩:Cm).id) (ae au (⟨n,k,bs c3,bs d,am,0⟩:Cm).kind) (ag (⟨n,k,bs c3,bs d,am,0⟩:Cm).fr) (ag (⟨n,k,bs c3,bs d,am,0⟩:Cm).«to») (ae au (⟨n,k,bs c3,bs d,am,0⟩:Cm).am) (ae au (⟨n,k,bs c3,bs d,am,0⟩:Cm).ref);obtain⟨⟨x0,x1,x2,x3,x4,x5⟩,_⟩:=p1.dY (i:=0) rfl;have HB:=hide (pK HB1.out p1.fr (by rw[HA.out];exact Nat.le_refl _));clear p1;dsimp only at x0 x1 x2 x3 x4 x5;go_wp2_with fail;refine bodyPost_ret (v:=.tuple #[Cm.v (⟨n,k,bs c3,bs d,am,0⟩:Cm),.bool true]) (by simp[results,results45,go_sem,x0,x1,x2,x3,x4,x5,Cm.v]) rfl ⟨HB.out,.inl ⟨(⟨n,k,bs c3,bs d,am,0⟩:Cm),⟨by rw[HWe.out,HM.out];exact h3,by rw[HWe.out];exact HCd.out,by rw[<-HT.out];exact HEq.out⟩,rfl⟩⟩
    ·have m5:((m:Int)==5)=false:=by simp only[beq_eq_false_iff_ne,ne_eq];omega
     obtain⟨⟨g0,g1,g2,g3,g4,g5⟩,_⟩:=HP.dY (i:=1) rfl;have HCd:Hid (oV ws (⟨n,k,⟨#[]⟩,⟨#[]⟩,0,0⟩:Cm)):=hide ⟨⟨a,by rw[HWx.out];rfl,HN.out⟩,⟨b,by rw[HWx.out];rfl,HKd.out⟩,fun e=>absurd (HM.symm.trans e) (by omega),fun _=>rfl,fun e=>absurd (HM.symm.trans e) (by omega),fun _=>⟨rfl,rfl,rfl⟩⟩;go_wp2_with fail;refine(pY (⟨n,k,⟨#[]⟩,⟨#[]⟩,0,0⟩:Cm).id (⟨n,k,⟨#[]⟩,⟨#[]⟩,0,0⟩:Cm).kind (⟨n,k,⟨#[]⟩,⟨#[]⟩,0,0⟩:Cm).fr (⟨n,k,⟨#[]⟩,⟨#[]⟩,0,0⟩:Cm).«to» (⟨n,k,⟨#[]⟩,⟨#[]⟩,0,0⟩:Cm).am (⟨n,k,⟨#[]⟩,⟨#[]⟩,0,0⟩:Cm).ref _ (by show (⟨#[]⟩:ByteArray).size<=maxLen;decide) (by show (⟨#[]⟩:ByteArray).size<=maxLen;decide)).mono ?_;rintro e w8⟨rfl,hb8⟩;have HP8:=hide (HP.keep hb8);clear hb8 HP g0 g1 g2 g3 g4 g5;obtain⟨⟨g0,g1,g2,g3,g4,g5⟩,_⟩:=HP8.dY (i:=1) rfl;obtain⟨⟨z0,z1,z2,z3,z4,z5⟩,y0,y1,y2,y3,y4,y5⟩:=HP8.dY (i:=0) rfl;obtain⟨T,hT⟩:∃T,T=Cm.T (⟨n,k,⟨#[]⟩,⟨#[]⟩,0,0⟩:Cm):=⟨_,rfl⟩;have HT:Hid (T=Cm.T (⟨n,k,⟨#[]⟩,⟨#[]⟩,0,0⟩:Cm)):=hide hT;have hT2:bs (lU (⟨n,k,⟨#[]⟩,⟨#[]⟩,0,0⟩:Cm).id (⟨n,k,⟨#[]⟩,⟨#[]⟩,0,0⟩:Cm).kind (⟨n,k,⟨#[]⟩,⟨#[]⟩,0,0⟩:Cm).fr (⟨n,k,⟨#[]⟩,⟨#[]⟩,0,0⟩:Cm).«to» (⟨n,k,⟨#[]⟩,⟨#[]⟩,0,0⟩:Cm).am (⟨n,k,⟨#[]⟩,⟨#[]⟩,0,0⟩:Cm).ref)=bs T:=by rw[hT];rfl
     rw[hT2];clear hT hT2;have hq0:((bs T).toList==(bs l).toList)=(T==l):=mi _ _;cases q:(T==l)
     ·have q':((bs T).toList==(bs l).toList)=false:=by rw[hq0];exact q
      have HNe:Hid (T≠l):=hide (by simpa using q);clear q hq0;have p1:=HP8.Et (i:=0) rfl (ae au 0) (ae au 0) (ag ⟨#[]⟩) (ag ⟨#[]⟩) (ae au 0) (ae au 0);obtain⟨⟨x0,x1,x2,x3,x4,x5⟩,_⟩:=p1.dY (i:=0) rfl;have HB:=hide (pK HB1.out p1.fr (by rw[HA.out];exact Nat.le_refl _));clear p1;go_wp2_with fail;refine bodyPost_ret (v:=.tuple #[aj #[ae au 0,ae au 0,ag ⟨#[]⟩,ag ⟨#[]⟩,ae au 0,ae au 0],.bool false]) (by simp[results,results45,go_sem,x0,x1,x2,x3,x4,x5]) rfl ⟨HB.out,.inr ⟨.inr ⟨(⟨n,k,⟨#[]⟩,⟨#[]⟩,0,0⟩:Cm),by rw[HWe.out];exact HCd.out,by rw[<-HT.out];exact HNe.out⟩,rfl⟩⟩
     ·have q':((bs T).toList==(bs l).toList)=true:=by rw[hq0];exact q
      have HEq:Hid (T=l):=hide (by simpa using q);clear q hq0;have p1:=HP8.Et (i:=0) rfl (ae au (⟨n,k,⟨#[]⟩,⟨#[]⟩,0,0⟩:Cm).id) (ae au (⟨n,k,⟨#[]⟩,⟨#[]⟩,0,0⟩:Cm).kind) (ag (⟨n,k,⟨#[]⟩,⟨#[]⟩,0,0⟩:Cm).fr) (ag (⟨n,k,⟨#[]⟩,⟨#[]⟩,0,0⟩:Cm).«to») (ae au (⟨n,k,⟨#[]⟩,⟨#[]⟩,0,0⟩:Cm).am) (ae au (⟨n,k,⟨#[]⟩,⟨#[]⟩,0,0⟩:Cm).ref);obtain⟨⟨x0,x1,x2,x3,x4,x5⟩,_⟩:=p1.dY (i:=0) rfl;have HB:=hide (pK HB1.out p1.fr (by rw[HA.out];exact Nat.le_refl _));clear p1;dsimp only at x0 x1 x2 x3 x4 x5;go_wp2_with fail;refine bodyPost_ret (v:=.tuple #[Cm.v (⟨n,k,⟨#[]⟩,⟨#[]⟩,0,0⟩:Cm),.bool true]) (by simp[results,results45,go_sem,x0,x1,x2,x3,x4,x5,Cm.v]) rfl ⟨HB.out,.inl ⟨(⟨n,k,⟨#[]⟩,⟨#[]⟩,0,0⟩:Cm),⟨by rw[HWe.out,HM.out];exact h3,by rw[HWe.out];exact HCd.out,by rw[<-HT.out];exact HEq.out⟩,rfl⟩⟩
end Go.Proofs.YtdbmmdecclalgaaGreatDoor
