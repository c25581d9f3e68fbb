import Derived.Test.YtdbmmdecclalgaaGreatDoorQam
import Derived.Test.YtdbmmdecclalgaaGreatDoorQaf
import Derived.Test.YtdbmmdecclalgaaGreatDoorQae
import Derived.Test.YtdbmmdecclalgaaGreatDoorQaq
import Derived.Deep.QuietTactic
import Derived.BigQuiet
import Derived.Test.YtdbmmdecclalgaaGreatDoorQad
namespace Go.Proofs.YtdbmmdecclalgaaGreatDoor
open Go.Value renaming int → ae, string → ag, pointer → ai, agg → aj, slice → af
open Go.IntKind renaming i64 → au
open Go.Proofs.Tryz Go.ChangeShapes Go.WideShapes Go.ChangeAt Go.RowKit Go.Lib
set_option linter.unusedVariables false
set_option maxRecDepth 100000
set_option maxHeartbeats 8000000
theorem Cq(s:ByteArray)(w:World)(h:s.size<=1048576):Calls prog 111 #[ag s] w fun e w'=>e=.returned (ag s)/\Below w.heap.size w w':=by
 go_enter func111,ntmps111;go_wp2_with fail;refine(stringslite_Clone s w (by omega)).mono ?_;rintro e w1⟨rfl,hb⟩;have HB:=hide hb;clear hb;go_wp2;go_ret;exact⟨rfl,HB.out⟩
theorem qw(B:Nat)(r:List UInt8)(w:World)(h:jb B [ag (bs (32::r))] w)(hl:r.length<=1048576) :
  Calls prog 128 #[ai (some ⟨B,0,none⟩)] w fun e w'=>e=.returned (ag (bs (aX r)))/\jE B (bK r) w w':=by
 have HB:=hide (uR B r w h hl);have hs:=iQ r;clear h;go_enter func128,ntmps128;go_wp2_with fail;refine HB.mono ?_;rintro e w1⟨rfl,hr1⟩;have HR:=hide hr1;clear hr1 HB;go_wp2_with fail;refine(Cq _ _ (by rw[bD];omega)).mono ?_;rintro e w2⟨rfl,hb2⟩;have HR2:=hide (HR.below hb2);clear hb2;go_wp2_with fail;go_ret;exact⟨rfl,HR2.out⟩
theorem rz(B:Nat)(l:List UInt8)(t:TypeId)(v:Value)(w0 w:World)(E:Env t v w0)(h:Rg w0 B l w)(hn:l.head?≠some 32) :
  Calls prog 128 #[ai (some ⟨B,0,none⟩)] w fun e w'=>xm B t v w e w':=by
 have HB:=hide (CW B l t v w0 w E h hn);clear h E hn;go_enter func128,ntmps128;go_wp2_with fail;refine HB.mono ?_;rintro e w1⟨rfl,hr1⟩;have HR:=hide hr1;clear hr1 HB;unfold dx;go_wp2_with fail;exact⟨rfl,rfl,HR.out⟩
theorem ng(B:Nat)(r:List UInt8)(n:Int)(t:TypeId)(v:Value)(w0 w:World)(E:Env t v w0)(h:Rg w0 B (32::r) w)(hl:r.length<=1048576)(hn:jF (aX r) n) :
  Calls prog 127 #[ai (some ⟨B,0,none⟩)] w fun e w'=>e=.returned (ae au n)/\jE B (bK r) w w':=by
 have HB:=hide (uR B r w h.r hl);have HE:=hide E;have HG:=hide h;have HN:=hide hn;clear h E hn;go_enter func127,ntmps127;go_wp2_with fail;refine HB.mono ?_;rintro e w1⟨rfl,hr1⟩;have HR:=hide hr1;clear hr1 HB;go_wp2_with fail;refine(qo _ (aX r) n t v _ ((HG.mV HR.out).env HE.out) HN.out).mono ?_;rintro e w2⟨rfl,hb2⟩;have HR2:=hide (HR.below hb2);clear hb2;go_wp2_with fail;go_ret;exact⟨rfl,HR2.out⟩
theorem nk(B:Nat)(r:List UInt8)(t:TypeId)(v:Value)(w0 w:World)(E:Env t v w0)(h:Rg w0 B (32::r) w)(hl:r.length<=1048576)(hn:∀n,¬ jF (aX r) n) :
  Calls prog 127 #[ai (some ⟨B,0,none⟩)] w fun e w'=>xm B t v w e w':=by
 have HB:=hide (uR B r w h.r hl);have HE:=hide E;have HG:=hide h;have HN:=hide hn;have hs:=iQ r;clear h E hn;go_enter func127,ntmps127;go_wp2_with fail;refine HB.mono ?_;rintro e w1⟨rfl,hr1⟩;have HR:=hide hr1;clear hr1 HB;go_wp2_with fail;refine(r9 _ (aX r) t v _ ((HG.mV HR.out).env HE.out) (by omega) HN.out).mono ?_;rintro e w2⟨rfl,hb2⟩;have HR2:=hide (HR.below hb2);clear hb2;unfold dx;go_wp2_with fail;exact⟨rfl,rfl,_,HR2.out⟩
theorem oK(B:Nat)(l:List UInt8)(t:TypeId)(v:Value)(w0 w:World)(E:Env t v w0)(h:Rg w0 B l w)(hn:l.head?≠some 32) :
  Calls prog 127 #[ai (some ⟨B,0,none⟩)] w fun e w'=>xm B t v w e w':=by
 have HB:=hide (CW B l t v w0 w E h hn);clear h E hn;go_enter func127,ntmps127;go_wp2_with fail;refine HB.mono ?_;rintro e w1⟨rfl,hr1⟩;have HR:=hide hr1;clear hr1 HB;unfold dx;go_wp2_with fail;exact⟨rfl,rfl,HR.out⟩
def PS(l:List UInt8)(t:TypeId)(v:Value)(w:World)(e:Ending)(w':World):Prop :=
 w'=w/\((∃k:Int,1<=k/\k<=5/\dm k=l/\e=.returned (ae au k))\/((∀k:Int,1<=k->k<=5->dm k≠l)/\e=dx t v))
theorem EX(k:Int)(l:List UInt8):((jX k).toList==(bs l).toList)=(dm k==l):=mi _ _
theorem M5(p:Value)(l:List UInt8)(t:TypeId)(v:Value)(w:World)(E:Env t v w) :
  Calls prog 124 #[p,ag (bs l)] w fun e w'=>PS l t v w e w':=by
 obtain⟨c1,c2,c3,c4,c5⟩:=E.words;have HE:=hide E;clear E;obtain⟨x1,hx1⟩:∃x,x=jX 1:=⟨_,rfl⟩;obtain⟨x2,hx2⟩:∃x,x=jX 2:=⟨_,rfl⟩;obtain⟨x3,hx3⟩:∃x,x=jX 3:=⟨_,rfl⟩;obtain⟨x4,hx4⟩:∃x,x=jX 4:=⟨_,rfl⟩;obtain⟨x5,hx5⟩:∃x,x=jX 5:=⟨_,rfl⟩;obtain⟨y,hy⟩:∃y,y=bs l:=⟨_,rfl⟩;rw[<-hx1] at c1;rw[<-hx2] at c2;rw[<-hx3] at c3;rw[<-hx4] at c4;rw[<-hx5] at c5;have k1:(x1.toList==y.toList)=(dm 1==l):=by rw[hx1,hy,EX]
 have k2:(x2.toList==y.toList)=(dm 2==l):=by rw[hx2,hy,EX]
 have k3:(x3.toList==y.toList)=(dm 3==l):=by rw[hx3,hy,EX]
 have k4:(x4.toList==y.toList)=(dm 4==l):=by rw[hx4,hy,EX]
 have k5:(x5.toList==y.toList)=(dm 5==l):=by rw[hx5,hy,EX]
 rw[<-hy];have K1:=hide k1;have K2:=hide k2;have K3:=hide k3;have K4:=hide k4;have K5:=hide k5;clear hx1 hx2 hx3 hx4 hx5 hy k1 k2 k3 k4 k5;go_enter func124,ntmps124;go_wp2_with fail;go_loop [5] (fun i=>∃j:Int,(j=1\/j=2\/j=3\/j=4\/j=5)/\i=ae au j/\Hid (∀m:Int,1<=m->m<j->dm m≠l)) (fun i=>(6-RowKit.intOf i).toNat)
 case atStart=>exact⟨1,.inl rfl,rfl,hide (fun m _ _=>by omega)⟩
 case round =>
  obtain⟨j,hj,rfl,HN⟩:=hrel;rcases hj with rfl|rfl|rfl|rfl|rfl
  ·cases q:(x1.toList==y.toList)
   ·have q':(dm 1==l)=false:=K1.out▸q;have HS:Hid (∀m:Int,1<=m->m<2->dm m≠l):=hide (fun m h1 h2=>by
     rcases Int.lt_or_le m 1 with z|z
     ·exact HN.out m h1 z
     ·obtain rfl:m=1:=by omega
      simpa using q')
    clear q';go_wp2_with fail;exact⟨⟨2,by omega,by go_num,HS⟩,by simp[RowKit.intOf]⟩
   ·have q':(dm 1==l)=true:=K1.out▸q;have HQ:Hid (dm 1=l):=hide (beq_iff_eq.1 q');clear q';go_wp2_with fail;refine(fA _ _).mono ?_;rintro e w2⟨rfl,hw⟩;rw[hw];clear hw;go_wp2_with fail;go_ret;exact⟨rfl,.inl ⟨1,by omega,by omega,HQ.out,rfl⟩⟩
  ·cases q:(x2.toList==y.toList)
   ·have q':(dm 2==l)=false:=K2.out▸q;have HS:Hid (∀m:Int,1<=m->m<3->dm m≠l):=hide (fun m h1 h2=>by
     rcases Int.lt_or_le m 2 with z|z
     ·exact HN.out m h1 z
     ·obtain rfl:m=2:=by omega
      simpa using q')
    clear q';go_wp2_with fail;exact⟨⟨3,by omega,by go_num,HS⟩,by simp[RowKit.intOf]⟩
   ·have q':(dm 2==l)=true:=K2.out▸q;have HQ:Hid (dm 2=l):=hide (beq_iff_eq.1 q');clear q';go_wp2_with fail;refine(fA _ _).mono ?_;rintro e w2⟨rfl,hw⟩;rw[hw];clear hw;go_wp2_with fail;go_ret;exact⟨rfl,.inl ⟨2,by omega,by omega,HQ.out,rfl⟩⟩
  ·cases q:(x3.toList==y.toList)
   ·have q':(dm 3==l)=false:=K3.out▸q;have HS:Hid (∀m:Int,1<=m->m<4->dm m≠l):=hide (fun m h1 h2=>by
     rcases Int.lt_or_le m 3 with z|z
     ·exact HN.out m h1 z
     ·obtain rfl:m=3:=by omega
      simpa using q')
    clear q';go_wp2_with fail;exact⟨⟨4,by omega,by go_num,HS⟩,by simp[RowKit.intOf]⟩
   ·have q':(dm 3==l)=true:=K3.out▸q;have HQ:Hid (dm 3=l):=hide (beq_iff_eq.1 q');clear q';go_wp2_with fail;refine(fA _ _).mono ?_;rintro e w2⟨rfl,hw⟩;rw[hw];clear hw;go_wp2_with fail;go_ret;exact⟨rfl,.inl ⟨3,by omega,by omega,HQ.out,rfl⟩⟩
  ·cases q:(x4.toList==y.toList)
   ·have q':(dm 4==l)=false:=K4.out▸q;have HS:Hid (∀m:Int,1<=m->m<5->dm m≠l):=hide (fun m h1 h2=>by
     rcases Int.lt_or_le m 4 with z|z
     ·exact HN.out m h1 z
     ·obtain rfl:m=4:=by omega
      simpa using q')
    clear q';go_wp2_with fail;exact⟨⟨5,by omega,by go_num,HS⟩,by simp[RowKit.intOf]⟩
   ·have q':(dm 4==l)=true:=K4.out▸q;have HQ:Hid (dm 4=l):=hide (beq_iff_eq.1 q');clear q';go_wp2_with fail;refine(fA _ _).mono ?_;rintro e w2⟨rfl,hw⟩;rw[hw];clear hw;go_wp2_with fail;go_ret;exact⟨rfl,.inl ⟨4,by omega,by omega,HQ.out,rfl⟩⟩
  ·cases q:(x5.toList==y.toList)
   ·have q':(dm 5==l)=false:=K5.out▸q;have HS:Hid (∀m:Int,1<=m->m<=5->dm m≠l):=hide (fun m h1 h2=>by
     rcases Int.lt_or_le m 5 with z|z
     ·exact HN.out m h1 z
     ·obtain rfl:m=5:=by omega
      simpa using q')
    clear q';go_wp2_with fail;refine(gK _ t v _ HE.out).mono ?_;rintro e w2⟨rfl,hw⟩;rw[hw];clear hw;unfold dx;go_wp2_with fail;exact⟨rfl,rfl,.inr ⟨HS.out,rfl⟩⟩
   ·have q':(dm 5==l)=true:=K5.out▸q;have HQ:Hid (dm 5=l):=hide (beq_iff_eq.1 q');clear q';go_wp2_with fail;refine(fA _ _).mono ?_;rintro e w2⟨rfl,hw⟩;rw[hw];clear hw;go_wp2_with fail;go_ret;exact⟨rfl,.inl ⟨5,by omega,by omega,HQ.out,rfl⟩⟩
theorem M9{a b:Int}(ha:-99999999999999<=a/\a<=99999999999999)(hb:-99999999999999<=b/\b<=99999999999999)(h:itoa a=itoa b):a=b:=by
 rw[<-(kL ha.1 ha.2).2,<-(kL hb.1 hb.2).2,h]
theorem jF.inj{l:List UInt8}{a b:Int}(h:jF l a)(k:jF l b):a=b:=M9 h.1 k.1 (h.2.trans k.2.symm)
theorem Pool.rd{B:Nat}{w x y:World}{l l':List UInt8}{S:List (List Rs)}(h:Pool [B] w ([blk B [ag (bs l)]]::S) x)(k:jE B l' x y):Pool [B] w ([blk B [ag (bs l')]]::S) y :=
 h.step (i:=0) (rs:=[blk B [ag (bs l)]]) (rs':=[blk B [ag (bs l')]]) rfl (by simpa[ic,blk] using k.2) (Star.ou k.1) (fun b hb=>.inl hb)
theorem Pool.iF{B:Nat}{w x:World}{l:List UInt8}{S:List (List Rs)}(h:Pool [B] w ([blk B [ag (bs l)]]::S) x):jE B l w x:=⟨h.aB (i:=0) rfl,h.fr⟩
theorem Pool.RP{F:List Nat}{w x:World}{S:List (List Rs)}(h:Pool F w S x){i b:Nat}{z0 z1:Value}(hi:S[i]?=some [blk b [z0,z1]])(v0 v1:Value) :
  Pool F w (S.set i [blk b [v0,v1]]) ((x.setCell ⟨b,0,none⟩ v0).setCell ⟨b,1,none⟩ v1):=by
 have hlen:i<S.length:=(List.getElem?_eq_some_iff.1 hi).1;have h0:=h.aQ (i:=i) hi 0 v0 (by simp);have h1:=h0.aQ (i:=i) (by rw[List.getElem?_set_self (by simpa using hlen)]) 1 v1 (by simp);simpa[List.set_set] using h1
theorem Pool.za{F:List Nat}{w x:World}{S:List (List Rs)}(h:Pool F w S x){i b:Nat}{z0 z1 z2 z3:Value}(hi:S[i]?=some [blk b [z0,z1,z2,z3]])(v0 v1 v2 v3:Value) :
  Pool F w (S.set i [blk b [v0,v1,v2,v3]]) ((((x.setCell ⟨b,0,none⟩ v0).setCell ⟨b,1,none⟩ v1).setCell ⟨b,2,none⟩ v2).setCell ⟨b,3,none⟩ v3):=by
 have hlen:i<S.length:=(List.getElem?_eq_some_iff.1 hi).1;have h0:=h.aQ (i:=i) hi 0 v0 (by simp);have h1:=h0.aQ (i:=i) (by rw[List.getElem?_set_self (by simpa using hlen)]) 1 v1 (by simp);have h2:=h1.aQ (i:=i) (by rw[List.getElem?_set_self (by simpa using hlen)]) 2 v2 (by simp);have h3:=h2.aQ (i:=i) (by rw[List.getElem?_set_self (by simpa using hlen)]) 3 v3 (by simp);simpa[List.set_set] using h3
def D5(l x r:List UInt8):Prop:=∃r1,l=32::r1/\x=aX r1/\r=bK r1
def yE(l:List UInt8)(n:Int)(r:List UInt8):Prop:=∃r1,l=32::r1/\jF (aX r1) n/\r=bK r1
theorem D5.inj{l x y r s:List UInt8}(h:D5 l x r)(k:D5 l y s):x=y/\r=s:=by
 obtain⟨r1,e1,e2,e3⟩:=h;obtain⟨r2,f1,f2,f3⟩:=k;rw[e1] at f1;cases f1;exact⟨e2.trans f2.symm,e3.trans f3.symm⟩
theorem yE.inj{l:List UInt8}{m n:Int}{r s:List UInt8}(h:yE l m r)(k:yE l n s):m=n/\r=s:=by
 obtain⟨r1,e1,e2,e3⟩:=h;obtain⟨r2,f1,f2,f3⟩:=k;rw[e1] at f1;cases f1;exact⟨e2.inj f2,e3.trans f3.symm⟩
theorem D5.len{l x r:List UInt8}(h:D5 l x r):r.length+x.length<l.length:=by
 obtain⟨r1,rfl,rfl,rfl⟩:=h;have:=congrArg List.length (fZ r1);simp only[List.length_append,List.length_cons] at this⊢;omega
theorem yE.len{l:List UInt8}{n:Int}{r:List UInt8}(h:yE l n r):r.length<l.length:=by
 obtain⟨r1,rfl,_,rfl⟩:=h;have:=jG r1;simp only[List.length_cons];omega
theorem Jo{l:List UInt8}(h:l.head?=some 32):∃r,l=32::r:=by
 cases l with
 | nil=>cases h
 | cons a b=>simp at h;exact⟨b,by rw[h]⟩
def SE(B:Nat)(l:List UInt8)(t:TypeId)(v:Value)(w:World)(e:Ending)(w':World):Prop :=
 (∃x r,D5 l x r/\e=.returned (ag (bs x))/\jE B r w w')\/((∀x r,¬ D5 l x r)/\xm B t v w e w')
def SN(B:Nat)(l:List UInt8)(t:TypeId)(v:Value)(w:World)(e:Ending)(w':World):Prop :=
 (∃n r,yE l n r/\e=.returned (ae au n)/\jE B r w w')\/((∀n r,¬ yE l n r)/\xm B t v w e w')
theorem mM(B:Nat)(l:List UInt8)(t:TypeId)(v:Value)(w0 w:World)(E:Env t v w0)(h:Rg w0 B l w)(hl:l.length<=1048576) :
  Calls prog 128 #[ai (some ⟨B,0,none⟩)] w fun e w'=>SE B l t v w e w':=by
 by_cases h1:l.head?=some 32
 ·obtain⟨r,rfl⟩:=Jo h1;refine(qw B r w h.r (by simp only[List.length_cons] at hl;omega)).mono ?_;rintro e w'⟨rfl,hr⟩;exact .inl ⟨_,_,⟨r,rfl,rfl,rfl⟩,rfl,hr⟩
 ·refine(rz B l t v w0 w E h h1).mono ?_;intro e w' hg;refine .inr ⟨fun x r hx=>?_,hg⟩;obtain⟨r1,e1,_⟩:=hx;exact h1 (by rw[e1];rfl)
theorem iW(B:Nat)(l:List UInt8)(t:TypeId)(v:Value)(w0 w:World)(E:Env t v w0)(h:Rg w0 B l w)(hl:l.length<=1048576) :
  Calls prog 127 #[ai (some ⟨B,0,none⟩)] w fun e w'=>SN B l t v w e w':=by
 by_cases h1:l.head?=some 32
 ·obtain⟨r,rfl⟩:=Jo h1;have hl':r.length<=1048576:=by simp only[List.length_cons] at hl;omega
  by_cases hn:∃n,jF (aX r) n
  ·obtain⟨n,hn⟩:=hn;refine(ng B r n t v w0 w E h hl' hn).mono ?_;rintro e w'⟨rfl,hr⟩;exact .inl ⟨_,_,⟨r,rfl,hn,rfl⟩,rfl,hr⟩
  ·refine(nk B r t v w0 w E h hl' (fun n q=>hn ⟨n,q⟩)).mono ?_;intro e w' hg;refine .inr ⟨fun x s hx=>?_,hg⟩;obtain⟨r1,e1,e2,_⟩:=hx;cases e1;exact hn ⟨x,e2⟩
 ·refine(oK B l t v w0 w E h h1).mono ?_;intro e w' hg;refine .inr ⟨fun x r hx=>?_,hg⟩;obtain⟨r1,e1,_⟩:=hx;exact h1 (by rw[e1];rfl)
theorem wz(r:List UInt8):Lib.hasPrefix (10::r) [10]=true/\Lib.trimPrefix (10::r) [10]=r:=by
 have h:Lib.hasPrefix (10::r) [10]=true:=by simp[Lib.hasPrefix]
 exact⟨h,by unfold Lib.trimPrefix;rw[if_pos h];rfl⟩
theorem MP{l:List UInt8}(hn:∀r,l≠10::r):Lib.hasPrefix l [10]=false/\Lib.trimPrefix l [10]=l:=by
 have h:Lib.hasPrefix l [10]=false:=by
  cases l with
  | nil=>rfl
  | cons c r =>
   simp[Lib.hasPrefix,List.isPrefixOf];intro e;exact hn r (by rw[<-e])
 exact⟨h,by unfold Lib.trimPrefix;rw[if_neg (by rw[h];simp)]⟩
def qK(l:List UInt8)(a:bF)(r:List UInt8):Prop:=∃(x0 x1 r1 r2 r3 r4:List UInt8),D5 l x0 r1/\D5 r1 x1 r2/\yE r2 a.bB r3/\yE r3 a.aS r4/\a.name=bs x0/\a.cur=bs x1/\r4=10::r
theorem qK.inj{l:List UInt8}{a b:bF}{r s:List UInt8}(h:qK l a r)(k:qK l b s):a=b/\r=s:=by
 obtain⟨x0,x1,r1,r2,r3,r4,p0,p1,p2,p3,e0,e1,er⟩:=h;obtain⟨x0',x1',r1',r2',r3',r4',p0',p1',p2',p3',e0',e1',er'⟩:=k;obtain⟨q0,s0⟩:=p0.inj p0';subst s0;obtain⟨q1,s1⟩:=p1.inj p1';subst s1;obtain⟨q2,s2⟩:=p2.inj p2';subst s2;obtain⟨q3,s3⟩:=p3.inj p3';subst s3;have es:=er.symm.trans er';cases es;refine⟨?_,rfl⟩;cases a;cases b;simp only at *;congr 1<;>first|exact(e0.trans ((congrArg bs q0).trans e0'.symm))|exact(e1.trans ((congrArg bs q1).trans e1'.symm))|exact q2|exact q3
theorem qK.len{l:List UInt8}{a:bF}{r:List UInt8}(h:qK l a r):r.length<l.length:=by
 obtain⟨x0,x1,r1,r2,r3,r4,p0,p1,p2,p3,e0,e1,er⟩:=h;have l0:=p0.len;have l1:=p1.len;have l2:=p2.len;have l3:=p3.len;rw[er] at l3;simp only[List.length_cons] at l3;omega
def Ry(B:Nat)(l:List UInt8)(t:TypeId)(v:Value)(w:World)(e:Ending)(w':World):Prop :=
 (∃a r,qK l a r/\e=.returned (aj #[ag a.name,ag a.cur,ae au a.bB,ae au a.aS])/\jE B r w w')\/((∀a r,¬ qK l a r)/\xm B t v w e w')
theorem yD(B:Nat)(l:List UInt8)(t:TypeId)(v:Value)(w0 w:World)(E:Env t v w0)(h:Rg w0 B l w)(hl:l.length<=1048576) :
  Calls prog 118 #[ai (some ⟨B,0,none⟩)] w fun e w'=>Ry B l t v w e w':=by
 have HE:=hide E;have HG:=hide h;have HP0:Hid (Pool [B] w [[blk B [ag (bs l)]],[],[]] w):=hide ((Pool.of (Star.ou h.r)).cast (by simp));clear E h;go_enter func118,ntmps118;go_upto_region 1 with fail
 refine bg (fun W1 hW1=>?_);obtain⟨C,hC⟩:∃C,C=w.heap.size:=⟨_,rfl⟩;have HP1:Hid (Pool [B] w [[blk B [ag (bs l)]],[blk C [ag ⟨#[]⟩,ag ⟨#[]⟩,ae au 0,ae au 0]],[]] W1):=hide (by
  have p1:=HP0.aY (i:=1) rfl [ag ⟨#[]⟩,ag ⟨#[]⟩,ae au 0,ae au 0] 106;rw[<-hC] at p1;rw[hW1];exact p1)
 rw[<-hC];clear hW1 HP0 hC;go_wp2_with fail;refine(mM B l t v w0 _ HE.out (HG.mV HP1.iF) (by omega)).mono ?_;rintro e y0(⟨x0,r1,hx,rfl,hr⟩|⟨hno,rfl,l5,hr⟩)
 case inr =>
  have HNo:=hide hno;have HR5:=hide (HP1.iF.trans hr);clear hno hr;unfold dx;go_wp2_with fail;refine⟨rfl,.inr ⟨fun c r hc=>?_,rfl,_,HR5.out⟩⟩;obtain⟨x0',x1',r1',r2',r3',r4',p0',p1',p2',p3',er⟩:=hc;exact HNo.out _ _ p0'
 have HX0:=hide hx;have ln0:=hx.len;have HPx0:Hid (Pool [B] w [[blk B [ag (bs r1)]],[blk C [ag ⟨#[]⟩,ag ⟨#[]⟩,ae au 0,ae au 0]],[]] y0):=hide (HP1.rd hr);clear hx hr HP1;go_wp2_with fail;refine(mM B r1 t v w0 _ HE.out (HG.mV HPx0.iF) (by omega)).mono ?_;rintro e y1(⟨x1,r2,hx,rfl,hr⟩|⟨hno,rfl,l5,hr⟩)
 case inr =>
  have HNo:=hide hno;have HR5:=hide (HPx0.iF.trans hr);clear hno hr;unfold dx;go_wp2_with fail;refine⟨rfl,.inr ⟨fun c r hc=>?_,rfl,_,HR5.out⟩⟩;obtain⟨x0',x1',r1',r2',r3',r4',p0',p1',p2',p3',er⟩:=hc;obtain⟨_,s0⟩:=HX0.inj p0';subst s0;exact HNo.out _ _ p1'
 have HX1:=hide hx;have ln1:=hx.len;have HPx1:Hid (Pool [B] w [[blk B [ag (bs r2)]],[blk C [ag ⟨#[]⟩,ag ⟨#[]⟩,ae au 0,ae au 0]],[]] y1):=hide (HPx0.rd hr);clear hx hr HPx0;go_wp2_with fail;refine(iW B r2 t v w0 _ HE.out (HG.mV HPx1.iF) (by omega)).mono ?_;rintro e y2(⟨x2,r3,hx,rfl,hr⟩|⟨hno,rfl,l5,hr⟩)
 case inr =>
  have HNo:=hide hno;have HR5:=hide (HPx1.iF.trans hr);clear hno hr;unfold dx;go_wp2_with fail;refine⟨rfl,.inr ⟨fun c r hc=>?_,rfl,_,HR5.out⟩⟩;obtain⟨x0',x1',r1',r2',r3',r4',p0',p1',p2',p3',er⟩:=hc;obtain⟨_,s0⟩:=HX0.inj p0';subst s0;obtain⟨_,s1⟩:=HX1.inj p1';subst s1;exact HNo.out _ _ p2'
 have HX2:=hide hx;have ln2:=hx.len;have HPx2:Hid (Pool [B] w [[blk B [ag (bs r3)]],[blk C [ag ⟨#[]⟩,ag ⟨#[]⟩,ae au 0,ae au 0]],[]] y2):=hide (HPx1.rd hr);clear hx hr HPx1;go_wp2_with fail;refine(iW B r3 t v w0 _ HE.out (HG.mV HPx2.iF) (by omega)).mono ?_;rintro e y3(⟨x3,r4,hx,rfl,hr⟩|⟨hno,rfl,l5,hr⟩)
 case inr =>
  have HNo:=hide hno;have HR5:=hide (HPx2.iF.trans hr);clear hno hr;unfold dx;go_wp2_with fail;refine⟨rfl,.inr ⟨fun c r hc=>?_,rfl,_,HR5.out⟩⟩;obtain⟨x0',x1',r1',r2',r3',r4',p0',p1',p2',p3',er⟩:=hc;obtain⟨_,s0⟩:=HX0.inj p0';subst s0;obtain⟨_,s1⟩:=HX1.inj p1';subst s1;obtain⟨_,s2⟩:=HX2.inj p2';subst s2;exact HNo.out _ _ p3'
 have HX3:=hide hx;have ln3:=hx.len;have HPx3:Hid (Pool [B] w [[blk B [ag (bs r4)]],[blk C [ag ⟨#[]⟩,ag ⟨#[]⟩,ae au 0,ae au 0]],[]] y3):=hide (HPx2.rd hr);clear hx hr HPx2;go_upto_region 2 with fail
 refine bg (fun W2 hW2=>?_);obtain⟨G,hG⟩:∃G,G=y3.heap.size:=⟨_,rfl⟩;have HP2:Hid (Pool [B] w [[blk B [ag (bs r4)]],[blk C [ag ⟨#[]⟩,ag ⟨#[]⟩,ae au 0,ae au 0]],[blk G [ag (bs x0),ag (bs x1),ae au x2,ae au x3]]] W2):=hide (by
  have p1:=HPx3.aY (i:=2) rfl [ag (bs x0),ag (bs x1),ae au x2,ae au x3] 106;rw[<-hG] at p1;rw[hW2];exact p1)
 rw[<-hG];clear hW2 HPx3 hG;go_wp2_with fail;refine(gZ B r4 [10] _ (HP2.aB (i:=0) rfl)).mono ?_;rintro e y9⟨rfl,hr⟩;by_cases hnl:∃r,r4=10::r
 ·obtain⟨r,hnl⟩:=hnl;have HNl:=hide hnl;have eT:Lib.hasPrefix r4 [10]=true:=by rw[hnl];exact(wz r).1
  have eR:Lib.trimPrefix r4 [10]=r:=by rw[hnl];exact(wz r).2
  rw[eR] at hr;rw[eT];have HP3:Hid (Pool [B] w [[blk B [ag (bs r)]],[blk C [ag ⟨#[]⟩,ag ⟨#[]⟩,ae au 0,ae au 0]],[blk G [ag (bs x0),ag (bs x1),ae au x2,ae au x3]]] y9):=hide (HP2.rd hr);clear hr eT eR HP2 hnl;go_wp2_with fail;refine(fA _ _).mono ?_;rintro e y10⟨rfl,hw⟩;rw[hw];clear hw;have g_0:=(HP3.aB (i:=2) rfl).c 0 _ rfl;have z_0:=(HP3.aB (i:=1) rfl).c 0 _ rfl;have f_0:=(HP3.aB (i:=1) rfl).f 0;have g_1:=(HP3.aB (i:=2) rfl).c 1 _ rfl;have z_1:=(HP3.aB (i:=1) rfl).c 1 _ rfl;have f_1:=(HP3.aB (i:=1) rfl).f 1;have g_2:=(HP3.aB (i:=2) rfl).c 2 _ rfl;have z_2:=(HP3.aB (i:=1) rfl).c 2 _ rfl;have f_2:=(HP3.aB (i:=1) rfl).f 2;have g_3:=(HP3.aB (i:=2) rfl).c 3 _ rfl;have z_3:=(HP3.aB (i:=1) rfl).c 3 _ rfl;have f_3:=(HP3.aB (i:=1) rfl).f 3;have HQ:=HP3.za (i:=1) rfl (ag (bs x0)) (ag (bs x1)) (ae au x2) (ae au x3);have e0:=(HQ.aB (i:=1) rfl).c 0 _ rfl;have e1:=(HQ.aB (i:=1) rfl).c 1 _ rfl;have e2:=(HQ.aB (i:=1) rfl).c 2 _ rfl;have e3:=(HQ.aB (i:=1) rfl).c 3 _ rfl;have HQ2:=hide HQ.iF;clear HQ;go_wp2_with fail;refine bodyPost_ret (v:=aj #[ag (bs x0),ag (bs x1),ae au x2,ae au x3]) (by simp[results,results118,go_sem,e0,e1,e2,e3]) rfl (.inl ⟨⟨bs x0,bs x1,x2,x3⟩,r,?_,rfl,HQ2.out⟩);exact⟨x0,x1,r1,r2,r3,r4,HX0.out,HX1.out,HX2.out,HX3.out,rfl,rfl,HNl.out⟩
 ·have HNo:=hide hnl;have eT:Lib.hasPrefix r4 [10]=false:=(MP (fun r q=>hnl ⟨r,q⟩)).1;rw[eT];have HR5:=hide (HP2.iF.trans hr);have HEy:Hid (Env t v y9):=hide ((HG.mV (HP2.iF.trans hr)).env HE.out);clear hr eT HP2 hnl;go_wp2_with fail;refine(gK _ t v _ HEy.out).mono ?_;rintro e y10⟨rfl,hw⟩;rw[hw];clear hw;unfold dx;go_wp2_with fail;refine⟨rfl,.inr ⟨fun c r hc=>?_,rfl,_,HR5.out⟩⟩;obtain⟨x0',x1',r1',r2',r3',r4',p0',p1',p2',p3',e0',e1',er⟩:=hc;obtain⟨_,s0⟩:=HX0.inj p0';subst s0;obtain⟨_,s1⟩:=HX1.inj p1';subst s1;obtain⟨_,s2⟩:=HX2.inj p2';subst s2;obtain⟨_,s3⟩:=HX3.inj p3';subst s3;exact HNo.out ⟨_,er⟩
def qJ(l:List UInt8)(a:bP)(r:List UInt8):Prop:=∃(x1 x2 r1 r2 r3 r4:List UInt8),yE l a.id r1/\D5 r1 x1 r2/\D5 r2 x2 r3/\yE r3 a.aV r4/\a.fr=bs x1/\a.«to»=bs x2/\r4=10::r
theorem qJ.inj{l:List UInt8}{a b:bP}{r s:List UInt8}(h:qJ l a r)(k:qJ l b s):a=b/\r=s:=by
 obtain⟨x1,x2,r1,r2,r3,r4,p0,p1,p2,p3,e0,e1,er⟩:=h;obtain⟨x1',x2',r1',r2',r3',r4',p0',p1',p2',p3',e0',e1',er'⟩:=k;obtain⟨q0,s0⟩:=p0.inj p0';subst s0;obtain⟨q1,s1⟩:=p1.inj p1';subst s1;obtain⟨q2,s2⟩:=p2.inj p2';subst s2;obtain⟨q3,s3⟩:=p3.inj p3';subst s3;have es:=er.symm.trans er';cases es;refine⟨?_,rfl⟩;cases a;cases b;simp only at *;congr 1<;>first|exact q0|exact(e0.trans ((congrArg bs q1).trans e0'.symm))|exact(e1.trans ((congrArg bs q2).trans e1'.symm))|exact q3
theorem qJ.len{l:List UInt8}{a:bP}{r:List UInt8}(h:qJ l a r):r.length<l.length:=by
 obtain⟨x1,x2,r1,r2,r3,r4,p0,p1,p2,p3,e0,e1,er⟩:=h;have l0:=p0.len;have l1:=p1.len;have l2:=p2.len;have l3:=p3.len;rw[er] at l3;simp only[List.length_cons] at l3;omega
def Rq(B:Nat)(l:List UInt8)(t:TypeId)(v:Value)(w:World)(e:Ending)(w':World):Prop :=
 (∃a r,qJ l a r/\e=.returned (aj #[ae au a.id,ag a.fr,ag a.«to»,ae au a.aV])/\jE B r w w')\/((∀a r,¬ qJ l a r)/\xm B t v w e w')
theorem Dt(B:Nat)(l:List UInt8)(t:TypeId)(v:Value)(w0 w:World)(E:Env t v w0)(h:Rg w0 B l w)(hl:l.length<=1048576) :
  Calls prog 119 #[ai (some ⟨B,0,none⟩)] w fun e w'=>Rq B l t v w e w':=by
 have HE:=hide E;have HG:=hide h;have HP0:Hid (Pool [B] w [[blk B [ag (bs l)]],[],[]] w):=hide ((Pool.of (Star.ou h.r)).cast (by simp));clear E h;go_enter func119,ntmps119;go_upto_region 1 with fail
 refine bg (fun W1 hW1=>?_);obtain⟨C,hC⟩:∃C,C=w.heap.size:=⟨_,rfl⟩;have HP1:Hid (Pool [B] w [[blk B [ag (bs l)]],[blk C [ae au 0,ag ⟨#[]⟩,ag ⟨#[]⟩,ae au 0]],[]] W1):=hide (by
  have p1:=HP0.aY (i:=1) rfl [ae au 0,ag ⟨#[]⟩,ag ⟨#[]⟩,ae au 0] 109;rw[<-hC] at p1;rw[hW1];exact p1)
 rw[<-hC];clear hW1 HP0 hC;go_wp2_with fail;refine(iW B l t v w0 _ HE.out (HG.mV HP1.iF) (by omega)).mono ?_;rintro e y0(⟨x0,r1,hx,rfl,hr⟩|⟨hno,rfl,l5,hr⟩)
 case inr =>
  have HNo:=hide hno;have HR5:=hide (HP1.iF.trans hr);clear hno hr;unfold dx;go_wp2_with fail;refine⟨rfl,.inr ⟨fun c r hc=>?_,rfl,_,HR5.out⟩⟩;obtain⟨x1',x2',r1',r2',r3',r4',p0',p1',p2',p3',er⟩:=hc;exact HNo.out _ _ p0'
 have HX0:=hide hx;have ln0:=hx.len;have HPx0:Hid (Pool [B] w [[blk B [ag (bs r1)]],[blk C [ae au 0,ag ⟨#[]⟩,ag ⟨#[]⟩,ae au 0]],[]] y0):=hide (HP1.rd hr);clear hx hr HP1;go_wp2_with fail;refine(mM B r1 t v w0 _ HE.out (HG.mV HPx0.iF) (by omega)).mono ?_;rintro e y1(⟨x1,r2,hx,rfl,hr⟩|⟨hno,rfl,l5,hr⟩)
 case inr =>
  have HNo:=hide hno;have HR5:=hide (HPx0.iF.trans hr);clear hno hr;unfold dx;go_wp2_with fail;refine⟨rfl,.inr ⟨fun c r hc=>?_,rfl,_,HR5.out⟩⟩;obtain⟨x1',x2',r1',r2',r3',r4',p0',p1',p2',p3',er⟩:=hc;obtain⟨_,s0⟩:=HX0.inj p0';subst s0;exact HNo.out _ _ p1'
 have HX1:=hide hx;have ln1:=hx.len;have HPx1:Hid (Pool [B] w [[blk B [ag (bs r2)]],[blk C [ae au 0,ag ⟨#[]⟩,ag ⟨#[]⟩,ae au 0]],[]] y1):=hide (HPx0.rd hr);clear hx hr HPx0;go_wp2_with fail;refine(mM B r2 t v w0 _ HE.out (HG.mV HPx1.iF) (by omega)).mono ?_;rintro e y2(⟨x2,r3,hx,rfl,hr⟩|⟨hno,rfl,l5,hr⟩)
 case inr =>
  have HNo:=hide hno;have HR5:=hide (HPx1.iF.trans hr);clear hno hr;unfold dx;go_wp2_with fail;refine⟨rfl,.inr ⟨fun c r hc=>?_,rfl,_,HR5.out⟩⟩;obtain⟨x1',x2',r1',r2',r3',r4',p0',p1',p2',p3',er⟩:=hc;obtain⟨_,s0⟩:=HX0.inj p0';subst s0;obtain⟨_,s1⟩:=HX1.inj p1';subst s1;exact HNo.out _ _ p2'
 have HX2:=hide hx;have ln2:=hx.len;have HPx2:Hid (Pool [B] w [[blk B [ag (bs r3)]],[blk C [ae au 0,ag ⟨#[]⟩,ag ⟨#[]⟩,ae au 0]],[]] y2):=hide (HPx1.rd hr);clear hx hr HPx1;go_wp2_with fail;refine(iW B r3 t v w0 _ HE.out (HG.mV HPx2.iF) (by omega)).mono ?_;rintro e y3(⟨x3,r4,hx,rfl,hr⟩|⟨hno,rfl,l5,hr⟩)
 case inr =>
  have HNo:=hide hno;have HR5:=hide (HPx2.iF.trans hr);clear hno hr;unfold dx;go_wp2_with fail;refine⟨rfl,.inr ⟨fun c r hc=>?_,rfl,_,HR5.out⟩⟩;obtain⟨x1',x2',r1',r2',r3',r4',p0',p1',p2',p3',er⟩:=hc;obtain⟨_,s0⟩:=HX0.inj p0';subst s0;obtain⟨_,s1⟩:=HX1.inj p1';subst s1;obtain⟨_,s2⟩:=HX2.inj p2';subst s2;exact HNo.out _ _ p3'
 have HX3:=hide hx;have ln3:=hx.len;have HPx3:Hid (Pool [B] w [[blk B [ag (bs r4)]],[blk C [ae au 0,ag ⟨#[]⟩,ag ⟨#[]⟩,ae au 0]],[]] y3):=hide (HPx2.rd hr);clear hx hr HPx2;go_upto_region 2 with fail
 refine bg (fun W2 hW2=>?_);obtain⟨G,hG⟩:∃G,G=y3.heap.size:=⟨_,rfl⟩;have HP2:Hid (Pool [B] w [[blk B [ag (bs r4)]],[blk C [ae au 0,ag ⟨#[]⟩,ag ⟨#[]⟩,ae au 0]],[blk G [ae au x0,ag (bs x1),ag (bs x2),ae au x3]]] W2):=hide (by
  have p1:=HPx3.aY (i:=2) rfl [ae au x0,ag (bs x1),ag (bs x2),ae au x3] 109;rw[<-hG] at p1;rw[hW2];exact p1)
 rw[<-hG];clear hW2 HPx3 hG;go_wp2_with fail;refine(gZ B r4 [10] _ (HP2.aB (i:=0) rfl)).mono ?_;rintro e y9⟨rfl,hr⟩;by_cases hnl:∃r,r4=10::r
 ·obtain⟨r,hnl⟩:=hnl;have HNl:=hide hnl;have eT:Lib.hasPrefix r4 [10]=true:=by rw[hnl];exact(wz r).1
  have eR:Lib.trimPrefix r4 [10]=r:=by rw[hnl];exact(wz r).2
  rw[eR] at hr;rw[eT];have HP3:Hid (Pool [B] w [[blk B [ag (bs r)]],[blk C [ae au 0,ag ⟨#[]⟩,ag ⟨#[]⟩,ae au 0]],[blk G [ae au x0,ag (bs x1),ag (bs x2),ae au x3]]] y9):=hide (HP2.rd hr);clear hr eT eR HP2 hnl;go_wp2_with fail;refine(fA _ _).mono ?_;rintro e y10⟨rfl,hw⟩;rw[hw];clear hw;have g_0:=(HP3.aB (i:=2) rfl).c 0 _ rfl;have z_0:=(HP3.aB (i:=1) rfl).c 0 _ rfl;have f_0:=(HP3.aB (i:=1) rfl).f 0;have g_1:=(HP3.aB (i:=2) rfl).c 1 _ rfl;have z_1:=(HP3.aB (i:=1) rfl).c 1 _ rfl;have f_1:=(HP3.aB (i:=1) rfl).f 1;have g_2:=(HP3.aB (i:=2) rfl).c 2 _ rfl;have z_2:=(HP3.aB (i:=1) rfl).c 2 _ rfl;have f_2:=(HP3.aB (i:=1) rfl).f 2;have g_3:=(HP3.aB (i:=2) rfl).c 3 _ rfl;have z_3:=(HP3.aB (i:=1) rfl).c 3 _ rfl;have f_3:=(HP3.aB (i:=1) rfl).f 3;have HQ:=HP3.za (i:=1) rfl (ae au x0) (ag (bs x1)) (ag (bs x2)) (ae au x3);have e0:=(HQ.aB (i:=1) rfl).c 0 _ rfl;have e1:=(HQ.aB (i:=1) rfl).c 1 _ rfl;have e2:=(HQ.aB (i:=1) rfl).c 2 _ rfl;have e3:=(HQ.aB (i:=1) rfl).c 3 _ rfl;have HQ2:=hide HQ.iF;clear HQ;go_wp2_with fail;refine bodyPost_ret (v:=aj #[ae au x0,ag (bs x1),ag (bs x2),ae au x3]) (by simp[results,results119,go_sem,e0,e1,e2,e3]) rfl (.inl ⟨⟨x0,bs x1,bs x2,x3⟩,r,?_,rfl,HQ2.out⟩);exact⟨x1,x2,r1,r2,r3,r4,HX0.out,HX1.out,HX2.out,HX3.out,rfl,rfl,HNl.out⟩
 ·have HNo:=hide hnl;have eT:Lib.hasPrefix r4 [10]=false:=(MP (fun r q=>hnl ⟨r,q⟩)).1;rw[eT];have HR5:=hide (HP2.iF.trans hr);have HEy:Hid (Env t v y9):=hide ((HG.mV (HP2.iF.trans hr)).env HE.out);clear hr eT HP2 hnl;go_wp2_with fail;refine(gK _ t v _ HEy.out).mono ?_;rintro e y10⟨rfl,hw⟩;rw[hw];clear hw;unfold dx;go_wp2_with fail;refine⟨rfl,.inr ⟨fun c r hc=>?_,rfl,_,HR5.out⟩⟩;obtain⟨x1',x2',r1',r2',r3',r4',p0',p1',p2',p3',e0',e1',er⟩:=hc;obtain⟨_,s0⟩:=HX0.inj p0';subst s0;obtain⟨_,s1⟩:=HX1.inj p1';subst s1;obtain⟨_,s2⟩:=HX2.inj p2';subst s2;obtain⟨_,s3⟩:=HX3.inj p3';subst s3;exact HNo.out ⟨_,er⟩
def Cs(l:List UInt8)(a:Sn)(r:List UInt8):Prop:=∃(r1 r2:List UInt8),yE l a.id r1/\yE r1 a.code r2/\r2=10::r
theorem Cs.inj{l:List UInt8}{a b:Sn}{r s:List UInt8}(h:Cs l a r)(k:Cs l b s):a=b/\r=s:=by
 obtain⟨r1,r2,p0,p1,er⟩:=h;obtain⟨r1',r2',p0',p1',er'⟩:=k;obtain⟨q0,s0⟩:=p0.inj p0';subst s0;obtain⟨q1,s1⟩:=p1.inj p1';subst s1;have es:=er.symm.trans er';cases es;refine⟨?_,rfl⟩;cases a;cases b;simp only at *;congr 1<;>first|exact q0|exact q1
theorem Cs.len{l:List UInt8}{a:Sn}{r:List UInt8}(h:Cs l a r):r.length<l.length:=by
 obtain⟨r1,r2,p0,p1,er⟩:=h;have l0:=p0.len;have l1:=p1.len;rw[er] at l1;simp only[List.length_cons] at l1;omega
def SI(B:Nat)(l:List UInt8)(t:TypeId)(v:Value)(w:World)(e:Ending)(w':World):Prop :=
 (∃a r,Cs l a r/\e=.returned (aj #[ae au a.id,ae au a.code])/\jE B r w w')\/((∀a r,¬ Cs l a r)/\xm B t v w e w')
theorem CF(B:Nat)(l:List UInt8)(t:TypeId)(v:Value)(w0 w:World)(E:Env t v w0)(h:Rg w0 B l w)(hl:l.length<=1048576) :
  Calls prog 120 #[ai (some ⟨B,0,none⟩)] w fun e w'=>SI B l t v w e w':=by
 have HE:=hide E;have HG:=hide h;have HP0:Hid (Pool [B] w [[blk B [ag (bs l)]],[],[]] w):=hide ((Pool.of (Star.ou h.r)).cast (by simp));clear E h;go_enter func120,ntmps120;go_upto_region 1 with fail
 refine bg (fun W1 hW1=>?_);obtain⟨C,hC⟩:∃C,C=w.heap.size:=⟨_,rfl⟩;have HP1:Hid (Pool [B] w [[blk B [ag (bs l)]],[blk C [ae au 0,ae au 0]],[]] W1):=hide (by
  have p1:=HP0.aY (i:=1) rfl [ae au 0,ae au 0] 112;rw[<-hC] at p1;rw[hW1];exact p1)
 rw[<-hC];clear hW1 HP0 hC;go_wp2_with fail;refine(iW B l t v w0 _ HE.out (HG.mV HP1.iF) (by omega)).mono ?_;rintro e y0(⟨x0,r1,hx,rfl,hr⟩|⟨hno,rfl,l5,hr⟩)
 case inr =>
  have HNo:=hide hno;have HR5:=hide (HP1.iF.trans hr);clear hno hr;unfold dx;go_wp2_with fail;refine⟨rfl,.inr ⟨fun c r hc=>?_,rfl,_,HR5.out⟩⟩;obtain⟨r1',r2',p0',p1',er⟩:=hc;exact HNo.out _ _ p0'
 have HX0:=hide hx;have ln0:=hx.len;have HPx0:Hid (Pool [B] w [[blk B [ag (bs r1)]],[blk C [ae au 0,ae au 0]],[]] y0):=hide (HP1.rd hr);clear hx hr HP1;go_wp2_with fail;refine(iW B r1 t v w0 _ HE.out (HG.mV HPx0.iF) (by omega)).mono ?_;rintro e y1(⟨x1,r2,hx,rfl,hr⟩|⟨hno,rfl,l5,hr⟩)
 case inr =>
  have HNo:=hide hno;have HR5:=hide (HPx0.iF.trans hr);clear hno hr;unfold dx;go_wp2_with fail;refine⟨rfl,.inr ⟨fun c r hc=>?_,rfl,_,HR5.out⟩⟩;obtain⟨r1',r2',p0',p1',er⟩:=hc;obtain⟨_,s0⟩:=HX0.inj p0';subst s0;exact HNo.out _ _ p1'
 have HX1:=hide hx;have ln1:=hx.len;have HPx1:Hid (Pool [B] w [[blk B [ag (bs r2)]],[blk C [ae au 0,ae au 0]],[]] y1):=hide (HPx0.rd hr);clear hx hr HPx0;go_upto_region 2 with fail
 refine bg (fun W2 hW2=>?_);obtain⟨G,hG⟩:∃G,G=y1.heap.size:=⟨_,rfl⟩;have HP2:Hid (Pool [B] w [[blk B [ag (bs r2)]],[blk C [ae au 0,ae au 0]],[blk G [ae au x0,ae au x1]]] W2):=hide (by
  have p1:=HPx1.aY (i:=2) rfl [ae au x0,ae au x1] 112;rw[<-hG] at p1;rw[hW2];exact p1)
 rw[<-hG];clear hW2 HPx1 hG;go_wp2_with fail;refine(gZ B r2 [10] _ (HP2.aB (i:=0) rfl)).mono ?_;rintro e y9⟨rfl,hr⟩;by_cases hnl:∃r,r2=10::r
 ·obtain⟨r,hnl⟩:=hnl;have HNl:=hide hnl;have eT:Lib.hasPrefix r2 [10]=true:=by rw[hnl];exact(wz r).1
  have eR:Lib.trimPrefix r2 [10]=r:=by rw[hnl];exact(wz r).2
  rw[eR] at hr;rw[eT];have HP3:Hid (Pool [B] w [[blk B [ag (bs r)]],[blk C [ae au 0,ae au 0]],[blk G [ae au x0,ae au x1]]] y9):=hide (HP2.rd hr);clear hr eT eR HP2 hnl;go_wp2_with fail;refine(fA _ _).mono ?_;rintro e y10⟨rfl,hw⟩;rw[hw];clear hw;have g_0:=(HP3.aB (i:=2) rfl).c 0 _ rfl;have z_0:=(HP3.aB (i:=1) rfl).c 0 _ rfl;have f_0:=(HP3.aB (i:=1) rfl).f 0;have g_1:=(HP3.aB (i:=2) rfl).c 1 _ rfl;have z_1:=(HP3.aB (i:=1) rfl).c 1 _ rfl;have f_1:=(HP3.aB (i:=1) rfl).f 1;have HQ:=HP3.RP (i:=1) rfl (ae au x0) (ae au x1);have e0:=(HQ.aB (i:=1) rfl).c 0 _ rfl;have e1:=(HQ.aB (i:=1) rfl).c 1 _ rfl;have HQ2:=hide HQ.iF;clear HQ;go_wp2_with fail;refine bodyPost_ret (v:=aj #[ae au x0,ae au x1]) (by simp[results,results120,go_sem,e0,e1]) rfl (.inl ⟨⟨x0,x1⟩,r,?_,rfl,HQ2.out⟩);exact⟨r1,r2,HX0.out,HX1.out,HNl.out⟩
 ·have HNo:=hide hnl;have eT:Lib.hasPrefix r2 [10]=false:=(MP (fun r q=>hnl ⟨r,q⟩)).1;rw[eT];have HR5:=hide (HP2.iF.trans hr);have HEy:Hid (Env t v y9):=hide ((HG.mV (HP2.iF.trans hr)).env HE.out);clear hr eT HP2 hnl;go_wp2_with fail;refine(gK _ t v _ HEy.out).mono ?_;rintro e y10⟨rfl,hw⟩;rw[hw];clear hw;unfold dx;go_wp2_with fail;refine⟨rfl,.inr ⟨fun c r hc=>?_,rfl,_,HR5.out⟩⟩;obtain⟨r1',r2',p0',p1',er⟩:=hc;obtain⟨_,s0⟩:=HX0.inj p0';subst s0;obtain⟨_,s1⟩:=HX1.inj p1';subst s1;exact HNo.out ⟨_,er⟩
def mF{A:Type}(hd:List UInt8)(P:List UInt8->A->List UInt8->Prop):List UInt8->List A->List UInt8->Prop
 | l,[],r=>Lib.hasPrefix l hd=false/\r=l
 | l,a::ys,r=>∃r1 r2,l=hd++r1/\P r1 a r2/\mF hd P r2 ys r
def kX{A:Type}(hd:List UInt8)(P:List UInt8->A->List UInt8->Prop)(l:List UInt8)(done:List A)(cur:List UInt8):Prop :=
 done.length+cur.length<=l.length/\∀ys r,mF hd P l ys r ↔ ∃ys',ys=done++ys'/\mF hd P cur ys' r
theorem kX.start{A:Type}{hd:List UInt8}{P:List UInt8->A->List UInt8->Prop}(l:List UInt8):kX hd P l [] l:=⟨by simp,fun ys r=>⟨fun h=>⟨ys,rfl,h⟩,fun⟨ys',e,h⟩=>by rw[e];exact h⟩⟩
theorem jl(hd r:List UInt8):Lib.hasPrefix (hd++r) hd=true:=by simp[Lib.hasPrefix]
theorem iq{l hd:List UInt8}(h:Lib.hasPrefix l hd=true):l=hd++Lib.trimPrefix l hd:=by
 unfold Lib.trimPrefix;rw[if_pos h];simp only[Lib.hasPrefix,List.isPrefixOf_iff_prefix] at h;obtain⟨t,rfl⟩:=h;simp
theorem oG{l hd:List UInt8}(h:Lib.hasPrefix l hd=false):Lib.trimPrefix l hd=l:=by
 unfold Lib.trimPrefix;rw[if_neg (by rw[h];simp)]
theorem kX.one{A:Type}{hd:List UInt8}{P:List UInt8->A->List UInt8->Prop}{l cur r1 r2:List UInt8}{done:List A}{a:A}(h:kX hd P l done cur)(e:cur=hd++r1)(ha:P r1 a r2)(hinj:∀{x:List UInt8}{a b:A}{r s:List UInt8},P x a r->P x b s->a=b/\r=s)(hlen:r2.length<r1.length):kX hd P l (done++[a]) r2:=by
 refine⟨?_,fun ys r=>?_⟩
 ·have:=h.1;rw[e] at this;simp only[List.length_append,List.length_cons,List.length_nil] at this⊢;omega
 ·rw[h.2 ys r];constructor
  ·rintro⟨ys',rfl,hr⟩
   cases ys' with
   | nil =>
    have:=hr.1;rw[e,jl] at this;cases this
   | cons b bs =>
    obtain⟨q1,q2,e1,hb,hr⟩:=hr;rw[e] at e1;obtain rfl:=List.append_cancel_left e1;obtain⟨rfl,rfl⟩:=hinj ha hb;exact⟨bs,by simp,hr⟩
  ·rintro⟨ys',rfl,hr⟩;exact⟨a::ys',by simp,r1,r2,e,ha,hr⟩
theorem kX.stop{A:Type}{hd:List UInt8}{P:List UInt8->A->List UInt8->Prop}{l cur:List UInt8}{done:List A}(h:kX hd P l done cur)(e:Lib.hasPrefix cur hd=false)(ys:List A)(r:List UInt8):mF hd P l ys r ↔ ys=done/\r=cur:=by
 rw[h.2 ys r];constructor
 ·rintro⟨ys',rfl,hr⟩
  cases ys' with
  | nil=>exact⟨by simp,hr.2⟩
  | cons b bs =>
   obtain⟨q1,q2,e1,_⟩:=hr;rw[e1,jl] at e;cases e
 ·rintro⟨rfl,rfl⟩;exact⟨[],by simp,e,rfl⟩
theorem kX.none{A:Type}{hd:List UInt8}{P:List UInt8->A->List UInt8->Prop}{l cur r1:List UInt8}{done:List A}(h:kX hd P l done cur)(e:cur=hd++r1)(hno:∀a r,¬ P r1 a r)(ys:List A)(r:List UInt8):¬ mF hd P l ys r:=by
 rw[h.2 ys r];rintro⟨ys',rfl,hr⟩
 cases ys' with
 | nil =>
  have:=hr.1;rw[e,jl] at this;cases this
 | cons b bs =>
  obtain⟨q1,q2,e1,hb,_⟩:=hr;rw[e] at e1;obtain rfl:=List.append_cancel_left e1;exact hno b q2 hb
theorem KY(l:List UInt8)(p j:Nat):(l.drop p).getD j 0=l.getD (p+j) 0:=by
 simp[List.getD,List.getElem?_drop]
theorem byte_at(s:ByteArray)(i:Nat)(h:i<s.size):(s.data.toList.getD i 0)=s[i]:=by
 simp only[List.getD];rw[List.getElem?_eq_getElem (by rw[gm];exact h)];rfl
set_option maxRecDepth 100000 in
theorem uI(s:ByteArray)(w:World)(hs:s.size<=1048576) :
  Calls prog 42 #[ag s] w fun e w'=>vT (frames s) (dF s) w e w':=by
 obtain⟨i0,hinfo,hz0,hz1,hz2⟩:=info_parts Nj;have hu:=Si;go_enter func42,ntmps42;go_wp2;go_loopw [4,5] (fun v i wr=>∃(l:List ByteArray)(p:Nat),i=ae au (p:Int)/\p<=s.size/\Hid (Rest s l p)/\Hid (wr.ownsRow w.heap.size 9 1 v l.length (l.flatMap strCells))/\Hid (Below w.heap.size w wr)) (fun v i wr=>s.size-(RowKit.intOf i).toNat)
 case atStart=>exact⟨[],0,rfl,Nat.zero_le _,hide (rest_start s),hide (World.ownsRow_made w #[] 0 (Nat.le_refl _) (by unfold maxLen;omega) rfl),hide (aF (Below.refl _ _) _)⟩
 case round =>
  obtain⟨l,p,rfl,hp,HR,HO,HB⟩:=hrel;obtain⟨va,vc,rfl⟩:=bv HO.out;by_cases h8:p+8<=s.size
  ·have h8':(p:Int)+8<=(s.size:Int):=by omega
   go_wp2;go_loop [6,7] (fun c i=>∃(j x:Nat),j<=4/\i=ae au j/\c=ae au (x:Int)/\Hid (x=PL (s.data.toList.drop p) j)) (fun c i=>4-(RowKit.intOf i).toNat)
   case atStart=>exact⟨0,0,by omega,rfl,rfl,hide rfl⟩
   case round =>
    obtain⟨j,x,hj,rfl,rfl,HX⟩:=hrel;by_cases hj4:j<4
    ·have hb:p+j<s.size:=by omega
     have hj4':(j:Int)<4:=by omega
     have HN:Hid (256*x+s[p+j].toNat=PL (s.data.toList.drop p) (j+1)):=hide (by rw[PL,<-HX.out,KY,byte_at s _ hb]);have hx3:(x:Int)<=16777215:=by
      have e:=HX.out;have:=IA (s.data.toList.drop p) j;have h3:(256:Nat) ^ j<=256 ^ 3:=Nat.pow_le_pow_right (by omega) (by omega);have h4:(256:Nat) ^ 3=16777216:=by decide
      omega
     have hx0:0<=(x:Int):=by omega
     have hb255:(s[p+j].toNat:Int)<=255:=by have:=s[p+j].toNat_lt;omega
     go_wp2;exact⟨⟨j+1,256*x+s[p+j].toNat,by omega,by go_num,by go_num,HN⟩,by simp[RowKit.intOf];omega⟩
    ·have hj4':¬ (j:Int)<4:=by omega
     have HN:Hid (x=tV (s.data.toList.drop p)):=hide (by have:=HX.out;rwa [show j=4 by omega] at this);have hx0:0<=(x:Int):=by omega
     have hx4:(x:Int)<=4294967295:=by have:=Oc (s.data.toList.drop p);have:=HN.out;omega
     have HST:Hid (¬ F3 (s.data.toList.drop p)->∀wx,Below wr.heap.size wr wx->vT (frames s) (dF s) w (.returned (.tuple #[af va l.length vc,ae au (p:Int)])) wx):=hide (fun k wx hbx=>by
      obtain⟨e1,e2⟩:=HR.stop k;obtain⟨g,ga,gc,hg,e,hown⟩:=ll Gm HO.out;rw[<-e1,<-e2];exact⟨aJ HB.out hbx,_,rfl,g,ga,gc,hg,e,hown.below hbx⟩)
     have HOK:Hid (F3 (s.data.toList.drop p) ↔ x<=100000/\p+8+x<=s.size/\LB (crc (s.extract (p+8) (p+8+x)).data.toList)=s.extract (p+4) (p+8)):=hide (by
      unfold F3;rw[<-HN.out,List.length_drop,gm,List.drop_drop,List.drop_drop,iC,show p+8+x-(p+8)=x by omega];have e:s.extract (p+4) (p+8)=bs ((s.data.toList.drop (p+4)).take 4):=gQ (by rw[iC,show p+8-(p+4)=4 by omega]);rw[e];constructor
      ·rintro⟨_,b,c,d⟩;exact⟨b,by omega,d⟩
      ·rintro⟨b,c,d⟩;exact⟨by omega,b,by omega,d⟩)
     by_cases hA:x<=100000
     ·have hA1:(x:Int)<=100000:=by omega
      have hA':decide ((100000:Int)<(x:Int))=false:=by simp;omega
      by_cases hC:p+8+x<=s.size
      ·have hC1:(p:Int)+8+(x:Int)<=(s.size:Int):=by omega
       have hC':decide ((s.size:Int)<(p:Int)+8+(x:Int))=false:=by simp;omega
       have hne:Nonempty (Later wr):=bO _;have HCL:Hid (∀wx,Calls prog 67 #[ag (s.extract (p+8) (p+8+x))] wx fun e w''=>e=.returned (ag (LB (crc (s.extract (p+8) (p+8+x)).data.toList)))/\Below wx.heap.size wx w''):=hide (fun wx=>(Kr _ wx (by rw[ByteArray.size_extract];unfold maxLen;omega)).mono fun _ _ h=>⟨h.1,h.2.below⟩);have HZS:Hid ((LB (crc (s.extract (p+8) (p+8+x)).data.toList)).size=4):=hide rfl;generalize LB (crc (s.extract (p+8) (p+8+x)).data.toList)=Z at HCL HOK HZS;by_cases hE:Z=s.extract (p+4) (p+8)
       ·have HK:Hid (F3 (s.data.toList.drop p)):=hide (HOK.2 ⟨hA,hC,hE⟩);have hE':(Z.toList==(s.extract (p+4) (p+8)).toList)=true:=bT.2 hE;have HXT:Hid (s.extract (p+8) (p+8+x)=bs (((s.data.toList.drop p).drop 8).take (tV (s.data.toList.drop p)))):=hide (gQ (by rw[iC,<-HN.out,List.drop_drop,show p+8+x-(p+8)=x by omega]));have HST2:=hide (HR.step HK.out);have hlen:l.length<=1048576:=by have:=HR.len;omega
        clear hE HOK;go_wp2_with fail;refine aU wr (by kernel_rfl) (by kernel_rfl) ((Below.refl _ _).drew) ?_
        repeat (go_big_quiet_step (first|(go_at_call 67;exact dh (HCL.out _))))
        refine wpQuiet_nil ?_;intro _ hw';obtain⟨nx,rfl⟩:=hw';have HB3:=hide (aJ HB.out nx.below);have HO3:=hide (fT HO.out nx.below);generalize nx.w=w3 at *;clear nx;go_wp2_with (first|(at_builtin;refine bI.mk ?_)|fail);refine bI.mk' ?_;refine wpList_append_own_at _ rfl _ _ 80 rfl w.heap.size 9 i0 _ 1 16 hu hinfo hz0 hz1 hz2 rfl (by decide) (af va l.length vc) l.length (l.flatMap strCells) rfl ?own ⟨w3.heap.size,0,none⟩ 1 1 [ag (s.extract (p+8) (p+8+x))] rfl rfl ?news (IV [_]) (by unfold maxLen;omega) (by omega) ?base ?_
        case own=>exact fT HO3.out (aF (Below.refl _ _) _)
        case news =>
         intro j u hj
         match j,hj with
         | 0,hj=>simp only[List.getElem?_cons_zero,Option.some.injEq] at hj;subst hj;rw[addr_add];exact World.cell?_alloc_at _ _ _ _ rfl
         | j+1,hj=>simp at hj
        case base=>have:=HB3.size;simp;omega
        intro v4 w4 ho4 hg4 _ _;have HB4:Hid (Below w.heap.size w w4):=hide (below_grown hg4 (aF HB3.out _) (fun j hj=>jY HO3.out j hj));have HO4:Hid (w4.ownsRow w.heap.size 9 1 v4 (l++[bs (((s.data.toList.drop p).drop 8).take (tV (s.data.toList.drop p)))]).length ((l++[bs (((s.data.toList.drop p).drop 8).take (tV (s.data.toList.drop p)))]).flatMap strCells)):=hide (by
         rw[<-HXT.out,List.flatMap_append];simpa[strCells] using ho4)
        clear ho4 hg4;have HN2:=hide HN.out;go_wp2;refine⟨⟨_,p+8+x,by go_num,by omega,hide ?_,HO4,HB4⟩,by simp[RowKit.intOf];omega⟩;have:=HST2.out;rw[<-HN2.out] at this⊢;exact this
       ·have hE':(Z.toList==(s.extract (p+4) (p+8)).toList)=false:=nS hE;have HF:=hide (HST.out (fun k=>hE (HOK.1 k).2.2));clear hE HOK;go_wp2_with fail;refine aU wr (by kernel_rfl) (by kernel_rfl) ((Below.refl _ _).drew) ?_
        repeat (go_big_quiet_step (first|(go_at_call 67;exact dh (HCL.out _))))
        refine wpQuiet_nil ?_;intro _ hw';obtain⟨nx,rfl⟩:=hw';have HF2:=hide (HF.out nx.w nx.below);go_wp2;go_ret2;exact HF2.out
      ·have hC1:(s.size:Int)<(p:Int)+8+(x:Int):=by omega
       have hC':decide ((s.size:Int)<(p:Int)+8+(x:Int))=true:=by simp;omega
       have HF:=hide (HST.out (fun k=>hC (HOK.1 k).2.1));go_wp2_with fail;go_quiet (fail);go_wp2;go_ret2;exact HF.out _ (below_drewN (Below.refl _ _) _)
     ·have hA':decide ((100000:Int)<(x:Int))=true:=by simp;omega
      have HF:=hide (HST.out (fun k=>hA (HOK.1 k).1));go_wp2_with fail;go_quiet (fail);go_wp2;go_ret2;exact HF.out _ (below_drewN (Below.refl _ _) _)
  ·have h8':¬ (p:Int)+8<=(s.size:Int):=by omega
   have HF:Hid (vT (frames s) (dF s) w (.returned (.tuple #[af va l.length vc,ae au (p:Int)])) wr):=hide (by
    obtain⟨e1,e2⟩:=HR.stop (fun k=>by have:=k.1;rw[List.length_drop,gm] at this;omega);obtain⟨g,ga,gc,hg,e,hown⟩:=ll Gm HO.out;rw[<-e1,<-e2];exact⟨HB.out,_,rfl,g,ga,gc,hg,e,hown⟩)
   go_wp2;go_ret2;exact HF.out
theorem BH(a:Nat)(ha:a<18446744073709551616):(BitVec.ofInt 64 (a:Int)).toNat=a:=by
 rw[BitVec.ofInt_natCast,BitVec.toNat_ofNat];exact Nat.mod_eq_of_lt (by omega)
theorem uA(x:Int)(h0:-9223372036854775808<=x)(h1:x<=9223372036854775807):IntKind.i64.wrap x=x:=by
 simp only[IntKind.wrap,IntKind.signed,IntKind.bits];simp;omega
theorem zW(i x y:Nat)(hx:x%2 ^ i=0)(hy:y<2 ^ i)(hb:x+y<4294967296):bits .or .i64 (x:Int) (y:Int)=((x+y:Nat):Int):=by
 show IntKind.i64.wrap ((BitVec.ofInt 64 (x:Int) ||| BitVec.ofInt 64 (y:Int)).toNat:Int)=_;rw[BitVec.toNat_or,BH x (by omega),BH y (by omega),nat_join i x y hx hy];exact uA _ (by omega) (by omega)
theorem Ht(a b c d:Nat)(ha:a<256)(hb:b<256)(hc:c<256)(hd:d<256) :
  bits .or .i64 (bits .or .i64 (bits .or .i64 ((a:Int)*16777216) ((b:Int)*65536)) ((c:Int)*256)) (d:Int)=((a*16777216+b*65536+c*256+d:Nat):Int):=by
 have e1:=zW 24 (a*16777216) (b*65536) (by omega) (by omega) (by omega);have e2:=zW 16 (a*16777216+b*65536) (c*256) (by omega) (by omega) (by omega);have e3:=zW 8 (a*16777216+b*65536+c*256) d (by omega) (by omega) (by omega);have k1:(a:Int)*16777216=((a*16777216:Nat):Int):=by omega
 have k2:(b:Int)*65536=((b*65536:Nat):Int):=by omega
 have k3:(c:Int)*256=((c*256:Nat):Int):=by omega
 rw[k1,k2,k3,e1,e2,e3]
theorem IR(a:UInt8)(k:Int)(h:k=(a.toNat:Int)):UInt8.ofNat k.toNat=a:=by subst h;simp
theorem Og(l:List UInt8)(h:4<=l.length):(Q6 ((tV l:Nat):Int)).data.toList=l.take 4:=by
 match l,h with
 | a::b::c::d::r,_ =>
  have e:=Od (a::b::c::d::r);have ha:=a.toNat_lt;have hb:=b.toNat_lt;have hc:=c.toNat_lt;have hd:=d.toNat_lt;simp only[List.getD_cons_zero,List.getD_cons_succ] at e;generalize tV (a::b::c::d::r)=n at e⊢;have q1:=IR a ((n:Int)/16777216%256) (by omega);have q2:=IR b ((n:Int)/65536%256) (by omega);have q3:=IR c ((n:Int)/256%256) (by omega);have q4:=IR d ((n:Int)%256) (by omega);simp only[Q6,q1,q2,q3,q4];rfl
theorem Hr(s:ByteArray):(frame s).data.toList=(Q6 (s.size:Int)).data.toList++(LB (crc s.data.toList)).data.toList++s.data.toList:=by
 simp[frame]
theorem NE(t:ByteArray)(n:Nat)(hn:n=tV t.data.toList)(h8:8+n<=t.size):frame (t.extract 8 (8+n))=t.extract 0 (8+n) ↔ LB (crc (t.extract 8 (8+n)).data.toList)=bs ((t.data.toList.drop 4).take 4):=by
 have hl:t.data.toList.length=t.size:=gm t;have hsz:(t.extract 8 (8+n)).size=n:=by rw[ByteArray.size_extract];omega
 have e1:(frame (t.extract 8 (8+n))).data.toList=t.data.toList.take 4++(LB (crc (t.extract 8 (8+n)).data.toList)).data.toList++(t.data.toList.drop 8).take n:=by
  rw[Hr,hsz];congr 1
  ·congr 1;rw[hn];exact Og _ (by rw[hl];omega)
  ·rw[iC,show 8+n-8=n by omega]
 have e2:(t.extract 0 (8+n)).data.toList=t.data.toList.take 4++(t.data.toList.drop 4).take 4++(t.data.toList.drop 8).take n:=by
  rw[iC,List.drop_zero,Nat.sub_zero,show 8+n=4+(4+n) by omega,List.take_add,List.take_add,List.drop_drop,List.append_assoc]
 constructor
 ·intro e;have:=congrArg (fun x:ByteArray=>x.data.toList) e;simp only[e1,e2] at this;have h1:=List.append_inj_left' this rfl;have h2:=List.append_cancel_left h1;exact gQ h2
 ·intro e;apply ByteArray.ext;apply Array.toList_inj.1;rw[e1,e2,e,bS]
def OA(t:ByteArray)(w:World)(e:Ending)(w':World):Prop:=Below w.heap.size w w'/\((F3 t.data.toList/\e=.returned (.tuple #[ag (bs ((t.data.toList.drop 8).take (tV t.data.toList))),.bool true]))\/(¬ F3 t.data.toList/\∃d,e=.returned (.tuple #[ag d,.bool false])))
set_option maxRecDepth 100000 in
theorem Ag(t:ByteArray)(w:World)(ht:t.size<=1048576) :
  Calls prog 110 #[ag t] w fun e w'=>OA t w e w':=by
 by_cases h8:8<=t.size
 ·have h8':¬ (t.size:Int)<8:=by omega
  have b0:0<t.size:=by omega
  have b1:1<t.size:=by omega
  have b2:2<t.size:=by omega
  have b3:3<t.size:=by omega
  have c0:(t[0].toNat:Int)<=255:=by have:=t[0].toNat_lt;omega
  have c1:(t[1].toNat:Int)<=255:=by have:=t[1].toNat_lt;omega
  have c2:(t[2].toNat:Int)<=255:=by have:=t[2].toNat_lt;omega
  have c3:(t[3].toNat:Int)<=255:=by have:=t[3].toNat_lt;omega
  have d1:(1:Int)<(t.size:Int):=by omega
  have d2:(2:Int)<(t.size:Int):=by omega
  have d3:(3:Int)<(t.size:Int):=by omega
  have e0:=uA (t[0].toNat:Int) (by omega) (by omega);have e1:=uA (t[1].toNat:Int) (by omega) (by omega);have e2:=uA (t[2].toNat:Int) (by omega) (by omega);have e3:=uA (t[3].toNat:Int) (by omega) (by omega);have f0:=uA ((t[0].toNat:Int)*16777216) (by omega) (by omega);have f1:=uA ((t[1].toNat:Int)*65536) (by omega) (by omega);have f2:=uA ((t[2].toNat:Int)*256) (by omega) (by omega);have hor:=Ht t[0].toNat t[1].toNat t[2].toNat t[3].toNat t[0].toNat_lt t[1].toNat_lt t[2].toNat_lt t[3].toNat_lt;have HN:Hid (t[0].toNat*16777216+t[1].toNat*65536+t[2].toNat*256+t[3].toNat=tV t.data.toList):=hide (by rw[Od,byte_at t 0 b0,byte_at t 1 b1,byte_at t 2 b2,byte_at t 3 b3]);generalize t[0].toNat*16777216+t[1].toNat*65536+t[2].toNat*256+t[3].toNat=n at hor HN;have hn:(n:Int)<=4294967295:=by have:=Oc t.data.toList;have:=HN.out;omega
  have f3:=uA (8+(n:Int)) (by omega) (by omega);go_enter func110,ntmps110;go_wp2_with fail;go_region;have HL8:Hid (8<=t.data.toList.length):=hide (by rw[gm];omega);by_cases hC:8+n<=t.size
  ·have hC1:8+(n:Int)<=(t.size:Int):=by omega
   have hC2:¬ (t.size:Int)<8+(n:Int):=by omega
   have HI:=hide (NE t n HN.out hC);have HXT:Hid (t.extract 8 (8+n)=bs ((t.data.toList.drop 8).take (tV t.data.toList))):=hide (gQ (by rw[iC,<-HN.out,show 8+n-8=n by omega]));have hsz:(t.extract 8 (8+n)).size=n:=by rw[ByteArray.size_extract];omega
   have HSZ:=hide hsz;clear hsz;clear e0 e1 e2 e3 f0 f1 f2 f3 hor;by_cases hA:n<=100000
   ·have HCL:Hid (∀wx,Calls prog 143 #[ag (t.extract 8 (8+n))] wx fun e w''=>e=.returned (ag (frame (t.extract 8 (8+n))))/\Below wx.heap.size wx w''):=hide (fun wx=>(vw _ wx (by rw[HSZ.out];omega)).mono fun _ _ h=>⟨h.1,h.2.below⟩);have HOK:Hid (F3 t.data.toList ↔ frame (t.extract 8 (8+n))=t.extract 0 (8+n)):=hide (by
     rw[HI.out];unfold F3;rw[<-HN.out,gm,iC,show 8+n-8=n by omega];exact⟨fun k=>k.2.2.2,fun k=>⟨h8,hA,hC,k⟩⟩)
    generalize frame (t.extract 8 (8+n))=Z at HCL HOK;by_cases hE:Z=t.extract 0 (8+n)
    ·have hE':(Z.toList==(t.extract 0 (8+n)).toList)=true:=bT.2 hE;have HK:=hide (HOK.2 hE);clear hE HOK HI;go_wp2_with fail;have hne:Nonempty (Later w.drew):=bO _;refine aU w.drew (by kernel_rfl) (by kernel_rfl) ((Below.refl _ _).drew) ?_
     repeat (go_big_quiet_step (first|(go_at_call 143;exact dh (HCL.out _))))
     refine wpQuiet_nil ?_;intro _ hw';obtain⟨nx,rfl⟩:=hw';have HB:Hid (Below w.heap.size w nx.w):=hide ((Below.refl _ w).drew.trans nx.below);go_wp2;go_ret2;exact⟨HB.out,.inl ⟨HK.out,by rw[<-HXT.out];rfl⟩⟩
    ·have hE':(Z.toList==(t.extract 0 (8+n)).toList)=false:=nS hE;have HK:Hid (¬ F3 t.data.toList):=hide (fun k=>hE (HOK.1 k));clear hE HOK HI;go_wp2_with fail;have hne:Nonempty (Later w.drew):=bO _;refine aU w.drew (by kernel_rfl) (by kernel_rfl) ((Below.refl _ _).drew) ?_
     repeat (go_big_quiet_step (first|(go_at_call 143;exact dh (HCL.out _))))
     refine wpQuiet_nil ?_;intro _ hw';obtain⟨nx,rfl⟩:=hw';have HB:Hid (Below w.heap.size w nx.w):=hide ((Below.refl _ w).drew.trans nx.below);go_wp2;go_ret2;exact⟨HB.out,.inr ⟨HK.out,_,rfl⟩⟩
   ·have HCL:Hid (∀wx,Calls prog 143 #[ag (t.extract 8 (8+n))] wx fun e w''=>e=.returned (ag ⟨#[]⟩)/\Below wx.heap.size wx w''):=hide (fun wx=>(wJ _ wx (by rw[HSZ.out];unfold maxLen;omega) (by rw[HSZ.out];exact hA)).mono fun _ _ h=>⟨h.1,h.2.below⟩);have hE':((⟨#[]⟩:ByteArray).toList==(t.extract 0 (8+n)).toList)=false:=nS (fun e=>by
     have:=congrArg ByteArray.size e;rw[ByteArray.size_extract] at this;have e0:(⟨#[]⟩:ByteArray).size=0:=rfl;omega)
    have HK:Hid (¬ F3 t.data.toList):=hide (fun k=>hA (by have:=k.2.1;rwa [<-HN.out] at this));clear HI;generalize (⟨#[]⟩:ByteArray)=Z at HCL hE';go_wp2_with fail;have hne:Nonempty (Later w.drew):=bO _;refine aU w.drew (by kernel_rfl) (by kernel_rfl) ((Below.refl _ _).drew) ?_
    repeat (go_big_quiet_step (first|(go_at_call 143;exact dh (HCL.out _))))
    refine wpQuiet_nil ?_;intro _ hw';obtain⟨nx,rfl⟩:=hw';have HB:Hid (Below w.heap.size w nx.w):=hide ((Below.refl _ w).drew.trans nx.below);go_wp2;go_ret2;exact⟨HB.out,.inr ⟨HK.out,_,rfl⟩⟩
  ·have hC2:(t.size:Int)<8+(n:Int):=by omega
   have HK:Hid (¬ F3 t.data.toList):=hide (fun k=>hC (by have:=k.2.2.1;rwa [<-HN.out,gm] at this));clear e0 e1 e2 e3 f0 f1 f2 f3 hor;go_wp2;go_ret2;exact⟨(Below.refl _ _).drew,.inr ⟨HK.out,_,rfl⟩⟩
 ·have h8':(t.size:Int)<8:=by omega
  have HK:Hid (¬ F3 t.data.toList):=hide (fun k=>by have:=k.1;rw[gm] at this;omega);go_enter func110,ntmps110;go_wp2;go_ret2;exact⟨Below.refl _ _,.inr ⟨HK.out,_,rfl⟩⟩
set_option maxRecDepth 100000 in
theorem vo(s:ByteArray)(w:World)(hs:s.size<=1048576) :
  Calls prog 89 #[ag s] w fun e w'=>vT (frames s) (dF s) w e w':=by
 obtain⟨i0,hinfo,hz0,hz1,hz2⟩:=info_parts Nj;have hu:=Si;go_enter func89,ntmps89;go_wp2;go_loopw [4,5] (fun v i wr=>∃(l:List ByteArray)(p:Nat),i=ae au (p:Int)/\p<=s.size/\Hid (Rest s l p)/\Hid (wr.ownsRow w.heap.size 9 1 v l.length (l.flatMap strCells))/\Hid (Below w.heap.size w wr)) (fun v i wr=>s.size-(RowKit.intOf i).toNat)
 case atStart=>exact⟨[],0,rfl,Nat.zero_le _,hide (rest_start s),hide (World.ownsRow_nil _ _ _ _),hide (Below.refl _ _)⟩
 case round =>
  obtain⟨l,p,rfl,hp,HR,HO,HB⟩:=hrel;obtain⟨va,vc,rfl⟩:=bv HO.out;have hp':(p:Int)<=(s.size:Int):=by omega
  have HXS:Hid ((s.extract p s.size).data.toList=s.data.toList.drop p):=hide (by rw[iC];exact List.take_of_length_le (by rw[List.length_drop,gm];omega));have HXZ:Hid ((s.extract p s.size).size<=1048576):=hide (by rw[ByteArray.size_extract];omega);go_wp2_with fail;refine(Ag _ _ HXZ.out).mono ?_;rintro e w1⟨hb1,⟨hk,rfl⟩|⟨hk,d,rfl⟩⟩
  ·rw[HXS.out] at hk;rw[HXS.out];have HB1:=hide (aJ HB.out hb1);have HO1:=hide (fT HO.out hb1);have HST2:=hide (HR.step hk);have hlen:l.length<=1048576:=by have:=HR.len;omega
   have HLN:Hid (8+tV (s.data.toList.drop p)<=s.size-p):=hide (by have:=hk.2.2.1;rwa [List.length_drop,gm] at this);have hln:tV (s.data.toList.drop p)<=1048576:=by have:=HLN.out;omega
   have HDZ:Hid ((bs (((s.data.toList.drop p).drop 8).take (tV (s.data.toList.drop p)))).size=tV (s.data.toList.drop p)):=hide (by
    have:=HLN.out;rw[bD,List.length_take,List.length_drop,List.length_drop,gm];omega)
   clear hb1 hk;generalize bs (((s.data.toList.drop p).drop 8).take (tV (s.data.toList.drop p)))=d at *;generalize tV (s.data.toList.drop p)=n at *;go_wp2_with fail;refine(Cq d w1 (by rw[HDZ.out];exact hln)).mono ?_;rintro e w3⟨rfl,hb3⟩;have HB3:=hide (aJ HB1.out hb3);have HO3:=hide (fT HO1.out hb3);clear hb3;go_wp2_with (first|(at_builtin;refine bI.mk ?_)|fail);refine bI.mk' ?_;refine wpList_append_own_at _ rfl _ _ 80 rfl w.heap.size 9 i0 _ 1 16 hu hinfo hz0 hz1 hz2 rfl (by decide) (af va l.length vc) l.length (l.flatMap strCells) rfl ?own ⟨w3.heap.size,0,none⟩ 1 1 [ag d] rfl rfl ?news (IV [_]) (by unfold maxLen;omega) (by omega) ?base ?_
   case own=>exact fT HO3.out (aF (Below.refl _ _) _)
   case news =>
    intro j u hj
    match j,hj with
    | 0,hj=>simp only[List.getElem?_cons_zero,Option.some.injEq] at hj;subst hj;rw[addr_add];exact World.cell?_alloc_at _ _ _ _ rfl
    | j+1,hj=>simp at hj
   case base=>have:=HB3.size;simp;omega
   intro v4 w4 ho4 hg4 _ _;have HB4:Hid (Below w.heap.size w w4):=hide (below_grown hg4 (aF HB3.out _) (fun j hj=>jY HO3.out j hj));have HO4:Hid (w4.ownsRow w.heap.size 9 1 v4 (l++[d]).length ((l++[d]).flatMap strCells)):=hide (by
    rw[List.flatMap_append];simpa[strCells] using ho4)
   clear ho4 hg4;have hdz:(d.size:Int)=(n:Int):=by rw[HDZ.out]
   have hdz2:(d.size:Int)<=1048576:=by omega
   have HDI:=hide hdz;clear hdz;have HP8:Hid (p+8+n<=s.size):=hide (by have:=HLN.out;omega);go_wp2;exact⟨⟨_,p+8+n,by have:=HDI.out;go_num,HP8.out,HST2,HO4,HB4⟩,by have:=HDI.out;have:=HP8.out;simp[RowKit.intOf];omega⟩
  ·rw[HXS.out] at hk;have HF:Hid (vT (frames s) (dF s) w (.returned (.tuple #[af va l.length vc,ae au (p:Int)])) w1):=hide (by
    obtain⟨e1,e2⟩:=HR.stop hk;obtain⟨g,ga,gc,hg,e,hown⟩:=ll Gm HO.out;rw[<-e1,<-e2];exact⟨aJ HB.out hb1,_,rfl,g,ga,gc,hg,e,hown.below hb1⟩)
   clear hk hb1;go_wp2;go_ret2;exact HF.out
end Go.Proofs.YtdbmmdecclalgaaGreatDoor
