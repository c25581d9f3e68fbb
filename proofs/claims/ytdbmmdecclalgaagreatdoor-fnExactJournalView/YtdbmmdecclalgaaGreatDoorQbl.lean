import Derived.Test.YtdbmmdecclalgaaGreatDoorQav
import Derived.Test.YtdbmmdecclalgaaGreatDoorQak
import Derived.Test.YtdbmmdecclalgaaGreatDoorQat
import Derived.Test.YtdbmmdecclalgaaGreatDoorQaf
import Derived.Defers
import Derived.Recover
namespace Go.Proofs.YtdbmmdecclalgaaGreatDoor
open Go.Value renaming int → ae, string → ag, agg → aj, slice → af, pointer → ai
open Go.IntKind renaming i64 → au
open Go.ChangeShapes Go.WideShapes Go.ChangeAt Go.RowKit Go.Lib Go.Proofs.Tryz
set_option linter.unusedVariables false
set_option maxRecDepth 100000
set_option maxHeartbeats 8000000
theorem Jv{a:List UInt8}(h:∀b∈a,jy b=false):aX a=a/\bK a=[]:=by
 have:=qW (r:=[]) h (fun c hc=>by simp at hc);simpa using this
theorem wV{c:Cm}(h:c.B=true):(1<=c.id/\c.id<=1000000000) /\
  (((c.kind=4\/c.kind=5)/\c.fr=⟨#[]⟩/\c.«to»=⟨#[]⟩/\c.am=0/\(1<=c.ref/\c.ref<=1000000000)) \/
   ((c.kind=1\/c.kind=2\/c.kind=3)/\(∀b∈c.fr.data.toList,jy b=false)/\(∀b∈c.«to».data.toList,jy b=false)/\(-1<=c.am/\c.am<=1000000000000)/\c.ref=0)):=by
 unfold Cm.B at h;have hk:=FN h;unfold dK at h;rw[Bool.and_eq_true] at h;refine⟨bW.1 h.1,?_⟩;by_cases k1:c.kind=1
 ·rw[if_pos k1] at h;simp only[Bool.and_eq_true,beq_iff_eq] at h;exact .inr ⟨.inl k1,kK h.2.1.1.1,DT h.2.1.1.2,bW.1 h.2.1.2,h.2.2⟩
 ·rw[if_neg k1] at h;by_cases k2:c.kind=2\/c.kind=3
  ·rw[if_pos k2] at h;simp only[Bool.and_eq_true,beq_iff_eq] at h;have:=bW.1 h.2.1.2;exact .inr ⟨.inr k2,kK h.2.1.1.1.1,kK h.2.1.1.1.2,⟨by omega,by omega⟩,h.2.2⟩
  ·rw[if_neg k2] at h;by_cases k4:c.kind=4\/c.kind=5
   ·rw[if_pos k4] at h;simp only[Bool.and_eq_true,beq_iff_eq] at h;exact .inl ⟨k4,Fy h.2.1.1.1,Fy h.2.1.1.2,h.2.1.2,bW.1 h.2.2⟩
   ·rw[if_neg k4] at h;simp at h
theorem IE{c:Cm}(h:c.B=true)(k:c.kind=4\/c.kind=5):c.T=itoa c.id++32::(dm c.kind++32::itoa c.ref):=by
 unfold Cm.T lU;unfold Cm.B at h;rw[if_pos h,if_pos k];simp
theorem IG{c:Cm}(h:c.B=true)(k:¬ (c.kind=4\/c.kind=5)):c.T=itoa c.id++32::(dm c.kind++32::(c.fr.data.toList++32::(c.«to».data.toList++32::itoa c.am))):=by
 unfold Cm.T lU;unfold Cm.B at h;rw[if_pos h,if_neg k];simp
theorem zw{l:List UInt8}{c:Cm}(h:eH l c []):c.B=true/\c.T=l:=by
 obtain⟨⟨_,hid⟩,r1,e1,⟨_,_,hk⟩,hr,hB⟩:=h;refine⟨hB,?_⟩;have s1:=fZ l;have s2:=fZ r1;rcases hr with ⟨q,r2,e2,⟨_,href⟩,_,_,_,e3⟩|⟨q,r2,r3,r4,e2,hf,e3,ht,e4,⟨_,ham⟩,_,e5⟩
 ·have s3:=fZ r2;rw[<-e3,List.append_nil] at s3;rw[IE hB q,hid,hk,href,s3,<-e2,s2,<-e1,s1]
 ·have s3:=fZ r2;have s4:=fZ r3;have s5:=fZ r4;rw[<-e5,List.append_nil] at s5;rw[IG hB q,hid,hk,hf,ht,bS,bS,ham,s5,<-e4,s4,<-e3,s3,<-e2,s2,<-e1,s1]
theorem Gc{l:List UInt8}{c:Cm}(h:c.B=true)(e:c.T=l):eH l c []:=by
 obtain⟨⟨i0,i1⟩,hp⟩:=wV h;have hi:=gX (n:=c.id) (by omega) (by omega);rcases hp with ⟨k,f0,t0,a0,r0,r1⟩|⟨k,f0,t0,⟨a0,a1⟩,r0⟩
 ·rw[IE h k] at e;subst e;obtain⟨w1,w2⟩:=wS (r:=dm c.kind++32::itoa c.ref) hi;obtain⟨w3,w4⟩:=wS (r:=itoa c.ref) (rW (k:=c.kind) (by omega) (by omega));obtain⟨w5,w6⟩:=Jv (gX (n:=c.ref) (by omega) (by omega));refine⟨⟨⟨by omega,by omega⟩,w1.symm⟩,_,w2,⟨by omega,by omega,w3.symm⟩,.inl ⟨k,_,w4,⟨⟨by omega,by omega⟩,w5.symm⟩,f0,t0,a0,w6.symm⟩,h⟩
 ·have k':¬ (c.kind=4\/c.kind=5):=by omega
  rw[IG h k'] at e;subst e;obtain⟨w1,w2⟩:=wS (r:=dm c.kind++32::(c.fr.data.toList++32::(c.«to».data.toList++32::itoa c.am))) hi;obtain⟨w3,w4⟩:=wS (r:=c.fr.data.toList++32::(c.«to».data.toList++32::itoa c.am)) (rW (k:=c.kind) (by omega) (by omega));obtain⟨w5,w6⟩:=wS (r:=c.«to».data.toList++32::itoa c.am) f0;obtain⟨w7,w8⟩:=wS (r:=itoa c.am) t0;obtain⟨w9,wa⟩:=Jv (gX (n:=c.am) (by omega) (by omega));refine⟨⟨⟨by omega,by omega⟩,w1.symm⟩,_,w2,⟨by omega,by omega,w3.symm⟩,.inr ⟨k',_,_,_,w4,?_,w6,?_,w8,⟨⟨by omega,by omega⟩,w9.symm⟩,r0,wa.symm⟩,h⟩
  ·rw[w5];exact gQ rfl
  ·rw[w7];exact gQ rfl
theorem BI{n:Int}(h0:-99999999999999<=n)(h1:n<=99999999999999):bL (itoa n)=n:=by
 unfold bL;rw[if_pos (kL h0 h1).1];exact(kL h0 h1).2
theorem BR{k k':Int}(h1:1<=k)(h5:k<=5)(h:mP (dm k) 6 k'):k'=k:=by
 rcases h with ⟨a,b,e⟩|⟨a,_⟩
 ·exact iR ⟨a,by omega⟩ ⟨h1,h5⟩ e
 ·exact absurd rfl (a k h1 (by omega))
theorem Li{c:Cm}(h:c.B=true):3<=(bG c.T).length/\∀c',oV (bG c.T) c'->c'=c:=by
 obtain⟨⟨i0,i1⟩,hp⟩:=wV h;have hi:∀b∈itoa c.id,b≠32:=fun b hb=>jc (gX (n:=c.id) (by omega) (by omega) b hb)
 rcases hp with ⟨k,f0,t0,a0,r0,r1⟩|⟨k,f0,t0,⟨a0,a1⟩,r0⟩
 ·have hk:∀b∈dm c.kind,b≠32:=fun b hb=>jc (rW (by omega) (by omega) b hb)
  have hr:∀b∈itoa c.ref,b≠32:=fun b hb=>jc (gX (n:=c.ref) (by omega) (by omega) b hb)
  have e:bG c.T=[itoa c.id,dm c.kind,itoa c.ref]:=by rw[IE h k,fV _ _ hi,fV _ _ hk,lN _ hr]
  rw[e];refine⟨by simp,fun c' hc=>?_⟩;obtain⟨x,e1,e2⟩:=hc.a;obtain⟨y,e3,e4⟩:=hc.b;obtain⟨z,e5,e6⟩:=hc.c3 rfl;obtain⟨e7,e8,e9⟩:=hc.n5 (by simp);simp at e1 e3 e5;subst e1 e3 e5;have q1:=BR (by omega) (by omega) e4;rw[BI (by omega) (by omega)] at e2 e6;cases c;cases c';simp only at *;subst q1 e2 e6 e7 e8 e9 f0 t0 a0;rfl
 ·have k':¬ (c.kind=4\/c.kind=5):=by omega
  have hk:∀b∈dm c.kind,b≠32:=fun b hb=>jc (rW (by omega) (by omega) b hb)
  have hr:∀b∈itoa c.am,b≠32:=fun b hb=>jc (gX (n:=c.am) (by omega) (by omega) b hb)
  have e:bG c.T=[itoa c.id,dm c.kind,c.fr.data.toList,c.«to».data.toList,itoa c.am]:=by rw[IG h k',fV _ _ hi,fV _ _ hk,fV _ _ (fun b hb=>jc (f0 b hb)),fV _ _ (fun b hb=>jc (t0 b hb)),lN _ hr]
  rw[e];refine⟨by simp,fun c' hc=>?_⟩;obtain⟨x,e1,e2⟩:=hc.a;obtain⟨y,e3,e4⟩:=hc.b;obtain⟨x2,x3,x4,e5,e6,e7,e8,e9,ea⟩:=hc.c5 rfl;have eb:=hc.n3 (by simp);simp at e1 e3 e5 e6 e7;subst e1 e3 e5 e6 e7;have q1:=BR (by omega) (by omega) e4;rw[BI (by omega) (by omega)] at e2 ea;rw[<-gQ (r:=c.fr) rfl] at e8;rw[<-gQ (r:=c.«to») rfl] at e9;cases c;cases c';simp only at *;subst q1 e2 ea e8 e9 eb r0;rfl
theorem TJ{c:Cm}{l:List UInt8}(h:c.T=l)(h3:3<=(bG l).length):c.B=true:=by
 cases hb:c.B
 ·unfold Cm.B at hb;have:c.T=[]:=by unfold Cm.T lU;rw[hb];rfl
  rw[<-h,this] at h3;simp[bG] at h3
 ·rfl
theorem both{l:List UInt8}{e e':Ending}
  (h:(∃c,eH l c []/\e=.returned (.tuple #[c.v,.bool true]))\/((∀c,¬ eH l c [])/\e=.returned (.tuple #[aj #[ae au 0,ae au 0,ag ⟨#[]⟩,ag ⟨#[]⟩,ae au 0,ae au 0],.bool false])))
  (h':(∃c,(3<=(bG l).length/\oV (bG l) c/\c.T=l)/\e'=.returned (.tuple #[c.v,.bool true]))\/(((bG l).length<3\/∃c,oV (bG l) c/\c.T≠l)/\e'=.returned (.tuple #[aj #[ae au 0,ae au 0,ag ⟨#[]⟩,ag ⟨#[]⟩,ae au 0,ae au 0],.bool false]))) :
  ∃(c:Cm)(b:Bool),e=.returned (.tuple #[c.v,.bool b])/\e'=.returned (.tuple #[c.v,.bool b]):=by
 rcases h with ⟨c,hp,rfl⟩|⟨hn,rfl⟩
 ·obtain⟨hB,hT⟩:=zw hp;obtain⟨h3,hu⟩:=Li hB;rw[hT] at h3 hu;rcases h' with ⟨c',⟨_,hc,_⟩,rfl⟩|⟨h9|⟨c',hc,hne⟩,rfl⟩
  ·rw[hu c' hc];exact⟨c,true,rfl,rfl⟩
  ·omega
  ·rw[hu c' hc] at hne;exact absurd hT hne
 ·rcases h' with ⟨c',⟨h3,_,hT⟩,rfl⟩|⟨_,rfl⟩
  ·exact absurd (Gc (TJ hT h3) hT) (hn c')
  ·exact⟨⟨0,0,⟨#[]⟩,⟨#[]⟩,0,0⟩,false,rfl,rfl⟩
theorem eH.inj{l:List UInt8}{c c':Cm}{r r':List UInt8}(h:eH l c r)(k:eH l c' r'):c=c':=by
 obtain⟨a1,r1,e1,k1,h1,_⟩:=h;obtain⟨a2,r1',e1',k1',h1',_⟩:=k;rw[e1] at e1';cases e1';have ei:=a1.inj a2;have ek:=iR ⟨k1.1,k1.2.1⟩ ⟨k1'.1,k1'.2.1⟩ (k1.2.2.trans k1'.2.2.symm);rcases h1 with ⟨q,r2,e2,n2,f2,t2,m2,e3⟩|⟨q,r2,r3,r4,e2,f2,e3,t2,e4,n2,z2,e5⟩
 ·rcases h1' with ⟨q',r2',e2',n2',f2',t2',m2',e3'⟩|⟨q',_⟩
  ·rw[e2] at e2';cases e2';have er:=n2.inj n2';cases c;cases c';simp only at *;subst ei ek er f2 t2 m2 f2' t2' m2';rfl
  ·exact absurd (by rw[<-ek];exact q) q'
 ·rcases h1' with ⟨q',_⟩|⟨q',r2',r3',r4',e2',f2',e3',t2',e4',n2',z2',e5'⟩
  ·exact absurd (by rw[ek];exact q') q
  ·rw[e2] at e2';cases e2';rw[e3] at e3';cases e3';rw[e4] at e4';cases e4';have em:=n2.inj n2';cases c;cases c';simp only at *;subst ei ek em f2 t2 z2 f2' t2' z2';rfl
def oQ(l:List UInt8)(n:Int)(r:List UInt8):Prop:=jF (aX l) n/\(0<=n/\n<=1000000000)/\bK l=10::r
def OB(l:List UInt8)(n:Int)(r:List UInt8):Prop:=∃a,l=a++10::r/\(∀b∈a,b≠10)/\iI a=true/\gM a=n/\0<=n/\n<=1000000000
theorem qC{l:List UInt8}{n:Int}{r:List UInt8}:oQ l n r ↔ OB l n r:=by
 constructor
 ·rintro⟨⟨⟨h0,h1⟩,h2⟩,⟨h3,h4⟩,h5⟩;have hs:=gX (n:=n) (by omega) (by omega);obtain⟨i1,i2⟩:=kL h0 h1;refine⟨itoa n,?_,fun b hb e=>?_,i1,i2,h3,h4⟩
  ·rw[h2,<-h5];exact(fZ l).symm
  ·have:=hs b hb;rw[e] at this;revert this;decide
 ·rintro⟨a,rfl,h1,h2,rfl,h3,h4⟩;obtain⟨c1,c2⟩:=KG h2 h3;have hs:=gX (n:=gM a) (by omega) (by omega);rw[c1] at hs;obtain⟨w1,w2⟩:=qW (r:=10::r) hs (fun c hc=>by simp at hc;subst hc;decide);exact⟨⟨⟨by omega,c2⟩,by rw[w1,c1]⟩,⟨h3,h4⟩,w2⟩
theorem oQ.inj{l:List UInt8}{n m:Int}{r s:List UInt8}(h:oQ l n r)(k:oQ l m s):n=m/\r=s:=by
 refine⟨?_,?_⟩
 ·obtain⟨⟨h1,h2⟩,_⟩:=h;obtain⟨⟨k1,k2⟩,_⟩:=k;rw[<-(kL h1.1 h1.2).2,<-(kL k1.1 k1.2).2,h2,k2]
 ·have:=h.2.2.symm.trans k.2.2;simpa using this
open Classical in
noncomputable def yz(l:List UInt8):Option (Int×bM):=if h:∃p:Int×bM,∃r,oQ l p.1 r/\tH r p.2 [] then some h.choose else none
theorem Cf{l:List UInt8}{n:Int}{L:bM}{r:List UInt8}(h:oQ l n r)(k:tH r L []):yz l=some (n,L):=by
 have hx:∃p:Int×bM,∃r,oQ l p.1 r/\tH r p.2 []:=⟨(n,L),r,h,k⟩;unfold yz;rw[dif_pos hx];obtain⟨r',h',k'⟩:=hx.choose_spec;obtain⟨e1,e2⟩:=h'.inj h;subst e2;rw[Option.some.injEq];exact Prod.ext e1 (k'.inj k).1
theorem wP{l:List UInt8}(h:∀n L r,oQ l n r->¬ tH r L []):yz l=none:=by
 unfold yz;rw[dif_neg];rintro⟨p,r,h1,h2⟩;exact h p.1 p.2 r h1 h2
theorem Pp{l:List UInt8}{n:Int}{L:bM}(h:yz l=some (n,L)):∃r,oQ l n r/\tH r L []:=by
 unfold yz at h;split at h
 ·rename_i hx;rw[Option.some.injEq] at h;have:=hx.choose_spec;rw[h] at this;exact this
 ·cases h
open Classical in
noncomputable def Fw(l:List UInt8):Option (Int×Cm):=if h:∃p:Int×Cm,∃r,oQ l p.1 r/\eH r p.2 [] then some h.choose else none
theorem wQ{l:List UInt8}(h:∀n c r,oQ l n r->¬ eH r c []):Fw l=none:=by
 unfold Fw;rw[dif_neg];rintro⟨p,r,h1,h2⟩;exact h p.1 p.2 r h1 h2
theorem Cg{l:List UInt8}{n:Int}{c:Cm}{r:List UInt8}(h:oQ l n r)(k:eH r c []):Fw l=some (n,c):=by
 have hx:∃p:Int×Cm,∃r,oQ l p.1 r/\eH r p.2 []:=⟨(n,c),r,h,k⟩;unfold Fw;rw[dif_pos hx];obtain⟨r',h',k'⟩:=hx.choose_spec;obtain⟨e1,e2⟩:=h'.inj h;subst e2;rw[Option.some.injEq];exact Prod.ext e1 (k'.inj k)
noncomputable def nJ:List (List UInt8)->bM×Int->bM×Int
 | [],s=>s
 | x::r,s=>match Fw x with
  | none=>s
  | some (k,c)=>if s.2+1<k then s else if s.2<k then nJ r ((dJ s.1 c).1,k) else nJ r s
theorem Pool.nN{F:List Nat}{w x:World}{S:List (List Rs)}(h:Pool F w S x){i A:Nat}{v0 v1 v2 v3:Value}(hi:S[i]?=some [blk A [v0,v1,v2,v3]]) :
  (x.cell? ⟨A,0,none⟩=some v0/\x.cell? ⟨A,1,none⟩=some v1/\x.cell? ⟨A,2,none⟩=some v2/\x.cell? ⟨A,3,none⟩=some v3)/\(x.frozen? ⟨A,0,none⟩=false/\x.frozen? ⟨A,1,none⟩=false/\x.frozen? ⟨A,2,none⟩=false/\x.frozen? ⟨A,3,none⟩=false) :=
 ⟨⟨(h.aB hi).c 0 _ rfl,(h.aB hi).c 1 _ rfl,(h.aB hi).c 2 _ rfl,(h.aB hi).c 3 _ rfl⟩,⟨(h.aB hi).f 0,(h.aB hi).f 1,(h.aB hi).f 2,(h.aB hi).f 3⟩⟩
theorem Pool.Es{F:List Nat}{w x:World}{S:List (List Rs)}(h:Pool F w S x){i b:Nat}{z0 z1 z2 z3 z4 z5 z6:Value}(hi:S[i]?=some [blk b [z0,z1,z2,z3,z4,z5,z6]])(v0 v1 v2 v3 v4 v5 v6:Value) :
  Pool F w (S.set i [blk b [v0,v1,v2,v3,v4,v5,v6]]) (((((((x.setCell ⟨b,0,none⟩ v0).setCell ⟨b,1,none⟩ v1).setCell ⟨b,2,none⟩ v2).setCell ⟨b,3,none⟩ v3).setCell ⟨b,4,none⟩ v4).setCell ⟨b,5,none⟩ v5).setCell ⟨b,6,none⟩ v6):=by
 have hlen:i<S.length:=(List.getElem?_eq_some_iff.1 hi).1;have h0:=h.aQ (i:=i) hi 0 v0 (by simp);have h1:=h0.aQ (i:=i) (by rw[List.getElem?_set_self (by simpa using hlen)]) 1 v1 (by simp);have h2:=h1.aQ (i:=i) (by rw[List.getElem?_set_self (by simpa using hlen)]) 2 v2 (by simp);have h3:=h2.aQ (i:=i) (by rw[List.getElem?_set_self (by simpa using hlen)]) 3 v3 (by simp);have h4:=h3.aQ (i:=i) (by rw[List.getElem?_set_self (by simpa using hlen)]) 4 v4 (by simp);have h5:=h4.aQ (i:=i) (by rw[List.getElem?_set_self (by simpa using hlen)]) 5 v5 (by simp);have h6:=h5.aQ (i:=i) (by rw[List.getElem?_set_self (by simpa using hlen)]) 6 v6 (by simp);simpa[List.set_set] using h6
theorem Pool.kT{F:List Nat}{w x:World}{S:List (List Rs)}(h:Pool F w S x){i A:Nat}{v0 v1 v2 v3 v4 v5 v6:Value}(hi:S[i]?=some [blk A [v0,v1,v2,v3,v4,v5,v6]]) :
  (x.cell? ⟨A,0,none⟩=some v0/\x.cell? ⟨A,1,none⟩=some v1/\x.cell? ⟨A,2,none⟩=some v2/\x.cell? ⟨A,3,none⟩=some v3/\x.cell? ⟨A,4,none⟩=some v4/\x.cell? ⟨A,5,none⟩=some v5/\x.cell? ⟨A,6,none⟩=some v6)/\(x.frozen? ⟨A,0,none⟩=false/\x.frozen? ⟨A,1,none⟩=false/\x.frozen? ⟨A,2,none⟩=false/\x.frozen? ⟨A,3,none⟩=false/\x.frozen? ⟨A,4,none⟩=false/\x.frozen? ⟨A,5,none⟩=false/\x.frozen? ⟨A,6,none⟩=false) :=
 ⟨⟨(h.aB hi).c 0 _ rfl,(h.aB hi).c 1 _ rfl,(h.aB hi).c 2 _ rfl,(h.aB hi).c 3 _ rfl,(h.aB hi).c 4 _ rfl,(h.aB hi).c 5 _ rfl,(h.aB hi).c 6 _ rfl⟩,⟨(h.aB hi).f 0,(h.aB hi).f 1,(h.aB hi).f 2,(h.aB hi).f 3,(h.aB hi).f 4,(h.aB hi).f 5,(h.aB hi).f 6⟩⟩
def Us(B:Nat)(l:List UInt8)(t:TypeId)(v:Value)(w:World)(e:Ending)(w':World):Prop :=
 (∃n L p r r1,oQ l n r/\tH r L r1/\(og L/\jr p L/\(L.aI.length<=1048576/\L.az.length<=1048576/\L.aH.length<=1048576))/\e=.returned (aj #[ae au n,af p.aa L.aI.length p.ca,af p.ha L.az.length p.ch,af p.sa L.aH.length p.cs])/\Pool [B] w [[blk B [ag (bs r1)]],bC p L] w')\/((∀n L r r1,oQ l n r->¬ tH r L r1)/\xm B t v w e w')
def Ut(B:Nat)(l:List UInt8)(t:TypeId)(v:Value)(w:World)(e:Ending)(w':World):Prop :=
 (∃n c r r1,oQ l n r/\eH r c r1/\e=.returned (aj #[ae au n,ae au c.id,ae au c.kind,ag c.fr,ag c.«to»,ae au c.am,ae au c.ref])/\jE B r1 w w')\/((∀n c r r1,oQ l n r->¬ eH r c r1)/\xm B t v w e w')
theorem NZ(B FB:Nat)(l:List UInt8)(t td:TypeId)(v vd:Value)(w0 w:World)(E:Env t v w0)(ED:w0.cell? ⟨5,0,none⟩=some (.iface td vd))(h:Rg w0 B l w)(hF:w0.cell? ⟨FB,0,none⟩=some (.func (.func 91) #[] #[]))(hl:l.length<=1048576) :
  Calls prog 113 #[ai (some ⟨B,0,none⟩),ai (some ⟨FB,0,none⟩)] w fun e w'=>Us B l t v w e w':=by
 have HE:=hide E;have HG:=hide h;have HF:=hide hF;have HD:=hide ED;have HP0:Hid (Pool [B] w [[blk B [ag (bs l)]],[],[]] w):=hide ((Pool.of (Star.ou h.r)).cast (by simp));have hrl:=jG l;have hwl:=iQ l;clear E h hF ED;go_enter func113,ntmps113;go_upto_region 1 with fail
 refine bg (fun W1 hW1=>?_);obtain⟨C,hC⟩:∃C,C=w.heap.size:=⟨_,rfl⟩;have HP1:Hid (Pool [B] w [[blk B [ag (bs l)]],[blk C [ae au 0,af none 0 0,af none 0 0,af none 0 0]],[]] W1):=hide (by
  have p1:=HP0.aY (i:=1) rfl [ae au 0,af none 0 0,af none 0 0,af none 0 0] 150;rw[hC,hW1];exact p1)
 rw[<-hC];clear hW1 HP0 hC;go_wp2_with fail;refine(rY B l _ (HP1.aB (i:=0) rfl) hl).mono ?_;rintro e w2⟨rfl,hr2⟩;have HP2:Hid (Pool [B] w [[blk B [ag (bs (bK l))]],[blk C [ae au 0,af none 0 0,af none 0 0,af none 0 0]],[]] w2):=hide (HP1.rd hr2);clear hr2 HP1;by_cases hn:∃n,jF (aX l) n
 ·obtain⟨n,hn⟩:=hn;have HN:=hide hn;clear hn;go_wp2_with fail;refine(qo _ (aX l) n t v _ ((HG.mV HP2.iF).env HE.out) HN.out).mono ?_;rintro e w3⟨rfl,hb3⟩;have HP3:=hide (HP2.keep hb3);clear hb3 HP2;go_wp2_with fail;refine(bH n 0 1000000000 _).mono ?_;rintro e y⟨rfl,hy⟩;rw[hy];clear hy y;cases hb:eu 0 1000000000 n
  ·have HNb:Hid (¬ (0<=n/\n<=1000000000)):=hide (fun z=>by simp[eu,z.1,z.2] at hb);clear hb;go_wp2_with fail;refine(gK _ t v _ ((HG.mV HP3.iF).env HE.out)).mono ?_;rintro e y⟨rfl,hy⟩;rw[hy];clear hy;have HR5:=hide HP3.iF;unfold dx;go_wp2_with fail;refine⟨rfl,.inr ⟨fun m D r r1 hm _=>?_,rfl,_,HR5.out⟩⟩;rw[hm.1.inj HN.out] at hm;exact HNb.out hm.2.1
  ·have HNb:Hid (0<=n/\n<=1000000000):=hide (by simpa[eu] using hb);clear hb;go_wp2_with fail;refine(gZ B (bK l) [10] _ (HP3.aB (i:=0) rfl)).mono ?_;rintro e w4⟨rfl,hr4⟩;cases hp:Lib.hasPrefix (bK l) [10]
   ·have HNo:=hide hp;have HR5:=hide (HP3.iF.trans hr4);have HEy:Hid (Env t v w4):=hide ((HG.mV (HP3.iF.trans hr4)).env HE.out);clear hr4 hp HP3;go_wp2_with fail;refine(gK _ t v _ HEy.out).mono ?_;rintro e y⟨rfl,hy⟩;rw[hy];clear hy;unfold dx;go_wp2_with fail;refine⟨rfl,.inr ⟨fun m D r r1 hm _=>?_,rfl,_,HR5.out⟩⟩;have z:=HNo.out;rw[hm.2.2] at z;simp[Lib.hasPrefix] at z
   ·obtain⟨r,hr⟩:∃r,r=Lib.trimPrefix (bK l) [10]:=⟨_,rfl⟩;have hsp:=iq hp;rw[<-hr] at hsp hr4;have HS:Hid (oQ l n r):=hide ⟨HN.out,HNb.out,hsp⟩;have hlr:r.length<=1048576:=by have:=congrArg List.length hsp;simp at this;omega
    have HP4:Hid (Pool [B] w [[blk B [ag (bs r)]],[blk C [ae au 0,af none 0 0,af none 0 0,af none 0 0]],[]] w4):=hide (HP3.rd hr4);clear hr4 hp hsp hr HP3;go_wp2_with fail;refine(fA _ _).mono ?_;rintro e y⟨rfl,hy⟩;rw[hy];clear hy y;have fb:=aN (HG.mV HP4.iF).b _ _ HF.out;go_wp2_with fail;refine(zH B r t td v vd w0 _ HE.out HD.out (HG.mV HP4.iF) hlr).mono ?_;rintro e w5(⟨L,p,r1,hL,hw,hpk,hsz,rfl,hp5⟩|⟨hno,rfl,l9,hr9⟩)
    ·have HI:Hid (og L/\jr p L/\(L.aI.length<=1048576/\L.az.length<=1048576/\L.aH.length<=1048576)):=hide ⟨hw,hpk,hsz⟩;have HL:=hide hL;have HP5:Hid (Pool [B] w [[blk B [ag (bs r1)]],[blk C [ae au 0,af none 0 0,af none 0 0,af none 0 0]],bC p L] w5):=hide (by
      have z:=HP4.call (i:=0) (rs:=[blk B [ag (bs r)]]) (rs':=[blk B [ag (bs r1)]]++bC p L) rfl (by simpa[ic,blk] using hp5.cast (S':=[[blk B [ag (bs r1)]]++bC p L]) (by simp));exact z.perm (by simp))
     clear hL hw hpk hsz hp5 HP4 fb;obtain⟨⟨z0,z1,z2,z3⟩,y0,y1,y2,y3⟩:=HP5.nN (i:=1) rfl;have p1:=HP5.za (i:=1) rfl (ae au n) (af p.aa L.aI.length p.ca) (af p.ha L.az.length p.ch) (af p.sa L.aH.length p.cs);obtain⟨⟨x0,x1,x2,x3⟩,_⟩:=p1.nN (i:=1) rfl;have HB:Hid (Pool [B] w [[blk B [ag (bs r1)]],bC p L] _):=hide ((p1.drop (i:=1) rfl).cast (by simp));clear p1;unfold eD;go_wp2_with fail;refine bodyPost_ret (v:=aj #[ae au n,af p.aa L.aI.length p.ca,af p.ha L.az.length p.ch,af p.sa L.aH.length p.cs]) (by simp[results,results113,go_sem,x0,x1,x2,x3]) rfl (.inl ⟨n,L,p,r,r1,HS.out,HL.out,HI.out,rfl,HB.out⟩)
    ·have HNo:=hide hno;have HR5:=hide (HP4.iF.trans hr9);clear hno hr9 HP4 fb;unfold dx;go_wp2_with fail;refine⟨rfl,.inr ⟨fun m D r' r1 hm hD=>?_,rfl,_,HR5.out⟩⟩;obtain⟨_,rfl⟩:=hm.inj HS.out;exact HNo.out _ _ hD
 ·have HN:Hid (∀n,¬ jF (aX l) n):=hide (fun n h=>hn ⟨n,h⟩);clear hn;go_wp2_with fail;refine(r9 _ (aX l) t v _ ((HG.mV HP2.iF).env HE.out) (by omega) HN.out).mono ?_;rintro e w3⟨rfl,hb3⟩;have HR3:=hide (HP2.iF.below hb3);clear hb3;unfold dx;go_wp2_with fail;exact⟨rfl,.inr ⟨fun m D r r1 hm _=>HN.out m hm.1,rfl,_,HR3.out⟩⟩
theorem N8(B FB:Nat)(l:List UInt8)(t td:TypeId)(v vd:Value)(w0 w:World)(E:Env t v w0)(h:Rg w0 B l w)(hF:w0.cell? ⟨FB,0,none⟩=some (.func (.func 93) #[] #[]))(hl:l.length<=1048576) :
  Calls prog 123 #[ai (some ⟨B,0,none⟩),ai (some ⟨FB,0,none⟩)] w fun e w'=>Ut B l t v w e w':=by
 have HE:=hide E;have HG:=hide h;have HF:=hide hF;have HP0:Hid (Pool [B] w [[blk B [ag (bs l)]],[],[]] w):=hide ((Pool.of (Star.ou h.r)).cast (by simp));have hrl:=jG l;have hwl:=iQ l;clear E h hF;go_enter func123,ntmps123;go_upto_region 1 with fail
 refine bg (fun W1 hW1=>?_);obtain⟨C,hC⟩:∃C,C=w.heap.size:=⟨_,rfl⟩;have HP1:Hid (Pool [B] w [[blk B [ag (bs l)]],[blk C [ae au 0,ae au 0,ae au 0,ag ⟨#[]⟩,ag ⟨#[]⟩,ae au 0,ae au 0]],[]] W1):=hide (by
  have p1:=HP0.aY (i:=1) rfl [ae au 0,ae au 0,ae au 0,ag ⟨#[]⟩,ag ⟨#[]⟩,ae au 0,ae au 0] 156;rw[hC,hW1];exact p1)
 rw[<-hC];clear hW1 HP0 hC;go_wp2_with fail;refine(rY B l _ (HP1.aB (i:=0) rfl) hl).mono ?_;rintro e w2⟨rfl,hr2⟩;have HP2:Hid (Pool [B] w [[blk B [ag (bs (bK l))]],[blk C [ae au 0,ae au 0,ae au 0,ag ⟨#[]⟩,ag ⟨#[]⟩,ae au 0,ae au 0]],[]] w2):=hide (HP1.rd hr2);clear hr2 HP1;by_cases hn:∃n,jF (aX l) n
 ·obtain⟨n,hn⟩:=hn;have HN:=hide hn;clear hn;go_wp2_with fail;refine(qo _ (aX l) n t v _ ((HG.mV HP2.iF).env HE.out) HN.out).mono ?_;rintro e w3⟨rfl,hb3⟩;have HP3:=hide (HP2.keep hb3);clear hb3 HP2;go_wp2_with fail;refine(bH n 0 1000000000 _).mono ?_;rintro e y⟨rfl,hy⟩;rw[hy];clear hy y;cases hb:eu 0 1000000000 n
  ·have HNb:Hid (¬ (0<=n/\n<=1000000000)):=hide (fun z=>by simp[eu,z.1,z.2] at hb);clear hb;go_wp2_with fail;refine(gK _ t v _ ((HG.mV HP3.iF).env HE.out)).mono ?_;rintro e y⟨rfl,hy⟩;rw[hy];clear hy;have HR5:=hide HP3.iF;unfold dx;go_wp2_with fail;refine⟨rfl,.inr ⟨fun m D r r1 hm _=>?_,rfl,_,HR5.out⟩⟩;rw[hm.1.inj HN.out] at hm;exact HNb.out hm.2.1
  ·have HNb:Hid (0<=n/\n<=1000000000):=hide (by simpa[eu] using hb);clear hb;go_wp2_with fail;refine(gZ B (bK l) [10] _ (HP3.aB (i:=0) rfl)).mono ?_;rintro e w4⟨rfl,hr4⟩;cases hp:Lib.hasPrefix (bK l) [10]
   ·have HNo:=hide hp;have HR5:=hide (HP3.iF.trans hr4);have HEy:Hid (Env t v w4):=hide ((HG.mV (HP3.iF.trans hr4)).env HE.out);clear hr4 hp HP3;go_wp2_with fail;refine(gK _ t v _ HEy.out).mono ?_;rintro e y⟨rfl,hy⟩;rw[hy];clear hy;unfold dx;go_wp2_with fail;refine⟨rfl,.inr ⟨fun m D r r1 hm _=>?_,rfl,_,HR5.out⟩⟩;have z:=HNo.out;rw[hm.2.2] at z;simp[Lib.hasPrefix] at z
   ·obtain⟨r,hr⟩:∃r,r=Lib.trimPrefix (bK l) [10]:=⟨_,rfl⟩;have hsp:=iq hp;rw[<-hr] at hsp hr4;have HS:Hid (oQ l n r):=hide ⟨HN.out,HNb.out,hsp⟩;have hlr:r.length<=1048576:=by have:=congrArg List.length hsp;simp at this;omega
    have HP4:Hid (Pool [B] w [[blk B [ag (bs r)]],[blk C [ae au 0,ae au 0,ae au 0,ag ⟨#[]⟩,ag ⟨#[]⟩,ae au 0,ae au 0]],[]] w4):=hide (HP3.rd hr4);clear hr4 hp hsp hr HP3;go_wp2_with fail;refine(fA _ _).mono ?_;rintro e y⟨rfl,hy⟩;rw[hy];clear hy y;have fb:=aN (HG.mV HP4.iF).b _ _ HF.out;go_wp2_with fail;refine(yB B r t v w0 _ HE.out (HG.mV HP4.iF) hlr).mono ?_;rintro e w5(⟨c,r1,hL,rfl,hp5⟩|⟨hno,rfl,l9,hr9⟩)
    ·have HL:=hide hL;have HP5:Hid (Pool [B] w [[blk B [ag (bs r1)]],[blk C [ae au 0,ae au 0,ae au 0,ag ⟨#[]⟩,ag ⟨#[]⟩,ae au 0,ae au 0]],[]] w5):=hide (HP4.rd hp5);clear hL hp5 HP4 fb;obtain⟨⟨z0,z1,z2,z3,z4,z5,z6⟩,y0,y1,y2,y3,y4,y5,y6⟩:=HP5.kT (i:=1) rfl;have p1:=HP5.Es (i:=1) rfl (ae au n) (ae au c.id) (ae au c.kind) (ag c.fr) (ag c.«to») (ae au c.am) (ae au c.ref);obtain⟨⟨x0,x1,x2,x3,x4,x5,x6⟩,_⟩:=p1.kT (i:=1) rfl;have HB:Hid (jE B r1 w _):=hide (p1.iF);clear p1;unfold Cm.v;go_wp2_with fail;refine bodyPost_ret (v:=aj #[ae au n,ae au c.id,ae au c.kind,ag c.fr,ag c.«to»,ae au c.am,ae au c.ref]) (by simp[results,results123,go_sem,x0,x1,x2,x3,x4,x5,x6]) rfl (.inl ⟨n,c,r,r1,HS.out,HL.out,rfl,HB.out⟩)
    ·have HNo:=hide hno;have HR5:=hide (HP4.iF.trans hr9);clear hno hr9 HP4 fb;unfold dx;go_wp2_with fail;refine⟨rfl,.inr ⟨fun m D r' r1 hm hD=>?_,rfl,_,HR5.out⟩⟩;obtain⟨_,rfl⟩:=hm.inj HS.out;exact HNo.out _ _ hD
 ·have HN:Hid (∀n,¬ jF (aX l) n):=hide (fun n h=>hn ⟨n,h⟩);clear hn;go_wp2_with fail;refine(r9 _ (aX l) t v _ ((HG.mV HP2.iF).env HE.out) (by omega) HN.out).mono ?_;rintro e w3⟨rfl,hb3⟩;have HR3:=hide (HP2.iF.below hb3);clear hb3;unfold dx;go_wp2_with fail;exact⟨rfl,.inr ⟨fun m D r r1 hm _=>HN.out m hm.1,rfl,_,HR3.out⟩⟩
theorem Sg(p q:Addr)(w:World) :
  CallsD prog 145 #[ai (some p),ai (some q)] .returning w fun e u' w'=>e=.returned (.tuple #[])/\u'=.returning/\w'=w:=by
 refine callsD_of_wpS func145 rfl fun c₀ cs hu=>?_
 apply wpS_seq;apply wpS_region;simp[wpOpsS,go_sem,recoverD,hu,ntmps145,Exit.thenS];refine wpS_cond (t:=false) (by simp[Act.eval,Array.replicate]) ?_;simp only[Bool.false_eq_true,if_false];refine wpS_of_wp (wp_skip ?_);cases c₀;simp_all[bodyPostS,results,results145]
theorem Mv(A R:Nat)(m:Int)(a0 a1 a2:Option Addr)(n0 c0 n1 c1 n2 c2:Nat)(b:Bool)(u:TypeId)(pv:Value)(older:List PanicEntry)(w0 w:World)(S:List (List Rs))(h:Pool [] w0 ([blk A [ae au m,af a0 n0 c0,af a1 n1 c1,af a2 n2 c2]]::[blk R [.bool b]]::S) w) :
  CallsD prog 145 #[ai (some ⟨A,0,none⟩),ai (some ⟨R,0,none⟩)] (.panicking ({v:=.iface u pv,recovered:=false}::older)) w fun e u' w' =>
   e=.returned (.tuple #[])/\u'=.panicking ({v:=.iface u pv,recovered:=true}::older)/\Pool [] w0 ([blk A [ae au 0,af none 0 0,af none 0 0,af none 0 0]]::[blk R [.bool false]]::S) w':=by
 have HP:=hide h;clear h;refine callsD_of_wpS func145 rfl fun c₀ cs hu=>?_
 apply wpS_seq;apply wpS_region;simp[wpOpsS,go_sem,recoverD,hu,ntmps145,Exit.thenS];refine wpS_cond (t:=true) (by simp[Act.eval,Array.replicate]) ?_;simp only[if_true];refine wpS_of_wp ?_;go_upto_region 2 with fail
 refine bg (fun W1 hW1=>?_);have e_0:W1.cell? ⟨w.heap.size,0,none⟩=some (ae au 0):=by rw[hW1];simp
 have e_1:W1.cell? ⟨w.heap.size,1,none⟩=some (af none 0 0):=by rw[hW1];simp
 have e_2:W1.cell? ⟨w.heap.size,2,none⟩=some (af none 0 0):=by rw[hW1];simp
 have e_3:W1.cell? ⟨w.heap.size,3,none⟩=some (af none 0 0):=by rw[hW1];simp
 have h1:Pool [] w0 ([blk A [ae au m,af a0 n0 c0,af a1 n1 c1,af a2 n2 c2]]::[blk R [.bool b]]::S) W1:=by rw[hW1];exact HP.alloc _
 clear hW1;obtain⟨⟨z0,z1,z2,z3⟩,y0,y1,y2,y3⟩:=h1.nN (i:=0) rfl;have q_0:=(h1.aB (i:=1) rfl).c 0 _ rfl;have p_0:=(h1.aB (i:=1) rfl).f 0;have h2:=h1.za (i:=0) rfl (ae au 0) (af none 0 0) (af none 0 0) (af none 0 0);have q_0:=(h2.aB (i:=1) rfl).c 0 _ rfl;have p_0:=(h2.aB (i:=1) rfl).f 0;have HQ:Hid (Pool [] w0 ([blk A [ae au 0,af none 0 0,af none 0 0,af none 0 0]]::[blk R [.bool false]]::S) _):=hide (h2.aQ (i:=1) rfl 0 (.bool false) (by simp));clear h1 h2;go_wp2;have hq:=HQ.out;simp[bodyPostS,results,results145,hq]
structure TL(l:List UInt8)(n:Int)(L:bM)(p:LP)(b:Bool):Prop where
 yes:b=true->yz l=some (n,L)/\0<=n/\n<=1000000000/\df L=true
 no:b=false->yz l=none/\n=0/\L=cZ/\p=dH
 w:og L
 pl:jr p L
 sz:L.aI.length<=1048576/\L.az.length<=1048576/\L.aH.length<=1048576
def RA(l:List UInt8)(w:World)(e:Ending)(w':World):Prop :=
 ∃n L p b,TL l n L p b/\e=.returned (.tuple #[aj #[ae au n,af p.aa L.aI.length p.ca,af p.ha L.az.length p.ch,af p.sa L.aH.length p.cs],.bool b])/\Pool [] w [bC p L] w'
theorem Mf{l:List UInt8}{w w':World}(h:∀n L r,oQ l n r->¬ tH r L [])(hp:Pool [] w [] w'):RA l w (.returned (.tuple #[aj #[ae au 0,af none 0 0,af none 0 0,af none 0 0],.bool false])) w' :=
 ⟨0,cZ,dH,false,⟨nofun,fun _=>⟨wP h,rfl,rfl,rfl⟩,wC,ib,by simp[cZ]⟩,rfl,((hp.cast (S':=[[]]) (by simp)).lq (i:=0) rfl).cast (by simp)⟩
theorem F8(l:List UInt8)(FB:Nat)(t td:TypeId)(v vd:Value)(w:World)(E:Env t v w)(ED:w.cell? ⟨5,0,none⟩=some (.iface td vd))(hF:w.cell? ⟨FB,0,none⟩=some (.func (.func 91) #[] #[]))(hl:l.length<=1048576) :
  Calls prog 112 #[ag (bs l),.func (.func 113) #[] #[ai (some ⟨FB,0,none⟩)]] w fun e w'=>RA l w e w':=by
 have HE:=hide E;have HD:=hide ED;have HF:=hide hF;clear E hF ED;have hmf:∀(fn:Fn)(first cap:Array Value)(w:World),(Instr.makeFunc fn first cap).run prog w=.ok (.func fn first cap) w:=fun _ _ _ _=>rfl
 go_enter_defers func112,ntmps112;go_upto_region 3 with fail
 refine bg (fun W3 hW3=>?_);have HP3:Hid (Pool [] w [[blk w.heap.size [ae au 0,af none 0 0,af none 0 0,af none 0 0]],[blk (w.heap.size+1) [.bool false]],[blk (w.heap.size+1+1) [ag (bs l)]],[]] W3):=hide (by
  have p1:=(Pool.start w [[],[],[],[]] rfl).aY (i:=0) rfl [ae au 0,af none 0 0,af none 0 0,af none 0 0] 150;have s1:(w.alloc (.cells ([ae au 0,af none 0 0,af none 0 0,af none 0 0]:List Value).toArray 150)).heap.size=w.heap.size+1:=by simp
  have p2:=p1.aY (i:=1) rfl [.bool false] 4;rw[s1] at p2;have s2:((w.alloc (.cells ([ae au 0,af none 0 0,af none 0 0,af none 0 0]:List Value).toArray 150)).alloc (.cells [.bool false].toArray 4)).heap.size=w.heap.size+1+1:=by simp
  have p3:=p2.aY (i:=2) rfl [ag (bs l)] 210;rw[s2] at p3;rw[hW3];exact p3)
 clear hW3;obtain⟨A,hA⟩:∃A,A=w.heap.size:=⟨_,rfl⟩;obtain⟨R,hR⟩:∃R,R=w.heap.size+1:=⟨_,rfl⟩;obtain⟨B,hB⟩:∃B,B=w.heap.size+1+1:=⟨_,rfl⟩;rw[<-hB,<-hR,<-hA] at HP3;rw[<-hB,<-hR,<-hA];have HBB:Hid (w.heap.size<=B):=hide (by omega);clear hA hR hB;go_wp2_with fail;refine(NZ B FB l t td v vd w W3 HE.out HD.out ⟨HP3.below,HBB.out,HP3.aB (i:=2) rfl⟩ HF.out hl).mono ?_;rintro e w4(⟨n,L,p,r0,r,hent,hp,hi,rfl,hr⟩|⟨hno,rfl,l5,hr⟩)
 ·have HEn:=hide hent;have HPr:=hide hp;have HI:=hide hi;have HP4:Hid (Pool [] w [[blk A [ae au 0,af none 0 0,af none 0 0,af none 0 0]],[blk R [.bool false]],[blk B [ag (bs r)]],bC p L] w4):=hide (by
   have z:=HP3.call (i:=2) (rs:=[blk B [ag (bs l)]]) (rs':=[blk B [ag (bs r)]]++bC p L) rfl (by simpa[ic,blk] using hr.cast (S':=[[blk B [ag (bs r)]]++bC p L]) (by simp));exact z.cast (by simp))
  clear hp hr HP3 hi hent;obtain⟨⟨z0,z1,z2,z3⟩,y0,y1,y2,y3⟩:=HP4.nN (i:=0) rfl;go_upto_region 4 with fail
  refine bg (fun W5 hW5=>?_);have HP5:Hid (Pool [] w [[blk A [ae au n,af p.aa L.aI.length p.ca,af p.ha L.az.length p.ch,af p.sa L.aH.length p.cs]],[blk R [.bool false]],[blk B [ag (bs r)]],bC p L] W5):=hide (by
   have p1:=HP4.za (i:=0) rfl (ae au n) (af p.aa L.aI.length p.ca) (af p.ha L.az.length p.ch) (af p.sa L.aH.length p.cs);rw[hW5];exact p1)
  clear hW5 HP4 z0 z1 z2 z3 y0 y1 y2 y3;have d_0:=(HP5.aB (i:=2) rfl).c 0 _ rfl;cases hr:r.isEmpty
  ·have hr':(bs r).toList.isEmpty=false:=by rw[gY];exact hr
   have HNr:Hid (r≠[]):=hide (fun z=>by rw[z] at hr;cases hr);clear hr;go_wp2_with fail;refine(gK _ t v _ (HE.below HP5.below)).mono ?_;rintro e w6⟨rfl,hw⟩;rw[hw];clear hw;unfold dx;go_wp2_with fail;refine leaves_cons (f:=145) (args:=#[ai (some ⟨A,0,none⟩),ai (some ⟨R,0,none⟩)]) (by simp) (by simp[go_sem]) ?_;refine(Mv A R _ _ _ _ _ _ _ _ _ _ false t v [] w _ _ HP5.out).mono ?_;rintro e u' w7⟨rfl,rfl,hp7⟩;obtain⟨⟨z0,z1,z2,z3⟩,_⟩:=hp7.nN (i:=0) rfl;have q0:=(hp7.aB (i:=1) rfl).c 0 _ rfl;have hfin:RA l w (.returned (.tuple #[aj #[ae au 0,af none 0 0,af none 0 0,af none 0 0],.bool false])) w7:=by
    refine Mf (fun m D s hm hD=>?_) (((((hp7.drop (i:=0) rfl).drop (i:=1) rfl).drop (i:=2) rfl).drop (i:=3) rfl).cast (by simp));obtain⟨_,rfl⟩:=hm.inj HEn.out;exact HNr.out (HPr.inj hD).2
   simp[Leaves,settle,results,results112,go_sem,z0,z1,z2,z3,q0,hfin]
  ·have hr':(bs r).toList.isEmpty=true:=by rw[gY];exact hr
   have HNr:Hid (r=[]):=hide (by simpa using hr);clear hr;go_wp2_with fail;refine(fA _ _).mono ?_;rintro e w6⟨rfl,hw⟩;rw[hw];clear hw;obtain⟨⟨z0,z1,z2,z3⟩,y0,y1,y2,y3⟩:=HP5.nN (i:=0) rfl;have p2:=HP5.za (i:=0) rfl (ae au n) (af p.aa L.aI.length p.ca) (af p.ha L.az.length p.ch) (af p.sa L.aH.length p.cs);have q0:=(p2.aB (i:=1) rfl).c 0 _ rfl;have qf:=(p2.aB (i:=1) rfl).f 0;have p3:=p2.aQ (i:=1) rfl 0 (.bool true) (by simp);have HP8:=hide p3;clear p2 p3;go_wp2_with fail;refine leaves_cons (f:=145) (args:=#[ai (some ⟨A,0,none⟩),ai (some ⟨R,0,none⟩)]) (by simp) (by simp[go_sem]) ?_;refine(Sg _ _ _).mono ?_;rintro e u' w7⟨rfl,rfl,hw7⟩;have hp7:=HP8.out;rw[<-hw7] at hp7;clear hw7;obtain⟨⟨x0,x1,x2,x3⟩,_⟩:=hp7.nN (i:=0) rfl;have g0:=(hp7.aB (i:=1) rfl).c 0 _ rfl;have hfin:RA l w (.returned (.tuple #[aj #[ae au n,af p.aa L.aI.length p.ca,af p.ha L.az.length p.ch,af p.sa L.aH.length p.cs],.bool true])) w7:=⟨n,L,p,true,⟨fun _=>⟨Cf HEn.out (HNr.out▸HPr.out),HEn.2.1.1,HEn.2.1.2,(wG (HNr.out▸HPr.out:tH r0 L [])).2⟩,nofun,HI.1,HI.2.1,HI.2.2⟩,rfl,(((hp7.drop (i:=0) rfl).drop (i:=1) rfl).drop (i:=2) rfl).cast (by simp)⟩;simp[Leaves,settle,results,results112,go_sem,x0,x1,x2,x3,g0,hfin]
 ·have HNo:=hide hno;have HP4:Hid (Pool [] w [[blk A [ae au 0,af none 0 0,af none 0 0,af none 0 0]],[blk R [.bool false]],[blk B [ag (bs l5)]],[]] w4):=hide (HP3.QE (i:=2) rfl hr);clear hno hr HP3;unfold dx;go_wp2_with fail;refine leaves_cons (f:=145) (args:=#[ai (some ⟨A,0,none⟩),ai (some ⟨R,0,none⟩)]) (by simp) (by simp[go_sem]) ?_;refine(Mv A R _ _ _ _ _ _ _ _ _ _ false t v [] w _ _ HP4.out).mono ?_;rintro e u' w7⟨rfl,rfl,hp7⟩;obtain⟨⟨z0,z1,z2,z3⟩,_⟩:=hp7.nN (i:=0) rfl;have q0:=(hp7.aB (i:=1) rfl).c 0 _ rfl;have hfin:RA l w (.returned (.tuple #[aj #[ae au 0,af none 0 0,af none 0 0,af none 0 0],.bool false])) w7:=Mf (fun m D s hm hD=>HNo.out m D s [] hm hD) (((((hp7.drop (i:=0) rfl).drop (i:=1) rfl).drop (i:=2) rfl).drop (i:=3) rfl).cast (by simp));simp[Leaves,settle,results,results112,go_sem,z0,z1,z2,z3,q0,hfin]
theorem H9(l:List UInt8)(t td:TypeId)(v vd:Value)(w:World)(E:Env t v w)(ED:w.cell? ⟨5,0,none⟩=some (.iface td vd))(hl:l.length<=1048576) :
  Calls prog 90 #[ag (bs l),.func (.func 91) #[] #[]] w fun e w'=>RA l w e w':=by
 have HE:=hide E;have HD:=hide ED;clear E ED;have hmf:∀(fn:Fn)(first cap:Array Value)(w:World),(Instr.makeFunc fn first cap).run prog w=.ok (.func fn first cap) w:=fun _ _ _ _=>rfl
 go_enter func90,ntmps90;go_upto_region 1 with fail
 refine bg (fun W1 hW1=>?_);obtain⟨FB,hFB⟩:∃FB,FB=w.heap.size:=⟨_,rfl⟩;obtain⟨C,hC⟩:∃C,C=w.heap.size+1:=⟨_,rfl⟩;have HP1:Hid (Pool [] w [[blk FB [.func (.func 91) #[] #[]]],[blk C [ae au 0,af none 0 0,af none 0 0,af none 0 0]],[]] W1):=hide (by
  have p1:=(Pool.start w [[],[],[]] rfl).aY (i:=0) rfl [.func (.func 91) #[] #[]] 153;have s1:(w.alloc (.cells ([.func (.func 91) #[] #[]]:List Value).toArray 153)).heap.size=w.heap.size+1:=by simp
  have p2:=p1.aY (i:=1) rfl [ae au 0,af none 0 0,af none 0 0,af none 0 0] 150;rw[s1] at p2;rw[<-hC,<-hFB] at p2;rw[hW1];exact p2)
 rw[<-hC,<-hFB];clear hW1 hC hFB;go_wp2_with fail;refine(F8 l FB t td v vd _ (HE.below HP1.below) (aN HP1.below _ _ HD.out) ((HP1.aB (i:=0) rfl).c 0 _ rfl) hl).mono ?_;rintro e w2⟨n,L,p,b,hi,rfl,hp⟩;have HI:=hide hi;have HP2:Hid (Pool [] w [[blk FB [.func (.func 91) #[] #[]]],[blk C [ae au 0,af none 0 0,af none 0 0,af none 0 0]],bC p L] w2):=hide (HP1.call (i:=2) (rs:=[]) rfl (by simpa[ic] using hp));clear hi hp HP1;obtain⟨⟨z0,z1,z2,z3⟩,y0,y1,y2,y3⟩:=HP2.nN (i:=1) rfl;have p1:=HP2.za (i:=1) rfl (ae au n) (af p.aa L.aI.length p.ca) (af p.ha L.az.length p.ch) (af p.sa L.aH.length p.cs);obtain⟨⟨x0,x1,x2,x3⟩,_⟩:=p1.nN (i:=1) rfl;have HB:Hid (Pool [] w [bC p L] _):=hide (((p1.drop (i:=0) rfl).drop (i:=1) rfl).cast (by simp));clear p1;go_wp2_with fail;refine bodyPost_ret (v:=.tuple #[aj #[ae au n,af p.aa L.aI.length p.ca,af p.ha L.az.length p.ch,af p.sa L.aH.length p.cs],.bool b]) (by simp[results,results90,go_sem,x0,x1,x2,x3]) rfl ⟨n,L,p,b,HI.out,rfl,HB.out⟩
theorem idleC(p q:Addr)(w:World) :
  CallsD prog 155 #[ai (some p),ai (some q)] .returning w fun e u' w'=>e=.returned (.tuple #[])/\u'=.returning/\w'=w:=by
 refine callsD_of_wpS func155 rfl fun c₀ cs hu=>?_
 apply wpS_seq;apply wpS_region;simp[wpOpsS,go_sem,recoverD,hu,ntmps155,Exit.thenS];refine wpS_cond (t:=false) (by simp[Act.eval,Array.replicate]) ?_;simp only[Bool.false_eq_true,if_false];refine wpS_of_wp (wp_skip ?_);cases c₀;simp_all[bodyPostS,results,results155]
theorem Mw(A R:Nat)(m:Int)(c:Cm)(b:Bool)(u:TypeId)(pv:Value)(older:List PanicEntry)(w0 w:World)(S:List (List Rs))(h:Pool [] w0 ([blk A [ae au m,ae au c.id,ae au c.kind,ag c.fr,ag c.«to»,ae au c.am,ae au c.ref]]::[blk R [.bool b]]::S) w) :
  CallsD prog 155 #[ai (some ⟨A,0,none⟩),ai (some ⟨R,0,none⟩)] (.panicking ({v:=.iface u pv,recovered:=false}::older)) w fun e u' w' =>
   e=.returned (.tuple #[])/\u'=.panicking ({v:=.iface u pv,recovered:=true}::older)/\Pool [] w0 ([blk A [ae au 0,ae au 0,ae au 0,ag ⟨#[]⟩,ag ⟨#[]⟩,ae au 0,ae au 0]]::[blk R [.bool false]]::S) w':=by
 have HP:=hide h;clear h;refine callsD_of_wpS func155 rfl fun c₀ cs hu=>?_
 apply wpS_seq;apply wpS_region;simp[wpOpsS,go_sem,recoverD,hu,ntmps155,Exit.thenS];refine wpS_cond (t:=true) (by simp[Act.eval,Array.replicate]) ?_;simp only[if_true];refine wpS_of_wp ?_;go_upto_region 2 with fail
 refine bg (fun W1 hW1=>?_);have e_0:W1.cell? ⟨w.heap.size,0,none⟩=some (ae au 0):=by rw[hW1];simp
 have e_1:W1.cell? ⟨w.heap.size,1,none⟩=some (ae au 0):=by rw[hW1];simp
 have e_2:W1.cell? ⟨w.heap.size,2,none⟩=some (ae au 0):=by rw[hW1];simp
 have e_3:W1.cell? ⟨w.heap.size,3,none⟩=some (ag ⟨#[]⟩):=by rw[hW1];simp
 have e_4:W1.cell? ⟨w.heap.size,4,none⟩=some (ag ⟨#[]⟩):=by rw[hW1];simp
 have e_5:W1.cell? ⟨w.heap.size,5,none⟩=some (ae au 0):=by rw[hW1];simp
 have e_6:W1.cell? ⟨w.heap.size,6,none⟩=some (ae au 0):=by rw[hW1];simp
 have h1:Pool [] w0 ([blk A [ae au m,ae au c.id,ae au c.kind,ag c.fr,ag c.«to»,ae au c.am,ae au c.ref]]::[blk R [.bool b]]::S) W1:=by rw[hW1];exact HP.alloc _
 clear hW1;obtain⟨⟨z0,z1,z2,z3,z4,z5,z6⟩,y0,y1,y2,y3,y4,y5,y6⟩:=h1.kT (i:=0) rfl;have q_0:=(h1.aB (i:=1) rfl).c 0 _ rfl;have p_0:=(h1.aB (i:=1) rfl).f 0;have h2:=h1.Es (i:=0) rfl (ae au 0) (ae au 0) (ae au 0) (ag ⟨#[]⟩) (ag ⟨#[]⟩) (ae au 0) (ae au 0);have q_0:=(h2.aB (i:=1) rfl).c 0 _ rfl;have p_0:=(h2.aB (i:=1) rfl).f 0;have HQ:Hid (Pool [] w0 ([blk A [ae au 0,ae au 0,ae au 0,ag ⟨#[]⟩,ag ⟨#[]⟩,ae au 0,ae au 0]]::[blk R [.bool false]]::S) _):=hide (h2.aQ (i:=1) rfl 0 (.bool false) (by simp));clear h1 h2;go_wp2;have hq:=HQ.out;simp[bodyPostS,results,results155,hq]
structure TM(l:List UInt8)(n:Int)(c:Cm)(b:Bool):Prop where
 yes:b=true->Fw l=some (n,c)/\0<=n/\n<=1000000000/\c.B=true
 no:b=false->Fw l=none
def RB(l:List UInt8)(w:World)(e:Ending)(w':World):Prop :=
 ∃n c b,TM l n c b/\e=.returned (.tuple #[aj #[ae au n,ae au c.id,ae au c.kind,ag c.fr,ag c.«to»,ae au c.am,ae au c.ref],.bool b])/\Below w.heap.size w w'
theorem Mg{l:List UInt8}{w w':World}(h:∀n c r,oQ l n r->¬ eH r c [])(hp:Pool [] w [] w'):RB l w (.returned (.tuple #[aj #[ae au 0,ae au 0,ae au 0,ag ⟨#[]⟩,ag ⟨#[]⟩,ae au 0,ae au 0],.bool false])) w' :=
 ⟨0,⟨0,0,⟨#[]⟩,⟨#[]⟩,0,0⟩,false,⟨nofun,fun _=>wQ h⟩,rfl,hp.below⟩
theorem eH.both{l:List UInt8}{c c':Cm}{r r':List UInt8}(h:eH l c r)(k:eH l c' r'):c=c'/\r=r':=by
 have e:=h.inj k;subst e;refine⟨rfl,?_⟩;obtain⟨_,r1,e1,_,h1,_⟩:=h;obtain⟨_,s1,f1,_,k1,_⟩:=k;rw[e1] at f1;cases f1;rcases h1 with ⟨q,r2,e2,_,_,_,_,e3⟩|⟨q,r2,r3,r4,e2,_,e3,_,e4,_,_,e5⟩
 ·rcases k1 with ⟨_,s2,f2,_,_,_,_,f3⟩|⟨q',_⟩
  ·rw[e2] at f2;cases f2;rw[e3,f3]
  ·exact absurd q q'
 ·rcases k1 with ⟨q',_⟩|⟨_,s2,s3,s4,f2,_,f3,_,f4,_,_,f5⟩
  ·exact absurd q' q
  ·rw[e2] at f2;cases f2;rw[e3] at f3;cases f3;rw[e4] at f4;cases f4;rw[e5,f5]
theorem F9(l:List UInt8)(FB:Nat)(t td:TypeId)(v vd:Value)(w:World)(E:Env t v w)(hF:w.cell? ⟨FB,0,none⟩=some (.func (.func 93) #[] #[]))(hl:l.length<=1048576) :
  Calls prog 122 #[ag (bs l),.func (.func 123) #[] #[ai (some ⟨FB,0,none⟩)]] w fun e w'=>RB l w e w':=by
 have HE:=hide E;have HF:=hide hF;clear E hF;have hmf:∀(fn:Fn)(first cap:Array Value)(w:World),(Instr.makeFunc fn first cap).run prog w=.ok (.func fn first cap) w:=fun _ _ _ _=>rfl
 go_enter_defers func122,ntmps122;go_upto_region 3 with fail
 refine bg (fun W3 hW3=>?_);have HP3:Hid (Pool [] w [[blk w.heap.size [ae au 0,ae au 0,ae au 0,ag ⟨#[]⟩,ag ⟨#[]⟩,ae au 0,ae au 0]],[blk (w.heap.size+1) [.bool false]],[blk (w.heap.size+1+1) [ag (bs l)]],[]] W3):=hide (by
  have p1:=(Pool.start w [[],[],[],[]] rfl).aY (i:=0) rfl [ae au 0,ae au 0,ae au 0,ag ⟨#[]⟩,ag ⟨#[]⟩,ae au 0,ae au 0] 156;have s1:(w.alloc (.cells ([ae au 0,ae au 0,ae au 0,ag ⟨#[]⟩,ag ⟨#[]⟩,ae au 0,ae au 0]:List Value).toArray 156)).heap.size=w.heap.size+1:=by simp
  have p2:=p1.aY (i:=1) rfl [.bool false] 4;rw[s1] at p2;have s2:((w.alloc (.cells ([ae au 0,ae au 0,ae au 0,ag ⟨#[]⟩,ag ⟨#[]⟩,ae au 0,ae au 0]:List Value).toArray 156)).alloc (.cells [.bool false].toArray 4)).heap.size=w.heap.size+1+1:=by simp
  have p3:=p2.aY (i:=2) rfl [ag (bs l)] 210;rw[s2] at p3;rw[hW3];exact p3)
 clear hW3;obtain⟨A,hA⟩:∃A,A=w.heap.size:=⟨_,rfl⟩;obtain⟨R,hR⟩:∃R,R=w.heap.size+1:=⟨_,rfl⟩;obtain⟨B,hB⟩:∃B,B=w.heap.size+1+1:=⟨_,rfl⟩;rw[<-hB,<-hR,<-hA] at HP3;rw[<-hB,<-hR,<-hA];have HBB:Hid (w.heap.size<=B):=hide (by omega);clear hA hR hB;go_wp2_with fail;refine(N8 B FB l t td v vd w W3 HE.out ⟨HP3.below,HBB.out,HP3.aB (i:=2) rfl⟩ HF.out hl).mono ?_;rintro e w4(⟨n,c,r0,r,hent,hp,rfl,hr⟩|⟨hno,rfl,l5,hr⟩)
 ·have HEn:=hide hent;have HPr:=hide hp;have HP4:Hid (Pool [] w [[blk A [ae au 0,ae au 0,ae au 0,ag ⟨#[]⟩,ag ⟨#[]⟩,ae au 0,ae au 0]],[blk R [.bool false]],[blk B [ag (bs r)]],[]] w4):=hide (HP3.QE (i:=2) rfl hr);clear hp hr HP3 hent;obtain⟨⟨z0,z1,z2,z3,z4,z5,z6⟩,y0,y1,y2,y3,y4,y5,y6⟩:=HP4.kT (i:=0) rfl;go_upto_region 4 with fail
  refine bg (fun W5 hW5=>?_);have HP5:Hid (Pool [] w [[blk A [ae au n,ae au c.id,ae au c.kind,ag c.fr,ag c.«to»,ae au c.am,ae au c.ref]],[blk R [.bool false]],[blk B [ag (bs r)]],[]] W5):=hide (by
   have p1:=HP4.Es (i:=0) rfl (ae au n) (ae au c.id) (ae au c.kind) (ag c.fr) (ag c.«to») (ae au c.am) (ae au c.ref);rw[hW5];exact p1)
  clear hW5 HP4 z0 z1 z2 z3 z4 z5 z6 y0 y1 y2 y3 y4 y5 y6;have d_0:=(HP5.aB (i:=2) rfl).c 0 _ rfl;cases hr:r.isEmpty
  ·have hr':(bs r).toList.isEmpty=false:=by rw[gY];exact hr
   have HNr:Hid (r≠[]):=hide (fun z=>by rw[z] at hr;cases hr);clear hr;go_wp2_with fail;refine(gK _ t v _ (HE.below HP5.below)).mono ?_;rintro e w6⟨rfl,hw⟩;rw[hw];clear hw;unfold dx;go_wp2_with fail;refine leaves_cons (f:=155) (args:=#[ai (some ⟨A,0,none⟩),ai (some ⟨R,0,none⟩)]) (by simp) (by simp[go_sem]) ?_;refine(Mw A R _ _ false t v [] w _ _ HP5.out).mono ?_;rintro e u' w7⟨rfl,rfl,hp7⟩;obtain⟨⟨z0,z1,z2,z3,z4,z5,z6⟩,_⟩:=hp7.kT (i:=0) rfl;have q0:=(hp7.aB (i:=1) rfl).c 0 _ rfl;have hfin:RB l w (.returned (.tuple #[aj #[ae au 0,ae au 0,ae au 0,ag ⟨#[]⟩,ag ⟨#[]⟩,ae au 0,ae au 0],.bool false])) w7:=by
    refine Mg (fun m D s hm hD=>?_) (((((hp7.drop (i:=0) rfl).drop (i:=1) rfl).drop (i:=2) rfl).drop (i:=3) rfl).cast (by simp));obtain⟨_,rfl⟩:=hm.inj HEn.out;exact HNr.out (HPr.both hD).2
   simp[Leaves,settle,results,results122,go_sem,z0,z1,z2,z3,z4,z5,z6,q0,hfin]
  ·have hr':(bs r).toList.isEmpty=true:=by rw[gY];exact hr
   have HNr:Hid (r=[]):=hide (by simpa using hr);clear hr;go_wp2_with fail;refine(fA _ _).mono ?_;rintro e w6⟨rfl,hw⟩;rw[hw];clear hw;obtain⟨⟨z0,z1,z2,z3,z4,z5,z6⟩,y0,y1,y2,y3,y4,y5,y6⟩:=HP5.kT (i:=0) rfl;have p2:=HP5.Es (i:=0) rfl (ae au n) (ae au c.id) (ae au c.kind) (ag c.fr) (ag c.«to») (ae au c.am) (ae au c.ref);have q0:=(p2.aB (i:=1) rfl).c 0 _ rfl;have qf:=(p2.aB (i:=1) rfl).f 0;have p3:=p2.aQ (i:=1) rfl 0 (.bool true) (by simp);have HP8:=hide p3;clear p2 p3;go_wp2_with fail;refine leaves_cons (f:=155) (args:=#[ai (some ⟨A,0,none⟩),ai (some ⟨R,0,none⟩)]) (by simp) (by simp[go_sem]) ?_;refine(idleC _ _ _).mono ?_;rintro e u' w7⟨rfl,rfl,hw7⟩;have hp7:=HP8.out;rw[<-hw7] at hp7;clear hw7;obtain⟨⟨x0,x1,x2,x3,x4,x5,x6⟩,_⟩:=hp7.kT (i:=0) rfl;have g0:=(hp7.aB (i:=1) rfl).c 0 _ rfl;have hfin:RB l w (.returned (.tuple #[aj #[ae au n,ae au c.id,ae au c.kind,ag c.fr,ag c.«to»,ae au c.am,ae au c.ref],.bool true])) w7:=⟨n,c,true,⟨fun _=>⟨Cg HEn.out (HNr.out▸HPr.out),HEn.2.1.1,HEn.2.1.2,(HPr.2.choose_spec.2.2.2)⟩,nofun⟩,rfl,hp7.below⟩;simp[Leaves,settle,results,results122,go_sem,x0,x1,x2,x3,x4,x5,x6,g0,hfin]
 ·have HNo:=hide hno;have HP4:Hid (Pool [] w [[blk A [ae au 0,ae au 0,ae au 0,ag ⟨#[]⟩,ag ⟨#[]⟩,ae au 0,ae au 0]],[blk R [.bool false]],[blk B [ag (bs l5)]],[]] w4):=hide (HP3.QE (i:=2) rfl hr);clear hno hr HP3;unfold dx;go_wp2_with fail;refine leaves_cons (f:=155) (args:=#[ai (some ⟨A,0,none⟩),ai (some ⟨R,0,none⟩)]) (by simp) (by simp[go_sem]) ?_;refine(Mw A R 0 ⟨0,0,⟨#[]⟩,⟨#[]⟩,0,0⟩ false t v [] w _ _ HP4.out).mono ?_;rintro e u' w7⟨rfl,rfl,hp7⟩;obtain⟨⟨z0,z1,z2,z3,z4,z5,z6⟩,_⟩:=hp7.kT (i:=0) rfl;have q0:=(hp7.aB (i:=1) rfl).c 0 _ rfl;have hfin:RB l w (.returned (.tuple #[aj #[ae au 0,ae au 0,ae au 0,ag ⟨#[]⟩,ag ⟨#[]⟩,ae au 0,ae au 0],.bool false])) w7:=Mg (fun m D s hm hD=>HNo.out m D s [] hm hD) (((((hp7.drop (i:=0) rfl).drop (i:=1) rfl).drop (i:=2) rfl).drop (i:=3) rfl).cast (by simp));simp[Leaves,settle,results,results122,go_sem,z0,z1,z2,z3,z4,z5,z6,q0,hfin]
theorem Ia(l:List UInt8)(t td:TypeId)(v vd:Value)(w:World)(E:Env t v w)(hl:l.length<=1048576) :
  Calls prog 92 #[ag (bs l),.func (.func 93) #[] #[]] w fun e w'=>RB l w e w':=by
 have HE:=hide E;clear E;have hmf:∀(fn:Fn)(first cap:Array Value)(w:World),(Instr.makeFunc fn first cap).run prog w=.ok (.func fn first cap) w:=fun _ _ _ _=>rfl
 go_enter func92,ntmps92;go_upto_region 1 with fail
 refine bg (fun W1 hW1=>?_);obtain⟨FB,hFB⟩:∃FB,FB=w.heap.size:=⟨_,rfl⟩;obtain⟨C,hC⟩:∃C,C=w.heap.size+1:=⟨_,rfl⟩;have HP1:Hid (Pool [] w [[blk FB [.func (.func 93) #[] #[]]],[blk C [ae au 0,ae au 0,ae au 0,ag ⟨#[]⟩,ag ⟨#[]⟩,ae au 0,ae au 0]],[]] W1):=hide (by
  have p1:=(Pool.start w [[],[],[]] rfl).aY (i:=0) rfl [.func (.func 93) #[] #[]] 159;have s1:(w.alloc (.cells ([.func (.func 93) #[] #[]]:List Value).toArray 159)).heap.size=w.heap.size+1:=by simp
  have p2:=p1.aY (i:=1) rfl [ae au 0,ae au 0,ae au 0,ag ⟨#[]⟩,ag ⟨#[]⟩,ae au 0,ae au 0] 156;rw[s1] at p2;rw[<-hC,<-hFB] at p2;rw[hW1];exact p2)
 rw[<-hC,<-hFB];clear hW1 hC hFB;go_wp2_with fail;refine(F9 l FB t td v vd _ (HE.below HP1.below) ((HP1.aB (i:=0) rfl).c 0 _ rfl) hl).mono ?_;rintro e w2⟨n,c,b,hi,rfl,hp⟩;have HI:=hide hi;have HP2:=hide (HP1.keep hp);clear hi hp HP1;obtain⟨⟨z0,z1,z2,z3,z4,z5,z6⟩,y0,y1,y2,y3,y4,y5,y6⟩:=HP2.kT (i:=1) rfl;have p1:=HP2.Es (i:=1) rfl (ae au n) (ae au c.id) (ae au c.kind) (ag c.fr) (ag c.«to») (ae au c.am) (ae au c.ref);obtain⟨⟨x0,x1,x2,x3,x4,x5,x6⟩,_⟩:=p1.kT (i:=1) rfl;have HB:Hid (Below w.heap.size w _):=hide p1.below;clear p1;go_wp2_with fail;refine bodyPost_ret (v:=.tuple #[aj #[ae au n,ae au c.id,ae au c.kind,ag c.fr,ag c.«to»,ae au c.am,ae au c.ref],.bool b]) (by simp[results,results92,go_sem,x0,x1,x2,x3,x4,x5,x6]) rfl ⟨n,c,b,HI.out,rfl,HB.out⟩
end Go.Proofs.YtdbmmdecclalgaaGreatDoor
