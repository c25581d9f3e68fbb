import Derived.Test.YtdbmmdecclalgaaGreatDoorQas
import Derived.Defers
import Derived.Recover
import Derived.Test.YtdbmmdecclalgaaGreatDoorQam
import Derived.Test.YtdbmmdecclalgaaGreatDoorQar
import Derived.Test.YtdbmmdecclalgaaGreatDoorQaf
namespace Go.Proofs.YtdbmmdecclalgaaGreatDoor
open Go.Value renaming string → ag, int → ae, pointer → ai
open Go.IntKind renaming i64 → au
open Go.ChangeShapes Go.WideShapes Go.ChangeAt Go.RowKit Go.Lib Go.Proofs.Tryz
set_option linter.unusedVariables false
set_option maxRecDepth 100000
set_option maxHeartbeats 16000000
theorem Pool.QE{F:List Nat}{B:Nat}{w x y:World}{l l':List UInt8}{S:List (List Rs)}(h:Pool F w S x){i:Nat}(hi:S[i]?=some [blk B [ag (bs l)]])(k:jE B l' x y):Pool F w (S.set i [blk B [ag (bs l')]]) y :=
 h.step hi (by simpa[ic,blk] using k.2) (Star.ou k.1) (fun b hb=>.inl hb)
theorem Pool.cells3{F:List Nat}{w x:World}{S:List (List Rs)}(h:Pool F w S x){i A:Nat}{v0 v1 v2:Value}(hi:S[i]?=some [blk A [v0,v1,v2]]) :
  (x.cell? ⟨A,0,none⟩=some v0/\x.cell? ⟨A,1,none⟩=some v1/\x.cell? ⟨A,2,none⟩=some v2)/\(x.frozen? ⟨A,0,none⟩=false/\x.frozen? ⟨A,1,none⟩=false/\x.frozen? ⟨A,2,none⟩=false) :=
 ⟨⟨(h.aB hi).c 0 _ rfl,(h.aB hi).c 1 _ rfl,(h.aB hi).c 2 _ rfl⟩,⟨(h.aB hi).f 0,(h.aB hi).f 1,(h.aB hi).f 2⟩⟩
def dH:LP:=⟨none,0,none,0,none,0⟩
def cZ:bM:=⟨[],[],[]⟩
theorem ib:jr dH cZ:=⟨⟨(by intro a h;cases h),(fun _=>rfl),Nat.le_refl _⟩,⟨(by intro a h;cases h),(fun _=>rfl),Nat.le_refl _⟩,⟨(by intro a h;cases h),(fun _=>rfl),Nat.le_refl _⟩⟩
theorem wC:og cZ:=⟨(fun _ h=>by cases h),(fun _ h=>by cases h),(fun _ h=>by cases h)⟩
theorem Pool.lq{F:List Nat}{w x:World}{S:List (List Rs)}(h:Pool F w S x){i:Nat}(hi:S[i]?=some []):Pool F w (S.set i (bC dH cZ)) x :=
 h.new hi (Below.refl _ _) ((Star.CV (sz:=4) (f:=aL)).app ((Star.CV (sz:=4) (f:=aG)).app (Star.CV (sz:=2) (f:=aM)) (fun c hc=>by simp[ic,bA,Value.ownBlock] at hc)) (fun c hc=>by simp[ic,bA,Value.ownBlock] at hc)) (fun c hc=>by simp[ic,bC,bA,dH,Value.ownBlock] at hc)
theorem gY(r:List UInt8):(bs r).toList.isEmpty=r.isEmpty:=by rw[Lib.toList_data,bS]
theorem zf{A:Type}{hd:List UInt8}{P:List UInt8->A->List UInt8->Prop}(hinj:∀{x:List UInt8}{a b:A}{r s:List UInt8},P x a r->P x b s->a=b/\r=s):∀(ys zs:List A)(l r s:List UInt8),mF hd P l ys r->mF hd P l zs s->ys=zs/\r=s:=by
 intro ys
 induction ys with
 | nil =>
  intro zs l r s h k
  cases zs with
  | nil=>exact⟨rfl,h.2.trans k.2.symm⟩
  | cons b bs =>
   obtain⟨q1,q2,e,_⟩:=k;have:=h.1;rw[e,jl] at this;cases this
 | cons a as' ih =>
  intro zs l r s h k;obtain⟨q1,q2,e,ha,hr⟩:=h
  cases zs with
  | nil =>
   have:=k.1;rw[e,jl] at this;cases this
  | cons b bs =>
   obtain⟨p1,p2,f,hb,ks⟩:=k;rw[e] at f;obtain rfl:=List.append_cancel_left f;obtain⟨rfl,rfl⟩:=hinj ha hb;obtain⟨rfl,rfl⟩:=ih _ _ _ _ hr ks;exact⟨rfl,rfl⟩
theorem tH.inj{l:List UInt8}{L D:bM}{r s:List UInt8}(h:tH l L r)(k:tH l D s):L=D/\r=s:=by
 obtain⟨r0,r1,r2,e,h0,h1,h2,_⟩:=h;obtain⟨s0,s1,s2,f,k0,k1,k2,_⟩:=k;rw[e] at f;obtain rfl:=List.append_cancel_left f;obtain⟨q0,rfl⟩:=zf (P:=qK) qK.inj _ _ _ _ _ h0 k0;obtain⟨q1,rfl⟩:=zf (P:=qJ) qJ.inj _ _ _ _ _ h1 k1;obtain⟨q2,rfl⟩:=zf (P:=Cs) Cs.inj _ _ _ _ _ h2 k2;refine⟨?_,rfl⟩;cases L;cases D;simp only at q0 q1 q2;subst q0 q1 q2;rfl
theorem CE{b:UInt8}(h:b.toNat≠32)(k:b.toNat≠10):jy b=false:=by
 unfold jy;have h1:(b==32)=false:=by simp only[beq_eq_false_iff_ne,ne_eq];exact fun e=>h (by rw[e];rfl)
 have h2:(b==10)=false:=by simp only[beq_eq_false_iff_ne,ne_eq];exact fun e=>k (by rw[e];rfl)
 rw[h1,h2];rfl
theorem jc{b:UInt8}(h:jy b=false):b≠32:=fun e=>by rw[e] at h;revert h;decide
theorem gX{n:Int}(h0:-1000000000000000<=n)(h1:n<=1000000000000000):∀b∈itoa n,jy b=false:=by
 intro b hb;by_cases h:n<0
 ·rw[<-itoa_neg h h0] at hb;rcases List.mem_cons.1 hb with rfl|q
  ·decide
  ·have:=mW _ b q;exact CE (by omega) (by omega)
 ·rw[<-pF (by omega) h1] at hb;have:=mW _ b hb;exact CE (by omega) (by omega)
theorem rW{k:Int}(h1:1<=k)(h5:k<=5):∀b∈dm k,jy b=false:=by
 have:k=1\/k=2\/k=3\/k=4\/k=5:=by omega
 rcases this with rfl|rfl|rfl|rfl|rfl<;>decide
theorem EK{lo hi:Int}(h0:33<=lo){l:List UInt8}(h:lets lo hi l=true):∀b∈l,jy b=false:=by
 intro b hb;unfold lets at h;have:=List.all_eq_true.1 h b hb;simp only[wF,decide_eq_true_eq] at this;exact CE (by omega) (by omega)
theorem kK{s:ByteArray}(h:dW s=true):∀b∈s.data.toList,jy b=false:=by
 unfold dW at h;rw[Bool.and_eq_true] at h;exact EK (by omega) h.2
theorem DT{s:ByteArray}(h:jU s=true):∀b∈s.data.toList,jy b=false:=by
 unfold jU at h;rw[Bool.and_eq_true] at h;exact EK (by omega) h.2
theorem Fy{s:ByteArray}(h:s.toList.isEmpty=true):s=⟨#[]⟩:=by
 rw[Lib.toList_data] at h;have e:s.data.toList=[]:=by simpa using h
 exact ByteArray.ext (by have:=congrArg List.toArray e;simpa using this)
theorem wS{a r:List UInt8}(h:∀b∈a,jy b=false):aX (a++32::r)=a/\bK (a++32::r)=32::r:=qW h (fun c hc=>by simp at hc;subst hc;decide)
theorem D5.eq{l x r:List UInt8}(h:D5 l x r):l=32::(x++r):=by
 obtain⟨r1,rfl,rfl,rfl⟩:=h;rw[fZ]
theorem yE.eq{l:List UInt8}{n:Int}{r:List UInt8}(h:yE l n r):l=32::(itoa n++r):=by
 obtain⟨r1,rfl,⟨_,e⟩,rfl⟩:=h;rw[e,fZ]
theorem AO(a:bF)(r:List UInt8):lX a++r=AV++32::(a.name.data.toList++32::(a.cur.data.toList++32::(itoa a.bB++32::(itoa a.aS++10::r)))):=by
 simp[lX,qO,Ot,Lib.join,List.intercalate,AV]
theorem vC(a:bP)(r:List UInt8):kQ a++r=Bh++32::(itoa a.id++32::(a.fr.data.toList++32::(a.to.data.toList++32::(itoa a.aV++10::r)))):=by
 simp[kQ,qO,Nw,Lib.join,List.intercalate,Bh]
theorem vR(a:Sn)(r:List UInt8):jQ a++r=A7++32::(itoa a.id++32::(itoa a.code++10::r)):=by
 simp[jQ,qO,Om,Lib.join,List.intercalate,A7]
theorem Oq{l:List UInt8}{a:bF}{r:List UInt8}(h:qK l a r):AV++l=lX a++r:=by
 obtain⟨x0,x1,r1,r2,r3,r4,p0,p1,p2,p3,e0,e1,er⟩:=h;rw[AO,e0,e1,bS,bS,p0.eq,p1.eq,p2.eq,p3.eq,er]
theorem Nv{l:List UInt8}{a:bP}{r:List UInt8}(h:qJ l a r):Bh++l=kQ a++r:=by
 obtain⟨x1,x2,r1,r2,r3,r4,p0,p1,p2,p3,e0,e1,er⟩:=h;rw[vC,e0,e1,bS,bS,p0.eq,p1.eq,p2.eq,p3.eq,er]
theorem UA{l:List UInt8}{a:Sn}{r:List UInt8}(h:Cs l a r):A7++l=jQ a++r:=by
 obtain⟨r1,r2,p0,p1,er⟩:=h;rw[vR,p0.eq,p1.eq,er]
theorem wy{A:Type}{hd:List UInt8}{P:List UInt8->A->List UInt8->Prop}{f:A->List UInt8}(hP:∀x a r,P x a r->hd++x=f a++r):∀(ys:List A)(l r:List UInt8),mF hd P l ys r->l=ys.flatMap f++r:=by
 intro ys
 induction ys with
 | nil=>intro l r h;simpa using h.2.symm
 | cons a bs ih =>
  intro l r h;obtain⟨r1,r2,e,ha,hr⟩:=h;rw[e,hP _ _ _ ha,ih _ _ hr];simp
theorem yL{L:bM}(h:df L=true):ny L=OE++(L.aI.flatMap lX++(L.az.flatMap kQ++L.aH.flatMap jQ)):=by
 unfold ny;rw[if_pos h];simp[body,OE]
theorem wG{l:List UInt8}{L:bM}(h:tH l L []):ny L=l/\df L=true:=by
 obtain⟨r0,r1,r2,e,h0,h1,h2,hs⟩:=h;refine⟨?_,hs⟩;rw[yL hs,e,wy (P:=qK) (f:=lX) (fun x a r=>Oq) _ _ _ h0,wy (P:=qJ) (f:=kQ) (fun x a r=>Nv) _ _ _ h1,wy (P:=Cs) (f:=jQ) (fun x a r=>UA) _ _ _ h2];simp
theorem D5.of{x r:List UInt8}(h:∀b∈x,jy b=false)(hr:∀c,r.head?=some c->jy c=true):D5 (32::(x++r)) x r:=by
 obtain⟨e1,e2⟩:=qW h hr;exact⟨_,rfl,e1.symm,e2.symm⟩
theorem yE.of{n:Int}{r:List UInt8}(h0:-99999999999999<=n)(h1:n<=99999999999999)(hr:∀c,r.head?=some c->jy c=true):yE (32::(itoa n++r)) n r:=by
 obtain⟨e1,e2⟩:=qW (gX (n:=n) (by omega) (by omega)) hr;exact⟨_,rfl,⟨⟨h0,h1⟩,e1.symm⟩,e2.symm⟩
theorem hd32(r:List UInt8):∀c,(32::r).head?=some c->jy c=true:=fun c h=>by simp at h;subst h;decide
theorem QV(r:List UInt8):∀c,(10::r).head?=some c->jy c=true:=fun c h=>by simp at h;subst h;decide
theorem Rm{a:bF}(r:List UInt8)(hn:dW a.name=true)(hc:jU a.cur=true)(hl:-1<=a.bB/\a.bB<=1000000000000)(hp:-1000000000000<=a.aS/\a.aS<=1000000000000):∃x,lX a++r=AV++x/\qK x a r :=
 ⟨_,AO a r,a.name.data.toList,a.cur.data.toList,_,_,_,_,D5.of (kK hn) (hd32 _),D5.of (DT hc) (hd32 _),yE.of (by omega) (by omega) (hd32 _),yE.of (by omega) (by omega) (QV _),rfl,rfl,rfl⟩
theorem QU{a:bP}(r:List UInt8)(hf:dW a.fr=true)(ht:dW a.to=true)(hi:1<=a.id/\a.id<=1000000000)(hp:1<=a.aV/\a.aV<=1000000000000):∃x,kQ a++r=Bh++x/\qJ x a r :=
 ⟨_,vC a r,a.fr.data.toList,a.to.data.toList,_,_,_,_,yE.of (by omega) (by omega) (hd32 _),D5.of (kK hf) (hd32 _),D5.of (kK ht) (hd32 _),yE.of (by omega) (by omega) (QV _),rfl,rfl,rfl⟩
theorem RL{a:Sn}(r:List UInt8)(hi:1<=a.id/\a.id<=1000000000)(hp:0<=a.code/\a.code<=9):∃x,jQ a++r=A7++x/\Cs x a r :=
 ⟨_,vR a r,_,_,yE.of (by omega) (by omega) (hd32 _),yE.of (by omega) (by omega) (QV _),rfl⟩
theorem CK{A:Type}{hd:List UInt8}{P:List UInt8->A->List UInt8->Prop}{f:A->List UInt8}:∀(ys:List A)(r:List UInt8),(∀a∈ys,∀s,∃x,f a++s=hd++x/\P x a s)->Lib.hasPrefix r hd=false->mF hd P (ys.flatMap f++r) ys r:=by
 intro ys
 induction ys with
 | nil=>intro r _ h;exact⟨by simpa using h,by simp⟩
 | cons a bs ih =>
  intro r hP h;obtain⟨x,e,ha⟩:=hP a (List.mem_cons_self ..) (bs.flatMap f++r);exact⟨x,_,by rw[<-e];simp,ha,ih r (fun b hb=>hP b (List.mem_cons_of_mem _ hb)) h⟩
theorem Mo{c d:UInt8}{l hd:List UInt8}(h:c≠d):Lib.hasPrefix (c::l) (d::hd)=false:=by
 simp[Lib.hasPrefix,List.isPrefixOf];intro e;exact absurd e.symm h
theorem BD(ys:List Sn){d:UInt8}{hd:List UInt8}(h:(115:UInt8)≠d):Lib.hasPrefix (ys.flatMap jQ) (d::hd)=false:=by
 cases ys with
 | nil=>simp[Lib.hasPrefix]
 | cons a bs =>
  rw[List.flatMap_cons,vR];exact Mo h
theorem KJ(zs:List bP)(ys:List Sn):Lib.hasPrefix (zs.flatMap kQ++ys.flatMap jQ) AV=false:=by
 cases zs with
 | nil=>exact BD ys (by decide)
 | cons a bs =>
  rw[List.flatMap_cons,List.append_assoc,vC];exact Mo (by decide)
theorem IC{L:bM}(h:df L=true){k:Nat}(hk:k<L.aI.length):dW L.aI[k].name=true/\jU L.aI[k].cur=true:=by
 have h1:=dU (lC h).2.1 hk;rw[gP hk] at h1;simp only[Bool.and_eq_true] at h1;exact⟨h1.1.1.1.2,h1.1.1.2⟩
theorem Nl{L:bM}(h:df L=true){nm:ByteArray}{i:Nat}(hi:dZ L.aI nm=some i):dW nm=true:=by
 obtain⟨hl,e,_⟩:=fq hi;rw[<-e];exact(IC h hl).1
theorem Nt{L:bM}(h:df L=true){k:Nat}(hk:k<L.az.length):dW L.az[k].fr=true/\dW L.az[k].to=true:=by
 have h1:=dU (lC h).2.2.2 hk;rw[jv hk] at h1;simp only[Bool.and_eq_true] at h1;have hp:=h1.2;unfold mD at hp
 cases e1:dZ L.aI L.az[k].fr with
 | none=>rw[e1] at hp;simp at hp
 | some i =>
  cases e2:dZ L.aI L.az[k].to with
  | none=>rw[e1,e2] at hp;simp at hp
  | some j=>exact⟨Nl h e1,Nl h e2⟩
theorem JR{L:bM}(h:df L=true):tH (ny L) L []:=by
 refine⟨_,L.az.flatMap kQ++L.aH.flatMap jQ,L.aH.flatMap jQ,yL h,CK _ _ (fun a ha s=>?_) (KJ _ _),CK _ _ (fun a ha s=>?_) (BD _ (by decide)),?_,h⟩
 ·obtain⟨k,hk,rfl⟩:=List.mem_iff_getElem.1 ha;obtain⟨h1,h2⟩:=IC h hk;obtain⟨_,_,h3,h4⟩:=AL h hk;exact Rm s h1 h2 h3 h4
 ·obtain⟨k,hk,rfl⟩:=List.mem_iff_getElem.1 ha;obtain⟨h1,h2⟩:=Nt h hk;obtain⟨_,_,h3,h4⟩:=Dv h hk;exact QU s h1 h2 h3 h4
 ·have:=CK (hd:=A7) (P:=Cs) (f:=jQ) L.aH [] (fun a ha s=>by
   obtain⟨k,hk,rfl⟩:=List.mem_iff_getElem.1 ha;obtain⟨h3,h4⟩:=DX h hk;exact RL s h3 h4) (by decide)
  simpa using this
def rE(L:bM)(ws:List (List UInt8)):bM :=
 if ws.getD 0 []=AV/\ws.length=5 then ⟨L.aI++[⟨bs (ws.getD 1 []),bs (ws.getD 2 []),bL (ws.getD 3 []),bL (ws.getD 4 [])⟩],L.az,L.aH⟩
 else if ws.getD 0 []=Bh/\ws.length=5 then ⟨L.aI,L.az++[⟨bL (ws.getD 1 []),bs (ws.getD 2 []),bs (ws.getD 3 []),bL (ws.getD 4 [])⟩],L.aH⟩
 else if ws.getD 0 []=A7/\ws.length=3 then ⟨L.aI,L.az,L.aH++[⟨bL (ws.getD 1 []),bL (ws.getD 2 [])⟩]⟩
 else L
def BK:Nat->List UInt8->bM->Option bM
 | 0,_,L=>some L
 | n+1,l,L=>if l=[] then some L else match l.dropWhile (fun b=>b != 10) with
  | []=>none
  | _::r=>BK n r (rE L (bG (l.takeWhile (fun b=>b != 10))))
theorem I6(n:Nat)(L:bM):BK n [] L=some L:=by cases n<;>rfl
theorem Im{a r:List UInt8}(h:∀b∈a,b≠10):(a++10::r).takeWhile (fun b=>b != 10)=a/\(a++10::r).dropWhile (fun b=>b != 10)=10::r:=by
 induction a with
 | nil=>simp
 | cons c cs ih =>
  have hc:=h c (List.mem_cons_self ..);obtain⟨e1,e2⟩:=ih (fun b hb=>h b (List.mem_cons_of_mem _ hb));rw[List.cons_append,List.takeWhile_cons_of_pos (by simpa using hc),List.dropWhile_cons_of_pos (by simpa using hc),e1,e2];exact⟨rfl,rfl⟩
theorem RY{l:List UInt8}(h:∀b∈l,b≠10):l.dropWhile (fun b=>b != 10)=[]:=by
 induction l with
 | nil=>rfl
 | cons c cs ih =>
  rw[List.dropWhile_cons_of_pos (by simpa using h c (List.mem_cons_self ..))];exact ih (fun b hb=>h b (List.mem_cons_of_mem _ hb))
theorem rF{a r:List UInt8}(h:∀b∈a,b≠10)(n:Nat)(L:bM)(hn:(a++10::r).length<=n):∃m,r.length<=m/\BK n (a++10::r) L=BK m r (rE L (bG a)):=by
 obtain⟨e1,e2⟩:=Im (r:=r) h;simp only[List.length_append,List.length_cons] at hn;obtain⟨m,rfl⟩:∃m,n=m+1:=⟨n-1,by omega⟩;refine⟨m,by omega,?_⟩;rw[BK,if_neg (by simp),e1,e2]
theorem O5{l:List UInt8}(h:∀b∈l,b≠10)(h0:l≠[])(n:Nat)(L:bM)(hn:l.length<=n):BK n l L=none:=by
 obtain⟨m,rfl⟩:∃m,n=m+1:=⟨n-1,by have:0<l.length:=List.length_pos_iff.2 h0;omega⟩;rw[BK,if_neg h0,RY h]
theorem qY{b:UInt8}(h:jy b=false):b≠10:=fun e=>by rw[e] at h;revert h;decide
theorem pz{n:Int}(h0:-99999999999999<=n)(h1:n<=99999999999999):bL (itoa n)=n:=by
 unfold bL;rw[if_pos (kL h0 h1).1,(kL h0 h1).2]
theorem TT{a b c d e:List UInt8}(ha:∀x∈a,jy x=false)(hb:∀x∈b,jy x=false)(hc:∀x∈c,jy x=false)(hd:∀x∈d,jy x=false)(he:∀x∈e,jy x=false) :
  bG (a++32::(b++32::(c++32::(d++32::e))))=[a,b,c,d,e]/\∀x∈a++32::(b++32::(c++32::(d++32::e))),x≠10:=by
 refine⟨?_,?_⟩
 ·rw[fV _ _ (fun x hx=>jc (ha x hx)),fV _ _ (fun x hx=>jc (hb x hx)),fV _ _ (fun x hx=>jc (hc x hx)),fV _ _ (fun x hx=>jc (hd x hx)),lN _ (fun x hx=>jc (he x hx))]
 ·intro x hx;simp only[List.mem_append,List.mem_cons] at hx;rcases hx with h|rfl|h|rfl|h|rfl|h|rfl|h
  ·exact qY (ha x h)
  ·decide
  ·exact qY (hb x h)
  ·decide
  ·exact qY (hc x h)
  ·decide
  ·exact qY (hd x h)
  ·decide
  ·exact qY (he x h)
theorem TZ{a b c:List UInt8}(ha:∀x∈a,jy x=false)(hb:∀x∈b,jy x=false)(hc:∀x∈c,jy x=false) :
  bG (a++32::(b++32::c))=[a,b,c]/\∀x∈a++32::(b++32::c),x≠10:=by
 refine⟨?_,?_⟩
 ·rw[fV _ _ (fun x hx=>jc (ha x hx)),fV _ _ (fun x hx=>jc (hb x hx)),lN _ (fun x hx=>jc (hc x hx))]
 ·intro x hx;simp only[List.mem_append,List.mem_cons] at hx;rcases hx with h|rfl|h|rfl|h
  ·exact qY (ha x h)
  ·decide
  ·exact qY (hb x h)
  ·decide
  ·exact qY (hc x h)
theorem UB:∀x∈AV,jy x=false:=by decide
theorem Pm:∀x∈Bh,jy x=false:=by decide
theorem OT:∀x∈A7,jy x=false:=by decide
theorem Rl{a:bF}(hn:dW a.name=true)(hc:jU a.cur=true)(hl:-1<=a.bB/\a.bB<=1000000000000)(hp:-1000000000000<=a.aS/\a.aS<=1000000000000)(r:List UInt8)(n:Nat)(D:bM)(h:(lX a++r).length<=n) :
  ∃m,r.length<=m/\BK n (lX a++r) D=BK m r ⟨D.aI++[a],D.az,D.aH⟩:=by
 obtain⟨e1,e2⟩:=TT UB (kK hn) (DT hc) (gX (n:=a.bB) (by omega) (by omega)) (gX (n:=a.aS) (by omega) (by omega));have e3:lX a++r=(AV++32::(a.name.data.toList++32::(a.cur.data.toList++32::(itoa a.bB++32::itoa a.aS))))++10::r:=by rw[AO];simp
 rw[e3] at h⊢;obtain⟨m,hm,e⟩:=rF e2 n D h;refine⟨m,hm,?_⟩;rw[e,e1];simp[rE,pz (n:=a.bB) (by omega) (by omega),pz (n:=a.aS) (by omega) (by omega),(gQ (r:=a.name) rfl).symm,(gQ (r:=a.cur) rfl).symm]
theorem QT{a:bP}(hf:dW a.fr=true)(ht:dW a.to=true)(hi:1<=a.id/\a.id<=1000000000)(hp:1<=a.aV/\a.aV<=1000000000000)(r:List UInt8)(n:Nat)(D:bM)(h:(kQ a++r).length<=n) :
  ∃m,r.length<=m/\BK n (kQ a++r) D=BK m r ⟨D.aI,D.az++[a],D.aH⟩:=by
 obtain⟨e1,e2⟩:=TT Pm (gX (n:=a.id) (by omega) (by omega)) (kK hf) (kK ht) (gX (n:=a.aV) (by omega) (by omega));have e3:kQ a++r=(Bh++32::(itoa a.id++32::(a.fr.data.toList++32::(a.to.data.toList++32::itoa a.aV))))++10::r:=by rw[vC];simp
 rw[e3] at h⊢;obtain⟨m,hm,e⟩:=rF e2 n D h;refine⟨m,hm,?_⟩;rw[e,e1];have hne:Bh≠AV:=by decide
 simp[rE,hne,pz (n:=a.id) (by omega) (by omega),pz (n:=a.aV) (by omega) (by omega),(gQ (r:=a.fr) rfl).symm,(gQ (r:=a.to) rfl).symm]
theorem RJ{a:Sn}(hi:1<=a.id/\a.id<=1000000000)(hp:0<=a.code/\a.code<=9)(r:List UInt8)(n:Nat)(D:bM)(h:(jQ a++r).length<=n) :
  ∃m,r.length<=m/\BK n (jQ a++r) D=BK m r ⟨D.aI,D.az,D.aH++[a]⟩:=by
 obtain⟨e1,e2⟩:=TZ OT (gX (n:=a.id) (by omega) (by omega)) (gX (n:=a.code) (by omega) (by omega));have e3:jQ a++r=(A7++32::(itoa a.id++32::itoa a.code))++10::r:=by rw[vR];simp
 rw[e3] at h⊢;obtain⟨m,hm,e⟩:=rF e2 n D h;refine⟨m,hm,?_⟩;rw[e,e1];simp[rE,pz (n:=a.id) (by omega) (by omega),pz (n:=a.code) (by omega) (by omega)]
theorem CJ{A:Type}{f:A->List UInt8}{up:bM->List A->bM}(h0:∀D,up D []=D)(h1:∀D a ys,up D (a::ys)=up (up D [a]) ys):∀(ys:List A)(r:List UInt8)(n:Nat)(D:bM),(∀a∈ys,∀r n D,(f a++r).length<=n->∃m,r.length<=m/\BK n (f a++r) D=BK m r (up D [a]))->(ys.flatMap f++r).length<=n->∃m,r.length<=m/\BK n (ys.flatMap f++r) D=BK m r (up D ys):=by
 intro ys
 induction ys with
 | nil=>intro r n D _ hn;exact⟨n,by simpa using hn,by rw[h0];simp⟩
 | cons a bs ih =>
  intro r n D hP hn;rw[List.flatMap_cons,List.append_assoc] at hn⊢;obtain⟨m,hm,e⟩:=hP a (List.mem_cons_self ..) _ n D hn;obtain⟨k,hk,e'⟩:=ih r m (up D [a]) (fun b hb=>hP b (List.mem_cons_of_mem _ hb)) hm;exact⟨k,hk,by rw[e,e',h1 D a bs]⟩
theorem EJ{L:bM}(h:df L=true)(n:Nat)(hn:(ny L).length<=n):BK n (ny L) cZ=some L:=by
 rw[yL h] at hn⊢;have e0:OE++(L.aI.flatMap lX++(L.az.flatMap kQ++L.aH.flatMap jQ))=[108,101,100,103,101,114]++10::(L.aI.flatMap lX++(L.az.flatMap kQ++(L.aH.flatMap jQ++[]))):=by simp[OE]
 rw[e0] at hn⊢;obtain⟨m,hm,e⟩:=rF (by decide) n cZ hn;rw[e,show rE cZ (bG [108,101,100,103,101,114])=cZ from rfl];obtain⟨m1,hm1,e1⟩:=CJ (f:=lX) (up:=fun D ys=>⟨D.aI++ys,D.az,D.aH⟩) (fun D=>by simp) (fun D a ys=>by simp) L.aI _ m cZ (fun a ha r n D q=>by
  obtain⟨k,hk,rfl⟩:=List.mem_iff_getElem.1 ha;obtain⟨h1,h2⟩:=IC h hk;obtain⟨_,_,h3,h4⟩:=AL h hk;exact Rl h1 h2 h3 h4 r n D q) hm
 rw[e1];obtain⟨m2,hm2,e2⟩:=CJ (f:=kQ) (up:=fun D ys=>⟨D.aI,D.az++ys,D.aH⟩) (fun D=>by simp) (fun D a ys=>by simp) L.az _ m1 ⟨cZ.aI++L.aI,cZ.az,cZ.aH⟩ (fun a ha r n D q=>by
  obtain⟨k,hk,rfl⟩:=List.mem_iff_getElem.1 ha;obtain⟨h1,h2⟩:=Nt h hk;obtain⟨_,_,h3,h4⟩:=Dv h hk;exact QT h1 h2 h3 h4 r n D q) hm1
 rw[e2];obtain⟨m3,hm3,e3⟩:=CJ (f:=jQ) (up:=fun D ys=>⟨D.aI,D.az,D.aH++ys⟩) (fun D=>by simp) (fun D a ys=>by simp) L.aH [] m2 ⟨cZ.aI++L.aI,cZ.az++L.az,cZ.aH⟩ (fun a ha r n D q=>by
  obtain⟨k,hk,rfl⟩:=List.mem_iff_getElem.1 ha;obtain⟨h3,h4⟩:=DX h hk;exact RJ h3 h4 r n D q) hm2
 rw[e3,I6];simp[cZ]
def eH(l:List UInt8)(c:Cm)(r:List UInt8):Prop :=
 jF (aX l) c.id/\∃r1,bK l=32::r1/\(1<=c.kind/\c.kind<=5/\dm c.kind=aX r1) /\
  ((c.kind=4\/c.kind=5)/\(∃r2,bK r1=32::r2/\jF (aX r2) c.ref/\c.fr=⟨#[]⟩/\c.«to»=⟨#[]⟩/\c.am=0/\r=bK r2) \/
   ¬ (c.kind=4\/c.kind=5)/\(∃r2 r3 r4,bK r1=32::r2/\c.fr=bs (aX r2)/\bK r2=32::r3/\c.«to»=bs (aX r3)/\bK r3=32::r4/\jF (aX r4) c.am/\c.ref=0/\r=bK r4))/\c.B=true
theorem iR{a b:Int}(ha:1<=a/\a<=5)(hb:1<=b/\b<=5)(h:dm a=dm b):a=b:=by
 have ha':a=1\/a=2\/a=3\/a=4\/a=5:=by omega
 have hb':b=1\/b=2\/b=3\/b=4\/b=5:=by omega
 rcases ha' with rfl|rfl|rfl|rfl|rfl<;>rcases hb' with rfl|rfl|rfl|rfl|rfl<;>first|rfl|(exact absurd h (by decide))
theorem A9(k:Int)(w:World):Calls prog 126 #[ae au k] w fun e w'=>e=.returned (.bool (k==4||k==5))/\w'=w:=by
 go_enter func126,ntmps126;cases h4:(k==4)
 ·cases h5:(k==5)
  ·go_wp2;go_ret;exact⟨rfl,rfl⟩
  ·go_wp2;go_ret;exact⟨rfl,rfl⟩
 ·go_wp2;go_ret;exact⟨rfl,rfl⟩
def Tj(B:Nat)(l:List UInt8)(t:TypeId)(v:Value)(w:World)(e:Ending)(w':World):Prop :=
 (∃c r,eH l c r/\e=.returned c.v/\jE B r w w')\/((∀c r,¬ eH l c r)/\xm B t v w e w')
theorem yB(B:Nat)(l:List UInt8)(t:TypeId)(v:Value)(w0 w:World)(E:Env t v w0)(h:Rg w0 B l w)(hl:l.length<=1048576) :
  Calls prog 93 #[ai (some ⟨B,0,none⟩)] w fun e w'=>Tj B l t v w e w':=by
 have HE:=hide E;have HG:=hide h;have HP0:Hid (Pool [B] w [[blk B [ag (bs l)]],[],[]] w):=hide ((Pool.of (Star.ou h.r)).cast (by simp));have hrl:=jG l;have hwl:=iQ l;clear E h;go_enter func93,ntmps93;go_upto_region 1 with fail
 refine bg (fun W1 hW1=>?_);have HP1:Hid (Pool [B] w [[blk B [ag (bs l)]],[blk w.heap.size [ae au 0,ae au 0,ag ⟨#[]⟩,ag ⟨#[]⟩,ae au 0,ae au 0]],[]] W1):=hide (by
  have p1:=HP0.aY (i:=1) rfl [ae au 0,ae au 0,ag ⟨#[]⟩,ag ⟨#[]⟩,ae au 0,ae au 0] 88;rw[hW1];exact p1)
 clear hW1 HP0;go_wp2_with fail;refine(rY B l _ (HP1.aB (i:=0) rfl) hl).mono ?_;rintro e w2⟨rfl,hr2⟩;have HP2:Hid (Pool [B] w [[blk B [ag (bs (bK l))]],[blk w.heap.size [ae au 0,ae au 0,ag ⟨#[]⟩,ag ⟨#[]⟩,ae au 0,ae au 0]],[]] w2):=hide (HP1.rd hr2);clear hr2 HP1;by_cases hn:∃n,jF (aX l) n
 ·obtain⟨n,hn⟩:=hn;have HN:=hide hn;clear hn;go_wp2_with fail;refine(qo _ (aX l) n t v _ ((HG.mV HP2.iF).env HE.out) HN.out).mono ?_;rintro e w3⟨rfl,hb3⟩;have HP3:=hide (HP2.keep hb3);clear hb3 HP2;go_upto_region 2 with fail
  refine bg (fun W4 hW4=>?_);obtain⟨C,hC⟩:∃C,C=w3.heap.size:=⟨_,rfl⟩;have HP4:Hid (Pool [B] w [[blk B [ag (bs (bK l))]],[blk w.heap.size [ae au 0,ae au 0,ag ⟨#[]⟩,ag ⟨#[]⟩,ae au 0,ae au 0]],[blk C [ae au n,ae au 0,ag ⟨#[]⟩,ag ⟨#[]⟩,ae au 0,ae au 0]]] W4):=hide (by
   have p1:=HP3.aY (i:=2) rfl [ae au n,ae au 0,ag ⟨#[]⟩,ag ⟨#[]⟩,ae au 0,ae au 0] 88;rw[<-hC] at p1;rw[hW4];exact p1)
  rw[<-hC];clear hW4 HP3 hC;by_cases h1:(bK l).head?=some 32
  ·obtain⟨r1,e1⟩:∃r1,bK l=32::r1:=by
    cases q:bK l with
    | nil=>rw[q] at h1;cases h1
    | cons a b=>rw[q] at h1;simp at h1;exact⟨b,by rw[h1]⟩
   have HR1:=hide e1;rw[e1] at HP4 hrl;simp only[List.length_cons] at hrl;have hrr1:=jG r1;have hwr1:=iQ r1;clear h1 e1;go_wp2_with fail;refine(uR B r1 _ (HP4.aB (i:=0) rfl) (by omega)).mono ?_;rintro e w5⟨rfl,hr5⟩;have HP5:Hid (Pool [B] w [[blk B [ag (bs (bK r1))]],[blk w.heap.size [ae au 0,ae au 0,ag ⟨#[]⟩,ag ⟨#[]⟩,ae au 0,ae au 0]],[blk C [ae au n,ae au 0,ag ⟨#[]⟩,ag ⟨#[]⟩,ae au 0,ae au 0]]] w5):=hide (HP4.rd hr5);clear hr5 HP4;go_wp2_with fail;refine(M5 _ (aX r1) t v _ ((HG.mV HP5.iF).env HE.out)).mono ?_;rintro e w6⟨hw6,hk⟩;rw[hw6];rcases hk with ⟨k,k1,k5,hk,rfl⟩|⟨hk,rfl⟩
   ·have HKd:Hid (1<=k/\k<=5/\dm k=aX r1):=hide ⟨k1,k5,hk⟩;clear hk hw6;have d_1:=(HP5.aB (i:=2) rfl).c 1 _ rfl;have f_1:=(HP5.aB (i:=2) rfl).f 1;go_upto_region 3 with fail
    refine bg (fun W7 hW7=>?_);have HP7:Hid (Pool [B] w [[blk B [ag (bs (bK r1))]],[blk w.heap.size [ae au 0,ae au 0,ag ⟨#[]⟩,ag ⟨#[]⟩,ae au 0,ae au 0]],[blk C [ae au n,ae au k,ag ⟨#[]⟩,ag ⟨#[]⟩,ae au 0,ae au 0]]] W7):=hide (by
     have p1:=HP5.aQ (i:=2) rfl 1 (ae au k) (by simp);rw[hW7];exact p1)
    clear hW7 HP5 d_1 f_1;have d_1:=(HP7.aB (i:=2) rfl).c 1 _ rfl;go_wp2_with fail;refine(A9 k _).mono ?_;rintro e w8⟨rfl,hw⟩;rw[hw];clear hw;by_cases kh:k=4\/k=5
    ·have kh':(k==4||k==5)=true:=by simpa using kh
     have HKh:=hide kh;rw[kh'];clear kh kh' d_1;by_cases h1:(bK r1).head?=some 32
     ·obtain⟨r2,e1⟩:∃q,bK r1=32::q:=by
       cases q:bK r1 with
       | nil=>rw[q] at h1;cases h1
       | cons a b=>rw[q] at h1;simp at h1;exact⟨b,by rw[h1]⟩
      have Hr2:=hide e1;rw[e1] at HP7 hrr1;simp only[List.length_cons] at hrr1;have hrrr2:=jG r2;have hwrr2:=iQ r2;clear h1 e1;by_cases hn2:∃n,jF (aX r2) n
      ·obtain⟨ref,hn2⟩:=hn2;have HRef:=hide hn2;clear hn2;go_wp2_with fail;refine(ng B r2 ref t v w0 _ HE.out (HG.mV HP7.iF) (by omega) HRef.out).mono ?_;rintro e w9⟨rfl,hr9⟩;have HP9:Hid (Pool [B] w [[blk B [ag (bs (bK r2))]],[blk w.heap.size [ae au 0,ae au 0,ag ⟨#[]⟩,ag ⟨#[]⟩,ae au 0,ae au 0]],[blk C [ae au n,ae au k,ag ⟨#[]⟩,ag ⟨#[]⟩,ae au 0,ae au 0]]] w9):=hide (HP7.rd hr9);clear hr9 HP7;have d_5:=(HP9.aB (i:=2) rfl).c 5 _ rfl;have f_5:=(HP9.aB (i:=2) rfl).f 5;go_upto_region 8 with fail
       refine bg (fun Wa hWa=>?_);have HPa:Hid (Pool [B] w [[blk B [ag (bs (bK r2))]],[blk w.heap.size [ae au 0,ae au 0,ag ⟨#[]⟩,ag ⟨#[]⟩,ae au 0,ae au 0]],[blk C [ae au n,ae au k,ag ⟨#[]⟩,ag ⟨#[]⟩,ae au 0,ae au ref]]] Wa):=hide (by
        have p1:=HP9.aQ (i:=2) rfl 5 (ae au ref) (by simp);rw[hWa];exact p1)
       clear hWa HP9 d_5 f_5;have HCz:Hid ((⟨n,k,⟨#[]⟩,⟨#[]⟩,0,ref⟩:Cm).fr.size<=maxLen/\(⟨n,k,⟨#[]⟩,⟨#[]⟩,0,ref⟩:Cm).«to».size<=maxLen):=hide ⟨show (⟨#[]⟩:ByteArray).size<=maxLen by decide,show (⟨#[]⟩:ByteArray).size<=maxLen by decide⟩;have g_0:=(HPa.aB (i:=2) rfl).c 0 _ rfl;have g_1:=(HPa.aB (i:=2) rfl).c 1 _ rfl;have g_2:=(HPa.aB (i:=2) rfl).c 2 _ rfl;have g_3:=(HPa.aB (i:=2) rfl).c 3 _ rfl;have g_4:=(HPa.aB (i:=2) rfl).c 4 _ rfl;have g_5:=(HPa.aB (i:=2) rfl).c 5 _ rfl;go_wp2_with fail;refine(kN (⟨n,k,⟨#[]⟩,⟨#[]⟩,0,ref⟩:Cm).id (⟨n,k,⟨#[]⟩,⟨#[]⟩,0,ref⟩:Cm).kind (⟨n,k,⟨#[]⟩,⟨#[]⟩,0,ref⟩:Cm).fr (⟨n,k,⟨#[]⟩,⟨#[]⟩,0,ref⟩:Cm).«to» (⟨n,k,⟨#[]⟩,⟨#[]⟩,0,ref⟩:Cm).am (⟨n,k,⟨#[]⟩,⟨#[]⟩,0,ref⟩:Cm).ref _ HCz.1 HCz.2).mono ?_;rintro e wA⟨rfl,hkA⟩;have HPA:=hide (HPa.keep hkA.below);clear hkA HPa g_0 g_1 g_2 g_3 g_4 g_5;cases hB:dK (⟨n,k,⟨#[]⟩,⟨#[]⟩,0,ref⟩:Cm).id (⟨n,k,⟨#[]⟩,⟨#[]⟩,0,ref⟩:Cm).kind (⟨n,k,⟨#[]⟩,⟨#[]⟩,0,ref⟩:Cm).fr (⟨n,k,⟨#[]⟩,⟨#[]⟩,0,ref⟩:Cm).«to» (⟨n,k,⟨#[]⟩,⟨#[]⟩,0,ref⟩:Cm).am (⟨n,k,⟨#[]⟩,⟨#[]⟩,0,ref⟩:Cm).ref
       ·have HB:=hide hB;clear hB;go_wp2_with fail;refine(gK _ t v _ ((HG.mV HPA.iF).env HE.out)).mono ?_;rintro e wB⟨rfl,hw⟩;rw[hw];clear hw;unfold dx;go_wp2_with fail;refine⟨rfl,.inr ⟨fun c r hc=>?_,rfl,_,HPA.iF⟩⟩;obtain⟨hc0,r1',e1',hk1,hrest,hcB⟩:=hc;rw[HR1.out] at e1';cases e1';have ek:=iR ⟨hk1.1,hk1.2.1⟩ ⟨HKd.1,HKd.2.1⟩ (hk1.2.2.trans HKd.2.2.symm);have kh:=HKh.out;rcases hrest with ⟨_,r2',e2',hc5,e6,e7,e8,e9⟩|⟨hk2,_⟩
        ·rw[Hr2.out] at e2';cases e2';obtain rfl:c=⟨n,k,⟨#[]⟩,⟨#[]⟩,0,ref⟩:=by
          have z1:=hc0.inj HN.out;have z2:=hc5.inj HRef.out;cases c;simp only at *;subst z1 z2 ek e6 e7 e8;rfl
         have z:=HB.out;unfold Cm.B at hcB;simp only at z hcB;rw[z] at hcB;cases hcB
        ·exact absurd (by rw[ek];exact kh) hk2
       ·have HB:=hide hB;clear hB;go_wp2_with fail;refine(fA _ _).mono ?_;rintro e wB⟨rfl,hw⟩;rw[hw];clear hw;have g_0:=(HPA.aB (i:=2) rfl).c 0 _ rfl;have g_1:=(HPA.aB (i:=2) rfl).c 1 _ rfl;have g_2:=(HPA.aB (i:=2) rfl).c 2 _ rfl;have g_3:=(HPA.aB (i:=2) rfl).c 3 _ rfl;have g_4:=(HPA.aB (i:=2) rfl).c 4 _ rfl;have g_5:=(HPA.aB (i:=2) rfl).c 5 _ rfl;have z_0:=(HPA.aB (i:=1) rfl).c 0 _ rfl;have z_1:=(HPA.aB (i:=1) rfl).c 1 _ rfl;have z_2:=(HPA.aB (i:=1) rfl).c 2 _ rfl;have z_3:=(HPA.aB (i:=1) rfl).c 3 _ rfl;have z_4:=(HPA.aB (i:=1) rfl).c 4 _ rfl;have z_5:=(HPA.aB (i:=1) rfl).c 5 _ rfl;have y_0:=(HPA.aB (i:=1) rfl).f 0;have y_1:=(HPA.aB (i:=1) rfl).f 1;have y_2:=(HPA.aB (i:=1) rfl).f 2;have y_3:=(HPA.aB (i:=1) rfl).f 3;have y_4:=(HPA.aB (i:=1) rfl).f 4;have y_5:=(HPA.aB (i:=1) rfl).f 5;have HQ:=HPA.Et (i:=1) rfl (ae au (⟨n,k,⟨#[]⟩,⟨#[]⟩,0,ref⟩:Cm).id) (ae au (⟨n,k,⟨#[]⟩,⟨#[]⟩,0,ref⟩:Cm).kind) (ag (⟨n,k,⟨#[]⟩,⟨#[]⟩,0,ref⟩:Cm).fr) (ag (⟨n,k,⟨#[]⟩,⟨#[]⟩,0,ref⟩:Cm).«to») (ae au (⟨n,k,⟨#[]⟩,⟨#[]⟩,0,ref⟩:Cm).am) (ae au (⟨n,k,⟨#[]⟩,⟨#[]⟩,0,ref⟩:Cm).ref);have e0:=(HQ.aB (i:=1) rfl).c 0 _ rfl;have e1:=(HQ.aB (i:=1) rfl).c 1 _ rfl;have e2:=(HQ.aB (i:=1) rfl).c 2 _ rfl;have e3:=(HQ.aB (i:=1) rfl).c 3 _ rfl;have e4:=(HQ.aB (i:=1) rfl).c 4 _ rfl;have e5:=(HQ.aB (i:=1) rfl).c 5 _ rfl;have HQ2:=hide HQ.iF;clear HQ;dsimp only at e0 e1 e2 e3 e4 e5;go_wp2_with fail;refine bodyPost_ret (v:=(⟨n,k,⟨#[]⟩,⟨#[]⟩,0,ref⟩:Cm).v) (by simp[results,results93,go_sem,e0,e1,e2,e3,e4,e5,Cm.v]) rfl (.inl ⟨(⟨n,k,⟨#[]⟩,⟨#[]⟩,0,ref⟩:Cm),(bK r2),?_,rfl,HQ2.out⟩);exact⟨HN.out,r1,HR1.out,HKd.out,.inl ⟨HKh.out,r2,Hr2.out,HRef.out,rfl,rfl,rfl,rfl⟩,HB.out⟩
      ·have HN2:Hid (∀n,¬ jF (aX r2) n):=hide (fun n h=>hn2 ⟨n,h⟩);clear hn2;go_wp2_with fail;refine(nk B r2 t v w0 _ HE.out (HG.mV HP7.iF) (by omega) HN2.out).mono ?_;rintro e w9⟨rfl,l5,hr5⟩;have HR5:=hide (HP7.iF.trans hr5);clear hr5;unfold dx;go_wp2_with fail;refine⟨rfl,.inr ⟨fun c r hc=>?_,rfl,_,HR5.out⟩⟩;obtain⟨hc0,r1',e1',hk1,hrest,hcB⟩:=hc;rw[HR1.out] at e1';cases e1';have ek:=iR ⟨hk1.1,hk1.2.1⟩ ⟨HKd.1,HKd.2.1⟩ (hk1.2.2.trans HKd.2.2.symm);have kh:=HKh.out;rcases hrest with ⟨_,r2',e2',hc5,e6,e7,e8,e9⟩|⟨hk2,_⟩
       ·rw[Hr2.out] at e2';cases e2';exact HN2.out _ hc5
       ·exact absurd (by rw[ek];exact kh) hk2
     ·have H1:=hide h1;clear h1;go_wp2_with fail;refine(oK B _ t v w0 _ HE.out (HG.mV HP7.iF) H1.out).mono ?_;rintro e w9⟨rfl,l5,hr5⟩;have HR5:=hide (HP7.iF.trans hr5);clear hr5;unfold dx;go_wp2_with fail;refine⟨rfl,.inr ⟨fun c r hc=>?_,rfl,_,HR5.out⟩⟩;obtain⟨hc0,r1',e1',hk1,hrest,hcB⟩:=hc;rw[HR1.out] at e1';cases e1';have ek:=iR ⟨hk1.1,hk1.2.1⟩ ⟨HKd.1,HKd.2.1⟩ (hk1.2.2.trans HKd.2.2.symm);have kh:=HKh.out;rcases hrest with ⟨_,r2',e2',hc5,e6,e7,e8,e9⟩|⟨hk2,_⟩
      ·exact H1.out (by rw[e2'];rfl)
      ·exact absurd (by rw[ek];exact kh) hk2
    ·have kh':(k==4||k==5)=false:=by
      cases q:(k==4||k==5)
      ·rfl
      ·exact absurd (by simpa using q) kh
     have HKh:=hide kh;rw[kh'];clear kh kh' d_1;by_cases h1:(bK r1).head?=some 32
     ·obtain⟨r2,e1⟩:∃q,bK r1=32::q:=by
       cases q:bK r1 with
       | nil=>rw[q] at h1;cases h1
       | cons a b=>rw[q] at h1;simp at h1;exact⟨b,by rw[h1]⟩
      have Hr2:=hide e1;rw[e1] at HP7 hrr1;simp only[List.length_cons] at hrr1;have hrrr2:=jG r2;have hwrr2:=iQ r2;clear h1 e1;go_wp2_with fail;refine(qw B r2 _ (HP7.aB (i:=0) rfl) (by omega)).mono ?_;rintro e wa⟨rfl,hr9⟩;have HPa2:Hid (Pool [B] w [[blk B [ag (bs (bK r2))]],[blk w.heap.size [ae au 0,ae au 0,ag ⟨#[]⟩,ag ⟨#[]⟩,ae au 0,ae au 0]],[blk C [ae au n,ae au k,ag ⟨#[]⟩,ag ⟨#[]⟩,ae au 0,ae au 0]]] wa):=hide (HP7.rd hr9);clear hr9 HP7;have d_:=(HPa2.aB (i:=2) rfl).c 2 _ rfl;have f_:=(HPa2.aB (i:=2) rfl).f 2;go_upto_region 6 with fail
      refine bg (fun Wb hWn=>?_);have HPb:Hid (Pool [B] w [[blk B [ag (bs (bK r2))]],[blk w.heap.size [ae au 0,ae au 0,ag ⟨#[]⟩,ag ⟨#[]⟩,ae au 0,ae au 0]],[blk C [ae au n,ae au k,ag (bs (aX r2)),ag ⟨#[]⟩,ae au 0,ae au 0]]] Wb):=hide (by
       have p1:=HPa2.aQ (i:=2) rfl 2 (ag (bs (aX r2))) (by simp);rw[hWn];exact p1)
      clear hWn HPa2 d_ f_;by_cases h1:(bK r2).head?=some 32
      ·obtain⟨r3,e1⟩:∃q,bK r2=32::q:=by
        cases q:bK r2 with
        | nil=>rw[q] at h1;cases h1
        | cons a b=>rw[q] at h1;simp at h1;exact⟨b,by rw[h1]⟩
       have Hr3:=hide e1;rw[e1] at HPb hrrr2;simp only[List.length_cons] at hrrr2;have hrrr3:=jG r3;have hwrr3:=iQ r3;clear h1 e1;go_wp2_with fail;refine(qw B r3 _ (HPb.aB (i:=0) rfl) (by omega)).mono ?_;rintro e wc⟨rfl,hr9⟩;have HPc:Hid (Pool [B] w [[blk B [ag (bs (bK r3))]],[blk w.heap.size [ae au 0,ae au 0,ag ⟨#[]⟩,ag ⟨#[]⟩,ae au 0,ae au 0]],[blk C [ae au n,ae au k,ag (bs (aX r2)),ag ⟨#[]⟩,ae au 0,ae au 0]]] wc):=hide (HPb.rd hr9);clear hr9 HPb;have d_:=(HPc.aB (i:=2) rfl).c 3 _ rfl;have f_:=(HPc.aB (i:=2) rfl).f 3;go_upto_region 7 with fail
       refine bg (fun Wd hWn=>?_);have HPd:Hid (Pool [B] w [[blk B [ag (bs (bK r3))]],[blk w.heap.size [ae au 0,ae au 0,ag ⟨#[]⟩,ag ⟨#[]⟩,ae au 0,ae au 0]],[blk C [ae au n,ae au k,ag (bs (aX r2)),ag (bs (aX r3)),ae au 0,ae au 0]]] Wd):=hide (by
        have p1:=HPc.aQ (i:=2) rfl 3 (ag (bs (aX r3))) (by simp);rw[hWn];exact p1)
       clear hWn HPc d_ f_;by_cases h1:(bK r3).head?=some 32
       ·obtain⟨r4,e1⟩:∃q,bK r3=32::q:=by
         cases q:bK r3 with
         | nil=>rw[q] at h1;cases h1
         | cons a b=>rw[q] at h1;simp at h1;exact⟨b,by rw[h1]⟩
        have Hr4:=hide e1;rw[e1] at HPd hrrr3;simp only[List.length_cons] at hrrr3;have hrrr4:=jG r4;have hwrr4:=iQ r4;clear h1 e1;by_cases hn2:∃n,jF (aX r4) n
        ·obtain⟨am,hn2⟩:=hn2;have HAm:=hide hn2;clear hn2;go_wp2_with fail;refine(ng B r4 am t v w0 _ HE.out (HG.mV HPd.iF) (by omega) HAm.out).mono ?_;rintro e we⟨rfl,hr9⟩;have HPe:Hid (Pool [B] w [[blk B [ag (bs (bK r4))]],[blk w.heap.size [ae au 0,ae au 0,ag ⟨#[]⟩,ag ⟨#[]⟩,ae au 0,ae au 0]],[blk C [ae au n,ae au k,ag (bs (aX r2)),ag (bs (aX r3)),ae au 0,ae au 0]]] we):=hide (HPd.rd hr9);clear hr9 HPd;have d_4:=(HPe.aB (i:=2) rfl).c 4 _ rfl;have f_4:=(HPe.aB (i:=2) rfl).f 4;go_upto_region 8 with fail
         refine bg (fun Wf hWf=>?_);have HPf:Hid (Pool [B] w [[blk B [ag (bs (bK r4))]],[blk w.heap.size [ae au 0,ae au 0,ag ⟨#[]⟩,ag ⟨#[]⟩,ae au 0,ae au 0]],[blk C [ae au n,ae au k,ag (bs (aX r2)),ag (bs (aX r3)),ae au am,ae au 0]]] Wf):=hide (by
          have p1:=HPe.aQ (i:=2) rfl 4 (ae au am) (by simp);rw[hWf];exact p1)
         clear hWf HPe d_4 f_4;have HCz:Hid ((⟨n,k,bs (aX r2),bs (aX r3),am,0⟩:Cm).fr.size<=maxLen/\(⟨n,k,bs (aX r2),bs (aX r3),am,0⟩:Cm).«to».size<=maxLen):=hide ⟨by show (bs (aX r2)).size<=maxLen;rw[bD];unfold maxLen;omega,by show (bs (aX r3)).size<=maxLen;rw[bD];unfold maxLen;omega⟩;have g_0:=(HPf.aB (i:=2) rfl).c 0 _ rfl;have g_1:=(HPf.aB (i:=2) rfl).c 1 _ rfl;have g_2:=(HPf.aB (i:=2) rfl).c 2 _ rfl;have g_3:=(HPf.aB (i:=2) rfl).c 3 _ rfl;have g_4:=(HPf.aB (i:=2) rfl).c 4 _ rfl;have g_5:=(HPf.aB (i:=2) rfl).c 5 _ rfl;go_wp2_with fail;refine(kN (⟨n,k,bs (aX r2),bs (aX r3),am,0⟩:Cm).id (⟨n,k,bs (aX r2),bs (aX r3),am,0⟩:Cm).kind (⟨n,k,bs (aX r2),bs (aX r3),am,0⟩:Cm).fr (⟨n,k,bs (aX r2),bs (aX r3),am,0⟩:Cm).«to» (⟨n,k,bs (aX r2),bs (aX r3),am,0⟩:Cm).am (⟨n,k,bs (aX r2),bs (aX r3),am,0⟩:Cm).ref _ HCz.1 HCz.2).mono ?_;rintro e wA⟨rfl,hkA⟩;have HPA:=hide (HPf.keep hkA.below);clear hkA HPf g_0 g_1 g_2 g_3 g_4 g_5;cases hB:dK (⟨n,k,bs (aX r2),bs (aX r3),am,0⟩:Cm).id (⟨n,k,bs (aX r2),bs (aX r3),am,0⟩:Cm).kind (⟨n,k,bs (aX r2),bs (aX r3),am,0⟩:Cm).fr (⟨n,k,bs (aX r2),bs (aX r3),am,0⟩:Cm).«to» (⟨n,k,bs (aX r2),bs (aX r3),am,0⟩:Cm).am (⟨n,k,bs (aX r2),bs (aX r3),am,0⟩:Cm).ref
         ·have HB:=hide hB;clear hB;go_wp2_with fail;refine(gK _ t v _ ((HG.mV HPA.iF).env HE.out)).mono ?_;rintro e wB⟨rfl,hw⟩;rw[hw];clear hw;unfold dx;go_wp2_with fail;refine⟨rfl,.inr ⟨fun c r hc=>?_,rfl,_,HPA.iF⟩⟩;obtain⟨hc0,r1',e1',hk1,hrest,hcB⟩:=hc;rw[HR1.out] at e1';cases e1';have ek:=iR ⟨hk1.1,hk1.2.1⟩ ⟨HKd.1,HKd.2.1⟩ (hk1.2.2.trans HKd.2.2.symm);have kh:=HKh.out;rcases hrest with ⟨hk2,_⟩|⟨_,r2',r3',r4',e2',e3',e4',e5',e6',hcA,e7,e8⟩
          ·exact absurd (by rw[<-ek];exact hk2) kh
          ·rw[Hr2.out] at e2';cases e2';rw[Hr3.out] at e4';cases e4';rw[Hr4.out] at e6';cases e6';obtain rfl:c=⟨n,k,bs (aX r2),bs (aX r3),am,0⟩:=by
            have z1:=hc0.inj HN.out;have z2:=hcA.inj HAm.out;cases c;simp only at *;subst z1 z2 ek e3' e5' e7;rfl
           have z:=HB.out;unfold Cm.B at hcB;simp only at z hcB;rw[z] at hcB;cases hcB
         ·have HB:=hide hB;clear hB;go_wp2_with fail;refine(fA _ _).mono ?_;rintro e wB⟨rfl,hw⟩;rw[hw];clear hw;have g_0:=(HPA.aB (i:=2) rfl).c 0 _ rfl;have g_1:=(HPA.aB (i:=2) rfl).c 1 _ rfl;have g_2:=(HPA.aB (i:=2) rfl).c 2 _ rfl;have g_3:=(HPA.aB (i:=2) rfl).c 3 _ rfl;have g_4:=(HPA.aB (i:=2) rfl).c 4 _ rfl;have g_5:=(HPA.aB (i:=2) rfl).c 5 _ rfl;have z_0:=(HPA.aB (i:=1) rfl).c 0 _ rfl;have z_1:=(HPA.aB (i:=1) rfl).c 1 _ rfl;have z_2:=(HPA.aB (i:=1) rfl).c 2 _ rfl;have z_3:=(HPA.aB (i:=1) rfl).c 3 _ rfl;have z_4:=(HPA.aB (i:=1) rfl).c 4 _ rfl;have z_5:=(HPA.aB (i:=1) rfl).c 5 _ rfl;have y_0:=(HPA.aB (i:=1) rfl).f 0;have y_1:=(HPA.aB (i:=1) rfl).f 1;have y_2:=(HPA.aB (i:=1) rfl).f 2;have y_3:=(HPA.aB (i:=1) rfl).f 3;have y_4:=(HPA.aB (i:=1) rfl).f 4;have y_5:=(HPA.aB (i:=1) rfl).f 5;have HQ:=HPA.Et (i:=1) rfl (ae au (⟨n,k,bs (aX r2),bs (aX r3),am,0⟩:Cm).id) (ae au (⟨n,k,bs (aX r2),bs (aX r3),am,0⟩:Cm).kind) (ag (⟨n,k,bs (aX r2),bs (aX r3),am,0⟩:Cm).fr) (ag (⟨n,k,bs (aX r2),bs (aX r3),am,0⟩:Cm).«to») (ae au (⟨n,k,bs (aX r2),bs (aX r3),am,0⟩:Cm).am) (ae au (⟨n,k,bs (aX r2),bs (aX r3),am,0⟩:Cm).ref);have e0:=(HQ.aB (i:=1) rfl).c 0 _ rfl;have e1:=(HQ.aB (i:=1) rfl).c 1 _ rfl;have e2:=(HQ.aB (i:=1) rfl).c 2 _ rfl;have e3:=(HQ.aB (i:=1) rfl).c 3 _ rfl;have e4:=(HQ.aB (i:=1) rfl).c 4 _ rfl;have e5:=(HQ.aB (i:=1) rfl).c 5 _ rfl;have HQ2:=hide HQ.iF;clear HQ;dsimp only at e0 e1 e2 e3 e4 e5;go_wp2_with fail;refine bodyPost_ret (v:=(⟨n,k,bs (aX r2),bs (aX r3),am,0⟩:Cm).v) (by simp[results,results93,go_sem,e0,e1,e2,e3,e4,e5,Cm.v]) rfl (.inl ⟨(⟨n,k,bs (aX r2),bs (aX r3),am,0⟩:Cm),(bK r4),?_,rfl,HQ2.out⟩);exact⟨HN.out,r1,HR1.out,HKd.out,.inr ⟨HKh.out,r2,r3,r4,Hr2.out,rfl,Hr3.out,rfl,Hr4.out,HAm.out,rfl,rfl⟩,HB.out⟩
        ·have HN2:Hid (∀n,¬ jF (aX r4) n):=hide (fun n h=>hn2 ⟨n,h⟩);clear hn2;go_wp2_with fail;refine(nk B r4 t v w0 _ HE.out (HG.mV HPd.iF) (by omega) HN2.out).mono ?_;rintro e we⟨rfl,l5,hr5⟩;have HR5:=hide (HPd.iF.trans hr5);clear hr5;unfold dx;go_wp2_with fail;refine⟨rfl,.inr ⟨fun c r hc=>?_,rfl,_,HR5.out⟩⟩;obtain⟨hc0,r1',e1',hk1,hrest,hcB⟩:=hc;rw[HR1.out] at e1';cases e1';have ek:=iR ⟨hk1.1,hk1.2.1⟩ ⟨HKd.1,HKd.2.1⟩ (hk1.2.2.trans HKd.2.2.symm);have kh:=HKh.out;rcases hrest with ⟨hk2,_⟩|⟨_,r2',r3',r4',e2',e3',e4',e5',e6',hcA,e7,e8⟩
         ·exact absurd (by rw[<-ek];exact hk2) kh
         ·rw[Hr2.out] at e2';cases e2';rw[Hr3.out] at e4';cases e4';rw[Hr4.out] at e6';cases e6';exact HN2.out _ hcA
       ·have H1:=hide h1;clear h1;go_wp2_with fail;refine(oK B _ t v w0 _ HE.out (HG.mV HPd.iF) H1.out).mono ?_;rintro e we⟨rfl,l5,hr5⟩;have HR5:=hide (HPd.iF.trans hr5);clear hr5;unfold dx;go_wp2_with fail;refine⟨rfl,.inr ⟨fun c r hc=>?_,rfl,_,HR5.out⟩⟩;obtain⟨hc0,r1',e1',hk1,hrest,hcB⟩:=hc;rw[HR1.out] at e1';cases e1';have ek:=iR ⟨hk1.1,hk1.2.1⟩ ⟨HKd.1,HKd.2.1⟩ (hk1.2.2.trans HKd.2.2.symm);have kh:=HKh.out;rcases hrest with ⟨hk2,_⟩|⟨_,r2',r3',r4',e2',e3',e4',e5',e6',hcA,e7,e8⟩
        ·exact absurd (by rw[<-ek];exact hk2) kh
        ·rw[Hr2.out] at e2';cases e2';rw[Hr3.out] at e4';cases e4';exact H1.out (by rw[e6'];rfl)
      ·have H1:=hide h1;clear h1;go_wp2_with fail;refine(rz B _ t v w0 _ HE.out (HG.mV HPb.iF) H1.out).mono ?_;rintro e we⟨rfl,l5,hr5⟩;have HR5:=hide (HPb.iF.trans hr5);clear hr5;unfold dx;go_wp2_with fail;refine⟨rfl,.inr ⟨fun c r hc=>?_,rfl,_,HR5.out⟩⟩;obtain⟨hc0,r1',e1',hk1,hrest,hcB⟩:=hc;rw[HR1.out] at e1';cases e1';have ek:=iR ⟨hk1.1,hk1.2.1⟩ ⟨HKd.1,HKd.2.1⟩ (hk1.2.2.trans HKd.2.2.symm);have kh:=HKh.out;rcases hrest with ⟨hk2,_⟩|⟨_,r2',r3',r4',e2',e3',e4',e5',e6',hcA,e7,e8⟩
       ·exact absurd (by rw[<-ek];exact hk2) kh
       ·rw[Hr2.out] at e2';cases e2';exact H1.out (by rw[e4'];rfl)
     ·have H1:=hide h1;clear h1;go_wp2_with fail;refine(rz B _ t v w0 _ HE.out (HG.mV HP7.iF) H1.out).mono ?_;rintro e we⟨rfl,l5,hr5⟩;have HR5:=hide (HP7.iF.trans hr5);clear hr5;unfold dx;go_wp2_with fail;refine⟨rfl,.inr ⟨fun c r hc=>?_,rfl,_,HR5.out⟩⟩;obtain⟨hc0,r1',e1',hk1,hrest,hcB⟩:=hc;rw[HR1.out] at e1';cases e1';have ek:=iR ⟨hk1.1,hk1.2.1⟩ ⟨HKd.1,HKd.2.1⟩ (hk1.2.2.trans HKd.2.2.symm);have kh:=HKh.out;rcases hrest with ⟨hk2,_⟩|⟨_,r2',r3',r4',e2',e3',e4',e5',e6',hcA,e7,e8⟩
      ·exact absurd (by rw[<-ek];exact hk2) kh
      ·exact H1.out (by rw[e2'];rfl)
   ·have HK:=hide hk;clear hk hw6;unfold dx;go_wp2_with fail;refine⟨rfl,.inr ⟨fun c r hc=>?_,rfl,_,HP5.iF⟩⟩;obtain⟨_,r1',e1',hk1,_⟩:=hc;rw[HR1.out] at e1';cases e1';exact HK.out c.kind hk1.1 hk1.2.1 hk1.2.2
  ·have H1:=hide h1;clear h1;go_wp2_with fail;refine(CW B _ t v w0 _ HE.out (HG.mV HP4.iF) H1.out).mono ?_;rintro e w5⟨rfl,l5,hr5⟩;have HR5:=hide (HP4.iF.trans hr5);clear hr5;unfold dx;go_wp2_with fail;refine⟨rfl,.inr ⟨fun c r hc=>?_,rfl,_,HR5.out⟩⟩;obtain⟨_,r1',e1',_⟩:=hc;exact H1.out (by rw[e1'];rfl)
 ·have HN:Hid (∀n,¬ jF (aX l) n):=hide (fun n h=>hn ⟨n,h⟩);clear hn;go_wp2_with fail;refine(r9 _ (aX l) t v _ ((HG.mV HP2.iF).env HE.out) (by omega) HN.out).mono ?_;rintro e w3⟨rfl,hb3⟩;have HR3:=hide (HP2.iF.below hb3);clear hb3;unfold dx;go_wp2_with fail;exact⟨rfl,.inr ⟨fun c r hc=>HN.out c.id hc.1,rfl,_,HR3.out⟩⟩
theorem Pool.dY{F:List Nat}{w x:World}{S:List (List Rs)}(h:Pool F w S x){i A:Nat}{v0 v1 v2 v3 v4 v5:Value}(hi:S[i]?=some [blk A [v0,v1,v2,v3,v4,v5]]) :
  (x.cell? ⟨A,0,none⟩=some v0/\x.cell? ⟨A,1,none⟩=some v1/\x.cell? ⟨A,2,none⟩=some v2/\x.cell? ⟨A,3,none⟩=some v3/\x.cell? ⟨A,4,none⟩=some v4/\x.cell? ⟨A,5,none⟩=some v5) /\
  (x.frozen? ⟨A,0,none⟩=false/\x.frozen? ⟨A,1,none⟩=false/\x.frozen? ⟨A,2,none⟩=false/\x.frozen? ⟨A,3,none⟩=false/\x.frozen? ⟨A,4,none⟩=false/\x.frozen? ⟨A,5,none⟩=false) :=
 ⟨⟨(h.aB hi).c 0 _ rfl,(h.aB hi).c 1 _ rfl,(h.aB hi).c 2 _ rfl,(h.aB hi).c 3 _ rfl,(h.aB hi).c 4 _ rfl,(h.aB hi).c 5 _ rfl⟩,⟨(h.aB hi).f 0,(h.aB hi).f 1,(h.aB hi).f 2,(h.aB hi).f 3,(h.aB hi).f 4,(h.aB hi).f 5⟩⟩
theorem eH.rest{l:List UInt8}{c c':Cm}{r r':List UInt8}(h:eH l c r)(k:eH l c' r'):r=r':=by
 obtain⟨a1,r1,e1,k1,h1,_⟩:=h;obtain⟨a2,r1',e1',k1',h1',_⟩:=k;rw[e1] at e1';cases e1';have ek:=iR ⟨k1.1,k1.2.1⟩ ⟨k1'.1,k1'.2.1⟩ (k1.2.2.trans k1'.2.2.symm);rcases h1 with ⟨q,r2,e2,_,_,_,_,e3⟩|⟨q,r2,r3,r4,e2,_,e3,_,e4,_,_,e5⟩
 ·rcases h1' with ⟨q',r2',e2',_,_,_,_,e3'⟩|⟨q',_⟩
  ·rw[e2] at e2';cases e2';rw[e3,e3']
  ·exact absurd (by rw[<-ek];exact q) q'
 ·rcases h1' with ⟨q',_⟩|⟨q',r2',r3',r4',e2',_,e3',_,e4',_,_,e5'⟩
  ·exact absurd (by rw[ek];exact q') q
  ·rw[e2] at e2';cases e2';rw[e3] at e3';cases e3';rw[e4] at e4';cases e4';rw[e5,e5']
end Go.Proofs.YtdbmmdecclalgaaGreatDoor
