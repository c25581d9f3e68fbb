import Derived.Test.YtdbmmdecclalgaaGreatDoorQaf
import Derived.Test.YtdbmmdecclalgaaGreatDoorQac
namespace Go.Proofs.YtdbmmdecclalgaaGreatDoor
open Go.Value renaming int → ae, slice → af, string → ag
open Go.IntKind renaming i64 → au
open Go.Proofs.Tryz Go.ChangeShapes Go.WideShapes Go.ChangeAt Go.RowKit
set_option linter.unusedVariables false
set_option maxRecDepth 100000
set_option maxHeartbeats 8000000
def LA:Nat->Nat->List UInt8->List UInt8
 | 0,_,aI=>aI
 | f+1,n,aI=>if n=0 then aI else LA f (n/10) (dg n::aI)
def jd(n:Nat):ByteArray:={data:=#[109]}++bs (LA 20 n [])
theorem MR(f:Nat)(aI:List UInt8):LA f 0 aI=aI:=by cases f<;>simp[LA]
theorem MS(f n:Nat)(aI:List UInt8)(h:0<n):LA (f+1) n aI=LA f (n/10) (dg n::aI):=by rw[LA,if_neg (by omega)]
theorem eG(n:Nat)(w:World)(h0:0<n)(h1:n<=1000000000) :
  Calls prog 62 #[ae au (n:Int)] w fun e w'=>e=.returned (ag (jd n))/\Below w.heap.size w w':=by
 have a1:¬ (n:Int)<=0:=by omega
 go_enter func62,ntmps62;go_wp2;go_loopw [0,3] (fun i s w'=>∃(k f:Nat)(b:ByteArray),k<=1000000000/\i=ae au (k:Int)/\s=ag b/\Below w.heap.size w w'/\b.size+f<=20/\Hid (k<10 ^ f)/\Hid (LA f k b.data.toList=LA 20 n [])) (fun i s w=>(intOf i).toNat)
 case atStart=>exact⟨n,20,_,h1,rfl,rfl,Below.refl _ _,by decide,hide (by omega),hide rfl⟩
 case round =>
  obtain⟨k,f,b,hk,rfl,rfl,HB,hb,HP,HD⟩:=hrel;have hc:=Qm;by_cases h:0<k
  ·have h':(0:Int)<(k:Int):=by omega
   have hk':(k:Int)<=1000000000:=by omega
   have HD2:Hid (∃g,f=g+1/\k/10<10 ^ g/\LA g (k/10) (({data:=#[UInt8.ofNat (48+k%10)]}:ByteArray)++b).data.toList=LA 20 n []):=hide (by
    have hp:=HP.out;have hd:=HD.out;obtain⟨g,rfl⟩:∃g,f=g+1:=by
     rcases f with _|g
     ·simp at hp;omega
     ·exact⟨g,rfl⟩
    refine⟨g,rfl,by rw[Nat.pow_succ] at hp;omega,?_⟩;rw[uZ,<-hd,MS g k _ h];rfl)
   have HE:Hid ((48+(k:Int)%10).toNat=48+k%10):=hide (by omega);clear HP HD;go_wp2;obtain⟨g,rfl,hp,hd⟩:=HD2.out;refine⟨⟨k/10,g,_,by omega,by go_num,rfl,aF HB _,?_,hide hp,hide ?_⟩,by simp[intOf];omega⟩
   ·rw[EF];omega
   ·rw[<-hd,UInt8.ofNat_add];rfl
  ·have h':¬ (0:Int)<(k:Int):=by omega
   have HE:Hid (b=bs (LA 20 n [])):=hide (by
    have:=HD.out;rw[show k=0 by omega,MR] at this;exact gQ this)
   go_wp2;go_ret;exact⟨by unfold jd;rw[<-HE.out];rfl,HB⟩
structure qV(p:Prop)(g:Nat)(w w':World):Prop where
 os:w'.os=w.os
 tape:w'.tape=w.tape
 output:w'.output=w.output
 size:w.heap.size<=w'.heap.size
 block:∀k,k<w.heap.size->(p->k≠g)->w'.heap[k]?=w.heap[k]?
theorem qV.refl(p:Prop)(g:Nat)(w:World):qV p g w w:=⟨rfl,rfl,rfl,Nat.le_refl _,fun _ _ _=>rfl⟩
theorem qV.on{p:Prop}{g:Nat}{w x y:World}(h:qV p g w x)(b:Below x.heap.size x y):qV p g w y :=
 ⟨b.os.trans h.os,b.tape.trans h.tape,b.output.trans h.output,Nat.le_trans h.size b.size,fun k hk hg=>(b.block k (Nat.lt_of_lt_of_le hk h.size)).trans (h.block k hk hg)⟩
theorem qV.setCell{p:Prop}{g:Nat}{w x:World}(h:qV p g w x)(hp:p){o:Nat}(v:Value):qV p g w (x.setCell ⟨g,o,none⟩ v) :=
 ⟨h.os,h.tape,h.output,by rw[size_setCell];exact h.size,fun k hk hg=>(Below.heap_setCell _ _ _ _ (hg hp)).trans (h.block k hk hg)⟩
theorem qV.below{p:Prop}{g:Nat}{w x:World}(h:qV p g w x){B:Nat}(hB:p->B<=g)(hw:B<=w.heap.size):Below B w x:=⟨h.os,h.tape,h.output,h.size,fun k hk=>h.block k (by omega) (fun q=>by have:=hB q;omega)⟩
theorem qH.below{g n size k m:Nat}{cells:Nat->List Value}{x y:World}(h:qH g n size cells k m x)(b:Below x.heap.size x y):qH g n size cells k m y :=
 ⟨Nat.lt_of_lt_of_le h.lt b.size,fun j hj=>by obtain⟨v,hv⟩:=h.there j hj;exact⟨v,(b.cell h.lt).trans hv⟩,fun j=>(b.frozen h.lt).trans (h.free j),fun i r hi hr=>(b.cell h.lt).trans (h.done i r hi hr),fun r hr=>(b.cell h.lt).trans (h.part r hr)⟩
theorem nu{A:Type}{sz:Nat}{f:A->List Value}(hf:∀x,(f x).length=sz)(h0:0<sz){g cap:Nat}{a:Option Addr}{l:List A}{x:World}{cells:Nat->List Value}(h:bR sz f x g a cap l)(hl:0<l.length):jV g l.length sz cells 0 x :=
 ⟨h.lt hl,fun j hj=>by
  have hi:j/sz<l.length:=(Nat.div_lt_iff_lt_mul h0).2 hj;have hr:j%sz<sz:=Nat.mod_lt _ h0;obtain⟨b,off,e,_,hc⟩:=h.rows (j/sz) hi;rw[(h.own hl).1] at e;simp only[Option.some.injEq,Addr.mk.injEq,and_true] at e;obtain⟨rfl,rfl⟩:=e;have hr':j%sz<(f l[j/sz]).length:=by rw[hf];exact hr
  have:=hc (j%sz) _ (List.getElem?_eq_getElem hr');have hd:j/sz*sz+j%sz=j:=by rw[Nat.mul_comm];exact Nat.div_add_mod j sz
  rw[Nat.zero_add,hd] at this;exact⟨_,this⟩,(h.own hl).2,fun i r hi=>by omega⟩
theorem bR.oz{A:Type}{sz:Nat}{f:A->List Value}{x y:World}{g:Nat}{a:Option Addr}{cap:Nat}{l:List A}(h:bR sz f x g a cap l)(e:0<l.length->y.heap[g]?=x.heap[g]?):bR sz f y g a cap l:=by
 have hgy:0<l.length->g<y.heap.size:=fun q=>by
  have hg:=h.lt q;have e:=e q;rcases Nat.lt_or_ge g y.heap.size with k|k
  ·exact k
  ·rw[Array.getElem?_eq_none k,Array.getElem?_eq_getElem hg] at e;cases e
 refine⟨fun i hi=>?_,fun h0=>⟨(h.own h0).1,fun j=>?_⟩,h.room,h.nocap⟩
 ·have h0:0<l.length:=by omega
  obtain⟨b,off,e2,_,hc⟩:=h.rows i hi;have e3:=e2;rw[(h.own h0).1] at e2;simp only[Option.some.injEq,Addr.mk.injEq,and_true] at e2;obtain⟨rfl,rfl⟩:=e2;exact⟨g,0,e3,hgy h0,fun r v hv=>(World.cell?_of_block (w:=x) (e h0)).trans (hc r v hv)⟩
 ·exact(World.frozen?_of_block (w:=x) (e h0)).trans ((h.own h0).2 j)
theorem jb.same{g:Nat}{cur:List Value}{x y:World}(h:jb g cur x)(e:y.heap[g]?=x.heap[g]?)(s:x.heap.size<=y.heap.size):jb g cur y :=
 ⟨Nat.lt_of_lt_of_le h.lt s,fun j v hj=>(World.cell?_of_block e).trans (h.c j v hj),fun j=>(World.frozen?_of_block e).trans (h.f j)⟩
theorem bN{W:World}{p:Addr}{v:Value}(h:W.cell? p=some v):∀y:Later W,y.w.cell? p=some v:=fun y=>(y.below.cell (dO h)).trans h
def mQ(r:Nat)(w:World)(e:Ending)(w':World):Prop:=e=.returned (ae au ((r:Nat):Int))/\Below w.heap.size w w'
def fK(q n:Nat):List bF:=(List.range n).map fun(i:Nat)=>⟨jd (q+4*i),jd (q+4*i+1),((q+4*i:Nat):Int)+2,((q+4*i:Nat):Int)+3⟩
theorem jg(q n:Nat):(fK q n).length=n:=by simp[fK]
theorem FT(q n:Nat)(i:Nat)(h:i<n):(fK q n)[i]?=some ⟨jd (q+4*i),jd (q+4*i+1),((q+4*i:Nat):Int)+2,((q+4*i:Nat):Int)+3⟩:=by simp[fK,List.getElem?_range h]
theorem DZ(q n:Nat)(i:Nat)(h:i<(fK q n).length):(fK q n)[i]=⟨jd (q+4*i),jd (q+4*i+1),((q+4*i:Nat):Int)+2,((q+4*i:Nat):Int)+3⟩:=by simp[fK]
def qN(q:Nat)(g:Nat)(a:Option Addr)(cap n:Nat)(w:World)(e:Ending)(w':World):Prop:=e=.returned (ae au ((q+4*n:Nat):Int))/\qV (0<n) g w w'/\bR 4 aL w' g a cap (fK q n)
theorem wD(a:Option Addr)(l:List bF)(cap g:Nat)(q:Nat)(w:World)(hn:l.length<=10000000)(q0:0<q)(q1:q<=100000000)(h:bR 4 aL w g a cap l) :
  Calls prog 28 #[af a l.length cap,ae au (q:Int)] w fun e w'=>qN q g a cap l.length w e w':=by
 have HL:=hide h;clear h;by_cases h0:0<l.length
 ·have HO:=hide (nu mq (by decide) (cells:=fun i=>((fK q l.length)[i]?).elim [] aL) HL.out h0);obtain⟨rfl,_⟩:=HL.own h0;go_enter func28,ntmps28;go_wp2;go_loopw [1,5] (fun s i wr=>∃k:Nat,k<=l.length/\i=ae au (k:Int)/\s=ae au ((q+4*k:Nat):Int)/\Hid (qV (0<l.length) g w wr)/\Hid (jV g l.length 4 (fun i=>((fK q l.length)[i]?).elim [] aL) k wr)) (fun s i wr=>l.length-(intOf i).toNat)
  case atStart=>exact⟨0,Nat.zero_le _,rfl,by simp,hide (qV.refl _ _ _),HO⟩
  case round =>
   obtain⟨k,hk,rfl,rfl,HT,HM⟩:=hrel;by_cases hlt:k<l.length
   ·have hlt':(k:Int)<(l.length:Int):=by omega
    have HQK:Hid (0<q+4*k/\q+4*k<=900000000):=hide (by omega);have hqk:((q+4*k:Nat):Int)<=900000000:=by omega
    have HAT:=hide (FT q l.length k hlt);generalize hqe:q+4*k=qk at *;have HQE:=hide hqe;clear hqe;have HP0:=hide HM.put;have HT0:=hide HT.out;clear HM HT;have HMT0:Hid (Calls prog 62 #[ae au ((qk:Nat):Int)] (wr) fun e w'=>e=.returned (ag (jd qk))/\Below (wr).heap.size (wr) w'):=hide (by
     have:=eG qk (wr) (by have:=HQK.out;omega) (by have:=HQK.out;omega);simpa using this)
    go_wp2_with fail;refine HMT0.mono ?_;rintro e x0⟨rfl,hb0⟩;have HQ0:=hide (HP0.below hb0);have HU0:=hide (HT0.on hb0);clear hb0 HP0 HT0 HMT0;obtain⟨v0,f0⟩:=HQ0.there (k*4) (by omega);have z0:=HQ0.free (k*4);have HP1:=hide (HQ0.set hlt (by decide) (v:=ag (jd qk)) (by rw[HAT.out];simp[aL]) (o:=k*4) (by omega));have HT1:=hide (HU0.setCell h0 (o:=k*4) (ag (jd qk)));clear HQ0 HU0;have HMT1:Hid (Calls prog 62 #[ae au ((qk:Int)+1)] (x0.setCell ⟨g,k*4,none⟩ (ag (jd qk))) fun e w'=>e=.returned (ag (jd (qk+1)))/\Below (x0.setCell ⟨g,k*4,none⟩ (ag (jd qk))).heap.size (x0.setCell ⟨g,k*4,none⟩ (ag (jd qk))) w'):=hide (by
     have:=eG (qk+1) (x0.setCell ⟨g,k*4,none⟩ (ag (jd qk))) (by have:=HQK.out;omega) (by have:=HQK.out;omega);simpa using this)
    go_wp2_with fail;refine HMT1.mono ?_;rintro e x1⟨rfl,hb1⟩;have HQ1:=hide (HP1.below hb1);have HU1:=hide (HT1.on hb1);clear hb1 HP1 HT1 HMT1 f0 z0;obtain⟨v1,f1⟩:=HQ1.there (k*4+1) (by omega);have z1:=HQ1.free (k*4+1);obtain⟨v2,f2⟩:=HQ1.there (k*4+2) (by omega);have z2:=HQ1.free (k*4+2);obtain⟨v3,f3⟩:=HQ1.there (k*4+3) (by omega);have z3:=HQ1.free (k*4+3);have HP2:=hide (HQ1.set hlt (by decide) (v:=ag (jd (qk+1))) (by rw[HAT.out];simp[aL]) (o:=k*4+1) (by omega));have HT2:=hide (HU1.setCell h0 (o:=k*4+1) (ag (jd (qk+1))));clear HQ1 HU1;have HQ2:=hide HP2.out;have HU2:=hide HT2.out;clear HP2 HT2;have HP3:=hide (HQ2.set hlt (by decide) (v:=ae au ((qk:Int)+2)) (by rw[HAT.out];simp[aL]) (o:=k*4+2) (by omega));have HT3:=hide (HU2.setCell h0 (o:=k*4+2) (ae au ((qk:Int)+2)));clear HQ2 HU2;have HQ3:=hide HP3.out;have HU3:=hide HT3.out;clear HP3 HT3;have HP4:=hide (HQ3.set hlt (by decide) (v:=ae au ((qk:Int)+3)) (by rw[HAT.out];simp[aL]) (o:=k*4+3) (by omega));have HT4:=hide (HU3.setCell h0 (o:=k*4+3) (ae au ((qk:Int)+3)));clear HQ3 HU3;have HW:=hide HP4.whole;clear HP4;go_wp2;exact⟨⟨k+1,by omega,by go_num,by have:=HQE.out;go_num,HT4,HW⟩,by simp[intOf];omega⟩
   ·have hk':¬ (k:Int)<(l.length:Int):=by omega
    have HE:Hid (qN q g (some ⟨g,0,none⟩) cap l.length w (.returned (ae au ((q+4*k:Nat):Int))) wr):=hide (by
     have M:=HM.out;have ek:k=l.length:=by omega
     rw[ek] at M⊢;have O:=kv (l:=fK q l.length) mq (by rw[jg];exact M) (cap:=cap) (by rw[jg];exact HL.room);exact⟨rfl,HT.out,O⟩)
    generalize ((q+4*k:Nat):Int)=qk at *;go_wp2;go_ret;exact HE.out
 ·have hz:l=[]:=List.eq_nil_of_length_eq_zero (by omega);subst hz;go_enter func28,ntmps28;go_wp2;go_loopw [1,5] (fun s i wr=>s=ae au (q:Int)/\i=ae au 0/\wr=w) (fun s i wr=>0)
  case atStart=>exact⟨rfl,rfl,rfl⟩
  case round =>
   obtain⟨rfl,rfl,hw⟩:=hrel;subst hw;go_wp2;go_ret;exact⟨by simp,qV.refl _ _ _,by have:=HL.out;simpa[fK] using this⟩
theorem FR{q n:Nat}{a:Option Addr}{w:World}(h:bu 4 aL w a (fK q n))(i:Nat)(hi:i<n):∃b off,a=some ⟨b,off,none⟩/\b<w.heap.size/\w.cell? ⟨b,off+i*4,none⟩=some (ag (jd (q+4*i)))/\w.cell? ⟨b,off+i*4+1,none⟩=some (ag (jd (q+4*i+1)))/\w.cell? ⟨b,off+i*4+2,none⟩=some (ae au (((q+4*i:Nat):Int)+2))/\w.cell? ⟨b,off+i*4+3,none⟩=some (ae au (((q+4*i:Nat):Int)+3)):=by
 obtain⟨b,off,e,hb,hc⟩:=h i (by rw[jg];exact hi);rw[DZ] at hc;exact⟨b,off,e,hb,hc 0 _ rfl,hc 1 _ rfl,hc 2 _ rfl,hc 3 _ rfl⟩
theorem wN(a:Option Addr)(n cap:Nat)(q:Nat)(w:World)(hn:n<=10000000)(q0:0<q)(q1:q<=100000000)(h:bu 4 aL w a (fK q n)) :
  Calls prog 31 #[af a n cap,ae au (q:Int)] w fun e w'=>mQ (q+4*n) w e w':=by
 have HL:=hide h;clear h;go_enter func31,ntmps31;go_wp2;go_loopw [1,5] (fun s i wr=>∃k:Nat,k<=n/\i=ae au (k:Int)/\s=ae au ((q+4*k:Nat):Int)/\Hid (Below w.heap.size w wr)) (fun s i wr=>n-(intOf i).toNat)
 case atStart=>exact⟨0,Nat.zero_le _,rfl,by simp,hide (Below.refl _ _)⟩
 case round =>
  obtain⟨k,hk,rfl,rfl,HB⟩:=hrel;by_cases hlt:k<n
  ·have hlt':(k:Int)<(n:Int):=by omega
   obtain⟨b,off,rfl,hb,d0,d1,d2,d3⟩:=FR (HL.below HB.out) k hlt;have HQK:Hid (0<q+4*k/\q+4*k<=900000000):=hide (by omega);have hqk:((q+4*k:Nat):Int)<=900000000:=by omega
   generalize hqe:q+4*k=qk at *;have HQE:=hide hqe;clear hqe hb;have HMT0:Hid (∀y:Later wr,Calls prog 62 #[ae au ((qk:Nat):Int)] y.w fun e w'=>e=.returned (ag (jd qk))/\Below y.w.heap.size y.w w'):=hide (fun y=>by
    have:=eG qk y.w (by have:=HQK.out;omega) (by have:=HQK.out;omega);simpa using this)
   have hcell0:=bN d0;have hne0:Nonempty (Later wr):=bO _;go_wp2_with fail;refine aU wr (by kernel_rfl) (by kernel_rfl) ((Below.refl _ _).drew) ?_
   repeat (go_big_quiet_step (first|(go_at_call 62;exact dh (HMT0.out _))))
   refine wpQuiet_nil ?_;intro _ hw';obtain⟨nx0,rfl⟩:=hw';obtain⟨x0,hx0⟩:∃x,x=nx0.w:=⟨_,rfl⟩;have hb0:Below wr.heap.size wr x0:=hx0▸nx0.below;rw[<-hx0];clear HMT0 hcell0 hne0 hx0;have HB0:=hide (aJ HB.out hb0);replace d1:=aN hb0 _ _ d1;replace d2:=aN hb0 _ _ d2;replace d3:=aN hb0 _ _ d3;clear hb0 nx0;have HMT1:Hid (∀y:Later x0,Calls prog 62 #[ae au ((qk:Int)+1)] y.w fun e w'=>e=.returned (ag (jd (qk+1)))/\Below y.w.heap.size y.w w'):=hide (fun y=>by
    have:=eG (qk+1) y.w (by have:=HQK.out;omega) (by have:=HQK.out;omega);simpa using this)
   have hcell1:=bN d1;have hne1:Nonempty (Later x0):=bO _;go_wp2_with fail;refine aU x0 (by kernel_rfl) (by kernel_rfl) ((Below.refl _ _).drew) ?_
   repeat (go_big_quiet_step (first|(go_at_call 62;exact dh (HMT1.out _))))
   refine wpQuiet_nil ?_;intro _ hw';obtain⟨nx1,rfl⟩:=hw';obtain⟨x1,hx1⟩:∃x,x=nx1.w:=⟨_,rfl⟩;have hb1:Below x0.heap.size x0 x1:=hx1▸nx1.below;rw[<-hx1];clear HMT1 hcell1 hne1 hx1;have HB1:=hide (aJ HB0.out hb1);replace d2:=aN hb1 _ _ d2;replace d3:=aN hb1 _ _ d3;clear hb1 nx1;go_wp2;exact⟨⟨k+1,by omega,by go_num,by have:=HQE.out;go_num,HB1⟩,by simp[intOf];omega⟩
  ·have hk':¬ (k:Int)<(n:Int):=by omega
   have HE:Hid (mQ (q+4*n) w (.returned (ae au ((q+4*k:Nat):Int))) wr):=hide ⟨by rw[show k=n by omega],HB.out⟩;generalize ((q+4*k:Nat):Int)=qk at *;go_wp2;go_ret;exact HE.out
def fJ(q n:Nat):List bP:=(List.range n).map fun(i:Nat)=>⟨((q+4*i:Nat):Int),jd (q+4*i+1),jd (q+4*i+2),((q+4*i:Nat):Int)+3⟩
theorem je(q n:Nat):(fJ q n).length=n:=by simp[fJ]
theorem Fp(q n:Nat)(i:Nat)(h:i<n):(fJ q n)[i]?=some ⟨((q+4*i:Nat):Int),jd (q+4*i+1),jd (q+4*i+2),((q+4*i:Nat):Int)+3⟩:=by simp[fJ,List.getElem?_range h]
theorem Du(q n:Nat)(i:Nat)(h:i<(fJ q n).length):(fJ q n)[i]=⟨((q+4*i:Nat):Int),jd (q+4*i+1),jd (q+4*i+2),((q+4*i:Nat):Int)+3⟩:=by simp[fJ]
def uV(q:Nat)(g:Nat)(a:Option Addr)(cap n:Nat)(w:World)(e:Ending)(w':World):Prop:=e=.returned (ae au ((q+4*n:Nat):Int))/\qV (0<n) g w w'/\bR 4 aG w' g a cap (fJ q n)
theorem Ba(a:Option Addr)(l:List bP)(cap g:Nat)(q:Nat)(w:World)(hn:l.length<=10000000)(q0:0<q)(q1:q<=100000000)(h:bR 4 aG w g a cap l) :
  Calls prog 29 #[af a l.length cap,ae au (q:Int)] w fun e w'=>uV q g a cap l.length w e w':=by
 have HL:=hide h;clear h;by_cases h0:0<l.length
 ·have HO:=hide (nu gH (by decide) (cells:=fun i=>((fJ q l.length)[i]?).elim [] aG) HL.out h0);obtain⟨rfl,_⟩:=HL.own h0;go_enter func29,ntmps29;go_wp2;go_loopw [1,5] (fun s i wr=>∃k:Nat,k<=l.length/\i=ae au (k:Int)/\s=ae au ((q+4*k:Nat):Int)/\Hid (qV (0<l.length) g w wr)/\Hid (jV g l.length 4 (fun i=>((fJ q l.length)[i]?).elim [] aG) k wr)) (fun s i wr=>l.length-(intOf i).toNat)
  case atStart=>exact⟨0,Nat.zero_le _,rfl,by simp,hide (qV.refl _ _ _),HO⟩
  case round =>
   obtain⟨k,hk,rfl,rfl,HT,HM⟩:=hrel;by_cases hlt:k<l.length
   ·have hlt':(k:Int)<(l.length:Int):=by omega
    have HQK:Hid (0<q+4*k/\q+4*k<=900000000):=hide (by omega);have hqk:((q+4*k:Nat):Int)<=900000000:=by omega
    have HAT:=hide (Fp q l.length k hlt);generalize hqe:q+4*k=qk at *;have HQE:=hide hqe;clear hqe;have HP0:=hide HM.put;have HT0:=hide HT.out;clear HM HT;have HQ0:=hide HP0.out;have HU0:=hide HT0.out;clear HP0 HT0;obtain⟨v0,f0⟩:=HQ0.there (k*4) (by omega);have z0:=HQ0.free (k*4);have HP1:=hide (HQ0.set hlt (by decide) (v:=ae au (qk:Int)) (by rw[HAT.out];simp[aG]) (o:=k*4) (by omega));have HT1:=hide (HU0.setCell h0 (o:=k*4) (ae au (qk:Int)));clear HQ0 HU0;have HMT1:Hid (Calls prog 62 #[ae au ((qk:Int)+1)] (wr.setCell ⟨g,k*4,none⟩ (ae au (qk:Int))) fun e w'=>e=.returned (ag (jd (qk+1)))/\Below (wr.setCell ⟨g,k*4,none⟩ (ae au (qk:Int))).heap.size (wr.setCell ⟨g,k*4,none⟩ (ae au (qk:Int))) w'):=hide (by
     have:=eG (qk+1) (wr.setCell ⟨g,k*4,none⟩ (ae au (qk:Int))) (by have:=HQK.out;omega) (by have:=HQK.out;omega);simpa using this)
    go_wp2_with fail;refine HMT1.mono ?_;rintro e x1⟨rfl,hb1⟩;have HQ1:=hide (HP1.below hb1);have HU1:=hide (HT1.on hb1);clear hb1 HP1 HT1 HMT1 f0 z0;obtain⟨v1,f1⟩:=HQ1.there (k*4+1) (by omega);have z1:=HQ1.free (k*4+1);have HP2:=hide (HQ1.set hlt (by decide) (v:=ag (jd (qk+1))) (by rw[HAT.out];simp[aG]) (o:=k*4+1) (by omega));have HT2:=hide (HU1.setCell h0 (o:=k*4+1) (ag (jd (qk+1))));clear HQ1 HU1;have HMT2:Hid (Calls prog 62 #[ae au ((qk:Int)+2)] (x1.setCell ⟨g,k*4+1,none⟩ (ag (jd (qk+1)))) fun e w'=>e=.returned (ag (jd (qk+2)))/\Below (x1.setCell ⟨g,k*4+1,none⟩ (ag (jd (qk+1)))).heap.size (x1.setCell ⟨g,k*4+1,none⟩ (ag (jd (qk+1)))) w'):=hide (by
     have:=eG (qk+2) (x1.setCell ⟨g,k*4+1,none⟩ (ag (jd (qk+1)))) (by have:=HQK.out;omega) (by have:=HQK.out;omega);simpa using this)
    go_wp2_with fail;refine HMT2.mono ?_;rintro e x2⟨rfl,hb2⟩;have HQ2:=hide (HP2.below hb2);have HU2:=hide (HT2.on hb2);clear hb2 HP2 HT2 HMT2 f1 z1;obtain⟨v2,f2⟩:=HQ2.there (k*4+2) (by omega);have z2:=HQ2.free (k*4+2);obtain⟨v3,f3⟩:=HQ2.there (k*4+3) (by omega);have z3:=HQ2.free (k*4+3);have HP3:=hide (HQ2.set hlt (by decide) (v:=ag (jd (qk+2))) (by rw[HAT.out];simp[aG]) (o:=k*4+2) (by omega));have HT3:=hide (HU2.setCell h0 (o:=k*4+2) (ag (jd (qk+2))));clear HQ2 HU2;have HQ3:=hide HP3.out;have HU3:=hide HT3.out;clear HP3 HT3;have HP4:=hide (HQ3.set hlt (by decide) (v:=ae au ((qk:Int)+3)) (by rw[HAT.out];simp[aG]) (o:=k*4+3) (by omega));have HT4:=hide (HU3.setCell h0 (o:=k*4+3) (ae au ((qk:Int)+3)));clear HQ3 HU3;have HW:=hide HP4.whole;clear HP4;go_wp2;exact⟨⟨k+1,by omega,by go_num,by have:=HQE.out;go_num,HT4,HW⟩,by simp[intOf];omega⟩
   ·have hk':¬ (k:Int)<(l.length:Int):=by omega
    have HE:Hid (uV q g (some ⟨g,0,none⟩) cap l.length w (.returned (ae au ((q+4*k:Nat):Int))) wr):=hide (by
     have M:=HM.out;have ek:k=l.length:=by omega
     rw[ek] at M⊢;have O:=kv (l:=fJ q l.length) gH (by rw[je];exact M) (cap:=cap) (by rw[je];exact HL.room);exact⟨rfl,HT.out,O⟩)
    generalize ((q+4*k:Nat):Int)=qk at *;go_wp2;go_ret;exact HE.out
 ·have hz:l=[]:=List.eq_nil_of_length_eq_zero (by omega);subst hz;go_enter func29,ntmps29;go_wp2;go_loopw [1,5] (fun s i wr=>s=ae au (q:Int)/\i=ae au 0/\wr=w) (fun s i wr=>0)
  case atStart=>exact⟨rfl,rfl,rfl⟩
  case round =>
   obtain⟨rfl,rfl,hw⟩:=hrel;subst hw;go_wp2;go_ret;exact⟨by simp,qV.refl _ _ _,by have:=HL.out;simpa[fJ] using this⟩
theorem Fj{q n:Nat}{a:Option Addr}{w:World}(h:bu 4 aG w a (fJ q n))(i:Nat)(hi:i<n):∃b off,a=some ⟨b,off,none⟩/\b<w.heap.size/\w.cell? ⟨b,off+i*4,none⟩=some (ae au (((q+4*i:Nat):Int)))/\w.cell? ⟨b,off+i*4+1,none⟩=some (ag (jd (q+4*i+1)))/\w.cell? ⟨b,off+i*4+2,none⟩=some (ag (jd (q+4*i+2)))/\w.cell? ⟨b,off+i*4+3,none⟩=some (ae au (((q+4*i:Nat):Int)+3)):=by
 obtain⟨b,off,e,hb,hc⟩:=h i (by rw[je];exact hi);rw[Du] at hc;exact⟨b,off,e,hb,hc 0 _ rfl,hc 1 _ rfl,hc 2 _ rfl,hc 3 _ rfl⟩
theorem Bi(a:Option Addr)(n cap:Nat)(q:Nat)(w:World)(hn:n<=10000000)(q0:0<q)(q1:q<=100000000)(h:bu 4 aG w a (fJ q n)) :
  Calls prog 32 #[af a n cap,ae au (q:Int)] w fun e w'=>mQ (q+4*n) w e w':=by
 have HL:=hide h;clear h;go_enter func32,ntmps32;go_wp2;go_loopw [1,5] (fun s i wr=>∃k:Nat,k<=n/\i=ae au (k:Int)/\s=ae au ((q+4*k:Nat):Int)/\Hid (Below w.heap.size w wr)) (fun s i wr=>n-(intOf i).toNat)
 case atStart=>exact⟨0,Nat.zero_le _,rfl,by simp,hide (Below.refl _ _)⟩
 case round =>
  obtain⟨k,hk,rfl,rfl,HB⟩:=hrel;by_cases hlt:k<n
  ·have hlt':(k:Int)<(n:Int):=by omega
   obtain⟨b,off,rfl,hb,d0,d1,d2,d3⟩:=Fj (HL.below HB.out) k hlt;have HQK:Hid (0<q+4*k/\q+4*k<=900000000):=hide (by omega);have hqk:((q+4*k:Nat):Int)<=900000000:=by omega
   generalize hqe:q+4*k=qk at *;have HQE:=hide hqe;clear hqe hb;have HMT1:Hid (∀y:Later wr,Calls prog 62 #[ae au ((qk:Int)+1)] y.w fun e w'=>e=.returned (ag (jd (qk+1)))/\Below y.w.heap.size y.w w'):=hide (fun y=>by
    have:=eG (qk+1) y.w (by have:=HQK.out;omega) (by have:=HQK.out;omega);simpa using this)
   have hcell1:=bN d1;have hne1:Nonempty (Later wr):=bO _;go_wp2_with fail;refine aU wr (by kernel_rfl) (by kernel_rfl) ((Below.refl _ _).drew) ?_
   repeat (go_big_quiet_step (first|(go_at_call 62;exact dh (HMT1.out _))))
   refine wpQuiet_nil ?_;intro _ hw';obtain⟨nx1,rfl⟩:=hw';obtain⟨x1,hx1⟩:∃x,x=nx1.w:=⟨_,rfl⟩;have hb1:Below wr.heap.size wr x1:=hx1▸nx1.below;rw[<-hx1];clear HMT1 hcell1 hne1 hx1;have HB1:=hide (aJ HB.out hb1);replace d2:=aN hb1 _ _ d2;replace d3:=aN hb1 _ _ d3;clear hb1 nx1;have HMT2:Hid (∀y:Later x1,Calls prog 62 #[ae au ((qk:Int)+2)] y.w fun e w'=>e=.returned (ag (jd (qk+2)))/\Below y.w.heap.size y.w w'):=hide (fun y=>by
    have:=eG (qk+2) y.w (by have:=HQK.out;omega) (by have:=HQK.out;omega);simpa using this)
   have hcell2:=bN d2;have hne2:Nonempty (Later x1):=bO _;go_wp2_with fail;refine aU x1 (by kernel_rfl) (by kernel_rfl) ((Below.refl _ _).drew) ?_
   repeat (go_big_quiet_step (first|(go_at_call 62;exact dh (HMT2.out _))))
   refine wpQuiet_nil ?_;intro _ hw';obtain⟨nx2,rfl⟩:=hw';obtain⟨x2,hx2⟩:∃x,x=nx2.w:=⟨_,rfl⟩;have hb2:Below x1.heap.size x1 x2:=hx2▸nx2.below;rw[<-hx2];clear HMT2 hcell2 hne2 hx2;have HB2:=hide (aJ HB1.out hb2);replace d3:=aN hb2 _ _ d3;clear hb2 nx2;go_wp2;exact⟨⟨k+1,by omega,by go_num,by have:=HQE.out;go_num,HB2⟩,by simp[intOf];omega⟩
  ·have hk':¬ (k:Int)<(n:Int):=by omega
   have HE:Hid (mQ (q+4*n) w (.returned (ae au ((q+4*k:Nat):Int))) wr):=hide ⟨by rw[show k=n by omega],HB.out⟩;generalize ((q+4*k:Nat):Int)=qk at *;go_wp2;go_ret;exact HE.out
def gL(q n:Nat):List Sn:=(List.range n).map fun(i:Nat)=>⟨((q+2*i:Nat):Int),((q+2*i:Nat):Int)+1⟩
theorem kz(q n:Nat):(gL q n).length=n:=by simp[gL]
theorem GA(q n:Nat)(i:Nat)(h:i<n):(gL q n)[i]?=some ⟨((q+2*i:Nat):Int),((q+2*i:Nat):Int)+1⟩:=by simp[gL,List.getElem?_range h]
theorem Ep(q n:Nat)(i:Nat)(h:i<(gL q n).length):(gL q n)[i]=⟨((q+2*i:Nat):Int),((q+2*i:Nat):Int)+1⟩:=by simp[gL]
def pE(q:Nat)(g:Nat)(a:Option Addr)(cap n:Nat)(w:World)(e:Ending)(w':World):Prop:=e=.returned (ae au ((q+2*n:Nat):Int))/\qV (0<n) g w w'/\bR 2 aM w' g a cap (gL q n)
theorem uY(a:Option Addr)(l:List Sn)(cap g:Nat)(q:Nat)(w:World)(hn:l.length<=10000000)(q0:0<q)(q1:q<=100000000)(h:bR 2 aM w g a cap l) :
  Calls prog 30 #[af a l.length cap,ae au (q:Int)] w fun e w'=>pE q g a cap l.length w e w':=by
 have HL:=hide h;clear h;by_cases h0:0<l.length
 ·have HO:=hide (nu kC (by decide) (cells:=fun i=>((gL q l.length)[i]?).elim [] aM) HL.out h0);obtain⟨rfl,_⟩:=HL.own h0;go_enter func30,ntmps30;go_wp2;go_loopw [1,5] (fun s i wr=>∃k:Nat,k<=l.length/\i=ae au (k:Int)/\s=ae au ((q+2*k:Nat):Int)/\Hid (qV (0<l.length) g w wr)/\Hid (jV g l.length 2 (fun i=>((gL q l.length)[i]?).elim [] aM) k wr)) (fun s i wr=>l.length-(intOf i).toNat)
  case atStart=>exact⟨0,Nat.zero_le _,rfl,by simp,hide (qV.refl _ _ _),HO⟩
  case round =>
   obtain⟨k,hk,rfl,rfl,HT,HM⟩:=hrel;by_cases hlt:k<l.length
   ·have hlt':(k:Int)<(l.length:Int):=by omega
    have HQK:Hid (0<q+2*k/\q+2*k<=900000000):=hide (by omega);have hqk:((q+2*k:Nat):Int)<=900000000:=by omega
    have HAT:=hide (GA q l.length k hlt);generalize hqe:q+2*k=qk at *;have HQE:=hide hqe;clear hqe;have HP0:=hide HM.put;have HT0:=hide HT.out;clear HM HT;have HQ0:=hide HP0.out;have HU0:=hide HT0.out;clear HP0 HT0;obtain⟨v0,f0⟩:=HQ0.there (k*2) (by omega);have z0:=HQ0.free (k*2);obtain⟨v1,f1⟩:=HQ0.there (k*2+1) (by omega);have z1:=HQ0.free (k*2+1);have HP1:=hide (HQ0.set hlt (by decide) (v:=ae au (qk:Int)) (by rw[HAT.out];simp[aM]) (o:=k*2) (by omega));have HT1:=hide (HU0.setCell h0 (o:=k*2) (ae au (qk:Int)));clear HQ0 HU0;have HQ1:=hide HP1.out;have HU1:=hide HT1.out;clear HP1 HT1;have HP2:=hide (HQ1.set hlt (by decide) (v:=ae au ((qk:Int)+1)) (by rw[HAT.out];simp[aM]) (o:=k*2+1) (by omega));have HT2:=hide (HU1.setCell h0 (o:=k*2+1) (ae au ((qk:Int)+1)));clear HQ1 HU1;have HW:=hide HP2.whole;clear HP2;go_wp2;exact⟨⟨k+1,by omega,by go_num,by have:=HQE.out;go_num,HT2,HW⟩,by simp[intOf];omega⟩
   ·have hk':¬ (k:Int)<(l.length:Int):=by omega
    have HE:Hid (pE q g (some ⟨g,0,none⟩) cap l.length w (.returned (ae au ((q+2*k:Nat):Int))) wr):=hide (by
     have M:=HM.out;have ek:k=l.length:=by omega
     rw[ek] at M⊢;have O:=kv (l:=gL q l.length) kC (by rw[kz];exact M) (cap:=cap) (by rw[kz];exact HL.room);exact⟨rfl,HT.out,O⟩)
    generalize ((q+2*k:Nat):Int)=qk at *;go_wp2;go_ret;exact HE.out
 ·have hz:l=[]:=List.eq_nil_of_length_eq_zero (by omega);subst hz;go_enter func30,ntmps30;go_wp2;go_loopw [1,5] (fun s i wr=>s=ae au (q:Int)/\i=ae au 0/\wr=w) (fun s i wr=>0)
  case atStart=>exact⟨rfl,rfl,rfl⟩
  case round =>
   obtain⟨rfl,rfl,hw⟩:=hrel;subst hw;go_wp2;go_ret;exact⟨by simp,qV.refl _ _ _,by have:=HL.out;simpa[gL] using this⟩
theorem Gz{q n:Nat}{a:Option Addr}{w:World}(h:bu 2 aM w a (gL q n))(i:Nat)(hi:i<n):∃b off,a=some ⟨b,off,none⟩/\b<w.heap.size/\w.cell? ⟨b,off+i*2,none⟩=some (ae au (((q+2*i:Nat):Int)))/\w.cell? ⟨b,off+i*2+1,none⟩=some (ae au (((q+2*i:Nat):Int)+1)):=by
 obtain⟨b,off,e,hb,hc⟩:=h i (by rw[kz];exact hi);rw[Ep] at hc;exact⟨b,off,e,hb,hc 0 _ rfl,hc 1 _ rfl⟩
theorem vF(a:Option Addr)(n cap:Nat)(q:Nat)(w:World)(hn:n<=10000000)(q0:0<q)(q1:q<=100000000)(h:bu 2 aM w a (gL q n)) :
  Calls prog 33 #[af a n cap,ae au (q:Int)] w fun e w'=>mQ (q+2*n) w e w':=by
 have HL:=hide h;clear h;go_enter func33,ntmps33;go_wp2;go_loopw [1,5] (fun s i wr=>∃k:Nat,k<=n/\i=ae au (k:Int)/\s=ae au ((q+2*k:Nat):Int)/\Hid (Below w.heap.size w wr)) (fun s i wr=>n-(intOf i).toNat)
 case atStart=>exact⟨0,Nat.zero_le _,rfl,by simp,hide (Below.refl _ _)⟩
 case round =>
  obtain⟨k,hk,rfl,rfl,HB⟩:=hrel;by_cases hlt:k<n
  ·have hlt':(k:Int)<(n:Int):=by omega
   obtain⟨b,off,rfl,hb,d0,d1⟩:=Gz (HL.below HB.out) k hlt;have HQK:Hid (0<q+2*k/\q+2*k<=900000000):=hide (by omega);have hqk:((q+2*k:Nat):Int)<=900000000:=by omega
   generalize hqe:q+2*k=qk at *;have HQE:=hide hqe;clear hqe hb;go_wp2;exact⟨⟨k+1,by omega,by go_num,by have:=HQE.out;go_num,HB⟩,by simp[intOf];omega⟩
  ·have hk':¬ (k:Int)<(n:Int):=by omega
   have HE:Hid (mQ (q+2*n) w (.returned (ae au ((q+2*k:Nat):Int))) wr):=hide ⟨by rw[show k=n by omega],HB.out⟩;generalize ((q+2*k:Nat):Int)=qk at *;go_wp2;go_ret;exact HE.out
end Go.Proofs.YtdbmmdecclalgaaGreatDoor
