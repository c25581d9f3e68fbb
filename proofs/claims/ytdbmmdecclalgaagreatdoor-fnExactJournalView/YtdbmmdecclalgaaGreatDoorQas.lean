import Derived.Test.YtdbmmdecclalgaaGreatDoorQar
import Derived.Test.YtdbmmdecclalgaaGreatDoorQaf
import Derived.Test.YtdbmmdecclalgaaGreatDoorQaj
namespace Go.Proofs.YtdbmmdecclalgaaGreatDoor
open Go.Value renaming int → ae, slice → af, string → ag, pointer → ai, agg → aj
open Go.IntKind renaming i64 → au
open Go renaming undef → ak
open Go.Proofs.Tryz Go.ChangeShapes Go.WideShapes Go.ChangeAt Go.RowKit Go.Lib
set_option linter.unusedVariables false
set_option maxRecDepth 100000
set_option maxHeartbeats 8000000
def OE:List UInt8:=[108,101,100,103,101,114,10]
def AV:List UInt8:=[97,99,99,111,117,110,116]
def Bh:List UInt8:=[104,111,108,100]
def A7:List UInt8:=[115,101,101,110]
def xE(B:Nat)(x:World):Nat:=match x.cell? ⟨B,0,none⟩ with
 | some (ag s)=>s.size
 | _=>0
theorem o9{B:Nat}{l:List UInt8}{x:World}(h:jb B [ag (bs l)] x):xE B x=l.length:=by
 unfold xE;rw[h.c 0 _ rfl];exact bD l
def tH(l:List UInt8)(L:bM)(r:List UInt8):Prop :=
 ∃r0 r1 r2,l=OE++r0/\mF AV qK r0 L.aI r1/\mF Bh qJ r1 L.az r2/\mF A7 Cs r2 L.aH r/\df L=true
theorem zg{A:Type}{hd:List UInt8}{P:List UInt8->A->List UInt8->Prop}{Q:A->Prop}(hP:∀x a r,x.length<=1048576->P x a r->Q a/\r.length<x.length):∀(ys:List A)(l r:List UInt8),l.length<=1048576->mF hd P l ys r->∀a∈ys,Q a:=by
 intro ys
 induction ys with
 | nil=>intro l r _ _ a ha;cases ha
 | cons b bs ih =>
  intro l r hl h a ha;obtain⟨r1,r2,e,hb,hr⟩:=h;have e':=congrArg List.length e;rw[List.length_append] at e';obtain⟨q1,q2⟩:=hP r1 b r2 (by omega) hb;rcases List.mem_cons.1 ha with rfl|ha
  ·exact q1
  ·exact ih r2 r (by omega) hr a ha
theorem yE.i64{l:List UInt8}{n:Int}{r:List UInt8}(h:yE l n r):sQ n:=by
 obtain⟨r1,_,⟨⟨h0,h1⟩,_⟩,_⟩:=h;exact⟨by omega,by omega⟩
theorem oh{x:List UInt8}(h:x.length<=1048576):(bs x).size<=maxLen:=by rw[bD];unfold maxLen;omega
theorem SC(x:List UInt8)(a:bF)(r:List UInt8)(hl:x.length<=1048576)(h:qK x a r):xu a/\r.length<x.length:=by
 have hlen:=h.len;obtain⟨x0,x1,r1,r2,r3,r4,p0,p1,p2,p3,e0,e1,er⟩:=h;have l0:=p0.len;have l1:=p1.len;exact⟨⟨by rw[e0];exact oh (by omega),by rw[e1];exact oh (by omega),p2.i64,p3.i64⟩,hlen⟩
theorem Sk(x:List UInt8)(a:bP)(r:List UInt8)(hl:x.length<=1048576)(h:qJ x a r):Bt a/\r.length<x.length:=by
 have hlen:=h.len;obtain⟨x1,x2,r1,r2,r3,r4,p0,p1,p2,p3,e0,e1,er⟩:=h;have l0:=p0.len;have l1:=p1.len;have l2:=p2.len;exact⟨⟨by rw[e0];exact oh (by omega),by rw[e1];exact oh (by omega),p0.i64,p3.i64⟩,hlen⟩
theorem Ty(x:List UInt8)(a:Sn)(r:List UInt8)(hl:x.length<=1048576)(h:Cs x a r):Qp a/\r.length<x.length:=by
 have hlen:=h.len;obtain⟨r1,r2,p0,p1,er⟩:=h;exact⟨⟨p0.i64,p1.i64⟩,hlen⟩
theorem Pool.qM{F:List Nat}{w x:World}{S:List (List Rs)}(h:Pool F w S x){i b:Nat}{z0 z1 z2:Value}(hi:S[i]?=some [blk b [z0,z1,z2]])(v0 v1 v2:Value) :
  Pool F w (S.set i [blk b [v0,v1,v2]]) (((x.setCell ⟨b,0,none⟩ v0).setCell ⟨b,1,none⟩ v1).setCell ⟨b,2,none⟩ v2):=by
 have hlen:i<S.length:=(List.getElem?_eq_some_iff.1 hi).1;have h0:=h.aQ (i:=i) hi 0 v0 (by simp);have h1:=h0.aQ (i:=i) (by rw[List.getElem?_set_self (by simpa using hlen)]) 1 v1 (by simp);have h2:=h1.aQ (i:=i) (by rw[List.getElem?_set_self (by simpa using hlen)]) 2 v2 (by simp);simpa[List.set_set] using h2
theorem TW(x:bF):∀u∈aL x,u.oneCell'=true:=fun u hu=>JC [x] u (by simpa using hu)
theorem ho1(x:bP):∀u∈aG x,u.oneCell'=true:=fun u hu=>kP [x] u (by simpa using hu)
theorem TR(x:Sn):∀u∈aM x,u.oneCell'=true:=fun u hu=>IY [x] u (by simpa using hu)
theorem tY{P:Program}{ops:Array Oper}{Q:Exit->Act->World->Prop}{i:Nat}{o:Oper}{a:Act}{w:World}{K:Act->World->Prop}{f:FuncId}{args:Array Value}{R:Ending->World->Prop}(hr:(execOp a.eval o).run P w=.ok (.enter f args) w)(hc:Calls P f args w R)(hK:∀e w',R e w'->(∃v,e=.returned v/\K (a.put o.dst v) w')\/∃ch,e=.panicked ch/\Q (.panic ch) a w')(hi:ops[i]?=some o:=by rfl)(hg:o.guard=none:=by rfl):wpOp P ops Q i K a w:=by
 unfold wpOp;have hw:Region.wanted o (yielded ops a.tmps)=true:=by simp[Region.wanted,hg]
 simp only[hi,hw,if_true];refine .inl ?_;unfold Oper.wp;rw[hr,Oper.upon_enter];refine hc.mono fun e w' he=>?_
 rcases hK e w' he with ⟨v,rfl,hv⟩|⟨ch,rfl,hv⟩
 ·exact hv
 ·exact hv
structure Uk(B:Nat)(w:World)(C G:Nat)(q1:List UInt8)(a0:Option Addr)(c0:Nat)(d0:List bF)(a1:Option Addr)(c1:Nat)(d1:List bP)(a2:Option Addr)(c2:Nat)(d2:List Sn)(l0 l1 l2 l3 l4 l5 l6 l7:Bool)(u29 u30 u31 u32 u33 u34 u35:Value)(y:Sn)(s:List UInt8)(x:World):Prop where
 aT:Pool [B] w [[blk B [ag (bs s)]],[blk C [af none 0 0,af none 0 0,af none 0 0]],cond l7 [blk G [af a0 d0.length c0,af a1 d1.length c1,u34]] [blk G [af a0 d0.length c0,af a1 d1.length c1,af a2 d2.length c2]],[row 106 4 (af a0 d0.length c0) d0.length (d0.flatMap aL)],[row 109 4 (af a1 d1.length c1) d1.length (d1.flatMap aG)],cond l5 [row 112 2 u34 (d2.length+1) (d2.flatMap aM++aM y)] [row 112 2 (af a2 d2.length c2) d2.length (d2.flatMap aM)],cond l4 [blk (jP (tJ u33)) (aM y)] []] x
 ps:l3=true->Cs q1 y s
 q3:l3=true->u32=aj #[ae au y.id,ae au y.code]
 q4:l4=true->u33=af (some ⟨jP (tJ u33),0,none⟩) 1 1
 d4:l4=true->l3=true
 d5:l5=true->l4=true
 d51:l5=true->l1=true
 d7:l7=true->l5=true
 p29:l0=true->u29=ai (some ⟨G,2,none⟩)
 p30:l1=true->u30=af a2 d2.length c2
 p31:l2=true->u31=ai (some ⟨B,0,none⟩)
 s0:l3=false->s=q1
 p35:l6=true->u35=ai (some ⟨G,2,none⟩)
structure Ul(B:Nat)(w:World)(C G:Nat)(q1:List UInt8)(a0:Option Addr)(c0:Nat)(d0:List bF)(a1:Option Addr)(c1:Nat)(d1:List bP)(l0 l1 l2 l3 l4 l5 l6 l7:Bool)(u20 u21 u22 u23 u24 u25 u26:Value)(y:bP)(s:List UInt8)(x:World):Prop where
 aT:Pool [B] w [[blk B [ag (bs s)]],[blk C [af none 0 0,af none 0 0,af none 0 0]],cond l7 [blk G [af a0 d0.length c0,u25,af none 0 0]] [blk G [af a0 d0.length c0,af a1 d1.length c1,af none 0 0]],[row 106 4 (af a0 d0.length c0) d0.length (d0.flatMap aL)],cond l5 [row 109 4 u25 (d1.length+1) (d1.flatMap aG++aG y)] [row 109 4 (af a1 d1.length c1) d1.length (d1.flatMap aG)],[row 112 2 (af none 0 0) ([]:List Sn).length (([]:List Sn).flatMap aM)],cond l4 [blk (jP (tJ u24)) (aG y)] []] x
 ps:l3=true->qJ q1 y s
 q3:l3=true->u23=aj #[ae au y.id,ag y.fr,ag y.«to»,ae au y.aV]
 q4:l4=true->u24=af (some ⟨jP (tJ u24),0,none⟩) 1 1
 d4:l4=true->l3=true
 d5:l5=true->l4=true
 d51:l5=true->l1=true
 d7:l7=true->l5=true
 p20:l0=true->u20=ai (some ⟨G,1,none⟩)
 p21:l1=true->u21=af a1 d1.length c1
 p22:l2=true->u22=ai (some ⟨B,0,none⟩)
 s0:l3=false->s=q1
 p26:l6=true->u26=ai (some ⟨G,1,none⟩)
structure Um(B:Nat)(w:World)(C G:Nat)(q1:List UInt8)(a0:Option Addr)(c0:Nat)(d0:List bF)(l0 l1 l2 l3 l4 l5 l6 l7:Bool)(u11 u12 u13 u14 u15 u16 u17:Value)(y:bF)(s:List UInt8)(x:World):Prop where
 aT:Pool [B] w [[blk B [ag (bs s)]],[blk C [af none 0 0,af none 0 0,af none 0 0]],cond l7 [blk G [u16,af none 0 0,af none 0 0]] [blk G [af a0 d0.length c0,af none 0 0,af none 0 0]],cond l5 [row 106 4 u16 (d0.length+1) (d0.flatMap aL++aL y)] [row 106 4 (af a0 d0.length c0) d0.length (d0.flatMap aL)],[row 109 4 (af none 0 0) ([]:List bP).length (([]:List bP).flatMap aG)],[row 112 2 (af none 0 0) ([]:List Sn).length (([]:List Sn).flatMap aM)],cond l4 [blk (jP (tJ u15)) (aL y)] []] x
 ps:l3=true->qK q1 y s
 q3:l3=true->u14=aj #[ag y.name,ag y.cur,ae au y.bB,ae au y.aS]
 q4:l4=true->u15=af (some ⟨jP (tJ u15),0,none⟩) 1 1
 d4:l4=true->l3=true
 d5:l5=true->l4=true
 d51:l5=true->l1=true
 d7:l7=true->l5=true
 p11:l0=true->u11=ai (some ⟨G,0,none⟩)
 p12:l1=true->u12=af a0 d0.length c0
 p13:l2=true->u13=ai (some ⟨B,0,none⟩)
 s0:l3=false->s=q1
 p17:l6=true->u17=ai (some ⟨G,0,none⟩)
def Ta(B:Nat)(l:List UInt8)(t:TypeId)(v:Value)(w:World)(e:Ending)(w':World):Prop :=
 (∃L p r,tH l L r/\og L/\jr p L/\(L.aI.length<=1048576/\L.az.length<=1048576/\L.aH.length<=1048576)/\e=.returned (eD p L)/\Pool [B] w [[blk B [ag (bs r)]],bC p L] w')\/((∀L r,¬ tH l L r)/\xm B t v w e w')
theorem zH(B:Nat)(l:List UInt8)(t td:TypeId)(v vd:Value)(w0 w:World)(E:Env t v w0)(ED:w0.cell? ⟨5,0,none⟩=some (.iface td vd))(h:Rg w0 B l w)(hl:l.length<=1048576) :
  Calls prog 91 #[ai (some ⟨B,0,none⟩)] w fun e w'=>Ta B l t v w e w':=by
 obtain⟨i0,hi0,hz0,hy0,hx0⟩:=info_parts vk;obtain⟨i1,hi1,hz1,hy1,hx1⟩:=info_parts kM;obtain⟨i2,hi2,hz2,hy2,hx2⟩:=info_parts um;have HE:=hide E;have HD:=hide ED;have HG:=hide h;have HP0:Hid (Pool [B] w [[blk B [ag (bs l)]],[],[],[],[],[],[]] w):=hide ((Pool.of (Star.ou h.r)).cast (by simp));clear E ED h;go_enter func91,ntmps91;go_upto_region 2 with fail
 refine bg (fun W1 hW1=>?_);obtain⟨C,hC⟩:∃C,C=w.heap.size:=⟨_,rfl⟩;obtain⟨G,hG⟩:∃G,G=w.heap.size+1:=⟨_,rfl⟩;have HP1:Hid (Pool [B] w [[blk B [ag (bs l)]],[blk C [af none 0 0,af none 0 0,af none 0 0]],[blk G [af none 0 0,af none 0 0,af none 0 0]],[row 106 4 (af none 0 0) ([]:List bF).length (([]:List bF).flatMap aL)],[row 109 4 (af none 0 0) ([]:List bP).length (([]:List bP).flatMap aG)],[row 112 2 (af none 0 0) ([]:List Sn).length (([]:List Sn).flatMap aM)],[]] W1):=hide (by
  have p1:=HP0.aY (i:=1) rfl [af none 0 0,af none 0 0,af none 0 0] 31;have s1:(w.alloc (.cells ([af none 0 0,af none 0 0,af none 0 0]:List Value).toArray 31)).heap.size=w.heap.size+1:=by simp
  have p2:=p1.aY (i:=2) rfl [af none 0 0,af none 0 0,af none 0 0] 31;rw[s1] at p2;rw[<-hG,<-hC] at p2;rw[hW1];exact((p2.rA (i:=3) rfl 106 4).rA (i:=4) rfl 109 4).rA (i:=5) rfl 112 2)
 rw[<-hG,<-hC];clear hW1 HP0 hC hG;go_wp2_with fail;refine(gZ B l OE _ (HP1.aB (i:=0) rfl)).mono ?_;rintro e w2⟨rfl,hr⟩;cases hp:Lib.hasPrefix l OE
 ·have HNo:=hide hp;have HR5:=hide (HP1.iF.trans hr);have HEy:Hid (Env t v w2):=hide ((HG.mV (HP1.iF.trans hr)).env HE.out);clear hr hp HP1;go_wp2_with fail;refine(gK _ t v _ HEy.out).mono ?_;rintro e y10⟨rfl,hw⟩;rw[hw];clear hw;unfold dx;go_wp2_with fail;refine⟨rfl,.inr ⟨fun c r hc=>?_,rfl,_,HR5.out⟩⟩;obtain⟨r0,r1,r2,e0,_⟩:=hc;have:=HNo.out;rw[e0,jl] at this;cases this
 ·obtain⟨r0,hr0⟩:∃r0,r0=Lib.trimPrefix l OE:=⟨_,rfl⟩;have HL0:Hid (l=OE++r0):=hide (by rw[hr0];exact iq hp);have hl0:r0.length<=l.length:=by have:=congrArg List.length HL0.out;simp only[List.length_append] at this;omega
  rw[<-hr0] at hr;have HP2:Hid (Pool [B] w [[blk B [ag (bs r0)]],[blk C [af none 0 0,af none 0 0,af none 0 0]],[blk G [af none 0 0,af none 0 0,af none 0 0]],[row 106 4 (af none 0 0) ([]:List bF).length (([]:List bF).flatMap aL)],[row 109 4 (af none 0 0) ([]:List bP).length (([]:List bP).flatMap aG)],[row 112 2 (af none 0 0) ([]:List Sn).length (([]:List Sn).flatMap aM)],[]] w2):=hide (HP1.rd hr);clear hr HP1 hp hr0;go_wp2_with fail;refine(fA _ _).mono ?_;rintro e y10⟨rfl,hw⟩;rw[hw];clear hw y10;go_wp2_with fail;go_loopw [] (fun wr=>∃(d0:List bF)(qa:List UInt8)(a0:Option Addr)(c0:Nat),d0.length+qa.length<=1048576/\Hid (kX AV qK r0 d0 qa)/\Hid (Pool [B] w [[blk B [ag (bs qa)]],[blk C [af none 0 0,af none 0 0,af none 0 0]],[blk G [af a0 d0.length c0,af none 0 0,af none 0 0]],[row 106 4 (af a0 d0.length c0) d0.length (d0.flatMap aL)],[row 109 4 (af none 0 0) ([]:List bP).length (([]:List bP).flatMap aG)],[row 112 2 (af none 0 0) ([]:List Sn).length (([]:List Sn).flatMap aM)],[]] wr)) (fun wr=>xE B wr)
  case atStart=>exact⟨[],r0,none,0,by simp;omega,hide (kX.start _),HP2⟩
  case round =>
   obtain⟨d0,qa,a0,c0,hq0,HI,HPr⟩:=hrel;clear HP2;have hrd:xE B wr=qa.length:=o9 (HPr.aB (i:=0) rfl);go_wp2_with fail;refine(gZ B qa AV _ (HPr.aB (i:=0) rfl)).mono ?_;rintro e w3⟨rfl,hr⟩;cases hp:Lib.hasPrefix qa AV
   ·have HS0:Hid (∀ys r,mF AV qK r0 ys r ↔ ys=d0/\r=qa):=hide (fun ys r=>HI.stop hp ys r);rw[oG hp] at hr;have HP3:Hid (Pool [B] w [[blk B [ag (bs qa)]],[blk C [af none 0 0,af none 0 0,af none 0 0]],[blk G [af a0 d0.length c0,af none 0 0,af none 0 0]],[row 106 4 (af a0 d0.length c0) d0.length (d0.flatMap aL)],[row 109 4 (af none 0 0) ([]:List bP).length (([]:List bP).flatMap aG)],[row 112 2 (af none 0 0) ([]:List Sn).length (([]:List Sn).flatMap aM)],[]] w3):=hide (HPr.rd hr);clear hr HPr hp HI hrd;go_wp2_with fail;go_loopw [] (fun wr=>∃(d1:List bP)(qb:List UInt8)(a1:Option Addr)(c1:Nat),d1.length+qb.length<=1048576/\Hid (kX Bh qJ qa d1 qb)/\Hid (Pool [B] w [[blk B [ag (bs qb)]],[blk C [af none 0 0,af none 0 0,af none 0 0]],[blk G [af a0 d0.length c0,af a1 d1.length c1,af none 0 0]],[row 106 4 (af a0 d0.length c0) d0.length (d0.flatMap aL)],[row 109 4 (af a1 d1.length c1) d1.length (d1.flatMap aG)],[row 112 2 (af none 0 0) ([]:List Sn).length (([]:List Sn).flatMap aM)],[]] wr)) (fun wr=>xE B wr)
    case atStart=>exact⟨[],qa,none,0,by simp;omega,hide (kX.start _),HP3⟩
    case round =>
     obtain⟨d1,qb,a1,c1,hq1,HI,HPr⟩:=hrel;clear HP3;have hrd:xE B wr=qb.length:=o9 (HPr.aB (i:=0) rfl);go_wp2_with fail;refine(gZ B qb Bh _ (HPr.aB (i:=0) rfl)).mono ?_;rintro e w3⟨rfl,hr⟩;cases hp:Lib.hasPrefix qb Bh
     ·have HS1:Hid (∀ys r,mF Bh qJ qa ys r ↔ ys=d1/\r=qb):=hide (fun ys r=>HI.stop hp ys r);rw[oG hp] at hr;have HP4:Hid (Pool [B] w [[blk B [ag (bs qb)]],[blk C [af none 0 0,af none 0 0,af none 0 0]],[blk G [af a0 d0.length c0,af a1 d1.length c1,af none 0 0]],[row 106 4 (af a0 d0.length c0) d0.length (d0.flatMap aL)],[row 109 4 (af a1 d1.length c1) d1.length (d1.flatMap aG)],[row 112 2 (af none 0 0) ([]:List Sn).length (([]:List Sn).flatMap aM)],[]] w3):=hide (HPr.rd hr);clear hr HPr hp HI hrd;go_wp2_with fail;go_loopw [] (fun wr=>∃(d2:List Sn)(qc:List UInt8)(a2:Option Addr)(c2:Nat),d2.length+qc.length<=1048576/\Hid (kX A7 Cs qb d2 qc)/\Hid (Pool [B] w [[blk B [ag (bs qc)]],[blk C [af none 0 0,af none 0 0,af none 0 0]],[blk G [af a0 d0.length c0,af a1 d1.length c1,af a2 d2.length c2]],[row 106 4 (af a0 d0.length c0) d0.length (d0.flatMap aL)],[row 109 4 (af a1 d1.length c1) d1.length (d1.flatMap aG)],[row 112 2 (af a2 d2.length c2) d2.length (d2.flatMap aM)],[]] wr)) (fun wr=>xE B wr)
      case atStart=>exact⟨[],qb,none,0,by simp;omega,hide (kX.start _),HP4⟩
      case round =>
       obtain⟨d2,qc,a2,c2,hq2,HI,HPr⟩:=hrel;clear HP4;have hrd:xE B wr=qc.length:=o9 (HPr.aB (i:=0) rfl);go_wp2_with fail;refine(gZ B qc A7 _ (HPr.aB (i:=0) rfl)).mono ?_;rintro e w3⟨rfl,hr⟩;cases hp:Lib.hasPrefix qc A7
       ·have HS2:Hid (∀ys r,mF A7 Cs qb ys r ↔ ys=d2/\r=qc):=hide (fun ys r=>HI.stop hp ys r);rw[oG hp] at hr;have HP5:Hid (Pool [B] w [[blk B [ag (bs qc)]],[blk C [af none 0 0,af none 0 0,af none 0 0]],[blk G [af a0 d0.length c0,af a1 d1.length c1,af a2 d2.length c2]],[row 106 4 (af a0 d0.length c0) d0.length (d0.flatMap aL)],[row 109 4 (af a1 d1.length c1) d1.length (d1.flatMap aG)],[row 112 2 (af a2 d2.length c2) d2.length (d2.flatMap aM)],[]] w3):=hide (HPr.rd hr);clear hr HPr hp HI hrd;have HLW:Hid (og ⟨d0,d1,d2⟩):=hide ⟨zg SC d0 r0 qa (by omega) ((HS0.out d0 qa).2 ⟨rfl,rfl⟩),zg Sk d1 qa qb (by omega) ((HS1.out d1 qb).2 ⟨rfl,rfl⟩),zg Ty d2 qb qc (by omega) ((HS2.out d2 qc).2 ⟨rfl,rfl⟩)⟩;obtain⟨b0,k0,e0,s0,p0⟩:=Pool.iT mq HP5.out (i:=3) rfl;obtain⟨b1,k1,e1,s1,p1⟩:=Pool.iT gH p0 (i:=4) rfl;obtain⟨b2,k2,e2,s2,p2⟩:=Pool.iT kC p1 (i:=5) rfl;simp only[Value.slice.injEq,true_and] at e0 e1 e2;obtain⟨rfl,rfl⟩:=e0;obtain⟨rfl,rfl⟩:=e1;obtain⟨rfl,rfl⟩:=e2;have HPK:Hid (jr ⟨a0,c0,a1,c1,a2,c2⟩ ⟨d0,d1,d2⟩):=hide ⟨s0,s1,s2⟩;have HP6:Hid (Pool [B] w [[blk B [ag (bs qc)]],[blk C [af none 0 0,af none 0 0,af none 0 0]],[blk G [af a0 d0.length c0,af a1 d1.length c1,af a2 d2.length c2]],bC ⟨a0,c0,a1,c1,a2,c2⟩ ⟨d0,d1,d2⟩] w3):=hide (p2.cast (by simp[bC]));clear HP5 s0 s1 s2 p0 p1 p2;have HLd:Hid (iO w3 a0 a1 a2 ⟨d0,d1,d2⟩):=hide (by
         have st:=HP6.get (i:=3) rfl;exact⟨(st.get (r:=bA 4 aL a0 c0 d0) (by simp[bC])).2.rows.aI HLW.aI,(st.get (r:=bA 4 aG a1 c1 d1) (by simp[bC])).2.rows.az HLW.az,(st.get (r:=bA 2 aM a2 c2 d2) (by simp[bC])).2.rows.ans HLW.aH⟩)
        have g0:=(HP6.aB (i:=2) rfl).c 0 _ rfl;have g1:=(HP6.aB (i:=2) rfl).c 1 _ rfl;have g2:=(HP6.aB (i:=2) rfl).c 2 _ rfl;go_wp2_with fail;refine(pG a0 a1 a2 ⟨d0,d1,d2⟩ c0 c1 c2 td vd _ HLd.out (aN (HG.mV HP6.iF).b _ _ HD.out) (by show d0.length<=_;omega) (by show d1.length<=_;omega) (by show d2.length<=_;omega)).mono ?_;rintro e w4⟨rfl,hb⟩;have HP7:=hide (HP6.keep hb);clear hb HP6 HLd g0 g1 g2;cases hok:df ⟨d0,d1,d2⟩
        ·have HOk:=hide hok;clear hok;go_wp2_with fail;refine(gK _ t v _ ((HG.mV HP7.iF).env HE.out)).mono ?_;rintro e y10⟨rfl,hw⟩;rw[hw];clear hw;have HR5:=hide HP7.iF;unfold dx;go_wp2_with fail;refine⟨rfl,.inr ⟨fun c r hc=>?_,rfl,_,HR5.out⟩⟩;obtain⟨q0,q2,q3,f0,hA,hB,hC,hS⟩:=hc;have f1:=HL0.out;rw[f1] at f0;obtain rfl:=List.append_cancel_left f0;obtain⟨h0,rfl⟩:=(HS0.out _ _).1 hA;obtain⟨h1,rfl⟩:=(HS1.out _ _).1 hB;obtain⟨h2,rfl⟩:=(HS2.out _ _).1 hC;have e9:c=⟨d0,d1,d2⟩:=by cases c;simp only at h0 h1 h2;subst h0 h1 h2;rfl
         rw[e9,HOk.out] at hS;cases hS
        ·have HOk:=hide hok;clear hok;go_wp2_with fail;refine(fA _ _).mono ?_;rintro e y10⟨rfl,hw⟩;rw[hw];clear hw;have g0:=(HP7.aB (i:=2) rfl).c 0 _ rfl;have g1:=(HP7.aB (i:=2) rfl).c 1 _ rfl;have g2:=(HP7.aB (i:=2) rfl).c 2 _ rfl;have z0:=(HP7.aB (i:=1) rfl).c 0 _ rfl;have z1:=(HP7.aB (i:=1) rfl).c 1 _ rfl;have z2:=(HP7.aB (i:=1) rfl).c 2 _ rfl;have f0:=(HP7.aB (i:=1) rfl).f 0;have f1:=(HP7.aB (i:=1) rfl).f 1;have f2:=(HP7.aB (i:=1) rfl).f 2;have HQ:=HP7.qM (i:=1) rfl (af a0 d0.length c0) (af a1 d1.length c1) (af a2 d2.length c2);have e0:=(HQ.aB (i:=1) rfl).c 0 _ rfl;have e1:=(HQ.aB (i:=1) rfl).c 1 _ rfl;have e2:=(HQ.aB (i:=1) rfl).c 2 _ rfl;have HQ2:Hid (Pool [B] w [[blk B [ag (bs qc)]],bC ⟨a0,c0,a1,c1,a2,c2⟩ ⟨d0,d1,d2⟩] _):=hide (((HQ.drop (i:=1) rfl).drop (i:=2) rfl).cast (by simp));clear HQ;go_wp2_with fail;refine bodyPost_ret (v:=eD ⟨a0,c0,a1,c1,a2,c2⟩ ⟨d0,d1,d2⟩) (by simp[results,results91,go_sem,e0,e1,e2,eD]) rfl (.inl ⟨⟨d0,d1,d2⟩,⟨a0,c0,a1,c1,a2,c2⟩,qc,?_,HLW.out,HPK.out,⟨by show d0.length<=_;omega,by show d1.length<=_;omega,by show d2.length<=_;omega⟩,rfl,HQ2.out⟩);exact⟨r0,qa,qb,HL0.out,(HS0.out _ _).2 ⟨rfl,rfl⟩,(HS1.out _ _).2 ⟨rfl,rfl⟩,(HS2.out _ _).2 ⟨rfl,rfl⟩,HOk.out⟩
       ·obtain⟨q1,hq1⟩:∃q1,q1=Lib.trimPrefix qc A7:=⟨_,rfl⟩;have HQ1:Hid (qc=A7++q1):=hide (by rw[hq1];exact iq hp);have hl1:q1.length<qc.length:=by have:=congrArg List.length HQ1.out;simp only[List.length_append,A7,List.length_cons,List.length_nil] at this;omega
        rw[<-hq1] at hr;have HP5:Hid (Pool [B] w [[blk B [ag (bs q1)]],[blk C [af none 0 0,af none 0 0,af none 0 0]],[blk G [af a0 d0.length c0,af a1 d1.length c1,af a2 d2.length c2]],[row 106 4 (af a0 d0.length c0) d0.length (d0.flatMap aL)],[row 109 4 (af a1 d1.length c1) d1.length (d1.flatMap aG)],[row 112 2 (af a2 d2.length c2) d2.length (d2.flatMap aM)],[]] w3):=hide (HPr.rd hr);clear hr HPr hp hq1;go_upto_region 8 with fail
        refine dw (by kernel_rfl) (fun L act x=>∃l0 l1 l2 l3 l4 l5 l6 l7:Bool,∃u29 u30 u31 u32 u33 u34 u35:Value,∃y:Sn,∃s:List UInt8,L=#[l0,l1,l2,l3,l4,l5,l6,l7]/\act={tmps:=#[ai (some ⟨B,0,none⟩),ak,ai (some ⟨C,0,none⟩),ai (some ⟨G,0,none⟩),aj #[af none 0 0,af none 0 0,af none 0 0],ai (some ⟨B,0,none⟩),ai (some ⟨B,0,none⟩),Value.bool true,Value.tuple #[],ai (some ⟨B,0,none⟩),Value.bool false,u11,u12,u13,u14,u15,u16,u17,ai (some ⟨B,0,none⟩),Value.bool false,u20,u21,u22,u23,u24,u25,u26,ai (some ⟨B,0,none⟩),Value.bool true,u29,u30,u31,u32,u33,u34,u35,ak,ak,ak,ak,ak],defers:=[]}/\Uk B w C G q1 a0 c0 d0 a1 c1 d1 a2 c2 d2 l0 l1 l2 l3 l4 l5 l6 l7 u29 u30 u31 u32 u33 u34 u35 y s x) ?_ ?_ ?_
        rotate_left 2
        ·exact⟨false,false,false,false,false,false,false,false,(u29),(u30),(u31),(u32),(u33),(u34),(u35),(⟨0,0⟩),(q1),rfl,rfl,{aT:=HP5.drew,s0:=fun _=>rfl,ps:=nofun,q3:=nofun,q4:=nofun,d4:=nofun,d5:=nofun,d51:=nofun,d7:=nofun,p29:=nofun,p30:=nofun,p31:=nofun,p35:=nofun}⟩
        ·rintro L act x i⟨l0,l1,l2,l3,l4,l5,l6,l7,u29,u30,u31,u32,u33,u34,u35,y,s,rfl,rfl,h⟩ hi K hK;have hi15:i<8:=gz hi;have hl:=(mem_ready.1 hi).1;obtain rfl|rfl|rfl|rfl|rfl|rfl|rfl|rfl:=(by omega:i=0\/i=1\/i=2\/i=3\/i=4\/i=5\/i=6\/i=7)
         ·obtain rfl:l0=false:=hl;refine aK (v:=ai (some ⟨G,2,none⟩)) (w':=x) ?_ (hK _ _ ⟨_,_,_,_,_,_,_,_,_,_,_,_,_,_,_,(y),(s),rfl,rfl,{h with p29:=fun _=>rfl}⟩);go_simp
         ·obtain rfl:l1=false:=hl;obtain rfl:l0=true:=aC hi 0;obtain rfl:l5=false:=nf h.d51 rfl;obtain rfl:l7=false:=nf h.d7 rfl;have cc:=(h.aT.aB (i:=2) rfl).c 2 _ rfl;refine aK (v:=af a2 d2.length c2) (w':=x) ?_ (hK _ _ ⟨_,_,_,_,_,_,_,_,_,_,_,_,_,_,_,(y),(s),rfl,rfl,{h with p30:=fun _=>rfl,d51:=fun _=>rfl}⟩);rw[h.p29 rfl];go_simp
         ·obtain rfl:l2=false:=hl;refine aK (v:=ai (some ⟨B,0,none⟩)) (w':=x) ?_ (hK _ _ ⟨_,_,_,_,_,_,_,_,_,_,_,_,_,_,_,(y),(s),rfl,rfl,{h with p31:=fun _=>rfl}⟩);go_simp
         ·obtain rfl:l3=false:=hl;obtain rfl:l2=true:=aC hi 2;obtain rfl:l4=false:=nf h.d4 rfl;obtain rfl:l5=false:=nf h.d5 rfl;obtain rfl:l7=false:=nf h.d7 rfl;have es:=(h.s0 rfl).symm;subst es;refine tY ?_ (CF B q1 t v w0 _ HE.out (HG.mV h.aT.iF) (by omega)) ?_
          ·rw[h.p31 rfl];go_simp
          ·rintro e w'(⟨yy,rr,hy,rfl,hr⟩|⟨hno,rfl,l9,hr⟩)
           ·exact .inl ⟨_,rfl,hK _ _ ⟨_,_,_,_,_,_,_,_,u29,u30,u31,(aj #[ae au yy.id,ae au yy.code]),u33,u34,u35,(yy),(rr),rfl,rfl,{h with aT:=h.aT.rd hr,ps:=fun _=>hy,q3:=fun _=>rfl,d4:=fun _=>rfl,d5:=nofun,d51:=nofun,d7:=nofun,q4:=nofun,s0:=nofun}⟩⟩
           ·refine .inr ⟨_,rfl,?_⟩;have HNo:=hide hno;have HR5:Hid (jE B l9 w w'):=hide (h.aT.iF.trans hr);clear h hK hi hl hr hno;go_wp2_with fail;refine⟨rfl,.inr ⟨fun c r hc=>?_,rfl,_,HR5.out⟩⟩;obtain⟨q0,q2,q3,e0,hA,hB,hC,_⟩:=hc;have e1:=HL0.out;rw[e1] at e0;obtain rfl:=List.append_cancel_left e0;obtain⟨_,rfl⟩:=(HS0.out _ _).1 hA;obtain⟨_,rfl⟩:=(HS1.out _ _).1 hB;exact HI.none HQ1.out HNo.out _ _ hC
         ·obtain rfl:l4=false:=hl;obtain rfl:l3=true:=aC hi 3;obtain rfl:l5=false:=nf h.d5 rfl;obtain rfl:l7=false:=nf h.d7 rfl;refine aK (v:=af (some ⟨x.heap.size,0,none⟩) 1 1) (w':=x.alloc (.cells #[ae au y.id,ae au y.code] 112)) ?_ (hK _ _ ⟨_,_,_,_,_,_,_,_,u29,u30,u31,u32,(af (some ⟨x.heap.size,0,none⟩) 1 1),u34,u35,(y),(s),rfl,rfl,{h with q4:=(fun _=>rfl),aT:=(h.aT.aY (i:=6) rfl (aM y) 112),d4:=fun _=>rfl,d5:=nofun,d51:=nofun,d7:=nofun}⟩);rw[h.q3 rfl];go_simp
         ·obtain rfl:l5=false:=hl;obtain rfl:l1=true:=aC hi 1;obtain rfl:l3=true:=aC hi 3;obtain rfl:l4=true:=aC hi 4;obtain rfl:l7=false:=nf h.d7 rfl;obtain⟨v',z,hr,hp⟩:=h.aT.append (P:=prog) (i0:=5) rfl 29 29 i2 _ 16 underlying29 hi2 hz2 hy2 hx2 rfl (by decide) (some ⟨jP (tJ u33),0,none⟩) 1 1 (aM y) rfl (fun e=>by cases e) (gJ (h.aT.aB (i:=6) rfl)) (TR y) (by unfold maxLen;omega) (by omega);refine aK (v:=v') (w':=z) ?_ (hK _ _ ⟨_,_,_,_,_,_,_,_,u29,u30,u31,u32,u33,(v'),u35,(y),(s),rfl,rfl,{h with aT:=(hp),d5:=fun _=>rfl,d51:=fun _=>rfl,d7:=nofun}⟩);exact eQ rfl (h.p30 rfl) (h.q4 rfl) hr
         ·obtain rfl:l6=false:=hl;obtain rfl:l0=true:=aC hi 0;obtain rfl:l1=true:=aC hi 1;obtain rfl:l2=true:=aC hi 2;obtain rfl:l3=true:=aC hi 3;obtain rfl:l4=true:=aC hi 4;obtain rfl:l5=true:=aC hi 5;refine aK (v:=ai (some ⟨G,2,none⟩)) (w':=x) ?_ (hK _ _ ⟨_,_,_,_,_,_,_,_,_,_,_,_,_,_,_,(y),(s),rfl,rfl,{h with p35:=fun _=>rfl}⟩);go_simp
         ·obtain rfl:l7=false:=hl;obtain rfl:l0=true:=aC hi 0;obtain rfl:l1=true:=aC hi 1;obtain rfl:l2=true:=aC hi 2;obtain rfl:l3=true:=aC hi 3;obtain rfl:l4=true:=aC hi 4;obtain rfl:l5=true:=aC hi 5;obtain rfl:l6=true:=aC hi 6;obtain⟨a6,k6,e6⟩:=bv (h.aT.rowAt (i:=5) rfl);have A6:=h.aT.aB (i:=2) rfl;have t1:=A6.c 2 _ rfl;have f1:=A6.f 2;refine eB (w':=x.setCell ⟨G,2,none⟩ u34) ?_ (hK _ _ ⟨_,_,_,_,_,_,_,_,u29,u30,u31,u32,u33,u34,u35,(y),(s),rfl,rfl,{h with aT:=(h.aT.aQ (i:=2) rfl 2 u34 (by simp)),d7:=fun _=>rfl}⟩);rw[h.p35 rfl,e6];go_simp
        ·rintro L act x⟨l0,l1,l2,l3,l4,l5,l6,l7,u29,u30,u31,u32,u33,u34,u35,y,s,rfl,rfl,h⟩ hr;have hall:=eZ hr rfl (by decide);have t0:l0=true:=hall 0 (by decide);have t1:l1=true:=hall 1 (by decide);have t2:l2=true:=hall 2 (by decide);have t3:l3=true:=hall 3 (by decide);have t4:l4=true:=hall 4 (by decide);have t5:l5=true:=hall 5 (by decide);have t6:l6=true:=hall 6 (by decide);have t7:l7=true:=hall 7 (by decide);subst t0 t1 t2 t3 t4 t5 t6 t7;clear hall hr;obtain⟨a6,k6,e6⟩:=bv (h.aT.rowAt (i:=5) rfl);have hy:=h.ps rfl;have HPn:Hid (Pool [B] w [[blk B [ag (bs s)]],[blk C [af none 0 0,af none 0 0,af none 0 0]],[blk G [af a0 d0.length c0,af a1 d1.length c1,af a6 (d2++[y]).length k6]],[row 106 4 (af a0 d0.length c0) d0.length (d0.flatMap aL)],[row 109 4 (af a1 d1.length c1) d1.length (d1.flatMap aG)],[row 112 2 (af a6 (d2++[y]).length k6) (d2++[y]).length ((d2++[y]).flatMap aM)],[]] x):=hide (by
          have z:=h.aT.drop (i:=6) rfl;rw[e6] at z;have e2:d2.flatMap aM++aM y=(d2++[y]).flatMap aM:=by simp
          have e3:d2.length+1=(d2++[y]).length:=by simp
          rw[e2,e3] at z;exact z)
         have HIn:Hid (kX A7 Cs qb (d2++[y]) s):=hide (HI.one HQ1.out hy Cs.inj hy.len);have hln:=hy.len;have hrx:=o9 (HPn.aB (i:=0) rfl);clear h hy e6;go_wp2;exact⟨⟨d2++[y],s,a6,k6,by simp;omega,HIn,HPn⟩,by omega⟩
     ·obtain⟨q1,hq1⟩:∃q1,q1=Lib.trimPrefix qb Bh:=⟨_,rfl⟩;have HQ1:Hid (qb=Bh++q1):=hide (by rw[hq1];exact iq hp);have hl1:q1.length<qb.length:=by have:=congrArg List.length HQ1.out;simp only[List.length_append,Bh,List.length_cons,List.length_nil] at this;omega
      rw[<-hq1] at hr;have HP5:Hid (Pool [B] w [[blk B [ag (bs q1)]],[blk C [af none 0 0,af none 0 0,af none 0 0]],[blk G [af a0 d0.length c0,af a1 d1.length c1,af none 0 0]],[row 106 4 (af a0 d0.length c0) d0.length (d0.flatMap aL)],[row 109 4 (af a1 d1.length c1) d1.length (d1.flatMap aG)],[row 112 2 (af none 0 0) ([]:List Sn).length (([]:List Sn).flatMap aM)],[]] w3):=hide (HPr.rd hr);clear hr HPr hp hq1;go_upto_region 6 with fail
      refine dw (by kernel_rfl) (fun L act x=>∃l0 l1 l2 l3 l4 l5 l6 l7:Bool,∃u20 u21 u22 u23 u24 u25 u26:Value,∃y:bP,∃s:List UInt8,L=#[l0,l1,l2,l3,l4,l5,l6,l7]/\act={tmps:=#[ai (some ⟨B,0,none⟩),ak,ai (some ⟨C,0,none⟩),ai (some ⟨G,0,none⟩),aj #[af none 0 0,af none 0 0,af none 0 0],ai (some ⟨B,0,none⟩),ai (some ⟨B,0,none⟩),Value.bool true,Value.tuple #[],ai (some ⟨B,0,none⟩),Value.bool false,u11,u12,u13,u14,u15,u16,u17,ai (some ⟨B,0,none⟩),Value.bool true,u20,u21,u22,u23,u24,u25,u26,ak,ak,ak,ak,ak,ak,ak,ak,ak,ak,ak,ak,ak,ak],defers:=[]}/\Ul B w C G q1 a0 c0 d0 a1 c1 d1 l0 l1 l2 l3 l4 l5 l6 l7 u20 u21 u22 u23 u24 u25 u26 y s x) ?_ ?_ ?_
      rotate_left 2
      ·exact⟨false,false,false,false,false,false,false,false,(u20),(u21),(u22),(u23),(u24),(u25),(u26),(⟨0,⟨#[]⟩,⟨#[]⟩,0⟩),(q1),rfl,rfl,{aT:=HP5.drew,s0:=fun _=>rfl,ps:=nofun,q3:=nofun,q4:=nofun,d4:=nofun,d5:=nofun,d51:=nofun,d7:=nofun,p20:=nofun,p21:=nofun,p22:=nofun,p26:=nofun}⟩
      ·rintro L act x i⟨l0,l1,l2,l3,l4,l5,l6,l7,u20,u21,u22,u23,u24,u25,u26,y,s,rfl,rfl,h⟩ hi K hK;have hi15:i<8:=gz hi;have hl:=(mem_ready.1 hi).1;obtain rfl|rfl|rfl|rfl|rfl|rfl|rfl|rfl:=(by omega:i=0\/i=1\/i=2\/i=3\/i=4\/i=5\/i=6\/i=7)
       ·obtain rfl:l0=false:=hl;refine aK (v:=ai (some ⟨G,1,none⟩)) (w':=x) ?_ (hK _ _ ⟨_,_,_,_,_,_,_,_,_,_,_,_,_,_,_,(y),(s),rfl,rfl,{h with p20:=fun _=>rfl}⟩);go_simp
       ·obtain rfl:l1=false:=hl;obtain rfl:l0=true:=aC hi 0;obtain rfl:l5=false:=nf h.d51 rfl;obtain rfl:l7=false:=nf h.d7 rfl;have cc:=(h.aT.aB (i:=2) rfl).c 1 _ rfl;refine aK (v:=af a1 d1.length c1) (w':=x) ?_ (hK _ _ ⟨_,_,_,_,_,_,_,_,_,_,_,_,_,_,_,(y),(s),rfl,rfl,{h with p21:=fun _=>rfl,d51:=fun _=>rfl}⟩);rw[h.p20 rfl];go_simp
       ·obtain rfl:l2=false:=hl;refine aK (v:=ai (some ⟨B,0,none⟩)) (w':=x) ?_ (hK _ _ ⟨_,_,_,_,_,_,_,_,_,_,_,_,_,_,_,(y),(s),rfl,rfl,{h with p22:=fun _=>rfl}⟩);go_simp
       ·obtain rfl:l3=false:=hl;obtain rfl:l2=true:=aC hi 2;obtain rfl:l4=false:=nf h.d4 rfl;obtain rfl:l5=false:=nf h.d5 rfl;obtain rfl:l7=false:=nf h.d7 rfl;have es:=(h.s0 rfl).symm;subst es;refine tY ?_ (Dt B q1 t v w0 _ HE.out (HG.mV h.aT.iF) (by omega)) ?_
        ·rw[h.p22 rfl];go_simp
        ·rintro e w'(⟨yy,rr,hy,rfl,hr⟩|⟨hno,rfl,l9,hr⟩)
         ·exact .inl ⟨_,rfl,hK _ _ ⟨_,_,_,_,_,_,_,_,u20,u21,u22,(aj #[ae au yy.id,ag yy.fr,ag yy.«to»,ae au yy.aV]),u24,u25,u26,(yy),(rr),rfl,rfl,{h with aT:=h.aT.rd hr,ps:=fun _=>hy,q3:=fun _=>rfl,d4:=fun _=>rfl,d5:=nofun,d51:=nofun,d7:=nofun,q4:=nofun,s0:=nofun}⟩⟩
         ·refine .inr ⟨_,rfl,?_⟩;have HNo:=hide hno;have HR5:Hid (jE B l9 w w'):=hide (h.aT.iF.trans hr);clear h hK hi hl hr hno;go_wp2_with fail;refine⟨rfl,.inr ⟨fun c r hc=>?_,rfl,_,HR5.out⟩⟩;obtain⟨q0,q2,q3,e0,hA,hB,_⟩:=hc;have e1:=HL0.out;rw[e1] at e0;obtain rfl:=List.append_cancel_left e0;obtain⟨_,rfl⟩:=(HS0.out _ _).1 hA;exact HI.none HQ1.out HNo.out _ _ hB
       ·obtain rfl:l4=false:=hl;obtain rfl:l3=true:=aC hi 3;obtain rfl:l5=false:=nf h.d5 rfl;obtain rfl:l7=false:=nf h.d7 rfl;refine aK (v:=af (some ⟨x.heap.size,0,none⟩) 1 1) (w':=x.alloc (.cells #[ae au y.id,ag y.fr,ag y.«to»,ae au y.aV] 109)) ?_ (hK _ _ ⟨_,_,_,_,_,_,_,_,u20,u21,u22,u23,(af (some ⟨x.heap.size,0,none⟩) 1 1),u25,u26,(y),(s),rfl,rfl,{h with q4:=(fun _=>rfl),aT:=(h.aT.aY (i:=6) rfl (aG y) 109),d4:=fun _=>rfl,d5:=nofun,d51:=nofun,d7:=nofun}⟩);rw[h.q3 rfl];go_simp
       ·obtain rfl:l5=false:=hl;obtain rfl:l1=true:=aC hi 1;obtain rfl:l3=true:=aC hi 3;obtain rfl:l4=true:=aC hi 4;obtain rfl:l7=false:=nf h.d7 rfl;obtain⟨v',z,hr,hp⟩:=h.aT.append (P:=prog) (i0:=4) rfl 28 28 i1 _ 48 underlying28 hi1 hz1 hy1 hx1 rfl (by decide) (some ⟨jP (tJ u24),0,none⟩) 1 1 (aG y) rfl (fun e=>by cases e) (gJ (h.aT.aB (i:=6) rfl)) (ho1 y) (by unfold maxLen;omega) (by omega);refine aK (v:=v') (w':=z) ?_ (hK _ _ ⟨_,_,_,_,_,_,_,_,u20,u21,u22,u23,u24,(v'),u26,(y),(s),rfl,rfl,{h with aT:=(hp),d5:=fun _=>rfl,d51:=fun _=>rfl,d7:=nofun}⟩);exact eQ rfl (h.p21 rfl) (h.q4 rfl) hr
       ·obtain rfl:l6=false:=hl;obtain rfl:l0=true:=aC hi 0;obtain rfl:l1=true:=aC hi 1;obtain rfl:l2=true:=aC hi 2;obtain rfl:l3=true:=aC hi 3;obtain rfl:l4=true:=aC hi 4;obtain rfl:l5=true:=aC hi 5;refine aK (v:=ai (some ⟨G,1,none⟩)) (w':=x) ?_ (hK _ _ ⟨_,_,_,_,_,_,_,_,_,_,_,_,_,_,_,(y),(s),rfl,rfl,{h with p26:=fun _=>rfl}⟩);go_simp
       ·obtain rfl:l7=false:=hl;obtain rfl:l0=true:=aC hi 0;obtain rfl:l1=true:=aC hi 1;obtain rfl:l2=true:=aC hi 2;obtain rfl:l3=true:=aC hi 3;obtain rfl:l4=true:=aC hi 4;obtain rfl:l5=true:=aC hi 5;obtain rfl:l6=true:=aC hi 6;obtain⟨a6,k6,e6⟩:=bv (h.aT.rowAt (i:=4) rfl);have A6:=h.aT.aB (i:=2) rfl;have t1:=A6.c 1 _ rfl;have f1:=A6.f 1;refine eB (w':=x.setCell ⟨G,1,none⟩ u25) ?_ (hK _ _ ⟨_,_,_,_,_,_,_,_,u20,u21,u22,u23,u24,u25,u26,(y),(s),rfl,rfl,{h with aT:=(h.aT.aQ (i:=2) rfl 1 u25 (by simp)),d7:=fun _=>rfl}⟩);rw[h.p26 rfl,e6];go_simp
      ·rintro L act x⟨l0,l1,l2,l3,l4,l5,l6,l7,u20,u21,u22,u23,u24,u25,u26,y,s,rfl,rfl,h⟩ hr;have hall:=eZ hr rfl (by decide);have t0:l0=true:=hall 0 (by decide);have t1:l1=true:=hall 1 (by decide);have t2:l2=true:=hall 2 (by decide);have t3:l3=true:=hall 3 (by decide);have t4:l4=true:=hall 4 (by decide);have t5:l5=true:=hall 5 (by decide);have t6:l6=true:=hall 6 (by decide);have t7:l7=true:=hall 7 (by decide);subst t0 t1 t2 t3 t4 t5 t6 t7;clear hall hr;obtain⟨a6,k6,e6⟩:=bv (h.aT.rowAt (i:=4) rfl);have hy:=h.ps rfl;have HPn:Hid (Pool [B] w [[blk B [ag (bs s)]],[blk C [af none 0 0,af none 0 0,af none 0 0]],[blk G [af a0 d0.length c0,af a6 (d1++[y]).length k6,af none 0 0]],[row 106 4 (af a0 d0.length c0) d0.length (d0.flatMap aL)],[row 109 4 (af a6 (d1++[y]).length k6) (d1++[y]).length ((d1++[y]).flatMap aG)],[row 112 2 (af none 0 0) ([]:List Sn).length (([]:List Sn).flatMap aM)],[]] x):=hide (by
        have z:=h.aT.drop (i:=6) rfl;rw[e6] at z;have e2:d1.flatMap aG++aG y=(d1++[y]).flatMap aG:=by simp
        have e3:d1.length+1=(d1++[y]).length:=by simp
        rw[e2,e3] at z;exact z)
       have HIn:Hid (kX Bh qJ qa (d1++[y]) s):=hide (HI.one HQ1.out hy qJ.inj hy.len);have hln:=hy.len;have hrx:=o9 (HPn.aB (i:=0) rfl);clear h hy e6;go_wp2;exact⟨⟨d1++[y],s,a6,k6,by simp;omega,HIn,HPn⟩,by omega⟩
   ·obtain⟨q1,hq1⟩:∃q1,q1=Lib.trimPrefix qa AV:=⟨_,rfl⟩;have HQ1:Hid (qa=AV++q1):=hide (by rw[hq1];exact iq hp);have hl1:q1.length<qa.length:=by have:=congrArg List.length HQ1.out;simp only[List.length_append,AV,List.length_cons,List.length_nil] at this;omega
    rw[<-hq1] at hr;have HP5:Hid (Pool [B] w [[blk B [ag (bs q1)]],[blk C [af none 0 0,af none 0 0,af none 0 0]],[blk G [af a0 d0.length c0,af none 0 0,af none 0 0]],[row 106 4 (af a0 d0.length c0) d0.length (d0.flatMap aL)],[row 109 4 (af none 0 0) ([]:List bP).length (([]:List bP).flatMap aG)],[row 112 2 (af none 0 0) ([]:List Sn).length (([]:List Sn).flatMap aM)],[]] w3):=hide (HPr.rd hr);clear hr HPr hp hq1;go_upto_region 4 with fail
    refine dw (by kernel_rfl) (fun L act x=>∃l0 l1 l2 l3 l4 l5 l6 l7:Bool,∃u11 u12 u13 u14 u15 u16 u17:Value,∃y:bF,∃s:List UInt8,L=#[l0,l1,l2,l3,l4,l5,l6,l7]/\act={tmps:=#[ai (some ⟨B,0,none⟩),ak,ai (some ⟨C,0,none⟩),ai (some ⟨G,0,none⟩),aj #[af none 0 0,af none 0 0,af none 0 0],ai (some ⟨B,0,none⟩),ai (some ⟨B,0,none⟩),Value.bool true,Value.tuple #[],ai (some ⟨B,0,none⟩),Value.bool true,u11,u12,u13,u14,u15,u16,u17,ak,ak,ak,ak,ak,ak,ak,ak,ak,ak,ak,ak,ak,ak,ak,ak,ak,ak,ak,ak,ak,ak,ak],defers:=[]}/\Um B w C G q1 a0 c0 d0 l0 l1 l2 l3 l4 l5 l6 l7 u11 u12 u13 u14 u15 u16 u17 y s x) ?_ ?_ ?_
    rotate_left 2
    ·exact⟨false,false,false,false,false,false,false,false,(u11),(u12),(u13),(u14),(u15),(u16),(u17),(⟨⟨#[]⟩,⟨#[]⟩,0,0⟩),(q1),rfl,rfl,{aT:=HP5.drew,s0:=fun _=>rfl,ps:=nofun,q3:=nofun,q4:=nofun,d4:=nofun,d5:=nofun,d51:=nofun,d7:=nofun,p11:=nofun,p12:=nofun,p13:=nofun,p17:=nofun}⟩
    ·rintro L act x i⟨l0,l1,l2,l3,l4,l5,l6,l7,u11,u12,u13,u14,u15,u16,u17,y,s,rfl,rfl,h⟩ hi K hK;have hi15:i<8:=gz hi;have hl:=(mem_ready.1 hi).1;obtain rfl|rfl|rfl|rfl|rfl|rfl|rfl|rfl:=(by omega:i=0\/i=1\/i=2\/i=3\/i=4\/i=5\/i=6\/i=7)
     ·obtain rfl:l0=false:=hl;refine aK (v:=ai (some ⟨G,0,none⟩)) (w':=x) ?_ (hK _ _ ⟨_,_,_,_,_,_,_,_,_,_,_,_,_,_,_,(y),(s),rfl,rfl,{h with p11:=fun _=>rfl}⟩);go_simp
     ·obtain rfl:l1=false:=hl;obtain rfl:l0=true:=aC hi 0;obtain rfl:l5=false:=nf h.d51 rfl;obtain rfl:l7=false:=nf h.d7 rfl;have cc:=(h.aT.aB (i:=2) rfl).c 0 _ rfl;refine aK (v:=af a0 d0.length c0) (w':=x) ?_ (hK _ _ ⟨_,_,_,_,_,_,_,_,_,_,_,_,_,_,_,(y),(s),rfl,rfl,{h with p12:=fun _=>rfl,d51:=fun _=>rfl}⟩);rw[h.p11 rfl];go_simp
     ·obtain rfl:l2=false:=hl;refine aK (v:=ai (some ⟨B,0,none⟩)) (w':=x) ?_ (hK _ _ ⟨_,_,_,_,_,_,_,_,_,_,_,_,_,_,_,(y),(s),rfl,rfl,{h with p13:=fun _=>rfl}⟩);go_simp
     ·obtain rfl:l3=false:=hl;obtain rfl:l2=true:=aC hi 2;obtain rfl:l4=false:=nf h.d4 rfl;obtain rfl:l5=false:=nf h.d5 rfl;obtain rfl:l7=false:=nf h.d7 rfl;have es:=(h.s0 rfl).symm;subst es;refine tY ?_ (yD B q1 t v w0 _ HE.out (HG.mV h.aT.iF) (by omega)) ?_
      ·rw[h.p13 rfl];go_simp
      ·rintro e w'(⟨yy,rr,hy,rfl,hr⟩|⟨hno,rfl,l9,hr⟩)
       ·exact .inl ⟨_,rfl,hK _ _ ⟨_,_,_,_,_,_,_,_,u11,u12,u13,(aj #[ag yy.name,ag yy.cur,ae au yy.bB,ae au yy.aS]),u15,u16,u17,(yy),(rr),rfl,rfl,{h with aT:=h.aT.rd hr,ps:=fun _=>hy,q3:=fun _=>rfl,d4:=fun _=>rfl,d5:=nofun,d51:=nofun,d7:=nofun,q4:=nofun,s0:=nofun}⟩⟩
       ·refine .inr ⟨_,rfl,?_⟩;have HNo:=hide hno;have HR5:Hid (jE B l9 w w'):=hide (h.aT.iF.trans hr);clear h hK hi hl hr hno;go_wp2_with fail;refine⟨rfl,.inr ⟨fun c r hc=>?_,rfl,_,HR5.out⟩⟩;obtain⟨q0,q2,q3,e0,hA,_⟩:=hc;have e1:=HL0.out;rw[e1] at e0;obtain rfl:=List.append_cancel_left e0;exact HI.none HQ1.out HNo.out _ _ hA
     ·obtain rfl:l4=false:=hl;obtain rfl:l3=true:=aC hi 3;obtain rfl:l5=false:=nf h.d5 rfl;obtain rfl:l7=false:=nf h.d7 rfl;refine aK (v:=af (some ⟨x.heap.size,0,none⟩) 1 1) (w':=x.alloc (.cells #[ag y.name,ag y.cur,ae au y.bB,ae au y.aS] 106)) ?_ (hK _ _ ⟨_,_,_,_,_,_,_,_,u11,u12,u13,u14,(af (some ⟨x.heap.size,0,none⟩) 1 1),u16,u17,(y),(s),rfl,rfl,{h with q4:=(fun _=>rfl),aT:=(h.aT.aY (i:=6) rfl (aL y) 106),d4:=fun _=>rfl,d5:=nofun,d51:=nofun,d7:=nofun}⟩);rw[h.q3 rfl];go_simp
     ·obtain rfl:l5=false:=hl;obtain rfl:l1=true:=aC hi 1;obtain rfl:l3=true:=aC hi 3;obtain rfl:l4=true:=aC hi 4;obtain rfl:l7=false:=nf h.d7 rfl;obtain⟨v',z,hr,hp⟩:=h.aT.append (P:=prog) (i0:=3) rfl 27 27 i0 _ 48 underlying27 hi0 hz0 hy0 hx0 rfl (by decide) (some ⟨jP (tJ u15),0,none⟩) 1 1 (aL y) rfl (fun e=>by cases e) (gJ (h.aT.aB (i:=6) rfl)) (TW y) (by unfold maxLen;omega) (by omega);refine aK (v:=v') (w':=z) ?_ (hK _ _ ⟨_,_,_,_,_,_,_,_,u11,u12,u13,u14,u15,(v'),u17,(y),(s),rfl,rfl,{h with aT:=(hp),d5:=fun _=>rfl,d51:=fun _=>rfl,d7:=nofun}⟩);exact eQ rfl (h.p12 rfl) (h.q4 rfl) hr
     ·obtain rfl:l6=false:=hl;obtain rfl:l0=true:=aC hi 0;obtain rfl:l1=true:=aC hi 1;obtain rfl:l2=true:=aC hi 2;obtain rfl:l3=true:=aC hi 3;obtain rfl:l4=true:=aC hi 4;obtain rfl:l5=true:=aC hi 5;refine aK (v:=ai (some ⟨G,0,none⟩)) (w':=x) ?_ (hK _ _ ⟨_,_,_,_,_,_,_,_,_,_,_,_,_,_,_,(y),(s),rfl,rfl,{h with p17:=fun _=>rfl}⟩);go_simp
     ·obtain rfl:l7=false:=hl;obtain rfl:l0=true:=aC hi 0;obtain rfl:l1=true:=aC hi 1;obtain rfl:l2=true:=aC hi 2;obtain rfl:l3=true:=aC hi 3;obtain rfl:l4=true:=aC hi 4;obtain rfl:l5=true:=aC hi 5;obtain rfl:l6=true:=aC hi 6;obtain⟨a6,k6,e6⟩:=bv (h.aT.rowAt (i:=3) rfl);have A6:=h.aT.aB (i:=2) rfl;have t1:=A6.c 0 _ rfl;have f1:=A6.f 0;refine eB (w':=x.setCell ⟨G,0,none⟩ u16) ?_ (hK _ _ ⟨_,_,_,_,_,_,_,_,u11,u12,u13,u14,u15,u16,u17,(y),(s),rfl,rfl,{h with aT:=(h.aT.aQ (i:=2) rfl 0 u16 (by simp)),d7:=fun _=>rfl}⟩);rw[h.p17 rfl,e6];go_simp
    ·rintro L act x⟨l0,l1,l2,l3,l4,l5,l6,l7,u11,u12,u13,u14,u15,u16,u17,y,s,rfl,rfl,h⟩ hr;have hall:=eZ hr rfl (by decide);have t0:l0=true:=hall 0 (by decide);have t1:l1=true:=hall 1 (by decide);have t2:l2=true:=hall 2 (by decide);have t3:l3=true:=hall 3 (by decide);have t4:l4=true:=hall 4 (by decide);have t5:l5=true:=hall 5 (by decide);have t6:l6=true:=hall 6 (by decide);have t7:l7=true:=hall 7 (by decide);subst t0 t1 t2 t3 t4 t5 t6 t7;clear hall hr;obtain⟨a6,k6,e6⟩:=bv (h.aT.rowAt (i:=3) rfl);have hy:=h.ps rfl;have HPn:Hid (Pool [B] w [[blk B [ag (bs s)]],[blk C [af none 0 0,af none 0 0,af none 0 0]],[blk G [af a6 (d0++[y]).length k6,af none 0 0,af none 0 0]],[row 106 4 (af a6 (d0++[y]).length k6) (d0++[y]).length ((d0++[y]).flatMap aL)],[row 109 4 (af none 0 0) ([]:List bP).length (([]:List bP).flatMap aG)],[row 112 2 (af none 0 0) ([]:List Sn).length (([]:List Sn).flatMap aM)],[]] x):=hide (by
      have z:=h.aT.drop (i:=6) rfl;rw[e6] at z;have e2:d0.flatMap aL++aL y=(d0++[y]).flatMap aL:=by simp
      have e3:d0.length+1=(d0++[y]).length:=by simp
      rw[e2,e3] at z;exact z)
     have HIn:Hid (kX AV qK r0 (d0++[y]) s):=hide (HI.one HQ1.out hy qK.inj hy.len);have hln:=hy.len;have hrx:=o9 (HPn.aB (i:=0) rfl);clear h hy e6;go_wp2;exact⟨⟨d0++[y],s,a6,k6,by simp;omega,HIn,HPn⟩,by omega⟩
end Go.Proofs.YtdbmmdecclalgaaGreatDoor
