import Derived.Test.YtdbmmdecclalgaaGreatDoorQae
import Derived.Maps.AppendAt
import Derived.OwnWalk
import Derived.Deep.CutRange
import Derived.Deep.CutBlock
namespace Go.Proofs.YtdbmmdecclalgaaGreatDoor
open Go.Value renaming int → ae, slice → af, string → ag, agg → aj, pointer → ai
open Go.IntKind renaming i64 → au
open Go renaming undef → ak
open Go.Proofs.Tryz Go.ChangeShapes Go.WideShapes Go.ChangeAt Go.RowKit
set_option linter.unusedVariables false
set_option maxRecDepth 100000
set_option maxHeartbeats 4000000
def aG(x:bP):List Value:=[ae au x.id,ag x.fr,ag x.to,ae au x.aV]
def aM(x:Sn):List Value:=[ae au x.id,ae au x.code]
def aL(x:bF):List Value:=[ag x.name,ag x.cur,ae au x.bB,ae au x.aS]
theorem Nu{w:World}{b off:Nat}{l:List bP}(h:fM w (some ⟨b,off,none⟩) l):∀j u,(l.flatMap aG)[j]?=some u->w.cell? ((⟨b,off,none⟩:Addr).add j)=some u:=by
 intro j u hj;have hlen:=eP aG 4 (fun _=>rfl) l;have hj':j<(l.flatMap aG).length:=(List.getElem?_eq_some_iff.1 hj).1;rw[hlen] at hj';have hi:j/4<l.length:=by omega
 have hr:j%4<4:=Nat.mod_lt _ (by decide);have hg:=flat_get aG 4 (fun _=>rfl) l (j/4) hi (j%4) hr;rw[show j/4*4+j%4=j by omega,hj] at hg;obtain⟨b',off',e,_,c0,c1,c2,c3,_⟩:=h (j/4) hi;simp only[Option.some.injEq,Addr.mk.injEq,and_true] at e;obtain⟨rfl,rfl⟩:=e;rw[addr_add];have:j%4=0\/j%4=1\/j%4=2\/j%4=3:=by omega
 rcases this with h0|h0|h0|h0<;>rw[h0] at hg<;>simp only[aG,List.getElem?_cons_zero,List.getElem?_cons_succ,Option.some.injEq] at hg<;>subst hg
 ·rw[show off+j=off+j/4*4 by omega];exact c0
 ·rw[show off+j=off+j/4*4+1 by omega];exact c1
 ·rw[show off+j=off+j/4*4+2 by omega];exact c2
 ·rw[show off+j=off+j/4*4+3 by omega];exact c3
theorem Ol{w:World}{b off:Nat}{l:List Sn}(h:ji w (some ⟨b,off,none⟩) l):∀j u,(l.flatMap aM)[j]?=some u->w.cell? ((⟨b,off,none⟩:Addr).add j)=some u:=by
 intro j u hj;have hlen:=eP aM 2 (fun _=>rfl) l;have hj':j<(l.flatMap aM).length:=(List.getElem?_eq_some_iff.1 hj).1;rw[hlen] at hj';have hi:j/2<l.length:=by omega
 have hr:j%2<2:=Nat.mod_lt _ (by decide);have hg:=flat_get aM 2 (fun _=>rfl) l (j/2) hi (j%2) hr;rw[show j/2*2+j%2=j by omega,hj] at hg;obtain⟨b',off',e,_,c0,c1,_⟩:=h (j/2) hi;simp only[Option.some.injEq,Addr.mk.injEq,and_true] at e;obtain⟨rfl,rfl⟩:=e;rw[addr_add];have:j%2=0\/j%2=1:=by omega
 rcases this with h0|h0<;>rw[h0] at hg<;>simp only[aM,List.getElem?_cons_zero,List.getElem?_cons_succ,Option.some.injEq] at hg<;>subst hg
 ·rw[show off+j=off+j/2*2 by omega];exact c0
 ·rw[show off+j=off+j/2*2+1 by omega];exact c1
theorem KM{w:World}{base:Nat}{e:TypeId}{v:Value}{l:List bP}(h:w.ownsRow base e 4 v l.length (l.flatMap aG))(hs:∀x∈l,x.fr.size<=maxLen/\x.to.size<=maxLen/\sQ x.id/\sQ x.aV) :
  ∃a cap,v=af a l.length cap/\fM w a l:=by
 obtain⟨_,⟨rfl,h0⟩|⟨g,cap,cur,rfl,hb,hg,hn,hc,hz,ht⟩⟩:=h
 ·exact⟨none,0,by rw[h0],fun i hi=>by omega⟩
 ·refine⟨_,_,rfl,fun i hi=>?_⟩;have hgs:g<w.heap.size:=(Array.getElem?_eq_some_iff.1 hg).1;have hcell:∀r,r<4->w.cell? ⟨g,0+i*4+r,none⟩=(aG l[i])[r]?:=fun r hr=>by
   have h1:=flat_get aG 4 (fun _=>rfl) l i hi r hr;have hlt:i*4+r<l.length*4:=by omega
   rw[<-ht,List.getElem?_take_of_lt hlt] at h1;simp only[World.cell?,hg];rw[<-h1];simp
  have hm:=hs _ (List.getElem_mem hi);exact⟨g,0,rfl,hgs,by have:=hcell 0 (by decide);simpa[aG] using this,by have:=hcell 1 (by decide);simpa[aG] using this,by have:=hcell 2 (by decide);simpa[aG] using this,by have:=hcell 3 (by decide);simpa[aG] using this,hm⟩
theorem Lr{w:World}{base:Nat}{e:TypeId}{v:Value}{l:List Sn}(h:w.ownsRow base e 2 v l.length (l.flatMap aM))(hs:∀x∈l,sQ x.id/\sQ x.code) :
  ∃a cap,v=af a l.length cap/\ji w a l:=by
 obtain⟨_,⟨rfl,h0⟩|⟨g,cap,cur,rfl,hb,hg,hn,hc,hz,ht⟩⟩:=h
 ·exact⟨none,0,by rw[h0],fun i hi=>by omega⟩
 ·refine⟨_,_,rfl,fun i hi=>?_⟩;have hgs:g<w.heap.size:=(Array.getElem?_eq_some_iff.1 hg).1;have hcell:∀r,r<2->w.cell? ⟨g,0+i*2+r,none⟩=(aM l[i])[r]?:=fun r hr=>by
   have h1:=flat_get aM 2 (fun _=>rfl) l i hi r hr;have hlt:i*2+r<l.length*2:=by omega
   rw[<-ht,List.getElem?_take_of_lt hlt] at h1;simp only[World.cell?,hg];rw[<-h1];simp
  have hm:=hs _ (List.getElem_mem hi);exact⟨g,0,rfl,hgs,by have:=hcell 0 (by decide);simpa[aM] using this,by have:=hcell 1 (by decide);simpa[aM] using this,hm⟩
theorem KL{w:World}{a:Option Addr}{l:List bP}(h:fM w a l):∀x∈l,x.fr.size<=maxLen/\x.to.size<=maxLen/\sQ x.id/\sQ x.aV:=fun x hx=>by
 obtain⟨i,hi,rfl⟩:=List.getElem_of_mem hx;obtain⟨_,_,_,_,_,_,_,_,r⟩:=h i hi;exact r
theorem Lp{w:World}{a:Option Addr}{l:List Sn}(h:ji w a l):∀x∈l,sQ x.id/\sQ x.code:=fun x hx=>by
 obtain⟨i,hi,rfl⟩:=List.getElem_of_mem hx;obtain⟨_,_,_,_,_,_,r⟩:=h i hi;exact r
theorem kP(l:List bP):∀u∈l.flatMap aG,u.oneCell'=true:=fun u hu=>by
 obtain⟨x,_,hx⟩:=List.mem_flatMap.1 hu;simp only[aG,List.mem_cons,List.not_mem_nil,or_false] at hx;rcases hx with rfl|rfl|rfl|rfl<;>rfl
theorem PO(l:List Sn):∀u∈l.flatMap aM,u.oneCell'=true:=fun u hu=>by
 obtain⟨x,_,hx⟩:=List.mem_flatMap.1 hu;simp only[aM,List.mem_cons,List.not_mem_nil,or_false] at hx;rcases hx with rfl|rfl<;>rfl
def IM(l:List bP)(w:World)(e:Ending)(w':World):Prop:=Below w.heap.size w w'/\∃a cap,e=.returned (af a l.length cap)/\fM w' a l
def IP(l:List Sn)(w:World)(e:Ending)(w':World):Prop:=Below w.heap.size w w'/\∃a cap,e=.returned (af a l.length cap)/\ji w' a l
theorem below_grown{w w':World}{row:Option Nat}(h:w.grownBy w' row){w0:World}(k:Below w0.heap.size w0 w)(hr:∀j,row=some j->w0.heap.size<=j):Below w0.heap.size w0 w':=k.grown h k.size hr
theorem QS:(prog.info? 109).map (fun i=>(i.zero,i.size,i.bytes))=some (some (aj #[ae au 0,ag ByteArray.empty,ag ByteArray.empty,ae au 0]),4,48):=by kernel_rfl
theorem QR:(prog.info? 112).map (fun i=>(i.zero,i.size,i.bytes))=some (some (aj #[ae au 0,ae au 0]),2,16):=by kernel_rfl
theorem bI.mk'{p:Prop}(h:p):bI p:=h
set_option maxRecDepth 100000 in
theorem Ay(ad:Addr)(l:List bP)(cap:Nat)(w:World)(hl:l.length<=1048576)(hn:∀j u,(l.flatMap aG)[j]?=some u->w.cell? (ad.add j)=some u)(hs:∀x∈l,x.fr.size<=maxLen/\x.to.size<=maxLen/\sQ x.id/\sQ x.aV) :
  Calls prog 159 #[af (some ad) l.length cap] w fun e w'=>IM l w e w':=by
 obtain⟨i0,hi,hz0,hz1,hz2⟩:=info_parts QS;have HN:=hide hn;have HS:=hide hs;clear hn hs;have he:∀w:World,(binOp .eql 28 (af (some ad) l.length cap) (af none 0 0)).run prog w=.ok (.bool false) w:=fun _=>rfl
 have u30:prog.underlying 28=some (.slice 109):=by kernel_rfl
 go_enter func159,ntmps159;go_wp2_with (first|(at_builtin;refine bI.mk ?_)|go_in);refine bI.mk' ?_;refine wpList_append_own_at _ rfl _ _ 28 rfl w.heap.size 109 i0 _ 4 48 u30 hi hz0 hz1 hz2 rfl (by decide) _ 0 [] rfl ?own ad l.length cap (l.flatMap aG) rfl (eP aG 4 (fun _=>rfl) l) ?news (kP l) (by unfold maxLen;omega) (by omega) ?base ?_
 case own=>exact World.ownsRow_made w #[] 0 (Nat.le_refl _) (by unfold maxLen;omega) rfl
 case news=>exact fun j u hj=>(World.grownBy_alloc w _ none).cell (HN.out j u hj) (by simp)
 case base=>simp
 intro v' w1 hown' hgrow hnil hloc;have HB:Hid (Below w.heap.size w w1):=hide (below_grown hgrow (aF (Below.refl _ _) _) (fun j hj=>by cases hj;exact Nat.le_refl _));have HO:=hide hown';clear hown' hgrow hnil hloc;go_wp2;go_ret;refine⟨HB.out,?_⟩;have ho:=HO.out;rw[List.nil_append,Nat.zero_add] at ho;obtain⟨a',cap',rfl,ha⟩:=KM ho HS.out;exact⟨a',cap',rfl,ha⟩
set_option maxRecDepth 100000 in
theorem Iw(a:Option Addr)(l:List bP)(cap:Nat)(w:World)(hl:l.length<=1048576)(h:fM w a l) :
  Calls prog 159 #[af a l.length cap] w fun e w'=>IM l w e w':=by
 match a with
 | some ad =>
  cases l with
  | nil=>exact Ay ad [] cap w hl (fun j u hj=>by simp at hj) (fun x hx=>by cases hx)
  | cons x xs =>
   obtain⟨b,off,e,_⟩:=h 0 (by simp);cases e;exact Ay _ _ cap w hl (Nu h) (KL h)
 | none =>
  have h0:l.length=0:=by
   rcases Nat.eq_zero_or_pos l.length with h0|h0
   ·exact h0
   ·obtain⟨b,off,e,_⟩:=h 0 h0;cases e
  obtain rfl:l=[]:=List.eq_nil_of_length_eq_zero h0;have he:∀w:World,(binOp .eql 28 (af none 0 cap) (af none 0 0)).run prog w=.ok (.bool true) w:=fun _=>rfl
  show Calls prog 159 #[af none 0 cap] w fun e w'=>IM [] w e w'
  go_enter func159,ntmps159;go_wp2;go_ret;exact⟨Below.refl _ _,none,0,rfl,fun i hi=>by simp at hi⟩
set_option maxRecDepth 100000 in
theorem Az(ad:Addr)(l:List Sn)(cap:Nat)(w:World)(hl:l.length<=1048576)(hn:∀j u,(l.flatMap aM)[j]?=some u->w.cell? (ad.add j)=some u)(hs:∀x∈l,sQ x.id/\sQ x.code) :
  Calls prog 160 #[af (some ad) l.length cap] w fun e w'=>IP l w e w':=by
 obtain⟨i0,hi,hz0,hz1,hz2⟩:=info_parts QR;have HN:=hide hn;have HS:=hide hs;clear hn hs;have he:∀w:World,(binOp .eql 29 (af (some ad) l.length cap) (af none 0 0)).run prog w=.ok (.bool false) w:=fun _=>rfl
 have u30:prog.underlying 29=some (.slice 112):=by kernel_rfl
 go_enter func160,ntmps160;go_wp2_with (first|(at_builtin;refine bI.mk ?_)|go_in);refine bI.mk' ?_;refine wpList_append_own_at _ rfl _ _ 29 rfl w.heap.size 112 i0 _ 2 16 u30 hi hz0 hz1 hz2 rfl (by decide) _ 0 [] rfl ?own ad l.length cap (l.flatMap aM) rfl (eP aM 2 (fun _=>rfl) l) ?news (PO l) (by unfold maxLen;omega) (by omega) ?base ?_
 case own=>exact World.ownsRow_made w #[] 0 (Nat.le_refl _) (by unfold maxLen;omega) rfl
 case news=>exact fun j u hj=>(World.grownBy_alloc w _ none).cell (HN.out j u hj) (by simp)
 case base=>simp
 intro v' w1 hown' hgrow hnil hloc;have HB:Hid (Below w.heap.size w w1):=hide (below_grown hgrow (aF (Below.refl _ _) _) (fun j hj=>by cases hj;exact Nat.le_refl _));have HO:=hide hown';clear hown' hgrow hnil hloc;go_wp2;go_ret;refine⟨HB.out,?_⟩;have ho:=HO.out;rw[List.nil_append,Nat.zero_add] at ho;obtain⟨a',cap',rfl,ha⟩:=Lr ho HS.out;exact⟨a',cap',rfl,ha⟩
set_option maxRecDepth 100000 in
theorem Iy(a:Option Addr)(l:List Sn)(cap:Nat)(w:World)(hl:l.length<=1048576)(h:ji w a l) :
  Calls prog 160 #[af a l.length cap] w fun e w'=>IP l w e w':=by
 match a with
 | some ad =>
  cases l with
  | nil=>exact Az ad [] cap w hl (fun j u hj=>by simp at hj) (fun x hx=>by cases hx)
  | cons x xs =>
   obtain⟨b,off,e,_⟩:=h 0 (by simp);cases e;exact Az _ _ cap w hl (Ol h) (Lp h)
 | none =>
  have h0:l.length=0:=by
   rcases Nat.eq_zero_or_pos l.length with h0|h0
   ·exact h0
   ·obtain⟨b,off,e,_⟩:=h 0 h0;cases e
  obtain rfl:l=[]:=List.eq_nil_of_length_eq_zero h0;have he:∀w:World,(binOp .eql 29 (af none 0 cap) (af none 0 0)).run prog w=.ok (.bool true) w:=fun _=>rfl
  show Calls prog 160 #[af none 0 cap] w fun e w'=>IP [] w e w'
  go_enter func160,ntmps160;go_wp2;go_ret;exact⟨Below.refl _ _,none,0,rfl,fun i hi=>by simp at hi⟩
theorem mq(x:bF):(aL x).length=4:=rfl
theorem gH(x:bP):(aG x).length=4:=rfl
theorem kC(x:Sn):(aM x).length=2:=rfl
def xu(x:bF):Prop:=x.name.size<=maxLen/\x.cur.size<=maxLen/\sQ x.bB/\sQ x.aS
def Bt(x:bP):Prop:=x.fr.size<=maxLen/\x.to.size<=maxLen/\sQ x.id/\sQ x.aV
def Qp(x:Sn):Prop:=sQ x.id/\sQ x.code
structure og(L:bM):Prop where
 aI:∀x∈L.aI,xu x
 az:∀x∈L.az,Bt x
 aH:∀x∈L.aH,Qp x
theorem lY.row{w:World}{a:Option Addr}{l:List bF}(h:lY w a l):bu 4 aL w a l:=fun i hi=>by
 obtain⟨b,off,e,hb,h0,h1,h2,h3,_⟩:=h i hi;exact⟨b,off,e,hb,fun r v hv=>by
  match r,hv with
  | 0,hv=>simp[aL] at hv;rw[<-hv];exact h0
  | 1,hv=>simp[aL] at hv;rw[<-hv];exact h1
  | 2,hv=>simp[aL] at hv;rw[<-hv];exact h2
  | 3,hv=>simp[aL] at hv;rw[<-hv];exact h3⟩
theorem fM.row{w:World}{a:Option Addr}{l:List bP}(h:fM w a l):bu 4 aG w a l:=fun i hi=>by
 obtain⟨b,off,e,hb,h0,h1,h2,h3,_⟩:=h i hi;exact⟨b,off,e,hb,fun r v hv=>by
  match r,hv with
  | 0,hv=>simp[aG] at hv;rw[<-hv];exact h0
  | 1,hv=>simp[aG] at hv;rw[<-hv];exact h1
  | 2,hv=>simp[aG] at hv;rw[<-hv];exact h2
  | 3,hv=>simp[aG] at hv;rw[<-hv];exact h3⟩
theorem ji.row{w:World}{a:Option Addr}{l:List Sn}(h:ji w a l):bu 2 aM w a l:=fun i hi=>by
 obtain⟨b,off,e,hb,h0,h1,_⟩:=h i hi;exact⟨b,off,e,hb,fun r v hv=>by
  match r,hv with
  | 0,hv=>simp[aM] at hv;rw[<-hv];exact h0
  | 1,hv=>simp[aM] at hv;rw[<-hv];exact h1⟩
theorem bu.aI{w:World}{a:Option Addr}{l:List bF}(h:bu 4 aL w a l)(hw:∀x∈l,xu x):lY w a l:=fun i hi=>by
 obtain⟨b,off,e,hb,hc⟩:=h i hi;obtain⟨w1,w2,w3,w4⟩:=hw _ (List.getElem_mem hi);exact⟨b,off,e,hb,hc 0 _ rfl,hc 1 _ rfl,hc 2 _ rfl,hc 3 _ rfl,w1,w2,w3,w4⟩
theorem bu.az{w:World}{a:Option Addr}{l:List bP}(h:bu 4 aG w a l)(hw:∀x∈l,Bt x):fM w a l:=fun i hi=>by
 obtain⟨b,off,e,hb,hc⟩:=h i hi;obtain⟨w1,w2,w3,w4⟩:=hw _ (List.getElem_mem hi);exact⟨b,off,e,hb,hc 0 _ rfl,hc 1 _ rfl,hc 2 _ rfl,hc 3 _ rfl,w1,w2,w3,w4⟩
theorem bu.ans{w:World}{a:Option Addr}{l:List Sn}(h:bu 2 aM w a l)(hw:∀x∈l,Qp x):ji w a l:=fun i hi=>by
 obtain⟨b,off,e,hb,hc⟩:=h i hi;obtain⟨w1,w2⟩:=hw _ (List.getElem_mem hi);exact⟨b,off,e,hb,hc 0 _ rfl,hc 1 _ rfl,w1,w2⟩
theorem lY.wf{w:World}{a:Option Addr}{l:List bF}(h:lY w a l):∀x∈l,xu x:=fun x hx=>by
 obtain⟨i,hi,rfl⟩:=List.mem_iff_getElem.1 hx;obtain⟨_,_,_,_,_,_,_,_,r⟩:=h i hi;exact r
theorem fM.wf{w:World}{a:Option Addr}{l:List bP}(h:fM w a l):∀x∈l,Bt x:=fun x hx=>by
 obtain⟨i,hi,rfl⟩:=List.mem_iff_getElem.1 hx;obtain⟨_,_,_,_,_,_,_,_,r⟩:=h i hi;exact r
theorem ji.wf{w:World}{a:Option Addr}{l:List Sn}(h:ji w a l):∀x∈l,Qp x:=fun x hx=>by
 obtain⟨i,hi,rfl⟩:=List.mem_iff_getElem.1 hx;obtain⟨_,_,_,_,_,_,r⟩:=h i hi;exact r
theorem iO.wf{w:World}{a h s:Option Addr}{L:bM}(k:iO w a h s L):og L:=⟨k.aI.wf,k.az.wf,k.aH.wf⟩
theorem JC(l:List bF):∀u∈l.flatMap aL,u.oneCell'=true:=fun u hu=>by
 simp only[List.mem_flatMap,aL,List.mem_cons,List.not_mem_nil,or_false] at hu;obtain⟨x,_,rfl|rfl|rfl|rfl⟩:=hu<;>rfl
def fi(ids:List Int)(x:Int):Option Nat:=ids.findIdx? (fun y=>y==x)
structure Cm where
 id:Int
 kind:Int
 fr:ByteArray
 «to»:ByteArray
 am:Int
 ref:Int
def Cm.v(c:Cm):Value:=aj #[ae au c.id,ae au c.kind,ag c.fr,ag c.to,ae au c.am,ae au c.ref]
def Cm.cells(c:Cm):List Value:=[ae au c.id,ae au c.kind,ag c.fr,ag c.to,ae au c.am,ae au c.ref]
def Cm.B(c:Cm):Bool:=dK c.id c.kind c.fr c.to c.am c.ref
def jN(l:List Sn)(id:Int):Int:=match fi (l.map Sn.id) id with
 | none=>-1
 | some k=>match l[k]? with
  | none=>-1
  | some x=>x.code
def kG(l:List Sn)(id code:Int):List Sn:=l.takeWhile (fun x=>decide (x.id<id))++⟨id,code⟩::l.dropWhile (fun x=>decide (x.id<id))
def F4(a b:ByteArray):Bool:=!Op.bytesLess b.toList a.toList&&!(b.toList==a.toList)
def qz(l:List bF)(x:bF):List bF:=l.takeWhile (fun y=>!F4 x.name y.name)++x::l.dropWhile (fun y=>!F4 x.name y.name)
def kH(l:List bP)(x:bP):List bP:=l.takeWhile (fun y=>decide (y.id<x.id))++x::l.dropWhile (fun y=>decide (y.id<x.id))
def gV(x:bF)(d:Int):bF:=⟨x.name,x.cur,x.bB,x.aS+d⟩
def iG(l:List bF)(i:Nat)(d:Int):List bF:=match l[i]? with
 | none=>l
 | some x=>l.set i (gV x d)
def iV(l:List bF)(i j:Nat)(am:Int):List bF:=iG (iG l i (-am)) j am
def kW(L:bM)(c:Cm):bM×Int:=match dZ L.aI c.fr with
 | some _=>(L,4)
 | none=>(⟨qz L.aI ⟨c.fr,c.to,c.am,0⟩,L.az,L.aH⟩,0)
def gG(l:List bF)(i:Nat):Bool:=match l[i]? with
 | none=>false
 | some x=>eu (-1000000000000) 1000000000000 x.aS
def iH(l:List bF)(h:List bP)(i:Nat):Bool:=match l[i]? with
 | none=>false
 | some x=>dD x (bf x.name h)
def mY(L:bM)(i j:Nat)(am:Int):bM×Int :=
 if gG (iV L.aI i j am) i&&gG (iV L.aI i j am) j then
  (if iH (iV L.aI i j am) L.az i then (⟨iV L.aI i j am,L.az,L.aH⟩,0) else (L,7))
 else (L,8)
def zY(L:bM)(i:Nat)(c:Cm):bM×Int :=
 if 1000000000000<bf c.fr (kH L.az ⟨c.id,c.fr,c.to,c.am⟩) then (L,8)
 else if iH L.aI (kH L.az ⟨c.id,c.fr,c.to,c.am⟩) i then (⟨L.aI,kH L.az ⟨c.id,c.fr,c.to,c.am⟩,L.aH⟩,0)
 else (L,7)
def o8(l:List bF)(i j:Nat):Bool:=match l[i]?,l[j]? with
 | some x,some y=>jC x.cur y.cur
 | _,_=>false
def ja(L:bM)(c:Cm):bM×Int:=match dZ L.aI c.fr,dZ L.aI c.to with
 | some i,some j=>if o8 L.aI i j then (if c.kind=2 then mY L i j c.am else zY L i c) else (L,6)
 | _,_=>(L,5)
def nK(L:bM)(c:Cm):bM×Int:=match L.az.find? (fun h=>h.id==c.ref) with
 | none=>(L,9)
 | some h =>
  if c.kind=5 then (⟨L.aI,L.az.filter (fun h=>!(h.id==c.ref)),L.aH⟩,0)
  else match dZ L.aI h.fr,dZ L.aI h.to with
   | some i,some j =>
    if (mY ⟨L.aI,L.az.filter (fun h=>!(h.id==c.ref)),L.aH⟩ i j h.aV).2=0 then ((mY ⟨L.aI,L.az.filter (fun h=>!(h.id==c.ref)),L.aH⟩ i j h.aV).1,0)
    else (L,(mY ⟨L.aI,L.az.filter (fun h=>!(h.id==c.ref)),L.aH⟩ i j h.aV).2)
   | _,_=>(L,5)
def fw(L:bM)(c:Cm):Bool:=decide (L.aH.length=40)||(decide (c.kind=1)&&decide (L.aI.length=12))||(decide (c.kind=3)&&(decide (L.az.length=10)||L.az.any (fun h=>h.id==c.id)))
def lZ(L:bM)(c:Cm):bM×Int:=if c.kind=1 then kW L c else if c.kind=2\/c.kind=3 then ja L c else nK L c
def dJ(L:bM)(c:Cm):bM×Int :=
 if df L=false then (⟨[],[],[]⟩,1)
 else if c.B=false then (L,2)
 else if 0<=jN L.aH c.id then (L,jN L.aH c.id)
 else if fw L c then (L,3)
 else (⟨(lZ L c).1.aI,(lZ L c).1.az,kG L.aH c.id (lZ L c).2⟩,(lZ L c).2)
structure LP where
 aa:Option Addr
 ca:Nat
 ha:Option Addr
 ch:Nat
 sa:Option Addr
 cs:Nat
def eD(p:LP)(L:bM):Value:=aj #[af p.aa L.aI.length p.ca,af p.ha L.az.length p.ch,af p.sa L.aH.length p.cs]
def bJ(p:LP)(L:bM):List Value:=[af p.aa L.aI.length p.ca,af p.ha L.az.length p.ch,af p.sa L.aH.length p.cs]
def bC(p:LP)(L:bM):List Rs:=[bA 4 aL p.aa p.ca L.aI,bA 4 aG p.ha p.ch L.az,bA 2 aM p.sa p.cs L.aH]
structure II(a:Option Addr)(c n:Nat):Prop where
 near:SQ a
 nocap:a=none->c=0
 room:n<=c
structure jr(p:LP)(D:bM):Prop where
 a:II p.aa p.ca D.aI.length
 h:II p.ha p.ch D.az.length
 s:II p.sa p.cs D.aH.length
def Uz(R:bM×Int)(w:World)(e:Ending)(w':World):Prop:=∃p:LP,e=.returned (.tuple #[eD p R.1,ae au R.2])/\jr p R.1/\Pool [] w [bC p R.1] w'
theorem bg{P:Program}{c:Code}{Q:Exit->Act->World->Prop}{a:Act}{w:World}(h:∀W,W=w->c.wp P Q a W):c.wp P Q a w:=h w rfl
theorem Lg{P:Program}{f:FuncId}{args:Array Value}{w:World}{R:Ending->World->Prop}(h:∀W,W=w->Calls P f args W R):Calls P f args w R:=h w rfl
theorem vk:(prog.info? 106).map (fun i=>(i.zero,i.size,i.bytes))=some (some (aj #[ag ByteArray.empty,ag ByteArray.empty,ae au 0,ae au 0]),4,48):=by kernel_rfl
theorem kM:(prog.info? 109).map (fun i=>(i.zero,i.size,i.bytes))=some (some (aj #[ae au 0,ag ByteArray.empty,ag ByteArray.empty,ae au 0]),4,48):=by kernel_rfl
theorem um:(prog.info? 112).map (fun i=>(i.zero,i.size,i.bytes))=some (some (aj #[ae au 0,ae au 0]),2,16):=by kernel_rfl
theorem IY(l:List Sn):∀u∈l.flatMap aM,u.oneCell'=true:=fun u hu=>by
 simp only[List.mem_flatMap,aM,List.mem_cons,List.not_mem_nil,or_false] at hu;obtain⟨x,_,rfl|rfl⟩:=hu<;>rfl
theorem bv{w:World}{base:Nat}{e:TypeId}{size:Nat}{v:Value}{n:Nat}{xs:List Value}(h:w.ownsRow base e size v n xs):∃a c,v=af a n c:=by
 obtain⟨_,⟨h0,h1⟩|⟨g,cap,cur,h1,_⟩⟩:=h
 ·exact⟨none,0,by rw[h0,h1]⟩
 ·exact⟨_,_,h1⟩
theorem Pool.iT{A:Type}{sz:Nat}{f:A->List Value}(hf:∀x,(f x).length=sz){F:List Nat}{w x:World}{S:List (List Rs)}(h:Pool F w S x){i:Nat}{T:TypeId}{v:Value}{l:List A}(hi:S[i]?=some [row T sz v l.length (l.flatMap f)]):∃a c,v=af a l.length c/\II a c l.length/\Pool F w (S.set i [bA sz f a c l]) x:=by
 obtain⟨a,c,e,st,hb⟩:=Star.GV hf (h.rowAt hi);subst e;have ho:=h.rowAt hi;have hn:SQ a:=by
  obtain⟨_,⟨h0,h1⟩|⟨g',cap,cur,h1,_⟩⟩:=ho
  ·simp only[Value.slice.injEq] at h0;intro x hx;rw[h0.1] at hx;cases hx
  ·simp only[Value.slice.injEq] at h1;intro x hx;rw[h1.1] at hx;cases hx;exact⟨_,_,rfl⟩
 have hr:=(st.get (r:=bA sz f a c l) (by simp)).2;exact⟨a,c,rfl,⟨hn,hr.nocap,hr.room⟩,h.step hi (Fr.refl _ _) st (fun b q=>.inl (by rw[fC,qd];exact hb b q))⟩
def PU(L:bM)(w:World)(e:Ending)(w':World):Prop:=∃q:LP,e=.returned (eD q L)/\jr q L/\Pool [] w [bC q L] w'
structure Uv(p:LP)(D:bM)(s:Nat)(w:World)(l0 l1 l2 l3 l4 l5 l6 l7 l8 l9 l10 l11 l12 l13:Bool)(u3 u4 u5 u6 u7 u8 u9 u10 u11 u12 u13 u14 u15:Value)(x:World):Prop where
 aT:Pool [] w [cond l3 [row 106 4 u6 D.aI.length (D.aI.flatMap aL)] (cond l0 [row 106 4 u3 0 []] []),cond l7 [row 109 4 u10 D.az.length (D.az.flatMap aG)] (cond l4 [row 109 4 u7 0 []] []),cond l11 [row 112 2 u14 D.aH.length (D.aH.flatMap aM)] (cond l8 [row 112 2 u11 0 []] []),[blk s (bJ p D)],cond l13 [blk (s+1) [u6,u10,u14]] [blk (s+1) [af none 0 0,af none 0 0,af none 0 0]]] x
 q15:l12=true->u15=aj #[u6,u10,u14]
 d3_0:l3=true->l0=true
 d7_4:l7=true->l4=true
 d11_8:l11=true->l8=true
 d12_3:l12=true->l3=true
 d12_7:l12=true->l7=true
 d12_11:l12=true->l11=true
 d13_12:l13=true->l12=true
 d13_3:l13=true->l3=true
 d13_7:l13=true->l7=true
 d13_11:l13=true->l11=true
 p4:l1=true->u4=ai (some ⟨s,0,none⟩)
 p5:l2=true->u5=af p.aa D.aI.length p.ca
 p8:l5=true->u8=ai (some ⟨s,1,none⟩)
 p9:l6=true->u9=af p.ha D.az.length p.ch
 p12:l9=true->u12=ai (some ⟨s,2,none⟩)
 p13:l10=true->u13=af p.sa D.aH.length p.cs
theorem qy(p:LP)(D:bM)(w:World)(n1:D.aI.length<=1048576)(n2:D.az.length<=1048576)(n3:D.aH.length<=1048576)(hpk:jr p D)(h:iO w p.aa p.ha p.sa D) :
  Calls prog 74 #[eD p D] w fun e w'=>PU D w e w':=by
 have HL:=hide h;have k1:=hpk.a.nocap;have k2:=hpk.h.nocap;have k3:=hpk.s.nocap;clear h;obtain⟨W2,hW2⟩:∃W2,W2=(w.alloc (.cells #[af p.aa D.aI.length p.ca,af p.ha D.az.length p.ch,af p.sa D.aH.length p.cs] 31)).alloc (.cells #[af none 0 0,af none 0 0,af none 0 0] 31):=⟨_,rfl⟩;have HP0:Hid (Pool [] w [[],[],[],[blk w.heap.size (bJ p D)],[blk (w.heap.size+1) [af none 0 0,af none 0 0,af none 0 0]]] W2):=hide (by
  have p1:=(Pool.start w [[],[],[],[],[]] rfl).aY (i:=3) rfl (bJ p D) 31;have s1:(w.alloc (.cells (bJ p D).toArray 31)).heap.size=w.heap.size+1:=by simp
  have p2:=p1.aY (i:=4) rfl [af none 0 0,af none 0 0,af none 0 0] 31;rw[s1] at p2;rw[hW2];exact p2)
 have HW2:Hid (_=W2):=hide hW2.symm;clear hW2;unfold eD;go_enter func74,ntmps74;go_upto_region 1 with fail
 rw[HW2.out];rename_i K0 hK0;obtain⟨i0,hi0,hz0,hy0,hx0⟩:∃i,prog.info? 106=some i/\i.zero=some (aj #[ag ByteArray.empty,ag ByteArray.empty,ae au 0,ae au 0])/\i.size=4/\i.bytes=48:=by
  have q:=vk;rw[Option.map_eq_some_iff] at q;obtain⟨i,q1,q2⟩:=q;simp only[Prod.mk.injEq] at q2;exact⟨i,q1,q2.1,q2.2.1,q2.2.2⟩
 obtain⟨i1,hi1,hz1,hy1,hx1⟩:∃i,prog.info? 109=some i/\i.zero=some (aj #[ae au 0,ag ByteArray.empty,ag ByteArray.empty,ae au 0])/\i.size=4/\i.bytes=48:=by
  have q:=kM;rw[Option.map_eq_some_iff] at q;obtain⟨i,q1,q2⟩:=q;simp only[Prod.mk.injEq] at q2;exact⟨i,q1,q2.1,q2.2.1,q2.2.2⟩
 obtain⟨i2,hi2,hz2,hy2,hx2⟩:∃i,prog.info? 112=some i/\i.zero=some (aj #[ae au 0,ae au 0])/\i.size=2/\i.bytes=16:=by
  have q:=um;rw[Option.map_eq_some_iff] at q;obtain⟨i,q1,q2⟩:=q;simp only[Prod.mk.injEq] at q2;exact⟨i,q1,q2.1,q2.2.1,q2.2.2⟩
 refine dw (by kernel_rfl) (fun L act x=>∃l0 l1 l2 l3 l4 l5 l6 l7 l8 l9 l10 l11 l12 l13:Bool,∃u3 u4 u5 u6 u7 u8 u9 u10 u11 u12 u13 u14 u15:Value,L=#[l0,l1,l2,l3,l4,l5,l6,l7,l8,l9,l10,l11,l12,l13]/\act={tmps:=#[aj #[af p.aa D.aI.length p.ca,af p.ha D.az.length p.ch,af p.sa D.aH.length p.cs],ai (some ⟨w.heap.size,0,none⟩),ai (some ⟨w.heap.size+1,0,none⟩),u3,u4,u5,u6,u7,u8,u9,u10,u11,u12,u13,u14,u15],defers:=[]}/\Uv p D w.heap.size w l0 l1 l2 l3 l4 l5 l6 l7 l8 l9 l10 l11 l12 l13 u3 u4 u5 u6 u7 u8 u9 u10 u11 u12 u13 u14 u15 x) ?_ ?_ ?_
 rotate_left 2
 ·exact⟨false,false,false,false,false,false,false,false,false,false,false,false,false,false,ak,ak,ak,ak,ak,ak,ak,ak,ak,ak,ak,ak,ak,rfl,rfl,⟨HP0.drew,nofun,nofun,nofun,nofun,nofun,nofun,nofun,nofun,nofun,nofun,nofun,nofun,nofun,nofun,nofun,nofun,nofun⟩⟩
 ·rintro L act x i⟨l0,l1,l2,l3,l4,l5,l6,l7,l8,l9,l10,l11,l12,l13,u3,u4,u5,u6,u7,u8,u9,u10,u11,u12,u13,u14,u15,rfl,rfl,h⟩ hi K hK;have hi15:i<14:=gz hi;have hl:=(mem_ready.1 hi).1;obtain rfl|rfl|rfl|rfl|rfl|rfl|rfl|rfl|rfl|rfl|rfl|rfl|rfl|rfl:=(by omega:i=0\/i=1\/i=2\/i=3\/i=4\/i=5\/i=6\/i=7\/i=8\/i=9\/i=10\/i=11\/i=12\/i=13)
  ·obtain rfl:l0=false:=hl;obtain rfl:l3=false:=nf h.d3_0 rfl;refine aK (v:=af (some ⟨x.heap.size,0,none⟩) 0 0) (w':=x.alloc (.cells #[] 106)) ?_ (hK _ _ ⟨_,_,_,_,_,_,_,_,_,_,_,_,_,_,_,_,_,_,_,_,_,_,_,_,_,_,_,rfl,rfl,{h with aT:=(h.aT.newRow (i:=0) rfl 106 4),d3_0:=fun _=>rfl}⟩);go_simp
  ·obtain rfl:l1=false:=hl;refine aK (v:=ai (some ⟨w.heap.size,0,none⟩)) (w':=x) ?_ (hK _ _ ⟨_,_,_,_,_,_,_,_,_,_,_,_,_,_,_,_,_,_,_,_,_,_,_,_,_,_,_,rfl,rfl,{h with p4:=fun _=>rfl}⟩);go_simp
  ·obtain rfl:l2=false:=hl;obtain rfl:l1=true:=aC hi 1;have c0:x.cell? ⟨w.heap.size,0,none⟩=some (af p.aa D.aI.length p.ca):=(h.aT.aB (i:=3) rfl).c 0 _ rfl;refine aK (v:=af p.aa D.aI.length p.ca) (w':=x) ?_ (hK _ _ ⟨_,_,_,_,_,_,_,_,_,_,_,_,_,_,_,_,_,_,_,_,_,_,_,_,_,_,_,rfl,rfl,{h with p5:=fun _=>rfl}⟩);rw[h.p4 rfl];go_simp
  ·obtain rfl:l3=false:=hl;obtain rfl:l0=true:=aC hi 0;obtain rfl:l2=true:=aC hi 2;obtain rfl:l12=false:=nf h.d12_3 rfl;obtain rfl:l13=false:=nf h.d13_3 rfl;obtain⟨v',y,hr,hp⟩:=h.aT.append (P:=prog) (i0:=0) rfl 27 27 i0 _ 48 underlying27 hi0 hz0 hy0 hx0 rfl (by decide) p.aa D.aI.length p.ca (D.aI.flatMap aL) (eP aL 4 mq D.aI) (fun e=>⟨kJ HL.aI.row e,k1 e⟩) (Below.news mq (by decide) h.aT.below HL.aI.row) (JC D.aI) (by unfold maxLen;omega) (by omega);rw[Nat.zero_add,List.nil_append] at hp;refine aK (v:=v') (w':=y) ?_ (hK _ _ ⟨_,_,_,_,_,_,_,_,_,_,_,_,_,_,_,_,_,_,_,_,_,_,_,_,_,_,_,rfl,rfl,{h with q15:=(fun q=>by cases q),aT:=(hp),d3_0:=fun _=>rfl,d12_3:=fun _=>rfl,d13_3:=fun _=>rfl}⟩);exact eQ rfl (by rfl) (h.p5 rfl) hr
  ·obtain rfl:l4=false:=hl;obtain rfl:l7=false:=nf h.d7_4 rfl;refine aK (v:=af (some ⟨x.heap.size,0,none⟩) 0 0) (w':=x.alloc (.cells #[] 109)) ?_ (hK _ _ ⟨_,_,_,_,_,_,_,_,_,_,_,_,_,_,_,_,_,_,_,_,_,_,_,_,_,_,_,rfl,rfl,{h with aT:=(h.aT.newRow (i:=1) rfl 109 4),d7_4:=fun _=>rfl}⟩);go_simp
  ·obtain rfl:l5=false:=hl;refine aK (v:=ai (some ⟨w.heap.size,1,none⟩)) (w':=x) ?_ (hK _ _ ⟨_,_,_,_,_,_,_,_,_,_,_,_,_,_,_,_,_,_,_,_,_,_,_,_,_,_,_,rfl,rfl,{h with p8:=fun _=>rfl}⟩);go_simp
  ·obtain rfl:l6=false:=hl;obtain rfl:l5=true:=aC hi 5;have c0:x.cell? ⟨w.heap.size,1,none⟩=some (af p.ha D.az.length p.ch):=(h.aT.aB (i:=3) rfl).c 1 _ rfl;refine aK (v:=af p.ha D.az.length p.ch) (w':=x) ?_ (hK _ _ ⟨_,_,_,_,_,_,_,_,_,_,_,_,_,_,_,_,_,_,_,_,_,_,_,_,_,_,_,rfl,rfl,{h with p9:=fun _=>rfl}⟩);rw[h.p8 rfl];go_simp
  ·obtain rfl:l7=false:=hl;obtain rfl:l3=true:=aC hi 3;obtain rfl:l4=true:=aC hi 4;obtain rfl:l6=true:=aC hi 6;obtain rfl:l12=false:=nf h.d12_7 rfl;obtain rfl:l13=false:=nf h.d13_7 rfl;obtain⟨v',y,hr,hp⟩:=h.aT.append (P:=prog) (i0:=1) rfl 28 28 i1 _ 48 underlying28 hi1 hz1 hy1 hx1 rfl (by decide) p.ha D.az.length p.ch (D.az.flatMap aG) (eP aG 4 gH D.az) (fun e=>⟨kJ HL.az.row e,k2 e⟩) (Below.news gH (by decide) h.aT.below HL.az.row) (kP D.az) (by unfold maxLen;omega) (by omega);rw[Nat.zero_add,List.nil_append] at hp;refine aK (v:=v') (w':=y) ?_ (hK _ _ ⟨_,_,_,_,_,_,_,_,_,_,_,_,_,_,_,_,_,_,_,_,_,_,_,_,_,_,_,rfl,rfl,{h with q15:=(fun q=>by cases q),aT:=(hp),d7_4:=fun _=>rfl,d12_7:=fun _=>rfl,d13_7:=fun _=>rfl}⟩);exact eQ rfl (by rfl) (h.p9 rfl) hr
  ·obtain rfl:l8=false:=hl;obtain rfl:l11=false:=nf h.d11_8 rfl;refine aK (v:=af (some ⟨x.heap.size,0,none⟩) 0 0) (w':=x.alloc (.cells #[] 112)) ?_ (hK _ _ ⟨_,_,_,_,_,_,_,_,_,_,_,_,_,_,_,_,_,_,_,_,_,_,_,_,_,_,_,rfl,rfl,{h with aT:=(h.aT.newRow (i:=2) rfl 112 2),d11_8:=fun _=>rfl}⟩);go_simp
  ·obtain rfl:l9=false:=hl;refine aK (v:=ai (some ⟨w.heap.size,2,none⟩)) (w':=x) ?_ (hK _ _ ⟨_,_,_,_,_,_,_,_,_,_,_,_,_,_,_,_,_,_,_,_,_,_,_,_,_,_,_,rfl,rfl,{h with p12:=fun _=>rfl}⟩);go_simp
  ·obtain rfl:l10=false:=hl;obtain rfl:l9=true:=aC hi 9;have c0:x.cell? ⟨w.heap.size,2,none⟩=some (af p.sa D.aH.length p.cs):=(h.aT.aB (i:=3) rfl).c 2 _ rfl;refine aK (v:=af p.sa D.aH.length p.cs) (w':=x) ?_ (hK _ _ ⟨_,_,_,_,_,_,_,_,_,_,_,_,_,_,_,_,_,_,_,_,_,_,_,_,_,_,_,rfl,rfl,{h with p13:=fun _=>rfl}⟩);rw[h.p12 rfl];go_simp
  ·obtain rfl:l11=false:=hl;obtain rfl:l7=true:=aC hi 7;obtain rfl:l8=true:=aC hi 8;obtain rfl:l10=true:=aC hi 10;obtain rfl:l12=false:=nf h.d12_11 rfl;obtain rfl:l13=false:=nf h.d13_11 rfl;obtain⟨v',y,hr,hp⟩:=h.aT.append (P:=prog) (i0:=2) rfl 29 29 i2 _ 16 underlying29 hi2 hz2 hy2 hx2 rfl (by decide) p.sa D.aH.length p.cs (D.aH.flatMap aM) (eP aM 2 kC D.aH) (fun e=>⟨kJ HL.aH.row e,k3 e⟩) (Below.news kC (by decide) h.aT.below HL.aH.row) (IY D.aH) (by unfold maxLen;omega) (by omega);rw[Nat.zero_add,List.nil_append] at hp;refine aK (v:=v') (w':=y) ?_ (hK _ _ ⟨_,_,_,_,_,_,_,_,_,_,_,_,_,_,_,_,_,_,_,_,_,_,_,_,_,_,_,rfl,rfl,{h with q15:=(fun q=>by cases q),aT:=(hp),d11_8:=fun _=>rfl,d12_11:=fun _=>rfl,d13_11:=fun _=>rfl}⟩);exact eQ rfl (by rfl) (h.p13 rfl) hr
  ·obtain rfl:l12=false:=hl;obtain rfl:l3=true:=aC hi 3;obtain rfl:l7=true:=aC hi 7;obtain rfl:l11=true:=aC hi 11;obtain rfl:l13=false:=nf h.d13_12 rfl;obtain⟨a1,c1,e1⟩:=bv (h.aT.rowAt (i:=0) rfl);obtain⟨a2,c2,e2⟩:=bv (h.aT.rowAt (i:=1) rfl);obtain⟨a3,c3,e3⟩:=bv (h.aT.rowAt (i:=2) rfl);refine aK (v:=aj #[u6,u10,u14]) (w':=x) ?_ (hK _ _ ⟨_,_,_,_,_,_,_,_,_,_,_,_,_,_,_,_,_,_,_,_,_,_,_,_,_,_,_,rfl,rfl,{h with q15:=(fun _=>rfl),d12_3:=fun _=>rfl,d12_7:=fun _=>rfl,d12_11:=fun _=>rfl,d13_12:=fun _=>rfl}⟩);rw[e1,e2,e3];go_simp
  ·obtain rfl:l13=false:=hl;obtain rfl:l0=true:=aC hi 0;obtain rfl:l1=true:=aC hi 1;obtain rfl:l2=true:=aC hi 2;obtain rfl:l3=true:=aC hi 3;obtain rfl:l4=true:=aC hi 4;obtain rfl:l5=true:=aC hi 5;obtain rfl:l6=true:=aC hi 6;obtain rfl:l7=true:=aC hi 7;obtain rfl:l8=true:=aC hi 8;obtain rfl:l9=true:=aC hi 9;obtain rfl:l10=true:=aC hi 10;obtain rfl:l11=true:=aC hi 11;obtain rfl:l12=true:=aC hi 12;obtain⟨a1,c1,e1⟩:=bv (h.aT.rowAt (i:=0) rfl);obtain⟨a2,c2,e2⟩:=bv (h.aT.rowAt (i:=1) rfl);obtain⟨a3,c3,e3⟩:=bv (h.aT.rowAt (i:=2) rfl);have A:=h.aT.aB (i:=4) rfl;have t0:=A.c 0 _ rfl;have f0:=A.f 0;have t1:=A.c 1 _ rfl;have f1:=A.f 1;have t2:=A.c 2 _ rfl;have f2:=A.f 2;refine eB (w':=((x.setCell ⟨w.heap.size+1,0,none⟩ u6).setCell ⟨w.heap.size+1,1,none⟩ u10).setCell ⟨w.heap.size+1,2,none⟩ u14) ?_ (hK _ _ ⟨_,_,_,_,_,_,_,_,_,_,_,_,_,_,_,_,_,_,_,_,_,_,_,_,_,_,_,rfl,rfl,{h with aT:=((((h.aT.aQ (i:=4) rfl 0 u6 (by simp)).aQ (i:=4) rfl 1 u10 (by simp)).aQ (i:=4) rfl 2 u14 (by simp))),d13_12:=fun _=>rfl,d13_3:=fun _=>rfl,d13_7:=fun _=>rfl,d13_11:=fun _=>rfl}⟩);rw[h.q15 rfl,e1,e2,e3];go_simp
 ·rintro L act x⟨l0,l1,l2,l3,l4,l5,l6,l7,l8,l9,l10,l11,l12,l13,u3,u4,u5,u6,u7,u8,u9,u10,u11,u12,u13,u14,u15,rfl,rfl,h⟩ hr;have hall:=eZ hr rfl (by decide);have t0:l0=true:=hall 0 (by decide);have t1:l1=true:=hall 1 (by decide);have t2:l2=true:=hall 2 (by decide);have t3:l3=true:=hall 3 (by decide);have t4:l4=true:=hall 4 (by decide);have t5:l5=true:=hall 5 (by decide);have t6:l6=true:=hall 6 (by decide);have t7:l7=true:=hall 7 (by decide);have t8:l8=true:=hall 8 (by decide);have t9:l9=true:=hall 9 (by decide);have t10:l10=true:=hall 10 (by decide);have t11:l11=true:=hall 11 (by decide);have t12:l12=true:=hall 12 (by decide);have t13:l13=true:=hall 13 (by decide);subst t0 t1 t2 t3 t4 t5 t6 t7 t8 t9 t10 t11 t12 t13;clear hall hr;have hp:=h.aT;clear h;obtain⟨a1,c1,e1,s1,hp1⟩:=hp.iT mq (i:=0) rfl;obtain⟨a2,c2,e2,s2,hp2⟩:=hp1.iT gH (i:=1) rfl;obtain⟨a3,c3,e3,s3,hp3⟩:=hp2.iT kC (i:=2) rfl;subst e1 e2 e3;have HQ:=hide hp3;have z_:=hp3.aB (i:=4) rfl;have g0_:=z_.c 0 _ rfl;have g1_:=z_.c 1 _ rfl;have g2_:=z_.c 2 _ rfl;clear hp hp1 hp2 hp3 z_;refine hK0 _ _ ?_;go_wp2;exact bodyPost_ret (v:=eD ⟨a1,c1,a2,c2,a3,c3⟩ D) (by simp[results,results74,go_sem,g0_,g1_,g2_,eD]) rfl ⟨⟨a1,c1,a2,c2,a3,c3⟩,rfl,⟨s1,s2,s3⟩,((HQ.drop (i:=4) rfl).drop (i:=3) rfl).cast (by simp[bC])⟩
end Go.Proofs.YtdbmmdecclalgaaGreatDoor
