import Derived.Test.YtdbmmdecclalgaaGreatDoorQae
import Derived.Deep.Slices
import Derived.Test.YtdbmmdecclalgaaGreatDoorQaf
import Derived.Test.YtdbmmdecclalgaaGreatDoorQag
namespace Go.Proofs.YtdbmmdecclalgaaGreatDoor
open Go.Value renaming int → ae, slice → af, string → ag, agg → aj
open Go.IntKind renaming i64 → au
open Go.Proofs.Tryz Go.ChangeShapes Go.WideShapes Go.ChangeAt Go.RowKit
set_option linter.unusedVariables false
set_option maxRecDepth 100000
set_option maxHeartbeats 8000000
theorem Df{A:Type}{Q:Nat->A->Prop}:∀{n:Nat},(∀i,i<n->∃x,Q i x)->∃l:List A,l.length=n/\∀i (hi:i<l.length),Q i l[i]
 | 0,_=>⟨[],rfl,fun i hi=>by simp at hi⟩
 | n+1,h=>by
  obtain⟨l,hl,hq⟩:=Df (n:=n) (fun i hi=>h i (by omega));obtain⟨x,hx⟩:=h n (by omega);refine⟨l++[x],by simp[hl],fun i hi=>?_⟩;rcases Nat.lt_or_ge i l.length with h1|h1
  ·rw[List.getElem_append_left h1];exact hq i h1
  ·have:i=l.length:=by simp at hi;omega
   subst this;simp only[List.getElem_concat_length];rw[hl];exact hx
theorem Bz{w:World}{a:Addr}{v:Value}(h:w.cell? a=some v):a=⟨a.block,a.off,none⟩:=by
 obtain⟨b,o,s⟩:=a
 cases s with
 | none=>rfl
 | some x =>
  unfold World.cell? at h;simp only at h;split at h<;>simp at h
theorem wZ{b off i j:Nat}:((⟨b,off,none⟩:Addr).add i).add j=⟨b,off+i+j,none⟩:=by
 unfold Addr.add;by_cases hi:i=0<;>by_cases hj:j=0<;>simp[hi,hj,Nat.add_assoc]
theorem Uy:prog.cellsOf 9=1:=by kernel_rfl
theorem P8{A:Type}(l:List A)(h:l.length=4):∃a b c d,l=[a,b,c,d]:=by
 match l,h with
 | [a,b,c,d],_=>exact⟨a,b,c,d,rfl⟩
theorem P9{A:Type}(l:List A)(h:l.length=3):∃a b c,l=[a,b,c]:=by
 match l,h with
 | [a,b,c],_=>exact⟨a,b,c,rfl⟩
theorem Qa{A:Type}(l:List A)(h:l.length=2):∃a b,l=[a,b]:=by
 match l,h with
 | [a,b],_=>exact⟨a,b,rfl⟩
section
variable {H:Type} {enc:TypeId×Value->H} {W:World} {base:Nat} {sp:Nat->Bool} {held:Bool}
end
theorem cB{P:Program}{F:List Nat}{w x:World}{S:List (List Rs)}{ops:Array Oper}{rest:List Oper}{o:Oper}{a:Act}{Q:Exit->Act->World->Prop}(h:Pool F w S x){i0:Nat}{T:TypeId}{size n:Nat}{v:Value}{xs:List Value}(hs:S[i0]?=some [row T size v n xs])(hgd:o.guard=none)(s xo:Operand)(t:TypeId)
  (ho:o.op=.call {callee:=.builtin .append,args:=#[s,xo],argTypes:=#[t,t]})
  (i:TypeInfo) (z:Value) (bytes:Nat) (ht:P.underlying t=some (.slice T)) (hi:P.info? T=some i) (hz:i.zero=some z)
  (hsize:i.size=size) (hby:i.bytes=bytes) (hzs:z.cells.size=size) (hsz:0<size) (hv:a.eval s=v)
  (ao:Option Addr) (m c:Nat) (news:List Value) (hx:a.eval xo=af ao m c) (hl:news.length=m*size) (hnone:ao=none->m=0/\c=0) (hnews:∀ad,ao=some ad->∀j u,news[j]?=some u->x.cell? (ad.add j)=some u) (h1:∀u∈news,u.oneCell'=true)
  (h63:n+m<=maxLen) (hbytes:(n+m)*bytes<=140737488355328)
  (k:∀v' y,Pool F w (S.set i0 [row T size v' (n+m) (xs++news)]) y->wpList P ops Q rest (a.put o.dst v') y) :
  wpList P ops Q (o::rest) a x:=by
 refine wpList_plain hgd fun K hK=>?_
 obtain⟨v',y,hr,hp⟩:=h.append (P:=P) hs t o.type i z bytes ht hi hz hsize hby hzs hsz ao m c news hl hnone hnews h1 h63 hbytes;unfold Oper.wp;rw[eQ ho hv hx hr];exact hK _ _ (k v' y hp)
theorem cK{P:Program}{f:Func}{Q:Ending->World->Prop}{e:Exit}{a:Act}{w:World}(h:∀W,W=w->bodyPost P f Q e a W):bodyPost P f Q e a w:=h w rfl
theorem fP{P:Program}{c:Code}{Q:Exit->Act->World->Prop}{a:Act}{w:World}(h:∀W,W=w->c.wp P Q a W):c.wp P Q a w:=h w rfl
theorem jH{P:Program}{ops:Array Oper}{Q:Exit->Act->World->Prop}{l:List Oper}{a:Act}{w:World}(h:∀W,W=w->wpList P ops Q l a W):wpList P ops Q l a w:=h w rfl
theorem Pool.uT{F:List Nat}{w x:World}{S:List (List Rs)}(h:Pool F w S x){i:Nat}(hi:S[i]?=some [])(q:Nat)(cur:List Value)(T:TypeId):Pool F w (S.set i [blk x.heap.size cur]) ((x.drewN q).alloc (.cells cur.toArray T)):=by
 have e:(x.drewN q).heap.size=x.heap.size:=by simp
 have r:=(h.keep (dG x q)).aY hi cur T;rwa [e] at r
theorem info_parts{P:Program}{T:TypeId}{z:Value}{s b:Nat}(h:(P.info? T).map (fun i=>(i.zero,i.size,i.bytes))=some (some z,s,b)):∃i,P.info? T=some i/\i.zero=some z/\i.size=s/\i.bytes=b:=by
 rw[Option.map_eq_some_iff] at h;obtain⟨i,q1,q2⟩:=h;simp only[Prod.mk.injEq] at q2;exact⟨i,q1,q2.1,q2.2.1,q2.2.2⟩
def JE(p:LP)(D:bM)(c:Cm)(w:World)(e:Ending)(w':World):Prop:=∃(a:Option Addr)(k:Nat),e=.returned (.tuple #[aj #[af a (kW D c).1.aI.length k,af p.ha D.az.length p.ch,af p.sa D.aH.length p.cs],ae au (kW D c).2])/\Below w.heap.size w w'/\((kW D c).2≠0->a=p.aa/\k=p.ca)/\((kW D c).2=0->II a k (kW D c).1.aI.length/\Pool [] w [[bA 4 aL a k (kW D c).1.aI]] w')
theorem jL{w:World}{a:Option Addr}{l:List bF}(h:bu 4 aL w a l)(i:Nat)(hi:i<l.length):∃b off,a=some ⟨b,off,none⟩/\b<w.heap.size/\w.cell? ⟨b,off+i*4,none⟩=some (ag l[i].name)/\w.cell? ⟨b,off+i*4+1,none⟩=some (ag l[i].cur)/\w.cell? ⟨b,off+i*4+2,none⟩=some (ae au l[i].bB)/\w.cell? ⟨b,off+i*4+3,none⟩=some (ae au l[i].aS):=by
 obtain⟨b,off,e,hb,hc⟩:=h i hi;exact⟨b,off,e,hb,hc 0 _ rfl,hc 1 _ rfl,hc 2 _ rfl,hc 3 _ rfl⟩
theorem pU(x:bF):∀u∈aL x,u.oneCell'=true:=fun u hu=>by
 simp only[aL,List.mem_cons,List.not_mem_nil,or_false] at hu;rcases hu with rfl|rfl|rfl|rfl<;>rfl
theorem Jl{l:List bF}{x:bF}{k:Nat}(hk:k<=l.length)(h1:∀j (hj:j<l.length),j<k->F4 x.name l[j].name=false)(h2:∀hj:k<l.length,F4 x.name l[k].name=true):qz l x=l.take k++(x::l.drop k):=by
 unfold qz
 induction l generalizing k with
 | nil=>simp at hk;subst hk;simp
 | cons y l ih =>
  cases k with
  | zero =>
   have:=h2 (by simp);simp only[List.getElem_cons_zero] at this;simp[this]
  | succ k =>
   have h0:=h1 0 (by simp) (by omega);simp only[List.getElem_cons_zero] at h0;have:=ih (k:=k) (by simpa using hk) (fun j hj hjk=>by have:=h1 (j+1) (by simpa using hj) (by omega);simpa using this) (fun hj=>by have:=h2 (by simpa using hj);simpa using this);simp[h0,this]
def xe(l:List bF)(x:bF)(d:Bool)(k:Nat)(C:List bF):Prop:=if d then C++l.drop k=qz l x else C=l.take k/\∀j (hj:j<l.length),j<k->F4 x.name l[j].name=false
theorem zT(l:List bF)(x:bF):(qz l x).length=l.length+1:=by
 unfold qz;have:=congrArg List.length (List.takeWhile_append_dropWhile (p:=fun y:bF=>!F4 x.name y.name) (l:=l));simp only[List.length_append,List.length_cons] at this⊢;omega
theorem xe.len{l:List bF}{x:bF}{d:Bool}{k:Nat}{C:List bF}(h:xe l x d k C)(hk:k<=l.length):C.length=if d then k+1 else k:=by
 unfold xe at h;cases d
 ·simp only[Bool.false_eq_true,if_false] at h⊢;rw[h.1];simp;omega
 ·simp only[if_true] at h⊢;have:=congrArg List.length h;rw[zT] at this;simp at this;omega
theorem pM(C:List bF)(x:bF):C.flatMap aL++aL x=(C++[x]).flatMap aL:=by simp
theorem Ha(p:LP)(D:bM)(c:Cm)(w:World)(n1:D.aI.length<=1048576)(h:iO w p.aa p.ha p.sa D) :
  Calls prog 78 #[eD p D,c.v] w fun e w'=>JE p D c w e w':=by
 have HL:=hide h;clear h;obtain⟨i0,hi0,hz0,hz1,hz2⟩:=info_parts vk;obtain⟨W3,hW3⟩:∃W3,W3=((w.alloc (.cells #[af p.aa D.aI.length p.ca,af p.ha D.az.length p.ch,af p.sa D.aH.length p.cs] 31)).alloc (.cells #[ae au c.id,ae au c.kind,ag c.fr,ag c.to,ae au c.am,ae au c.ref] 88)).alloc (.cells #[af none 0 0,af none 0 0,af none 0 0] 31):=⟨_,rfl⟩;have HP0:Hid (Pool [] w [[blk w.heap.size (bJ p D)],[blk (w.heap.size+1) c.cells],[blk (w.heap.size+1+1) [af none 0 0,af none 0 0,af none 0 0]],[],[],[]] W3):=hide (by
  have p1:=(Pool.start w [[],[],[],[],[],[]] rfl).aY (i:=0) rfl (bJ p D) 31;have s1:(w.alloc (.cells (bJ p D).toArray 31)).heap.size=w.heap.size+1:=by simp
  have p2:=p1.aY (i:=1) rfl c.cells 88;have s2:((w.alloc (.cells (bJ p D).toArray 31)).alloc (.cells c.cells.toArray 88)).heap.size=w.heap.size+1+1:=by simp
  have p3:=p2.aY (i:=2) rfl [af none 0 0,af none 0 0,af none 0 0] 31;rw[s2,s1] at p3;rw[hW3];exact p3)
 have HW3:Hid (_=W3):=hide hW3.symm;clear hW3;unfold eD Cm.v;go_enter func78,ntmps78;go_upto_region 1 with fail
 rw[HW3.out];have d0:=(HP0.aB (i:=0) rfl).c 0 _ rfl;have d1:=(HP0.aB (i:=0) rfl).c 1 _ rfl;have d2:=(HP0.aB (i:=0) rfl).c 2 _ rfl;have c2:=(HP0.aB (i:=1) rfl).c 2 _ rfl;go_wp2_with fail;refine(lF p.aa D.aI p.ca _ _ c.fr W3 n1 (HL.aI.below HP0.below)).mono ?_;rintro e w4⟨hb4,hfind⟩;have HP4:=hide (HP0.keep hb4);clear hb4 HP0 d0 d1 d2 c2;have d0:=(HP4.aB (i:=0) rfl).c 0 _ rfl;have d1:=(HP4.aB (i:=0) rfl).c 1 _ rfl;have d2:=(HP4.aB (i:=0) rfl).c 2 _ rfl;have r0:=(HP4.aB (i:=2) rfl).c 0 _ rfl;have r1:=(HP4.aB (i:=2) rfl).c 1 _ rfl;have r2:=(HP4.aB (i:=2) rfl).c 2 _ rfl;have f0:=(HP4.aB (i:=2) rfl).f 0;have f1:=(HP4.aB (i:=2) rfl).f 1;have f2:=(HP4.aB (i:=2) rfl).f 2;rcases hfind with ⟨i,hi,hn,hfirst,rfl⟩|⟨hno,rfl⟩
 ·have HM:Hid (kW D c=(D,4)):=hide (by unfold kW;rw[sI hi hn hfirst]);have hi':(0:Int)<=(i:Int):=by omega
  have HQ:=hide (((HP4.aQ (i:=2) rfl 0 (af p.aa D.aI.length p.ca) (by simp)).aQ (i:=2) rfl 1 (af p.ha D.az.length p.ch) (by simp)).aQ (i:=2) rfl 2 (af p.sa D.aH.length p.cs) (by simp));clear hn hfirst;go_wp2;refine cK (fun W9 hW9=>?_);have hq:=HQ.out;rw[<-hW9] at hq;have z_:=hq.aB (i:=2) rfl;have g0_:=z_.c 0 _ rfl;have g1_:=z_.c 1 _ rfl;have g2_:=z_.c 2 _ rfl;exact bodyPost_ret (v:=.tuple #[eD p D,ae au 4]) (by simp[results,results78,go_sem,g0_,g1_,g2_,eD]) rfl ⟨p.aa,p.ca,by rw[HM.out];rfl,hq.below,fun _=>⟨rfl,rfl⟩,fun q=>by rw[HM.out] at q;cases q⟩
 ·have HM:Hid (kW D c=(⟨qz D.aI ⟨c.fr,c.to,c.am,0⟩,D.az,D.aH⟩,0)):=hide (by unfold kW;rw[pI hno]);clear hno f0 f1 f2 r0 r1 r2 d1 d2 d0;obtain⟨x,hx⟩:∃x:bF,x=⟨c.fr,c.to,c.am,0⟩:=⟨_,rfl⟩;have HX:=hide hx;clear hx;go_upto_region 4 with fail
  refine fP (fun W5 hW5=>?_);have HP5:Hid (Pool [] w [[blk w.heap.size (bJ p D)],[blk (w.heap.size+1) c.cells],[blk (w.heap.size+1+1) [af none 0 0,af none 0 0,af none 0 0]],[row 106 4 (af (some ⟨w4.heap.size,0,none⟩) 0 0) 0 []],[],[]] W5):=hide (by rw[hW5];exact HP4.newRow (i:=3) rfl 106 4);have c2:=(HP5.aB (i:=1) rfl).c 2 _ rfl;have c3:=(HP5.aB (i:=1) rfl).c 3 _ rfl;have c4:=(HP5.aB (i:=1) rfl).c 4 _ rfl;clear hW5 HP4;go_upto_region 5 with fail
  refine fP (fun W6 hW6=>?_);obtain⟨B,hB⟩:∃B,B=W5.heap.size:=⟨_,rfl⟩;have HP6:Hid (Pool [] w [[blk w.heap.size (bJ p D)],[blk (w.heap.size+1) c.cells],[blk (w.heap.size+1+1) [af none 0 0,af none 0 0,af none 0 0]],[row 106 4 (af (some ⟨w4.heap.size,0,none⟩) 0 0) 0 []],[blk B (aL x)],[]] W6):=hide (by
   rw[hW6,hB];have q:=HP5.aY (i:=4) rfl (aL x) 106;rw[HX.out] at q⊢;exact q)
  clear hW6 HP5 c2 c3 c4;rw[<-hB];have HBB:=hide hB;clear hB;obtain⟨v0,hv0⟩:∃v0,v0=af (some ⟨w4.heap.size,0,none⟩) 0 0:=⟨_,rfl⟩;go_wp2_with fail;go_loopw [6,8,9] (fun lv dn i wr=>∃(k:Nat)(d:Bool)(C:List bF),k<=D.aI.length/\i=ae au (k:Int)/\dn=.bool d/\xe D.aI x d k C/\Hid (Pool [] w [[blk w.heap.size (bJ p D)],[blk (w.heap.size+1) c.cells],[blk (w.heap.size+1+1) [af none 0 0,af none 0 0,af none 0 0]],[row 106 4 lv C.length (C.flatMap aL)],[blk B (aL x)],[]] wr)) (fun lv dn i wr=>D.aI.length-(intOf i).toNat)
  case atStart=>exact⟨0,false,[],Nat.zero_le _,rfl,rfl,by simp[xe],HP6⟩
  case round =>
   obtain⟨k,d,C,hk,rfl,rfl,hop,HP⟩:=hrel;have HO:=hide hop;have hcl:C.length<=1048577:=by have:=hop.len hk;split at this<;>omega
   clear hop HP6 hv0;have d0:=(HP.aB (i:=0) rfl).c 0 _ rfl;by_cases hlt:k<D.aI.length
   ·have hlt':(k:Int)<(D.aI.length:Int):=by omega
    obtain⟨b,off,ea,hb,e0,e1,e2,e3⟩:=jL (HL.aI.row.below HP.below) k hlt;have x0:=(HP.aB (i:=4) rfl).c 0 _ rfl;have hC:C.length+2<=1048580:=by omega
    rw[ea] at d0;clear ea;cases d
    ·cases hq:(!Op.bytesLess (D.aI[k]).name.toList x.name.toList&&!((D.aI[k]).name.toList==x.name.toList))
     ·have HO2:Hid (xe D.aI x false (k+1) (C++[D.aI[k]])):=hide (by
       have o:=HO.out;simp only[xe,Bool.false_eq_true,if_false] at o⊢;refine⟨by rw[o.1,<-dX _ _ hlt],fun j hj hjk=>?_⟩;rcases Nat.lt_or_ge j k with h|h
       ·exact o.2 j hj h
       ·obtain rfl:j=k:=by omega
        exact hq)
      go_wp2_with fail;go_quiet (fail);go_wp2_with (first|(at_builtin;refine bI.mk ?_)|fail);refine bI.mk' ?_;refine jH (fun Y1 hY1=>?_);have HY1:Hid (Pool [] w [[blk w.heap.size (bJ p D)],[blk (w.heap.size+1) c.cells],[blk (w.heap.size+1+1) [af none 0 0,af none 0 0,af none 0 0]],[row 106 4 u6 (C).length ((C).flatMap aL)],[blk B (aL x)],[blk wr.heap.size (aL D.aI[k])]] Y1):=hide (by rw[hY1];exact HP.uT (i:=5) rfl _ (aL D.aI[k]) 106);clear hY1;refine cB HY1.out (i0:=3) rfl rfl _ _ 27 rfl i0 _ 48 underlying27 hi0 hz0 hz1 hz2 rfl (by decide) rfl (some ⟨wr.heap.size,0,none⟩) 1 1 (aL D.aI[k]) rfl rfl (fun e=>by cases e) (gJ (HY1.aB (i:=5) rfl)) (pU D.aI[k]) (by unfold maxLen;omega) (by omega) ?_;intro v1 y1 hp1;have HP1:Hid (Pool [] w [[blk w.heap.size (bJ p D)],[blk (w.heap.size+1) c.cells],[blk (w.heap.size+1+1) [af none 0 0,af none 0 0,af none 0 0]],[row 106 4 v1 (C++[D.aI[k]]).length ((C++[D.aI[k]]).flatMap aL)],[blk B (aL x)],[]] y1):=hide (by
       have q:=hp1.drop (i:=5) rfl;rw[pM] at q;have e:(C++[D.aI[k]]).length=(C).length+1:=by simp
       rw[e];exact q)
      clear hp1 HY1;go_wp2;exact⟨⟨k+1,false,C++[D.aI[k]],by omega,by go_num,rfl,HO2.out,HP1⟩,by simp[intOf];omega⟩
     ·have HO2:Hid (xe D.aI x true (k+1) (C++[x]++[D.aI[k]])):=hide (by
       have o:=HO.out;simp only[xe,Bool.false_eq_true,if_false,if_true] at o⊢;rw[Jl (k:=k) (by omega) o.2 (fun _=>hq),o.1];simp only[List.append_assoc,List.cons_append,List.nil_append];rw[List.getElem_cons_drop])
      have x0:=(HP.aB (i:=4) rfl).c 0 _ rfl;have x1:=(HP.aB (i:=4) rfl).c 1 _ rfl;have x2:=(HP.aB (i:=4) rfl).c 2 _ rfl;have x3:=(HP.aB (i:=4) rfl).c 3 _ rfl;go_wp2_with fail;go_quiet (fail);go_wp2_with (first|(at_builtin;refine bI.mk ?_)|fail);refine bI.mk' ?_;refine jH (fun Y2 hY2=>?_);have HY2:Hid (Pool [] w [[blk w.heap.size (bJ p D)],[blk (w.heap.size+1) c.cells],[blk (w.heap.size+1+1) [af none 0 0,af none 0 0,af none 0 0]],[row 106 4 u6 (C).length ((C).flatMap aL)],[blk B (aL x)],[blk wr.heap.size (aL x)]] Y2):=hide (by rw[hY2];exact HP.uT (i:=5) rfl _ (aL x) 106);clear hY2;refine cB HY2.out (i0:=3) rfl rfl _ _ 27 rfl i0 _ 48 underlying27 hi0 hz0 hz1 hz2 rfl (by decide) rfl (some ⟨wr.heap.size,0,none⟩) 1 1 (aL x) rfl rfl (fun e=>by cases e) (gJ (HY2.aB (i:=5) rfl)) (pU x) (by unfold maxLen;omega) (by omega) ?_;intro v2 y2 hp2;have HP2:Hid (Pool [] w [[blk w.heap.size (bJ p D)],[blk (w.heap.size+1) c.cells],[blk (w.heap.size+1+1) [af none 0 0,af none 0 0,af none 0 0]],[row 106 4 v2 (C++[x]).length ((C++[x]).flatMap aL)],[blk B (aL x)],[]] y2):=hide (by
       have q:=hp2.drop (i:=5) rfl;rw[pM] at q;have e:(C++[x]).length=(C).length+1:=by simp
       rw[e];exact q)
      clear hp2 HY2;have hC2:(C++[x]).length<=1048580:=by simp;omega
      obtain⟨b2,off2,ea2,hb2,s0,s1,s2,s3⟩:=jL (HL.aI.row.below HP2.below) k hlt;have t0:=(HP2.aB (i:=0) rfl).c 0 _ rfl;rw[ea2] at t0;clear ea2;go_wp2_with (first|(at_builtin;refine bI.mk ?_)|fail);refine bI.mk' ?_;refine jH (fun Y3 hY3=>?_);have HY3:Hid (Pool [] w [[blk w.heap.size (bJ p D)],[blk (w.heap.size+1) c.cells],[blk (w.heap.size+1+1) [af none 0 0,af none 0 0,af none 0 0]],[row 106 4 v2 ((C++[x])).length (((C++[x])).flatMap aL)],[blk B (aL x)],[blk y2.heap.size (aL D.aI[k])]] Y3):=hide (by rw[hY3];exact HP2.aY (i:=5) rfl (aL D.aI[k]) 106);clear hY3;refine cB HY3.out (i0:=3) rfl rfl _ _ 27 rfl i0 _ 48 underlying27 hi0 hz0 hz1 hz2 rfl (by decide) rfl (some ⟨y2.heap.size,0,none⟩) 1 1 (aL D.aI[k]) rfl rfl (fun e=>by cases e) (gJ (HY3.aB (i:=5) rfl)) (pU D.aI[k]) (by unfold maxLen;omega) (by omega) ?_;intro v3 y3 hp3;have HP3:Hid (Pool [] w [[blk w.heap.size (bJ p D)],[blk (w.heap.size+1) c.cells],[blk (w.heap.size+1+1) [af none 0 0,af none 0 0,af none 0 0]],[row 106 4 v3 ((C++[x])++[D.aI[k]]).length (((C++[x])++[D.aI[k]]).flatMap aL)],[blk B (aL x)],[]] y3):=hide (by
       have q:=hp3.drop (i:=5) rfl;rw[pM] at q;have e:((C++[x])++[D.aI[k]]).length=((C++[x])).length+1:=by simp
       rw[e];exact q)
      clear hp3 HY3;go_wp2;exact⟨⟨k+1,true,C++[x]++[D.aI[k]],by omega,by go_num,rfl,HO2.out,HP3⟩,by simp[intOf];omega⟩
    ·have HO2:Hid (xe D.aI x true (k+1) (C++[D.aI[k]])):=hide (by
      have o:=HO.out;simp only[xe,if_true] at o⊢;rw[<-o];simp only[List.append_assoc,List.cons_append,List.nil_append];rw[List.getElem_cons_drop])
     go_wp2_with fail;go_quiet (fail);go_wp2_with (first|(at_builtin;refine bI.mk ?_)|fail);refine bI.mk' ?_;refine jH (fun Y4 hY4=>?_);have HY4:Hid (Pool [] w [[blk w.heap.size (bJ p D)],[blk (w.heap.size+1) c.cells],[blk (w.heap.size+1+1) [af none 0 0,af none 0 0,af none 0 0]],[row 106 4 u6 (C).length ((C).flatMap aL)],[blk B (aL x)],[blk wr.heap.size (aL D.aI[k])]] Y4):=hide (by rw[hY4];exact HP.uT (i:=5) rfl _ (aL D.aI[k]) 106);clear hY4;refine cB HY4.out (i0:=3) rfl rfl _ _ 27 rfl i0 _ 48 underlying27 hi0 hz0 hz1 hz2 rfl (by decide) rfl (some ⟨wr.heap.size,0,none⟩) 1 1 (aL D.aI[k]) rfl rfl (fun e=>by cases e) (gJ (HY4.aB (i:=5) rfl)) (pU D.aI[k]) (by unfold maxLen;omega) (by omega) ?_;intro v4 y4 hp4;have HP4:Hid (Pool [] w [[blk w.heap.size (bJ p D)],[blk (w.heap.size+1) c.cells],[blk (w.heap.size+1+1) [af none 0 0,af none 0 0,af none 0 0]],[row 106 4 v4 (C++[D.aI[k]]).length ((C++[D.aI[k]]).flatMap aL)],[blk B (aL x)],[]] y4):=hide (by
      have q:=hp4.drop (i:=5) rfl;rw[pM] at q;have e:(C++[D.aI[k]]).length=(C).length+1:=by simp
      rw[e];exact q)
     clear hp4 HY4;go_wp2;exact⟨⟨k+1,true,C++[D.aI[k]],by omega,by go_num,rfl,HO2.out,HP4⟩,by simp[intOf];omega⟩
   ·have hlt':¬ (k:Int)<(D.aI.length:Int):=by omega
    obtain rfl:k=D.aI.length:=by omega
    clear d0;cases d
    ·have x0:=(HP.aB (i:=4) rfl).c 0 _ rfl;have x1:=(HP.aB (i:=4) rfl).c 1 _ rfl;have x2:=(HP.aB (i:=4) rfl).c 2 _ rfl;have x3:=(HP.aB (i:=4) rfl).c 3 _ rfl;have d0:=(HP.aB (i:=0) rfl).c 0 _ rfl;go_wp2_with (first|(at_builtin;refine bI.mk ?_)|fail);refine bI.mk' ?_;refine jH (fun Y5 hY5=>?_);have HY5:Hid (Pool [] w [[blk w.heap.size (bJ p D)],[blk (w.heap.size+1) c.cells],[blk (w.heap.size+1+1) [af none 0 0,af none 0 0,af none 0 0]],[row 106 4 u6 (C).length ((C).flatMap aL)],[blk B (aL x)],[blk wr.heap.size (aL x)]] Y5):=hide (by rw[hY5];exact HP.aY (i:=5) rfl (aL x) 106);clear hY5;refine cB HY5.out (i0:=3) rfl rfl _ _ 27 rfl i0 _ 48 underlying27 hi0 hz0 hz1 hz2 rfl (by decide) rfl (some ⟨wr.heap.size,0,none⟩) 1 1 (aL x) rfl rfl (fun e=>by cases e) (gJ (HY5.aB (i:=5) rfl)) (pU x) (by unfold maxLen;omega) (by omega) ?_;intro v5 y5 hp5;have HP5:Hid (Pool [] w [[blk w.heap.size (bJ p D)],[blk (w.heap.size+1) c.cells],[blk (w.heap.size+1+1) [af none 0 0,af none 0 0,af none 0 0]],[row 106 4 v5 (C++[x]).length ((C++[x]).flatMap aL)],[blk B (aL x)],[]] y5):=hide (by
      have q:=hp5.drop (i:=5) rfl;rw[pM] at q;have e:(C++[x]).length=(C).length+1:=by simp
      rw[e];exact q)
     clear hp5 HY5;obtain⟨E,hE⟩:∃E,E=C++[x]:=⟨_,rfl⟩;rw[<-hE] at HP5;have HEE:=hide hE;clear hE;obtain⟨a9,k9,e9,s9,hq9⟩:=HP5.iT mq (i:=3) rfl;have HR:=hide hq9;subst e9;clear hq9 HP5;have HE:Hid (E=qz D.aI x):=hide (by (rw[HEE.out];have o:=HO.out;simp only[xe,Bool.false_eq_true,if_false] at o;rw[Jl (k:=D.aI.length) (Nat.le_refl _) o.2 (fun q=>absurd q (by omega)),o.1];simp));go_upto_region 15 with fail
     refine fP (fun WA hWA=>?_);have HRA:Hid (Pool [] w [[blk w.heap.size (bJ p D)],[blk (w.heap.size+1) c.cells],[blk (w.heap.size+1+1) [af none 0 0,af none 0 0,af none 0 0]],[bA 4 aL a9 k9 E],[blk B (aL x)],[]] WA):=hide (by rw[hWA];exact HR.out);clear hWA HR;have d0:=(HRA.aB (i:=0) rfl).c 0 _ rfl;have fd0:=(HRA.aB (i:=0) rfl).f 0;go_upto_region 16 with fail
     refine fP (fun WB hWB=>?_);have HRB:Hid (Pool [] w [[blk w.heap.size [af a9 E.length k9,af p.ha D.az.length p.ch,af p.sa D.aH.length p.cs]],[blk (w.heap.size+1) c.cells],[blk (w.heap.size+1+1) [af none 0 0,af none 0 0,af none 0 0]],[bA 4 aL a9 k9 E],[blk B (aL x)],[]] WB):=hide (by rw[hWB];exact HRA.aQ (i:=0) rfl 0 _ (by simp[bJ]));clear hWB HRA d0 fd0;have d0:=(HRB.aB (i:=0) rfl).c 0 _ rfl;have d1:=(HRB.aB (i:=0) rfl).c 1 _ rfl;have d2:=(HRB.aB (i:=0) rfl).c 2 _ rfl;have r0:=(HRB.aB (i:=2) rfl).c 0 _ rfl;have r1:=(HRB.aB (i:=2) rfl).c 1 _ rfl;have r2:=(HRB.aB (i:=2) rfl).c 2 _ rfl;have f0:=(HRB.aB (i:=2) rfl).f 0;have f1:=(HRB.aB (i:=2) rfl).f 1;have f2:=(HRB.aB (i:=2) rfl).f 2;have HQ:=hide (((HRB.aQ (i:=2) rfl 0 (af a9 E.length k9) (by simp)).aQ (i:=2) rfl 1 (af p.ha D.az.length p.ch) (by simp)).aQ (i:=2) rfl 2 (af p.sa D.aH.length p.cs) (by simp));go_wp2;refine cK (fun W9 hW9=>?_);have hq:=HQ.out;rw[<-hW9] at hq;have z_:=hq.aB (i:=2) rfl;have g0_:=z_.c 0 _ rfl;have g1_:=z_.c 1 _ rfl;have g2_:=z_.c 2 _ rfl;have hM:=HM.out;rw[<-HX.out,<-HE.out] at hM;exact bodyPost_ret (v:=.tuple #[aj #[af a9 E.length k9,af p.ha D.az.length p.ch,af p.sa D.aH.length p.cs],ae au 0]) (by simp[results,results78,go_sem,g0_,g1_,g2_]) rfl ⟨a9,k9,by rw[hM],hq.below,fun q=>by rw[hM] at q;exact absurd rfl q,fun _=>by
      rw[hM];exact⟨s9,((((hq.drop (i:=4) rfl).drop (i:=2) rfl).drop (i:=1) rfl).drop (i:=0) rfl).cast (by simp)⟩⟩
    ·have d0:=(HP.aB (i:=0) rfl).c 0 _ rfl;obtain⟨a9,k9,e9,s9,hq9⟩:=HP.iT mq (i:=3) rfl;have HR:=hide hq9;subst e9;clear hq9 HP;have HE:Hid (C=qz D.aI x):=hide (by (have o:=HO.out;simp only[xe,if_true] at o;simpa using o));go_upto_region 15 with fail
     refine fP (fun WA hWA=>?_);have HRA:Hid (Pool [] w [[blk w.heap.size (bJ p D)],[blk (w.heap.size+1) c.cells],[blk (w.heap.size+1+1) [af none 0 0,af none 0 0,af none 0 0]],[bA 4 aL a9 k9 (C)],[blk B (aL x)],[]] WA):=hide (by rw[hWA];exact HR.out);clear hWA HR;have d0:=(HRA.aB (i:=0) rfl).c 0 _ rfl;have fd0:=(HRA.aB (i:=0) rfl).f 0;go_upto_region 16 with fail
     refine fP (fun WB hWB=>?_);have HRB:Hid (Pool [] w [[blk w.heap.size [af a9 (C).length k9,af p.ha D.az.length p.ch,af p.sa D.aH.length p.cs]],[blk (w.heap.size+1) c.cells],[blk (w.heap.size+1+1) [af none 0 0,af none 0 0,af none 0 0]],[bA 4 aL a9 k9 (C)],[blk B (aL x)],[]] WB):=hide (by rw[hWB];exact HRA.aQ (i:=0) rfl 0 _ (by simp[bJ]));clear hWB HRA d0 fd0;have d0:=(HRB.aB (i:=0) rfl).c 0 _ rfl;have d1:=(HRB.aB (i:=0) rfl).c 1 _ rfl;have d2:=(HRB.aB (i:=0) rfl).c 2 _ rfl;have r0:=(HRB.aB (i:=2) rfl).c 0 _ rfl;have r1:=(HRB.aB (i:=2) rfl).c 1 _ rfl;have r2:=(HRB.aB (i:=2) rfl).c 2 _ rfl;have f0:=(HRB.aB (i:=2) rfl).f 0;have f1:=(HRB.aB (i:=2) rfl).f 1;have f2:=(HRB.aB (i:=2) rfl).f 2;have HQ:=hide (((HRB.aQ (i:=2) rfl 0 (af a9 (C).length k9) (by simp)).aQ (i:=2) rfl 1 (af p.ha D.az.length p.ch) (by simp)).aQ (i:=2) rfl 2 (af p.sa D.aH.length p.cs) (by simp));go_wp2;refine cK (fun W9 hW9=>?_);have hq:=HQ.out;rw[<-hW9] at hq;have z_:=hq.aB (i:=2) rfl;have g0_:=z_.c 0 _ rfl;have g1_:=z_.c 1 _ rfl;have g2_:=z_.c 2 _ rfl;have hM:=HM.out;rw[<-HX.out,<-HE.out] at hM;exact bodyPost_ret (v:=.tuple #[aj #[af a9 (C).length k9,af p.ha D.az.length p.ch,af p.sa D.aH.length p.cs],ae au 0]) (by simp[results,results78,go_sem,g0_,g1_,g2_]) rfl ⟨a9,k9,by rw[hM],hq.below,fun q=>by rw[hM] at q;exact absurd rfl q,fun _=>by
      rw[hM];exact⟨s9,((((hq.drop (i:=4) rfl).drop (i:=2) rfl).drop (i:=1) rfl).drop (i:=0) rfl).cast (by simp)⟩⟩
theorem uf{w:World}{a:Option Addr}{l:List Sn}(h:bu 2 aM w a l)(i:Nat)(hi:i<l.length):∃b off,a=some ⟨b,off,none⟩/\b<w.heap.size/\w.cell? ⟨b,off+i*2,none⟩=some (ae au l[i].id)/\w.cell? ⟨b,off+i*2+1,none⟩=some (ae au l[i].code):=by
 obtain⟨b,off,e,hb,hc⟩:=h i hi;exact⟨b,off,e,hb,hc 0 _ rfl,hc 1 _ rfl⟩
theorem Hz{ids:List Int}{x:Int}{k:Nat}(hk:k<ids.length)(h1:ids[k]=x)(h2:∀j (hj:j<ids.length),j<k->ids[j]≠x):fi ids x=some k:=by
 unfold fi;rw[List.findIdx?_eq_some_iff_getElem];exact⟨hk,by simpa using h1,fun j hj=>by have:=h2 j (by omega) hj;simpa using this⟩
theorem DF{ids:List Int}{x:Int}(h:∀j (hj:j<ids.length),ids[j]≠x):fi ids x=none:=by
 unfold fi;rw[List.findIdx?_eq_none_iff];intro y hy;obtain⟨j,hj,rfl⟩:=List.mem_iff_getElem.1 hy;have:=h j hj;simpa using this
theorem Jr{ids:List Int}{x:Int}{k:Nat}(h:fi ids x=some k):∃hk:k<ids.length,ids[k]=x:=by
 unfold fi at h;rw[List.findIdx?_eq_some_iff_getElem] at h;obtain⟨hk,h1,_⟩:=h;exact⟨hk,by simpa using h1⟩
theorem Po{ids:List Int}{x:Int}(h:fi ids x=none):∀y∈ids,y≠x:=by
 unfold fi at h;rw[List.findIdx?_eq_none_iff] at h;intro y hy;have:=h y hy;simpa using this
theorem JV{l:List Sn}{id:Int}{k:Nat}(hk:k<l.length)(h:fi (l.map Sn.id) id=some k):jN l id=(l[k]).code:=by
 unfold jN;rw[h];simp only[List.getElem?_eq_getElem hk]
theorem GJ{l:List Sn}{id:Int}(h:fi (l.map Sn.id) id=none):jN l id=-1:=by
 unfold jN;rw[h]
theorem G9(sa:Option Addr)(l:List Sn)(sc:Nat)(id:Int)(w:World)(hl:l.length<=1048576)(h:bu 2 aM w sa l) :
  Calls prog 76 #[af sa l.length sc,ae au id] w fun e w'=>e=.returned (ae au (jN l id))/\w'=w:=by
 have HC:=hide h;clear h;go_enter func76,ntmps76;go_wp2;go_loopw [5] (fun i wr=>∃k:Nat,k<=l.length/\i=ae au (k:Int)/\wr=w/\Hid (∀j (hj:j<l.length),j<k->l[j].id≠id)) (fun i wr=>l.length-(intOf i).toNat)
 case atStart=>exact⟨0,Nat.zero_le _,rfl,rfl,hide (fun j _ hj=>by omega)⟩
 case round =>
  obtain⟨k,hk,rfl,rfl,HN⟩:=hrel;by_cases hlt:k<l.length
  ·obtain⟨b,off,hpa,hb,c0,c1⟩:=uf HC.out k hlt;subst hpa;have hlt':(k:Int)<(l.length:Int):=by omega
   cases hq:((l[k]).id==id)
   ·have HS:Hid (∀j (hj:j<l.length),j<k+1->l[j].id≠id):=hide (fun j hj hjk=>by
     rcases Nat.lt_or_ge j k with h|h
     ·exact HN.out j hj h
     ·obtain rfl:j=k:=by omega
      simpa using hq)
    go_wp2;exact⟨⟨k+1,by omega,by go_num,by trivial,HS⟩,by simp[intOf];omega⟩
   ·have HE:Hid (fi (l.map Sn.id) id=some k):=hide (Hz (by simpa using hlt) (by simpa using hq) (fun j hj hjk=>by have:=HN.out j (by simpa using hj) hjk;simpa using this));go_wp2;go_ret;exact⟨by rw[JV hlt HE.out];rfl,rfl⟩
  ·have HE:Hid (fi (l.map Sn.id) id=none):=hide (DF (fun i hi=>by have:=HN.out i (by simpa using hi) (by have:i<l.length:=(by simpa using hi);omega);simpa using this));have hk':¬ (k:Int)<(l.length:Int):=by omega
   go_wp2;go_ret;exact⟨by rw[GJ HE.out];rfl,rfl⟩
theorem oH(l:List Sn):∀u∈l.flatMap aM,u.oneCell'=true:=by
 intro u hu;obtain⟨x,_,hx⟩:=List.mem_flatMap.1 hu;simp only[aM,List.mem_cons,List.not_mem_nil,or_false] at hx;rcases hx with rfl|rfl<;>rfl
theorem bU{P:Program}{w:World}{ops:Array Oper}{rest:List Oper}{o:Oper}{a:Act}{Q:Exit->Act->World->Prop}(hgd:o.guard=none)(s x:Operand)(t:TypeId)
  (ho:o.op=.call {callee:=.builtin .append,args:=#[s,x],argTypes:=#[t,t]})
  (base:Nat) (e:TypeId) (i:TypeInfo) (z:Value) (size bytes:Nat) (ht:P.underlying t=some (.slice e)) (hi:P.info? e=some i) (hz:i.zero=some z)
  (hsize:i.size=size) (hby:i.bytes=bytes) (hzs:z.cells.size=size) (hsz:0<size)
  (v:Value) (n:Nat) (xs:List Value) (hs:a.eval s=v) (hown:w.ownsRow base e size v n xs)
  (ao:Option Addr) (m c:Nat) (news:List Value) (hx:a.eval x=af ao m c) (hl:news.length=m*size) (hnone:ao=none->m=0/\c=0) (hnews:∀ad,ao=some ad->∀j u,news[j]?=some u->w.cell? (ad.add j)=some u) (h1:∀u∈news,u.oneCell'=true)
  (h63:n+m<=maxLen) (hbytes:(n+m)*bytes<=140737488355328) (hbase:base<=w.heap.size)
  (h:∀v' w',w'.ownsRow base e size v' (n+m) (xs++news)->w.grownBy w' v.ownBlock->(v'.ownBlock=v.ownBlock\/v'.ownBlock=some w.heap.size)->wpList P ops Q rest (a.put o.dst v') w') :
  wpList P ops Q (o::rest) a w:=by
 refine wpList_plain hgd fun K hK=>?_
 obtain⟨v',w',hr,h2,h3,h4⟩:=qZ (P:=P) (w:=w) base t o.type e i z size bytes ht hi hz hsize hby hzs hsz v n xs hown ao m c news hl hnone hnews h1 h63 hbytes hbase;unfold Oper.wp;rw[eQ ho hs hx hr];exact hK _ _ (h v' w' h2 h3 h4)
theorem QA{l:List Sn}{id code:Int}{k:Nat}(hk:k<=l.length)(h1:∀j (hj:j<l.length),j<k->l[j].id<id)(h2:∀hj:k<l.length,¬ l[k].id<id):kG l id code=l.take k++([⟨id,code⟩]++l.drop k):=by
 unfold kG
 induction l generalizing k with
 | nil=>simp at hk;subst hk;simp
 | cons x l ih =>
  cases k with
  | zero =>
   have:=h2 (by simp);simp only[List.getElem_cons_zero] at this;simp[this]
  | succ k =>
   have h0:=h1 0 (by simp) (by omega);simp only[List.getElem_cons_zero] at h0;have:=ih (k:=k) (by simpa using hk) (fun j hj hjk=>by have:=h1 (j+1) (by simpa using hj) (by omega);simpa using this) (fun hj=>by have:=h2 (by simpa using hj);simpa using this);simp only[List.takeWhile_cons,List.dropWhile_cons,h0,decide_true,if_true,List.take_succ_cons,List.drop_succ_cons,List.cons_append];rw[this];rfl
theorem OP(l:List Sn)(id code:Int):(kG l id code).length=l.length+1:=by
 unfold kG;have:=congrArg List.length (List.takeWhile_append_dropWhile (p:=fun x:Sn=>decide (x.id<id)) (l:=l));simp only[List.length_append,List.length_cons] at this⊢;omega
theorem bu.take{A:Type}{sz:Nat}{f:A->List Value}{w:World}{a:Option Addr}{l:List A}(h:bu sz f w a l)(k:Nat):bu sz f w a (l.take k):=by
 intro i hi;have hi':i<l.length:=by simp at hi;omega
 obtain⟨b,off,e,hb,hc⟩:=h i hi';refine⟨b,off,e,hb,?_⟩;simpa using hc
theorem bu.drop{A:Type}{sz:Nat}{f:A->List Value}{w:World}{b off:Nat}{l:List A}(h:bu sz f w (some ⟨b,off,none⟩) l)(k:Nat):bu sz f w (some ⟨b,off+k*sz,none⟩) (l.drop k):=by
 intro i hi;have hi':k+i<l.length:=by simp at hi;omega
 obtain⟨b',off',e,hb,hc⟩:=h (k+i) hi';simp only[Option.some.injEq,Addr.mk.injEq,and_true] at e;obtain⟨rfl,rfl⟩:=e;refine⟨b,off+k*sz,rfl,hb,?_⟩;intro j u hj;have:=hc j u (by simpa using hj);rwa [show off+k*sz+i*sz+j=off+(k+i)*sz+j by rw[Nat.add_mul];omega]
theorem yH{w2:World}{id code:Int}{j:Nat}{u:Value}(hj:(aM ⟨id,code⟩)[j]?=some u):(w2.alloc (.cells #[ae au id,ae au code] 112)).cell? (Addr.add ⟨w2.heap.size,0,none⟩ j)=some u:=by
 match j,hj with
 | 0,hj=>simp[aM] at hj;subst hj;exact World.cell?_alloc_at _ _ _ _ rfl
 | 1,hj=>simp[aM] at hj;subst hj;exact World.cell?_alloc_at _ _ _ _ rfl
 | n+2,hj=>simp[aM] at hj
def IJ(l:List Sn)(id code:Int)(w:World)(e:Ending)(w':World):Prop:=Below w.heap.size w w'/\∃v,e=.returned v/\w'.ownsRow w.heap.size 112 2 v (l.length+1) ((kG l id code).flatMap aM)
theorem Kv(b off:Nat)(l:List Sn)(sc:Nat)(id code:Int)(w:World)(hl:l.length<=1048576)(hsc:l.length<=sc)(h:bu 2 aM w (some ⟨b,off,none⟩) l) :
  Calls prog 81 #[af (some ⟨b,off,none⟩) l.length sc,ae au id,ae au code] w fun e w'=>IJ l id code w e w':=by
 have HC:=hide h;clear h;obtain⟨i0,hi0,hz0,hz1,hz2⟩:=info_parts um;have hu:prog.underlying 29=some (.slice 112):=by kernel_rfl
 go_enter func81,ntmps81;go_wp2;go_loopw [7] (fun i wr=>∃k:Nat,k<=l.length/\i=ae au (k:Int)/\wr=w/\Hid (∀j (hj:j<l.length),j<k->l[j].id<id)) (fun i wr=>l.length-(intOf i).toNat)
 case atStart=>exact⟨0,Nat.zero_le _,rfl,rfl,hide (fun j _ hj=>by omega)⟩
 case round =>
  obtain⟨k,hk,rfl,rfl,HN⟩:=hrel;by_cases hgo:∃hlt:k<l.length,l[k].id<id
  ·obtain⟨hlt,hq⟩:=hgo;obtain⟨b',off',hpa,hb,c0,c1⟩:=uf HC.out k hlt;simp only[Option.some.injEq,Addr.mk.injEq,and_true] at hpa;obtain⟨rfl,rfl⟩:=hpa;have hlt':(k:Int)<(l.length:Int):=by omega
   have HS:Hid (∀j (hj:j<l.length),j<k+1->l[j].id<id):=hide (fun j hj hjk=>by
    rcases Nat.lt_or_ge j k with h|h
    ·exact HN.out j hj h
    ·obtain rfl:j=k:=by omega
     exact hq)
   go_wp2;exact⟨⟨k+1,by omega,by go_num,by trivial,HS⟩,by simp[intOf];omega⟩
  ·have HE:Hid (kG l id code=l.take k++([⟨id,code⟩]++l.drop k)):=hide (QA hk HN.out (fun hj hq=>hgo ⟨hj,hq⟩));have hksc:(k:Int)<=(sc:Int):=by omega
   have hkl:(k:Int)<=(l.length:Int):=by omega
   have HF1:Hid (((l.take k).flatMap aM).length=k*2):=hide (by rw[eP aM 2 kC];simp;omega);have HF2:Hid (((l.drop k).flatMap aM).length=(l.length-k)*2):=hide (by rw[eP aM 2 kC];simp);by_cases hlt:k<l.length
   ·obtain⟨b',off',hpa,hb,c0,c1⟩:=uf HC.out k hlt;simp only[Option.some.injEq,Addr.mk.injEq,and_true] at hpa;obtain⟨rfl,rfl⟩:=hpa;have hlt':(k:Int)<(l.length:Int):=by omega
    have hq:¬ l[k].id<id:=fun hq=>hgo ⟨hlt,hq⟩
    clear hgo;go_wp2_with (first|(at_builtin;refine bI.mk ?_)|fail);refine bI.mk' ?_;refine bU rfl _ _ 29 rfl wr.heap.size 112 i0 _ 2 16 hu hi0 hz0 hz1 hz2 rfl (by decide) (af (some ⟨wr.heap.size,0,none⟩) 0 0) 0 [] rfl (World.ownsRow_made wr #[] 0 (Nat.le_refl _) (by unfold maxLen;omega) rfl) (some ⟨b,off,none⟩) k sc ((l.take k).flatMap aM) rfl HF1.out (fun e=>by cases e) (bu.jD kC (by decide) ((HC.take k).below (aF (Below.refl _ _) _))) (oH _) (by unfold maxLen;omega) (by omega) (by simp) ?_;intro v2 w2 ho2 hg2 _;have HB2:Hid (Below wr.heap.size wr w2):=hide ((aF (Below.refl _ _) _).grown hg2 (by simp) (fun j hj=>by
     simp only[Value.ownBlock,Option.some.injEq] at hj;omega))
    have HO2:Hid (w2.ownsRow wr.heap.size 112 2 v2 k ((l.take k).flatMap aM)):=hide (by simpa using ho2);clear ho2 hg2;go_wp2_with (first|(at_builtin;refine bI.mk ?_)|fail);refine bI.mk' ?_;refine bU rfl _ _ 29 rfl wr.heap.size 112 i0 _ 2 16 hu hi0 hz0 hz1 hz2 rfl (by decide) v2 k ((l.take k).flatMap aM) rfl (HO2.alloc _) (some ⟨w2.heap.size,0,none⟩) 1 1 (aM ⟨id,code⟩) rfl rfl (fun e=>by cases e) (fun ad had j u hj=>by cases had;exact yH hj) (fun u hu=>oH [⟨id,code⟩] u (by simpa using hu)) (by unfold maxLen;omega) (by omega) (by have:=HB2.size;simp;omega) ?_;intro v3 w3 ho3 hg3 _;have HB3:Hid (Below wr.heap.size wr w3):=hide ((aF HB2.out _).grown hg3 (by have:=HB2.size;simp;omega) (fun j hj=>(HO2.lt j hj).1));have HO3:Hid (w3.ownsRow wr.heap.size 112 2 v3 (k+1) ((l.take k).flatMap aM++aM ⟨id,code⟩)):=hide ho3;clear ho3 hg3;go_wp2_with (first|(at_builtin;refine bI.mk ?_)|fail);refine bI.mk' ?_;refine bU rfl _ _ 29 rfl wr.heap.size 112 i0 _ 2 16 hu hi0 hz0 hz1 hz2 rfl (by decide) v3 (k+1) ((l.take k).flatMap aM++aM ⟨id,code⟩) rfl HO3.out (some ⟨b,off+k*2,none⟩) (l.length-k) (sc-k) ((l.drop k).flatMap aM) rfl HF2.out (fun e=>by cases e) (bu.jD kC (by decide) ((HC.drop k).below HB3.out)) (oH _) (by unfold maxLen;omega) (by omega) HB3.size ?_;intro v4 w4 ho4 hg4 _;have HB4:Hid (Below wr.heap.size wr w4):=hide (HB3.grown hg4 HB3.size (fun j hj=>(HO3.lt j hj).1));have HO4:Hid (w4.ownsRow wr.heap.size 112 2 v4 (l.length+1) ((kG l id code).flatMap aM)):=hide (by
     rw[HE.out];have e:k+1+(l.length-k)=l.length+1:=by omega
     rw[e] at ho4;simpa[List.append_assoc] using ho4)
    clear ho4 hg4;go_wp2;go_ret;exact⟨HB4.out,v4,rfl,HO4.out⟩
   ·have hkl2:k=l.length:=by omega
    have hnlt:¬ (k:Int)<(l.length:Int):=by omega
    have HZ:Hid (l.drop k=[]/\l.length=k):=hide ⟨List.drop_of_length_le (by omega),hkl2.symm⟩;by_cases hsk:sc=k
    ·subst hsk;clear hgo hkl2;go_wp2_with (first|(at_builtin;refine bI.mk ?_)|fail);refine bI.mk' ?_;refine bU rfl _ _ 29 rfl wr.heap.size 112 i0 _ 2 16 hu hi0 hz0 hz1 hz2 rfl (by decide) (af (some ⟨wr.heap.size,0,none⟩) 0 0) 0 [] rfl (World.ownsRow_made wr #[] 0 (Nat.le_refl _) (by unfold maxLen;omega) rfl) (some ⟨b,off,none⟩) sc sc ((l.take sc).flatMap aM) rfl HF1.out (fun e=>by cases e) (bu.jD kC (by decide) ((HC.take sc).below (aF (Below.refl _ _) _))) (oH _) (by unfold maxLen;omega) (by omega) (by simp) ?_;intro v2 w2 ho2 hg2 _;have HB2:Hid (Below wr.heap.size wr w2):=hide ((aF (Below.refl _ _) _).grown hg2 (by simp) (fun j hj=>by
      simp only[Value.ownBlock,Option.some.injEq] at hj;omega))
     have HO2:Hid (w2.ownsRow wr.heap.size 112 2 v2 sc ((l.take sc).flatMap aM)):=hide (by simpa using ho2);clear ho2 hg2;go_wp2_with (first|(at_builtin;refine bI.mk ?_)|fail);refine bI.mk' ?_;refine bU rfl _ _ 29 rfl wr.heap.size 112 i0 _ 2 16 hu hi0 hz0 hz1 hz2 rfl (by decide) v2 sc ((l.take sc).flatMap aM) rfl (HO2.alloc _) (some ⟨w2.heap.size,0,none⟩) 1 1 (aM ⟨id,code⟩) rfl rfl (fun e=>by cases e) (fun ad had j u hj=>by cases had;exact yH hj) (fun u hu=>oH [⟨id,code⟩] u (by simpa using hu)) (by unfold maxLen;omega) (by omega) (by have:=HB2.size;simp;omega) ?_;intro v3 w3 ho3 hg3 _;have HB3:Hid (Below wr.heap.size wr w3):=hide ((aF HB2.out _).grown hg3 (by have:=HB2.size;simp;omega) (fun j hj=>(HO2.lt j hj).1));have HO3:Hid (w3.ownsRow wr.heap.size 112 2 v3 (sc+1) ((l.take sc).flatMap aM++aM ⟨id,code⟩)):=hide ho3;clear ho3 hg3;go_wp2_with (first|(at_builtin;refine bI.mk ?_)|fail);refine bI.mk' ?_;refine bU rfl _ _ 29 rfl wr.heap.size 112 i0 _ 2 16 hu hi0 hz0 hz1 hz2 rfl (by decide) v3 (sc+1) ((l.take sc).flatMap aM++aM ⟨id,code⟩) rfl HO3.out (some ⟨b,off,none⟩) 0 0 [] rfl rfl (fun e=>by cases e) (fun ad _ j u hj=>by simp at hj) (fun u hu=>by simp at hu) (by unfold maxLen;omega) (by omega) HB3.size ?_;intro v4 w4 ho4 hg4 _;have HB4:Hid (Below wr.heap.size wr w4):=hide (HB3.grown hg4 HB3.size (fun j hj=>(HO3.lt j hj).1));have HO4:Hid (w4.ownsRow wr.heap.size 112 2 v4 (l.length+1) ((kG l id code).flatMap aM)):=hide (by
      rw[HE.out,HZ.1,HZ.2];simpa[List.append_assoc] using ho4)
     clear ho4 hg4;go_wp2;go_ret;exact⟨HB4.out,v4,rfl,HO4.out⟩
    ·clear hgo hkl2;go_wp2_with (first|(at_builtin;refine bI.mk ?_)|fail);refine bI.mk' ?_;refine bU rfl _ _ 29 rfl wr.heap.size 112 i0 _ 2 16 hu hi0 hz0 hz1 hz2 rfl (by decide) (af (some ⟨wr.heap.size,0,none⟩) 0 0) 0 [] rfl (World.ownsRow_made wr #[] 0 (Nat.le_refl _) (by unfold maxLen;omega) rfl) (some ⟨b,off,none⟩) k sc ((l.take k).flatMap aM) rfl HF1.out (fun e=>by cases e) (bu.jD kC (by decide) ((HC.take k).below (aF (Below.refl _ _) _))) (oH _) (by unfold maxLen;omega) (by omega) (by simp) ?_;intro v2 w2 ho2 hg2 _;have HB2:Hid (Below wr.heap.size wr w2):=hide ((aF (Below.refl _ _) _).grown hg2 (by simp) (fun j hj=>by
      simp only[Value.ownBlock,Option.some.injEq] at hj;omega))
     have HO2:Hid (w2.ownsRow wr.heap.size 112 2 v2 k ((l.take k).flatMap aM)):=hide (by simpa using ho2);clear ho2 hg2;go_wp2_with (first|(at_builtin;refine bI.mk ?_)|fail);refine bI.mk' ?_;refine bU rfl _ _ 29 rfl wr.heap.size 112 i0 _ 2 16 hu hi0 hz0 hz1 hz2 rfl (by decide) v2 k ((l.take k).flatMap aM) rfl (HO2.alloc _) (some ⟨w2.heap.size,0,none⟩) 1 1 (aM ⟨id,code⟩) rfl rfl (fun e=>by cases e) (fun ad had j u hj=>by cases had;exact yH hj) (fun u hu=>oH [⟨id,code⟩] u (by simpa using hu)) (by unfold maxLen;omega) (by omega) (by have:=HB2.size;simp;omega) ?_;intro v3 w3 ho3 hg3 _;have HB3:Hid (Below wr.heap.size wr w3):=hide ((aF HB2.out _).grown hg3 (by have:=HB2.size;simp;omega) (fun j hj=>(HO2.lt j hj).1));have HO3:Hid (w3.ownsRow wr.heap.size 112 2 v3 (k+1) ((l.take k).flatMap aM++aM ⟨id,code⟩)):=hide ho3;clear ho3 hg3;go_wp2_with (first|(at_builtin;refine bI.mk ?_)|fail);refine bI.mk' ?_;refine bU rfl _ _ 29 rfl wr.heap.size 112 i0 _ 2 16 hu hi0 hz0 hz1 hz2 rfl (by decide) v3 (k+1) ((l.take k).flatMap aM++aM ⟨id,code⟩) rfl HO3.out (some ⟨b,off+k*2,none⟩) (l.length-k) (sc-k) ((l.drop k).flatMap aM) rfl HF2.out (fun e=>by cases e) (bu.jD kC (by decide) ((HC.drop k).below HB3.out)) (oH _) (by unfold maxLen;omega) (by omega) HB3.size ?_;intro v4 w4 ho4 hg4 _;have HB4:Hid (Below wr.heap.size wr w4):=hide (HB3.grown hg4 HB3.size (fun j hj=>(HO3.lt j hj).1));have HO4:Hid (w4.ownsRow wr.heap.size 112 2 v4 (l.length+1) ((kG l id code).flatMap aM)):=hide (by
      rw[HE.out];have e:k+1+(l.length-k)=l.length+1:=by omega
      rw[e] at ho4;simpa[List.append_assoc] using ho4)
     clear ho4 hg4;go_wp2;go_ret;exact⟨HB4.out,v4,rfl,HO4.out⟩
theorem Ku(id code:Int)(w:World) :
  Calls prog 81 #[af none 0 0,ae au id,ae au code] w fun e w'=>IJ [] id code w e w':=by
 obtain⟨i0,hi0,hz0,hz1,hz2⟩:=info_parts um;have hu:prog.underlying 29=some (.slice 112):=by kernel_rfl
 go_enter func81,ntmps81;go_wp2;go_loopw [7] (fun i wr=>i=ae au 0/\wr=w) (fun i wr=>0)
 case atStart=>exact⟨rfl,rfl⟩
 case round =>
  obtain⟨rfl,rfl⟩:=hrel;go_wp2_with (first|(at_builtin;refine bI.mk ?_)|fail);refine bI.mk' ?_;refine bU rfl _ _ 29 rfl wr.heap.size 112 i0 _ 2 16 hu hi0 hz0 hz1 hz2 rfl (by decide) (af (some ⟨wr.heap.size,0,none⟩) 0 0) 0 [] rfl (World.ownsRow_made wr #[] 0 (Nat.le_refl _) (by unfold maxLen;omega) rfl) none 0 0 [] rfl rfl (fun _=>⟨rfl,rfl⟩) (fun ad e=>by cases e) (fun u hu=>by simp at hu) (by unfold maxLen;omega) (by omega) (by simp) ?_;intro v2 w2 ho2 hg2 _;have HB2:Hid (Below wr.heap.size wr w2):=hide ((aF (Below.refl _ _) _).grown hg2 (by simp) (fun j hj=>by
   simp only[Value.ownBlock,Option.some.injEq] at hj;omega))
  have HO2:Hid (w2.ownsRow wr.heap.size 112 2 v2 0 []):=hide (by simpa using ho2);clear ho2 hg2;go_wp2_with (first|(at_builtin;refine bI.mk ?_)|fail);refine bI.mk' ?_;refine bU rfl _ _ 29 rfl wr.heap.size 112 i0 _ 2 16 hu hi0 hz0 hz1 hz2 rfl (by decide) v2 0 [] rfl (HO2.alloc _) (some ⟨w2.heap.size,0,none⟩) 1 1 (aM ⟨id,code⟩) rfl rfl (fun e=>by cases e) (fun ad had j u hj=>by cases had;exact yH hj) (fun u hu=>oH [⟨id,code⟩] u (by simpa using hu)) (by unfold maxLen;omega) (by omega) (by have:=HB2.size;simp;omega) ?_;intro v3 w3 ho3 hg3 _;have HB3:Hid (Below wr.heap.size wr w3):=hide ((aF HB2.out _).grown hg3 (by have:=HB2.size;simp;omega) (fun j hj=>(HO2.lt j hj).1));have HO3:Hid (w3.ownsRow wr.heap.size 112 2 v3 1 (aM ⟨id,code⟩)):=hide (by simpa using ho3);clear ho3 hg3;go_wp2_with (first|(at_builtin;refine bI.mk ?_)|fail);refine bI.mk' ?_;refine bU rfl _ _ 29 rfl wr.heap.size 112 i0 _ 2 16 hu hi0 hz0 hz1 hz2 rfl (by decide) v3 1 (aM ⟨id,code⟩) rfl HO3.out none 0 0 [] rfl rfl (fun _=>⟨rfl,rfl⟩) (fun ad e=>by cases e) (fun u hu=>by simp at hu) (by unfold maxLen;omega) (by omega) HB3.size ?_;intro v4 w4 ho4 hg4 _;have HB4:Hid (Below wr.heap.size wr w4):=hide (HB3.grown hg4 HB3.size (fun j hj=>(HO3.lt j hj).1));have HO4:Hid (w4.ownsRow wr.heap.size 112 2 v4 1 ((kG [] id code).flatMap aM)):=hide (by simpa[kG] using ho4);clear ho4 hg4;go_wp2;go_ret;exact⟨HB4.out,v4,rfl,HO4.out⟩
end Go.Proofs.YtdbmmdecclalgaaGreatDoor
