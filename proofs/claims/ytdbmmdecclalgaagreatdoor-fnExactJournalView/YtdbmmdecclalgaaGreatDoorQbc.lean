import Derived.Test.YtdbmmdecclalgaaGreatDoorQba
import Derived.Test.YtdbmmdecclalgaaGreatDoorQal
import Derived.Test.YtdbmmdecclalgaaGreatDoorQaz
import Derived.Test.YtdbmmdecclalgaaGreatDoorQay
namespace Go.Proofs.YtdbmmdecclalgaaGreatDoor
open Go.Value renaming int → ae, slice → af, string → ag, agg → aj, pointer → ai
open Go.IntKind renaming i64 → au
open Go.Proofs.Tryz Go.ChangeShapes Go.WideShapes Go.ChangeAt Go.RowKit Go.Maps
set_option linter.unusedVariables false
set_option maxRecDepth 100000
set_option maxHeartbeats 16000000
theorem Ew{l:List Int}{m:Nat}(h:m+1<l.length):fD l (m+1)=decide (l[m]<l[m+1]):=by
 simp[fD,List.getD,List.getElem?_eq_getElem h,List.getElem?_eq_getElem (show m<l.length by omega)]
theorem zk{l:List Int}(h:∀k,k<l.length->fD l k=true):∀i j (hi:i<l.length) (hj:j<l.length),i<j->l[i]<l[j]:=by
 intro i j hi hj hij
 induction j with
 | zero=>omega
 | succ j ih =>
  have h1:=h (j+1) hj;rw[Ew hj] at h1;have h2:l[j]<l[j+1]:=of_decide_eq_true h1;rcases Nat.lt_or_ge i j with q|q
  ·have:=ih (by omega) q;omega
  ·obtain rfl:i=j:=by omega
   exact h2
structure AU(D:bM):Prop where
 a:nV D.aI
 h:jq D.az
 s:D.aH.length<=40
 lim:∀x∈D.aI,-1<=x.bB/\x.bB<=1000000000000
 en:Ti D
 codes:∀x∈D.aH,(1<=x.id/\x.id<=1000000000)/\(x.code=0\/(4<=x.code/\x.code<=9))
 up:(D.aH.map Sn.id).Pairwise (· < ·)
theorem ul{D:bM}(k:df D=true):AU D:=by
 unfold df at k;simp only[Bool.and_eq_true,decide_eq_true_eq] at k;obtain⟨⟨⟨⟨⟨⟨k1,k2⟩,k3⟩,k4⟩,k5⟩,k6⟩,k7⟩:=k;have az:∀i (hi:i<D.az.length),eu 1 1000000000 (D.az[i]).id=true/\fD (D.az.map bP.id) i=true/\pu D (D.az[i])=true:=fun i hi=>by
  have q:=dU k5 hi;rw[fI hi] at q;simp only[Bool.and_eq_true] at q;exact⟨q.1.1,q.1.2,q.2⟩
 have aH:∀i (hi:i<D.aH.length),eu 1 1000000000 (D.aH[i]).id=true/\fD (D.aH.map Sn.id) i=true/\(decide ((D.aH[i]).code=0)||eu 4 9 (D.aH[i]).code)=true:=fun i hi=>by
  have q:=dU k7 hi;rw[jf hi] at q;simp only[Bool.and_eq_true] at q;exact⟨q.1.1,q.1.2,q.2⟩
 refine⟨BB k1 k4,BA k2 k5,k3,fun x hx=>?_,⟨?_,fun x hx=>?_,fun x hx=>?_⟩,fun x hx=>?_,?_⟩
 ·obtain⟨i,hi,rfl⟩:=List.mem_iff_getElem.1 hx;have q:=dU k6 hi;rw[iE hi] at q;simp only[Bool.and_eq_true] at q;exact bW.1 q.1.1.1.2
 ·rw[List.pairwise_iff_getElem];exact zk (fun i hi=>(az i (by simpa using hi)).2.1)
 ·obtain⟨i,hi,rfl⟩:=List.mem_iff_getElem.1 hx;exact(bW.1 (az i hi).1).1
 ·obtain⟨i,hi,rfl⟩:=List.mem_iff_getElem.1 hx;have q:=(az i hi).2.2
  cases e1:dZ D.aI (D.az[i]).fr with
  | none=>rw[oo e1] at q;cases q
  | some a =>
   cases e2:dZ D.aI (D.az[i]).to with
   | none=>rw[om e2] at q;cases q
   | some b=>exact⟨a,b,rfl,rfl⟩
 ·obtain⟨i,hi,rfl⟩:=List.mem_iff_getElem.1 hx;have q:=aH i hi;refine⟨bW.1 q.1,?_⟩;have q2:=q.2.2;simp only[Bool.or_eq_true,decide_eq_true_eq,bW] at q2;exact q2
 ·rw[List.pairwise_iff_getElem];exact zk (fun i hi=>(aH i (by simpa using hi)).2.1)
theorem jZ{s:ByteArray}(h:dW s=true):s.size<=maxLen:=by
 unfold dW at h;simp only[Bool.and_eq_true,decide_eq_true_eq] at h;unfold maxLen;omega
theorem P5{D:bM}{c:Cm}(hc:c.B=true)(hk:c.kind=2\/c.kind=3)(hf:fw D c=false)(hd:D.az.length<=10):UC D c:=by
 unfold Cm.B dK at hc;rw[if_neg (by omega),if_pos hk] at hc;simp only[Bool.and_eq_true,bW] at hc;refine⟨jZ hc.2.1.1.1.1,jZ hc.2.1.1.1.2,⟨by omega,hc.2.1.2.2⟩,⟨by omega,by omega⟩,fun h2=>?_⟩;have h3:c.kind=3:=by omega
 simp only[fw,Bool.or_eq_false_iff,Bool.and_eq_false_iff,decide_eq_false_iff_not] at hf;rcases hf.2 with q|q
 ·exact absurd h3 q
 ·have:=q.1;omega
theorem OW{L:bM}{i j:Nat}{am:Int}(h:(mY L i j am).2≠0):(mY L i j am).1=L:=by
 unfold mY at h⊢;split
 ·rename_i q;rw[if_pos q] at h;split
  ·rename_i q2;rw[if_pos q2] at h;exact absurd rfl h
  ·rfl
 ·rfl
theorem Q5{D:bM}{c:Cm}(h:(lZ D c).2≠0):(lZ D c).1=D:=by
 unfold lZ at h⊢;split
 ·rename_i q;rw[if_pos q] at h;unfold kW at h⊢;split
  ·rfl
  ·rename_i e;rw[e] at h;exact absurd rfl h
 ·rename_i q;rw[if_neg q] at h;split
  ·rename_i q2;rw[if_pos q2] at h;unfold ja at h⊢;split
   ·rename_i e1 e2;rw[e1,e2] at h;simp only at h;split
    ·rename_i q3;rw[if_pos q3] at h;split
     ·rename_i q4;rw[if_pos q4] at h;exact OW h
     ·rename_i q4;rw[if_neg q4] at h;unfold zY at h⊢;split
      ·rfl
      ·rename_i q5;rw[if_neg q5] at h;split
       ·rename_i q6;rw[if_pos q6] at h;exact absurd rfl h
       ·rfl
    ·rfl
   ·rfl
  ·rename_i q2;rw[if_neg q2] at h;unfold nK at h⊢;split
   ·rfl
   ·rename_i g e;rw[e] at h;simp only at h;split
    ·rename_i q3;rw[if_pos q3] at h;exact absurd rfl h
    ·rename_i q3;rw[if_neg q3] at h;split
     ·rename_i e1 e2;rw[e1,e2] at h;simp only at h;split
      ·rename_i q4;rw[if_pos q4] at h;exact absurd rfl h
      ·rfl
     ·rfl
theorem Kt(sa:Option Addr)(l:List Sn)(sc:Nat)(id code:Int)(w:World)(hl:l.length<=1048576)(hs:II sa sc l.length)(h:bu 2 aM w sa l) :
  Calls prog 81 #[af sa l.length sc,ae au id,ae au code] w fun e w'=>IJ l id code w e w':=by
 cases sa with
 | none =>
  have h0:l=[]:=List.length_eq_zero_iff.1 (kJ h rfl);subst h0;obtain rfl:sc=0:=hs.nocap rfl;exact Ku id code w
 | some x =>
  obtain⟨b,off,rfl⟩:=hs.near x rfl;exact Kv b off l sc id code w hl hs.room h
theorem Pool.MQ{F:List Nat}{w x y:World}{S:List (List Rs)}(h:Pool F w S x){i:Nat}(hi:S[i]?=some []){T:TypeId}{sz n:Nat}{v:Value}{xs:List Value}(hb:Below x.heap.size x y)(ho:y.ownsRow x.heap.size T sz v n xs):Pool F w (S.set i [row T sz v n xs]) y :=
 h.new hi hb (Star.ofRow ho) (fun c hc=>by
  rw[fC,qd,Option.mem_toList] at hc;exact(ho.lt c hc).1)
theorem jr.led{q:LP}{D:bM}{x:World}(hw:og D)(h:Star (bC q D) x):iO x q.aa q.ha q.sa D :=
 ⟨(h.get (r:=bA 4 aL q.aa q.ca D.aI) (by simp[bC])).2.rows.aI hw.aI,(h.get (r:=bA 4 aG q.ha q.ch D.az) (by simp[bC])).2.rows.az hw.az,(h.get (r:=bA 2 aM q.sa q.cs D.aH) (by simp[bC])).2.rows.ans hw.aH⟩
theorem Be(p:LP)(D:bM)(c:Cm)(w:World)(hled:df D=true)(hcf:c.fr.size<=maxLen)(hct:c.to.size<=maxLen)(hpk:jr p D)(h:iO w p.aa p.ha p.sa D) :
  Calls prog 46 #[eD p D,c.v] w fun e w'=>Uz (dJ D c) w e w':=by
 have HL:=hide h;have HK:=hide hpk;have HO:=hide (ul hled);have HLS:=hide hled;have hn1:D.aI.length<=12:=(ul hled).a.1;have hn2:D.az.length<=10:=(ul hled).h.1;have hn3:D.aH.length<=40:=(ul hled).s;obtain⟨W3,hW3⟩:∃W3,W3=((w.alloc (.cells #[af p.aa D.aI.length p.ca,af p.ha D.az.length p.ch,af p.sa D.aH.length p.cs] 31)).alloc (.cells #[ae au c.id,ae au c.kind,ag c.fr,ag c.to,ae au c.am,ae au c.ref] 88)).alloc (.cells #[af none 0 0,af none 0 0,af none 0 0] 31):=⟨_,rfl⟩;have HP0:Hid (Pool [] w [[blk w.heap.size (bJ p D)],[blk (w.heap.size+1) c.cells],[blk (w.heap.size+1+1) [af none 0 0,af none 0 0,af none 0 0]],[],[],[]] W3):=hide (by
  have p1:=(Pool.start w [[],[],[],[],[],[]] rfl).aY (i:=0) rfl (bJ p D) 31;have s1:(w.alloc (.cells (bJ p D).toArray 31)).heap.size=w.heap.size+1:=by simp
  have p2:=p1.aY (i:=1) rfl c.cells 88;have s2:((w.alloc (.cells (bJ p D).toArray 31)).alloc (.cells c.cells.toArray 88)).heap.size=w.heap.size+1+1:=by simp
  have p3:=p2.aY (i:=2) rfl [af none 0 0,af none 0 0,af none 0 0] 31;rw[s2,s1] at p3;rw[hW3];exact p3)
 have HW3:Hid (_=W3):=hide hW3.symm;clear hW3 h hpk hled;unfold eD Cm.v;go_enter func46,ntmps46;go_upto_region 1 with fail
 rw[HW3.out];have d0:=(HP0.aB (i:=0) rfl).c 0 _ rfl;have d1:=(HP0.aB (i:=0) rfl).c 1 _ rfl;have d2:=(HP0.aB (i:=0) rfl).c 2 _ rfl;have c0:=(HP0.aB (i:=1) rfl).c 0 _ rfl;have c1:=(HP0.aB (i:=1) rfl).c 1 _ rfl;have c2:=(HP0.aB (i:=1) rfl).c 2 _ rfl;have c3:=(HP0.aB (i:=1) rfl).c 3 _ rfl;have c4:=(HP0.aB (i:=1) rfl).c 4 _ rfl;have c5:=(HP0.aB (i:=1) rfl).c 5 _ rfl;go_wp2_with fail;refine(qy p D W3 (by omega) (by omega) (by omega) HK.out (HL.below HP0.below)).mono ?_;rintro e w4⟨q,rfl,hqk,hp4⟩;have HQK:=hide hqk;have HP4:Hid (Pool [] w [[blk w.heap.size (bJ p D)],[blk (w.heap.size+1) c.cells],[blk (w.heap.size+1+1) [af none 0 0,af none 0 0,af none 0 0]],[],bC q D,[]] w4):=hide (HP0.call (i:=4) rfl (rs':=bC q D) (hp4.cast (by simp)));clear hqk hp4 HP0 d0 d1 d2 c0 c1 c2 c3 c4 c5;unfold eD;go_upto_region 2 with fail
 refine fP (fun W5 hW5=>?_);have HP5:Hid (Pool [] w [[blk w.heap.size (bJ p D)],[blk (w.heap.size+1) c.cells],[blk (w.heap.size+1+1) [af none 0 0,af none 0 0,af none 0 0]],[blk w4.heap.size (bJ q D)],bC q D,[]] W5):=hide (by rw[hW5];exact HP4.aY (i:=3) rfl (bJ q D) 31);clear hW5 HP4;have c0:=(HP5.aB (i:=1) rfl).c 0 _ rfl;have c1:=(HP5.aB (i:=1) rfl).c 1 _ rfl;have c2:=(HP5.aB (i:=1) rfl).c 2 _ rfl;have c3:=(HP5.aB (i:=1) rfl).c 3 _ rfl;have c4:=(HP5.aB (i:=1) rfl).c 4 _ rfl;have c5:=(HP5.aB (i:=1) rfl).c 5 _ rfl;go_wp2_with fail;refine(fH c.id c.kind c.fr c.to c.am c.ref W5 hcf hct).mono ?_;rintro e w6⟨rfl,hk6⟩;have HP6:=hide (HP5.keep hk6.below);clear hk6 HP5 c0 c1 c2 c3 c4 c5;cases hcb:dK c.id c.kind c.fr c.to c.am c.ref
 ·have HM:Hid (dJ D c=(D,2)):=hide (by unfold dJ;rw[HLS.out,show c.B=false from hcb];rfl);have m0:=(HP6.aB (i:=3) rfl).c 0 _ rfl;have m1:=(HP6.aB (i:=3) rfl).c 1 _ rfl;have m2:=(HP6.aB (i:=3) rfl).c 2 _ rfl;have r0:=(HP6.aB (i:=2) rfl).c 0 _ rfl;have fr0:=(HP6.aB (i:=2) rfl).f 0;have r1:=(HP6.aB (i:=2) rfl).c 1 _ rfl;have fr1:=(HP6.aB (i:=2) rfl).f 1;have r2:=(HP6.aB (i:=2) rfl).c 2 _ rfl;have fr2:=(HP6.aB (i:=2) rfl).f 2;have HQ:=hide (((HP6.aQ (i:=2) rfl 0 (af q.aa D.aI.length q.ca) (by simp)).aQ (i:=2) rfl 1 (af q.ha D.az.length q.ch) (by simp)).aQ (i:=2) rfl 2 (af q.sa D.aH.length q.cs) (by simp));go_wp2;refine cK (fun W9 hW9=>?_);have hq:=HQ.out;rw[<-hW9] at hq;have z_:=hq.aB (i:=2) rfl;have g0_:=z_.c 0 _ rfl;have g1_:=z_.c 1 _ rfl;have g2_:=z_.c 2 _ rfl;exact bodyPost_ret (v:=.tuple #[aj #[af q.aa D.aI.length q.ca,af q.ha D.az.length q.ch,af q.sa D.aH.length q.cs],ae au (2)]) (by simp[results,results46,go_sem,g0_,g1_,g2_]) rfl ⟨q,by rw[HM.out];rfl,by rw[HM.out];exact HQK.out,by
   rw[HM.out];exact((((hq.drop (i:=3) rfl).drop (i:=2) rfl).drop (i:=1) rfl).drop (i:=0) rfl).cast (by simp)⟩
 ·have HCB:Hid (c.B=true):=hide hcb;have d2:=(HP6.aB (i:=0) rfl).c 2 _ rfl;have c0:=(HP6.aB (i:=1) rfl).c 0 _ rfl;go_wp2_with fail;refine(G9 p.sa D.aH p.cs c.id w6 (by omega) (HL.aH.row.below HP6.below)).mono ?_;rintro e w7⟨rfl,hb7⟩;have HP7:Hid (Pool [] w [[blk w.heap.size (bJ p D)],[blk (w.heap.size+1) c.cells],[blk (w.heap.size+1+1) [af none 0 0,af none 0 0,af none 0 0]],[blk w4.heap.size (bJ q D)],bC q D,[]] w7):=hide (by rw[hb7];exact HP6.out);clear hb7 HP6 d2 c0;by_cases hs:0<=jN D.aH c.id
  ·have HM:Hid (dJ D c=(D,jN D.aH c.id)):=hide (by unfold dJ;rw[HLS.out,HCB.out,if_neg (by decide),if_neg (by decide),if_pos hs]);have hs':(0:Int)<=jN D.aH c.id:=hs;have m0:=(HP7.aB (i:=3) rfl).c 0 _ rfl;have m1:=(HP7.aB (i:=3) rfl).c 1 _ rfl;have m2:=(HP7.aB (i:=3) rfl).c 2 _ rfl;have r0:=(HP7.aB (i:=2) rfl).c 0 _ rfl;have fr0:=(HP7.aB (i:=2) rfl).f 0;have r1:=(HP7.aB (i:=2) rfl).c 1 _ rfl;have fr1:=(HP7.aB (i:=2) rfl).f 1;have r2:=(HP7.aB (i:=2) rfl).c 2 _ rfl;have fr2:=(HP7.aB (i:=2) rfl).f 2;have HQ:=hide (((HP7.aQ (i:=2) rfl 0 (af q.aa D.aI.length q.ca) (by simp)).aQ (i:=2) rfl 1 (af q.ha D.az.length q.ch) (by simp)).aQ (i:=2) rfl 2 (af q.sa D.aH.length q.cs) (by simp));go_wp2;refine cK (fun W9 hW9=>?_);have hq:=HQ.out;rw[<-hW9] at hq;have z_:=hq.aB (i:=2) rfl;have g0_:=z_.c 0 _ rfl;have g1_:=z_.c 1 _ rfl;have g2_:=z_.c 2 _ rfl;exact bodyPost_ret (v:=.tuple #[aj #[af q.aa D.aI.length q.ca,af q.ha D.az.length q.ch,af q.sa D.aH.length q.cs],ae au (jN D.aH c.id)]) (by simp[results,results46,go_sem,g0_,g1_,g2_]) rfl ⟨q,by rw[HM.out];rfl,by rw[HM.out];exact HQK.out,by
    rw[HM.out];exact((((hq.drop (i:=3) rfl).drop (i:=2) rfl).drop (i:=1) rfl).drop (i:=0) rfl).cast (by simp)⟩
  ·have HNS:Hid (jN D.aH c.id<0):=hide (by omega);have hs':¬ (0:Int)<=jN D.aH c.id:=hs;go_upto_region 7 with fail
   go_cut [55] from 24 to 55 (fun t wx=>t=.bool (fw D c)/\Hid (Pool [] w [[blk w.heap.size (bJ p D)],[blk (w.heap.size+1) c.cells],[blk (w.heap.size+1+1) [af none 0 0,af none 0 0,af none 0 0]],[blk w4.heap.size (bJ q D)],bC q D,[]] wx))
   case first =>
    have d0:=(HP7.aB (i:=0) rfl).c 0 _ rfl;have d1:=(HP7.aB (i:=0) rfl).c 1 _ rfl;have d2:=(HP7.aB (i:=0) rfl).c 2 _ rfl;have c0:=(HP7.aB (i:=1) rfl).c 0 _ rfl;have c1:=(HP7.aB (i:=1) rfl).c 1 _ rfl;have c2:=(HP7.aB (i:=1) rfl).c 2 _ rfl;have c3:=(HP7.aB (i:=1) rfl).c 3 _ rfl;have c4:=(HP7.aB (i:=1) rfl).c 4 _ rfl;have c5:=(HP7.aB (i:=1) rfl).c 5 _ rfl;by_cases s40:D.aH.length=40
    ·have s40':((D.aH.length:Int)==40)=true:=by simp;omega
     have HF:Hid (fw D c=true):=hide (by simp[fw,s40]);go_wp2_with fail;go_meet;exact⟨by rw[HF.out],HP7⟩
    ·have s40':((D.aH.length:Int)==40)=false:=by simp;omega
     by_cases k1:c.kind=1
     ·have k1':(c.kind==1)=true:=by simp[k1]
      have k3':(c.kind==3)=false:=by simp;omega
      by_cases a12:D.aI.length=12
      ·have a12':((D.aI.length:Int)==12)=true:=by simp;omega
       have HF:Hid (fw D c=true):=hide (by simp[fw,k1,a12]);go_wp2_with fail;go_meet;exact⟨by rw[HF.out],HP7⟩
      ·have a12':((D.aI.length:Int)==12)=false:=by simp;omega
       have HF:Hid (fw D c=false):=hide (by simp[fw,k1,a12,s40]);clear k1 s40 a12;go_wp2_with fail;go_meet;exact⟨by rw[HF.out],HP7⟩
     ·have k1':(c.kind==1)=false:=by simp[k1]
      by_cases k3:c.kind=3
      ·have k3':(c.kind==3)=true:=by simp[k3]
       by_cases h10:D.az.length=10
       ·have h10':((D.az.length:Int)==10)=true:=by simp;omega
        have HF:Hid (fw D c=true):=hide (by simp[fw,k3,h10]);go_wp2_with fail;go_meet;exact⟨by rw[HF.out],HP7⟩
       ·have h10':((D.az.length:Int)==10)=false:=by simp;omega
        have HF:Hid (fw D c=D.az.any (fun h=>h.id==c.id)):=hide (by simp[fw,k3,h10,s40]);clear k1 k3 s40 h10;go_wp2_with fail;have hco:=Bc p D c.id w7 (by omega) (HL.az.below HP7.below);unfold eD at hco;refine hco.mono ?_;rintro e w8⟨rfl,hb8⟩;have HP8:=hide (HP7.keep hb8);clear hco hb8 HP7;go_wp2_with fail;go_meet;exact⟨by rw[HF.out],HP8⟩
      ·have k3':(c.kind==3)=false:=by simp[k3]
       have HF:Hid (fw D c=false):=hide (by simp[fw,k1,k3,s40]);clear k1 k3 s40;go_wp2_with fail;go_meet;exact⟨by rw[HF.out],HP7⟩
   case rest =>
    obtain⟨rfl,HP8⟩:=hcut;clear HP7;cases hfl:fw D c
    ·have HFL:=hide hfl;obtain⟨R,hR⟩:∃R,R=lZ D c:=⟨_,rfl⟩;have HR:=hide hR;have HRN:Hid (R.2≠0->R.1=D):=hide (fun z=>by rw[hR] at z⊢;exact Q5 z);clear hR;have k1_:=(HP8.aB (i:=1) rfl).c 1 _ rfl;go_upto_block 0 with fail
     clear k1_;obtain⟨wd,hwd⟩:∃wd,wd=wc:=⟨_,rfl⟩;rw[<-hwd];rw[<-hwd] at HP8;clear hwd;go_cut [8] from 59 to 81 (fun cv wx=>cv=ae au R.2/\Hid (∃q2,jr q2 R.1/\Pool [] w [[blk w.heap.size (bJ p D)],[blk (w.heap.size+1) c.cells],[blk (w.heap.size+1+1) [af none 0 0,af none 0 0,af none 0 0]],[blk w4.heap.size (bJ q2 R.1)],bC q2 R.1,[]] wx))
     case first =>
      have d_:True:=trivial;have m0:=(HP8.aB (i:=3) rfl).c 0 _ rfl;have m1:=(HP8.aB (i:=3) rfl).c 1 _ rfl;have m2:=(HP8.aB (i:=3) rfl).c 2 _ rfl;have c0:=(HP8.aB (i:=1) rfl).c 0 _ rfl;have c1:=(HP8.aB (i:=1) rfl).c 1 _ rfl;have c2:=(HP8.aB (i:=1) rfl).c 2 _ rfl;have c3:=(HP8.aB (i:=1) rfl).c 3 _ rfl;have c4:=(HP8.aB (i:=1) rfl).c 4 _ rfl;have c5:=(HP8.aB (i:=1) rfl).c 5 _ rfl;by_cases k1:c.kind=1
      ·have k1':(c.kind==1)=true:=by simp[k1]
       have HRK:Hid (R=kW D c):=hide (by rw[HR.out];unfold lZ;rw[if_pos k1]);have HOD:Hid (R.1.az=D.az/\R.1.aH=D.aH):=hide (by rw[HRK.out];unfold kW;split<;>exact⟨rfl,rfl⟩);clear k1;go_wp2_with fail;have hco:=Ha q D c wd (by omega) (jr.led HL.wf (HP8.get (i:=4) rfl));unfold JE at hco;rw[<-HRK.out] at hco;unfold eD Cm.v at hco;clear d_;refine hco.mono ?_;rintro e w9⟨a,k,rfl,hb9,hne,heq⟩;clear hco m0 m1 m2 c0 c1 c2 c3 c4 c5;have HNE:=hide hne;have HEQ:=hide heq;clear hne heq;by_cases hz:R.2=0
       ·have HQ9:=hide (HEQ.out hz);have HP9:Hid (Pool [] w [[blk w.heap.size (bJ p D)],[blk (w.heap.size+1) c.cells],[blk (w.heap.size+1+1) [af none 0 0,af none 0 0,af none 0 0]],[blk w4.heap.size (bJ q D)],bC q D,[bA 4 aL a k R.1.aI]] w9):=hide (HP8.call (i:=5) rfl (rs':=[bA 4 aL a k R.1.aI]) (HQ9.2.cast (by simp)));have HOM:Hid (R.1.az=D.az/\R.1.aH=D.aH):=hide HOD.out;clear hb9 hz HP8;have m0:=(HP9.aB (i:=3) rfl).c 0 _ rfl;have fm0:=(HP9.aB (i:=3) rfl).f 0;have m1:=(HP9.aB (i:=3) rfl).c 1 _ rfl;have fm1:=(HP9.aB (i:=3) rfl).f 1;have m2:=(HP9.aB (i:=3) rfl).c 2 _ rfl;have fm2:=(HP9.aB (i:=3) rfl).f 2;have HPZ:=hide (((HP9.aQ (i:=3) rfl 0 (af a R.1.aI.length k) (by simp[bJ])).aQ (i:=3) rfl 1 (af q.ha D.az.length q.ch) (by simp[bJ])).aQ (i:=3) rfl 2 (af q.sa D.aH.length q.cs) (by simp[bJ]));go_wp2_with fail;go_meet;exact⟨rfl,hide ⟨⟨a,k,q.ha,q.ch,q.sa,q.cs⟩,⟨HQ9.1,by rw[HOM.1];exact HQK.h,by rw[HOM.2];exact HQK.s⟩,(by
         have p1:=HPZ.out;have p2:Pool [] w [[blk w.heap.size (bJ p D)],[blk (w.heap.size+1) c.cells],[blk (w.heap.size+1+1) [af none 0 0,af none 0 0,af none 0 0]],[blk w4.heap.size [af a R.1.aI.length k,af q.ha D.az.length q.ch,af q.sa D.aH.length q.cs]],[bA 4 aL q.aa q.ca D.aI],[bA 4 aG q.ha q.ch D.az,bA 2 aM q.sa q.cs D.aH],[bA 4 aL a k R.1.aI]] _:=p1.cast (by simp[bC,bJ]);have p3:=p2.drop (i:=4) rfl;refine p3.perm ?_;simp only[bC,bJ,HOM.1,HOM.2,List.set_cons_succ,List.set_cons_zero,List.flatten_cons,List.flatten_nil,List.append_nil,List.nil_append,List.cons_append];exact List.Perm.cons _ (List.Perm.cons _ (List.Perm.cons _ (List.Perm.cons _ ((List.Perm.cons _ (List.Perm.swap _ _ _)).trans (List.Perm.swap _ _ _))))))⟩⟩
       ·obtain⟨ea,ek⟩:=HNE.out hz;have eR:=HRN.out hz;have HP9:=hide (HP8.keep hb9);have HER:=hide eR;have HEA:=hide ea;have HEK:=hide ek;clear hb9 hz HP8 ea ek eR;have m0:=(HP9.aB (i:=3) rfl).c 0 _ rfl;have fm0:=(HP9.aB (i:=3) rfl).f 0;have m1:=(HP9.aB (i:=3) rfl).c 1 _ rfl;have fm1:=(HP9.aB (i:=3) rfl).f 1;have m2:=(HP9.aB (i:=3) rfl).c 2 _ rfl;have fm2:=(HP9.aB (i:=3) rfl).f 2;have HPZ:=hide (((HP9.aQ (i:=3) rfl 0 (af a R.1.aI.length k) (by simp[bJ])).aQ (i:=3) rfl 1 (af q.ha D.az.length q.ch) (by simp[bJ])).aQ (i:=3) rfl 2 (af q.sa D.aH.length q.cs) (by simp[bJ]));go_wp2_with fail;go_meet;exact⟨rfl,hide ⟨q,by rw[HER.out];exact HQK.out,(by
         have p1:=HPZ.out;rw[HEA.out,HEK.out,HER.out] at p1;rw[HEA.out,HEK.out,HER.out];exact p1)⟩⟩
      ·have k1':(c.kind==1)=false:=by simp[k1]
       by_cases k2:c.kind=2
       ·have k2':(c.kind==2)=true:=by simp[k2]
        have HRK:Hid (R=ja D c):=hide (by rw[HR.out];unfold lZ;rw[if_neg k1,if_pos (.inl k2)]);have HMV:=hide (P5 HCB.out (.inl k2) HFL.out hn2);clear k1 k2;go_wp2_with fail;have hco:=zM q D c wd HO.a HO.h (by omega) HO.lim HMV.out HQK.out (jr.led HL.wf (HP8.get (i:=4) rfl));rw[<-HRK.out] at hco;unfold eD Cm.v at hco;clear d_;refine hco.mono ?_;rintro e w9⟨q2,rfl,hb9,hne,heq⟩;clear hco m0 m1 m2 c0 c1 c2 c3 c4 c5;have HNE:=hide hne;have HEQ:=hide heq;clear hne heq;unfold eD;by_cases hz:R.2=0
        ·have HQ9:=hide (HEQ.out hz);have HP9:Hid (Pool [] w [[blk w.heap.size (bJ p D)],[blk (w.heap.size+1) c.cells],[blk (w.heap.size+1+1) [af none 0 0,af none 0 0,af none 0 0]],[blk w4.heap.size (bJ q D)],bC q D,bC q2 R.1] w9):=hide (HP8.call (i:=5) rfl (rs':=bC q2 R.1) (HQ9.2.cast (by simp)));clear hb9 hz HP8;have m0:=(HP9.aB (i:=3) rfl).c 0 _ rfl;have fm0:=(HP9.aB (i:=3) rfl).f 0;have m1:=(HP9.aB (i:=3) rfl).c 1 _ rfl;have fm1:=(HP9.aB (i:=3) rfl).f 1;have m2:=(HP9.aB (i:=3) rfl).c 2 _ rfl;have fm2:=(HP9.aB (i:=3) rfl).f 2;have HPZ:=hide (((HP9.aQ (i:=3) rfl 0 (af q2.aa R.1.aI.length q2.ca) (by simp[bJ])).aQ (i:=3) rfl 1 (af q2.ha R.1.az.length q2.ch) (by simp[bJ])).aQ (i:=3) rfl 2 (af q2.sa R.1.aH.length q2.cs) (by simp[bJ]));go_wp2_with fail;go_meet;exact⟨rfl,hide ⟨q2,HQ9.1,(by
          have p1:=HPZ.drop (i:=4) rfl;exact p1.cast (by simp[bJ]))⟩⟩
        ·have eq2:=HNE.out hz;have eR:=HRN.out hz;have HP9:=hide (HP8.keep hb9);have HEQ2:=hide eq2;have HER:=hide eR;clear hb9 hz HP8 eq2 eR;have m0:=(HP9.aB (i:=3) rfl).c 0 _ rfl;have fm0:=(HP9.aB (i:=3) rfl).f 0;have m1:=(HP9.aB (i:=3) rfl).c 1 _ rfl;have fm1:=(HP9.aB (i:=3) rfl).f 1;have m2:=(HP9.aB (i:=3) rfl).c 2 _ rfl;have fm2:=(HP9.aB (i:=3) rfl).f 2;have HPZ:=hide (((HP9.aQ (i:=3) rfl 0 (af q2.aa R.1.aI.length q2.ca) (by simp[bJ])).aQ (i:=3) rfl 1 (af q2.ha R.1.az.length q2.ch) (by simp[bJ])).aQ (i:=3) rfl 2 (af q2.sa R.1.aH.length q2.cs) (by simp[bJ]));go_wp2_with fail;go_meet;exact⟨rfl,hide ⟨q,by rw[HER.out];exact HQK.out,(by
          have p1:=HPZ.out;rw[HEQ2.out,HER.out] at p1;rw[HEQ2.out,HER.out];exact p1)⟩⟩
       ·have k2':(c.kind==2)=false:=by simp[k2]
        by_cases k3:c.kind=3;have k3':(c.kind==3)=true:=by simp[k3]
        have HRK:Hid (R=ja D c):=hide (by rw[HR.out];unfold lZ;rw[if_neg k1,if_pos (.inr k3)]);have HMV:=hide (P5 HCB.out (.inr k3) HFL.out hn2);clear k1 k2 k3;go_wp2_with fail;have hco:=zM q D c wd HO.a HO.h (by omega) HO.lim HMV.out HQK.out (jr.led HL.wf (HP8.get (i:=4) rfl))
        rotate_left
        have k3':(c.kind==3)=false:=by simp[k3]
        have HRK:Hid (R=nK D c):=hide (by rw[HR.out];unfold lZ;rw[if_neg k1,if_neg (fun z=>by rcases z with z|z;exact k2 z;exact k3 z)]);clear k1 k2 k3;go_wp2_with fail;have hco:=Kw q D c wd HO.a HO.h (by omega) HO.lim HO.en HQK.out (jr.led HL.wf (HP8.get (i:=4) rfl))
        all_goals
         rw[<-HRK.out] at hco;unfold eD Cm.v at hco;clear d_;refine hco.mono ?_;rintro e w9⟨q2,rfl,hb9,hne,heq⟩;clear hco m0 m1 m2 c0 c1 c2 c3 c4 c5;have HNE:=hide hne;have HEQ:=hide heq;clear hne heq;unfold eD;by_cases hz:R.2=0
         ·have HQ9:=hide (HEQ.out hz);have HP9:Hid (Pool [] w [[blk w.heap.size (bJ p D)],[blk (w.heap.size+1) c.cells],[blk (w.heap.size+1+1) [af none 0 0,af none 0 0,af none 0 0]],[blk w4.heap.size (bJ q D)],bC q D,bC q2 R.1] w9):=hide (HP8.call (i:=5) rfl (rs':=bC q2 R.1) (HQ9.2.cast (by simp)));clear hb9 hz HP8;have m0:=(HP9.aB (i:=3) rfl).c 0 _ rfl;have fm0:=(HP9.aB (i:=3) rfl).f 0;have m1:=(HP9.aB (i:=3) rfl).c 1 _ rfl;have fm1:=(HP9.aB (i:=3) rfl).f 1;have m2:=(HP9.aB (i:=3) rfl).c 2 _ rfl;have fm2:=(HP9.aB (i:=3) rfl).f 2;have HPZ:=hide (((HP9.aQ (i:=3) rfl 0 (af q2.aa R.1.aI.length q2.ca) (by simp[bJ])).aQ (i:=3) rfl 1 (af q2.ha R.1.az.length q2.ch) (by simp[bJ])).aQ (i:=3) rfl 2 (af q2.sa R.1.aH.length q2.cs) (by simp[bJ]));go_wp2_with fail;go_meet;exact⟨rfl,hide ⟨q2,HQ9.1,(by
           have p1:=HPZ.drop (i:=4) rfl;exact p1.cast (by simp[bJ]))⟩⟩
         ·have eq2:=HNE.out hz;have eR:=HRN.out hz;have HP9:=hide (HP8.keep hb9);have HEQ2:=hide eq2;have HER:=hide eR;clear hb9 hz HP8 eq2 eR;have m0:=(HP9.aB (i:=3) rfl).c 0 _ rfl;have fm0:=(HP9.aB (i:=3) rfl).f 0;have m1:=(HP9.aB (i:=3) rfl).c 1 _ rfl;have fm1:=(HP9.aB (i:=3) rfl).f 1;have m2:=(HP9.aB (i:=3) rfl).c 2 _ rfl;have fm2:=(HP9.aB (i:=3) rfl).f 2;have HPZ:=hide (((HP9.aQ (i:=3) rfl 0 (af q2.aa R.1.aI.length q2.ca) (by simp[bJ])).aQ (i:=3) rfl 1 (af q2.ha R.1.az.length q2.ch) (by simp[bJ])).aQ (i:=3) rfl 2 (af q2.sa R.1.aH.length q2.cs) (by simp[bJ]));go_wp2_with fail;go_meet;exact⟨rfl,hide ⟨q,by rw[HER.out];exact HQK.out,(by
           have p1:=HPZ.out;rw[HEQ2.out,HER.out] at p1;rw[HEQ2.out,HER.out];exact p1)⟩⟩
     case rest =>
      obtain⟨rfl,hex⟩:=hcut;obtain⟨q2,hq2,hpz⟩:=hex.out;have HQ2:=hide hq2;have HPZ:Hid (Pool [] w [[blk w.heap.size (bJ p D)],[blk (w.heap.size+1) c.cells],[blk (w.heap.size+1+1) [af none 0 0,af none 0 0,af none 0 0]],[blk w4.heap.size (bJ q2 R.1)],bC q2 R.1,[]] wc):=hide hpz;clear hex hq2 hpz HP8;have HM:Hid (dJ D c=(⟨R.1.aI,R.1.az,kG D.aH c.id R.2⟩,R.2)):=hide (by unfold dJ;rw[HLS.out,HCB.out,if_neg (by decide),if_neg (by decide),if_neg (Int.not_le.2 HNS.out),HFL.out,<-HR.out];rfl);have d2:=(HPZ.aB (i:=0) rfl).c 2 _ rfl;have c0:=(HPZ.aB (i:=1) rfl).c 0 _ rfl;go_wp2_with fail;refine(Kt p.sa D.aH p.cs c.id R.2 wc (by omega) HK.s (HL.aH.row.below HPZ.below)).mono ?_;rintro e w10⟨hb10,v10,rfl,ho10⟩;obtain⟨N,hN⟩:∃N,N=kG D.aH c.id R.2:=⟨_,rfl⟩;have hNl:N.length=D.aH.length+1:=by rw[hN,OP]
      rw[<-hN,<-hNl] at ho10;have HNN:=hide hN;obtain⟨a9,c9,e9,s9,hp10⟩:=(HPZ.MQ (i:=5) rfl hb10 ho10).iT kC (i:=5) rfl;subst e9;have HPT:Hid (Pool [] w [[blk w.heap.size (bJ p D)],[blk (w.heap.size+1) c.cells],[blk (w.heap.size+1+1) [af none 0 0,af none 0 0,af none 0 0]],[blk w4.heap.size (bJ q2 R.1)],bC q2 R.1,[bA 2 aM a9 c9 N]] w10):=hide hp10;clear hb10 ho10 hN hNl hp10 HPZ d2 c0;have m0:=(HPT.aB (i:=3) rfl).c 0 _ rfl;have fm0:=(HPT.aB (i:=3) rfl).f 0;have m1:=(HPT.aB (i:=3) rfl).c 1 _ rfl;have fm1:=(HPT.aB (i:=3) rfl).f 1;have m2:=(HPT.aB (i:=3) rfl).c 2 _ rfl;have fm2:=(HPT.aB (i:=3) rfl).f 2;go_upto_region 18 with fail
      refine fP (fun WE hWE=>?_);have HPE:Hid (Pool [] w [[blk w.heap.size (bJ p D)],[blk (w.heap.size+1) c.cells],[blk (w.heap.size+1+1) [af none 0 0,af none 0 0,af none 0 0]],[blk w4.heap.size [af q2.aa R.1.aI.length q2.ca,af q2.ha R.1.az.length q2.ch,af a9 N.length c9]],bC q2 R.1,[bA 2 aM a9 c9 N]] WE):=hide (by rw[hWE];exact HPT.aQ (i:=3) rfl 2 (af a9 N.length c9) (by simp[bJ]));clear hWE HPT m0 m1 m2 fm0 fm1 fm2;have m0:=(HPE.aB (i:=3) rfl).c 0 _ rfl;have m1:=(HPE.aB (i:=3) rfl).c 1 _ rfl;have m2:=(HPE.aB (i:=3) rfl).c 2 _ rfl;have r0:=(HPE.aB (i:=2) rfl).c 0 _ rfl;have fr0:=(HPE.aB (i:=2) rfl).f 0;have r1:=(HPE.aB (i:=2) rfl).c 1 _ rfl;have fr1:=(HPE.aB (i:=2) rfl).f 1;have r2:=(HPE.aB (i:=2) rfl).c 2 _ rfl;have fr2:=(HPE.aB (i:=2) rfl).f 2;have HQ:=hide (((HPE.aQ (i:=2) rfl 0 (af q2.aa R.1.aI.length q2.ca) (by simp)).aQ (i:=2) rfl 1 (af q2.ha R.1.az.length q2.ch) (by simp)).aQ (i:=2) rfl 2 (af a9 N.length c9) (by simp));go_wp2;refine cK (fun W9 hW9=>?_);have hq:=HQ.out;rw[<-hW9] at hq;have z_:=hq.aB (i:=2) rfl;have g0_:=z_.c 0 _ rfl;have g1_:=z_.c 1 _ rfl;have g2_:=z_.c 2 _ rfl;exact bodyPost_ret (v:=.tuple #[aj #[af q2.aa R.1.aI.length q2.ca,af q2.ha R.1.az.length q2.ch,af a9 N.length c9],ae au (R.2)]) (by simp[results,results46,go_sem,g0_,g1_,g2_]) rfl ⟨⟨q2.aa,q2.ca,q2.ha,q2.ch,a9,c9⟩,by rw[HM.out,<-HNN.out];rfl,by rw[HM.out,<-HNN.out];exact⟨HQ2.a,HQ2.h,s9⟩,by
       rw[HM.out,<-HNN.out];have p1:=(((hq.drop (i:=3) rfl).drop (i:=2) rfl).drop (i:=1) rfl).drop (i:=0) rfl;have p2:Pool [] w [[bA 4 aL q2.aa q2.ca R.1.aI,bA 4 aG q2.ha q2.ch R.1.az],[bA 2 aM q2.sa q2.cs R.1.aH],[bA 2 aM a9 c9 N]] _:=p1.cast (by simp[bC]);exact(p2.drop (i:=1) rfl).cast (by simp[bC])⟩
    ·have HM:Hid (dJ D c=(D,3)):=hide (by unfold dJ;rw[HLS.out,HCB.out,if_neg (by decide),if_neg (by decide),if_neg (Int.not_le.2 HNS.out),hfl];rfl);have m0:=(HP8.aB (i:=3) rfl).c 0 _ rfl;have m1:=(HP8.aB (i:=3) rfl).c 1 _ rfl;have m2:=(HP8.aB (i:=3) rfl).c 2 _ rfl;have r0:=(HP8.aB (i:=2) rfl).c 0 _ rfl;have fr0:=(HP8.aB (i:=2) rfl).f 0;have r1:=(HP8.aB (i:=2) rfl).c 1 _ rfl;have fr1:=(HP8.aB (i:=2) rfl).f 1;have r2:=(HP8.aB (i:=2) rfl).c 2 _ rfl;have fr2:=(HP8.aB (i:=2) rfl).f 2;have HQ:=hide (((HP8.aQ (i:=2) rfl 0 (af q.aa D.aI.length q.ca) (by simp)).aQ (i:=2) rfl 1 (af q.ha D.az.length q.ch) (by simp)).aQ (i:=2) rfl 2 (af q.sa D.aH.length q.cs) (by simp));go_wp2;refine cK (fun W9 hW9=>?_);have hq:=HQ.out;rw[<-hW9] at hq;have z_:=hq.aB (i:=2) rfl;have g0_:=z_.c 0 _ rfl;have g1_:=z_.c 1 _ rfl;have g2_:=z_.c 2 _ rfl;exact bodyPost_ret (v:=.tuple #[aj #[af q.aa D.aI.length q.ca,af q.ha D.az.length q.ch,af q.sa D.aH.length q.cs],ae au (3)]) (by simp[results,results46,go_sem,g0_,g1_,g2_]) rfl ⟨q,by rw[HM.out];rfl,by rw[HM.out];exact HQK.out,by
      rw[HM.out];exact((((hq.drop (i:=3) rfl).drop (i:=2) rfl).drop (i:=1) rfl).drop (i:=0) rfl).cast (by simp)⟩
theorem zG:∀(x y:List UInt8),Op.bytesLess x y=decide (x<y)
 | [],[]=>rfl
 | [],_::_=>rfl
 | _::_,[]=>rfl
 | a::s,b::t=>by
  rw[Op.bytesLess,zG s t,Bool.eq_iff_iff];simp[List.cons_lt_cons_iff]
theorem EL{a b:ByteArray}:Op.bytesLess a.toList b.toList=true ↔ a.toList<b.toList:=by rw[zG];simp
theorem toList_inj{a b:ByteArray}(h:a.toList=b.toList):a=b:=eX.1 (beq_iff_eq.2 h)
theorem Rz(a b:ByteArray):a.toList<b.toList\/a=b\/b.toList<a.toList:=by
 by_cases h1:a.toList<b.toList
 ·exact .inl h1
 ·by_cases h2:b.toList<a.toList
  ·exact .inr (.inr h2)
  ·exact .inr (.inl (toList_inj (List.le_antisymm (List.not_lt.1 h2) (List.not_lt.1 h1))))
theorem I7{a b:ByteArray}:F4 a b=true ↔ a.toList<b.toList:=by
 unfold F4;rw[zG];simp only[Bool.and_eq_true,Bool.not_eq_true',decide_eq_false_iff_not,beq_eq_false_iff_ne];constructor
 ·rintro⟨h1,h2⟩;rcases Rz a b with h|rfl|h
  ·exact h
  ·exact absurd rfl h2
  ·exact absurd h h1
 ·intro h;refine⟨List.not_lt.2 (List.le_of_lt h),fun e=>?_⟩;rw[e] at h;exact List.lt_irrefl _ h
def F6(l:List bF):Prop:=l.Pairwise (fun x y=>x.name.toList<y.name.toList)
theorem wm{A B:List bF}(h:A.map bF.name=B.map bF.name)(k:F6 A):F6 B:=by
 have k1:(A.map bF.name).Pairwise (fun x y=>x.toList<y.toList):=List.pairwise_map.2 k;rw[h] at k1;have k2:=List.pairwise_map.1 k1;exact k2
theorem yG{l:List bF}(h:F6 l):∀i j (hi:i<l.length) (hj:j<l.length),i<j->l[i].name≠l[j].name:=fun i j hi hj hij e=>by
 have:=List.pairwise_iff_getElem.1 h i j hi hj hij;rw[e] at this;exact List.lt_irrefl _ this
theorem LH{X:Type}{p:X->Bool}:∀{l:List X},∀y∈l.takeWhile p,p y=true
 | [],y,h=>by simp at h
 | a::l,y,h=>by
  rw[List.takeWhile_cons] at h;split at h
  ·rcases List.mem_cons.1 h with rfl|h
   ·assumption
   ·exact LH y h
  ·simp at h
theorem dw_head{X:Type}{p:X->Bool}:∀{l:List X}{y:X}{r:List X},l.dropWhile p=y::r->p y=false
 | [],y,r,h=>by simp at h
 | a::l,y,r,h=>by
  rw[List.dropWhile_cons] at h;split at h
  ·exact dw_head h
  ·rename_i q;cases h;simpa using q
theorem IW{l:List bF}{x:bF}(h:F6 l)(hx:∀y∈l,y.name≠x.name):F6 (qz l x):=by
 unfold qz;have e:=List.takeWhile_append_dropWhile (p:=fun y:bF=>!F4 x.name y.name) (l:=l);have h2:=h;unfold F6 at h2;rw[<-e,List.pairwise_append] at h2;obtain⟨p1,p2,p3⟩:=h2;have q1:∀y∈l.takeWhile (fun y:bF=>!F4 x.name y.name),y.name.toList<x.name.toList:=fun y hy=>by
  have a1:=LH y hy;have a2:y∈l:=by rw[<-e];exact List.mem_append_left _ hy
  rcases Rz y.name x.name with t|t|t
  ·exact t
  ·exact absurd t (hx y a2)
  ·rw[I7.2 t] at a1;cases a1
 have q2:∀y∈l.dropWhile (fun y:bF=>!F4 x.name y.name),x.name.toList<y.name.toList:=fun y hy=>by
  cases hd:l.dropWhile (fun y:bF=>!F4 x.name y.name) with
  | nil=>rw[hd] at hy;cases hy
  | cons z r =>
   have a1:=dw_head hd;have a2:x.name.toList<z.name.toList:=I7.1 (by simpa using a1);rw[hd] at hy p2;rcases List.mem_cons.1 hy with rfl|hy
   ·exact a2
   ·exact List.lt_trans a2 ((List.pairwise_cons.1 p2).1 y hy)
 unfold F6;rw[List.pairwise_append];refine⟨p1,List.pairwise_cons.2 ⟨q2,p2⟩,fun a ha b hb=>?_⟩;rcases List.mem_cons.1 hb with rfl|hb
 ·exact q1 a ha
 ·exact p3 a ha b hb
theorem sJ(nm:ByteArray)(a b:List bP):bf nm (a++b)=bf nm a+bf nm b:=by
 induction a with
 | nil=>simp[bf]
 | cons x l ih=>simp only[List.cons_append,bf,ih];omega
theorem wM(nm:ByteArray)(l:List bP)(x:bP):bf nm (kH l x)=bf nm l+(if x.fr=nm then x.aV else 0):=by
 have e:=List.takeWhile_append_dropWhile (p:=fun y:bP=>decide (y.id<x.id)) (l:=l);have e2:bf nm l=bf nm (l.takeWhile (fun y:bP=>decide (y.id<x.id)))+bf nm (l.dropWhile (fun y:bP=>decide (y.id<x.id))):=by rw[<-sJ,e]
 rw[e2];unfold kH;rw[sJ];simp only[bf];omega
theorem sN{X:Type}(l:List X)(k:Nat)(hk:k<l.length):l=l.take k++l[k]::l.drop (k+1):=by
 rw[List.getElem_cons_drop,List.take_append_drop]
theorem Ca{nm:ByteArray}{l:List bP}(h:∀x∈l,0<=x.aV){k:Nat}(hk:k<l.length):bf nm (jT l k)<=bf nm l:=by
 have e:bf nm l=bf nm (l.take k)+bf nm (l[k]::l.drop (k+1)):=by rw[<-sJ,<-sN l k hk]
 have h2:=h _ (List.getElem_mem hk);rw[e];unfold jT;rw[sJ];simp only[bf];split<;>omega
theorem Ju{X:Type}{l:List X}{k:Nat}{x:X}(h:x∈jT l k):x∈l:=by
 rcases List.mem_append.1 h with h|h
 ·exact List.mem_of_mem_take h
 ·exact List.mem_of_mem_drop h
theorem NV{X:Type}(l:List X)(k:Nat)(hk:k<l.length):(jT l k).take k++l[k]::(jT l k).drop k=l:=by
 have h1:(l.take k).length=k:=by rw[List.length_take];omega
 have e1:(jT l k).take k=l.take k:=by unfold jT;rw[List.take_append,h1,Nat.sub_self,List.take_zero,List.append_nil,List.take_take,Nat.min_self]
 have e2:(jT l k).drop k=l.drop (k+1):=by unfold jT;rw[List.drop_append,h1,Nat.sub_self,List.drop_zero,List.drop_eq_nil_of_le (by omega),List.nil_append]
 rw[e1,e2];exact(sN l k hk).symm
structure qI(D:bM):Prop where
 srt:F6 D.aI
 held:∀x∈D.aI,bf x.name D.az<=1000000000000
 prs:∀h∈D.az,gp D.aI h.fr h.to=none/\h.fr≠h.to/\1<=h.aV/\h.aV<=1000000000000
 sx:∀x∈D.aI,xc x
theorem Qk{D:bM}(k:df D=true):qI D:=by
 have hok:=ul k;unfold df at k;simp only[Bool.and_eq_true,decide_eq_true_eq] at k;obtain⟨⟨⟨⟨⟨⟨k1,k2⟩,k3⟩,k4⟩,k5⟩,k6⟩,k7⟩:=k;refine⟨?_,fun x hx=>?_,fun h hh=>?_,fun x hx=>?_⟩
 ·unfold F6;rw[List.pairwise_iff_getElem];intro i j hi hj hij
  induction j with
  | zero=>omega
  | succ j ih =>
   have h1:=dU k6 hj;rw[iE hj,kZ hj] at h1;simp only[Bool.and_eq_true] at h1;have h2:=EL.1 h1.1.1.2;rcases Nat.lt_or_ge i j with q|q
   ·exact List.lt_trans (ih (by omega) q) h2
   ·obtain rfl:i=j:=by omega
    exact h2
 ·obtain⟨i,hi,rfl⟩:=List.mem_iff_getElem.1 hx;have q:=dU k6 hi;rw[iE hi] at q;simp only[Bool.and_eq_true,dD,decide_eq_true_eq] at q;exact q.1.2.1.2
 ·obtain⟨i,hi,rfl⟩:=List.mem_iff_getElem.1 hh;have q:=dU k5 hi;rw[fI hi] at q;simp only[Bool.and_eq_true] at q;have q2:=q.2
  cases e1:dZ D.aI (D.az[i]).fr with
  | none=>rw[oo e1] at q2;cases q2
  | some a =>
   cases e2:dZ D.aI (D.az[i]).to with
   | none=>rw[om e2] at q2;cases q2
   | some b =>
    obtain⟨ha,na,_⟩:=fq e1;obtain⟨hb,nb,_⟩:=fq e2;rw[qm e1 e2 ha hb] at q2;simp only[Bool.and_eq_true,decide_eq_true_eq] at q2;refine⟨?_,fun e=>?_,(bW.1 q2.2).1,(bW.1 q2.2).2⟩
    ·unfold gp;rw[e1,e2];simp only;rw[o7 ha hb,q2.1.2];rfl
    ·rw[e,e2] at e1;exact q2.1.1 (by cases e1;rfl)
 ·exact⟨hok.lim x hx,hok.a.2 x hx⟩
theorem KI{D:bM}{c:Cm}(hm:qI D)(hk:c.kind=3) :
  ja D c=(⟨D.aI,lQ D.aI D.az ⟨c.id,c.fr,c.to,c.am⟩,D.aH⟩,(j6 D.aI D.az ⟨c.id,c.fr,c.to,c.am⟩).getD 0):=by
 unfold ja
 cases e1:dZ D.aI c.fr with
 | none =>
  have e:j6 D.aI D.az ⟨c.id,c.fr,c.to,c.am⟩=some 5:=by simp[j6,gp,e1]
  simp[lQ,e]
 | some i =>
  cases e2:dZ D.aI c.to with
  | none =>
   have e:j6 D.aI D.az ⟨c.id,c.fr,c.to,c.am⟩=some 5:=by simp[j6,gp,e1,e2]
   simp[lQ,e]
  | some j =>
   cases e3:o8 D.aI i j with
   | false =>
    have e:j6 D.aI D.az ⟨c.id,c.fr,c.to,c.am⟩=some 6:=by simp[j6,gp,e1,e2,e3]
    simp[lQ,e,e3]
   | true =>
    obtain⟨hil,eni,_⟩:=fq e1;have hp:gp D.aI c.fr c.to=none:=by simp[gp,e1,e2,e3]
    have hc:=Fh (H:=D.az) (hd:=⟨c.id,c.fr,c.to,c.am⟩) hp e1 hil;simp only[e3,if_true];rw[if_neg (by omega)];unfold zY;rw[wM,if_pos rfl];have hh:bf (D.aI[i]).name (kH D.az ⟨c.id,c.fr,c.to,c.am⟩)=bf c.fr D.az+c.am:=by rw[wM,eni,if_pos rfl]
    have hkp:iH D.aI (kH D.az ⟨c.id,c.fr,c.to,c.am⟩) i=dD D.aI[i] (bf c.fr D.az+c.am):=by simp[iH,hil,hh]
    rw[hkp];simp only at hc;by_cases k8:1000000000000<bf c.fr D.az+c.am
    ·rw[if_pos k8] at hc⊢;simp[lQ,hc]
    ·rw[if_neg k8] at hc⊢;have hx:=hm.sx _ (List.getElem_mem hil);have hcv:dD D.aI[i] (bf c.fr D.az+c.am)=mh D.aI[i] (bf (D.aI[i]).name D.az) c.am:=by
      obtain⟨⟨x1,x2⟩,x3,x4⟩:=hx;have i1:eu (-1000000000000) 1000000000000 (D.aI[i]).aS=true:=bW.2 ⟨x3,x4⟩;have i2:decide (bf c.fr D.az+c.am<=1000000000000)=true:=decide_eq_true (by omega);unfold dD mh;rw[i1,i2,eni,Bool.true_and,Bool.true_and,Bool.eq_iff_iff];simp only[Bool.or_eq_true,decide_eq_true_eq];omega
     rw[hcv];cases hv:mh D.aI[i] (bf (D.aI[i]).name D.az) c.am
     ·rw[hv] at hc;have hc:j6 D.aI D.az ⟨c.id,c.fr,c.to,c.am⟩=some 7:=by rw[hc];rfl
      simp[lQ,hc]
     ·rw[hv] at hc;have hc:j6 D.aI D.az ⟨c.id,c.fr,c.to,c.am⟩=none:=by rw[hc];rfl
      simp[lQ,hc]
theorem J2{D:bM}{c:Cm}(hm:qI D)(hk:c.kind=2)(hne:c.fr≠c.to) :
  ja D c=(⟨ig D.aI D.az c.fr c.to c.am,D.az,D.aH⟩,(postC D.aI D.az c.fr c.to c.am).getD 0):=by
 unfold ja
 cases e1:dZ D.aI c.fr with
 | none =>
  have e:postC D.aI D.az c.fr c.to c.am=some 5:=by simp[postC,gp,e1]
  simp[ig,e]
 | some i =>
  cases e2:dZ D.aI c.to with
  | none =>
   have e:postC D.aI D.az c.fr c.to c.am=some 5:=by simp[postC,gp,e1,e2]
   simp[ig,e]
  | some j =>
   cases e3:o8 D.aI i j with
   | false =>
    have e:postC D.aI D.az c.fr c.to c.am=some 6:=by simp[postC,gp,e1,e2,e3]
    simp[ig,e,e3]
   | true =>
    have hp:gp D.aI c.fr c.to=none:=by simp[gp,e1,e2,e3]
    simp only[e3,if_true];rw[if_pos hk];exact Ez hp e1 e2 hne (fun x hx=>(hm.sx x hx).1.1) hm.held
theorem NH{l:List bP}{r:Int}(h:fi (l.map bP.id) r=none):l.find? (fun h=>h.id==r)=none:=by
 rw[fi,List.findIdx?_eq_none_iff] at h;rw[List.find?_eq_none];intro x hx;have:=h x.id (List.mem_map.2 ⟨x,hx,rfl⟩);simpa using this
theorem rP{l:List bP}{r:Int}{k:Nat}(h:fi (l.map bP.id) r=some k):∃hk:k<l.length,l[k].id=r/\l.find? (fun h=>h.id==r)=some l[k]:=by
 rw[fi,List.findIdx?_eq_some_iff_getElem] at h;obtain⟨h1,h2,h3⟩:=h;have hk:k<l.length:=by simpa using h1
 have e:l[k].id=r:=by simpa using h2
 refine⟨hk,e,?_⟩;rw[List.find?_eq_some_iff_getElem];refine⟨by simpa using e,k,hk,rfl,fun j hj=>?_⟩;have:=h3 j hj;simpa using this
theorem uu{l:List bP}{r:Int}{k:Nat}(hup:(l.map bP.id).Pairwise (· < ·))(hk:k<l.length)(e:l[k].id=r):l.filter (fun h=>!(h.id==r))=jT l k:=by
 have hup2:l.Pairwise (fun a b=>a.id<b.id):=List.pairwise_map.1 hup;have hs:=sN l k hk;have h3:=hup2;rw[hs,List.pairwise_append] at h3;obtain⟨_,p2,p3⟩:=h3;have a1:∀y∈l.take k,y.id<r:=fun y hy=>by rw[<-e];exact p3 y hy _ (List.mem_cons_self ..)
 have a2:∀y∈l.drop (k+1),r<y.id:=fun y hy=>by rw[<-e];exact(List.pairwise_cons.1 p2).1 y hy
 have f1:(l.take k).filter (fun h=>!(h.id==r))=l.take k:=List.filter_eq_self.2 fun y hy=>by have:=a1 y hy;simp;omega
 have f2:(l.drop (k+1)).filter (fun h=>!(h.id==r))=l.drop (k+1):=List.filter_eq_self.2 fun y hy=>by have:=a2 y hy;simp;omega
 have f3:(l.take k++l[k]::l.drop (k+1)).filter (fun h=>!(h.id==r))=l.take k++l.drop (k+1):=by
  rw[List.filter_append,f1,List.filter_cons_of_neg (by simp[e]),f2]
 rw[<-hs] at f3;exact f3
theorem Fx{D:bM}{c:Cm}(h:fi (D.az.map bP.id) c.ref=none):nK D c=(D,9):=by
 unfold nK;rw[NH h]
theorem NJ{D:bM}{c:Cm}{k:Nat}(hup:(D.az.map bP.id).Pairwise (· < ·))(h:fi (D.az.map bP.id) c.ref=some k)(hk:c.kind=5):nK D c=(⟨D.aI,jT D.az k,D.aH⟩,0):=by
 obtain⟨hkl,e,hf⟩:=rP h;unfold nK;rw[hf];simp only;rw[if_pos hk,uu hup hkl e]
def takeC(A:List bF)(H:List bP)(k:Nat)(x:bP):Option Int:=postC A (jT H k) x.fr x.to x.aV
def takeA(A:List bF)(H:List bP)(k:Nat)(x:bP):List bF:=ig A (jT H k) x.fr x.to x.aV
def Ej(A:List bF)(H:List bP)(k:Nat)(x:bP):List bP:=match takeC A H k x with
 | none=>jT H k
 | some _=>H
theorem zt{A:List bF}{H:List bP}{fr tn:ByteArray}{am:Int}{code:Int}(h:postC A H fr tn am=some code):5<=code/\code<=8:=by
 cases hp:gp A fr tn with
 | some c =>
  have e:postC A H fr tn am=some c:=by simp[postC,hp]
  rw[e] at h;cases h;unfold gp at hp;split at hp
  ·split at hp
   ·cases hp
   ·cases hp;omega
  ·cases hp;omega
 | none =>
  unfold gp at hp;split at hp
  ·rename_i i j e1 e2;obtain⟨hil,_,_⟩:=fq e1;obtain⟨hjl,_,_⟩:=fq e2;split at hp
   ·rename_i q;have:=rq (H:=H) (am:=am) (by simp[gp,e1,e2,q]) e1 e2 hil hjl;rw[this] at h
    repeat' split at h
    all_goals (cases h<;>omega)
   ·cases hp
  ·cases hp
theorem zq{A:List bF}{H:List bP}{fr tn:ByteArray}{am:Int}{code:Int}(h:postC A H fr tn am=some code):ig A H fr tn am=A:=by simp[ig,h]
theorem NI{D:bM}{c:Cm}{k:Nat}(hm:qI D)(hup:(D.az.map bP.id).Pairwise (· < ·))(h:fi (D.az.map bP.id) c.ref=some k)(hk:c.kind=4)(hkl:k<D.az.length) :
  nK D c=(⟨takeA D.aI D.az k D.az[k],Ej D.aI D.az k D.az[k],D.aH⟩,(takeC D.aI D.az k D.az[k]).getD 0):=by
 obtain⟨_,e,hf⟩:=rP h;obtain⟨hp,hne,g1,g2⟩:=hm.prs _ (List.getElem_mem hkl);have hp0:=hp;unfold gp at hp0;split at hp0
 ·rename_i i j e1 e2;have hpay:=Ez (L:=⟨D.aI,jT D.az k,D.aH⟩) (am:=(D.az[k]).aV) hp e1 e2 hne (fun x hx=>(hm.sx x hx).1.1) (fun x hx=>Int.le_trans (Ca (fun y hy=>by have:=(hm.prs y hy).2.2.1;omega) hkl) (hm.held x hx));unfold nK;rw[hf];simp only;rw[if_neg (by omega),uu hup hkl e,e1,e2];simp only;rw[hpay]
  cases hc:postC D.aI (jT D.az k) (D.az[k]).fr (D.az[k]).to (D.az[k]).aV with
  | none=>simp[takeA,Ej,takeC,hc]
  | some code =>
   have:=zt hc;have hc0:¬ code=0:=by omega
   simp[takeA,Ej,takeC,hc,zq hc,hc0]
 ·cases hp0
theorem oJ(l:List bF)(x:bF):(l++[x]).Perm (qz l x):=(nC (fun y:bF=>!F4 x.name y.name) l x).symm
theorem ol(A:List bF)(H:List bP)(fr tn:ByteArray)(am:Int):(ig A H fr tn am).map bF.name=A.map bF.name:=by
 unfold ig;split
 ·unfold iV;rw[jB,jB]
 ·rfl
structure yF(D:bM)(c:Cm)(o:Option Int)(A':List bF)(H':List bP):Prop where
 aI:A'.Perm (lZ D c).1.aI
 az:H'=(lZ D c).1.az
 code:(lZ D c).2=o.getD 0
 nz:∀k,o=some k->0<k
 srt:F6 (lZ D c).1.aI
theorem Ie{D:bM}{c:Cm}(hm:qI D)(hk:c.kind=1){i:Nat}(h:dZ D.aI c.fr=some i):yF D c (some 4) D.aI D.az:=by
 have e:lZ D c=(D,4):=by simp[lZ,hk,kW,h]
 exact⟨by rw[e],by rw[e],by rw[e];rfl,fun k q=>by cases q;omega,by rw[e];exact hm.srt⟩
theorem FC{D:bM}{c:Cm}(hm:qI D)(hk:c.kind=1)(h:dZ D.aI c.fr=none):yF D c none (D.aI++[⟨c.fr,c.to,c.am,0⟩]) D.az:=by
 have e:lZ D c=(⟨qz D.aI ⟨c.fr,c.to,c.am,0⟩,D.az,D.aH⟩,0):=by simp[lZ,hk,kW,h]
 exact⟨by rw[e];exact oJ _ _,by rw[e],by rw[e];rfl,fun k q=>(by cases q),by
  rw[e];refine IW hm.srt (fun y hy=>?_);obtain⟨i,hi,rfl⟩:=List.mem_iff_getElem.1 hy;exact vz h i hi⟩
theorem Ps{D:bM}{c:Cm}(hm:qI D)(hk:c.kind=2)(hne:c.fr≠c.to):yF D c (postC D.aI D.az c.fr c.to c.am) (ig D.aI D.az c.fr c.to c.am) D.az:=by
 have e:lZ D c=ja D c:=by simp[lZ,hk]
 rw[J2 hm hk hne] at e;exact⟨by rw[e],by rw[e],by rw[e],fun k q=>by have:=zt q;omega,by rw[e];exact wm (ol ..).symm hm.srt⟩
theorem Ns{A:List bF}{H:List bP}{hd:bP}{code:Int}(h:j6 A H hd=some code):0<code:=by
 unfold j6 at h;split at h
 ·rename_i c hp;cases h;unfold gp at hp;split at hp
  ·split at hp
   ·cases hp
   ·cases hp;omega
  ·cases hp;omega
 ·repeat' split at h
  all_goals (cases h<;>omega)
theorem Pt{D:bM}{c:Cm}(hm:qI D)(hk:c.kind=3):yF D c (j6 D.aI D.az ⟨c.id,c.fr,c.to,c.am⟩) D.aI (lQ D.aI D.az ⟨c.id,c.fr,c.to,c.am⟩):=by
 have e:lZ D c=ja D c:=by simp[lZ,hk]
 rw[KI hm hk] at e;exact⟨by rw[e],by rw[e],by rw[e],fun k q=>Ns q,by rw[e];exact hm.srt⟩
theorem xR{D:bM}{c:Cm}(hm:qI D)(hk:c.kind=4\/c.kind=5)(h:fi (D.az.map bP.id) c.ref=none):yF D c (some 9) D.aI D.az:=by
 have e:lZ D c=nK D c:=by unfold lZ;rw[if_neg (by omega),if_neg (by omega)]
 rw[Fx h] at e;exact⟨by rw[e],by rw[e],by rw[e];rfl,fun k q=>by cases q;omega,by rw[e];exact hm.srt⟩
theorem Pv{D:bM}{c:Cm}{k:Nat}(hm:qI D)(hup:(D.az.map bP.id).Pairwise (· < ·))(hk:c.kind=5)(h:fi (D.az.map bP.id) c.ref=some k):yF D c none D.aI (jT D.az k):=by
 have e:lZ D c=nK D c:=by unfold lZ;rw[if_neg (by omega),if_neg (by omega)]
 rw[NJ hup h hk] at e;exact⟨by rw[e],by rw[e],by rw[e];rfl,fun k q=>(by cases q),by rw[e];exact hm.srt⟩
theorem Pq{D:bM}{c:Cm}{k:Nat}(hm:qI D)(hup:(D.az.map bP.id).Pairwise (· < ·))(hk:c.kind=4)(h:fi (D.az.map bP.id) c.ref=some k)(hkl:k<D.az.length):yF D c (takeC D.aI D.az k D.az[k]) (takeA D.aI D.az k D.az[k]) (Ej D.aI D.az k D.az[k]):=by
 have e:lZ D c=nK D c:=by unfold lZ;rw[if_neg (by omega),if_neg (by omega)]
 rw[NI hm hup h hk hkl] at e;exact⟨by rw[e],by rw[e],by rw[e],fun k q=>by have:=zt q;omega,by rw[e];exact wm (ol ..).symm hm.srt⟩
theorem zh{w:World}{base:Nat}{e:TypeId}{size c n:Nat}{a:Option Addr}{xs:List Value}(h:w.ownsRow base e size (af a n c) n xs)(h0:0<n):∃g,a=some ⟨g,0,none⟩:=by
 obtain⟨_,⟨_,h1⟩|⟨g,c',cur,e0,_⟩⟩:=h
 ·omega
 ·simp only[Value.slice.injEq] at e0;exact⟨g,e0.1⟩
theorem Md{w:World}{base:Nat}{e:TypeId}{size c n:Nat}{a:Option Addr}{xs:List Value}(h:w.ownsRow base e size (af a n c) n xs)(h0:0<n):n<=c:=by
 obtain⟨_,⟨_,h1⟩|⟨g,c',cur,e0,_,_,hc,_⟩⟩:=h
 ·omega
 ·simp only[Value.slice.injEq] at e0;rw[e0.2.2];exact hc
theorem FH{F:List Nat}{w x:World}{S:List (List Rs)}(h:Pool F w S x){i g c k:Nat}{l:List bP}(hi:S[i]?=some [row 109 4 (af (some ⟨g,0,none⟩) l.length c) l.length (l.flatMap aG)])(hl:l.length<=1048576)(hk:k<l.length) :
  Calls prog 209 #[af (some ⟨g,0,none⟩) l.length c,ae au (k:Int),ae au ((k:Int)+1)] x fun e y=>e=.returned (af (some ⟨g,0,none⟩) (jT l k).length c)/\Pool F w (S.set i [row 109 4 (af (some ⟨g,0,none⟩) (jT l k).length c) (jT l k).length ((jT l k).flatMap aG)]) y:=by
 refine(Ig g c l k x hl hk (h.rowAt hi)).mono ?_;rintro e y⟨he,ho,hg⟩;rw[<-vL l k hk] at he ho;exact⟨he,h.grow hi ho hg (.inl rfl)⟩
def oD(q m:Nat)(sv:Value)(D:bM)(c:Cm)(g:Value)(FF:List Nat)(w:World)(e:Ending)(w':World):Prop :=
 ∃(o:Option Int)(ps':List Nat)(hv':Value)(A':List bF)(H':List bP),yF D c o A' H'/\ps'.length=A'.length/\jw o g FF (fU q m ps' hv' sv A' H' D.aH).flatten w e w'
theorem NK(q m:Nat)(ps:List Nat)(hv sv:Value)(D:bM)(c:Cm)(t:TypeId)(v:Value)(w:World)(hps:ps.length=D.aI.length)(hm:qI D)(hup:(D.az.map bP.id).Pairwise (· < ·))(hl:D.az.length<=10)(hk:c.kind=5)(h:Star (fU q m ps hv sv D.aI D.az D.aH).flatten w)(hg:w.cell? ⟨5,0,none⟩=some (.iface t v)) :
  Calls prog 168 #[ai (some ⟨q,0,none⟩),ae au c.ref] w fun e w'=>oD q m sv D c (.iface t v) (ic (fU q m ps hv sv D.aI D.az D.aH).flatten) w e w':=by
 obtain⟨FF,hFF⟩:∃FF,FF=ic (fU q m ps hv sv D.aI D.az D.aH).flatten:=⟨_,rfl⟩;obtain⟨ha,ch,sa,cs,rfl,rfl,hbk⟩:=h.bk hps;obtain⟨sv,hsv⟩:∃sv,sv=af sa D.aH.length cs:=⟨_,rfl⟩;rw[<-hsv] at h hFF⊢;have HP:Hid (Pool FF w [[blk q [.map (some m),af ha D.az.length ch,sv]],[fE m (D.aI.map bF.name) ps],dV ps D.aI,[row 109 4 (af ha D.az.length ch) D.az.length (D.az.flatMap aG)],[row 112 2 sv D.aH.length (D.aH.flatMap aM)],[]] w):=hide (by
  rw[hFF];exact(Pool.of h).cast (by simp[fU]))
 have HG:=hide hg;have HK:=hide hbk;have HM:=hide hm;have HU:=hide hup;have HC:=hide hk;have HPS:=hide hps;rw[<-hFF];clear h hg hFF hps hbk hm hup hk hsv;go_enter func168,ntmps168;go_wp2_with fail;refine(oL q ha D.az ch c.ref w (by omega) HK.az HK.lt HK.c1).mono ?_;rintro e w1⟨rfl,hb1⟩;have HP1:=hide (HP.keep hb1);have HG1:=hide ((hb1.cell (p:=⟨5,0,none⟩) (dO HG.out)).trans HG.out);clear hb1 HP HG HK
 cases hf:fi (D.az.map bP.id) c.ref with
 | none =>
  have HE:=hide (xR HM.out (.inr HC.out) hf);clear hf;simp only[yO];go_wp2_with fail;refine(iM _ t v _ HG1.out).mono ?_;rintro e w3⟨rfl,rfl⟩;go_wp2_with fail;go_ret;exact⟨some 9,ps,af ha D.az.length ch,D.aI,D.az,HE.out,HPS.out,_,rfl,(HP1.aY (i:=5) rfl [ae au 9,.iface t v] 233).cast (by simp[fU])⟩
 | some k =>
  obtain⟨hkl,_,_⟩:=rP hf;have HE:=hide (Pv HM.out HU.out HC.out hf);obtain⟨g,rfl⟩:=zh (HP1.rowAt (i:=3) rfl) (by omega);clear hf;simp only[yO];have k0:¬ ((k:Int)<0):=by omega
  have w1_:IntKind.i64.wrap ((k:Int)+1)=(k:Int)+1:=iP (by omega);have d1:=(HP1.aB (i:=0) rfl).c 1 _ rfl;have dl:=(HP1.aB (i:=0) rfl).lt;go_wp2_with fail;refine(FH HP1.out (i:=3) rfl (by omega) hkl).mono ?_;rintro e w2⟨rfl,hp2⟩;have HP2:Hid (Pool FF w [[blk q [.map (some m),af (some ⟨g,0,none⟩) D.az.length ch,sv]],[fE m (D.aI.map bF.name) ps],dV ps D.aI,[row 109 4 (af (some ⟨g,0,none⟩) (jT D.az k).length ch) (jT D.az k).length ((jT D.az k).flatMap aG)],[row 112 2 sv D.aH.length (D.aH.flatMap aM)],[]] w2):=hide hp2;clear hp2 HP1 d1 dl;obtain⟨Z,hZ⟩:∃Z,Z=jT D.az k:=⟨_,rfl⟩;rw[<-hZ] at HP2 HE⊢;clear hZ;have t1:=(HP2.aB (i:=0) rfl).c 1 _ rfl;have f1:=(HP2.aB (i:=0) rfl).f 1;have HP3:=hide (HP2.aQ (i:=0) rfl 1 (af (some ⟨g,0,none⟩) Z.length ch) (by simp));clear HP2;go_wp2_with fail;go_ret;exact⟨none,ps,af (some ⟨g,0,none⟩) Z.length ch,D.aI,Z,HE.out,HPS.out,rfl,HP3.cast (by simp[fU])⟩
end Go.Proofs.YtdbmmdecclalgaaGreatDoor
