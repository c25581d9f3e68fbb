import Derived.Test.YtdbmmdecclalgaaGreatDoorQao
namespace Go.Proofs.YtdbmmdecclalgaaGreatDoor
open Go.Value renaming int → ae, slice → af, string → ag, pointer → ai, agg → aj
open Go.IntKind renaming i64 → au
open Go renaming undef → ak
open Go.Proofs.Tryz Go.ChangeShapes Go.WideShapes Go.ChangeAt Go.RowKit
set_option linter.unusedVariables false
set_option maxRecDepth 100000
set_option maxHeartbeats 16000000
theorem Bc(p:LP)(D:bM)(id:Int)(w:World)(n2:D.az.length<=1048576)(h:fM w p.ha D.az) :
  Calls prog 77 #[eD p D,ae au id] w fun e w'=>e=.returned (.bool (D.az.any (fun h=>h.id==id)))/\Below w.heap.size w w':=by
 obtain⟨aa,ca,ha,ch,sa,cs⟩:=p;have HC:Hid (fM w ha D.az):=hide h;clear h;unfold eD;simp only;go_enter func77,ntmps77;go_wp2;go_loop [5] (fun i=>∃k:Nat,k<=D.az.length/\i=ae au (k:Int)/\Hid (∀j (hj:j<D.az.length),j<k->D.az[j].id≠id)) (fun i=>D.az.length-(intOf i).toNat)
 case atStart=>exact⟨0,Nat.zero_le _,rfl,hide (fun j _ hj=>by omega)⟩
 case round =>
  obtain⟨k,hk,rfl,HN⟩:=hrel;by_cases hlt:k<D.az.length
  ·obtain⟨b,off,rfl,hb,c0,_⟩:=oC HC.row k hlt;by_cases hq:(D.az[k]).id=id
   ·have hq':((D.az[k]).id==id)=true:=by simp[hq]
    have HR:Hid (D.az.any (fun h=>h.id==id)=true):=hide (by rw[List.any_eq_true];exact⟨_,List.getElem_mem hlt,hq'⟩);clear hq;go_wp2;go_ret;exact⟨by rw[HR.out];rfl,aF (Below.refl _ _) _⟩
   ·have hq':((D.az[k]).id==id)=false:=by simp[hq]
    have HS:Hid (∀j (hj:j<D.az.length),j<k+1->D.az[j].id≠id):=hide (fun j hj hjk=>by
     rcases Nat.lt_or_ge j k with h|h
     ·exact HN.out j hj h
     ·obtain rfl:j=k:=by omega
      exact hq)
    clear hq;go_wp2;exact⟨⟨k+1,by omega,by go_num,HS⟩,by simp[intOf];omega⟩
  ·have HR:Hid (D.az.any (fun h=>h.id==id)=false):=hide (by
    rw[List.any_eq_false];intro x hx;obtain⟨j,hj,rfl⟩:=List.mem_iff_getElem.1 hx;have:=HN.out j hj (by omega);simpa using this)
   go_wp2;go_ret;exact⟨by rw[HR.out];rfl,aF (Below.refl _ _) _⟩
def hz:bP:=⟨0,⟨#[]⟩,⟨#[]⟩,0⟩
def gB(l:List bP)(ref:Int)(k:Nat):List bP:=(l.take k).filter (fun h=>!(h.id==ref))
def lS(l:List bP)(ref:Int)(k:Nat):Option bP:=(l.take k).find? (fun h=>h.id==ref)
theorem KD{l:List bP}{ref:Int}{k:Nat}(hk:k<l.length)(h:l[k].id=ref):gB l ref (k+1)=gB l ref k:=by
 unfold gB;rw[dX _ _ hk,List.filter_append];simp[h]
theorem He{l:List bP}{ref:Int}{k:Nat}(hk:k<l.length)(h:l[k].id≠ref):gB l ref (k+1)=gB l ref k++[l[k]]:=by
 unfold gB;rw[dX _ _ hk,List.filter_append];simp[h]
theorem Hq{l:List bP}{ref:Int}{k:Nat}(hk:k<l.length)(h:l[k].id≠ref):lS l ref (k+1)=lS l ref k:=by
 unfold lS;rw[dX _ _ hk,List.find?_append];have:List.find? (fun h=>h.id==ref) [l[k]]=none:=by simp[h]
 rw[this];simp
theorem KN{l:List bP}{ref:Int}{k:Nat}(hu:(l.map bP.id).Pairwise (· < ·))(hk:k<l.length)(h:l[k].id=ref):lS l ref (k+1)=some l[k]:=by
 have h0:lS l ref k=none:=by
  unfold lS;rw[List.find?_eq_none];intro x hx;obtain⟨j,hj,rfl⟩:=List.mem_iff_getElem.1 hx;simp only[List.length_take] at hj;rw[List.pairwise_iff_getElem] at hu;have:=hu j k (by simp;omega) (by simpa using hk) (by omega);simp only[List.getElem_map,List.getElem_take] at this⊢;rw[h] at this;simp;omega
 unfold lS at h0⊢;rw[dX _ _ hk,List.find?_append,h0];simp[h]
theorem KE(l:List bP)(ref:Int):gB l ref l.length=l.filter (fun h=>!(h.id==ref)):=by simp[gB]
theorem KP(l:List bP)(ref:Int):lS l ref l.length=l.find? (fun h=>h.id==ref):=by simp[lS]
theorem KC(l:List bP)(ref:Int)(k:Nat):(gB l ref k).length<=k:=by
 unfold gB;exact Nat.le_trans (List.length_filter_le _ _) (by simp;omega)
theorem Hw(C:List bP)(x:bP):C.flatMap aG++aG x=(C++[x]).flatMap aG:=by simp
structure Ti(D:bM):Prop where
 up:(D.az.map bP.id).Pairwise (· < ·)
 ids:∀h∈D.az,1<=h.id
 pairs:∀h∈D.az,∃i j,dZ D.aI h.fr=some i/\dZ D.aI h.to=some j
structure Ur(p:LP)(D:bM)(c:Cm)(s M:Nat)(aa:Option Addr)(ca:Nat)(ha:Option Addr)(ch:Nat)(sa:Option Addr)(cs k:Nat)(hlt:k<D.az.length)(a5:Option Addr)(k5 b2 off2:Nat)(w:World)(l0 l1 l2 l3 l4 l5 l6 l7 l8 l9 l10:Bool)(u36 u37 u38 u39 u40 u41 u42 u43 u44 u45:Value)(x:World):Prop where
 aT:Pool [] w [[blk s (bJ p D)],[blk (s+1) c.cells],[blk (s+1+1) [af none 0 0,af none 0 0,af none 0 0]],[bA 4 aL aa ca D.aI],[bA 4 aG ha ch D.az],[bA 2 aM sa cs D.aH],cond l10 [blk M [af aa D.aI.length ca,u44,af sa D.aH.length cs]] [blk M [af aa D.aI.length ca,(af a5 (gB D.az c.ref k).length k5),af sa D.aH.length cs]],cond l8 [row 109 4 u44 ((gB D.az c.ref k).length+1) ((gB D.az c.ref k).flatMap aG++aG D.az[k])] [row 109 4 (af a5 (gB D.az c.ref k).length k5) (gB D.az c.ref k).length ((gB D.az c.ref k).flatMap aG)],[blk (M+1) (aG ((lS D.az c.ref k).getD hz))],cond l7 [blk (jP (tJ u43)) (aG D.az[k])] [],[]] x
 q43:l7=true->u43=af (some ⟨jP (tJ u43),0,none⟩) 1 1
 d8_7:l8=true->l7=true
 d10_8:l10=true->l8=true
 d10_1:l10=true->l1=true
 p36:l0=true->u36=ai (some ⟨M,1,none⟩)
 p45:l9=true->u45=ai (some ⟨M,1,none⟩)
 p38:l2=true->u38=ai (some ⟨s,1,none⟩)
 p39:l3=true->u39=af (some ⟨b2,off2,none⟩) D.az.length p.ch
 p40:l4=true->u40=ae au (k:Int)
 p41:l5=true->u41=ai (some ⟨b2,off2+k*4,none⟩)
 p42:l6=true->u42=aj #[ae au (D.az[k]).id,ag (D.az[k]).fr,ag (D.az[k]).to,ae au (D.az[k]).aV]
 p37:l1=true->u37=(af a5 (gB D.az c.ref k).length k5)
theorem BP(a:Option Addr)(l:List bF)(cap:Nat)(vh vs:Value)(nm:ByteArray)(w:World){i:Nat}(hl:l.length<=1048576)(h:lY w a l)(hi:dZ l nm=some i) :
  Calls prog 99 #[aj #[af a l.length cap,vh,vs],ag nm] w fun e w'=>e=.returned (ae au (i:Int))/\Below w.heap.size w w':=by
 refine(lF a l cap vh vs nm w hl h).mono ?_;intro e w' hf;obtain⟨hb,r,rfl,hr⟩:=pO hf;rcases hr with ⟨k,_,e1,rfl⟩|⟨e1,_⟩
 ·rw[hi] at e1;cases e1;exact⟨rfl,hb⟩
 ·rw[hi] at e1;cases e1
def Mr(q:LP)(R:bM×Int):List Rs:=if R.2=0 then bC q R.1 else []
theorem Pool.pay{F:List Nat}{w x y:World}{S:List (List Rs)}(h:Pool F w S x){i:Nat}(hi:S[i]?=some []){q:LP}{R:bM×Int}(hb:Below x.heap.size x y)(hp:R.2=0->Pool [] x [bC q R.1] y):Pool F w (S.set i (Mr q R)) y:=by
 unfold Mr;split
 ·rename_i z;have p:=hp z;refine h.new hi hb (p.get (i:=0) rfl) (fun c hc=>?_);rcases p.hi c (by simpa using hc) with k|k
  ·cases k
  ·exact k
 ·exact h.new hi hb (Star.nil _) (fun c hc=>by simp[ic] at hc)
structure Uq(p:LP)(D:bM)(c:Cm)(s M:Nat)(aa:Option Addr)(ca:Nat)(ha:Option Addr)(ch:Nat)(sa:Option Addr)(cs:Nat)(a9:Option Addr)(c9:Nat)(N:List bP)(g:bP)(i j:Nat)(R:bM×Int)(w:World)(l0 l1 l2 l3 l4 l5 l6 l7 l8 l9 l10 l11 l12 l13 l14 l15 l16 l17:Bool)(u9 u10 u54 u55 u56 u57 u58 u59 u60 u61 u62 u63 u64 u65 u66 u67 u68:Value)(q:LP)(x:World):Prop where
 aT:Pool [] w [[blk s (bJ p D)],[blk (s+1) c.cells],[blk (s+1+1) [af none 0 0,af none 0 0,af none 0 0]],[bA 4 aL aa ca D.aI],[bA 4 aG ha ch D.az],[bA 2 aM sa cs D.aH],[blk M [af aa D.aI.length ca,af a9 N.length c9,af sa D.aH.length cs]],[bA 4 aG a9 c9 N],[blk (M+1) (aG g)],cond l11 (Mr q R) [],cond l16 [blk (FZ u9) (bJ q R.1)] (cond l15 [blk (FZ u9) [af none 0 0,af none 0 0,af none 0 0]] [])] x
 q59:l4=true->u59=ae au (i:Int)
 q63:l8=true->u63=ae au (j:Int)
 q66:l11=true->u66=.tuple #[eD q R.1,ae au R.2]
 qq:l11=true->(R.2≠0->q=⟨aa,ca,a9,c9,sa,cs⟩)/\(R.2=0->jr q R.1)
 q54:l12=true->u54=u66
 q67:l13=true->u67=eD q R.1
 q68:l14=true->u68=ae au R.2
 z9:l15=true->u9=ai (some ⟨FZ u9,0,none⟩)
 q10:l17=true->u10=ae au R.2
 d12_11:l12=true->l11=true
 d13_12:l13=true->l12=true
 d13_11:l13=true->l11=true
 d14_12:l14=true->l12=true
 d14_11:l14=true->l11=true
 d16_15:l16=true->l15=true
 d16_13:l16=true->l13=true
 d16_11:l16=true->l11=true
 p55:l0=true->u55=aj #[af aa D.aI.length ca,af a9 N.length c9,af sa D.aH.length cs]
 p56:l1=true->u56=aj #[af p.aa D.aI.length p.ca,af p.ha D.az.length p.ch,af p.sa D.aH.length p.cs]
 p60:l5=true->u60=aj #[af p.aa D.aI.length p.ca,af p.ha D.az.length p.ch,af p.sa D.aH.length p.cs]
 p57:l2=true->u57=ai (some ⟨M+1,1,none⟩)
 p58:l3=true->u58=ag g.fr
 p61:l6=true->u61=ai (some ⟨M+1,2,none⟩)
 p62:l7=true->u62=ag g.to
 p64:l9=true->u64=ai (some ⟨M+1,3,none⟩)
 p65:l10=true->u65=ae au g.aV
theorem Kw(p:LP)(D:bM)(c:Cm)(w:World)(n1:nV D.aI)(n2:jq D.az)(n3:D.aH.length<=1048576)(hlim:∀x∈D.aI,-1<=x.bB/\x.bB<=1000000000000)(hc:Ti D)(hpk:jr p D)(h:iO w p.aa p.ha p.sa D) :
  Calls prog 80 #[eD p D,c.v] w fun e w'=>yS p D (nK D c) w e w':=by
 have HL:=hide h;have HK:=hide hpk;have HN1:=hide n1;have HN2:=hide n2;have HLI:=hide hlim;have HC:=hide hc;have hn1:D.aI.length<=12:=n1.1;have hn2:D.az.length<=10:=n2.1;obtain⟨W3,hW3⟩:∃W3,W3=((w.alloc (.cells #[af p.aa D.aI.length p.ca,af p.ha D.az.length p.ch,af p.sa D.aH.length p.cs] 31)).alloc (.cells #[ae au c.id,ae au c.kind,ag c.fr,ag c.to,ae au c.am,ae au c.ref] 88)).alloc (.cells #[af none 0 0,af none 0 0,af none 0 0] 31):=⟨_,rfl⟩;have HP0:Hid (Pool [] w [[blk w.heap.size (bJ p D)],[blk (w.heap.size+1) c.cells],[blk (w.heap.size+1+1) [af none 0 0,af none 0 0,af none 0 0]],[],[],[],[],[],[],[],[]] W3):=hide (by
  have p1:=(Pool.start w [[],[],[],[],[],[],[],[],[],[],[]] rfl).aY (i:=0) rfl (bJ p D) 31;have s1:(w.alloc (.cells (bJ p D).toArray 31)).heap.size=w.heap.size+1:=by simp
  have p2:=p1.aY (i:=1) rfl c.cells 88;have s2:((w.alloc (.cells (bJ p D).toArray 31)).alloc (.cells c.cells.toArray 88)).heap.size=w.heap.size+1+1:=by simp
  have p3:=p2.aY (i:=2) rfl [af none 0 0,af none 0 0,af none 0 0] 31;rw[s2,s1] at p3;rw[hW3];exact p3)
 have HW3:Hid (_=W3):=hide hW3.symm;clear hW3 h hpk n1 n2 hlim hc;unfold eD Cm.v;go_enter func80,ntmps80;go_upto_region 1 with fail
 rw[HW3.out];have d0:=(HP0.aB (i:=0) rfl).c 0 _ rfl;have d1:=(HP0.aB (i:=0) rfl).c 1 _ rfl;have d2:=(HP0.aB (i:=0) rfl).c 2 _ rfl;have c0:=(HP0.aB (i:=1) rfl).c 0 _ rfl;have c1:=(HP0.aB (i:=1) rfl).c 1 _ rfl;have c2:=(HP0.aB (i:=1) rfl).c 2 _ rfl;have c3:=(HP0.aB (i:=1) rfl).c 3 _ rfl;have c4:=(HP0.aB (i:=1) rfl).c 4 _ rfl;have c5:=(HP0.aB (i:=1) rfl).c 5 _ rfl;go_wp2_with fail;refine(qy p D W3 (by omega) (by omega) n3 HK.out (HL.below HP0.below)).mono ?_;rintro e w7⟨⟨aa,ca,ha,ch,sa,cs⟩,rfl,hqk,hp7⟩;have HQK:=hide hqk;have HP7:Hid (Pool [] w [[blk w.heap.size (bJ p D)],[blk (w.heap.size+1) c.cells],[blk (w.heap.size+1+1) [af none 0 0,af none 0 0,af none 0 0]],[bA 4 aL aa ca D.aI],[bA 4 aG ha ch D.az],[bA 2 aM sa cs D.aH],[],[],[],[],[]] w7):=hide (by
  have q:=HP0.call (i:=3) rfl (rs':=bC ⟨aa,ca,ha,ch,sa,cs⟩ D) (hp7.cast (by simp));exact q.cast (by simp[bC]))
 clear hqk hp7 HP0 d0 d1 d2 c0 c1 c2 c3 c4 c5;unfold eD;go_upto_region 3 with fail
 refine fP (fun W8 hW8=>?_);have HP8:Hid (Pool [] w [[blk w.heap.size (bJ p D)],[blk (w.heap.size+1) c.cells],[blk (w.heap.size+1+1) [af none 0 0,af none 0 0,af none 0 0]],[bA 4 aL aa ca D.aI],[bA 4 aG ha ch D.az],[bA 2 aM sa cs D.aH],[blk w7.heap.size [af aa D.aI.length ca,af none 0 0,af sa D.aH.length cs]],[],[],[],[]] W8):=hide (by
  rw[hW8];exact HP7.aY (i:=6) rfl [af aa D.aI.length ca,af none 0 0,af sa D.aH.length cs] 31)
 have HS8:Hid (W8.heap.size=w7.heap.size+1):=hide (by rw[hW8];simp);clear hW8 HP7;go_upto_region 4 with fail
 refine fP (fun W9 hW9=>?_);rw[HS8.out];have HP9:Hid (Pool [] w [[blk w.heap.size (bJ p D)],[blk (w.heap.size+1) c.cells],[blk (w.heap.size+1+1) [af none 0 0,af none 0 0,af none 0 0]],[bA 4 aL aa ca D.aI],[bA 4 aG ha ch D.az],[bA 2 aM sa cs D.aH],[blk w7.heap.size [af aa D.aI.length ca,(af none 0 0),af sa D.aH.length cs]],[row 109 4 (af none 0 0) (gB D.az c.ref 0).length ((gB D.az c.ref 0).flatMap aG)],[blk (w7.heap.size+1) (aG ((lS D.az c.ref 0).getD hz))],[],[]] W9):=hide (by
  rw[hW9];have q:=(HP8.aY (i:=8) rfl (aG hz) 109).rA (i:=7) rfl 109 4;rw[HS8.out] at q;exact q)
 clear hW9 HP8 HS8;obtain⟨i0,hi0,hz0,hz1,hz2⟩:=info_parts kM;go_wp2_with fail;go_loopw [8] (fun iv wr=>∃(k:Nat)(v:Value),k<=D.az.length/\iv=ae au (k:Int)/\Hid (Pool [] w [[blk w.heap.size (bJ p D)],[blk (w.heap.size+1) c.cells],[blk (w.heap.size+1+1) [af none 0 0,af none 0 0,af none 0 0]],[bA 4 aL aa ca D.aI],[bA 4 aG ha ch D.az],[bA 2 aM sa cs D.aH],[blk w7.heap.size [af aa D.aI.length ca,v,af sa D.aH.length cs]],[row 109 4 v (gB D.az c.ref k).length ((gB D.az c.ref k).flatMap aG)],[blk (w7.heap.size+1) (aG ((lS D.az c.ref k).getD hz))],[],[]] wr)) (fun iv wr=>D.az.length-(intOf iv).toNat)
 case atStart=>exact⟨0,_,Nat.zero_le _,rfl,HP9⟩
 case round =>
  obtain⟨k,v,hk,rfl,HPr⟩:=hrel;clear HP9;have d1:=(HPr.aB (i:=0) rfl).c 1 _ rfl;have c5:=(HPr.aB (i:=1) rfl).c 5 _ rfl;by_cases hlt:k<D.az.length
  ·have hlt':(k:Int)<(D.az.length:Int):=by omega
   obtain⟨b2,off2,eh,hb2,z0,z1,z2,z3⟩:=oC (HL.az.row.below HPr.below) k hlt;rw[eh] at d1;have HEH:=hide eh;clear eh;by_cases hq:(D.az[k]).id=c.ref
   ·have hq':((D.az[k]).id==c.ref)=true:=by simp[hq]
    have HKH:Hid (gB D.az c.ref (k+1)=gB D.az c.ref k/\lS D.az c.ref (k+1)=some D.az[k]):=hide ⟨KD hlt hq,KN HC.up hlt hq⟩;clear hq;have q0:=(HPr.aB (i:=8) rfl).c 0 _ rfl;have q1:=(HPr.aB (i:=8) rfl).c 1 _ rfl;have q2:=(HPr.aB (i:=8) rfl).c 2 _ rfl;have q3:=(HPr.aB (i:=8) rfl).c 3 _ rfl;have fq0:=(HPr.aB (i:=8) rfl).f 0;have fq1:=(HPr.aB (i:=8) rfl).f 1;have fq2:=(HPr.aB (i:=8) rfl).f 2;have fq3:=(HPr.aB (i:=8) rfl).f 3;go_wp2_with fail;go_quiet (fail);go_wp2;exact⟨⟨k+1,v,by omega,by go_num,hide (by
     have q:=((((HPr.keep (dG wr nq)).aQ (i:=8) rfl 0 (ae au (D.az[k]).id) (by simp[aG])).aQ (i:=8) rfl 1 (ag (D.az[k]).fr) (by simp[aG])).aQ (i:=8) rfl 2 (ag (D.az[k]).to) (by simp[aG])).aQ (i:=8) rfl 3 (ae au (D.az[k]).aV) (by simp[aG]);rw[HKH.1,HKH.2];exact q)⟩,by simp[intOf];omega⟩
   ·have hq':((D.az[k]).id==c.ref)=false:=by simp[hq]
    have HKH:Hid (gB D.az c.ref (k+1)=gB D.az c.ref k++[D.az[k]]/\lS D.az c.ref (k+1)=lS D.az c.ref k):=hide ⟨He hlt hq,Hq hlt hq⟩;have hkl:=KC D.az c.ref k;clear hq;obtain⟨a5,k5,e5⟩:=bv (HPr.rowAt (i:=7) rfl);subst e5;go_wp2_with fail;go_quiet (fail);go_upto_region 9 with fail
    rename_i K0 hK0;obtain⟨wd,hwd⟩:∃wd,wd=wr.drewN nq:=⟨_,rfl⟩;have HPd:Hid (Pool [] w [[blk w.heap.size (bJ p D)],[blk (w.heap.size+1) c.cells],[blk (w.heap.size+1+1) [af none 0 0,af none 0 0,af none 0 0]],[bA 4 aL aa ca D.aI],[bA 4 aG ha ch D.az],[bA 2 aM sa cs D.aH],[blk w7.heap.size [af aa D.aI.length ca,(af a5 (gB D.az c.ref k).length k5),af sa D.aH.length cs]],[row 109 4 (af a5 (gB D.az c.ref k).length k5) (gB D.az c.ref k).length ((gB D.az c.ref k).flatMap aG)],[blk (w7.heap.size+1) (aG ((lS D.az c.ref k).getD hz))],[],[]] wd):=hide (by rw[hwd];exact HPr.keep (dG wr nq));rw[<-hwd];clear hwd HPr d1 c5 z0 z1 z2 z3;refine dw (by kernel_rfl) (fun L act x=>∃l0 l1 l2 l3 l4 l5 l6 l7 l8 l9 l10:Bool,∃u36 u37 u38 u39 u40 u41 u42 u43 u44 u45:Value,L=#[l0,l1,l2,l3,l4,l5,l6,l7,l8,l9,l10]/\act={tmps:=#[aj #[af p.aa D.aI.length p.ca,af p.ha D.az.length p.ch,af p.sa D.aH.length p.cs],aj #[ae au c.id,ae au c.kind,ag c.fr,ag c.to,ae au c.am,ae au c.ref],ai (some ⟨w.heap.size,0,none⟩),ai (some ⟨w.heap.size+1,0,none⟩),ai (some ⟨w.heap.size+1+1,0,none⟩),ae au 0,ai (some ⟨w7.heap.size,0,none⟩),ai (some ⟨w7.heap.size+1,0,none⟩),ae au ↑k,ak,ak,aj #[af p.aa D.aI.length p.ca,af p.ha D.az.length p.ch,af p.sa D.aH.length p.cs],aj #[af aa D.aI.length ca,af ha D.az.length ch,af sa D.aH.length cs],ai (some ⟨w7.heap.size,1,none⟩),aj #[ae au 0,Value.string {data:=#[]},Value.string {data:=#[]},ae au 0],ae au ↑k,ai (some ⟨w.heap.size,1,none⟩),af (some ⟨b2,off2,none⟩) D.az.length p.ch,ae au ↑D.az.length,Value.bool true,u20,u21,ai (some ⟨w.heap.size,1,none⟩),af (some ⟨b2,off2,none⟩) D.az.length p.ch,ae au ↑k,ai (some ⟨b2,off2+k*4,none⟩),ai (some ⟨b2,off2+k*4,none⟩),ae au D.az[k].id,ai (some ⟨w.heap.size+1,5,none⟩),ae au c.ref,Value.bool false,u31,u32,u33,u34,u35,u36,u37,u38,u39,u40,u41,u42,u43,u44,u45,ak,ak,ak,ak,ak,ak,ak,ak,ak,ak,ak,ak,ak,ak,ak,ak,ak,ak,ak,ak,ak,ak,ak,ak,ak,ak,ak,ak],defers:=[]}/\Ur p D c w.heap.size w7.heap.size aa ca ha ch sa cs k hlt a5 k5 b2 off2 w l0 l1 l2 l3 l4 l5 l6 l7 l8 l9 l10 u36 u37 u38 u39 u40 u41 u42 u43 u44 u45 x) ?_ ?_ ?_
    rotate_left 2
    ·exact⟨false,false,false,false,false,false,false,false,false,false,false,(u36),(u37),(u38),(u39),(u40),(u41),(u42),(u43),(u44),(u45),rfl,rfl,⟨HPd.drew,nofun,nofun,nofun,nofun,nofun,nofun,nofun,nofun,nofun,nofun,nofun,nofun⟩⟩
    ·rintro L act x i⟨l0,l1,l2,l3,l4,l5,l6,l7,l8,l9,l10,u36,u37,u38,u39,u40,u41,u42,u43,u44,u45,rfl,rfl,h⟩ hi K hK;have hi15:i<11:=gz hi;have hl:=(mem_ready.1 hi).1;obtain rfl|rfl|rfl|rfl|rfl|rfl|rfl|rfl|rfl|rfl|rfl:=(by omega:i=0\/i=1\/i=2\/i=3\/i=4\/i=5\/i=6\/i=7\/i=8\/i=9\/i=10)
     ·obtain rfl:l0=false:=hl;refine aK (v:=ai (some ⟨w7.heap.size,1,none⟩)) (w':=x) ?_ (hK _ _ ⟨_,_,_,_,_,_,_,_,_,_,_,_,_,_,_,_,_,_,_,_,_,rfl,rfl,{h with p36:=fun _=>rfl}⟩);go_simp
     ·obtain rfl:l1=false:=hl;obtain rfl:l0=true:=aC hi 0;obtain rfl:l10=false:=nf h.d10_1 rfl;have c0:x.cell? ⟨w7.heap.size,1,none⟩=some (af a5 (gB D.az c.ref k).length k5):=(h.aT.aB (i:=6) rfl).c 1 _ rfl;refine aK (v:=(af a5 (gB D.az c.ref k).length k5)) (w':=x) ?_ (hK _ _ ⟨_,_,_,_,_,_,_,_,_,_,_,_,_,_,_,_,_,_,_,_,_,rfl,rfl,{h with p37:=(fun _=>rfl),d10_1:=fun _=>rfl}⟩);rw[h.p36 rfl];go_simp
     ·obtain rfl:l2=false:=hl;refine aK (v:=ai (some ⟨w.heap.size,1,none⟩)) (w':=x) ?_ (hK _ _ ⟨_,_,_,_,_,_,_,_,_,_,_,_,_,_,_,_,_,_,_,_,_,rfl,rfl,{h with p38:=fun _=>rfl}⟩);go_simp
     ·obtain rfl:l3=false:=hl;obtain rfl:l2=true:=aC hi 2;have c0:x.cell? ⟨w.heap.size,1,none⟩=some (af (some ⟨b2,off2,none⟩) D.az.length p.ch):=by rw[<-HEH.out];exact(h.aT.aB (i:=0) rfl).c 1 _ rfl
      refine aK (v:=af (some ⟨b2,off2,none⟩) D.az.length p.ch) (w':=x) ?_ (hK _ _ ⟨_,_,_,_,_,_,_,_,_,_,_,_,_,_,_,_,_,_,_,_,_,rfl,rfl,{h with p39:=fun _=>rfl}⟩);rw[h.p38 rfl];go_simp
     ·obtain rfl:l4=false:=hl;refine aK (v:=ae au (k:Int)) (w':=x) ?_ (hK _ _ ⟨_,_,_,_,_,_,_,_,_,_,_,_,_,_,_,_,_,_,_,_,_,rfl,rfl,{h with p40:=fun _=>rfl}⟩);go_simp
     ·obtain rfl:l5=false:=hl;obtain rfl:l3=true:=aC hi 3;obtain rfl:l4=true:=aC hi 4;refine aK (v:=ai (some ⟨b2,off2+k*4,none⟩)) (w':=x) ?_ (hK _ _ ⟨_,_,_,_,_,_,_,_,_,_,_,_,_,_,_,_,_,_,_,_,_,rfl,rfl,{h with p41:=fun _=>rfl}⟩);rw[h.p39 rfl,h.p40 rfl];go_simp
     ·obtain rfl:l6=false:=hl;obtain rfl:l5=true:=aC hi 5;obtain⟨b3,off3,eh3,hb3,z0,z1,z2,z3⟩:=oC (HL.az.row.below h.aT.below) k hlt;rw[HEH.out] at eh3;simp only[Option.some.injEq,Addr.mk.injEq,and_true] at eh3;obtain⟨rfl,rfl⟩:=eh3;refine aK (v:=aj #[ae au (D.az[k]).id,ag (D.az[k]).fr,ag (D.az[k]).to,ae au (D.az[k]).aV]) (w':=x) ?_ (hK _ _ ⟨_,_,_,_,_,_,_,_,_,_,_,_,_,_,_,_,_,_,_,_,_,rfl,rfl,{h with p42:=fun _=>rfl}⟩);rw[h.p41 rfl];go_simp
     ·obtain rfl:l7=false:=hl;obtain rfl:l6=true:=aC hi 6;obtain rfl:l8=false:=nf h.d8_7 rfl;refine aK (v:=af (some ⟨x.heap.size,0,none⟩) 1 1) (w':=x.alloc (.cells #[ae au (D.az[k]).id,ag (D.az[k]).fr,ag (D.az[k]).to,ae au (D.az[k]).aV] 109)) ?_ (hK _ _ ⟨_,_,_,_,_,_,_,_,_,_,_,u36,u37,u38,u39,u40,u41,u42,(af (some ⟨x.heap.size,0,none⟩) 1 1),u44,u45,rfl,rfl,{h with q43:=(fun _=>rfl),aT:=(h.aT.aY (i:=9) rfl (aG D.az[k]) 109),d8_7:=fun _=>rfl}⟩);rw[h.p42 rfl];go_simp
     ·obtain rfl:l8=false:=hl;obtain rfl:l1=true:=aC hi 1;obtain rfl:l7=true:=aC hi 7;obtain rfl:l10=false:=nf h.d10_8 rfl;obtain⟨v',y,hr,hp⟩:=h.aT.append (P:=prog) (i0:=7) rfl 28 28 i0 _ 48 underlying28 hi0 hz0 hz1 hz2 rfl (by decide) (some ⟨jP (tJ u43),0,none⟩) 1 1 (aG D.az[k]) rfl (fun e=>by cases e) (gJ (h.aT.aB (i:=9) rfl)) (zZ _) (by unfold maxLen;omega) (by omega);refine aK (v:=v') (w':=y) ?_ (hK _ _ ⟨_,_,_,_,_,_,_,_,_,_,_,u36,u37,u38,u39,u40,u41,u42,u43,(v'),u45,rfl,rfl,{h with aT:=(hp),d8_7:=fun _=>rfl,d10_8:=fun _=>rfl}⟩);exact eQ rfl (h.p37 rfl) (h.q43 rfl) hr
     ·obtain rfl:l9=false:=hl;obtain rfl:l0=true:=aC hi 0;obtain rfl:l1=true:=aC hi 1;obtain rfl:l2=true:=aC hi 2;obtain rfl:l3=true:=aC hi 3;obtain rfl:l4=true:=aC hi 4;obtain rfl:l5=true:=aC hi 5;obtain rfl:l6=true:=aC hi 6;obtain rfl:l7=true:=aC hi 7;obtain rfl:l8=true:=aC hi 8;refine aK (v:=ai (some ⟨w7.heap.size,1,none⟩)) (w':=x) ?_ (hK _ _ ⟨_,_,_,_,_,_,_,_,_,_,_,_,_,_,_,_,_,_,_,_,_,rfl,rfl,{h with p45:=fun _=>rfl}⟩);go_simp
     ·obtain rfl:l10=false:=hl;obtain rfl:l0=true:=aC hi 0;obtain rfl:l1=true:=aC hi 1;obtain rfl:l2=true:=aC hi 2;obtain rfl:l3=true:=aC hi 3;obtain rfl:l4=true:=aC hi 4;obtain rfl:l5=true:=aC hi 5;obtain rfl:l6=true:=aC hi 6;obtain rfl:l7=true:=aC hi 7;obtain rfl:l8=true:=aC hi 8;obtain rfl:l9=true:=aC hi 9;obtain⟨a6,k6,e6⟩:=bv (h.aT.rowAt (i:=7) rfl);have A:=h.aT.aB (i:=6) rfl;have t1:=A.c 1 _ rfl;have f1:=A.f 1;refine eB (w':=x.setCell ⟨w7.heap.size,1,none⟩ u44) ?_ (hK _ _ ⟨_,_,_,_,_,_,_,_,_,_,_,u36,u37,u38,u39,u40,u41,u42,u43,u44,u45,rfl,rfl,{h with aT:=(h.aT.aQ (i:=6) rfl 1 u44 (by simp)),d10_8:=fun _=>rfl,d10_1:=fun _=>rfl}⟩);rw[h.p45 rfl,e6];go_simp
    ·rintro L act x⟨l0,l1,l2,l3,l4,l5,l6,l7,l8,l9,l10,u36,u37,u38,u39,u40,u41,u42,u43,u44,u45,rfl,rfl,h⟩ hr;have hall:=eZ hr rfl (by decide);have t0:l0=true:=hall 0 (by decide);have t1:l1=true:=hall 1 (by decide);have t2:l2=true:=hall 2 (by decide);have t3:l3=true:=hall 3 (by decide);have t4:l4=true:=hall 4 (by decide);have t5:l5=true:=hall 5 (by decide);have t6:l6=true:=hall 6 (by decide);have t7:l7=true:=hall 7 (by decide);have t8:l8=true:=hall 8 (by decide);have t9:l9=true:=hall 9 (by decide);have t10:l10=true:=hall 10 (by decide);subst t0 t1 t2 t3 t4 t5 t6 t7 t8 t9 t10;clear hall hr;have hp:=h.aT.drop (i:=9) rfl;rw[Hw] at hp;have HPn:Hid (Pool [] w [[blk w.heap.size (bJ p D)],[blk (w.heap.size+1) c.cells],[blk (w.heap.size+1+1) [af none 0 0,af none 0 0,af none 0 0]],[bA 4 aL aa ca D.aI],[bA 4 aG ha ch D.az],[bA 2 aM sa cs D.aH],[blk w7.heap.size [af aa D.aI.length ca,u44,af sa D.aH.length cs]],[row 109 4 u44 (gB D.az c.ref (k+1)).length ((gB D.az c.ref (k+1)).flatMap aG)],[blk (w7.heap.size+1) (aG ((lS D.az c.ref (k+1)).getD hz))],[],[]] x):=hide (by
      have e:((gB D.az c.ref k)++[D.az[k]]).length=(gB D.az c.ref k).length+1:=by simp
      rw[HKH.1,HKH.2,e];exact hp)
     clear h hp;refine hK0 _ _ ?_;go_wp2;exact⟨⟨k+1,u44,by omega,by go_num,HPn⟩,by simp[intOf];omega⟩
  ·have hlt':¬ (k:Int)<(D.az.length:Int):=by omega
   obtain rfl:k=D.az.length:=by omega
   rw[KE,KP] at HPr;obtain⟨N,hN⟩:∃N,N=D.az.filter (fun h=>!(h.id==c.ref)):=⟨_,rfl⟩;rw[<-hN] at HPr;obtain⟨a9,c9,e9,s9,hp9⟩:=HPr.iT gH (i:=7) rfl;subst e9;obtain⟨O,hO⟩:∃O,O=D.az.find? (fun h=>h.id==c.ref):=⟨_,rfl⟩;rw[<-hO] at hp9;have HPA:Hid (Pool [] w [[blk w.heap.size (bJ p D)],[blk (w.heap.size+1) c.cells],[blk (w.heap.size+1+1) [af none 0 0,af none 0 0,af none 0 0]],[bA 4 aL aa ca D.aI],[bA 4 aG ha ch D.az],[bA 2 aM sa cs D.aH],[blk w7.heap.size [af aa D.aI.length ca,af a9 N.length c9,af sa D.aH.length cs]],[bA 4 aG a9 c9 N],[blk (w7.heap.size+1) (aG (O.getD hz))],[],[]] wr):=hide hp9;have HNN:=hide hN;have HOO:=hide hO;have hNl:N.length<=10:=by rw[hN];exact Nat.le_trans (List.length_filter_le _ _) hn2
   clear HPr hp9 hN hO d1 c5 hk hlt
   cases O with
   | none =>
    have HM:Hid (nK D c=(D,9)):=hide (by unfold nK;rw[<-HOO.out]);have d1:=(HPA.aB (i:=0) rfl).c 1 _ rfl;go_upto_region 10 with fail
    have h0:=(HPA.aB (i:=8) rfl).c 0 _ rfl;have d0:=(HPA.aB (i:=0) rfl).c 0 _ rfl;have d1:=(HPA.aB (i:=0) rfl).c 1 _ rfl;have d2:=(HPA.aB (i:=0) rfl).c 2 _ rfl;have r0:=(HPA.aB (i:=2) rfl).c 0 _ rfl;have fr0:=(HPA.aB (i:=2) rfl).f 0;have r1:=(HPA.aB (i:=2) rfl).c 1 _ rfl;have fr1:=(HPA.aB (i:=2) rfl).f 1;have r2:=(HPA.aB (i:=2) rfl).c 2 _ rfl;have fr2:=(HPA.aB (i:=2) rfl).f 2;have HQ:=hide (((HPA.aQ (i:=2) rfl 0 (af p.aa D.aI.length p.ca) (by simp)).aQ (i:=2) rfl 1 (af p.ha D.az.length p.ch) (by simp)).aQ (i:=2) rfl 2 (af p.sa D.aH.length p.cs) (by simp));go_wp2;refine cK (fun W9 hW9=>?_);have hq:=HQ.out;rw[<-hW9] at hq;have z_:=hq.aB (i:=2) rfl;have g0_:=z_.c 0 _ rfl;have g1_:=z_.c 1 _ rfl;have g2_:=z_.c 2 _ rfl;exact bodyPost_ret (v:=.tuple #[aj #[af p.aa D.aI.length p.ca,af p.ha D.az.length p.ch,af p.sa D.aH.length p.cs],ae au (9)]) (by simp[results,results80,go_sem,g0_,g1_,g2_]) rfl ⟨p,by rw[HM.out];rfl,hq.below,fun _=>rfl,fun q=>by rw[HM.out] at q;cases q⟩
   | some g =>
    have hmem:g∈D.az:=List.mem_of_find?_eq_some HOO.symm;have hid:=HC.ids g hmem;have hid':(g.id==0)=false:=by simp;omega
    have HMEM:=hide hmem;clear hid hmem;have d1:=(HPA.aB (i:=0) rfl).c 1 _ rfl;have h0:wr.cell? ⟨w7.heap.size+1,0,none⟩=some (ae au g.id):=(HPA.aB (i:=8) rfl).c 0 _ rfl;have c1:=(HPA.aB (i:=1) rfl).c 1 _ rfl;by_cases hkd:c.kind=5
    ·have hkd':(c.kind==5)=true:=by simp[hkd]
     have HM:Hid (nK D c=(⟨D.aI,N,D.aH⟩,0)):=hide (by unfold nK;rw[<-HOO.out,HNN.out];simp only;rw[if_pos hkd]);clear hkd;have m0:=(HPA.aB (i:=6) rfl).c 0 _ rfl;have m1:=(HPA.aB (i:=6) rfl).c 1 _ rfl;have m2:=(HPA.aB (i:=6) rfl).c 2 _ rfl;have r0:=(HPA.aB (i:=2) rfl).c 0 _ rfl;have fr0:=(HPA.aB (i:=2) rfl).f 0;have r1:=(HPA.aB (i:=2) rfl).c 1 _ rfl;have fr1:=(HPA.aB (i:=2) rfl).f 1;have r2:=(HPA.aB (i:=2) rfl).c 2 _ rfl;have fr2:=(HPA.aB (i:=2) rfl).f 2;have HQ:=hide (((HPA.aQ (i:=2) rfl 0 (af aa D.aI.length ca) (by simp)).aQ (i:=2) rfl 1 (af a9 N.length c9) (by simp)).aQ (i:=2) rfl 2 (af sa D.aH.length cs) (by simp));go_wp2;refine cK (fun W9 hW9=>?_);have hq:=HQ.out;rw[<-hW9] at hq;have z_:=hq.aB (i:=2) rfl;have g0_:=z_.c 0 _ rfl;have g1_:=z_.c 1 _ rfl;have g2_:=z_.c 2 _ rfl;exact bodyPost_ret (v:=.tuple #[aj #[af aa D.aI.length ca,af a9 N.length c9,af sa D.aH.length cs],ae au (0)]) (by simp[results,results80,go_sem,g0_,g1_,g2_]) rfl ⟨⟨aa,ca,a9,c9,sa,cs⟩,by rw[HM.out];rfl,hq.below,fun q=>by rw[HM.out] at q;exact absurd rfl q,fun _=>by
      rw[HM.out];exact⟨⟨HQK.a,s9,HQK.s⟩,(((((((hq.drop (i:=8) rfl).drop (i:=6) rfl).drop (i:=4) rfl).drop (i:=2) rfl).drop (i:=1) rfl).drop (i:=0) rfl).perm (by
       simp only[bC,List.set_cons_succ,List.set_cons_zero,List.flatten_cons,List.flatten_nil,List.append_nil,List.nil_append,List.cons_append];exact List.Perm.cons _ (List.Perm.swap _ _ _)))⟩⟩
    ·have hkd':(c.kind==5)=false:=by simp[hkd]
     have HKD:Hid (¬ c.kind=5):=hide hkd;clear hkd;go_upto_region 14 with fail
     rename_i K0 hK0;clear d1 h0 c1;obtain⟨i,j,ei,ej⟩:=HC.pairs g HMEM.out;have HEI:=hide ei;have HEJ:=hide ej;obtain⟨hil,_⟩:=fq ei;obtain⟨hjl,_⟩:=fq ej;obtain⟨R,hR⟩:∃R,R=mY ⟨D.aI,N,D.aH⟩ i j g.aV:=⟨_,rfl⟩;have HRR:=hide hR;have HNS:Hid (jq N):=hide ⟨hNl,fun y hy=>by rw[HNN.out] at hy;exact HN2.2 y ((List.mem_filter.1 hy).1)⟩;have HNW:Hid (∀y∈N,Bt y):=hide (fun y hy=>by rw[HNN.out] at hy;exact HL.az.wf y ((List.mem_filter.1 hy).1));have HPAY:Hid (∀x,iO x aa a9 sa ⟨D.aI,N,D.aH⟩->Calls prog 100 #[aj #[af aa D.aI.length ca,af a9 N.length c9,af sa D.aH.length cs],ae au (i:Int),ae au (j:Int),ae au g.aV] x fun e w'=>yS ⟨aa,ca,a9,c9,sa,cs⟩ ⟨D.aI,N,D.aH⟩ R x e w'):=hide (fun x hx=>by
      rw[hR];exact BO ⟨aa,ca,a9,c9,sa,cs⟩ ⟨D.aI,N,D.aH⟩ i j g.aV x HN1.out HNS.out n3 HLI.out hil hjl (HN2.2 g HMEM.out) ⟨HQK.a,s9,HQK.s⟩ hx)
     clear hR ei ej;refine dw (by kernel_rfl) (fun L act x=>∃l0 l1 l2 l3 l4 l5 l6 l7 l8 l9 l10 l11 l12 l13 l14 l15 l16 l17:Bool,∃u9 u10 u54 u55 u56 u57 u58 u59 u60 u61 u62 u63 u64 u65 u66 u67 u68:Value,∃q:LP,L=#[l0,l1,l2,l3,l4,l5,l6,l7,l8,l9,l10,l11,l12,l13,l14,l15,l16,l17]/\act={tmps:=#[aj #[af p.aa D.aI.length p.ca,af p.ha D.az.length p.ch,af p.sa D.aH.length p.cs],aj #[ae au c.id,ae au c.kind,ag c.fr,ag c.to,ae au c.am,ae au c.ref],ai (some ⟨w.heap.size,0,none⟩),ai (some ⟨w.heap.size+1,0,none⟩),ai (some ⟨w.heap.size+1+1,0,none⟩),ae au 0,ai (some ⟨w7.heap.size,0,none⟩),ai (some ⟨w7.heap.size+1,0,none⟩),ae au ↑D.az.length,u9,u10,aj #[af p.aa D.aI.length p.ca,af p.ha D.az.length p.ch,af p.sa D.aH.length p.cs],aj #[af aa D.aI.length ca,af ha D.az.length ch,af sa D.aH.length cs],ai (some ⟨w7.heap.size,1,none⟩),aj #[ae au 0,Value.string {data:=#[]},Value.string {data:=#[]},ae au 0],ae au ↑D.az.length,ai (some ⟨w.heap.size,1,none⟩),af p.ha D.az.length p.ch,ae au ↑D.az.length,Value.bool false,u20,u21,u22,u23,u24,u25,u26,u27,u28,u29,u30,u31,u32,u33,u34,u35,u36,u37,u38,u39,u40,u41,u42,u43,u44,u45,ai (some ⟨w7.heap.size+1,0,none⟩),ae au g.id,Value.bool false,ak,ai (some ⟨w.heap.size+1,1,none⟩),ae au c.kind,Value.bool false,ak,u54,u55,u56,u57,u58,u59,u60,u61,u62,u63,u64,u65,u66,u67,u68,ak,ak,ak,ak,ak],defers:=[]}/\Uq p D c w.heap.size w7.heap.size aa ca ha ch sa cs a9 c9 N g i j R w l0 l1 l2 l3 l4 l5 l6 l7 l8 l9 l10 l11 l12 l13 l14 l15 l16 l17 u9 u10 u54 u55 u56 u57 u58 u59 u60 u61 u62 u63 u64 u65 u66 u67 u68 q x) ?_ ?_ ?_
     rotate_left 2
     ·exact⟨false,false,false,false,false,false,false,false,false,false,false,false,false,false,false,false,false,false,ak,ak,ak,ak,ak,ak,ak,ak,ak,ak,ak,ak,ak,ak,ak,ak,ak,(p),rfl,rfl,⟨HPA.drew,nofun,nofun,nofun,nofun,nofun,nofun,nofun,nofun,nofun,nofun,nofun,nofun,nofun,nofun,nofun,nofun,nofun,nofun,nofun,nofun,nofun,nofun,nofun,nofun,nofun,nofun⟩⟩
     ·rintro L act x i⟨l0,l1,l2,l3,l4,l5,l6,l7,l8,l9,l10,l11,l12,l13,l14,l15,l16,l17,u9,u10,u54,u55,u56,u57,u58,u59,u60,u61,u62,u63,u64,u65,u66,u67,u68,q,rfl,rfl,h⟩ hi K hK;have hi15:i<18:=gz hi;have hl:=(mem_ready.1 hi).1;obtain rfl|rfl|rfl|rfl|rfl|rfl|rfl|rfl|rfl|rfl|rfl|rfl|rfl|rfl|rfl|rfl|rfl|rfl:=(by omega:i=0\/i=1\/i=2\/i=3\/i=4\/i=5\/i=6\/i=7\/i=8\/i=9\/i=10\/i=11\/i=12\/i=13\/i=14\/i=15\/i=16\/i=17)
      ·obtain rfl:l0=false:=hl;have c0:=(h.aT.aB (i:=6) rfl).c 0 _ rfl;have c1:=(h.aT.aB (i:=6) rfl).c 1 _ rfl;have c2:=(h.aT.aB (i:=6) rfl).c 2 _ rfl;refine aK (v:=aj #[af aa D.aI.length ca,af a9 N.length c9,af sa D.aH.length cs]) (w':=x) ?_ (hK _ _ ⟨_,_,_,_,_,_,_,_,_,_,_,_,_,_,_,_,_,_,_,_,_,_,_,_,_,_,_,_,_,_,_,_,_,_,_,(q),rfl,rfl,{h with p55:=fun _=>rfl}⟩);go_simp
      ·obtain rfl:l1=false:=hl;have c0:=(h.aT.aB (i:=0) rfl).c 0 _ rfl;have c1:=(h.aT.aB (i:=0) rfl).c 1 _ rfl;have c2:=(h.aT.aB (i:=0) rfl).c 2 _ rfl;refine aK (v:=aj #[af p.aa D.aI.length p.ca,af p.ha D.az.length p.ch,af p.sa D.aH.length p.cs]) (w':=x) ?_ (hK _ _ ⟨_,_,_,_,_,_,_,_,_,_,_,_,_,_,_,_,_,_,_,_,_,_,_,_,_,_,_,_,_,_,_,_,_,_,_,(q),rfl,rfl,{h with p56:=fun _=>rfl}⟩);go_simp
      ·obtain rfl:l2=false:=hl;refine aK (v:=ai (some ⟨w7.heap.size+1,1,none⟩)) (w':=x) ?_ (hK _ _ ⟨_,_,_,_,_,_,_,_,_,_,_,_,_,_,_,_,_,_,_,_,_,_,_,_,_,_,_,_,_,_,_,_,_,_,_,(q),rfl,rfl,{h with p57:=fun _=>rfl}⟩);go_simp
      ·obtain rfl:l3=false:=hl;obtain rfl:l2=true:=aC hi 2;have c1:=(h.aT.aB (i:=8) rfl).c 1 _ rfl;refine aK (v:=ag g.fr) (w':=x) ?_ (hK _ _ ⟨_,_,_,_,_,_,_,_,_,_,_,_,_,_,_,_,_,_,_,_,_,_,_,_,_,_,_,_,_,_,_,_,_,_,_,(q),rfl,rfl,{h with p58:=fun _=>rfl}⟩);rw[h.p57 rfl];go_simp
      ·obtain rfl:l4=false:=hl;obtain rfl:l1=true:=aC hi 1;obtain rfl:l3=true:=aC hi 3;refine gF ?_ (BP p.aa D.aI p.ca (af p.ha D.az.length p.ch) (af p.sa D.aH.length p.cs) g.fr x (by omega) (HL.aI.below h.aT.below) HEI.out) ?_
       ·rw[h.p56 rfl,h.p58 rfl];go_simp
       ·rintro e w'⟨rfl,hb⟩;exact⟨_,rfl,hK _ _ ⟨_,_,_,_,_,_,_,_,_,_,_,_,_,_,_,_,_,_,u9,u10,u54,u55,u56,u57,u58,(ae au (i:Int)),u60,u61,u62,u63,u64,u65,u66,u67,u68,(q),rfl,rfl,{h with q59:=(fun _=>rfl),aT:=(h.aT.keep hb)}⟩⟩
      ·obtain rfl:l5=false:=hl;have c0:=(h.aT.aB (i:=0) rfl).c 0 _ rfl;have c1:=(h.aT.aB (i:=0) rfl).c 1 _ rfl;have c2:=(h.aT.aB (i:=0) rfl).c 2 _ rfl;refine aK (v:=aj #[af p.aa D.aI.length p.ca,af p.ha D.az.length p.ch,af p.sa D.aH.length p.cs]) (w':=x) ?_ (hK _ _ ⟨_,_,_,_,_,_,_,_,_,_,_,_,_,_,_,_,_,_,_,_,_,_,_,_,_,_,_,_,_,_,_,_,_,_,_,(q),rfl,rfl,{h with p60:=fun _=>rfl}⟩);go_simp
      ·obtain rfl:l6=false:=hl;refine aK (v:=ai (some ⟨w7.heap.size+1,2,none⟩)) (w':=x) ?_ (hK _ _ ⟨_,_,_,_,_,_,_,_,_,_,_,_,_,_,_,_,_,_,_,_,_,_,_,_,_,_,_,_,_,_,_,_,_,_,_,(q),rfl,rfl,{h with p61:=fun _=>rfl}⟩);go_simp
      ·obtain rfl:l7=false:=hl;obtain rfl:l6=true:=aC hi 6;have c2:=(h.aT.aB (i:=8) rfl).c 2 _ rfl;refine aK (v:=ag g.to) (w':=x) ?_ (hK _ _ ⟨_,_,_,_,_,_,_,_,_,_,_,_,_,_,_,_,_,_,_,_,_,_,_,_,_,_,_,_,_,_,_,_,_,_,_,(q),rfl,rfl,{h with p62:=fun _=>rfl}⟩);rw[h.p61 rfl];go_simp
      ·obtain rfl:l8=false:=hl;obtain rfl:l4=true:=aC hi 4;obtain rfl:l5=true:=aC hi 5;obtain rfl:l7=true:=aC hi 7;refine gF ?_ (BP p.aa D.aI p.ca (af p.ha D.az.length p.ch) (af p.sa D.aH.length p.cs) g.to x (by omega) (HL.aI.below h.aT.below) HEJ.out) ?_
       ·rw[h.p60 rfl,h.p62 rfl];go_simp
       ·rintro e w'⟨rfl,hb⟩;exact⟨_,rfl,hK _ _ ⟨_,_,_,_,_,_,_,_,_,_,_,_,_,_,_,_,_,_,u9,u10,u54,u55,u56,u57,u58,u59,u60,u61,u62,(ae au (j:Int)),u64,u65,u66,u67,u68,(q),rfl,rfl,{h with q63:=(fun _=>rfl),aT:=(h.aT.keep hb)}⟩⟩
      ·obtain rfl:l9=false:=hl;refine aK (v:=ai (some ⟨w7.heap.size+1,3,none⟩)) (w':=x) ?_ (hK _ _ ⟨_,_,_,_,_,_,_,_,_,_,_,_,_,_,_,_,_,_,_,_,_,_,_,_,_,_,_,_,_,_,_,_,_,_,_,(q),rfl,rfl,{h with p64:=fun _=>rfl}⟩);go_simp
      ·obtain rfl:l10=false:=hl;obtain rfl:l9=true:=aC hi 9;have c3:=(h.aT.aB (i:=8) rfl).c 3 _ rfl;refine aK (v:=ae au g.aV) (w':=x) ?_ (hK _ _ ⟨_,_,_,_,_,_,_,_,_,_,_,_,_,_,_,_,_,_,_,_,_,_,_,_,_,_,_,_,_,_,_,_,_,_,_,(q),rfl,rfl,{h with p65:=fun _=>rfl}⟩);rw[h.p64 rfl];go_simp
      ·obtain rfl:l11=false:=hl;obtain rfl:l0=true:=aC hi 0;obtain rfl:l4=true:=aC hi 4;obtain rfl:l8=true:=aC hi 8;obtain rfl:l10=true:=aC hi 10;obtain rfl:l12=false:=nf h.d12_11 rfl;obtain rfl:l13=false:=nf h.d13_11 rfl;obtain rfl:l14=false:=nf h.d14_11 rfl;obtain rfl:l16=false:=nf h.d16_11 rfl;refine gF ?_ (HPAY.out x ⟨(h.aT.jS (i:=3) rfl).rows.aI HL.aI.wf,(h.aT.jS (i:=7) rfl).rows.az HNW.out,(h.aT.jS (i:=5) rfl).rows.ans HL.aH.wf⟩) ?_
       ·rw[h.p55 rfl,h.p65 rfl];rw[h.q59 rfl,h.q63 rfl];go_simp
       ·rintro e w'⟨q2,rfl,hb,hne,heq⟩;exact⟨_,rfl,hK _ _ ⟨_,_,_,_,_,_,_,_,_,_,_,_,_,_,_,_,_,_,u9,u10,u54,u55,u56,u57,u58,u59,u60,u61,u62,u63,u64,u65,(.tuple #[eD q2 R.1,ae au R.2]),u67,u68,(q2),rfl,rfl,{h with q66:=(fun _=>rfl),qq:=(fun _=>⟨hne,fun z=>(heq z).1⟩),q54:=(fun z=>by cases z),q67:=(fun z=>by cases z),aT:=(h.aT.pay (i:=9) rfl hb (fun z=>(heq z).2)),d12_11:=fun _=>rfl,d13_11:=fun _=>rfl,d14_11:=fun _=>rfl,d16_11:=fun _=>rfl}⟩⟩
      ·obtain rfl:l12=false:=hl;obtain rfl:l11=true:=aC hi 11;obtain rfl:l13=false:=nf h.d13_12 rfl;obtain rfl:l14=false:=nf h.d14_12 rfl;refine aK (v:=u66) (w':=x) ?_ (hK _ _ ⟨_,_,_,_,_,_,_,_,_,_,_,_,_,_,_,_,_,_,_,_,_,_,_,_,_,_,_,_,_,_,_,_,_,_,_,(q),rfl,rfl,{h with q54:=(fun _=>rfl),d12_11:=fun _=>rfl,d13_12:=fun _=>rfl,d14_12:=fun _=>rfl}⟩);go_simp
      ·obtain rfl:l13=false:=hl;obtain rfl:l12=true:=aC hi 12;obtain rfl:l16=false:=nf h.d16_13 rfl;refine aK (v:=eD q R.1) (w':=x) ?_ (hK _ _ ⟨_,_,_,_,_,_,_,_,_,_,_,_,_,_,_,_,_,_,_,_,_,_,_,_,_,_,_,_,_,_,_,_,_,_,_,(q),rfl,rfl,{h with q67:=(fun _=>rfl),d13_12:=fun _=>rfl,d13_11:=fun _=>h.d12_11 rfl,d16_13:=fun _=>rfl}⟩);rw[h.q54 rfl,h.q66 (h.d12_11 rfl)];unfold eD;go_simp
      ·obtain rfl:l14=false:=hl;obtain rfl:l12=true:=aC hi 12;refine aK (v:=ae au R.2) (w':=x) ?_ (hK _ _ ⟨_,_,_,_,_,_,_,_,_,_,_,_,_,_,_,_,_,_,_,_,_,_,_,_,_,_,_,_,_,_,_,_,_,_,_,(q),rfl,rfl,{h with q68:=(fun _=>rfl),d14_12:=fun _=>rfl,d14_11:=fun _=>h.d12_11 rfl}⟩);rw[h.q54 rfl,h.q66 (h.d12_11 rfl)];go_simp
      ·obtain rfl:l15=false:=hl;obtain rfl:l16=false:=nf h.d16_15 rfl;refine aK (v:=ai (some ⟨x.heap.size,0,none⟩)) (w':=x.alloc (.cells #[af none 0 0,af none 0 0,af none 0 0] 31)) ?_ (hK _ _ ⟨_,_,_,_,_,_,_,_,_,_,_,_,_,_,_,_,_,_,(ai (some ⟨x.heap.size,0,none⟩)),u10,u54,u55,u56,u57,u58,u59,u60,u61,u62,u63,u64,u65,u66,u67,u68,(q),rfl,rfl,{h with z9:=(fun _=>rfl),aT:=(h.aT.aY (i:=10) rfl [af none 0 0,af none 0 0,af none 0 0] 31),d16_15:=fun _=>rfl}⟩);go_simp
      ·obtain rfl:l16=false:=hl;obtain rfl:l0=true:=aC hi 0;obtain rfl:l1=true:=aC hi 1;obtain rfl:l2=true:=aC hi 2;obtain rfl:l3=true:=aC hi 3;obtain rfl:l4=true:=aC hi 4;obtain rfl:l5=true:=aC hi 5;obtain rfl:l6=true:=aC hi 6;obtain rfl:l7=true:=aC hi 7;obtain rfl:l8=true:=aC hi 8;obtain rfl:l9=true:=aC hi 9;obtain rfl:l10=true:=aC hi 10;obtain rfl:l11=true:=aC hi 11;obtain rfl:l12=true:=aC hi 12;obtain rfl:l13=true:=aC hi 13;obtain rfl:l15=true:=aC hi 15;have A:=h.aT.aB (i:=10) rfl;have t0:=A.c 0 _ rfl;have f0:=A.f 0;have t1:=A.c 1 _ rfl;have f1:=A.f 1;have t2:=A.c 2 _ rfl;have f2:=A.f 2;refine eB (w':=(((x.setCell ⟨FZ u9,0,none⟩ (af q.aa R.1.aI.length q.ca)).setCell ⟨FZ u9,1,none⟩ (af q.ha R.1.az.length q.ch)).setCell ⟨FZ u9,2,none⟩ (af q.sa R.1.aH.length q.cs))) ?_ (hK _ _ ⟨_,_,_,_,_,_,_,_,_,_,_,_,_,_,_,_,_,_,u9,u10,u54,u55,u56,u57,u58,u59,u60,u61,u62,u63,u64,u65,u66,u67,u68,(q),rfl,rfl,{h with aT:=((((h.aT.aQ (i:=10) rfl 0 (af q.aa R.1.aI.length q.ca) (by simp)).aQ (i:=10) rfl 1 (af q.ha R.1.az.length q.ch) (by simp)).aQ (i:=10) rfl 2 (af q.sa R.1.aH.length q.cs) (by simp))),d16_15:=fun _=>rfl,d16_13:=fun _=>rfl,d16_11:=fun _=>rfl}⟩);rw[h.z9 rfl,h.q67 rfl];unfold eD;go_simp;rfl
      ·obtain rfl:l17=false:=hl;obtain rfl:l0=true:=aC hi 0;obtain rfl:l1=true:=aC hi 1;obtain rfl:l2=true:=aC hi 2;obtain rfl:l3=true:=aC hi 3;obtain rfl:l4=true:=aC hi 4;obtain rfl:l5=true:=aC hi 5;obtain rfl:l6=true:=aC hi 6;obtain rfl:l7=true:=aC hi 7;obtain rfl:l8=true:=aC hi 8;obtain rfl:l9=true:=aC hi 9;obtain rfl:l10=true:=aC hi 10;obtain rfl:l11=true:=aC hi 11;obtain rfl:l12=true:=aC hi 12;obtain rfl:l13=true:=aC hi 13;obtain rfl:l14=true:=aC hi 14;obtain rfl:l15=true:=aC hi 15;obtain rfl:l16=true:=aC hi 16;refine aK (v:=ae au R.2) (w':=x) ?_ (hK _ _ ⟨_,_,_,_,_,_,_,_,_,_,_,_,_,_,_,_,_,_,_,_,_,_,_,_,_,_,_,_,_,_,_,_,_,_,_,(q),rfl,rfl,{h with q10:=(fun _=>rfl)}⟩);rw[h.q68 rfl];go_simp
     ·rintro L act x⟨l0,l1,l2,l3,l4,l5,l6,l7,l8,l9,l10,l11,l12,l13,l14,l15,l16,l17,u9,u10,u54,u55,u56,u57,u58,u59,u60,u61,u62,u63,u64,u65,u66,u67,u68,q,rfl,rfl,h⟩ hr;have hall:=eZ hr rfl (by decide);have t0:l0=true:=hall 0 (by decide);have t1:l1=true:=hall 1 (by decide);have t2:l2=true:=hall 2 (by decide);have t3:l3=true:=hall 3 (by decide);have t4:l4=true:=hall 4 (by decide);have t5:l5=true:=hall 5 (by decide);have t6:l6=true:=hall 6 (by decide);have t7:l7=true:=hall 7 (by decide);have t8:l8=true:=hall 8 (by decide);have t9:l9=true:=hall 9 (by decide);have t10:l10=true:=hall 10 (by decide);have t11:l11=true:=hall 11 (by decide);have t12:l12=true:=hall 12 (by decide);have t13:l13=true:=hall 13 (by decide);have t14:l14=true:=hall 14 (by decide);have t15:l15=true:=hall 15 (by decide);have t16:l16=true:=hall 16 (by decide);have t17:l17=true:=hall 17 (by decide);subst t0 t1 t2 t3 t4 t5 t6 t7 t8 t9 t10 t11 t12 t13 t14 t15 t16 t17;clear hall hr;have hp:=h.aT;have e9:=h.z9 rfl;have e10:=h.q10 rfl;have eq:=h.qq rfl;obtain⟨B9,hB9⟩:∃B9,B9=FZ u9:=⟨_,rfl⟩;rw[<-hB9] at hp e9;have HEQ:=hide eq;have HPE:Hid (Pool [] w [[blk w.heap.size (bJ p D)],[blk (w.heap.size+1) c.cells],[blk (w.heap.size+1+1) [af none 0 0,af none 0 0,af none 0 0]],[bA 4 aL aa ca D.aI],[bA 4 aG ha ch D.az],[bA 2 aM sa cs D.aH],[blk w7.heap.size [af aa D.aI.length ca,af a9 N.length c9,af sa D.aH.length cs]],[bA 4 aG a9 c9 N],[blk (w7.heap.size+1) (aG g)],Mr q R,[blk B9 (bJ q R.1)]] x):=hide hp;clear h hp eq hB9;rw[e9,e10];clear e9 e10;refine hK0 _ _ ?_;by_cases hzr:R.2=0
      ·have hzr':(R.2 != 0)=false:=by simp[hzr]
       have HM:Hid (nK D c=(R.1,0)):=hide (by unfold nK;rw[<-HOO.out];simp only;rw[if_neg HKD.out,HEI.out,HEJ.out];simp only;rw[<-HNN.out,<-HRR.out,if_pos hzr]);have HZ:Hid (R.2=0):=hide hzr;clear hzr;have m0:=(HPE.aB (i:=10) rfl).c 0 _ rfl;have m1:=(HPE.aB (i:=10) rfl).c 1 _ rfl;have m2:=(HPE.aB (i:=10) rfl).c 2 _ rfl;have r0:=(HPE.aB (i:=2) rfl).c 0 _ rfl;have fr0:=(HPE.aB (i:=2) rfl).f 0;have r1:=(HPE.aB (i:=2) rfl).c 1 _ rfl;have fr1:=(HPE.aB (i:=2) rfl).f 1;have r2:=(HPE.aB (i:=2) rfl).c 2 _ rfl;have fr2:=(HPE.aB (i:=2) rfl).f 2;have HQ:=hide (((HPE.aQ (i:=2) rfl 0 (af q.aa R.1.aI.length q.ca) (by simp)).aQ (i:=2) rfl 1 (af q.ha R.1.az.length q.ch) (by simp)).aQ (i:=2) rfl 2 (af q.sa R.1.aH.length q.cs) (by simp));go_wp2;refine cK (fun W9 hW9=>?_);have hq:=HQ.out;rw[<-hW9] at hq;have z_:=hq.aB (i:=2) rfl;have g0_:=z_.c 0 _ rfl;have g1_:=z_.c 1 _ rfl;have g2_:=z_.c 2 _ rfl;exact bodyPost_ret (v:=.tuple #[aj #[af q.aa R.1.aI.length q.ca,af q.ha R.1.az.length q.ch,af q.sa R.1.aH.length q.cs],ae au (0)]) (by simp[results,results80,go_sem,g0_,g1_,g2_]) rfl ⟨q,by rw[HM.out];rfl,hq.below,fun z=>by rw[HM.out] at z;exact absurd rfl z,fun _=>by
        rw[HM.out];refine⟨HEQ.2 HZ.out,?_⟩;have hq2:=((((((((((hq.drop (i:=10) rfl).drop (i:=8) rfl).drop (i:=7) rfl).drop (i:=6) rfl).drop (i:=5) rfl).drop (i:=4) rfl).drop (i:=3) rfl).drop (i:=2) rfl).drop (i:=1) rfl).drop (i:=0) rfl);exact hq2.cast (by simp[Mr,HZ.out])⟩
      ·have hzr':(R.2 != 0)=true:=by simp[hzr]
       have HM:Hid (nK D c=(D,R.2)):=hide (by unfold nK;rw[<-HOO.out];simp only;rw[if_neg HKD.out,HEI.out,HEJ.out];simp only;rw[<-HNN.out,<-HRR.out,if_neg hzr]);have HZ:Hid (¬ R.2=0):=hide hzr;clear hzr;have d0:=(HPE.aB (i:=0) rfl).c 0 _ rfl;have d1:=(HPE.aB (i:=0) rfl).c 1 _ rfl;have d2:=(HPE.aB (i:=0) rfl).c 2 _ rfl;have r0:=(HPE.aB (i:=2) rfl).c 0 _ rfl;have fr0:=(HPE.aB (i:=2) rfl).f 0;have r1:=(HPE.aB (i:=2) rfl).c 1 _ rfl;have fr1:=(HPE.aB (i:=2) rfl).f 1;have r2:=(HPE.aB (i:=2) rfl).c 2 _ rfl;have fr2:=(HPE.aB (i:=2) rfl).f 2;have HQ:=hide (((HPE.aQ (i:=2) rfl 0 (af p.aa D.aI.length p.ca) (by simp)).aQ (i:=2) rfl 1 (af p.ha D.az.length p.ch) (by simp)).aQ (i:=2) rfl 2 (af p.sa D.aH.length p.cs) (by simp));go_wp2;refine cK (fun W9 hW9=>?_);have hq:=HQ.out;rw[<-hW9] at hq;have z_:=hq.aB (i:=2) rfl;have g0_:=z_.c 0 _ rfl;have g1_:=z_.c 1 _ rfl;have g2_:=z_.c 2 _ rfl;exact bodyPost_ret (v:=.tuple #[aj #[af p.aa D.aI.length p.ca,af p.ha D.az.length p.ch,af p.sa D.aH.length p.cs],ae au (R.2)]) (by simp[results,results80,go_sem,g0_,g1_,g2_]) rfl ⟨p,by rw[HM.out];rfl,hq.below,fun _=>rfl,fun z=>by rw[HM.out] at z;exact absurd z HZ.out⟩
end Go.Proofs.YtdbmmdecclalgaaGreatDoor
