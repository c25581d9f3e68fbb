import Derived.Test.YtdbmmdecclalgaaGreatDoorQai
import Derived.Test.YtdbmmdecclalgaaGreatDoorQae
namespace Go.Proofs.YtdbmmdecclalgaaGreatDoor
open Go.Value renaming int → ae, slice → af, pointer → ai, agg → aj
open Go.IntKind renaming i64 → au
open Go.Proofs.Tryz Go.ChangeShapes Go.WideShapes Go.ChangeAt Go.RowKit Go.Maps
set_option linter.unusedVariables false
set_option maxRecDepth 100000
set_option maxHeartbeats 8000000
def mD(L:bM)(fr tn:ByteArray):Bool:=match dZ L.aI fr,dZ L.aI tn with
 | some i,some j=>(match L.aI[i]?,L.aI[j]? with
  | some p,some q=>jC p.cur q.cur
  | _,_=>false)
 | _,_=>false
theorem Jn{l:List bF}(hd:Apart l){i:Nat}(hi:i<l.length):dZ l l[i].name=some i:=sI hi rfl (fun j hj=>hd j i (by omega) hi hj)
theorem EC{L:bM}(hd:Apart L.aI){i j:Nat}(hi:i<L.aI.length)(hj:j<L.aI.length){fr tn:ByteArray}(h1:L.aI[i].name=fr)(h2:L.aI[j].name=tn):mD L fr tn=jC L.aI[i].cur L.aI[j].cur:=by
 subst h1 h2;simp[mD,Jn hd hi,Jn hd hj,List.getElem?_eq_getElem hi,List.getElem?_eq_getElem hj]
theorem MB{L:bM}{fr tn:ByteArray}(h:(∀i (hi:i<L.aI.length),L.aI[i].name≠fr)\/∀i (hi:i<L.aI.length),L.aI[i].name≠tn):mD L fr tn=false:=by
 rcases h with h|h
 ·simp[mD,pI h]
 ·unfold mD;rw[pI h];cases dZ L.aI fr<;>rfl
theorem xH{L:bM}{fr tn:ByteArray}{g:Value}{w:World}{e:Ending}{w':World}(hd:Apart L.aI)(h:sP L fr tn g w e w')(hy:mD L fr tn=true) :
  ∃p r,e=.returned (.tuple #[ai (some ⟨p,0,none⟩),ai (some ⟨r,0,none⟩),.nilIface])/\Below w.heap.size w w':=by
 obtain⟨hb,⟨i,j,hi,hj,p,r,_,_,_,_,_,he⟩|⟨hn,_⟩|⟨i,j,hi,hj,h1,h2,h3,_⟩⟩:=h
 ·exact⟨p,r,he,hb⟩
 ·rw[MB hn] at hy;cases hy
 ·rw[EC hd hi hj h1 h2] at hy;exact absurd (eX.1 hy) h3
theorem xI{L:bM}{fr tn:ByteArray}{g:Value}{w:World}{e:Ending}{w':World}(hd:Apart L.aI)(h:sP L fr tn g w e w')(hy:mD L fr tn=false) :
  ∃n,e=.returned (.tuple #[ai none,ai none,.iface 229 (ai (some ⟨n,0,none⟩))])/\Below w.heap.size w w':=by
 obtain⟨hb,⟨i,j,hi,hj,p,r,h1,h2,h3,_,_,he⟩|⟨hn,n,_,_,_,_,he⟩|⟨i,j,hi,hj,h1,h2,h3,n,_,_,_,_,he⟩⟩:=h
 ·rw[EC hd hi hj h1 h2,eX.2 h3] at hy;cases hy
 ·exact⟨n,he,hb⟩
 ·exact⟨n,he,hb⟩
def nY(L:bM)(k:Nat):Bool:=match L.az[k]? with
 | none=>true
 | some x=>fD (L.az.map bP.id) k&&eu 1 1000000000 x.id&&eu 1 1000000000000 x.aV&&!jC x.fr x.to&&mD L x.fr x.to
theorem jv{L:bM}{k:Nat}(h:k<L.az.length):nY L k=(fD (L.az.map bP.id) k&&eu 1 1000000000 (L.az[k]).id&&eu 1 1000000000000 (L.az[k]).aV&&!jC (L.az[k]).fr (L.az[k]).to&&mD L (L.az[k]).fr (L.az[k]).to):=by
 simp[nY,List.getElem?_eq_getElem h]
theorem xN(q:Nat)(L:bM)(t:TypeId)(v:Value)(w:World)(hl:L.az.length<=10)(hd:Apart L.aI)(hB:lL w q L)(hg:w.cell? ⟨5,0,none⟩=some (.iface t v)) :
  Calls prog 153 #[ai (some ⟨q,0,none⟩)] w fun e w'=>e=.returned (.bool (bE (nY L) L.az.length))/\Below w.heap.size w w':=by
 have HBk:=hide hB;have HG:=hide hg;have HD:=hide hd;obtain⟨hq,m,h,s,ch,cs,c0,c1,c2,hh,ha,hm⟩:=hB;have HL:=hide hh;clear hh ha hm c0 c2 hg hd;go_enter func153,ntmps153;go_wp2;go_loopw [13] (fun i wr=>∃k:Nat,k<=L.az.length/\i=ae au (k:Int)/\Below w.heap.size w wr/\Hid (bE (nY L) k=true)) (fun i wr=>L.az.length-(intOf i).toNat)
 case atStart=>exact⟨0,Nat.zero_le _,rfl,Below.refl _ _,hide rfl⟩
 case round =>
  obtain⟨k,hk,rfl,HB,HS⟩:=hrel;by_cases hlt:k<L.az.length
  ·obtain⟨b,off,rfl,hb,d0,d1,d2,d3,s1,s2,_,_⟩:=(HL.below HB) k hlt;have hlt':(k:Int)<(L.az.length:Int):=by omega
   have hqr:q<wr.heap.size:=by have:=HB.size;omega
   have c1':wr.cell? ⟨q,1,none⟩=some (af (some ⟨b,off,none⟩) L.az.length ch):=(HB.cell hq).trans c1;by_cases hz:k=0
   ·have hri:Hid (fD (L.az.map bP.id) k=true):=hide (by rw[hz];rfl);have hz':decide ((0:Int)<(k:Int))=false:=by simp;omega
    have hz'':decide (0<k)=false:=by simp;omega
    clear hz;cases q1:eu 1 1000000000 (L.az[k]).id
    ·have HR:Hid (bE (nY L) L.az.length=false):=hide (by rw[aZ hlt (by rw[jv hlt,hri.out,q1];simp)]);go_wp2_with (fail);go_quiet (fail);go_wp2_with (first|(go_at_call 156;refine(bQ _ _).mono ?_;rintro e w'⟨rfl,rfl⟩)|(go_at_call 103;refine(bH _ _ _ _).mono ?_;rintro e w'⟨rfl,rfl⟩));go_ret;exact⟨by rw[HR.out];rfl,below_drewN (aF HB _) _⟩
    ·
     cases q2:eu 1 1000000000000 (L.az[k]).aV
     ·have HR:Hid (bE (nY L) L.az.length=false):=hide (by rw[aZ hlt (by rw[jv hlt,hri.out,q1,q2];simp)]);go_wp2_with (fail);go_quiet (fail);go_wp2_with (first|(go_at_call 156;refine(bQ _ _).mono ?_;rintro e w'⟨rfl,rfl⟩)|(go_at_call 103;refine(bH _ _ _ _).mono ?_;rintro e w'⟨rfl,rfl⟩));go_ret;exact⟨by rw[HR.out];rfl,below_drewN (aF HB _) _⟩
     ·
      cases q4:((L.az[k]).fr.toList==(L.az[k]).to.toList)
      ·
       cases q5:mD L (L.az[k]).fr (L.az[k]).to
       ·have HR:Hid (bE (nY L) L.az.length=false):=hide (by rw[aZ hlt (by rw[jv hlt,q5];simp)]);go_wp2_with (fail);go_quiet (fail);go_wp2_with (first|(go_at_call 156;refine(bQ _ _).mono ?_;rintro e w'⟨rfl,rfl⟩)|(go_at_call 103;refine(bH _ _ _ _).mono ?_;rintro e w'⟨rfl,rfl⟩)|(go_at_call 198;refine(uL q L _ _ t v _ s1 s2 (HBk.below (below_drewN (aF HB _) _)) (aN (below_drewN (aF HB _) _) _ _ HG.out)).mono ?_;intro e w1 hpe;obtain⟨nn,rfl,hbn⟩:=xI HD.out hpe q5;have HBn:=hide (aJ (below_drewN (aF HB _) _) hbn);clear hbn;clear hpe));go_ret;exact⟨by rw[HR.out];rfl,HBn.out⟩
       ·have HS2:Hid (bE (nY L) (k+1)=true):=hide (dQ HS.out (by rw[jv hlt,hri.out,q1,q2,q5];unfold jC;rw[q4];rfl));go_wp2_with (fail);go_quiet (fail);go_wp2_with (first|(go_at_call 156;refine(bQ _ _).mono ?_;rintro e w'⟨rfl,rfl⟩)|(go_at_call 103;refine(bH _ _ _ _).mono ?_;rintro e w'⟨rfl,rfl⟩)|(go_at_call 198;refine(uL q L _ _ t v _ s1 s2 (HBk.below (below_drewN (aF HB _) _)) (aN (below_drewN (aF HB _) _) _ _ HG.out)).mono ?_;intro e w1 hpe;obtain⟨p,r,rfl,hbn⟩:=xH HD.out hpe q5;have HBn:=hide (aJ (below_drewN (aF HB _) _) hbn);clear hbn;clear hpe));exact⟨⟨_,by omega,by go_num,HBn.out,HS2⟩,by simp[intOf];omega⟩
      ·have HR:Hid (bE (nY L) L.az.length=false):=hide (by rw[aZ hlt (by rw[jv hlt];unfold jC;rw[q4];simp)]);go_wp2_with (fail);go_quiet (fail);go_wp2_with (first|(go_at_call 156;refine(bQ _ _).mono ?_;rintro e w'⟨rfl,rfl⟩)|(go_at_call 103;refine(bH _ _ _ _).mono ?_;rintro e w'⟨rfl,rfl⟩));go_ret;exact⟨by rw[HR.out];rfl,below_drewN (aF HB _) _⟩
   ·obtain⟨n,hm⟩:∃n,k=n+1:=⟨k-1,by omega⟩;have hm3:n<L.az.length:=by omega
    obtain⟨b',off',heq,_,p0,_,_,_,_⟩:=(HL.below HB) n hm3;simp only[Option.some.injEq,Addr.mk.injEq,and_true] at heq;obtain⟨rfl,rfl⟩:=heq;have hz':(0:Int)<(k:Int):=by omega
    have hm1:IntKind.i64.wrap ((k:Int)-1)=(n:Int):=by rw[show (k:Int)-1=(n:Int) by omega];simp only[IntKind.wrap,IntKind.signed,IntKind.bits];simp;omega
    have hm2:(n:Int)<(L.az.length:Int):=by omega
    have hz'':0<k:=by omega
    have hrs:fD (L.az.map bP.id) k=decide ((L.az[n]).id<(L.az[k]).id):=by subst hm;exact zi hlt
    by_cases q0:(L.az[n]).id<(L.az[k]).id
    ·have hri:Hid (fD (L.az.map bP.id) k=true):=hide (by rw[hrs];simpa using q0);have q0':decide ((L.az[k]).id<=(L.az[n]).id)=false:=by simp;omega
     clear hrs hm hz;cases q1:eu 1 1000000000 (L.az[k]).id
     ·have HR:Hid (bE (nY L) L.az.length=false):=hide (by rw[aZ hlt (by rw[jv hlt,hri.out,q1];simp)]);go_wp2_with (fail);go_quiet (fail);go_wp2_with (first|(go_at_call 156;refine(bQ _ _).mono ?_;rintro e w'⟨rfl,rfl⟩)|(go_at_call 103;refine(bH _ _ _ _).mono ?_;rintro e w'⟨rfl,rfl⟩));go_ret;exact⟨by rw[HR.out];rfl,below_drewN (aF HB _) _⟩
     ·
      cases q2:eu 1 1000000000000 (L.az[k]).aV
      ·have HR:Hid (bE (nY L) L.az.length=false):=hide (by rw[aZ hlt (by rw[jv hlt,hri.out,q1,q2];simp)]);go_wp2_with (fail);go_quiet (fail);go_wp2_with (first|(go_at_call 156;refine(bQ _ _).mono ?_;rintro e w'⟨rfl,rfl⟩)|(go_at_call 103;refine(bH _ _ _ _).mono ?_;rintro e w'⟨rfl,rfl⟩));go_ret;exact⟨by rw[HR.out];rfl,below_drewN (aF HB _) _⟩
      ·
       cases q4:((L.az[k]).fr.toList==(L.az[k]).to.toList)
       ·
        cases q5:mD L (L.az[k]).fr (L.az[k]).to
        ·have HR:Hid (bE (nY L) L.az.length=false):=hide (by rw[aZ hlt (by rw[jv hlt,q5];simp)]);go_wp2_with (fail);go_quiet (fail);go_wp2_with (first|(go_at_call 156;refine(bQ _ _).mono ?_;rintro e w'⟨rfl,rfl⟩)|(go_at_call 103;refine(bH _ _ _ _).mono ?_;rintro e w'⟨rfl,rfl⟩)|(go_at_call 198;refine(uL q L _ _ t v _ s1 s2 (HBk.below (below_drewN (aF HB _) _)) (aN (below_drewN (aF HB _) _) _ _ HG.out)).mono ?_;intro e w1 hpe;obtain⟨nn,rfl,hbn⟩:=xI HD.out hpe q5;have HBn:=hide (aJ (below_drewN (aF HB _) _) hbn);clear hbn;clear hpe));go_ret;exact⟨by rw[HR.out];rfl,HBn.out⟩
        ·have HS2:Hid (bE (nY L) (k+1)=true):=hide (dQ HS.out (by rw[jv hlt,hri.out,q1,q2,q5];unfold jC;rw[q4];rfl));go_wp2_with (fail);go_quiet (fail);go_wp2_with (first|(go_at_call 156;refine(bQ _ _).mono ?_;rintro e w'⟨rfl,rfl⟩)|(go_at_call 103;refine(bH _ _ _ _).mono ?_;rintro e w'⟨rfl,rfl⟩)|(go_at_call 198;refine(uL q L _ _ t v _ s1 s2 (HBk.below (below_drewN (aF HB _) _)) (aN (below_drewN (aF HB _) _) _ _ HG.out)).mono ?_;intro e w1 hpe;obtain⟨p,r,rfl,hbn⟩:=xH HD.out hpe q5;have HBn:=hide (aJ (below_drewN (aF HB _) _) hbn);clear hbn;clear hpe));exact⟨⟨_,by omega,by go_num,HBn.out,HS2⟩,by simp[intOf];omega⟩
       ·have HR:Hid (bE (nY L) L.az.length=false):=hide (by rw[aZ hlt (by rw[jv hlt];unfold jC;rw[q4];simp)]);go_wp2_with (fail);go_quiet (fail);go_wp2_with (first|(go_at_call 156;refine(bQ _ _).mono ?_;rintro e w'⟨rfl,rfl⟩)|(go_at_call 103;refine(bH _ _ _ _).mono ?_;rintro e w'⟨rfl,rfl⟩));go_ret;exact⟨by rw[HR.out];rfl,below_drewN (aF HB _) _⟩
    ·have q0':(L.az[k]).id<=(L.az[n]).id:=by omega
     have HR:Hid (bE (nY L) L.az.length=false):=hide (by rw[aZ hlt (by rw[jv hlt,hrs,decide_eq_false q0];simp)]);clear hrs hm hz;go_wp2_with (fail);go_quiet (fail);go_wp2_with (first|(go_at_call 156;refine(bQ _ _).mono ?_;rintro e w'⟨rfl,rfl⟩)|(go_at_call 103;refine(bH _ _ _ _).mono ?_;rintro e w'⟨rfl,rfl⟩));go_ret;exact⟨by rw[HR.out];rfl,below_drewN (aF HB _) _⟩
  ·have hk':¬ (k:Int)<(L.az.length:Int):=by omega
   have HR:Hid (bE (nY L) L.az.length=true):=hide (by
    have hs:=HS.out;rw[show k=L.az.length by omega] at hs;exact hs)
   go_wp2;go_ret;exact⟨by rw[HR.out];rfl,HB⟩
def EO(c:Int):Bool:=decide (c=0)||eu 4 9 c
theorem vS{L:bM}{k:Nat}(h:k<L.aH.length):nT L k=(eu 1 1000000000 (L.aH[k]).id&&fD (L.aH.map Sn.id) k&&EO (L.aH[k]).code):=jf h
theorem iX(c:Int)(w:World) :
  Calls prog 152 #[ae au c] w fun e w'=>e=.returned (.bool (EO c))/\w'=w:=by
 cases q0:(c==0)
 ·have HR:Hid (EO c=eu 4 9 c):=hide (by unfold EO;rw[decide_eq_false (by simpa using q0)];rfl);go_enter func152,ntmps152;go_wp2_with (first|(go_at_call 103;refine(bH _ _ _ _).mono ?_;rintro e w'⟨rfl,rfl⟩));go_ret;exact⟨by rw[HR.out];rfl,rfl⟩
 ·have HR:Hid (EO c=true):=hide (by unfold EO;rw[decide_eq_true (by simpa using q0)];rfl);go_enter func152,ntmps152;go_wp2_with (first|(go_at_call 103;refine(bH _ _ _ _).mono ?_;rintro e w'⟨rfl,rfl⟩));go_ret;exact⟨by rw[HR.out];rfl,rfl⟩
theorem uh(a:Option Addr)(L:bM)(cap:Nat)(w:World)(hl:L.aH.length<=40)(h:ji w a L.aH) :
  Calls prog 151 #[af a L.aH.length cap,.func (.func 152) #[] #[]] w fun e w'=>e=.returned (.bool (bE (nT L) L.aH.length))/\Below w.heap.size w w':=by
 have HL:=hide h;clear h;go_enter func151,ntmps151;go_wp2;go_loopw [9] (fun i wr=>∃k:Nat,k<=L.aH.length/\i=ae au (k:Int)/\Below w.heap.size w wr/\Hid (bE (nT L) k=true)) (fun i wr=>L.aH.length-(intOf i).toNat)
 case atStart=>exact⟨0,Nat.zero_le _,rfl,Below.refl _ _,hide rfl⟩
 case round =>
  obtain⟨k,hk,rfl,HB,HS⟩:=hrel;by_cases hlt:k<L.aH.length
  ·obtain⟨b,off,rfl,hb,c0,c1,_,_⟩:=(HL.below HB) k hlt;have hlt':(k:Int)<(L.aH.length:Int):=by omega
   by_cases hz:k=0
   ·have hri:Hid (fD (L.aH.map Sn.id) k=true):=hide (by rw[hz];rfl);have hz':decide ((0:Int)<(k:Int))=false:=by simp;omega
    have hz'':decide (0<k)=false:=by simp;omega
    clear hz;cases q1:eu 1 1000000000 (L.aH[k]).id
    ·have HR:Hid (bE (nT L) L.aH.length=false):=hide (by rw[aZ hlt (by rw[jf hlt,q1];rfl)]);go_wp2_with (fail);go_quiet (fail);go_wp2_with (first|(go_at_call 156;refine(bQ _ _).mono ?_;rintro e w'⟨rfl,rfl⟩)|(go_at_call 152;refine(iX _ _).mono ?_;rintro e w'⟨rfl,rfl⟩));go_ret;exact⟨by rw[HR.out];rfl,below_drewN (aF HB _) _⟩
    ·cases q3:EO (L.aH[k]).code
     ·have HR:Hid (bE (nT L) L.aH.length=false):=hide (by rw[aZ hlt (by rw[vS hlt,q1,hri.out,q3];rfl)]);go_wp2_with (fail);go_quiet (fail);go_wp2_with (first|(go_at_call 156;refine(bQ _ _).mono ?_;rintro e w'⟨rfl,rfl⟩)|(go_at_call 152;refine(iX _ _).mono ?_;rintro e w'⟨rfl,rfl⟩));go_ret;exact⟨by rw[HR.out];rfl,below_drewN (aF HB _) _⟩
     ·have HS2:Hid (bE (nT L) (k+1)=true):=hide (dQ HS.out (by rw[vS hlt,q1,hri.out,q3];rfl));go_wp2_with (fail);go_quiet (fail);go_wp2_with (first|(go_at_call 156;refine(bQ _ _).mono ?_;rintro e w'⟨rfl,rfl⟩)|(go_at_call 152;refine(iX _ _).mono ?_;rintro e w'⟨rfl,rfl⟩));exact⟨⟨_,by omega,by go_num,below_drewN (aF HB _) _,HS2⟩,by simp[intOf];omega⟩
   ·obtain⟨m,hm⟩:∃m,k=m+1:=⟨k-1,by omega⟩;have hm3:m<L.aH.length:=by omega
    obtain⟨b',off',heq,_,p0,_,_,_⟩:=(HL.below HB) m hm3;simp only[Option.some.injEq,Addr.mk.injEq,and_true] at heq;obtain⟨rfl,rfl⟩:=heq;have hz':(0:Int)<(k:Int):=by omega
    have hm1:IntKind.i64.wrap ((k:Int)-1)=(m:Int):=by rw[show (k:Int)-1=(m:Int) by omega];simp only[IntKind.wrap,IntKind.signed,IntKind.bits];simp;omega
    have hm2:(m:Int)<(L.aH.length:Int):=by omega
    have hz'':0<k:=by omega
    have hrs:fD (L.aH.map Sn.id) k=decide ((L.aH[m]).id<(L.aH[k]).id):=by subst hm;exact BF hlt
    by_cases q2:(L.aH[m]).id<(L.aH[k]).id
    ·have hri:Hid (fD (L.aH.map Sn.id) k=true):=hide (by rw[hrs];simpa using q2);have q2':decide ((L.aH[k]).id<=(L.aH[m]).id)=false:=by simp;omega
     clear hrs hm hz;cases q1:eu 1 1000000000 (L.aH[k]).id
     ·have HR:Hid (bE (nT L) L.aH.length=false):=hide (by rw[aZ hlt (by rw[jf hlt,q1];rfl)]);go_wp2_with (fail);go_quiet (fail);go_wp2_with (first|(go_at_call 156;refine(bQ _ _).mono ?_;rintro e w'⟨rfl,rfl⟩)|(go_at_call 152;refine(iX _ _).mono ?_;rintro e w'⟨rfl,rfl⟩));go_ret;exact⟨by rw[HR.out];rfl,below_drewN (aF HB _) _⟩
     ·cases q3:EO (L.aH[k]).code
      ·have HR:Hid (bE (nT L) L.aH.length=false):=hide (by rw[aZ hlt (by rw[vS hlt,q1,hri.out,q3];rfl)]);go_wp2_with (fail);go_quiet (fail);go_wp2_with (first|(go_at_call 156;refine(bQ _ _).mono ?_;rintro e w'⟨rfl,rfl⟩)|(go_at_call 152;refine(iX _ _).mono ?_;rintro e w'⟨rfl,rfl⟩));go_ret;exact⟨by rw[HR.out];rfl,below_drewN (aF HB _) _⟩
      ·have HS2:Hid (bE (nT L) (k+1)=true):=hide (dQ HS.out (by rw[vS hlt,q1,hri.out,q3];rfl));go_wp2_with (fail);go_quiet (fail);go_wp2_with (first|(go_at_call 156;refine(bQ _ _).mono ?_;rintro e w'⟨rfl,rfl⟩)|(go_at_call 152;refine(iX _ _).mono ?_;rintro e w'⟨rfl,rfl⟩));exact⟨⟨_,by omega,by go_num,below_drewN (aF HB _) _,HS2⟩,by simp[intOf];omega⟩
    ·have q2':(L.aH[k]).id<=(L.aH[m]).id:=by omega
     have HR:Hid (bE (nT L) L.aH.length=false):=hide (by rw[aZ hlt (by rw[jf hlt,hrs,decide_eq_false q2];simp)]);clear hrs hm hz;go_wp2_with (fail);go_quiet (fail);go_wp2;go_ret;exact⟨by rw[HR.out];rfl,below_drewN (aF HB _) _⟩
  ·have hk':¬ (k:Int)<(L.aH.length:Int):=by omega
   have HR:Hid (bE (nT L) L.aH.length=true):=hide (by
    have hs:=HS.out;rw[show k=L.aH.length by omega] at hs;exact hs)
   go_wp2;go_ret;exact⟨by rw[HR.out];rfl,HB⟩
theorem qx:∀(x y:List UInt8),Op.bytesLess x y=decide (x<y)
 | [],[]=>rfl
 | [],_::_=>rfl
 | _::_,[]=>rfl
 | a::s,b::t=>by
  rw[Op.bytesLess,qx s t,Bool.eq_iff_iff];simp[List.cons_lt_cons_iff]
theorem GL{L:bM}(h:bE (nU L) L.aI.length=true):∀(d i:Nat)(hi:i+d+1<L.aI.length),L.aI[i].name.toList<L.aI[i+d+1].name.toList:=by
 intro d
 induction d with
 | zero =>
  intro i hi;have h1:=dU h hi;rw[gP hi] at h1;simp only[Bool.and_eq_true] at h1;have h2:=h1.1.1.1.1;rw[kZ hi,qx] at h2;exact of_decide_eq_true h2
 | succ d ih =>
  intro i hi;have h1:=ih i (by omega);have h3:=dU h hi;rw[gP hi] at h3;simp only[Bool.and_eq_true] at h3;have h2:=h3.1.1.1.1;rw[show i+(d+1)+1=(i+d+1)+1 by omega,kZ (by omega),qx] at h2;exact List.lt_trans h1 (of_decide_eq_true h2)
theorem rQ{L:bM}(h:bE (nU L) L.aI.length=true):Apart L.aI:=fun i j hi hj hij e=>by
 have h1:=GL h (j-i-1) i (by omega);simp only[show i+(j-i-1)+1=j by omega] at h1;rw[e] at h1;exact absurd h1 (List.lt_irrefl _)
theorem AP{L:bM}(h:bE (nU L) L.aI.length=true):∀x∈L.aI,xc x:=fun x hx=>by
 obtain⟨i,hi,rfl⟩:=List.getElem_of_mem hx;have h1:=dU h hi;rw[gP hi] at h1;simp only[Bool.and_eq_true] at h1;exact⟨bW.1 h1.1.2,bW.1 h1.2⟩
theorem GG{L:bM}(g:L.aI.length<=12)(h:bE (nU L) L.aI.length=true):nV L.aI:=⟨g,fun x hx=>(AP h x hx).2⟩
theorem GD{L:bM}(g:L.az.length<=10)(h:bE (nY L) L.az.length=true):jq L.az:=⟨g,fun x hx=>by
 obtain⟨i,hi,rfl⟩:=List.getElem_of_mem hx;have h1:=dU h hi;rw[jv hi] at h1;simp only[Bool.and_eq_true] at h1;have:=bW.1 h1.1.1.2;omega⟩
def G5(L:bM):Bool :=
 decide (L.aI.length<=12)&&decide (L.az.length<=10)&&decide (L.aH.length<=40)&&bE (nU L) L.aI.length&&bE (nT L) L.aH.length&&bE (nY L) L.az.length&&L.aI.all (uw L)
theorem Lt{f:Nat->Bool}{n:Nat}:bE f n=true ↔ ∀k,k<n->f k=true:=by
 constructor
 ·exact fun h k hk=>dU h hk
 ·intro h
  induction n with
  | zero=>rfl
  | succ n ih=>simp only[bE,Bool.and_eq_true];exact⟨ih (fun k hk=>h k (by omega)),h n (by omega)⟩
theorem J3{L:bM}{x:bP}:pu L x=(!jC x.fr x.to&&mD L x.fr x.to&&eu 1 1000000000000 x.aV):=by
 unfold pu mD
 cases h1:dZ L.aI x.fr with
 | none=>simp
 | some i =>
  cases h2:dZ L.aI x.to with
  | none=>simp
  | some j =>
   obtain⟨hi,e1,_⟩:=fq h1;obtain⟨hj,e2,_⟩:=fq h2;have:decide (i≠j)=!jC x.fr x.to:=by
    by_cases e:x.fr=x.to
    ·have:i=j:=by rw[e,h2] at h1;exact(Option.some.inj h1).symm
     rw[eX.2 e];simp[this]
    ·have hne:i≠j:=fun e'=>by subst e';exact e (e1.symm.trans e2)
     have:jC x.fr x.to=false:=by rw[Bool.eq_false_iff];exact fun h=>e (eX.1 h)
     rw[this];simp[hne]
   simp only[this,List.getElem?_eq_getElem hi,List.getElem?_eq_getElem hj]
theorem BZ{L:bM}{k:Nat}:holdB L k=nY L k:=by
 unfold holdB nY
 cases L.az[k]? with
 | none=>rfl
 | some x =>
  simp only[J3];cases eu 1 1000000000 x.id<;>cases fD (L.az.map bP.id) k<;>cases eu 1 1000000000000 x.aV<;>cases jC x.fr x.to<;>cases mD L x.fr x.to<;>rfl
theorem xw{x:bF}{held:Int}(h:-1<=x.bB):dD x held=(eu (-1000000000000) 1000000000000 x.aS&&decide (held<=1000000000000)&&mh x held 0):=by
 unfold dD mh;have e1:decide (x.bB<0)=decide (x.bB=-1):=by
  by_cases e:x.bB=-1
  ·simp[e]
  ·have:¬ x.bB<0:=by omega
   simp[e,this]
 rw[e1,Int.sub_zero]
theorem rG(L:bM):G5 L=df L:=by
 rw[Bool.eq_iff_iff];simp only[G5,df,Bool.and_eq_true,Lt,List.all_eq_true];constructor
 ·rintro⟨⟨⟨⟨⟨⟨g1,g2⟩,g3⟩,ha⟩,hs⟩,hh⟩,hb⟩;refine⟨⟨⟨⟨⟨⟨g1,g2⟩,g3⟩,fun k hk=>?_⟩,fun k hk=>?_⟩,fun k hk=>?_⟩,hs⟩
  ·have h1:=ha k hk;rw[gP hk] at h1;simp only[Bool.and_eq_true] at h1;rw[ru hk];exact h1.2
  ·rw[BZ];exact hh k hk
  ·have h1:=ha k hk;rw[gP hk] at h1;simp only[Bool.and_eq_true] at h1;have h2:=hb _ (List.getElem_mem hk);unfold uw at h2;simp only[Bool.and_eq_true] at h2;rw[iE hk,xw (bW.1 h1.1.2).1];simp only[Bool.and_eq_true];exact⟨⟨⟨⟨⟨h1.1.1.1.2,h1.1.1.2⟩,h1.1.2⟩,h1.1.1.1.1⟩,⟨⟨h1.2,h2.1.1⟩,h2.1.2⟩⟩,h2.2⟩
 ·rintro⟨⟨⟨⟨⟨⟨g1,g2⟩,g3⟩,hp⟩,hh⟩,ha⟩,hs⟩;have hparts:∀k (hk:k<L.aI.length),(dW (L.aI[k]).name=true/\jU (L.aI[k]).cur=true/\eu (-1) 1000000000000 (L.aI[k]).bB=true/\gT L k=true)/\(eu (-1000000000000) 1000000000000 (L.aI[k]).aS=true/\decide (bf (L.aI[k]).name L.az<=1000000000000)=true/\mh (L.aI[k]) (bf (L.aI[k]).name L.az) 0=true)/\decide (fe (L.aI[k]).cur L.aI=0)=true:=fun k hk=>by
   have h1:=ha k hk;rw[iE hk] at h1;simp only[Bool.and_eq_true] at h1;rw[xw (bW.1 h1.1.1.1.2).1] at h1;simp only[Bool.and_eq_true] at h1;exact⟨⟨h1.1.1.1.1.1,h1.1.1.1.1.2,h1.1.1.1.2,h1.1.1.2⟩,⟨h1.1.2.1.1,h1.1.2.1.2,h1.1.2.2⟩,h1.2⟩
  refine⟨⟨⟨⟨⟨⟨g1,g2⟩,g3⟩,fun k hk=>?_⟩,hs⟩,fun k hk=>?_⟩,fun x hx=>?_⟩
  ·obtain⟨⟨a1,a2,a3,a4⟩,⟨b1,b2,b3⟩,c1⟩:=hparts k hk;rw[gP hk,a1,a2,a3,a4,b1];rfl
  ·rw[<-BZ];exact hh k hk
  ·obtain⟨i,hi,rfl⟩:=List.getElem_of_mem hx;obtain⟨⟨a1,a2,a3,a4⟩,⟨b1,b2,b3⟩,c1⟩:=hparts i hi;unfold uw;rw[b2,b3,c1];rfl
theorem nR{w x:World}{va vh vs:Value}(h:Below (w.heap.size+1) (w.alloc (.cells #[va,vh,vs] 31)) x):x.cell? ⟨w.heap.size,0,none⟩=some va/\x.cell? ⟨w.heap.size,1,none⟩=some vh/\x.cell? ⟨w.heap.size,2,none⟩=some vs :=
 ⟨by rw[h.cell (by simp)];simp,by rw[h.cell (by simp)];simp,by rw[h.cell (by simp)];simp⟩
theorem pG(a h s:Option Addr)(L:bM)(ca ch cs:Nat)(t:TypeId)(v:Value)(w:World)(hl:iO w a h s L)(hg:w.cell? ⟨5,0,none⟩=some (.iface t v))(n1:L.aI.length<=1048576)(n2:L.az.length<=1048576)(n3:L.aH.length<=1048576) :
  Calls prog 121 #[aj #[af a L.aI.length ca,af h L.az.length ch,af s L.aH.length cs]] w fun e w'=>Qs (df L) w e w':=by
 have HL:=hide hl;have HG:=hide hg;clear hl hg;have HX0:Hid (Below (w.heap.size+1) (w.alloc (.cells #[af a L.aI.length ca,af h L.az.length ch,af s L.aH.length cs] 31)) (w.alloc (.cells #[af a L.aI.length ca,af h L.az.length ch,af s L.aH.length cs] 31))):=hide (Below.refl _ _);by_cases g1:L.aI.length<=12
 ·by_cases g2:L.az.length<=10
  ·by_cases g3:L.aH.length<=40
   ·have g1':(L.aI.length:Int)<=12:=by omega
    have g2':(L.az.length:Int)<=10:=by omega
    have g3':(L.aH.length:Int)<=40:=by omega
    cases q1:bE (nU L) L.aI.length
    ·have HR:Hid (df L=false):=hide (by rw[<-rG];unfold G5;rw[q1];simp);go_enter func121,ntmps121;go_wp2_with (first|(go_at_call 150;refine(kV _ L _ _ g1 (HL.aI.below (bn HX0.out))).mono ?_;rintro e wa⟨rfl,hba⟩;have HXa:=hide (fo HX0.out hba);obtain⟨x0,x1,x2⟩:=nR HXa.out;clear hba));go_ret;exact⟨by rw[HR.out];rfl,bn HXa.out⟩
    ·cases q2:bE (nT L) L.aH.length
     ·have HR:Hid (df L=false):=hide (by rw[<-rG];unfold G5;rw[q2];simp);go_enter func121,ntmps121;go_wp2_with (first|(go_at_call 150;refine(kV _ L _ _ g1 (HL.aI.below (bn HX0.out))).mono ?_;rintro e wa⟨rfl,hba⟩;have HXa:=hide (fo HX0.out hba);obtain⟨x0,x1,x2⟩:=nR HXa.out;clear hba)|(go_at_call 151;refine(uh _ L _ _ g3 (HL.aH.below (bn HXa.out))).mono ?_;rintro e ws⟨rfl,hbs⟩;have HXs:=hide (fo HXa.out hbs);obtain⟨y0,y1,y2⟩:=nR HXs.out;clear hbs));go_ret;exact⟨by rw[HR.out];rfl,bn HXs.out⟩
     ·cases q3:bE (nY L) L.az.length
      ·have HR:Hid (df L=false):=hide (by rw[<-rG];unfold G5;rw[q3];simp);go_enter func121,ntmps121;go_wp2_with (first|(go_at_call 150;refine(kV _ L _ _ g1 (HL.aI.below (bn HX0.out))).mono ?_;rintro e wa⟨rfl,hba⟩;have HXa:=hide (fo HX0.out hba);obtain⟨x0,x1,x2⟩:=nR HXa.out;clear hba)|(go_at_call 151;refine(uh _ L _ _ g3 (HL.aH.below (bn HXa.out))).mono ?_;rintro e ws⟨rfl,hbs⟩;have HXs:=hide (fo HXa.out hbs);obtain⟨y0,y1,y2⟩:=nR HXs.out;clear hbs)|(go_at_call 130;refine(AC _ _ _ _ _ _ L _ g1 g2 g3 (HL.below (bn HXs.out)) (rQ q1)).mono ?_;rintro e wb⟨hbb,bq,rfl,hbook⟩;have HBk:=hide hbook;have HXb:=hide (aJ (bn HXs.out) hbb);clear hbb hbook)|(go_at_call 153;refine(xN bq L t v _ g2 (rQ q1) HBk.out (aN HXb.out _ _ HG.out)).mono ?_;rintro e wh⟨rfl,hbh⟩;have HXh:=hide (aJ HXb.out hbh);have HBh:=hide (HBk.below hbh);clear hbh));go_ret;exact⟨by rw[HR.out];rfl,HXh.out⟩
      ·have HR:Hid (df L=L.aI.all (uw L)):=hide (by rw[<-rG];unfold G5;rw[q1,q2,q3];simp[g1,g2,g3]);go_enter func121,ntmps121;go_wp2_with (first|(go_at_call 150;refine(kV _ L _ _ g1 (HL.aI.below (bn HX0.out))).mono ?_;rintro e wa⟨rfl,hba⟩;have HXa:=hide (fo HX0.out hba);obtain⟨x0,x1,x2⟩:=nR HXa.out;clear hba)|(go_at_call 151;refine(uh _ L _ _ g3 (HL.aH.below (bn HXa.out))).mono ?_;rintro e ws⟨rfl,hbs⟩;have HXs:=hide (fo HXa.out hbs);obtain⟨y0,y1,y2⟩:=nR HXs.out;clear hbs)|(go_at_call 130;refine(AC _ _ _ _ _ _ L _ g1 g2 g3 (HL.below (bn HXs.out)) (rQ q1)).mono ?_;rintro e wb⟨hbb,bq,rfl,hbook⟩;have HBk:=hide hbook;have HXb:=hide (aJ (bn HXs.out) hbb);clear hbb hbook)|(go_at_call 153;refine(xN bq L t v _ g2 (rQ q1) HBk.out (aN HXb.out _ _ HG.out)).mono ?_;rintro e wh⟨rfl,hbh⟩;have HXh:=hide (aJ HXb.out hbh);have HBh:=hide (HBk.below hbh);clear hbh)|(go_at_call 154;refine(AJ bq L _ (GD g2 q3) (GG g1 q1) (AP q1) (rQ q1) HBh.out).mono ?_;rintro e wl⟨rfl,hbl⟩;have HXl:=hide (aJ HXh.out hbl);clear hbl));go_ret;exact⟨by rw[HR.out];rfl,HXl.out⟩
   ·have HR:Hid (df L=false):=hide (by simp[df,g3]);have g1':(L.aI.length:Int)<=12:=by omega
    have g2':(L.az.length:Int)<=10:=by omega
    have g3':¬ (L.aH.length:Int)<=40:=by omega
    go_enter func121,ntmps121;go_wp2;go_ret;exact⟨by rw[HR.out];rfl,aF (Below.refl _ _) _⟩
  ·have HR:Hid (df L=false):=hide (by simp[df,g2]);have g1':(L.aI.length:Int)<=12:=by omega
   have g2':¬ (L.az.length:Int)<=10:=by omega
   go_enter func121,ntmps121;go_wp2;go_ret;exact⟨by rw[HR.out];rfl,aF (Below.refl _ _) _⟩
 ·have HR:Hid (df L=false):=hide (by simp[df,g1]);have g1':¬ (L.aI.length:Int)<=12:=by omega
  go_enter func121,ntmps121;go_wp2;go_ret;exact⟨by rw[HR.out];rfl,aF (Below.refl _ _) _⟩
end Go.Proofs.YtdbmmdecclalgaaGreatDoor
