import Derived.Test.YtdbmmdecclalgaaGreatDoorQae
namespace Go.Proofs.YtdbmmdecclalgaaGreatDoor
open Go.Value renaming int → ae, slice → af, string → ag, agg → aj
open Go.IntKind renaming i64 → au
open Go.Proofs.Tryz Go.ChangeShapes Go.WideShapes Go.ChangeAt Go.RowKit
set_option linter.unusedVariables false
set_option maxRecDepth 100000
set_option maxHeartbeats 20000000
set_option maxRecDepth 1000000 in
theorem o5(a h s:Option Addr)(L:bM)(ca ch cs:Nat)(w:World)(hl:iO w a h s L)(n1:L.aI.length<=1048576)(n2:L.az.length<=1048576)(n3:L.aH.length<=1048576) :
  Calls prog 95 #[aj #[af a L.aI.length ca,af h L.az.length ch,af s L.aH.length cs]] w fun e w'=>Qs (df L) w e w':=by
 have HL:=hide hl;clear hl;by_cases g1:L.aI.length<=12
 ·by_cases g2:L.az.length<=10
  ·by_cases g3:L.aH.length<=40
   ·have HE:Hid (df L=(bE (xG L) L.aI.length&&bE (holdB L) L.az.length&&bE (tF L) L.aI.length&&bE (nT L) L.aH.length)):=hide (by simp[df,g1,g2,g3]);have g1':(L.aI.length:Int)<=12:=by omega
    have g2':(L.az.length:Int)<=10:=by omega
    have g3':(L.aH.length:Int)<=40:=by omega
    go_enter func95,ntmps95;go_wp2;go_loopw [3] (fun i wr=>∃k:Nat,k<=L.aI.length/\i=ae au (k:Int)/\wr=w.alloc (.cells #[af a L.aI.length ca,af h L.az.length ch,af s L.aH.length cs] 31)/\Hid (bE (xG L) k=true)) (fun i wr=>L.aI.length-(intOf i).toNat)
    case atStart=>exact⟨0,Nat.zero_le _,rfl,rfl,hide rfl⟩
    case round =>
     obtain⟨k,hk,rfl,rfl,HP⟩:=hrel;by_cases hlt:k<L.aI.length
     ·obtain⟨b,off,rfl,hb,_,_,_,c3,_⟩:=HL.aI k hlt;have hlt':(k:Int)<(L.aI.length:Int):=by omega
      cases hq:eu (-1000000000000) 1000000000000 (L.aI[k]).aS
      ·have HR:Hid (df L=false):=hide (by rw[HE.out,aZ hlt (by rw[ru hlt];exact hq)];rfl);go_wp2_with (go_at_call 66;refine(bz _ _ _ _).mono ?_;rintro e w'⟨rfl,rfl⟩);go_ret;exact⟨by rw[HR.out];rfl,aF (Below.refl _ _) _⟩
      ·have HP2:Hid (bE (xG L) (k+1)=true):=hide (dQ HP.out (by rw[ru hlt];exact hq));go_wp2_with (go_at_call 66;refine(bz _ _ _ _).mono ?_;rintro e w'⟨rfl,rfl⟩);exact⟨⟨k+1,by omega,by go_num,trivial,HP2⟩,by simp[intOf];omega⟩
     ·have hk':¬ (k:Int)<(L.aI.length:Int):=by omega
      have HPa:Hid (bE (xG L) L.aI.length=true):=hide (by have:=HP.out;rwa [show k=L.aI.length by omega] at this);go_wp2;go_loopw [4] (fun i wr=>∃k:Nat,k<=L.az.length/\i=ae au (k:Int)/\Below (w.heap.size+1) (w.alloc (.cells #[af a L.aI.length ca,af h L.az.length ch,af s L.aH.length cs] 31)) wr/\Hid (bE (holdB L) k=true)) (fun i wr=>L.az.length-(intOf i).toNat)
      case atStart=>exact⟨0,Nat.zero_le _,rfl,Below.refl _ _,hide rfl⟩
      case round =>
       clear hk hk' hlt HP;obtain⟨k2,hk2,rfl,HB2,HH⟩:=hrel;have hsz:w.heap.size<wr.heap.size:=by have:=HB2.size;simp at this;omega
       have e0:wr.cell? ⟨w.heap.size,0,none⟩=some (af a L.aI.length ca):=by rw[HB2.cell (by simp)];simp
       have e1:wr.cell? ⟨w.heap.size,1,none⟩=some (af h L.az.length ch):=by rw[HB2.cell (by simp)];simp
       have e2:wr.cell? ⟨w.heap.size,2,none⟩=some (af s L.aH.length cs):=by rw[HB2.cell (by simp)];simp
       by_cases hlt:k2<L.az.length
       ·as_aux_lemma =>
         obtain⟨b,off,rfl,hb,c0,c1,c2,c3,_⟩:=(HL.az.below (bn HB2)) k2 hlt;have hlt':(k2:Int)<(L.az.length:Int):=by omega
         have HBa:Below w.heap.size w (wr.alloc (.cells #[ae au (L.az[k2]).id,ag (L.az[k2]).fr,ag (L.az[k2]).to,ae au (L.az[k2]).aV] 109)):=aF (bn HB2) _;go_wp2_with fail;refine(lF a L.aI ca _ _ _ _ n1 (HL.aI.below HBa)).mono ?_;rintro e w3 hf1;obtain⟨HB3,r1,rfl,F1⟩:=pO hf1;have HF1:=hide F1;clear hf1 F1;have HBw3:Below w.heap.size w w3:=aJ HBa HB3;have k0:w3.cell? ⟨w.heap.size,0,none⟩=some (af a L.aI.length ca):=by rw[HB3.cell (by simp;omega),World.cell?_alloc_past _ _ _ hsz];exact e0
         have k1:w3.cell? ⟨w.heap.size,1,none⟩=some (af (some ⟨b,off,none⟩) L.az.length ch):=by rw[HB3.cell (by simp;omega),World.cell?_alloc_past _ _ _ hsz];exact e1
         have k2':w3.cell? ⟨w.heap.size,2,none⟩=some (af s L.aH.length cs):=by rw[HB3.cell (by simp;omega),World.cell?_alloc_past _ _ _ hsz];exact e2
         have x2:w3.cell? ⟨wr.heap.size,2,none⟩=some (ag (L.az[k2]).to):=by rw[HB3.cell (by simp)];simp
         go_wp2_with fail;refine(lF a L.aI ca _ _ _ _ n1 (HL.aI.below HBw3)).mono ?_;rintro e w4 hf2;obtain⟨HB4',r2,rfl,F2⟩:=pO hf2;have HF2:=hide F2;clear hf2 F2 k0 k1 k2' x2;have HBw4:Below w.heap.size w w4:=aJ HBw3 HB4';have HBr4:Below (wr.alloc (.cells #[ae au (L.az[k2]).id,ag (L.az[k2]).fr,ag (L.az[k2]).to,ae au (L.az[k2]).aV] 109)).heap.size (wr.alloc (.cells #[ae au (L.az[k2]).id,ag (L.az[k2]).fr,ag (L.az[k2]).to,ae au (L.az[k2]).aV] 109)) w4:=aJ HB3 HB4';have HBx4:Below (w.heap.size+1) (w.alloc (.cells #[af a L.aI.length ca,af (some ⟨b,off,none⟩) L.az.length ch,af s L.aH.length cs] 31)) w4:=fo HB2 (aJ (aF (Below.refl _ _) _) HBr4);have HL4:=hide (HL.below HBw4);have k0:w4.cell? ⟨w.heap.size,0,none⟩=some (af a L.aI.length ca):=by rw[HBr4.cell (by simp;omega),World.cell?_alloc_past _ _ _ hsz];exact e0
         have k1:w4.cell? ⟨w.heap.size,1,none⟩=some (af (some ⟨b,off,none⟩) L.az.length ch):=by rw[HBr4.cell (by simp;omega),World.cell?_alloc_past _ _ _ hsz];exact e1
         have x0:w4.cell? ⟨wr.heap.size,0,none⟩=some (ae au (L.az[k2]).id):=by rw[HBr4.cell (by simp)];simp
         have x3:w4.cell? ⟨wr.heap.size,3,none⟩=some (ae au (L.az[k2]).aV):=by rw[HBr4.cell (by simp)];simp
         clear e0 e1 e2 c0 c1 c2 c3 hb HB3 HBw3 HBa HB4' HBr4 HB2 hsz;cases q1:eu 1 1000000000 (L.az[k2]).id
         ·have HR:Hid (df L=false):=hide (by rw[HE.out,aZ hlt (by rw[fI hlt,q1];simp)];simp);go_wp2_with fail;go_quiet ((go_at_call 66;exact Calls.quiet_of_same (bz _ _ _ _)));go_wp2;go_ret;exact⟨by rw[HR.out];rfl,below_drewN HBw4 _⟩
         ·by_cases hz:k2=0
          ·have hri:Hid (fD (L.az.map bP.id) k2=true):=hide (by rw[hz];rfl);have hz':decide ((0:Int)<(k2:Int))=false:=by simp;omega
           have hz'':decide (0<k2)=false:=by simp;omega
           clear hz;rcases HF1.out with ⟨i,hi,f1,rfl⟩|⟨f1,rfl⟩
           ·rcases HF2.out with ⟨j,hj,f2,rfl⟩|⟨f2,rfl⟩
            ·obtain⟨ba,oa,rfl,hba,_,di,_,_,_⟩:=HL4.aI i hi;obtain⟨ba',oa',heq,_,_,dj,_,_,_⟩:=HL4.aI j hj;simp only[Option.some.injEq,Addr.mk.injEq,and_true] at heq;obtain⟨rfl,rfl⟩:=heq;have hi':(i:Int)<(L.aI.length:Int):=by omega
             have hj':(j:Int)<(L.aI.length:Int):=by omega
             have hn1:decide ((i:Int)<0)=false:=by simp
             have hn2:decide ((j:Int)<0)=false:=by simp
             have hps:=qm f1 f2 hi hj;have HPS:=hide hps;clear hps f1 f2 HF1 HF2;by_cases q5:i=j
             ·have q5':((i:Int)==(j:Int))=true:=by simp[q5]
              have q5'':(i==j)=true:=by simp[q5]
              have HR:Hid (df L=false):=hide (by rw[HE.out,aZ hlt (by rw[fI hlt,q1,hri.out,HPS.out,decide_eq_false (show ¬ i≠j from fun h=>h q5)];simp)];simp);clear q5;go_wp2_with fail;go_quiet ((go_at_call 66;exact Calls.quiet_of_same (bz _ _ _ _)));go_wp2;go_ret;exact⟨by rw[HR.out];rfl,below_drewN HBw4 _⟩
             ·have q5':((i:Int)==(j:Int))=false:=by simp;omega
              have q5'':(i==j)=false:=by simpa using q5
              cases q6:((L.aI[i]).cur.toList==(L.aI[j]).cur.toList)
              ·have HR:Hid (df L=false):=hide (by rw[HE.out,aZ hlt (by rw[fI hlt,q1,hri.out,HPS.out,show jC (L.aI[i]).cur (L.aI[j]).cur=false from q6];simp)];simp);clear q5;go_wp2_with fail;go_quiet ((go_at_call 66;exact Calls.quiet_of_same (bz _ _ _ _)));go_wp2;go_ret;exact⟨by rw[HR.out];rfl,below_drewN HBw4 _⟩
              ·cases q7:eu 1 1000000000000 (L.az[k2]).aV
               ·have HR:Hid (df L=false):=hide (by rw[HE.out,aZ hlt (by rw[fI hlt,q1,hri.out,HPS.out,q7];simp)];simp);clear q5;go_wp2_with fail;go_quiet ((go_at_call 66;exact Calls.quiet_of_same (bz _ _ _ _)));go_wp2;go_ret;exact⟨by rw[HR.out];rfl,below_drewN HBw4 _⟩
               ·have HH2:Hid (bE (holdB L) (k2+1)=true):=hide (dQ HH.out (by rw[fI hlt,q1,hri.out,HPS.out,show jC (L.aI[i]).cur (L.aI[j]).cur=true from q6,q7];simp[q5]));clear q5;go_wp2_with fail;go_quiet ((go_at_call 66;exact Calls.quiet_of_same (bz _ _ _ _)));go_wp2;exact⟨⟨_,by omega,by go_num,below_drewN HBx4 _,HH2⟩,by simp[intOf];omega⟩
            ·have HR:Hid (df L=false):=hide (by rw[HE.out,aZ hlt (by rw[fI hlt,q1,hri.out,om f2];simp)];simp);have hn1:decide ((i:Int)<0)=false:=by simp
             clear f1 f2 HF1 HF2;go_wp2_with fail;go_quiet ((go_at_call 66;exact Calls.quiet_of_same (bz _ _ _ _)));go_wp2;go_ret;exact⟨by rw[HR.out];rfl,below_drewN HBw4 _⟩
           ·have HR:Hid (df L=false):=hide (by rw[HE.out,aZ hlt (by rw[fI hlt,q1,hri.out,oo f1];simp)];simp);clear f1 HF1;go_wp2_with fail;go_quiet ((go_at_call 66;exact Calls.quiet_of_same (bz _ _ _ _)));go_wp2;go_ret;exact⟨by rw[HR.out];rfl,below_drewN HBw4 _⟩
          ·obtain⟨m,hm⟩:∃m,k2=m+1:=⟨k2-1,by omega⟩;have hm3:m<L.az.length:=by omega
           obtain⟨b',off',heq,_,p0,_,_,_,_⟩:=HL4.az m hm3;simp only[Option.some.injEq,Addr.mk.injEq,and_true] at heq;obtain⟨rfl,rfl⟩:=heq;have hz':(0:Int)<(k2:Int):=by omega
           have hz'':0<k2:=by omega
           have hm1:IntKind.i64.wrap ((k2:Int)-1)=(m:Int):=by rw[show (k2:Int)-1=(m:Int) by omega];simp only[IntKind.wrap,IntKind.signed,IntKind.bits];simp;omega
           have hm2:(m:Int)<(L.az.length:Int):=by omega
           have hrs:fD (L.az.map bP.id) k2=decide ((L.az[m]).id<(L.az[k2]).id):=by subst hm;exact zi hlt
           by_cases q2:(L.az[m]).id<(L.az[k2]).id
           ·have hri:Hid (fD (L.az.map bP.id) k2=true):=hide (by rw[hrs];simpa using q2);have q2':decide ((L.az[k2]).id<=(L.az[m]).id)=false:=by simp;omega
            clear hrs hm hz;rcases HF1.out with ⟨i,hi,f1,rfl⟩|⟨f1,rfl⟩
            ·rcases HF2.out with ⟨j,hj,f2,rfl⟩|⟨f2,rfl⟩
             ·obtain⟨ba,oa,rfl,hba,_,di,_,_,_⟩:=HL4.aI i hi;obtain⟨ba',oa',heq,_,_,dj,_,_,_⟩:=HL4.aI j hj;simp only[Option.some.injEq,Addr.mk.injEq,and_true] at heq;obtain⟨rfl,rfl⟩:=heq;have hi':(i:Int)<(L.aI.length:Int):=by omega
              have hj':(j:Int)<(L.aI.length:Int):=by omega
              have hn1:decide ((i:Int)<0)=false:=by simp
              have hn2:decide ((j:Int)<0)=false:=by simp
              have hps:=qm f1 f2 hi hj;have HPS:=hide hps;clear hps f1 f2 HF1 HF2;by_cases q5:i=j
              ·have q5':((i:Int)==(j:Int))=true:=by simp[q5]
               have q5'':(i==j)=true:=by simp[q5]
               have HR:Hid (df L=false):=hide (by rw[HE.out,aZ hlt (by rw[fI hlt,q1,hri.out,HPS.out,decide_eq_false (show ¬ i≠j from fun h=>h q5)];simp)];simp);clear q5;go_wp2_with fail;go_quiet ((go_at_call 66;exact Calls.quiet_of_same (bz _ _ _ _)));go_wp2;go_ret;exact⟨by rw[HR.out];rfl,below_drewN HBw4 _⟩
              ·have q5':((i:Int)==(j:Int))=false:=by simp;omega
               have q5'':(i==j)=false:=by simpa using q5
               cases q6:((L.aI[i]).cur.toList==(L.aI[j]).cur.toList)
               ·have HR:Hid (df L=false):=hide (by rw[HE.out,aZ hlt (by rw[fI hlt,q1,hri.out,HPS.out,show jC (L.aI[i]).cur (L.aI[j]).cur=false from q6];simp)];simp);clear q5;go_wp2_with fail;go_quiet ((go_at_call 66;exact Calls.quiet_of_same (bz _ _ _ _)));go_wp2;go_ret;exact⟨by rw[HR.out];rfl,below_drewN HBw4 _⟩
               ·cases q7:eu 1 1000000000000 (L.az[k2]).aV
                ·have HR:Hid (df L=false):=hide (by rw[HE.out,aZ hlt (by rw[fI hlt,q1,hri.out,HPS.out,q7];simp)];simp);clear q5;go_wp2_with fail;go_quiet ((go_at_call 66;exact Calls.quiet_of_same (bz _ _ _ _)));go_wp2;go_ret;exact⟨by rw[HR.out];rfl,below_drewN HBw4 _⟩
                ·have HH2:Hid (bE (holdB L) (k2+1)=true):=hide (dQ HH.out (by rw[fI hlt,q1,hri.out,HPS.out,show jC (L.aI[i]).cur (L.aI[j]).cur=true from q6,q7];simp[q5]));clear q5;go_wp2_with fail;go_quiet ((go_at_call 66;exact Calls.quiet_of_same (bz _ _ _ _)));go_wp2;exact⟨⟨_,by omega,by go_num,below_drewN HBx4 _,HH2⟩,by simp[intOf];omega⟩
             ·have HR:Hid (df L=false):=hide (by rw[HE.out,aZ hlt (by rw[fI hlt,q1,hri.out,om f2];simp)];simp);have hn1:decide ((i:Int)<0)=false:=by simp
              clear f1 f2 HF1 HF2;go_wp2_with fail;go_quiet ((go_at_call 66;exact Calls.quiet_of_same (bz _ _ _ _)));go_wp2;go_ret;exact⟨by rw[HR.out];rfl,below_drewN HBw4 _⟩
            ·have HR:Hid (df L=false):=hide (by rw[HE.out,aZ hlt (by rw[fI hlt,q1,hri.out,oo f1];simp)];simp);clear f1 HF1;go_wp2_with fail;go_quiet ((go_at_call 66;exact Calls.quiet_of_same (bz _ _ _ _)));go_wp2;go_ret;exact⟨by rw[HR.out];rfl,below_drewN HBw4 _⟩
           ·have q2':(L.az[k2]).id<=(L.az[m]).id:=by omega
            have HR:Hid (df L=false):=hide (by rw[HE.out,aZ hlt (by rw[fI hlt,q1,hrs,decide_eq_false q2];simp)];simp);clear hrs hm hz;go_wp2_with fail;go_quiet ((go_at_call 66;exact Calls.quiet_of_same (bz _ _ _ _)));go_wp2;go_ret;exact⟨by rw[HR.out];rfl,below_drewN HBw4 _⟩
       ·have hk':¬ (k2:Int)<(L.az.length:Int):=by omega
        have HHa:Hid (bE (holdB L) L.az.length=true):=hide (by have:=HH.out;rwa [show k2=L.az.length by omega] at this);go_wp2;obtain⟨w2,rfl⟩:∃w2:World,w2=wr:=⟨_,rfl⟩;clear e0 e1 e2 hsz;go_loopw [8] (fun i wr=>∃k:Nat,k<=L.aI.length/\i=ae au (k:Int)/\Below (w.heap.size+1) (w.alloc (.cells #[af a L.aI.length ca,af h L.az.length ch,af s L.aH.length cs] 31)) wr/\Hid (bE (tF L) k=true)) (fun i wr=>L.aI.length-(intOf i).toNat)
        case atStart=>exact⟨0,Nat.zero_le _,rfl,HB2,hide rfl⟩
        case round =>
         clear hk2 hk' hlt HH HB2;obtain⟨k3,hk3,rfl,HB3,HA⟩:=hrel;have hsz:w.heap.size<wr.heap.size:=by have:=HB3.size;simp at this;omega
         have e0:wr.cell? ⟨w.heap.size,0,none⟩=some (af a L.aI.length ca):=by rw[HB3.cell (by simp)];simp
         have e1:wr.cell? ⟨w.heap.size,1,none⟩=some (af h L.az.length ch):=by rw[HB3.cell (by simp)];simp
         have e2:wr.cell? ⟨w.heap.size,2,none⟩=some (af s L.aH.length cs):=by rw[HB3.cell (by simp)];simp
         by_cases hlt:k3<L.aI.length
         ·have HSm:=hide (BA g2 HHa.out);have HSa:=hide (BB g1 HPa.out);obtain⟨b,off,rfl,hb,c0,c1,c2,c3,s1,s2,_,_⟩:=(HL.aI.below (bn HB3)) k3 hlt;have hlt':(k3:Int)<(L.aI.length:Int):=by omega
          have HBa:Hid (Below w.heap.size w (wr.alloc (.cells #[ag (L.aI[k3]).name,ag (L.aI[k3]).cur,ae au (L.aI[k3]).bB,ae au (L.aI[k3]).aS] 106))):=hide (aF (bn HB3) _);have HLx:Hid (∀x:Later (wr.alloc (.cells #[ag (L.aI[k3]).name,ag (L.aI[k3]).cur,ae au (L.aI[k3]).bB,ae au (L.aI[k3]).aS] 106)),iO x.w (some ⟨b,off,none⟩) h s L):=hide (fun x=>HL.below (aJ HBa.out x.below));have hne:Nonempty (Later (wr.alloc (.cells #[ag (L.aI[k3]).name,ag (L.aI[k3]).cur,ae au (L.aI[k3]).bB,ae au (L.aI[k3]).aS] 106))):=bO _;obtain⟨l0,l1,l2⟩:=Kq (.cells #[ag (L.aI[k3]).name,ag (L.aI[k3]).cur,ae au (L.aI[k3]).bB,ae au (L.aI[k3]).aS] 106) hsz e0 e1 e2;obtain⟨m0,m1,m2⟩:=Ko (wr:=wr) (v0:=ag (L.aI[k3]).name) (v1:=ag (L.aI[k3]).cur) (v2:=ae au (L.aI[k3]).bB) (v3:=ae au (L.aI[k3]).aS) (T:=106);cases q1:dW (L.aI[k3]).name
          ·have HR:Hid (df L=false):=hide (by rw[HE.out,aZ (f:=tF L) hlt (by rw[iE hlt,q1];simp)];simp);go_wp2_with fail;go_quiet (first|(go_at_call 97;exact Calls.quiet_of_same (dE _ _ s1))|(go_at_call 98;exact Calls.quiet_of_same (dP _ _ s2))|(go_at_call 66;exact Calls.quiet_of_same (bz _ _ _ _)));go_wp2;go_ret;exact⟨by rw[HR.out];rfl,below_drewN (aF (bn HB3) _) _⟩
          ·cases q2:jU (L.aI[k3]).cur
           ·have HR:Hid (df L=false):=hide (by rw[HE.out,aZ (f:=tF L) hlt (by rw[iE hlt,q1,q2];simp)];simp);go_wp2_with fail;go_quiet (first|(go_at_call 97;exact Calls.quiet_of_same (dE _ _ s1))|(go_at_call 98;exact Calls.quiet_of_same (dP _ _ s2))|(go_at_call 66;exact Calls.quiet_of_same (bz _ _ _ _)));go_wp2;go_ret;exact⟨by rw[HR.out];rfl,below_drewN (aF (bn HB3) _) _⟩
           ·cases q3:eu (-1) 1000000000000 (L.aI[k3]).bB
            ·have HR:Hid (df L=false):=hide (by rw[HE.out,aZ (f:=tF L) hlt (by rw[iE hlt,q1,q2,q3];simp)];simp);go_wp2_with fail;go_quiet (first|(go_at_call 97;exact Calls.quiet_of_same (dE _ _ s1))|(go_at_call 98;exact Calls.quiet_of_same (dP _ _ s2))|(go_at_call 66;exact Calls.quiet_of_same (bz _ _ _ _)));go_wp2;go_ret;exact⟨by rw[HR.out];rfl,below_drewN (aF (bn HB3) _) _⟩
            ·have hlim:Hid (-1<=(L.aI[k3]).bB/\(L.aI[k3]).bB<=1000000000000):=hide (bW.1 q3);by_cases hz:k3=0
             ·have hri:Hid (gT L k3=true):=hide (by rw[hz];rfl);have hz':decide ((0:Int)<(k3:Int))=false:=by simp;omega
              have hz'':decide (0<k3)=false:=by simp;omega
              clear hz;cases q5:dD (L.aI[k3]) (bf (L.aI[k3]).name L.az)
              ·have HR:Hid (df L=false):=hide (by rw[HE.out,aZ (f:=tF L) hlt (by rw[iE hlt,q1,q2,q3,hri.out,q5];simp)];simp);go_wp2_with fail;refine aU (wr.alloc (.cells #[ag (L.aI[k3]).name,ag (L.aI[k3]).cur,ae au (L.aI[k3]).bB,ae au (L.aI[k3]).aS] 106)) (by kernel_rfl) (by kernel_rfl) ((Below.refl _ _).drew) ?_
               repeat (go_big_quiet_step (first|(go_at_call 97;exact bZ (dE _ _ s1))|(go_at_call 98;exact bZ (dP _ _ s2))|(go_at_call 66;exact bZ (bz _ _ _ _))|(go_at_call 102;exact dh (iA _ _ L.aI L.az _ _ _ k3 _ hlt g1 HSm.out (HLx.out _).aI (HLx.out _).az hlim.out))|(go_at_call 137;exact dh (kD _ L.aI _ _ _ _ _ HSa.out (HLx.out _).aI))))
               refine wpQuiet_nil ?_;intro _ hw';obtain⟨nx,rfl⟩:=hw'
               all_goals go_wp2
               all_goals go_ret
               all_goals exact⟨by rw[HR.out];rfl,aJ HBa.out nx.below⟩
              ·by_cases q6:fe (L.aI[k3]).cur L.aI=0
               ·have q6':(fe (L.aI[k3]).cur L.aI != 0)=false:=by simp[q6]
                have HA2:Hid (bE (tF L) (k3+1)=true):=hide (dQ HA.out (by rw[iE hlt,q1,q2,q3,hri.out,q5];simp[q6]));clear q6;go_wp2_with fail;refine aU (wr.alloc (.cells #[ag (L.aI[k3]).name,ag (L.aI[k3]).cur,ae au (L.aI[k3]).bB,ae au (L.aI[k3]).aS] 106)) (by kernel_rfl) (by kernel_rfl) ((Below.refl _ _).drew) ?_
                repeat (go_big_quiet_step (first|(go_at_call 97;exact bZ (dE _ _ s1))|(go_at_call 98;exact bZ (dP _ _ s2))|(go_at_call 66;exact bZ (bz _ _ _ _))|(go_at_call 102;exact dh (iA _ _ L.aI L.az _ _ _ k3 _ hlt g1 HSm.out (HLx.out _).aI (HLx.out _).az hlim.out))|(go_at_call 137;exact dh (kD _ L.aI _ _ _ _ _ HSa.out (HLx.out _).aI))))
                refine wpQuiet_nil ?_;intro _ hw';obtain⟨nx,rfl⟩:=hw'
                all_goals go_wp2
                all_goals exact⟨⟨_,by omega,by go_num,fo HB3 (aJ (aF (Below.refl _ _) _) nx.below),HA2⟩,by simp[intOf];omega⟩
               ·have q6':(fe (L.aI[k3]).cur L.aI != 0)=true:=by simp[q6]
                have HR:Hid (df L=false):=hide (by rw[HE.out,aZ (f:=tF L) hlt (by rw[iE hlt,q1,q2,q3,hri.out,q5,decide_eq_false q6];simp)];simp);clear q6;go_wp2_with fail;refine aU (wr.alloc (.cells #[ag (L.aI[k3]).name,ag (L.aI[k3]).cur,ae au (L.aI[k3]).bB,ae au (L.aI[k3]).aS] 106)) (by kernel_rfl) (by kernel_rfl) ((Below.refl _ _).drew) ?_
                repeat (go_big_quiet_step (first|(go_at_call 97;exact bZ (dE _ _ s1))|(go_at_call 98;exact bZ (dP _ _ s2))|(go_at_call 66;exact bZ (bz _ _ _ _))|(go_at_call 102;exact dh (iA _ _ L.aI L.az _ _ _ k3 _ hlt g1 HSm.out (HLx.out _).aI (HLx.out _).az hlim.out))|(go_at_call 137;exact dh (kD _ L.aI _ _ _ _ _ HSa.out (HLx.out _).aI))))
                refine wpQuiet_nil ?_;intro _ hw';obtain⟨nx,rfl⟩:=hw'
                all_goals go_wp2
                all_goals go_ret
                all_goals exact⟨by rw[HR.out];rfl,aJ HBa.out nx.below⟩
             ·obtain⟨m,hm⟩:∃m,k3=m+1:=⟨k3-1,by omega⟩;have hm3:m<L.aI.length:=by omega
              obtain⟨b',off',heq,hb',p0,_,_,_,_⟩:=(HL.aI.below (bn HB3)) m hm3;simp only[Option.some.injEq,Addr.mk.injEq,and_true] at heq;obtain⟨rfl,rfl⟩:=heq;have pl0:=BM (o:=.cells #[ag (L.aI[k3]).name,ag (L.aI[k3]).cur,ae au (L.aI[k3]).bB,ae au (L.aI[k3]).aS] 106) hb' p0;have hz':(0:Int)<(k3:Int):=by omega
              have hz'':0<k3:=by omega
              have hm1:IntKind.i64.wrap ((k3:Int)-1)=(m:Int):=by rw[show (k3:Int)-1=(m:Int) by omega];simp only[IntKind.wrap,IntKind.signed,IntKind.bits];simp;omega
              have hm2:(m:Int)<(L.aI.length:Int):=by omega
              have hrs:gT L k3=Op.bytesLess (L.aI[m]).name.toList (L.aI[k3]).name.toList:=by subst hm;exact kZ hlt
              cases q4:Op.bytesLess (L.aI[m]).name.toList (L.aI[k3]).name.toList
              ·have HR:Hid (df L=false):=hide (by rw[HE.out,aZ (f:=tF L) hlt (by rw[iE hlt,q1,q2,q3,hrs,q4];simp)];simp);clear hrs hm hz;go_wp2_with fail;go_quiet (first|(go_at_call 97;exact Calls.quiet_of_same (dE _ _ s1))|(go_at_call 98;exact Calls.quiet_of_same (dP _ _ s2))|(go_at_call 66;exact Calls.quiet_of_same (bz _ _ _ _)));go_wp2;go_ret;exact⟨by rw[HR.out];rfl,below_drewN (aF (bn HB3) _) _⟩
              ·have hri:Hid (gT L k3=true):=hide (by rw[hrs,q4]);clear hrs hm hz;cases q5:dD (L.aI[k3]) (bf (L.aI[k3]).name L.az)
               ·have HR:Hid (df L=false):=hide (by rw[HE.out,aZ (f:=tF L) hlt (by rw[iE hlt,q1,q2,q3,hri.out,q5];simp)];simp);go_wp2_with fail;refine aU (wr.alloc (.cells #[ag (L.aI[k3]).name,ag (L.aI[k3]).cur,ae au (L.aI[k3]).bB,ae au (L.aI[k3]).aS] 106)) (by kernel_rfl) (by kernel_rfl) ((Below.refl _ _).drew) ?_
                repeat (go_big_quiet_step (first|(go_at_call 97;exact bZ (dE _ _ s1))|(go_at_call 98;exact bZ (dP _ _ s2))|(go_at_call 66;exact bZ (bz _ _ _ _))|(go_at_call 102;exact dh (iA _ _ L.aI L.az _ _ _ k3 _ hlt g1 HSm.out (HLx.out _).aI (HLx.out _).az hlim.out))|(go_at_call 137;exact dh (kD _ L.aI _ _ _ _ _ HSa.out (HLx.out _).aI))))
                refine wpQuiet_nil ?_;intro _ hw';obtain⟨nx,rfl⟩:=hw'
                all_goals go_wp2
                all_goals go_ret
                all_goals exact⟨by rw[HR.out];rfl,aJ HBa.out nx.below⟩
               ·by_cases q6:fe (L.aI[k3]).cur L.aI=0
                ·have q6':(fe (L.aI[k3]).cur L.aI != 0)=false:=by simp[q6]
                 have HA2:Hid (bE (tF L) (k3+1)=true):=hide (dQ HA.out (by rw[iE hlt,q1,q2,q3,hri.out,q5];simp[q6]));clear q6;go_wp2_with fail;refine aU (wr.alloc (.cells #[ag (L.aI[k3]).name,ag (L.aI[k3]).cur,ae au (L.aI[k3]).bB,ae au (L.aI[k3]).aS] 106)) (by kernel_rfl) (by kernel_rfl) ((Below.refl _ _).drew) ?_
                 repeat (go_big_quiet_step (first|(go_at_call 97;exact bZ (dE _ _ s1))|(go_at_call 98;exact bZ (dP _ _ s2))|(go_at_call 66;exact bZ (bz _ _ _ _))|(go_at_call 102;exact dh (iA _ _ L.aI L.az _ _ _ k3 _ hlt g1 HSm.out (HLx.out _).aI (HLx.out _).az hlim.out))|(go_at_call 137;exact dh (kD _ L.aI _ _ _ _ _ HSa.out (HLx.out _).aI))))
                 refine wpQuiet_nil ?_;intro _ hw';obtain⟨nx,rfl⟩:=hw'
                 all_goals go_wp2
                 all_goals exact⟨⟨_,by omega,by go_num,fo HB3 (aJ (aF (Below.refl _ _) _) nx.below),HA2⟩,by simp[intOf];omega⟩
                ·have q6':(fe (L.aI[k3]).cur L.aI != 0)=true:=by simp[q6]
                 have HR:Hid (df L=false):=hide (by rw[HE.out,aZ (f:=tF L) hlt (by rw[iE hlt,q1,q2,q3,hri.out,q5,decide_eq_false q6];simp)];simp);clear q6;go_wp2_with fail;refine aU (wr.alloc (.cells #[ag (L.aI[k3]).name,ag (L.aI[k3]).cur,ae au (L.aI[k3]).bB,ae au (L.aI[k3]).aS] 106)) (by kernel_rfl) (by kernel_rfl) ((Below.refl _ _).drew) ?_
                 repeat (go_big_quiet_step (first|(go_at_call 97;exact bZ (dE _ _ s1))|(go_at_call 98;exact bZ (dP _ _ s2))|(go_at_call 66;exact bZ (bz _ _ _ _))|(go_at_call 102;exact dh (iA _ _ L.aI L.az _ _ _ k3 _ hlt g1 HSm.out (HLx.out _).aI (HLx.out _).az hlim.out))|(go_at_call 137;exact dh (kD _ L.aI _ _ _ _ _ HSa.out (HLx.out _).aI))))
                 refine wpQuiet_nil ?_;intro _ hw';obtain⟨nx,rfl⟩:=hw'
                 all_goals go_wp2
                 all_goals go_ret
                 all_goals exact⟨by rw[HR.out];rfl,aJ HBa.out nx.below⟩
         ·have hk':¬ (k3:Int)<(L.aI.length:Int):=by omega
          have HAa:Hid (bE (tF L) L.aI.length=true):=hide (by have:=HA.out;rwa [show k3=L.aI.length by omega] at this);go_wp2;obtain⟨w3,rfl⟩:∃w3:World,w3=wr:=⟨_,rfl⟩;clear e0 e1 e2 hsz;go_loopw [10] (fun i wr=>∃k:Nat,k<=L.aH.length/\i=ae au (k:Int)/\Below (w.heap.size+1) (w.alloc (.cells #[af a L.aI.length ca,af h L.az.length ch,af s L.aH.length cs] 31)) wr/\Hid (bE (nT L) k=true)) (fun i wr=>L.aH.length-(intOf i).toNat)
          case atStart=>exact⟨0,Nat.zero_le _,rfl,HB3,hide rfl⟩
          case round =>
           clear hk3 hk' hlt HA HB3;obtain⟨k4,hk4,rfl,HB4,HS⟩:=hrel;have hsz:w.heap.size<wr.heap.size:=by have:=HB4.size;simp at this;omega
           have e0:wr.cell? ⟨w.heap.size,0,none⟩=some (af a L.aI.length ca):=by rw[HB4.cell (by simp)];simp
           have e1:wr.cell? ⟨w.heap.size,1,none⟩=some (af h L.az.length ch):=by rw[HB4.cell (by simp)];simp
           have e2:wr.cell? ⟨w.heap.size,2,none⟩=some (af s L.aH.length cs):=by rw[HB4.cell (by simp)];simp
           by_cases hlt:k4<L.aH.length
           ·as_aux_lemma =>
             obtain⟨b,off,rfl,hb,c0,c1,_,_⟩:=(HL.aH.below (bn HB4)) k4 hlt;have hlt':(k4:Int)<(L.aH.length:Int):=by omega
             cases q1:eu 1 1000000000 (L.aH[k4]).id
             ·have HR:Hid (df L=false):=hide (by rw[HE.out,aZ hlt (by rw[jf hlt,q1];rfl)];simp);go_wp2;go_quiet ((go_at_call 66;exact Calls.quiet_of_same (bz _ _ _ _)));go_wp2;go_ret;exact⟨by rw[HR.out];rfl,below_drewN (aF (bn HB4) _) _⟩
             ·by_cases hz:k4=0
              ·have hri:Hid (fD (L.aH.map Sn.id) k4=true):=hide (by rw[hz];rfl);have hz':decide ((0:Int)<(k4:Int))=false:=by simp;omega
               have hz'':decide (0<k4)=false:=by simp;omega
               clear hz;cases q3:((L.aH[k4]).code==0)
               ·have q3':((L.aH[k4]).code != 0)=true:=by simp[bne,q3]
                cases q4:eu 4 9 (L.aH[k4]).code
                ·have HR:Hid (df L=false):=hide (by rw[HE.out,aZ hlt (by rw[jf hlt,q1,hri.out,q4];simp at q3;simp[q3])];simp);go_wp2;go_quiet ((go_at_call 66;exact Calls.quiet_of_same (bz _ _ _ _)));go_wp2;go_ret;exact⟨by rw[HR.out];rfl,below_drewN (aF (bn HB4) _) _⟩
                ·have HS2:Hid (bE (nT L) (k4+1)=true):=hide (dQ HS.out (by rw[jf hlt,q1,hri.out,q4];simp));go_wp2;go_quiet ((go_at_call 66;exact Calls.quiet_of_same (bz _ _ _ _)));go_wp2;exact⟨⟨_,by omega,by go_num,below_drewN (fo HB4 (aF (Below.refl _ _) _)) _,HS2⟩,by simp[intOf];omega⟩
               ·have q3':((L.aH[k4]).code != 0)=false:=by simp[bne,q3]
                have HS2:Hid (bE (nT L) (k4+1)=true):=hide (dQ HS.out (by rw[jf hlt,q1,hri.out];simp at q3;simp[q3]));go_wp2;go_quiet ((go_at_call 66;exact Calls.quiet_of_same (bz _ _ _ _)));go_wp2;exact⟨⟨_,by omega,by go_num,below_drewN (fo HB4 (aF (Below.refl _ _) _)) _,HS2⟩,by simp[intOf];omega⟩
              ·obtain⟨m,hm⟩:∃m,k4=m+1:=⟨k4-1,by omega⟩;have hm3:m<L.aH.length:=by omega
               obtain⟨b',off',heq,_,p0,_,_,_⟩:=(HL.aH.below (bn HB4)) m hm3;simp only[Option.some.injEq,Addr.mk.injEq,and_true] at heq;obtain⟨rfl,rfl⟩:=heq;have hz':(0:Int)<(k4:Int):=by omega
               have hm1:IntKind.i64.wrap ((k4:Int)-1)=(m:Int):=by rw[show (k4:Int)-1=(m:Int) by omega];simp only[IntKind.wrap,IntKind.signed,IntKind.bits];simp;omega
               have hm2:(m:Int)<(L.aH.length:Int):=by omega
               have hz'':0<k4:=by omega
               have hrs:fD (L.aH.map Sn.id) k4=decide ((L.aH[m]).id<(L.aH[k4]).id):=by subst hm;exact BF hlt
               by_cases q2:(L.aH[m]).id<(L.aH[k4]).id
               ·have hri:Hid (fD (L.aH.map Sn.id) k4=true):=hide (by rw[hrs];simpa using q2);have q2':decide ((L.aH[k4]).id<=(L.aH[m]).id)=false:=by simp;omega
                clear hrs hm hz;cases q3:((L.aH[k4]).code==0)
                ·have q3':((L.aH[k4]).code != 0)=true:=by simp[bne,q3]
                 cases q4:eu 4 9 (L.aH[k4]).code
                 ·have HR:Hid (df L=false):=hide (by rw[HE.out,aZ hlt (by rw[jf hlt,q1,hri.out,q4];simp at q3;simp[q3])];simp);go_wp2;go_quiet ((go_at_call 66;exact Calls.quiet_of_same (bz _ _ _ _)));go_wp2;go_ret;exact⟨by rw[HR.out];rfl,below_drewN (aF (bn HB4) _) _⟩
                 ·have HS2:Hid (bE (nT L) (k4+1)=true):=hide (dQ HS.out (by rw[jf hlt,q1,hri.out,q4];simp));go_wp2;go_quiet ((go_at_call 66;exact Calls.quiet_of_same (bz _ _ _ _)));go_wp2;exact⟨⟨_,by omega,by go_num,below_drewN (fo HB4 (aF (Below.refl _ _) _)) _,HS2⟩,by simp[intOf];omega⟩
                ·have q3':((L.aH[k4]).code != 0)=false:=by simp[bne,q3]
                 have HS2:Hid (bE (nT L) (k4+1)=true):=hide (dQ HS.out (by rw[jf hlt,q1,hri.out];simp at q3;simp[q3]));go_wp2;go_quiet ((go_at_call 66;exact Calls.quiet_of_same (bz _ _ _ _)));go_wp2;exact⟨⟨_,by omega,by go_num,below_drewN (fo HB4 (aF (Below.refl _ _) _)) _,HS2⟩,by simp[intOf];omega⟩
               ·have q2':(L.aH[k4]).id<=(L.aH[m]).id:=by omega
                have HR:Hid (df L=false):=hide (by rw[HE.out,aZ hlt (by rw[jf hlt,q1,hrs,decide_eq_false q2];rfl)];simp);clear hrs hm hz;go_wp2;go_quiet ((go_at_call 66;exact Calls.quiet_of_same (bz _ _ _ _)));go_wp2;go_ret;exact⟨by rw[HR.out];rfl,below_drewN (aF (bn HB4) _) _⟩
           ·have hk':¬ (k4:Int)<(L.aH.length:Int):=by omega
            have HR:Hid (df L=true):=hide (by
             have hs:=HS.out;rw[show k4=L.aH.length by omega] at hs;rw[HE.out,HPa.out,HHa.out,HAa.out,hs];rfl)
            go_wp2;go_ret;exact⟨by rw[HR.out];rfl,bn HB4⟩
   ·have HR:Hid (df L=false):=hide (by simp[df,g3]);have g1':(L.aI.length:Int)<=12:=by omega
    have g2':(L.az.length:Int)<=10:=by omega
    have g3':¬ (L.aH.length:Int)<=40:=by omega
    go_enter func95,ntmps95;go_wp2;go_ret;exact⟨by rw[HR.out];rfl,aF (Below.refl _ _) _⟩
  ·have HR:Hid (df L=false):=hide (by simp[df,g2]);have g1':(L.aI.length:Int)<=12:=by omega
   have g2':¬ (L.az.length:Int)<=10:=by omega
   go_enter func95,ntmps95;go_wp2;go_ret;exact⟨by rw[HR.out];rfl,aF (Below.refl _ _) _⟩
 ·have HR:Hid (df L=false):=hide (by simp[df,g1]);have g1':¬ (L.aI.length:Int)<=12:=by omega
  go_enter func95,ntmps95;go_wp2;go_ret;exact⟨by rw[HR.out];rfl,aF (Below.refl _ _) _⟩
end Go.Proofs.YtdbmmdecclalgaaGreatDoor
