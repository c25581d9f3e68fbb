import Derived.Test.YtdbmmdecclalgaaGreatDoorQag
import Derived.Test.YtdbmmdecclalgaaGreatDoorQae
import Derived.Test.YtdbmmdecclalgaaGreatDoorQah
namespace Go.Proofs.YtdbmmdecclalgaaGreatDoor
open Go.Value renaming int → ae, string → ag, pointer → ai, slice → af, agg → aj
open Go.IntKind renaming i64 → au
open Go renaming undef → ak
open Go.Proofs.Tryz Go.ChangeShapes Go.WideShapes Go.ChangeAt Go.RowKit Go.Maps
set_option linter.unusedVariables false
set_option maxRecDepth 100000
set_option maxHeartbeats 8000000
theorem iP{n:Int}(h:-9223372036854775808<=n/\n<=9223372036854775807):IntKind.i64.wrap n=n:=by
 simp only[IntKind.wrap,IntKind.signed,IntKind.bits];simp;omega
def mh(x:bF)(held Ls:Int):Bool:=decide (x.bB=-1)||decide (-x.bB<=x.aS-held-Ls)
def xc(x:bF):Prop:=(-1<=x.bB/\x.bB<=1000000000000)/\-1000000000000<=x.aS/\x.aS<=1000000000000
theorem lK(q p:Nat)(L:bM)(x:bF)(Ls:Int)(w:World)(hs:jq L.az)(hx:xc x)(hamt:0<=Ls/\Ls<=1000000000000)(hB:lL w q L)(hp:jW w p x) :
  Calls prog 200 #[ai (some ⟨q,0,none⟩),ai (some ⟨p,0,none⟩),ae au Ls] w fun e w'=>e=.returned (.bool (mh x (bf x.name L.az) Ls))/\Below w.heap.size w w':=by
 have HS:=hide hs;have HB:Hid (∀y:Later w,lL y.w q L):=hide (fun y=>hB.below y.below);obtain⟨p0,p1,p2,p3,p4⟩:=hp;have k0:∀y:Later w,y.w.cell? ⟨p,0,none⟩=some (ag x.name):=fun y=>(y.below.cell p0).trans p1
 have k2:∀y:Later w,y.w.cell? ⟨p,2,none⟩=some (ae au x.bB):=fun y=>(y.below.cell p0).trans p3
 have k3:∀y:Later w,y.w.cell? ⟨p,3,none⟩=some (ae au x.aS):=fun y=>(y.below.cell p0).trans p4
 have hne:Nonempty (Later w):=bO _;have hbd:=pJ x.name L.az L.az.length hs;rw[List.take_length] at hbd;obtain⟨⟨x1,x2⟩,x3,x4⟩:=hx;obtain⟨a1,a2⟩:=hamt;obtain⟨b1,b2⟩:=hbd;have w1:IntKind.i64.wrap (x.aS-bf x.name L.az)=x.aS-bf x.name L.az:=iP (by omega);have w2:IntKind.i64.wrap (x.aS-bf x.name L.az-Ls)=x.aS-bf x.name L.az-Ls:=iP (by omega);have w3:IntKind.i64.wrap (-x.bB)=-x.bB:=iP (by omega);clear hs hB p1 p2 p3 p4;cases q1:(x.bB==-1)
 ·cases q2:decide (-x.bB<=x.aS-bf x.name L.az-Ls);have HR:Hid (mh x (bf x.name L.az) Ls=false):=hide (by unfold mh;rw[q2];simp at q1;simp[q1])
  rotate_left
  have HR:Hid (mh x (bf x.name L.az) Ls=true):=hide (by unfold mh;rw[q2];simp)
  all_goals
   go_enter func200,ntmps200;go_wp2_with fail;refine aU w (by kernel_rfl) (by kernel_rfl) ((Below.refl _ _).drew) ?_
   repeat (go_big_quiet_step (first|(go_at_call 199;exact dh (nD _ L _ _ HS.out (HB.out _)))))
   refine wpQuiet_nil ?_;intro _ hw';obtain⟨nx,rfl⟩:=hw';go_wp2;go_ret;exact⟨by rw[HR.out];rfl,nx.below⟩
 ·have HR:Hid (mh x (bf x.name L.az) Ls=true):=hide (by unfold mh;simp at q1;simp[q1]);go_enter func200,ntmps200;go_wp2_with fail;refine aU w (by kernel_rfl) (by kernel_rfl) ((Below.refl _ _).drew) ?_
  repeat (go_big_quiet_step (first|(go_at_call 199;exact dh (nD _ L _ _ HS.out (HB.out _)))))
  refine wpQuiet_nil ?_;intro _ hw';obtain⟨nx,rfl⟩:=hw';go_wp2;go_ret;exact⟨by rw[HR.out];rfl,nx.below⟩
def sS(code:Int)(g:Value)(w:World)(e:Ending)(w':World):Prop :=
 e=.returned (.iface 229 (ai (some ⟨w.heap.size,0,none⟩)))/\w'=w.alloc (.cells #[ae au code,g] 233)
theorem iM(code:Int)(t:TypeId)(v:Value)(w:World)(hg:w.cell? ⟨5,0,none⟩=some (.iface t v)) :
  Calls prog 206 #[ae au code] w fun e w'=>sS code (.iface t v) w e w':=by
 go_enter func206,ntmps206;go_wp2;go_ret;exact⟨rfl,rfl⟩
def sP(L:bM)(fr tn:ByteArray)(g:Value)(w:World)(e:Ending)(w':World):Prop :=
 Below w.heap.size w w' /\
 ((∃i j,∃hi:i<L.aI.length,∃hj:j<L.aI.length,∃p r,L.aI[i].name=fr/\L.aI[j].name=tn/\L.aI[i].cur=L.aI[j].cur/\jW w' p L.aI[i]/\jW w' r L.aI[j]/\e=.returned (.tuple #[ai (some ⟨p,0,none⟩),ai (some ⟨r,0,none⟩),.nilIface])) \/
  (((∀i (hi:i<L.aI.length),L.aI[i].name≠fr)\/∀i (hi:i<L.aI.length),L.aI[i].name≠tn)/\∃n,n<w'.heap.size/\w.heap.size<=n/\w'.cell? ⟨n,0,none⟩=some (ae au 5)/\w'.cell? ⟨n,1,none⟩=some g/\e=.returned (.tuple #[ai none,ai none,.iface 229 (ai (some ⟨n,0,none⟩))])) \/
  (∃i j,∃hi:i<L.aI.length,∃hj:j<L.aI.length,L.aI[i].name=fr/\L.aI[j].name=tn/\L.aI[i].cur≠L.aI[j].cur/\∃n,n<w'.heap.size/\w.heap.size<=n/\w'.cell? ⟨n,0,none⟩=some (ae au 6)/\w'.cell? ⟨n,1,none⟩=some g/\e=.returned (.tuple #[ai none,ai none,.iface 229 (ai (some ⟨n,0,none⟩))])))
theorem zA(w:World)(N:Nat)(code:Int)(g:Value):Below w.heap.size w ((w.drewN N).alloc (.cells #[ae au code,g] 233))/\w.heap.size<((w.drewN N).alloc (.cells #[ae au code,g] 233)).heap.size/\((w.drewN N).alloc (.cells #[ae au code,g] 233)).cell? ⟨w.heap.size,0,none⟩=some (ae au code) /\
  ((w.drewN N).alloc (.cells #[ae au code,g] 233)).cell? ⟨w.heap.size,1,none⟩=some g:=by
 have hz:(w.drewN N).heap.size=w.heap.size:=by simp
 have k0:∀x:World,(x.alloc (.cells #[ae au code,g] 233)).cell? ⟨x.heap.size,0,none⟩=some (ae au code):=fun x=>by simp
 have k1:∀x:World,(x.alloc (.cells #[ae au code,g] 233)).cell? ⟨x.heap.size,1,none⟩=some g:=fun x=>by simp
 have h1:((w.drewN N).alloc (.cells #[ae au code,g] 233)).cell? ⟨(w.drewN N).heap.size,0,none⟩=some (ae au code):=k0 _;have h2:((w.drewN N).alloc (.cells #[ae au code,g] 233)).cell? ⟨(w.drewN N).heap.size,1,none⟩=some g:=k1 _;rw[hz] at h1 h2;exact⟨(dG w N).alloc (by rw[hz];exact Nat.le_refl _) _,by simp,h1,h2⟩
theorem Mx{L:bM}{fr tn:ByteArray}{g:Value}{w x:World}{i j p r:Nat}(hfin:Below w.heap.size w x)(hi:i<L.aI.length)(hj:j<L.aI.length)(h1:L.aI[i].name=fr)(h2:L.aI[j].name=tn)(h3:L.aI[i].cur=L.aI[j].cur)(hp:jW w p L.aI[i])(hr:jW w r L.aI[j]) :
  sP L fr tn g w (.returned (.tuple #[ai (some ⟨p,0,none⟩),ai (some ⟨r,0,none⟩),.nilIface])) x :=
 ⟨hfin,.inl ⟨i,j,hi,hj,p,r,h1,h2,h3,hp.kept hfin.size (aN hfin),hr.kept hfin.size (aN hfin),rfl⟩⟩
theorem I4{L:bM}{fr tn:ByteArray}{g:Value}{w:World}{N:Nat}(h:(∀i (hi:i<L.aI.length),L.aI[i].name≠fr)\/∀i (hi:i<L.aI.length),L.aI[i].name≠tn) :
  sP L fr tn g w (.returned (.tuple #[ai none,ai none,.iface 229 (ai (some ⟨w.heap.size,0,none⟩))])) ((w.drewN N).alloc (.cells #[ae au 5,g] 233)):=by
 obtain⟨z1,z2,z3,z4⟩:=zA w N 5 g;exact⟨z1,.inr (.inl ⟨h,_,z2,Nat.le_refl _,z3,z4,rfl⟩)⟩
theorem GU{L:bM}{fr tn:ByteArray}{g:Value}{w:World}{N:Nat}{i j:Nat}(hi:i<L.aI.length)(hj:j<L.aI.length)(h1:L.aI[i].name=fr)(h2:L.aI[j].name=tn)(h3:L.aI[i].cur≠L.aI[j].cur) :
  sP L fr tn g w (.returned (.tuple #[ai none,ai none,.iface 229 (ai (some ⟨w.heap.size,0,none⟩))])) ((w.drewN N).alloc (.cells #[ae au 6,g] 233)):=by
 obtain⟨z1,z2,z3,z4⟩:=zA w N 6 g;exact⟨z1,.inr (.inr ⟨i,j,hi,hj,h1,h2,h3,_,z2,Nat.le_refl _,z3,z4,rfl⟩)⟩
theorem uL(q:Nat)(L:bM)(fr tn:ByteArray)(t:TypeId)(v:Value)(w:World)(s1:fr.size<=maxLen)(s2:tn.size<=maxLen)(hB:lL w q L)(hg:w.cell? ⟨5,0,none⟩=some (.iface t v)) :
  Calls prog 198 #[ai (some ⟨q,0,none⟩),ag fr,ag tn] w fun e w'=>sP L fr tn (.iface t v) w e w':=by
 have hd:∀x:World,∀code,x.cell? ⟨5,0,none⟩=some (.iface t v)->Calls prog 206 #[ae au code] x fun e w'=>sS code (.iface t v) x e w':=fun x code h=>iM code t v x h
 obtain⟨hq,m,h,s,ch,cs,c0,c1,c2,hh,ha,hm⟩:=hB;clear c1 c2 hh ha;rcases sw hm s1 with ⟨i,hi,p,en1,hp,r1⟩|⟨no1,r1⟩
 ·rcases sw hm s2 with ⟨j,hj,r,en2,hr,r2⟩|⟨no2,r2⟩
  ·obtain⟨p0,p1,p2,p3,p4⟩:=hp;obtain⟨t0,t1,t2,t3,t4⟩:=hr;have HP:Hid (jW w p L.aI[i]):=hide ⟨p0,p1,p2,p3,p4⟩;have HT:Hid (jW w r L.aI[j]):=hide ⟨t0,t1,t2,t3,t4⟩;have HN1:=hide en1;have HN2:=hide en2;have p2':w.cell? ⟨p,1,none⟩=some (ag L.aI[i].cur):=p2;have t2':w.cell? ⟨r,1,none⟩=some (ag L.aI[j].cur):=t2;clear en1 en2 hm p1 p2 p3 p4 t1 t2 t3 t4;cases q1:(L.aI[i].cur.toList==L.aI[j].cur.toList)
   ·have q1':(L.aI[i].cur.toList != L.aI[j].cur.toList)=true:=by simp[bne,q1]
    have HQ:Hid (L.aI[i].cur≠L.aI[j].cur):=hide (fun e=>by rw[bT.2 e] at q1;cases q1);go_enter func198,ntmps198;go_wp2_with fail;go_quiet (fail);go_wp2_with fail;go_quiet (fail);go_wp2_with (first|(go_at_call 206;refine(hd _ _ (by simpa using hg)).mono ?_;rintro e w1⟨rfl,rfl⟩));go_ret3;exact GU hi hj HN1.out HN2.out HQ.out
   ·have q1':(L.aI[i].cur.toList != L.aI[j].cur.toList)=false:=by simp[bne,q1]
    have HQ:Hid (L.aI[i].cur=L.aI[j].cur):=hide (bT.1 q1);go_enter func198,ntmps198;go_wp2_with fail;go_quiet (fail);go_wp2_with fail;go_quiet (fail);go_wp2;go_ret3;exact Mx (below_drewN (dG w _) _) hi hj HN1.out HN2.out HQ.out HP.out HT.out
  ·have HN:=hide no2;clear no2 hp en1 hm;go_enter func198,ntmps198;go_wp2_with fail;go_quiet (fail);go_wp2_with (first|(go_at_call 206;refine(hd _ _ (by simpa using hg)).mono ?_;rintro e w1⟨rfl,rfl⟩));go_ret3;exact I4 (.inr HN.out)
 ·have HN:=hide no1;have hr2:∃u,∀k,(Instr.lookup 218 (.map (some m)) (ag tn) false).run prog (w.drewN k)=.ok u (w.drewN k):=by
   rcases sw hm s2 with ⟨j,hj,r,en2,hr,r2⟩|⟨no2,r2⟩
   ·exact⟨_,r2⟩
   ·exact⟨_,r2⟩
  obtain⟨u,r2⟩:=hr2;clear no1 hm;go_enter func198,ntmps198;go_wp2_with fail;go_quiet (fail);go_wp2_with (first|(go_at_call 206;refine(hd _ _ (by simpa using hg)).mono ?_;rintro e w1⟨rfl,rfl⟩));go_ret3;exact I4 (.inl HN.out)
def uw(L:bM)(x:bF):Bool:=decide (bf x.name L.az<=1000000000000)&&mh x (bf x.name L.az) 0&&decide (fe x.cur L.aI=0)
theorem wY{A:Type}{f:A->Bool}{l:List A}{j:Nat}(hj:j<l.length)(h:f l[j]=false):l.all f=false:=by
 rw[List.all_eq_false];exact⟨l[j],List.getElem_mem hj,by simp[h]⟩
theorem struck{left:Lit->Bool}{L:bM}{f:bF->Bool}(hd:Apart L.aI){j:Nat}(hj:j<L.aI.length)(h:∀i (hi:i<L.aI.length),left (kn L.aI[i].name)=false->f L.aI[i]=true)(hf:f L.aI[j]=true) :
  ∀i (hi:i<L.aI.length),(left (kn L.aI[i].name)&&!(kn L.aI[i].name).sameKey (kn L.aI[j].name))=false->f L.aI[i]=true:=fun i hi hs=>by
 cases hl:left (kn L.aI[i].name)
 ·exact h i hi hl
 ·rw[hl] at hs;have:(kn L.aI[i].name).sameKey (kn L.aI[j].name)=true:=by simpa using hs
  have e:=ku.1 this;rcases Nat.lt_trichotomy i j with h1|h1|h1
  ·exact absurd e (hd i j hi hj h1)
  ·subst h1;exact hf
  ·exact absurd e.symm (hd j i hj hi h1)
set_option maxRecDepth 100000 in
theorem AJ(q:Nat)(L:bM)(w:World)(hs:jq L.az)(ha:nV L.aI)(hx:∀x∈L.aI,xc x)(hd:Apart L.aI)(hB:lL w q L) :
  Calls prog 154 #[ai (some ⟨q,0,none⟩)] w fun e w'=>e=.returned (.bool (L.aI.all (uw L)))/\Below w.heap.size w w':=by
 have HBk:=hide hB;obtain⟨hq,m,h,s,ch,cs,c0,c1,c2,hh,hsn,hm⟩:=hB;obtain⟨D,hown,hi⟩:=hm;have HI:=hide hi;have HD:=hide hd;have HS:=hide hs;have HA:=hide ha;have HX:=hide hx;clear hi hs hd ha hx c1 c2 hh hsn;go_enter func154,ntmps154;go_wp2_with (first
  | (at_range;refine wpList_range_own _ rfl _ 218 rfl 9 223 zJ u64 _ m L.aI.length D rfl hown ?_;intro w0 hrg0 hg0 hs0)
  | go_in)
 go_frame;have HB0:Hid (Below w.heap.size w w0):=hide ((Below.refl _ _).grown hg0 (Nat.le_refl _) (fun j hj=>by cases hj));go_loopw [4] (fun _ wr=>∃(left:Lit->Bool)(cnt:Nat),wr.ranges prog 9 gq m w.heap.size L.aI.length D left cnt/\Below w.heap.size w wr/\Hid (∀i (hi:i<L.aI.length),left (kn L.aI[i].name)=false->uw L L.aI[i]=true)) (fun _ wr=>wr.rangeLeft m w.heap.size)
 case atStart =>
  refine⟨_,_,hrg0,HB0.out,hide ?_⟩;intro i hi' hf;obtain⟨p,hp,_⟩:=HI.at_ i hi';rw[has_true_of_atKey hp] at hf;cases hf
 case round =>
  obtain⟨left,cnt,hrg,HB,HOK⟩:=hrel;have hin:vW wr D L.aI:=HI.kept HB.size (aN HB);go_wp2_with (first
   | (at_next;refine oZ _ rfl _ rfl m w.heap.size L.aI.length D left cnt rfl hrg L.aI hin ?_ ?_)
   | go_in)
  ·intro hl0;have HE:Hid (L.aI.all (uw L)=true):=hide (by
    rw[List.all_eq_true];intro x hx';obtain⟨i,hi',rfl⟩:=List.getElem_of_mem hx';exact HOK.out i hi' (hl0 _))
   clear hl0;go_wp2;go_ret;exact⟨by rw[HE.out];rfl,HB⟩
  ·intro j hj p w1 cnt1 hlj hblk hrg1 hlt hg1 hs1 hen;have HB1:Hid (Below w.heap.size w w1):=hide (HB.grown hg1 HB.size (fun k hk=>by cases hk;exact Nat.le_refl _));have hblk1:=hblk.kept hg1.size (zR hrg hg1);have HP:=hide hblk1;obtain⟨p0,p1,p2,p3,p4⟩:=hblk1;have HM:Hid (cnt1<wr.rangeLeft m w.heap.size):=hide (by rw[hrg.left_eq];exact hlt);have HR1:=hide hrg1;have HXj:=hide (HX.out _ (List.getElem_mem hj));clear hrg1 hrg hin hblk hg1 hs1 hlt hlj hrg0 hg0 hs0 hown p3 p4;have HBk1:Hid (∀x,Below w1.heap.size w1 x->lL x q L):=hide (fun x hb=>HBk.below (aJ HB1.out hb));by_cases q1:bf (L.aI[j]).name L.az<=1000000000000
   ·have q1':decide (1000000000000<bf (L.aI[j]).name L.az)=false:=by simp;omega
    cases q2:mh (L.aI[j]) (bf (L.aI[j]).name L.az) 0
    ·have HF:Hid (L.aI.all (uw L)=false):=hide (wY hj (by unfold uw;rw[q2];simp));clear q1;go_wp2_with (first|(go_at_call 199;refine(nD q L _ _ HS.out (HBk1.out _ (Below.refl _ _))).mono ?_;rintro e wa⟨rfl,hba⟩;have HBa:=hide hba;have p1a:=aN hba _ _ p1;have p2a:=aN hba _ _ p2;clear hba)|(go_at_call 200;refine(lK q p L (L.aI[j]) 0 _ HS.out HXj.out (by omega) (HBk1.out _ HBa.out) (HP.kept HBa.size (aN HBa.out))).mono ?_;rintro e wb⟨rfl,hbb⟩;have HBb:=hide (aJ HBa.out hbb);have p2b:=aN hbb _ _ p2a;clear hbb)|(go_at_call 201;refine(rX q L _ _ HA.out HD.out (HBk1.out _ HBb.out)).mono ?_;rintro e wc⟨rfl,hbc⟩;have HBc:=hide (aJ HBb.out hbc);clear hbc));go_ret;exact⟨by rw[HF.out];rfl,aJ HB1.out HBb.out⟩
    ·cases q3:(fe (L.aI[j]).cur L.aI==0)
     ·have q3':(fe (L.aI[j]).cur L.aI != 0)=true:=by simp[bne,q3]
      have HF:Hid (L.aI.all (uw L)=false):=hide (wY hj (by unfold uw;simp at q3;rw[decide_eq_false q3];simp));clear q1;go_wp2_with (first|(go_at_call 199;refine(nD q L _ _ HS.out (HBk1.out _ (Below.refl _ _))).mono ?_;rintro e wa⟨rfl,hba⟩;have HBa:=hide hba;have p1a:=aN hba _ _ p1;have p2a:=aN hba _ _ p2;clear hba)|(go_at_call 200;refine(lK q p L (L.aI[j]) 0 _ HS.out HXj.out (by omega) (HBk1.out _ HBa.out) (HP.kept HBa.size (aN HBa.out))).mono ?_;rintro e wb⟨rfl,hbb⟩;have HBb:=hide (aJ HBa.out hbb);have p2b:=aN hbb _ _ p2a;clear hbb)|(go_at_call 201;refine(rX q L _ _ HA.out HD.out (HBk1.out _ HBb.out)).mono ?_;rintro e wc⟨rfl,hbc⟩;have HBc:=hide (aJ HBb.out hbc);clear hbc));go_ret;exact⟨by rw[HF.out];rfl,aJ HB1.out HBc.out⟩
     ·have q3':(fe (L.aI[j]).cur L.aI != 0)=false:=by simp[bne,q3]
      have HF:Hid (uw L (L.aI[j])=true):=hide (by unfold uw;simp at q3;rw[q2,decide_eq_true q1,decide_eq_true q3];rfl);clear q1;go_wp2_with (first|(go_at_call 199;refine(nD q L _ _ HS.out (HBk1.out _ (Below.refl _ _))).mono ?_;rintro e wa⟨rfl,hba⟩;have HBa:=hide hba;have p1a:=aN hba _ _ p1;have p2a:=aN hba _ _ p2;clear hba)|(go_at_call 200;refine(lK q p L (L.aI[j]) 0 _ HS.out HXj.out (by omega) (HBk1.out _ HBa.out) (HP.kept HBa.size (aN HBa.out))).mono ?_;rintro e wb⟨rfl,hbb⟩;have HBb:=hide (aJ HBa.out hbb);have p2b:=aN hbb _ _ p2a;clear hbb)|(go_at_call 201;refine(rX q L _ _ HA.out HD.out (HBk1.out _ HBb.out)).mono ?_;rintro e wc⟨rfl,hbc⟩;have HBc:=hide (aJ HBb.out hbc);clear hbc));go_roundw
      case rel=>exact⟨_,cnt1,HR1.kept (gy HBc.out) (by simp) (by simp),aJ HB1.out HBc.out,hide (struck HD.out hj HOK.out HF.out)⟩
      case measure=>rw[(HR1.kept (gy HBc.out) (by simp) (by simp)).left_eq];exact HM.out
   ·have q1':decide (1000000000000<bf (L.aI[j]).name L.az)=true:=by simp;omega
    have HF:Hid (L.aI.all (uw L)=false):=hide (wY hj (by unfold uw;rw[decide_eq_false q1];simp));clear q1;go_wp2_with (first|(go_at_call 199;refine(nD q L _ _ HS.out (HBk1.out _ (Below.refl _ _))).mono ?_;rintro e wa⟨rfl,hba⟩;have HBa:=hide hba;have p1a:=aN hba _ _ p1;have p2a:=aN hba _ _ p2;clear hba)|(go_at_call 200;refine(lK q p L (L.aI[j]) 0 _ HS.out HXj.out (by omega) (HBk1.out _ HBa.out) (HP.kept HBa.size (aN HBa.out))).mono ?_;rintro e wb⟨rfl,hbb⟩;have HBb:=hide (aJ HBa.out hbb);have p2b:=aN hbb _ _ p2a;clear hbb)|(go_at_call 201;refine(rX q L _ _ HA.out HD.out (HBk1.out _ HBb.out)).mono ?_;rintro e wc⟨rfl,hbc⟩;have HBc:=hide (aJ HBb.out hbc);clear hbc));go_ret;exact⟨by rw[HF.out];rfl,aJ HB1.out HBa.out⟩
theorem Ir(a:Option Addr)(l:List Sn)(cap:Nat)(w:World)(hl:l.length<=1048576)(hc:a=none->cap=0)(h:bu 2 aM w a l) :
  Calls prog 160 #[af a l.length cap] w fun e w'=>Below w.heap.size w w'/\∃v,e=.returned v/\w'.ownsRow w.heap.size 112 2 v l.length (l.flatMap aM):=by
 obtain⟨i0,hi0,hz0,hz1,hz2⟩:=info_parts um;have hu:prog.underlying 29=some (.slice 112):=by kernel_rfl
 have HN:=hide (h.jD kC (by decide))
 cases a with
 | none =>
  have e0:l=[]:=List.eq_nil_of_length_eq_zero (kJ h rfl);subst e0;obtain rfl:=hc rfl;clear h;have he:∀w:World,(binOp .eql 29 (af none 0 0) (af none 0 0)).run prog w=.ok (.bool true) w:=fun _=>rfl
  go_enter func160,ntmps160;go_wp2;go_ret;exact⟨Below.refl _ _,_,rfl,⟨by simp,.inl ⟨rfl,rfl⟩⟩⟩
 | some ad =>
  clear h;have he:∀w:World,(binOp .eql 29 (af (some ad) l.length cap) (af none 0 0)).run prog w=.ok (.bool false) w:=fun _=>rfl
  go_enter func160,ntmps160;go_wp2_with (first|(at_builtin;refine bI.mk ?_)|go_in);refine bI.mk' ?_;refine wpList_append_own_at _ rfl _ _ 29 rfl w.heap.size 112 i0 _ 2 16 hu hi0 hz0 hz1 hz2 rfl (by decide) _ 0 [] rfl ?own ad l.length cap (l.flatMap aM) rfl (eP aM 2 kC l) ?news (oH l) (by unfold maxLen;omega) (by omega) ?base ?_
  case own=>exact World.ownsRow_made w #[] 0 (Nat.le_refl _) (by unfold maxLen;omega) rfl
  case news=>exact fun j u hj=>(World.grownBy_alloc w _ none).cell (HN.out ad rfl j u hj) (by simp)
  case base=>simp
  intro v' w1 hown' hgrow hnil hloc;have HB:Hid (Below w.heap.size w w1):=hide (below_grown hgrow (aF (Below.refl _ _) _) (fun j hj=>by cases hj;exact Nat.le_refl _));have HO:=hide hown';clear hown' hgrow hnil hloc;go_wp2;go_ret;have ho:=HO.out;rw[List.nil_append,Nat.zero_add] at ho;exact⟨HB.out,v',rfl,ho⟩
theorem Iu(a:Option Addr)(l:List bP)(cap:Nat)(w:World)(hl:l.length<=1048576)(hc:a=none->cap=0)(h:bu 4 aG w a l) :
  Calls prog 159 #[af a l.length cap] w fun e w'=>Below w.heap.size w w'/\∃v,e=.returned v/\w'.ownsRow w.heap.size 109 4 v l.length (l.flatMap aG):=by
 obtain⟨i0,hi0,hz0,hz1,hz2⟩:=info_parts kM;have hu:prog.underlying 28=some (.slice 109):=by kernel_rfl
 have HN:=hide (h.jD gH (by decide))
 cases a with
 | none =>
  have e0:l=[]:=List.eq_nil_of_length_eq_zero (kJ h rfl);subst e0;obtain rfl:=hc rfl;clear h;have he:∀w:World,(binOp .eql 28 (af none 0 0) (af none 0 0)).run prog w=.ok (.bool true) w:=fun _=>rfl
  go_enter func159,ntmps159;go_wp2;go_ret;exact⟨Below.refl _ _,_,rfl,⟨by simp,.inl ⟨rfl,rfl⟩⟩⟩
 | some ad =>
  clear h;have he:∀w:World,(binOp .eql 28 (af (some ad) l.length cap) (af none 0 0)).run prog w=.ok (.bool false) w:=fun _=>rfl
  go_enter func159,ntmps159;go_wp2_with (first|(at_builtin;refine bI.mk ?_)|go_in);refine bI.mk' ?_;refine wpList_append_own_at _ rfl _ _ 28 rfl w.heap.size 109 i0 _ 4 48 hu hi0 hz0 hz1 hz2 rfl (by decide) _ 0 [] rfl ?own ad l.length cap (l.flatMap aG) rfl (eP aG 4 gH l) ?news (kP l) (by unfold maxLen;omega) (by omega) ?base ?_
  case own=>exact World.ownsRow_made w #[] 0 (Nat.le_refl _) (by unfold maxLen;omega) rfl
  case news=>exact fun j u hj=>(World.grownBy_alloc w _ none).cell (HN.out ad rfl j u hj) (by simp)
  case base=>simp
  intro v' w1 hown' hgrow hnil hloc;have HB:Hid (Below w.heap.size w w1):=hide (below_grown hgrow (aF (Below.refl _ _) _) (fun j hj=>by cases hj;exact Nat.le_refl _));have HO:=hide hown';clear hown' hgrow hnil hloc;go_wp2;go_ret;have ho:=HO.out;rw[List.nil_append,Nat.zero_add] at ho;exact⟨HB.out,v',rfl,ho⟩
structure Ct(D:DataW Unit)(ns:List ByteArray)(ps:List Nat):Prop where
 size:Maps.size D=ns.length
 at_:∀i (h:i<ns.length),∀z,D.atKey (kn ns[i]) z=pg (ps.getD i 0)
 only:∀kl,Maps.has D kl=true->∃i,∃h:i<ns.length,kl=kn ns[i]
def fE(m:Nat)(ns:List ByteArray)(ps:List Nat):Rs:=⟨[m],fun x=>∃D,x.ownsMap prog 9 gq m ns.length D/\Ct D ns ps,fun x y e h=>by
 obtain⟨D,⟨es,clock,hb,r⟩,k⟩:=h;exact⟨D,⟨es,clock,(e m (by simp)).trans hb,r⟩,k⟩⟩
theorem Kl:Ct (.map []) [] []:=⟨rfl,fun i h=>by simp at h,fun kl h=>by simp[Maps.has] at h⟩
theorem Ct.put{D:DataW Unit}{ns:List ByteArray}{ps:List Nat}(h:Ct D ns ps)(hl:ps.length=ns.length)(ht:Maps.Tidy D)(hm:Maps.IsMap D){nm:ByteArray}(hn:∀n∈ns,n≠nm)(p:Nat):Ct (D.put (kn nm) (pg p)) (ns++[nm]) (ps++[p]):=by
 have hno:Maps.has D (kn nm)=false:=by
  rw[Bool.eq_false_iff];intro q;obtain⟨i,hi,e⟩:=h.only _ q;exact hn _ (List.getElem_mem hi) (mg e).symm
 refine⟨by rw[Maps.size_put ht,hno,h.size];simp,fun i hi z=>?_,fun kl hk=>?_⟩
 ·rcases Nat.lt_or_ge i ns.length with q|q
  ·rw[List.getElem_append_left q,atKey_put_other (fun e=>hn _ (List.getElem_mem q) (mg e))];rw[h.at_ i q z];congr 1;simp[List.getElem?_append_left (show i<ps.length by omega)]
  ·obtain rfl:i=ns.length:=by simp at hi;omega
   rw[show (ns++[nm])[ns.length]=nm by simp,atKey_put_same hm (zP _)];congr 1;simp[<-hl]
 ·by_cases e:kl=kn nm
  ·exact⟨ns.length,by simp,by simp[e]⟩
  ·rw[has_put_other e] at hk;obtain⟨i,hi,rfl⟩:=h.only kl hk;exact⟨i,by simp;omega,by rw[List.getElem_append_left hi]⟩
def dV(ps:List Nat)(l:List bF):List Rs:=(List.zip ps l).map (fun x=>blk x.1 (aL x.2))
def TA:Value->Nat
 | .map (some m)=>m
 | _=>0
def fU(q m:Nat)(ps:List Nat)(hv sv:Value)(A:List bF)(H:List bP)(S:List Sn):List (List Rs):=[[blk q [.map (some m),hv,sv]],[fE m (A.map bF.name) ps],dV ps A,[row 109 4 hv H.length (H.flatMap aG)],[row 112 2 sv S.length (S.flatMap aM)]]
def Tm(D:bM)(w:World)(e:Ending)(w':World):Prop:=∃(q m:Nat)(ps:List Nat)(hv sv:Value),e=.returned (ai (some ⟨q,0,none⟩))/\ps.length=D.aI.length/\Pool [] w (fU q m ps hv sv D.aI D.az D.aH) w'
theorem Pool.QO{F:List Nat}{w x:World}{S:List (List Rs)}(h:Pool F w S x){i:Nat}(hi:S[i]?=some []):Pool F w (S.set i [fE x.heap.size [] []]) (x.alloc (.map #[] 0)) :=
 h.new hi (aF (Below.refl _ _) _) (Star.one ⟨_,World.ownsMap_made _ _ _ _,Kl⟩ (by simp[fE]) (fun b hb=>by simp only[fE,List.mem_singleton] at hb;subst hb;simp)) (fun c hc=>by simp only[fC,fE,List.mem_singleton] at hc;omega)
theorem Pool.Ml{F:List Nat}{w x:World}{S:List (List Rs)}(h:Pool F w S x){i m:Nat}{ns:List ByteArray}{ps:List Nat}(hi:S[i]?=some [fE m ns ps])(hl:ps.length=ns.length)(hs:ns.length<maxLen){nm:ByteArray}(hz:nm.size<=maxLen)(hn:∀n∈ns,n≠nm)(p:Nat) :
  ∃y,(Instr.mapUpdate 218 (.map (some m)) (ag nm) (ai (some ⟨p,0,none⟩))).run prog x=.ok () y/\Pool F w (S.set i [fE m (ns++[nm]) (ps++[p])]) y:=by
 obtain⟨D,ho,hk⟩:=(h.get hi).get (r:=fE m ns ps) (by simp);obtain⟨y,hrun,ho2,hg⟩:=ho.update (t:=218) (e:=223) zJ u64 hs (Ja hz) (Mm p);refine⟨y,hrun,h.step hi (Fr.grown hg |>.mono (fun b hb=>.inl (by simpa[ic,fE] using hb))) (Star.one ⟨_,by simpa using ho2,hk.put hl (ho.tidy zJ) (ho.tidy zJ).isMap hn p⟩ (by simp[fE]) (fun b hb=>?_)) (fun b hb=>.inl (by simpa[ic,fE] using hb))⟩;simp only[fE,List.mem_singleton] at hb;subst hb;have q:=(h.get hi).lt b (by simp[ic,fE]);exact Nat.lt_of_lt_of_le q hg.size
theorem AQ(ps:List Nat)(l:List bF)(p:Nat)(x:bF)(h:ps.length=l.length):dV (ps++[p]) (l++[x])=dV ps l++[blk p (aL x)]:=by
 unfold dV;rw[List.zip_append h];simp
def RG(w:World)(p:LP)(D:bM)(q m:Nat)(a1:Option Addr)(c1:Nat)(a2:Option Addr)(c2:Nat)(ps:List Nat)(k:Nat)(x:World):Prop:=Pool [] w [[blk w.heap.size (bJ p D)],[blk q [.map (some m),af a1 D.az.length c1,af a2 D.aH.length c2]],[fE m ((D.aI.take k).map bF.name) ps],(dV ps (D.aI.take k)),[row 109 4 (af a1 D.az.length c1) D.az.length (D.az.flatMap aG)],[row 112 2 (af a2 D.aH.length c2) D.aH.length (D.aH.flatMap aM)],[],[]] x
theorem Pool.CY{F:List Nat}{w x y:World}{S:List (List Rs)}(h:Pool F w S x){i:Nat}(hi:S[i]?=some []){T:TypeId}{sz n:Nat}{v:Value}{xs:List Value}(hb:Below x.heap.size x y)(ho:y.ownsRow x.heap.size T sz v n xs):Pool F w (S.set i [row T sz v n xs]) y :=
 h.new hi hb (Star.ofRow ho) (fun c hc=>by
  rw[fC,qd,Option.mem_toList] at hc;exact(ho.lt c hc).1)
structure Ux(p:LP)(D:bM)(s:Nat)(w:World)(l0 l1 l2 l3 l4 l5 l6 l7 l8 l9:Bool)(u3 u7 u8 u9 u10 u11 u12 u13 u14 u15:Value)(x:World):Prop where
 aT:Pool [] w [[blk s (bJ p D)],cond l8 [blk (FZ u15) [u7,u10,u13]] [],cond l0 [fE (TA u7) [] []] [],[],cond l3 [row 109 4 u10 D.az.length (D.az.flatMap aG)] [],cond l6 [row 112 2 u13 D.aH.length (D.aH.flatMap aM)] [],[],[]] x
 m7:l0=true->u7=.map (some (TA u7))
 q14:l7=true->u14=aj #[u7,u10,u13]
 q15:l8=true->u15=ai (some ⟨FZ u15,0,none⟩)
 q3:l9=true->u3=u15
 d7_0:l7=true->l0=true
 d7_3:l7=true->l3=true
 d7_6:l7=true->l6=true
 d8_7:l8=true->l7=true
 d8_0:l8=true->l0=true
 d8_3:l8=true->l3=true
 d8_6:l8=true->l6=true
 d9_8:l9=true->l8=true
 p8:l1=true->u8=ai (some ⟨s,1,none⟩)
 p11:l4=true->u11=ai (some ⟨s,2,none⟩)
 p9:l2=true->u9=af p.ha D.az.length p.ch
 p12:l5=true->u12=af p.sa D.aH.length p.cs
theorem Ce{P:Program}{w w':World}{o:Oper}{ev:Operand->Value}{mm kk vv:Operand}{t:TypeId}{a b c:Value}(hop:o.op=Op.mapUpdate t mm kk vv)(h1:ev mm=a)(h2:ev kk=b)(h3:ev vv=c)(hr:(Instr.mapUpdate t a b c).run P w=.ok () w'):(execOp ev o).run P w=.ok .skip w':=by
 unfold execOp;simp only[hop,Sem.run_bind,Sem.run_pure,h1,h2,h3,hr,Result.andThen_ok]
theorem Ka{l:List bF}(hd:∀i j (hi:i<l.length) (hj:j<l.length),i<j->l[i].name≠l[j].name)(k:Nat)(hk:k<l.length):∀n∈(l.take k).map bF.name,n≠l[k].name:=by
 intro n hn;rw[List.mem_map] at hn;obtain⟨x,hx,rfl⟩:=hn;obtain⟨i,hi,rfl⟩:=List.getElem_of_mem hx;rw[List.length_take] at hi;rw[List.getElem_take];exact hd i k (by omega) hk (by omega)
structure Uw(p:LP)(D:bM)(w:World)(q m:Nat)(a1:Option Addr)(c1:Nat)(a2:Option Addr)(c2:Nat)(ps:List Nat)(k:Nat)(hlt:k<D.aI.length)(W:Nat)(l0 l1 l2 l3 l4 l5 l6:Bool)(u24 u25 u26 u27 u28 u29:Value)(x:World):Prop where
 aT:Pool [] w [[blk w.heap.size (bJ p D)],[blk q [.map (some m),af a1 D.az.length c1,af a2 D.aH.length c2]],cond l6 [fE m ((D.aI.take k).map bF.name++[D.aI[k].name]) (ps++[W+1])] [fE m ((D.aI.take k).map bF.name) ps],(dV ps (D.aI.take k)),[row 109 4 (af a1 D.az.length c1) D.az.length (D.az.flatMap aG)],[row 112 2 (af a2 D.aH.length c2) D.aH.length (D.aH.flatMap aM)],[blk W (aL D.aI[k])],[blk (W+1) (aL D.aI[k])]] x
 p24:l0=true->u24=ai (some ⟨q,0,none⟩)
 p25:l1=true->u25=ai (some ⟨q,0,none⟩)
 p26:l2=true->u26=ai (some ⟨q,0,none⟩)
 p27:l3=true->u27=.map (some m)
 p28:l4=true->u28=ai (some ⟨W,0,none⟩)
 p29:l5=true->u29=ag D.aI[k].name
theorem FO(p:LP)(D:bM)(w:World)(g1:D.aI.length<=12)(g2:D.az.length<=10)(g3:D.aH.length<=40)(hpk:jr p D)(h:iO w p.aa p.ha p.sa D)(hd:∀i j (hi:i<D.aI.length) (hj:j<D.aI.length),i<j->D.aI[i].name≠D.aI[j].name) :
  Calls prog 130 #[eD p D] w fun e w'=>Tm D w e w':=by
 obtain⟨aa,ca,ha,ch,sa,cs⟩:=p;have HL:Hid (iO w aa ha sa D):=hide h;have HK:=hide hpk;have HD:=hide hd;obtain⟨W1,hW1⟩:∃W1,W1=w.alloc (.cells #[af aa D.aI.length ca,af ha D.az.length ch,af sa D.aH.length cs] 31):=⟨_,rfl⟩;have HP0:Hid (Pool [] w [[blk w.heap.size (bJ ⟨aa,ca,ha,ch,sa,cs⟩ D)],[],[],[],[],[],[],[]] W1):=hide (by rw[hW1];exact(Pool.start w [[],[],[],[],[],[],[],[]] rfl).aY (i:=0) rfl (bJ ⟨aa,ca,ha,ch,sa,cs⟩ D) 31);have HW1:Hid (_=W1):=hide hW1.symm;clear hW1 h hpk hd;have hmm:=@run_makeMap prog;unfold eD;simp only;go_enter func130,ntmps130;go_upto_region 1 with fail
 rw[HW1.out];rename_i K0 hK0;refine dw (by kernel_rfl) (fun L act x=>∃l0 l1 l2 l3 l4 l5 l6 l7 l8 l9:Bool,∃u3 u7 u8 u9 u10 u11 u12 u13 u14 u15:Value,L=#[l0,l1,l2,l3,l4,l5,l6,l7,l8,l9]/\act={tmps:=#[aj #[af aa D.aI.length ca,af ha D.az.length ch,af sa D.aH.length cs],ai (some ⟨w.heap.size,0,none⟩),ai none,u3,ak,ak,ak,u7,u8,u9,u10,u11,u12,u13,u14,u15,ak,ak,ak,ak,ak,ak,ak,ak,ak,ak,ak,ak,ak,ak,ak,ak],defers:=[]}/\Ux ⟨aa,ca,ha,ch,sa,cs⟩ D w.heap.size w l0 l1 l2 l3 l4 l5 l6 l7 l8 l9 u3 u7 u8 u9 u10 u11 u12 u13 u14 u15 x) ?_ ?_ ?_
 rotate_left 2
 ·exact⟨false,false,false,false,false,false,false,false,false,false,ak,ak,ak,ak,ak,ak,ak,ak,ak,ak,rfl,rfl,⟨HP0.drew,nofun,nofun,nofun,nofun,nofun,nofun,nofun,nofun,nofun,nofun,nofun,nofun,nofun,nofun,nofun,nofun⟩⟩
 ·rintro L act x i⟨l0,l1,l2,l3,l4,l5,l6,l7,l8,l9,u3,u7,u8,u9,u10,u11,u12,u13,u14,u15,rfl,rfl,h⟩ hi K hK;have hi15:i<10:=gz hi;have hl:=(mem_ready.1 hi).1;obtain rfl|rfl|rfl|rfl|rfl|rfl|rfl|rfl|rfl|rfl:=(by omega:i=0\/i=1\/i=2\/i=3\/i=4\/i=5\/i=6\/i=7\/i=8\/i=9)
  ·obtain rfl:l0=false:=hl;obtain rfl:l7=false:=nf h.d7_0 rfl;obtain rfl:l8=false:=nf h.d8_0 rfl;refine aK (v:=.map (some x.heap.size)) (w':=x.alloc (.map #[] 0)) ?_ (hK _ _ ⟨_,_,_,_,_,_,_,_,_,_,u3,(.map (some x.heap.size)),u8,u9,u10,u11,u12,u13,u14,u15,rfl,rfl,{h with m7:=(fun _=>rfl),q14:=(fun z=>by cases z),aT:=(h.aT.QO (i:=2) rfl),d7_0:=fun _=>rfl,d8_0:=fun _=>rfl}⟩);go_simp
  ·obtain rfl:l1=false:=hl;refine aK (v:=ai (some ⟨w.heap.size,1,none⟩)) (w':=x) ?_ (hK _ _ ⟨_,_,_,_,_,_,_,_,_,_,_,_,_,_,_,_,_,_,_,_,rfl,rfl,{h with p8:=fun _=>rfl}⟩);go_simp
  ·obtain rfl:l2=false:=hl;obtain rfl:l1=true:=aC hi 1;have c0:x.cell? ⟨w.heap.size,1,none⟩=some (af ha D.az.length ch):=(h.aT.aB (i:=0) rfl).c 1 _ rfl;refine aK (v:=af ha D.az.length ch) (w':=x) ?_ (hK _ _ ⟨_,_,_,_,_,_,_,_,_,_,_,_,_,_,_,_,_,_,_,_,rfl,rfl,{h with p9:=fun _=>rfl}⟩);rw[h.p8 rfl];go_simp
  ·obtain rfl:l3=false:=hl;obtain rfl:l2=true:=aC hi 2;obtain rfl:l7=false:=nf h.d7_3 rfl;obtain rfl:l8=false:=nf h.d8_3 rfl;refine gF ?_ (Iu ha D.az ch x (by omega) HK.h.nocap (HL.az.row.below h.aT.below)) ?_
   ·rw[h.p9 rfl];go_simp
   ·rintro e w'⟨hb,v,rfl,ho⟩;exact⟨_,rfl,hK _ _ ⟨_,_,_,_,_,_,_,_,_,_,u3,u7,u8,u9,(v),u11,u12,u13,u14,u15,rfl,rfl,{h with q14:=(fun z=>by cases z),aT:=(h.aT.CY (i:=4) rfl hb ho),d7_3:=fun _=>rfl,d8_3:=fun _=>rfl}⟩⟩
  ·obtain rfl:l4=false:=hl;refine aK (v:=ai (some ⟨w.heap.size,2,none⟩)) (w':=x) ?_ (hK _ _ ⟨_,_,_,_,_,_,_,_,_,_,_,_,_,_,_,_,_,_,_,_,rfl,rfl,{h with p11:=fun _=>rfl}⟩);go_simp
  ·obtain rfl:l5=false:=hl;obtain rfl:l4=true:=aC hi 4;have c0:x.cell? ⟨w.heap.size,2,none⟩=some (af sa D.aH.length cs):=(h.aT.aB (i:=0) rfl).c 2 _ rfl;refine aK (v:=af sa D.aH.length cs) (w':=x) ?_ (hK _ _ ⟨_,_,_,_,_,_,_,_,_,_,_,_,_,_,_,_,_,_,_,_,rfl,rfl,{h with p12:=fun _=>rfl}⟩);rw[h.p11 rfl];go_simp
  ·obtain rfl:l6=false:=hl;obtain rfl:l3=true:=aC hi 3;obtain rfl:l5=true:=aC hi 5;obtain rfl:l7=false:=nf h.d7_6 rfl;obtain rfl:l8=false:=nf h.d8_6 rfl;refine gF ?_ (Ir sa D.aH cs x (by omega) HK.s.nocap (HL.aH.row.below h.aT.below)) ?_
   ·rw[h.p12 rfl];go_simp
   ·rintro e w'⟨hb,v,rfl,ho⟩;exact⟨_,rfl,hK _ _ ⟨_,_,_,_,_,_,_,_,_,_,u3,u7,u8,u9,u10,u11,u12,(v),u14,u15,rfl,rfl,{h with q14:=(fun z=>by cases z),aT:=(h.aT.CY (i:=5) rfl hb ho),d7_6:=fun _=>rfl,d8_6:=fun _=>rfl}⟩⟩
  ·obtain rfl:l7=false:=hl;obtain rfl:l0=true:=aC hi 0;obtain rfl:l3=true:=aC hi 3;obtain rfl:l6=true:=aC hi 6;obtain rfl:l8=false:=nf h.d8_7 rfl;obtain⟨a1,c1,e1⟩:=bv (h.aT.rowAt (i:=4) rfl);obtain⟨a2,c2,e2⟩:=bv (h.aT.rowAt (i:=5) rfl);obtain⟨m7,e0⟩:∃m7,u7=.map (some m7):=⟨_,h.m7 rfl⟩;refine aK (v:=aj #[u7,u10,u13]) (w':=x) ?_ (hK _ _ ⟨_,_,_,_,_,_,_,_,_,_,_,_,_,_,_,_,_,_,_,_,rfl,rfl,{h with q14:=(fun _=>rfl),d7_0:=fun _=>rfl,d7_3:=fun _=>rfl,d7_6:=fun _=>rfl,d8_7:=fun _=>rfl}⟩);rw[e0,e1,e2];go_simp
  ·obtain rfl:l8=false:=hl;obtain rfl:l7=true:=aC hi 7;obtain rfl:l9=false:=nf h.d9_8 rfl;have y0:=h.d7_0 rfl;subst y0;have y3:=h.d7_3 rfl;subst y3;have y6:=h.d7_6 rfl;subst y6;obtain⟨a1,c1,e1⟩:=bv (h.aT.rowAt (i:=4) rfl);obtain⟨a2,c2,e2⟩:=bv (h.aT.rowAt (i:=5) rfl);obtain⟨m7,e0⟩:∃m7,u7=.map (some m7):=⟨_,h.m7 rfl⟩;refine aK (v:=ai (some ⟨x.heap.size,0,none⟩)) (w':=x.alloc (.cells #[u7,u10,u13] 222)) ?_ (hK _ _ ⟨_,_,_,_,_,_,_,_,_,_,u3,u7,u8,u9,u10,u11,u12,u13,u14,(ai (some ⟨x.heap.size,0,none⟩)),rfl,rfl,{h with q15:=(fun _=>rfl),q3:=(fun z=>by cases z),aT:=(h.aT.aY (i:=1) rfl [u7,u10,u13] 222),d8_7:=fun _=>rfl,d8_0:=fun _=>h.d7_0 rfl,d8_3:=fun _=>h.d7_3 rfl,d8_6:=fun _=>h.d7_6 rfl,d9_8:=fun _=>rfl}⟩);rw[h.q14 rfl,e0,e1,e2];go_simp
  ·obtain rfl:l9=false:=hl;obtain rfl:l0=true:=aC hi 0;obtain rfl:l1=true:=aC hi 1;obtain rfl:l2=true:=aC hi 2;obtain rfl:l3=true:=aC hi 3;obtain rfl:l4=true:=aC hi 4;obtain rfl:l5=true:=aC hi 5;obtain rfl:l6=true:=aC hi 6;obtain rfl:l7=true:=aC hi 7;obtain rfl:l8=true:=aC hi 8;refine aK (v:=u15) (w':=x) ?_ (hK _ _ ⟨_,_,_,_,_,_,_,_,_,_,_,_,_,_,_,_,_,_,_,_,rfl,rfl,{h with q3:=(fun _=>rfl),d9_8:=fun _=>rfl}⟩);go_simp
 ·rintro L act x⟨l0,l1,l2,l3,l4,l5,l6,l7,l8,l9,u3,u7,u8,u9,u10,u11,u12,u13,u14,u15,rfl,rfl,h⟩ hr;have hall:=eZ hr rfl (by decide);have t0:l0=true:=hall 0 (by decide);have t1:l1=true:=hall 1 (by decide);have t2:l2=true:=hall 2 (by decide);have t3:l3=true:=hall 3 (by decide);have t4:l4=true:=hall 4 (by decide);have t5:l5=true:=hall 5 (by decide);have t6:l6=true:=hall 6 (by decide);have t7:l7=true:=hall 7 (by decide);have t8:l8=true:=hall 8 (by decide);have t9:l9=true:=hall 9 (by decide);subst t0 t1 t2 t3 t4 t5 t6 t7 t8 t9;clear hall hr;have hp:=h.aT;have e15:=h.q15 rfl;have e3:=h.q3 rfl;have e0:=h.m7 rfl;obtain⟨a1,c1,e1⟩:=bv (h.aT.rowAt (i:=4) rfl);obtain⟨a2,c2,e2⟩:=bv (h.aT.rowAt (i:=5) rfl);obtain⟨q,hq⟩:∃q,q=FZ u15:=⟨_,rfl⟩;obtain⟨m,hm⟩:∃m,m=TA u7:=⟨_,rfl⟩;obtain⟨ps,hps⟩:∃ps:List Nat,ps=[]:=⟨_,rfl⟩;rw[<-hm] at hp e0;rw[<-hq] at hp e15;subst e1 e2 e0 e3;have HPZ:Hid (RG w ⟨aa,ca,ha,ch,sa,cs⟩ D q m a1 c1 a2 c2 ps 0 x):=hide (by rw[hps];exact hp);have HPL:Hid (ps.length=0):=hide (by rw[hps];rfl);rw[e15];clear h hp e15 hq hm hps;refine hK0 _ _ ?_;have d0:=(HPZ.aB (i:=0) rfl).c 0 _ rfl;go_wp2_with fail;go_loopw [19] (fun iv wr=>∃(k:Nat)(ps:List Nat),k<=D.aI.length/\iv=ae au (k:Int)/\ps.length=k/\Hid (RG w ⟨aa,ca,ha,ch,sa,cs⟩ D q m a1 c1 a2 c2 ps k wr)) (fun iv wr=>D.aI.length-(intOf iv).toNat)
  case atStart=>exact⟨0,ps,Nat.zero_le _,rfl,HPL.out,HPZ⟩
  case round =>
   clear HPZ HPL d0 ps;obtain⟨k,ps,hk,rfl,hpl,HPr⟩:=hrel;have HPS:=hide hpl;clear hpl;by_cases hlt:k<D.aI.length
   ·have hlt':(k:Int)<(D.aI.length:Int):=by omega
    obtain⟨b2,off2,rfl,hb2,z0,z1,z2,z3⟩:=jL (HL.aI.row.below HPr.below) k hlt;go_upto_region 6 with fail
    rename_i K1 hK1;obtain⟨W2,hW2⟩:∃W2,W2=(wr.alloc (.cells (aL D.aI[k]).toArray 106)).alloc (.cells (aL D.aI[k]).toArray 106):=⟨_,rfl⟩;have HPw:Hid (Pool [] w [[blk w.heap.size (bJ ⟨some ⟨b2,off2,none⟩,ca,ha,ch,sa,cs⟩ D)],[blk q [.map (some m),af a1 D.az.length c1,af a2 D.aH.length c2]],[fE m ((D.aI.take k).map bF.name) ps],(dV ps (D.aI.take k)),[row 109 4 (af a1 D.az.length c1) D.az.length (D.az.flatMap aG)],[row 112 2 (af a2 D.aH.length c2) D.aH.length (D.aH.flatMap aM)],[blk wr.heap.size (aL D.aI[k])],[blk (wr.heap.size+1) (aL D.aI[k])]] W2):=hide (by
     have z0:=HPr.out;unfold RG at z0;have z:=(z0.aY (i:=6) rfl (aL D.aI[k]) 106).aY (i:=7) rfl (aL D.aI[k]) 106;rw[<-hW2,World.size_alloc] at z;exact z)
    have HW2:Hid (_=W2):=hide hW2.symm;clear hW2 HPr z0 z1 z2 z3;unfold aL at HW2;rw[HW2.out];refine dw (by kernel_rfl) (fun L act x=>∃l0 l1 l2 l3 l4 l5 l6:Bool,∃u24 u25 u26 u27 u28 u29:Value,L=#[l0,l1,l2,l3,l4,l5,l6]/\act={tmps:=#[aj #[af (some ⟨b2,off2,none⟩) D.aI.length ca,af ha D.az.length ch,af sa D.aH.length cs],ai (some ⟨w.heap.size,0,none⟩),ai none,ai (some ⟨q,0,none⟩),ak,ai (some ⟨wr.heap.size,0,none⟩),ai (some ⟨wr.heap.size+1,0,none⟩),Value.map (some m),u8,u9,af a1 D.az.length c1,u11,u12,af a2 D.aH.length c2,u14,ai (some ⟨q,0,none⟩),ai (some ⟨w.heap.size,0,none⟩),af (some ⟨b2,off2,none⟩) D.aI.length ca,ae au ↑D.aI.length,ae au ↑k,Value.bool true,ai (some ⟨b2,off2+k*4,none⟩),aj #[ag D.aI[k].name,ag D.aI[k].cur,ae au D.aI[k].bB,ae au D.aI[k].aS],aj #[ag D.aI[k].name,ag D.aI[k].cur,ae au D.aI[k].bB,ae au D.aI[k].aS],u24,u25,u26,u27,u28,u29,u30,ak],defers:=[]}/\Uw ⟨some ⟨b2,off2,none⟩,ca,ha,ch,sa,cs⟩ D w q m a1 c1 a2 c2 ps k hlt wr.heap.size l0 l1 l2 l3 l4 l5 l6 u24 u25 u26 u27 u28 u29 x) ?_ ?_ ?_
    rotate_left 2
    ·exact⟨false,false,false,false,false,false,false,(u24),(u25),(u26),(u27),(u28),(u29),rfl,rfl,⟨HPw.drew,nofun,nofun,nofun,nofun,nofun,nofun⟩⟩
    ·rintro L act x i⟨l0,l1,l2,l3,l4,l5,l6,u24,u25,u26,u27,u28,u29,rfl,rfl,h⟩ hi K hK;have hi15:i<7:=gz hi;have hl:=(mem_ready.1 hi).1;obtain rfl|rfl|rfl|rfl|rfl|rfl|rfl:=(by omega:i=0\/i=1\/i=2\/i=3\/i=4\/i=5\/i=6)
     ·obtain rfl:l0=false:=hl;refine aK (v:=ai (some ⟨q,0,none⟩)) (w':=x) ?_ (hK _ _ ⟨_,_,_,_,_,_,_,_,_,_,_,_,_,rfl,rfl,{h with p24:=fun _=>rfl}⟩);go_simp
     ·obtain rfl:l1=false:=hl;obtain rfl:l0=true:=aC hi 0;refine aK (v:=ai (some ⟨q,0,none⟩)) (w':=x) ?_ (hK _ _ ⟨_,_,_,_,_,_,_,_,_,_,_,_,_,rfl,rfl,{h with p25:=fun _=>rfl}⟩);rw[h.p24 rfl];go_simp
     ·obtain rfl:l2=false:=hl;obtain rfl:l1=true:=aC hi 1;refine aK (v:=ai (some ⟨q,0,none⟩)) (w':=x) ?_ (hK _ _ ⟨_,_,_,_,_,_,_,_,_,_,_,_,_,rfl,rfl,{h with p26:=fun _=>rfl}⟩);rw[h.p25 rfl];go_simp
     ·obtain rfl:l3=false:=hl;obtain rfl:l2=true:=aC hi 2;have c0:x.cell? ⟨q,0,none⟩=some (.map (some m)):=(h.aT.aB (i:=1) rfl).c 0 _ rfl;refine aK (v:=.map (some m)) (w':=x) ?_ (hK _ _ ⟨_,_,_,_,_,_,_,_,_,_,_,_,_,rfl,rfl,{h with p27:=fun _=>rfl}⟩);rw[h.p26 rfl];go_simp
     ·obtain rfl:l4=false:=hl;refine aK (v:=ai (some ⟨wr.heap.size,0,none⟩)) (w':=x) ?_ (hK _ _ ⟨_,_,_,_,_,_,_,_,_,_,_,_,_,rfl,rfl,{h with p28:=fun _=>rfl}⟩);go_simp
     ·obtain rfl:l5=false:=hl;obtain rfl:l4=true:=aC hi 4;have c0:x.cell? ⟨wr.heap.size,0,none⟩=some (ag D.aI[k].name):=(h.aT.aB (i:=6) rfl).c 0 _ rfl;refine aK (v:=ag D.aI[k].name) (w':=x) ?_ (hK _ _ ⟨_,_,_,_,_,_,_,_,_,_,_,_,_,rfl,rfl,{h with p29:=fun _=>rfl}⟩);rw[h.p28 rfl];go_simp
     ·obtain rfl:l6=false:=hl;obtain rfl:l0=true:=aC hi 0;obtain rfl:l1=true:=aC hi 1;obtain rfl:l2=true:=aC hi 2;obtain rfl:l3=true:=aC hi 3;obtain rfl:l4=true:=aC hi 4;obtain rfl:l5=true:=aC hi 5;obtain⟨y,hr,hp⟩:=h.aT.Ml (i:=2) rfl (by have e:=HPS.out;simp only[List.length_map,List.length_take];omega) (by unfold maxLen;simp only[List.length_map,List.length_take];omega) (HL.aI.wf _ (List.getElem_mem hlt)).1 (Ka HD.out k hlt) (wr.heap.size+1);refine eB (w':=y) ?_ (hK _ _ ⟨_,_,_,_,_,_,_,u24,u25,u26,u27,u28,u29,rfl,rfl,{h with aT:=(hp)}⟩);exact Ce rfl (h.p27 rfl) (h.p29 rfl) rfl hr
    ·rintro L act x⟨l0,l1,l2,l3,l4,l5,l6,u24,u25,u26,u27,u28,u29,rfl,rfl,h⟩ hr;have hall:=eZ hr rfl (by decide);have t0:l0=true:=hall 0 (by decide);have t1:l1=true:=hall 1 (by decide);have t2:l2=true:=hall 2 (by decide);have t3:l3=true:=hall 3 (by decide);have t4:l4=true:=hall 4 (by decide);have t5:l5=true:=hall 5 (by decide);have t6:l6=true:=hall 6 (by decide);subst t0 t1 t2 t3 t4 t5 t6;clear hall hr;have hp:=h.aT.drop (i:=6) rfl;have HPn:Hid (RG w ⟨some ⟨b2,off2,none⟩,ca,ha,ch,sa,cs⟩ D q m a1 c1 a2 c2 (ps++[wr.heap.size+1]) (k+1) x):=hide (by
      unfold RG;rw[dX _ _ hlt,List.map_append,AQ _ _ _ _ (by have e:=HPS.out;rw[List.length_take];omega)];refine hp.perm ?_;simp only[List.set,List.flatten_cons,List.flatten_nil,List.append_nil,List.nil_append,List.cons_append,List.append_assoc,List.map_cons,List.map_nil,cond];refine List.Perm.cons _ (List.Perm.cons _ (List.Perm.cons _ (List.Perm.append_left _ ?_)));exact(List.Perm.cons _ (List.Perm.swap _ _ _)).trans (List.Perm.swap _ _ _))
     have HPL:Hid ((ps++[wr.heap.size+1]).length=k+1):=hide (by have e:=HPS.out;simp only[List.length_append,List.length_cons,List.length_nil];omega);clear h hp;refine hK1 _ _ ?_;go_wp2;exact⟨⟨k+1,_,by omega,by go_num,HPL.out,HPn⟩,by simp[intOf];omega⟩
   ·have hlt':¬ (k:Int)<(D.aI.length:Int):=by omega
    obtain rfl:k=D.aI.length:=by omega
    have HPf:=hide HPr.out;go_wp2;go_ret;exact⟨q,m,ps,af a1 D.az.length c1,af a2 D.aH.length c2,rfl,HPS.out,(by
     have z:=HPf.out;unfold RG at z;rw[List.take_length] at z;exact(z.drop (i:=0) rfl).cast (by simp[fU]))⟩
end Go.Proofs.YtdbmmdecclalgaaGreatDoor
