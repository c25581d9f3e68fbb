import Derived.Test.YtdbmmdecclalgaaGreatDoorQay
namespace Go.Proofs.YtdbmmdecclalgaaGreatDoor
open Go.Value renaming int → ae, slice → af, string → ag, pointer → ai, agg → aj
open Go.IntKind renaming i64 → au
open Go renaming undef → ak
open Go.Proofs.Tryz Go.ChangeShapes Go.WideShapes Go.ChangeAt Go.RowKit Go.Maps
set_option linter.unusedVariables false
set_option maxRecDepth 100000
set_option maxHeartbeats 4000000
def j6(A:List bF)(H:List bP)(hd:bP):Option Int:=match gp A hd.fr hd.to with
 | some c=>some c
 | none=>match dZ A hd.fr with
  | some i=>if 1000000000000<bf hd.fr H+hd.aV then some 8 else (match A[i]? with
   | some y=>if mh y (bf y.name H) hd.aV then none else some 7
   | none=>none)
  | none=>none
def lQ(A:List bF)(H:List bP)(hd:bP):List bP:=match j6 A H hd with
 | none=>kH H hd
 | some _=>H
theorem Fh{A:List bF}{H:List bP}{hd:bP}{i:Nat}(hp:gp A hd.fr hd.to=none)(hi:dZ A hd.fr=some i)(hil:i<A.length) :
  j6 A H hd=if 1000000000000<bf hd.fr H+hd.aV then some 8 else if mh A[i] (bf A[i].name H) hd.aV then none else some 7:=by
 simp[j6,hp,hi,hil]
def PT(q m:Nat)(ps:List Nat)(sv:Value)(D:bM)(hd:bP)(g:Value)(FF:List Nat)(w:World)(e:Ending)(w':World):Prop :=
 ∃hv',jw (j6 D.aI D.az hd) g FF (fU q m ps hv' sv D.aI (lQ D.aI D.az hd) D.aH).flatten w e w'
structure Un(FF:List Nat)(w:World)(q m:Nat)(ps:List Nat)(ha:Option Addr)(ch:Nat)(sv:Value)(D:bM)(hd:bP)(W:Nat)(w1:World)(l0 l1 l2 l3 l4 l5 l6 l7:Bool)(u21 u22 u23 u24 u25 u26 u27 u28:Value)(x:World):Prop where
 aT:Pool FF w [[blk q [.map (some m),af ha D.az.length ch,sv]],[fE m (D.aI.map bF.name) ps],dV ps D.aI,[row 109 4 (af ha D.az.length ch) D.az.length (D.az.flatMap aG)],[row 112 2 sv D.aH.length (D.aH.flatMap aM)],[],[blk W (aG hd)]] x
 bel:Below w1.heap.size w1 x
 p21:l0=true->u21=ai (some ⟨q,0,none⟩)
 p22:l1=true->u22=ai (some ⟨W,1,none⟩)
 p23:l2=true->u23=ag hd.fr
 p24:l3=true->u24=ae au (bf hd.fr D.az)
 p25:l4=true->u25=ai (some ⟨W,3,none⟩)
 p26:l5=true->u26=ae au hd.aV
 p27:l6=true->u27=ae au (bf hd.fr D.az+hd.aV)
 p28:l7=true->u28=.bool (decide (bf hd.fr D.az+hd.aV>1000000000000))
structure Uo(FF:List Nat)(w:World)(q m:Nat)(ps:List Nat)(ha:Option Addr)(ch:Nat)(sv:Value)(D:bM)(hd:bP)(W:Nat)(l0 l1 l2 l3 l4 l5 l6 l7 l8 l9 l10:Bool)(u37 u38 u39 u40 u41 u42 u43 u44 u45 u46:Value)(x:World):Prop where
 aT:Pool FF w [cond l10 [blk q [.map (some m),u44,sv]] [blk q [.map (some m),(af ha D.az.length ch),sv]],[fE m (D.aI.map bF.name) ps],dV ps D.aI,cond l7 [row 109 4 u44 (D.az.length+1) (D.az.flatMap aG++aG hd)] [row 109 4 (af ha D.az.length ch) D.az.length (D.az.flatMap aG)],[row 112 2 sv D.aH.length (D.aH.flatMap aM)],[],[blk W (aG hd)],cond l6 [blk (jP (tJ u43)) (aG hd)] []] x
 q43:l6=true->u43=af (some ⟨jP (tJ u43),0,none⟩) 1 1
 d7_6:l7=true->l6=true
 d7_4:l7=true->l4=true
 d10_7:l10=true->l7=true
 d10_4:l10=true->l4=true
 p37:l0=true->u37=ai (some ⟨q,0,none⟩)
 p38:l1=true->u38=ai (some ⟨q,0,none⟩)
 p39:l2=true->u39=ai (some ⟨q,0,none⟩)
 p45:l8=true->u45=ai (some ⟨q,0,none⟩)
 p40:l3=true->u40=ai (some ⟨q,1,none⟩)
 p46:l9=true->u46=ai (some ⟨q,1,none⟩)
 p41:l4=true->u41=(af ha D.az.length ch)
 p42:l5=true->u42=aj #[ae au hd.id,ag hd.fr,ag hd.to,ae au hd.aV]
theorem Nr(q m:Nat)(ps:List Nat)(hv sv:Value)(D:bM)(hd:bP)(t:TypeId)(v:Value)(w:World)(hps:ps.length=D.aI.length)(s1:hd.fr.size<=maxLen)(s2:hd.to.size<=maxLen)(hH:jq D.az)(hA:∀y∈D.aI,xc y)(ham:0<=hd.aV/\hd.aV<=1000000000000)(hhw:∀y∈D.az,Bt y)(hsw:∀y∈D.aH,Qp y)(hup:(D.az.map bP.id).Pairwise (· < ·))(hno:∀y∈D.az,y.id≠hd.id)(h:Star (fU q m ps hv sv D.aI D.az D.aH).flatten w)(hg:w.cell? ⟨5,0,none⟩=some (.iface t v)) :
  Calls prog 166 #[ai (some ⟨q,0,none⟩),aj #[ae au hd.id,ag hd.fr,ag hd.to,ae au hd.aV]] w fun e w'=>PT q m ps sv D hd (.iface t v) (ic (fU q m ps hv sv D.aI D.az D.aH).flatten) w e w':=by
 obtain⟨FF,hFF⟩:∃FF,FF=ic (fU q m ps hv sv D.aI D.az D.aH).flatten:=⟨_,rfl⟩;obtain⟨i0,hi0,hz0,hz1,hz2⟩:=info_parts kM;obtain⟨ha,ch,sa,cs,rfl,rfl,hbk⟩:=h.bk hps;obtain⟨sv,hsv⟩:∃sv,sv=af sa D.aH.length cs:=⟨_,rfl⟩;rw[<-hsv] at h hFF⊢;obtain⟨W1,hW1⟩:∃W1,W1=w.alloc (.cells (aG hd).toArray 109):=⟨_,rfl⟩;have HP:Hid (Pool FF w [[blk q [.map (some m),(af ha D.az.length ch),sv]],[fE m (D.aI.map bF.name) ps],dV ps D.aI,[row 109 4 (af ha D.az.length ch) D.az.length (D.az.flatMap aG)],[row 112 2 sv D.aH.length (D.aH.flatMap aM)],[],[blk w.heap.size (aG hd)]] W1):=hide (by
  rw[hW1];have z:Pool FF w [[blk q [.map (some m),af ha D.az.length ch,sv]],[fE m (D.aI.map bF.name) ps],dV ps D.aI,[row 109 4 (af ha D.az.length ch) D.az.length (D.az.flatMap aG)],[row 112 2 sv D.aH.length (D.aH.flatMap aM)],[],[]] w:=by
   rw[hFF];exact(Pool.of h).cast (by simp[fU])
  exact z.aY (i:=6) rfl (aG hd) 109)
 have hB1:Below w.heap.size w W1:=by rw[hW1];exact aF (Below.refl _ _) _
 have HW1:Hid (_=W1):=hide hW1.symm;have HG:=hide ((hB1.cell (p:=⟨5,0,none⟩) (dO hg)).trans hg);have HK:=hide (hbk.below hB1);have HH:=hide hH;have HX:=hide hA;have HW:=hide hhw;have HV:=hide hsw;have HU:=hide hup;have HNO:=hide hno;have hl10:=hH.1;rw[<-hFF];clear h hg hFF hps hbk hH hA hhw hsw hup hno hB1 hW1 hsv;unfold aG at HW1;have b1:=(HP.aB (i:=6) rfl).c 1 _ rfl;have b2:=(HP.aB (i:=6) rfl).c 2 _ rfl;go_enter func166,ntmps166;go_upto_region 1 with fail
 rw[HW1.out];go_wp2_with fail;refine(I5 hd.fr hd.to t v _ s1 s2 HK.out HG.out).mono ?_;intro e w1 hpe
 cases hpc:gp D.aI hd.fr hd.to with
 | some code =>
  unfold vU at hpe;rw[hpc] at hpe;obtain⟨n,rfl,hp1⟩:=hpe;have HC:Hid (j6 D.aI D.az hd=some code):=hide (by simp[j6,hpc]);have HP1:=hide ((HP.new (i:=5) rfl hp1.below (hp1.get (i:=0) rfl) (fun b hb=>(hp1.hi b (by simpa using hb)).resolve_left (by simp))).drop (i:=6) rfl);clear hpc hp1 HP b1 b2;go_wp2_with fail;go_ret;have hl:lQ D.aI D.az hd=D.az:=by simp[lQ,HC.out]
  refine⟨af ha D.az.length ch,?_⟩;unfold jw;rw[HC.out,hl];exact⟨n,rfl,HP1.cast (by simp[fU])⟩
 | none =>
  unfold vU at hpe;rw[hpc] at hpe;obtain⟨i,j,hi,hj,hb1,rfl⟩:=hpe;obtain⟨hil,eni,_⟩:=fq hi;have HC:=hide (Fh (H:=D.az) hpc hi hil);have HP1:=hide (HP.keep hb1);have HK1:=hide (HK.below hb1);have HPB:=hide (HK1.book HW.out HV.out);have HG1:=hide ((hb1.cell (p:=⟨5,0,none⟩) (dO HG.out)).trans HG.out);clear hi hj hpc hb1 HP HK HG eni b1 b2;obtain⟨p,hpe⟩:∃p,p=ps.getD i 0:=⟨_,rfl⟩;have bi:=HK1.aI i hil;rw[<-hpe] at bi⊢;have HBI:=hide bi;clear hpe bi;obtain⟨g1,g2⟩:=ham;have hbd:=pJ hd.fr D.az D.az.length HH.out;rw[List.take_length] at hbd;obtain⟨hd1,hd2⟩:=hbd;have wr1:IntKind.i64.wrap (bf hd.fr D.az+hd.aV)=bf hd.fr D.az+hd.aV:=iP (by omega);have c1:=(HP1.aB (i:=6) rfl).c 1 _ rfl;have c3:=(HP1.aB (i:=6) rfl).c 3 _ rfl;go_upto_region 4 with fail
  rename_i K0 hK0;clear c1 c3;refine dw (by kernel_rfl) (fun L act x=>∃l0 l1 l2 l3 l4 l5 l6 l7:Bool,∃u21 u22 u23 u24 u25 u26 u27 u28:Value,L=#[l0,l1,l2,l3,l4,l5,l6,l7]/\act={tmps:=#[ai (some ⟨q,0,none⟩),aj #[ae au hd.id,ag hd.fr,ag hd.to,ae au hd.aV],ak,ai (some ⟨w.heap.size,0,none⟩),Value.nilIface,ai (some ⟨p,0,none⟩),ai (some ⟨ps[j]?.getD 0,0,none⟩),Value.nilIface,Value.tuple #[ai (some ⟨p,0,none⟩),ai (some ⟨ps[j]?.getD 0,0,none⟩),Value.nilIface],ai (some ⟨q,0,none⟩),ai (some ⟨w.heap.size,1,none⟩),ag hd.fr,ai (some ⟨w.heap.size,2,none⟩),ag hd.to,Value.tuple #[ai (some ⟨p,0,none⟩),ai (some ⟨ps[j]?.getD 0,0,none⟩),Value.nilIface],ai (some ⟨p,0,none⟩),ai (some ⟨ps[j]?.getD 0,0,none⟩),Value.nilIface,Value.nilIface,Value.bool false,ak,u21,u22,u23,u24,u25,u26,u27,u28,ak,ak,ak,ak,ak,ak,ak,ak,ak,ak,ak,ak,ak,ak,ak,ak,ak,ak,ak,ak,ak,ak,ak],defers:=[]}/\Un FF w q m ps ha ch sv D hd w.heap.size w1 l0 l1 l2 l3 l4 l5 l6 l7 u21 u22 u23 u24 u25 u26 u27 u28 x) ?_ ?_ ?_
  rotate_left 2
  ·exact⟨false,false,false,false,false,false,false,false,ak,ak,ak,ak,ak,ak,ak,ak,rfl,rfl,⟨HP1.drew,(Below.refl _ _).drew,nofun,nofun,nofun,nofun,nofun,nofun,nofun,nofun⟩⟩
  ·rintro L act x i⟨l0,l1,l2,l3,l4,l5,l6,l7,u21,u22,u23,u24,u25,u26,u27,u28,rfl,rfl,h⟩ hi K hK;have hi15:i<8:=gz hi;have hl:=(mem_ready.1 hi).1;obtain rfl|rfl|rfl|rfl|rfl|rfl|rfl|rfl:=(by omega:i=0\/i=1\/i=2\/i=3\/i=4\/i=5\/i=6\/i=7)
   ·obtain rfl:l0=false:=hl;refine aK (v:=ai (some ⟨q,0,none⟩)) (w':=x) ?_ (hK _ _ ⟨_,_,_,_,_,_,_,_,_,_,_,_,_,_,_,_,rfl,rfl,{h with p21:=fun _=>rfl}⟩);go_simp
   ·obtain rfl:l1=false:=hl;refine aK (v:=ai (some ⟨w.heap.size,1,none⟩)) (w':=x) ?_ (hK _ _ ⟨_,_,_,_,_,_,_,_,_,_,_,_,_,_,_,_,rfl,rfl,{h with p22:=fun _=>rfl}⟩);go_simp
   ·obtain rfl:l2=false:=hl;obtain rfl:l1=true:=aC hi 1;have c0:x.cell? ⟨w.heap.size,1,none⟩=some (ag hd.fr):=(h.aT.aB (i:=6) rfl).c 1 _ rfl;refine aK (v:=ag hd.fr) (w':=x) ?_ (hK _ _ ⟨_,_,_,_,_,_,_,_,_,_,_,_,_,_,_,_,rfl,rfl,{h with p23:=fun _=>rfl}⟩);rw[h.p22 rfl];go_simp
   ·obtain rfl:l3=false:=hl;obtain rfl:l0=true:=aC hi 0;obtain rfl:l2=true:=aC hi 2;refine gF ?_ (nD q D hd.fr x HH.out (HPB.below h.bel)) ?_
    ·rw[h.p21 rfl,h.p23 rfl];go_simp
    ·rintro e w'⟨rfl,hb⟩;exact⟨_,rfl,hK _ _ ⟨_,_,_,_,_,_,_,_,u21,u22,u23,(ae au (bf hd.fr D.az)),u25,u26,u27,u28,rfl,rfl,{h with bel:=(aJ h.bel hb),p24:=(fun _=>rfl),aT:=(h.aT.keep hb)}⟩⟩
   ·obtain rfl:l4=false:=hl;refine aK (v:=ai (some ⟨w.heap.size,3,none⟩)) (w':=x) ?_ (hK _ _ ⟨_,_,_,_,_,_,_,_,_,_,_,_,_,_,_,_,rfl,rfl,{h with p25:=fun _=>rfl}⟩);go_simp
   ·obtain rfl:l5=false:=hl;obtain rfl:l4=true:=aC hi 4;have c0:x.cell? ⟨w.heap.size,3,none⟩=some (ae au hd.aV):=(h.aT.aB (i:=6) rfl).c 3 _ rfl;refine aK (v:=ae au hd.aV) (w':=x) ?_ (hK _ _ ⟨_,_,_,_,_,_,_,_,_,_,_,_,_,_,_,_,rfl,rfl,{h with p26:=fun _=>rfl}⟩);rw[h.p25 rfl];go_simp
   ·obtain rfl:l6=false:=hl;obtain rfl:l3=true:=aC hi 3;obtain rfl:l5=true:=aC hi 5;refine aK (v:=ae au (bf hd.fr D.az+hd.aV)) (w':=x) ?_ (hK _ _ ⟨_,_,_,_,_,_,_,_,_,_,_,_,_,_,_,_,rfl,rfl,{h with p27:=fun _=>rfl}⟩);rw[h.p24 rfl,h.p26 rfl];go_simp
   ·obtain rfl:l7=false:=hl;obtain rfl:l6=true:=aC hi 6;refine aK (v:=.bool (decide (bf hd.fr D.az+hd.aV>1000000000000))) (w':=x) ?_ (hK _ _ ⟨_,_,_,_,_,_,_,_,_,_,_,_,_,_,_,_,rfl,rfl,{h with p28:=fun _=>rfl}⟩);rw[h.p27 rfl];go_simp
  ·rintro L act x⟨l0,l1,l2,l3,l4,l5,l6,l7,u21,u22,u23,u24,u25,u26,u27,u28,rfl,rfl,h⟩ hr;have hall:=eZ hr rfl (by decide);have t0:l0=true:=hall 0 (by decide);have t1:l1=true:=hall 1 (by decide);have t2:l2=true:=hall 2 (by decide);have t3:l3=true:=hall 3 (by decide);have t4:l4=true:=hall 4 (by decide);have t5:l5=true:=hall 5 (by decide);have t6:l6=true:=hall 6 (by decide);have t7:l7=true:=hall 7 (by decide);subst t0 t1 t2 t3 t4 t5 t6 t7;clear hall hr;have e28:=h.p28 rfl;have HP2:Hid (Pool FF w [[blk q [.map (some m),(af ha D.az.length ch),sv]],[fE m (D.aI.map bF.name) ps],dV ps D.aI,[row 109 4 (af ha D.az.length ch) D.az.length (D.az.flatMap aG)],[row 112 2 sv D.aH.length (D.aH.flatMap aM)],[],[blk w.heap.size (aG hd)]] x):=hide h.aT;have HB2:=hide h.bel;clear h;subst e28;refine hK0 _ _ ?_;have HG2:=hide ((HB2.cell (p:=⟨5,0,none⟩) (dO HG1.out)).trans HG1.out);have HBX:Hid (jb p (aL D.aI[i]) x):=hide (((Star.ou HBI.out).below HB2.out).get (r:=blk p (aL D.aI[i])) (by simp));have HPX:=hide (HPB.below HB2.out);clear HB2 HP1 HG1 HK1 HPB HBI;by_cases k8:1000000000000<bf hd.fr D.az+hd.aV
   ·have k8':decide (bf hd.fr D.az+hd.aV>1000000000000)=true:=by simpa using k8
    have HCN:Hid (j6 D.aI D.az hd=some 8):=hide (by rw[HC.out,if_pos k8]);go_wp2_with fail;refine(iM _ t v _ HG2.out).mono ?_;rintro e w3⟨rfl,rfl⟩;go_wp2_with fail;go_ret;have hl:lQ D.aI D.az hd=D.az:=by simp[lQ,HCN.out]
    refine⟨af ha D.az.length ch,?_⟩;unfold jw;rw[HCN.out,hl];exact⟨_,rfl,((HP2.aY (i:=5) rfl [ae au 8,.iface t v] 233).drop (i:=6) rfl).cast (by simp[fU])⟩
   ·have k8':decide (bf hd.fr D.az+hd.aV>1000000000000)=false:=by simpa using k8
    have HC1:=hide (HC.trans (if_neg k8));have c3:=(HP2.aB (i:=6) rfl).c 3 _ rfl;go_wp2_with fail;refine(lK q p D D.aI[i] hd.aV _ HH.out (HX.out _ (List.getElem_mem hil)) ⟨g1,g2⟩ HPX.out ⟨HBX.lt,HBX.c 0 _ rfl,HBX.c 1 _ rfl,HBX.c 2 _ rfl,HBX.c 3 _ rfl⟩).mono ?_;rintro e w2⟨rfl,hb2⟩;have HP3:=hide (HP2.keep hb2);have HG3:=hide ((hb2.cell (p:=⟨5,0,none⟩) (dO HG2.out)).trans HG2.out);clear hb2 HP2 HG2 HBX HPX c3;cases hcv:mh D.aI[i] (bf D.aI[i].name D.az) hd.aV
    ·skip;have HCN:Hid (j6 D.aI D.az hd=some 7):=hide (by rw[HC1.out,hcv];rfl);go_wp2_with fail;refine(iM _ t v _ HG3.out).mono ?_;rintro e w3⟨rfl,rfl⟩;go_wp2_with fail;go_ret;have hl:lQ D.aI D.az hd=D.az:=by simp[lQ,HCN.out]
     refine⟨af ha D.az.length ch,?_⟩;unfold jw;rw[HCN.out,hl];exact⟨_,rfl,((HP3.aY (i:=5) rfl [ae au 7,.iface t v] 233).drop (i:=6) rfl).cast (by simp[fU])⟩
    ·have HCN:Hid (j6 D.aI D.az hd=none):=hide (by rw[HC1.out,hcv];rfl);clear hcv HC1 HC;have z0:=(HP3.aB (i:=6) rfl).c 0 _ rfl;have z1:=(HP3.aB (i:=6) rfl).c 1 _ rfl;have z2:=(HP3.aB (i:=6) rfl).c 2 _ rfl;have z3:=(HP3.aB (i:=6) rfl).c 3 _ rfl;have zl:=(HP3.aB (i:=6) rfl).lt;have d1:=(HP3.aB (i:=0) rfl).c 1 _ rfl;have dl:=(HP3.aB (i:=0) rfl).lt;go_upto_region 8 with fail
     rename_i K1 hK1;have HP4:Hid (Pool FF w [[blk q [.map (some m),(af ha D.az.length ch),sv]],[fE m (D.aI.map bF.name) ps],dV ps D.aI,[row 109 4 (af ha D.az.length ch) D.az.length (D.az.flatMap aG)],[row 112 2 sv D.aH.length (D.aH.flatMap aM)],[],[blk w.heap.size (aG hd)],[]] w2):=hide (HP3.cast (by simp));clear HP3 z0 z1 z2 z3 zl d1 dl;refine dw (by kernel_rfl) (fun L act x=>∃l0 l1 l2 l3 l4 l5 l6 l7 l8 l9 l10:Bool,∃u37 u38 u39 u40 u41 u42 u43 u44 u45 u46:Value,L=#[l0,l1,l2,l3,l4,l5,l6,l7,l8,l9,l10]/\act={tmps:=#[ai (some ⟨q,0,none⟩),aj #[ae au hd.id,ag hd.fr,ag hd.to,ae au hd.aV],ak,ai (some ⟨w.heap.size,0,none⟩),Value.nilIface,ai (some ⟨p,0,none⟩),ai (some ⟨ps[j]?.getD 0,0,none⟩),Value.nilIface,Value.tuple #[ai (some ⟨p,0,none⟩),ai (some ⟨ps[j]?.getD 0,0,none⟩),Value.nilIface],ai (some ⟨q,0,none⟩),ai (some ⟨w.heap.size,1,none⟩),ag hd.fr,ai (some ⟨w.heap.size,2,none⟩),ag hd.to,Value.tuple #[ai (some ⟨p,0,none⟩),ai (some ⟨ps[j]?.getD 0,0,none⟩),Value.nilIface],ai (some ⟨p,0,none⟩),ai (some ⟨ps[j]?.getD 0,0,none⟩),Value.nilIface,Value.nilIface,Value.bool false,ak,u21,u22,u23,u24,u25,u26,u27,Value.bool false,ak,ai (some ⟨q,0,none⟩),ai (some ⟨p,0,none⟩),ai (some ⟨w.heap.size,3,none⟩),ae au hd.aV,Value.bool true,Value.bool false,ak,u37,u38,u39,u40,u41,u42,u43,u44,u45,u46,ak,ak,ak,ak,ak],defers:=[]}/\Uo FF w q m ps ha ch sv D hd w.heap.size l0 l1 l2 l3 l4 l5 l6 l7 l8 l9 l10 u37 u38 u39 u40 u41 u42 u43 u44 u45 u46 x) ?_ ?_ ?_
     rotate_left 2
     ·exact⟨false,false,false,false,false,false,false,false,false,false,false,ak,ak,ak,ak,ak,ak,ak,ak,ak,ak,rfl,rfl,⟨HP4.drew,nofun,nofun,nofun,nofun,nofun,nofun,nofun,nofun,nofun,nofun,nofun,nofun,nofun⟩⟩
     ·rintro L act x i⟨l0,l1,l2,l3,l4,l5,l6,l7,l8,l9,l10,u37,u38,u39,u40,u41,u42,u43,u44,u45,u46,rfl,rfl,h⟩ hi K hK;have hi15:i<11:=gz hi;have hl:=(mem_ready.1 hi).1;obtain rfl|rfl|rfl|rfl|rfl|rfl|rfl|rfl|rfl|rfl|rfl:=(by omega:i=0\/i=1\/i=2\/i=3\/i=4\/i=5\/i=6\/i=7\/i=8\/i=9\/i=10)
      ·obtain rfl:l0=false:=hl;refine aK (v:=ai (some ⟨q,0,none⟩)) (w':=x) ?_ (hK _ _ ⟨_,_,_,_,_,_,_,_,_,_,_,_,_,_,_,_,_,_,_,_,_,rfl,rfl,{h with p37:=fun _=>rfl}⟩);go_simp
      ·obtain rfl:l1=false:=hl;refine aK (v:=ai (some ⟨q,0,none⟩)) (w':=x) ?_ (hK _ _ ⟨_,_,_,_,_,_,_,_,_,_,_,_,_,_,_,_,_,_,_,_,_,rfl,rfl,{h with p38:=fun _=>rfl}⟩);go_simp
      ·obtain rfl:l2=false:=hl;obtain rfl:l1=true:=aC hi 1;refine aK (v:=ai (some ⟨q,0,none⟩)) (w':=x) ?_ (hK _ _ ⟨_,_,_,_,_,_,_,_,_,_,_,_,_,_,_,_,_,_,_,_,_,rfl,rfl,{h with p39:=fun _=>rfl}⟩);rw[h.p38 rfl];go_simp
      ·obtain rfl:l3=false:=hl;obtain rfl:l2=true:=aC hi 2;refine aK (v:=ai (some ⟨q,1,none⟩)) (w':=x) ?_ (hK _ _ ⟨_,_,_,_,_,_,_,_,_,_,_,_,_,_,_,_,_,_,_,_,_,rfl,rfl,{h with p40:=fun _=>rfl}⟩);rw[h.p39 rfl];go_simp
      ·obtain rfl:l4=false:=hl;obtain rfl:l3=true:=aC hi 3;obtain rfl:l10=false:=nf h.d10_4 rfl;have c0:x.cell? ⟨q,1,none⟩=some (af ha D.az.length ch):=(h.aT.aB (i:=0) rfl).c 1 _ rfl;refine aK (v:=(af ha D.az.length ch)) (w':=x) ?_ (hK _ _ ⟨_,_,_,_,_,_,_,_,_,_,_,_,_,_,_,_,_,_,_,_,_,rfl,rfl,{h with p41:=(fun _=>rfl),d7_4:=fun _=>rfl,d10_4:=fun _=>rfl}⟩);rw[h.p40 rfl];go_simp
      ·obtain rfl:l5=false:=hl;have c0:x.cell? ⟨w.heap.size,0,none⟩=some (ae au hd.id):=(h.aT.aB (i:=6) rfl).c 0 _ rfl;have c1:x.cell? ⟨w.heap.size,1,none⟩=some (ag hd.fr):=(h.aT.aB (i:=6) rfl).c 1 _ rfl;have c2:x.cell? ⟨w.heap.size,2,none⟩=some (ag hd.to):=(h.aT.aB (i:=6) rfl).c 2 _ rfl;have c3:x.cell? ⟨w.heap.size,3,none⟩=some (ae au hd.aV):=(h.aT.aB (i:=6) rfl).c 3 _ rfl;refine aK (v:=aj #[ae au hd.id,ag hd.fr,ag hd.to,ae au hd.aV]) (w':=x) ?_ (hK _ _ ⟨_,_,_,_,_,_,_,_,_,_,_,_,_,_,_,_,_,_,_,_,_,rfl,rfl,{h with p42:=fun _=>rfl}⟩);go_simp
      ·obtain rfl:l6=false:=hl;obtain rfl:l5=true:=aC hi 5;obtain rfl:l7=false:=nf h.d7_6 rfl;refine aK (v:=af (some ⟨x.heap.size,0,none⟩) 1 1) (w':=x.alloc (.cells #[ae au hd.id,ag hd.fr,ag hd.to,ae au hd.aV] 109)) ?_ (hK _ _ ⟨_,_,_,_,_,_,_,_,_,_,_,u37,u38,u39,u40,u41,u42,(af (some ⟨x.heap.size,0,none⟩) 1 1),u44,u45,u46,rfl,rfl,{h with q43:=(fun _=>rfl),aT:=(h.aT.aY (i:=7) rfl (aG hd) 109),d7_6:=fun _=>rfl}⟩);rw[h.p42 rfl];go_simp
      ·obtain rfl:l7=false:=hl;obtain rfl:l4=true:=aC hi 4;obtain rfl:l6=true:=aC hi 6;obtain rfl:l10=false:=nf h.d10_7 rfl;obtain⟨v',y,hr,hp⟩:=h.aT.append (P:=prog) (i0:=3) rfl 28 28 i0 _ 48 underlying28 hi0 hz0 hz1 hz2 rfl (by decide) (some ⟨jP (tJ u43),0,none⟩) 1 1 (aG hd) rfl (fun e=>by cases e) (gJ (h.aT.aB (i:=7) rfl)) (zZ hd) (by unfold maxLen;omega) (by omega);refine aK (v:=v') (w':=y) ?_ (hK _ _ ⟨_,_,_,_,_,_,_,_,_,_,_,u37,u38,u39,u40,u41,u42,u43,(v'),u45,u46,rfl,rfl,{h with aT:=(hp),d7_6:=fun _=>rfl,d7_4:=fun _=>rfl,d10_7:=fun _=>rfl}⟩);exact eQ rfl (h.p41 rfl) (h.q43 rfl) hr
      ·obtain rfl:l8=false:=hl;obtain rfl:l0=true:=aC hi 0;obtain rfl:l1=true:=aC hi 1;obtain rfl:l2=true:=aC hi 2;obtain rfl:l3=true:=aC hi 3;obtain rfl:l4=true:=aC hi 4;obtain rfl:l5=true:=aC hi 5;obtain rfl:l6=true:=aC hi 6;obtain rfl:l7=true:=aC hi 7;refine aK (v:=ai (some ⟨q,0,none⟩)) (w':=x) ?_ (hK _ _ ⟨_,_,_,_,_,_,_,_,_,_,_,_,_,_,_,_,_,_,_,_,_,rfl,rfl,{h with p45:=fun _=>rfl}⟩);rw[h.p37 rfl];go_simp
      ·obtain rfl:l9=false:=hl;obtain rfl:l0=true:=aC hi 0;obtain rfl:l1=true:=aC hi 1;obtain rfl:l2=true:=aC hi 2;obtain rfl:l3=true:=aC hi 3;obtain rfl:l4=true:=aC hi 4;obtain rfl:l5=true:=aC hi 5;obtain rfl:l6=true:=aC hi 6;obtain rfl:l7=true:=aC hi 7;obtain rfl:l8=true:=aC hi 8;refine aK (v:=ai (some ⟨q,1,none⟩)) (w':=x) ?_ (hK _ _ ⟨_,_,_,_,_,_,_,_,_,_,_,_,_,_,_,_,_,_,_,_,_,rfl,rfl,{h with p46:=fun _=>rfl}⟩);rw[h.p45 rfl];go_simp
      ·obtain rfl:l10=false:=hl;obtain rfl:l0=true:=aC hi 0;obtain rfl:l1=true:=aC hi 1;obtain rfl:l2=true:=aC hi 2;obtain rfl:l3=true:=aC hi 3;obtain rfl:l4=true:=aC hi 4;obtain rfl:l5=true:=aC hi 5;obtain rfl:l6=true:=aC hi 6;obtain rfl:l7=true:=aC hi 7;obtain rfl:l9=true:=aC hi 9;obtain⟨a6,k6,e6⟩:=bv (h.aT.rowAt (i:=3) rfl);have A:=h.aT.aB (i:=0) rfl;have t1:=A.c 1 _ rfl;have f1:=A.f 1;refine eB (w':=x.setCell ⟨q,1,none⟩ u44) ?_ (hK _ _ ⟨_,_,_,_,_,_,_,_,_,_,_,u37,u38,u39,u40,u41,u42,u43,u44,u45,u46,rfl,rfl,{h with aT:=(h.aT.aQ (i:=0) rfl 1 u44 (by simp)),d10_7:=fun _=>rfl,d10_4:=fun _=>rfl}⟩);rw[h.p46 rfl,e6];go_simp
     ·rintro L act x⟨l0,l1,l2,l3,l4,l5,l6,l7,l8,l9,l10,u37,u38,u39,u40,u41,u42,u43,u44,u45,u46,rfl,rfl,h⟩ hr;have hall:=eZ hr rfl (by decide);have t0:l0=true:=hall 0 (by decide);have t1:l1=true:=hall 1 (by decide);have t2:l2=true:=hall 2 (by decide);have t3:l3=true:=hall 3 (by decide);have t4:l4=true:=hall 4 (by decide);have t5:l5=true:=hall 5 (by decide);have t6:l6=true:=hall 6 (by decide);have t7:l7=true:=hall 7 (by decide);have t8:l8=true:=hall 8 (by decide);have t9:l9=true:=hall 9 (by decide);have t10:l10=true:=hall 10 (by decide);subst t0 t1 t2 t3 t4 t5 t6 t7 t8 t9 t10;clear hall hr;obtain⟨N,hN⟩:∃N,N=D.az++[hd]:=⟨_,rfl⟩;obtain⟨a6,k6,e6⟩:=bv (h.aT.rowAt (i:=3) rfl);have HP5:Hid (Pool FF w [[blk q [.map (some m),u44,sv]],[fE m (D.aI.map bF.name) ps],dV ps D.aI,[row 109 4 u44 N.length (N.flatMap aG)],[row 112 2 sv D.aH.length (D.aH.flatMap aM)],[]] x):=hide (by
       have z:=(h.aT.drop (i:=7) rfl).drop (i:=6) rfl;have e1:(D.az++[hd]).length=D.az.length+1:=by simp
       have e2:(D.az++[hd]).flatMap aG=D.az.flatMap aG++aG hd:=by simp
       rw[hN,e1,e2];exact z.cast (by simp))
      have HNN:=hide hN;have hn0:0<N.length:=by rw[hN];simp
      have hn1:N.length<=1048576:=by rw[hN];simp;omega
      have e6':u44=af a6 N.length k6:=by rw[e6,hN];simp
      clear h hN e6;subst e6';refine hK1 _ _ ?_;have d1:=(HP5.aB (i:=0) rfl).c 1 _ rfl;have dl:=(HP5.aB (i:=0) rfl).lt;go_wp2_with fail;refine(CB HP5.out (i:=3) rfl hn0 hn1).mono ?_;rintro e w3⟨rfl,r,hr,hs,hp4⟩;have HP6:=hide hp4;have HR:Hid (r=kH D.az hd):=hide (Pi HU.out HNO.out (HNN.out▸hr) hs);clear hr hs hp4 d1 dl;go_wp2_with fail;go_ret;have hl:lQ D.aI D.az hd=kH D.az hd:=by simp[lQ,HCN.out]
      refine⟨af a6 N.length k6,?_⟩;unfold jw;rw[HCN.out,hl];have z:=HP6.out;rw[HR.out] at z;exact⟨rfl,z.cast (by simp[fU])⟩
end Go.Proofs.YtdbmmdecclalgaaGreatDoor
