import Derived.Test.YtdbmmdecclalgaaGreatDoorQaq
import Derived.Test.YtdbmmdecclalgaaGreatDoorQaj
namespace Go.Proofs.YtdbmmdecclalgaaGreatDoor
open Go.Value renaming int → ae, slice → af, string → ag, pointer → ai, agg → aj
open Go.IntKind renaming i64 → au
open Go renaming undef → ak
open Go.Proofs.Tryz Go.ChangeShapes Go.WideShapes Go.ChangeAt Go.RowKit Go.Maps
set_option linter.unusedVariables false
set_option maxRecDepth 100000
set_option maxHeartbeats 4000000
def jw(o:Option Int)(g:Value)(F:List Nat)(rs:List Rs)(w:World)(e:Ending)(w':World):Prop :=
 match o with
 | none=>e=.returned .nilIface/\Pool F w [rs,[]] w'
 | some code=>∃n,e=.returned (.iface 229 (ai (some ⟨n,0,none⟩)))/\Pool F w [rs,[blk n [ae au code,g]]] w'
def D7(q m:Nat)(ps:List Nat)(hv sv:Value)(A:List bF)(H:List bP)(S:List Sn)(a:bF)(g:Value)(F:List Nat)(w:World)(e:Ending)(w':World):Prop :=
 match dZ A a.name with
 | some _=>jw (some 4) g F (fU q m ps hv sv A H S).flatten w e w'
 | none=>∃p,jw none g F (fU q m (ps++[p]) hv sv (A++[a]) H S).flatten w e w'
theorem vz{l:List bF}{nm:ByteArray}(h:dZ l nm=none):∀i (hi:i<l.length),l[i].name≠nm:=by
 intro i hi e;rw[dZ,List.findIdx?_eq_none_iff] at h;have:=h _ (List.getElem_mem hi);rw[eX.2 e] at this;cases this
theorem OZ{l:List bF}{nm:ByteArray}(h:∀i (hi:i<l.length),l[i].name≠nm):∀n∈l.map bF.name,n≠nm:=by
 intro n hn;rw[List.mem_map] at hn;obtain⟨x,hx,rfl⟩:=hn;obtain⟨i,hi,rfl⟩:=List.getElem_of_mem hx;exact h i hi
structure Uh(FF:List Nat)(w:World)(q m:Nat)(ps:List Nat)(ha:Option Addr)(ch:Nat)(sa:Option Addr)(cs:Nat)(A:List bF)(H:List bP)(S:List Sn)(a:bF)(W:Nat)(l0 l1 l2 l3 l4 l5 l6:Bool)(u14 u15 u16 u17 u18 u19:Value)(x:World):Prop where
 aT:Pool FF w [[blk q [.map (some m),af ha H.length ch,af sa S.length cs]],cond l6 [fE m (A.map bF.name++[a.name]) (ps++[W])] [fE m (A.map bF.name) ps],dV ps A,[row 109 4 (af ha H.length ch) H.length (H.flatMap aG)],[row 112 2 (af sa S.length cs) S.length (S.flatMap aM)],[blk W (aL a)]] x
 p14:l0=true->u14=ai (some ⟨q,0,none⟩)
 p15:l1=true->u15=ai (some ⟨q,0,none⟩)
 p16:l2=true->u16=ai (some ⟨q,0,none⟩)
 p17:l3=true->u17=.map (some m)
 p18:l4=true->u18=ai (some ⟨W,0,none⟩)
 p19:l5=true->u19=ag a.name
theorem OY(q m:Nat)(ps:List Nat)(hv sv:Value)(A:List bF)(H:List bP)(S:List Sn)(a:bF)(t:TypeId)(v:Value)(w:World)(n1:A.length<=1048576)(hps:ps.length=A.length)(hn:a.name.size<=maxLen)(h:Star (fU q m ps hv sv A H S).flatten w)(hg:w.cell? ⟨5,0,none⟩=some (.iface t v)) :
  Calls prog 164 #[ai (some ⟨q,0,none⟩),aj #[ag a.name,ag a.cur,ae au a.bB,ae au a.aS]] w fun e w'=>D7 q m ps hv sv A H S a (.iface t v) (ic (fU q m ps hv sv A H S).flatten) w e w':=by
 obtain⟨FF,hFF⟩:∃FF,FF=ic (fU q m ps hv sv A H S).flatten:=⟨_,rfl⟩;obtain⟨ha,ch,sa,cs,rfl,rfl,hbk⟩:=h.bk hps;have HP:Hid (Pool FF w [[blk q [.map (some m),af ha H.length ch,af sa S.length cs]],[fE m (A.map bF.name) ps],dV ps A,[row 109 4 (af ha H.length ch) H.length (H.flatMap aG)],[row 112 2 (af sa S.length cs) S.length (S.flatMap aM)],[]] w):=hide (by
  rw[hFF];exact(Pool.of h).cast (by simp[fU]))
 obtain⟨W1,hW1⟩:∃W1,W1=w.alloc (.cells (aL a).toArray 106):=⟨_,rfl⟩;have hB1:Below w.heap.size w W1:=by rw[hW1];exact aF (Below.refl _ _) _
 have HP1:Hid (Pool FF w [[blk q [.map (some m),af ha H.length ch,af sa S.length cs]],[fE m (A.map bF.name) ps],dV ps A,[row 109 4 (af ha H.length ch) H.length (H.flatMap aG)],[row 112 2 (af sa S.length cs) S.length (S.flatMap aM)],[blk w.heap.size (aL a)]] W1):=hide (by rw[hW1];exact HP.aY (i:=5) rfl (aL a) 106);have HW1:Hid (_=W1):=hide hW1.symm;have HG:=hide ((hB1.cell (p:=⟨5,0,none⟩) (dO hg)).trans hg);have hbk:=hbk.below hB1;have hlt:=hbk.lt;have d0:=hbk.c0;have HPS:=hide hps;rw[<-hFF];clear h hg hB1 hW1 HP hFF hps;unfold aL at HW1;have hmh:=hbk.MW;clear hbk;have c0:=(HP1.aB (i:=5) rfl).c 0 _ rfl;have c1:=(HP1.aB (i:=5) rfl).lt;rcases sw hmh hn with ⟨i,hi,p,en1,hp,r1⟩|⟨no1,r1⟩
 ·have HI:Hid (∃i,dZ A a.name=some i):=hide (by
   cases e:dZ A a.name with
   | some k=>exact⟨k,rfl⟩
   | none=>exact absurd en1 (vz e i hi))
  clear hmh hp en1;go_enter func164,ntmps164;go_upto_region 1 with fail
  rw[HW1.out];go_quiet (fail);go_wp2_with fail;obtain⟨W2,hW2⟩:∃W2,W2=W1.drewN nq:=⟨_,rfl⟩;have HP2:Hid (Pool FF w [[blk q [.map (some m),af ha H.length ch,af sa S.length cs]],[fE m (A.map bF.name) ps],dV ps A,[row 109 4 (af ha H.length ch) H.length (H.flatMap aG)],[row 112 2 (af sa S.length cs) S.length (S.flatMap aM)],[blk w.heap.size (aL a)]] W2):=hide (by rw[hW2];exact HP1.keep (dG _ _));have HG2:=hide ((by rw[hW2];exact aN (dG _ _) _ _ HG.out):W2.cell? ⟨5,0,none⟩=some (.iface t v));rw[<-hW2];clear hW2 HP1 HG r1 d0 c0 c1 hlt HW1;refine(iM _ t v _ HG2.out).mono ?_;rintro e w3⟨rfl,rfl⟩;go_wp2_with fail;go_ret;obtain⟨i,hi⟩:=HI.out;unfold D7;rw[hi];refine⟨_,rfl,?_⟩;have z:=(HP2.drop (i:=5) rfl).aY (i:=5) rfl [ae au 4,.iface t v] 233;exact z.cast (by simp[fU])
 ·have HI:Hid (dZ A a.name=none):=hide (pI no1);have HN:=hide no1;clear hmh no1;go_enter func164,ntmps164;go_upto_region 1 with fail
  rw[HW1.out];go_quiet (fail);go_wp2_with fail;obtain⟨W2,hW2⟩:∃W2,W2=W1.drewN nq:=⟨_,rfl⟩;have HP2:Hid (Pool FF w [[blk q [.map (some m),af ha H.length ch,af sa S.length cs]],[fE m (A.map bF.name) ps],dV ps A,[row 109 4 (af ha H.length ch) H.length (H.flatMap aG)],[row 112 2 (af sa S.length cs) S.length (S.flatMap aM)],[blk w.heap.size (aL a)]] W2):=hide (by rw[hW2];exact HP1.keep (dG _ _));have HG2:=hide ((by rw[hW2];exact aN (dG _ _) _ _ HG.out):W2.cell? ⟨5,0,none⟩=some (.iface t v));rw[<-hW2];clear hW2 HP1 HG r1 d0 c0 c1 hlt HW1;rename_i K0 hK0;refine dw (by kernel_rfl) (fun L act x=>∃l0 l1 l2 l3 l4 l5 l6:Bool,∃u14 u15 u16 u17 u18 u19:Value,L=#[l0,l1,l2,l3,l4,l5,l6]/\act={tmps:=#[ai (some ⟨q,0,none⟩),aj #[ag a.name,ag a.cur,ae au a.bB,ae au a.aS],ak,ai (some ⟨w.heap.size,0,none⟩),Value.nilIface,ai (some ⟨q,0,none⟩),ai (some ⟨q,0,none⟩),ai (some ⟨q,0,none⟩),Value.map (some m),ai (some ⟨w.heap.size,0,none⟩),ag a.name,ai none,Value.bool false,ak,u14,u15,u16,u17,u18,u19],defers:=[]}/\Uh FF w q m ps ha ch sa cs A H S a w.heap.size l0 l1 l2 l3 l4 l5 l6 u14 u15 u16 u17 u18 u19 x) ?_ ?_ ?_
  rotate_left 2
  ·exact⟨false,false,false,false,false,false,false,ak,ak,ak,ak,ak,ak,rfl,rfl,⟨HP2.drew,nofun,nofun,nofun,nofun,nofun,nofun⟩⟩
  ·rintro L act x i⟨l0,l1,l2,l3,l4,l5,l6,u14,u15,u16,u17,u18,u19,rfl,rfl,h⟩ hi K hK;have hi15:i<7:=gz hi;have hl:=(mem_ready.1 hi).1;obtain rfl|rfl|rfl|rfl|rfl|rfl|rfl:=(by omega:i=0\/i=1\/i=2\/i=3\/i=4\/i=5\/i=6)
   ·obtain rfl:l0=false:=hl;refine aK (v:=ai (some ⟨q,0,none⟩)) (w':=x) ?_ (hK _ _ ⟨_,_,_,_,_,_,_,_,_,_,_,_,_,rfl,rfl,{h with p14:=fun _=>rfl}⟩);go_simp
   ·obtain rfl:l1=false:=hl;obtain rfl:l0=true:=aC hi 0;refine aK (v:=ai (some ⟨q,0,none⟩)) (w':=x) ?_ (hK _ _ ⟨_,_,_,_,_,_,_,_,_,_,_,_,_,rfl,rfl,{h with p15:=fun _=>rfl}⟩);rw[h.p14 rfl];go_simp
   ·obtain rfl:l2=false:=hl;obtain rfl:l1=true:=aC hi 1;refine aK (v:=ai (some ⟨q,0,none⟩)) (w':=x) ?_ (hK _ _ ⟨_,_,_,_,_,_,_,_,_,_,_,_,_,rfl,rfl,{h with p16:=fun _=>rfl}⟩);rw[h.p15 rfl];go_simp
   ·obtain rfl:l3=false:=hl;obtain rfl:l2=true:=aC hi 2;have z0:x.cell? ⟨q,0,none⟩=some (.map (some m)):=(h.aT.aB (i:=0) rfl).c 0 _ rfl;refine aK (v:=.map (some m)) (w':=x) ?_ (hK _ _ ⟨_,_,_,_,_,_,_,_,_,_,_,_,_,rfl,rfl,{h with p17:=fun _=>rfl}⟩);rw[h.p16 rfl];go_simp
   ·obtain rfl:l4=false:=hl;refine aK (v:=ai (some ⟨w.heap.size,0,none⟩)) (w':=x) ?_ (hK _ _ ⟨_,_,_,_,_,_,_,_,_,_,_,_,_,rfl,rfl,{h with p18:=fun _=>rfl}⟩);go_simp
   ·obtain rfl:l5=false:=hl;obtain rfl:l4=true:=aC hi 4;have z0:x.cell? ⟨w.heap.size,0,none⟩=some (ag a.name):=(h.aT.aB (i:=5) rfl).c 0 _ rfl;refine aK (v:=ag a.name) (w':=x) ?_ (hK _ _ ⟨_,_,_,_,_,_,_,_,_,_,_,_,_,rfl,rfl,{h with p19:=fun _=>rfl}⟩);rw[h.p18 rfl];go_simp
   ·obtain rfl:l6=false:=hl;obtain rfl:l0=true:=aC hi 0;obtain rfl:l1=true:=aC hi 1;obtain rfl:l2=true:=aC hi 2;obtain rfl:l3=true:=aC hi 3;obtain rfl:l4=true:=aC hi 4;obtain rfl:l5=true:=aC hi 5;obtain⟨y,hr,hp⟩:=h.aT.Ml (i:=1) rfl (by have e:=HPS.out;simp only[List.length_map];omega) (by unfold maxLen;simp only[List.length_map];omega) hn (OZ HN.out) w.heap.size;refine eB (w':=y) ?_ (hK _ _ ⟨_,_,_,_,_,_,_,u14,u15,u16,u17,u18,u19,rfl,rfl,{h with aT:=(hp)}⟩);exact Ce rfl (h.p17 rfl) (h.p19 rfl) rfl hr
  ·rintro L act x⟨l0,l1,l2,l3,l4,l5,l6,u14,u15,u16,u17,u18,u19,rfl,rfl,h⟩ hr;have hall:=eZ hr rfl (by decide);have t0:l0=true:=hall 0 (by decide);have t1:l1=true:=hall 1 (by decide);have t2:l2=true:=hall 2 (by decide);have t3:l3=true:=hall 3 (by decide);have t4:l4=true:=hall 4 (by decide);have t5:l5=true:=hall 5 (by decide);have t6:l6=true:=hall 6 (by decide);subst t0 t1 t2 t3 t4 t5 t6;clear hall hr;have hp:=h.aT;have HE:Hid (Pool FF w [(fU q m (ps++[w.heap.size]) (af ha H.length ch) (af sa S.length cs) (A++[a]) H S).flatten,[]] x):=hide (by
    refine hp.perm ?_;simp only[fU,AQ ps A w.heap.size a HPS.out,List.map_append,List.map_cons,List.map_nil,List.flatten_cons,List.flatten_nil,List.append_nil,List.nil_append,List.cons_append,List.append_assoc,cond];refine List.Perm.cons _ (List.Perm.cons _ (List.Perm.append_left _ ?_));exact(List.Perm.cons _ (List.Perm.swap _ _ _)).trans (List.Perm.swap _ _ _))
   clear h hp;refine hK0 _ _ ?_;go_wp2_with fail;go_ret;unfold D7;rw[HI.out];exact⟨_,rfl,HE.out⟩
theorem Db{w:World}{q m:Nat}{ps:List Nat}{ha:Option Addr}{ch:Nat}{sa:Option Addr}{cs:Nat}{A:List bF}{H:List bP}{S:List Sn}(h:xq w q m ps ha ch sa cs A H S){nm:ByteArray}(hn:nm.size<=maxLen) :
  (∃j,∃hj:j<A.length,dZ A nm=some j/\jW w (ps.getD j 0) A[j]/\∀k,(Instr.lookup 218 (.map (some m)) (ag nm) false).run prog (w.drewN k)=.ok (ai (some ⟨ps.getD j 0,0,none⟩)) (w.drewN k)) \/
  (dZ A nm=none/\∀k,(Instr.lookup 218 (.map (some m)) (ag nm) false).run prog (w.drewN k)=.ok (.pointer none) (w.drewN k)):=by
 obtain⟨D,ho,hi⟩:=h.map;have hoN:∀k,(w.drewN k).ownsMap prog 9 gq m (A.map bF.name).length D:=fun k=>ho.kept (gy (dG w k)) (by simp)
 cases e:dZ A nm with
 | some j =>
  obtain⟨hj,en,_⟩:=fq e;have hq:=hi.at_ j (by simpa using hj);have b:=h.aI j hj;have hq':∀z,D.atKey (kn nm) z=pg (ps.getD j 0):=fun z=>by
   have:=hq z;simpa[en] using this
  exact .inl ⟨j,hj,rfl,⟨b.lt,b.c 0 _ rfl,b.c 1 _ rfl,b.c 2 _ rfl,b.c 3 _ rfl⟩,fun k=>Dc (hoN k) hn hq'⟩
 | none =>
  refine .inr ⟨rfl,fun k=>I8 (hoN k) hn ?_⟩;rw[Bool.eq_false_iff];intro hh;obtain⟨j,hj,e2⟩:=hi.only _ hh;exact vz e j (by simpa using hj) (by simpa using (mg e2).symm)
def gp(A:List bF)(fr tn:ByteArray):Option Int:=match dZ A fr,dZ A tn with
 | some i,some j=>if o8 A i j then none else some 6
 | _,_=>some 5
def vU(A:List bF)(ps:List Nat)(fr tn:ByteArray)(g:Value)(w:World)(e:Ending)(w':World):Prop :=
 match gp A fr tn with
 | none=>∃i j,dZ A fr=some i/\dZ A tn=some j/\Below w.heap.size w w'/\e=.returned (.tuple #[ai (some ⟨ps.getD i 0,0,none⟩),ai (some ⟨ps.getD j 0,0,none⟩),.nilIface])
 | some code=>∃n,e=.returned (.tuple #[ai none,ai none,.iface 229 (ai (some ⟨n,0,none⟩))])/\Pool [] w [[blk n [ae au code,g]]] w'
theorem QG{A:List bF}{ps:List Nat}{fr tn:ByteArray}{g:Value}{w x:World}{i j:Nat}(hfin:Below w.heap.size w x)(hi:dZ A fr=some i)(hj:dZ A tn=some j)(hc:o8 A i j=true) :
  vU A ps fr tn g w (.returned (.tuple #[ai (some ⟨ps.getD i 0,0,none⟩),ai (some ⟨ps.getD j 0,0,none⟩),.nilIface])) x:=by
 have e:gp A fr tn=none:=by simp[gp,hi,hj,hc]
 unfold vU;rw[e];exact⟨i,j,hi,hj,hfin,rfl⟩
theorem CR{A:List bF}{ps:List Nat}{fr tn:ByteArray}{g:Value}{w:World}{N:Nat}{code:Int}(h:gp A fr tn=some code) :
  vU A ps fr tn g w (.returned (.tuple #[ai none,ai none,.iface 229 (ai (some ⟨w.heap.size,0,none⟩))])) ((w.drewN N).alloc (.cells #[ae au code,g] 233)):=by
 unfold vU;rw[h];exact⟨_,rfl,(Pool.start w [[]] rfl).uT (i:=0) rfl N [ae au code,g] 233⟩
theorem o7{A:List bF}{i j:Nat}(hi:i<A.length)(hj:j<A.length):o8 A i j=jC A[i].cur A[j].cur:=by simp[o8,hi,hj]
theorem I5{q m:Nat}{ps:List Nat}{ha:Option Addr}{ch:Nat}{sa:Option Addr}{cs:Nat}{A:List bF}{H:List bP}{S:List Sn}(fr tn:ByteArray)(t:TypeId)(v:Value)(w:World)(s1:fr.size<=maxLen)(s2:tn.size<=maxLen)(hB:xq w q m ps ha ch sa cs A H S)(hg:w.cell? ⟨5,0,none⟩=some (.iface t v)) :
  Calls prog 198 #[ai (some ⟨q,0,none⟩),ag fr,ag tn] w fun e w'=>vU A ps fr tn (.iface t v) w e w':=by
 have hd:∀x:World,∀code,x.cell? ⟨5,0,none⟩=some (.iface t v)->Calls prog 206 #[ae au code] x fun e w'=>sS code (.iface t v) x e w':=fun x code h=>iM code t v x h
 have HH:=hide hB;have hq:=hB.lt;have c0:=hB.c0;clear hB;rcases Db HH.out s1 with ⟨i,hi,en1,hp,r1⟩|⟨no1,r1⟩
 ·rcases Db HH.out s2 with ⟨j,hj,en2,hr,r2⟩|⟨no2,r2⟩
  ·obtain⟨p0,p1,p2,p3,p4⟩:=hp;obtain⟨t0,t1,t2,t3,t4⟩:=hr;have HN1:=hide en1;have HN2:=hide en2;have HC:=hide (o7 hi hj);obtain⟨p,hpe⟩:∃p,p=ps.getD i 0:=⟨_,rfl⟩;obtain⟨r,hre⟩:∃r,r=ps.getD j 0:=⟨_,rfl⟩;have p2':w.cell? ⟨p,1,none⟩=some (ag A[i].cur):=by rw[hpe];exact p2
   have t2':w.cell? ⟨r,1,none⟩=some (ag A[j].cur):=by rw[hre];exact t2
   rw[<-hpe] at r1 p0;rw[<-hre] at r2 t0;have HPE:=hide hpe;have HRE:=hide hre;clear en1 en2 p1 p2 p3 p4 t1 t2 t3 t4 hpe hre HH;cases q1:(A[i].cur.toList==A[j].cur.toList)
   ·have q1':(A[i].cur.toList != A[j].cur.toList)=true:=by simp[bne,q1]
    have HQ:Hid (gp A fr tn=some 6):=hide (by
     have e:o8 A i j=false:=by
      rw[HC.out,Bool.eq_false_iff];intro e;rw[bT.2 (eX.1 e)] at q1;cases q1
     simp[gp,HN1.out,HN2.out,e])
    go_enter func198,ntmps198;go_wp2_with fail;go_quiet (fail);go_wp2_with fail;go_quiet (fail);go_wp2_with (first|(go_at_call 206;refine(hd _ _ (by simpa using hg)).mono ?_;rintro e w1⟨rfl,rfl⟩));go_ret3;exact CR HQ.out
   ·have q1':(A[i].cur.toList != A[j].cur.toList)=false:=by simp[bne,q1]
    have HQ:Hid (o8 A i j=true):=hide (by rw[HC.out];exact eX.2 (bT.1 q1));go_enter func198,ntmps198;go_wp2_with fail;go_quiet (fail);go_wp2_with fail;go_quiet (fail);go_wp2;go_ret3;rw[HPE.out,HRE.out];exact QG (below_drewN (dG w _) _) HN1.out HN2.out HQ.out
  ·have HN:Hid (gp A fr tn=some 5):=hide (by simp[gp,en1,no2]);obtain⟨p,hpe⟩:∃p,p=ps.getD i 0:=⟨_,rfl⟩;rw[<-hpe] at r1;clear no2 hp en1 hpe HH;go_enter func198,ntmps198;go_wp2_with fail;go_quiet (fail);go_wp2_with (first|(go_at_call 206;refine(hd _ _ (by simpa using hg)).mono ?_;rintro e w1⟨rfl,rfl⟩));go_ret3;exact CR HN.out
 ·have HN:Hid (gp A fr tn=some 5):=hide (by simp[gp,no1]);have hr2:∃u,∀k,(Instr.lookup 218 (.map (some m)) (ag tn) false).run prog (w.drewN k)=.ok u (w.drewN k):=by
   rcases Db HH.out s2 with ⟨j,hj,en2,hr,r2⟩|⟨no2,r2⟩
   ·exact⟨_,r2⟩
   ·exact⟨_,r2⟩
  obtain⟨u,r2⟩:=hr2;clear no1 HH;go_enter func198,ntmps198;go_wp2_with fail;go_quiet (fail);go_wp2_with (first|(go_at_call 206;refine(hd _ _ (by simpa using hg)).mono ?_;rintro e w1⟨rfl,rfl⟩));go_ret3;exact CR HN.out
theorem rT(ps:List Nat)(A:List bF)(i:Nat)(hi:i<A.length)(hps:ps.length=A.length) :
  dV ps A=dV (ps.take i) (A.take i)++blk (ps.getD i 0) (aL A[i])::dV (ps.drop (i+1)) (A.drop (i+1)):=by
 have hp:i<ps.length:=by omega
 have e1:ps=ps.take i++(ps[i]::ps.drop (i+1)):=by rw[<-List.drop_eq_getElem_cons hp,List.take_append_drop]
 have e2:A=A.take i++(A[i]::A.drop (i+1)):=by rw[<-List.drop_eq_getElem_cons hi,List.take_append_drop]
 have e3:ps.getD i 0=ps[i]:=by simp[hp]
 rw[e3];conv=>lhs;rw[e1,e2]
 unfold dV;rw[List.zip_append (by simp[List.length_take];omega),List.zip_cons_cons,List.map_append,List.map_cons]
theorem List.getElem?_concat_length'{X:Type}(a:List X)(x:X)(b:List X):(a++x::b)[a.length]?=some x:=by simp
theorem Pool.L8{F:List Nat}{w x:World}{S1 S2:List (List Rs)}{ps:List Nat}{A:List bF}(h:Pool F w (S1++dV ps A::S2) x)(i:Nat)(hi:i<A.length)(hps:ps.length=A.length)(d:Int) :
  Pool F w (S1++dV ps (iG A i d)::S2) (x.setCell ⟨ps.getD i 0,3,none⟩ (ae au (A[i].aS+d))):=by
 have h1:Pool F w ((S1++[dV (ps.take i) (A.take i)])++[blk (ps.getD i 0) (aL A[i])]::dV (ps.drop (i+1)) (A.drop (i+1))::S2) x:=h.cast (by rw[rT ps A i hi hps];simp);have h2:=h1.aQ (i:=(S1++[dV (ps.take i) (A.take i)]).length) (b:=ps.getD i 0) (cur:=aL A[i]) (List.getElem?_concat_length' _ _ _) 3 (ae au (A[i].aS+d)) (by simp[aL]);refine h2.cast ?_;have hi':i<(iG A i d).length:=by rw[iy];exact hi
 rw[rT ps (iG A i d) i hi' (by rw[iy];exact hps)];have e1:(iG A i d).take i=A.take i:=by rw[kI hi,List.take_set_of_le (Nat.le_refl _)]
 have e2:(iG A i d).drop (i+1)=A.drop (i+1):=by rw[kI hi,List.drop_set_of_lt (Nat.lt_succ_self _)]
 have e3:(iG A i d)[i]=gV A[i] d:=by simp[kI hi]
 rw[e1,e2,e3,List.set_append_right _ _ (Nat.le_refl _)];simp[aL,gV]
theorem Pool.Ov{F:List Nat}{w x:World}{S1 S2:List (List Rs)}{ps:List Nat}{A:List bF}(h:Pool F w (S1++dV ps A::S2) x)(i:Nat)(hi:i<A.length)(hps:ps.length=A.length):jb (ps.getD i 0) (aL A[i]) x:=by
 have h1:Pool F w ((S1++[dV (ps.take i) (A.take i)])++[blk (ps.getD i 0) (aL A[i])]::dV (ps.drop (i+1)) (A.drop (i+1))::S2) x:=h.cast (by rw[rT ps A i hi hps];simp);exact h1.aB (i:=(S1++[dV (ps.take i) (A.take i)]).length) (List.getElem?_concat_length' _ _ _)
theorem ug{A:List bF}{i j:Nat}(hi:i<A.length)(hj:j<A.length)(hne:i≠j)(d:Int)(hj':j<(iG A i d).length):(iG A i d)[j]=A[j]:=by
 simp[kI hi,hne]
theorem jB{A:List bF}{i:Nat}(d:Int):(iG A i d).map bF.name=A.map bF.name:=by
 rcases Nat.lt_or_ge i A.length with hi|hi
 ·rw[kI hi,List.map_set];have e:(gV A[i] d).name=(A.map bF.name)[i]'(by simpa using hi):=by simp[gV]
  rw[e,List.set_getElem_self]
 ·simp[iG,hi]
def postC(A:List bF)(H:List bP)(fr tn:ByteArray)(am:Int):Option Int:=match gp A fr tn with
 | some c=>some c
 | none=>match dZ A fr,dZ A tn with
  | some i,some j=>if gG (iG A i (-am)) i&&gG (iG A j am) j then (match A[i]? with
   | some x=>if mh x (bf x.name H) am then none else some 7
   | none=>none) else some 8
  | _,_=>none
def ig(A:List bF)(H:List bP)(fr tn:ByteArray)(am:Int):List bF:=match postC A H fr tn am,dZ A fr,dZ A tn with
 | none,some i,some j=>iV A i j am
 | _,_,_=>A
theorem rq{A:List bF}{H:List bP}{fr tn:ByteArray}{am:Int}{i j:Nat}(hp:gp A fr tn=none)(hi:dZ A fr=some i)(hj:dZ A tn=some j)(hil:i<A.length)(hjl:j<A.length) :
  postC A H fr tn am=if eu (-1000000000000) 1000000000000 (A[i].aS+-am)&&eu (-1000000000000) 1000000000000 (A[j].aS+am) then (if mh A[i] (bf A[i].name H) am then none else some 7) else some 8:=by
 simp[postC,hp,hi,hj,gG,kI hil,kI hjl,hil,hjl,gV]
theorem EA(q m:Nat)(ps:List Nat)(hv sv:Value)(L:bM)(fr tn:ByteArray)(am:Int)(t:TypeId)(v:Value)(w:World)(hps:ps.length=L.aI.length)(s1:fr.size<=maxLen)(s2:tn.size<=maxLen)(hne:fr≠tn)(hH:jq L.az)(hA:∀x∈L.aI,xc x)(ham:0<=am/\am<=1000000000000)(hhw:∀y∈L.az,Bt y)(hsw:∀y∈L.aH,Qp y)(h:Star (fU q m ps hv sv L.aI L.az L.aH).flatten w)(hg:w.cell? ⟨5,0,none⟩=some (.iface t v)) :
  Calls prog 165 #[ai (some ⟨q,0,none⟩),ag fr,ag tn,ae au am] w fun e w'=>jw (postC L.aI L.az fr tn am) (.iface t v) (ic (fU q m ps hv sv L.aI L.az L.aH).flatten) (fU q m ps hv sv (ig L.aI L.az fr tn am) L.az L.aH).flatten w e w':=by
 obtain⟨FF,hFF⟩:∃FF,FF=ic (fU q m ps hv sv L.aI L.az L.aH).flatten:=⟨_,rfl⟩;obtain⟨ha,ch,sa,cs,rfl,rfl,hbk⟩:=h.bk hps;have HP:Hid (Pool FF w [[blk q [.map (some m),af ha L.az.length ch,af sa L.aH.length cs]],[fE m (L.aI.map bF.name) ps],dV ps L.aI,[row 109 4 (af ha L.az.length ch) L.az.length (L.az.flatMap aG)],[row 112 2 (af sa L.aH.length cs) L.aH.length (L.aH.flatMap aM)],[]] w):=hide (by
  rw[hFF];exact(Pool.of h).cast (by simp[fU]))
 have HG:=hide hg;have HK:=hide hbk;have HPS:=hide hps;have HH:=hide hH;have HX:=hide hA;have HW:=hide hhw;have HV:=hide hsw;have hE:=dO hg;rw[<-hFF];clear h hg hFF hps hbk hH hA hhw hsw;go_enter func165,ntmps165;go_wp2_with fail;refine(I5 fr tn t v _ s1 s2 HK.out HG.out).mono ?_;intro e w1 hpe
 cases hpc:gp L.aI fr tn with
 | some code =>
  unfold vU at hpe;rw[hpc] at hpe;obtain⟨n,rfl,hp1⟩:=hpe;have HC:Hid (postC L.aI L.az fr tn am=some code):=hide (by simp[postC,hpc]);have HP1:=hide (HP.new (i:=5) rfl hp1.below (hp1.get (i:=0) rfl) (fun b hb=>(hp1.hi b (by simpa using hb)).resolve_left (by simp)));clear hpc hp1 HP;go_wp2_with fail;go_ret;have hl:ig L.aI L.az fr tn am=L.aI:=by simp[ig,HC.out]
  unfold jw;rw[HC.out,hl];exact⟨n,rfl,HP1.cast (by simp[fU])⟩
 | none =>
  unfold vU at hpe;rw[hpc] at hpe;obtain⟨i,j,hi,hj,hb1,rfl⟩:=hpe;have HI:=hide hi;have HJ:=hide hj;have HPC:=hide hpc;obtain⟨hil,eni,_⟩:=fq hi;obtain⟨hjl,enj,_⟩:=fq hj;have HEN:=hide (And.intro eni enj);have HP1:=hide (HP.keep hb1);have HK1:=hide (HK.below hb1);have HG1:=hide ((hb1.cell (p:=⟨5,0,none⟩) hE).trans HG.out);clear hi hj hpc hb1 HP HK HG eni enj;obtain⟨p,hpe⟩:∃p,p=ps.getD i 0:=⟨_,rfl⟩;obtain⟨r,hre⟩:∃r,r=ps.getD j 0:=⟨_,rfl⟩;have bi:=HK1.aI i hil;have bj:=HK1.aI j hjl;rw[<-hpe] at bi⊢;rw[<-hre] at bj⊢;have i0:=bi.lt;have j0:=bj.lt;have i3:w1.cell? ⟨p,3,none⟩=some (ae au L.aI[i].aS):=bi.c 3 _ rfl;have j3:w1.cell? ⟨r,3,none⟩=some (ae au L.aI[j].aS):=bj.c 3 _ rfl;have HPE:=hide hpe;have HRE:=hide hre;have HBI:=hide bi;have HBJ:=hide bj;clear hpe hre bi bj;obtain⟨⟨x1,x2⟩,x3,x4⟩:=HX.out _ (List.getElem_mem hil);obtain⟨⟨y1,y2⟩,y3,y4⟩:=HX.out _ (List.getElem_mem hjl);obtain⟨a1,a2⟩:=ham;have wr1:IntKind.i64.wrap (L.aI[i].aS-am)=L.aI[i].aS-am:=iP (by omega);have wr2:IntKind.i64.wrap (L.aI[j].aS+am)=L.aI[j].aS+am:=iP (by omega);have HPB:=hide (HK1.book HW.out HV.out);by_cases g1:L.aI[i].aS-am < -1000000000000
  ·have g1':decide (L.aI[i].aS-am < -1000000000000)=true:=by simpa using g1
   have HC:Hid (postC L.aI L.az fr tn am=some 8):=hide (by
    rw[rq HPC.out HI.out HJ.out hil hjl,if_neg];simp only[eu,Bool.and_eq_true,decide_eq_true_eq];omega)
   go_wp2_with fail;refine(iM _ t v _ HG1.out).mono ?_;rintro e w2⟨rfl,rfl⟩;go_wp2_with fail;go_ret;have hl:ig L.aI L.az fr tn am=L.aI:=by simp[ig,HC.out]
   unfold jw;rw[HC.out,hl];exact⟨_,rfl,(HP1.aY (i:=5) rfl [ae au 8,.iface t v] 233).cast (by simp[fU])⟩
  ·have g1':decide (L.aI[i].aS-am < -1000000000000)=false:=by simpa using g1
   by_cases g2:1000000000000<L.aI[j].aS+am
   ·have g2':decide (L.aI[j].aS+am>1000000000000)=true:=by simpa using g2
    have HC:Hid (postC L.aI L.az fr tn am=some 8):=hide (by
     rw[rq HPC.out HI.out HJ.out hil hjl,if_neg];simp only[eu,Bool.and_eq_true,decide_eq_true_eq];omega)
    go_wp2_with fail;refine(iM _ t v _ HG1.out).mono ?_;rintro e w2⟨rfl,rfl⟩;go_wp2_with fail;go_ret;have hl:ig L.aI L.az fr tn am=L.aI:=by simp[ig,HC.out]
    unfold jw;rw[HC.out,hl];exact⟨_,rfl,(HP1.aY (i:=5) rfl [ae au 8,.iface t v] 233).cast (by simp[fU])⟩
   ·have g2':decide (L.aI[j].aS+am>1000000000000)=false:=by simpa using g2
    have HCC:=hide (rq (H:=L.az) (am:=am) HPC.out HI.out HJ.out hil hjl);have HRG:Hid ((eu (-1000000000000) 1000000000000 (L.aI[i].aS+-am)&&eu (-1000000000000) 1000000000000 (L.aI[j].aS+am))=true):=hide (by
     simp only[eu,Bool.and_eq_true,decide_eq_true_eq];omega)
    go_wp2_with fail;refine(lK q p L L.aI[i] am _ HH.out (HX.out _ (List.getElem_mem hil)) ⟨a1,a2⟩ HPB.out ⟨HBI.lt,HBI.c 0 _ rfl,HBI.c 1 _ rfl,HBI.c 2 _ rfl,HBI.c 3 _ rfl⟩).mono ?_;rintro e w2⟨rfl,hb2⟩;have HP2:=hide (HP1.keep hb2);have HG2:=hide ((hb2.cell (p:=⟨5,0,none⟩) (dO HG1.out)).trans HG1.out);have i3':w2.cell? ⟨p,3,none⟩=some (ae au L.aI[i].aS):=(hb2.cell (p:=⟨p,3,none⟩) i0).trans i3;have j3':w2.cell? ⟨r,3,none⟩=some (ae au L.aI[j].aS):=(hb2.cell (p:=⟨r,3,none⟩) j0).trans j3;have i0':=Nat.lt_of_lt_of_le i0 hb2.size;have j0':=Nat.lt_of_lt_of_le j0 hb2.size;clear hb2 HP1 HG1 HK1 HBI HBJ HPB i3 j3 i0 j0;cases hcv:mh L.aI[i] (bf L.aI[i].name L.az) am
    ·have HC:Hid (postC L.aI L.az fr tn am=some 7):=hide (by rw[HCC.out,HRG.out,hcv];rfl);clear hcv;go_wp2_with fail;refine(iM _ t v _ HG2.out).mono ?_;rintro e w3⟨rfl,rfl⟩;go_wp2_with fail;go_ret;have hl:ig L.aI L.az fr tn am=L.aI:=by simp[ig,HC.out]
     unfold jw;rw[HC.out,hl];exact⟨_,rfl,(HP2.aY (i:=5) rfl [ae au 7,.iface t v] 233).cast (by simp[fU])⟩
    ·have HC:Hid (postC L.aI L.az fr tn am=none):=hide (by rw[HCC.out,HRG.out,hcv];rfl);clear hcv;have hij:i≠j:=by
      rintro rfl;exact hne (HEN.1.symm.trans HEN.2)
     obtain⟨W3,hW3⟩:∃W3,W3=w2.setCell ⟨p,3,none⟩ (ae au (L.aI[i].aS-am)):=⟨_,rfl⟩;have HP3:Hid (Pool FF w ([[blk q [.map (some m),af ha L.az.length ch,af sa L.aH.length cs]],[fE m (L.aI.map bF.name) ps]]++dV ps (iG L.aI i (-am))::[[row 109 4 (af ha L.az.length ch) L.az.length (L.az.flatMap aG)],[row 112 2 (af sa L.aH.length cs) L.aH.length (L.aH.flatMap aM)],[]]) W3):=hide (by
      have z:=Pool.L8 (S1:=[[blk q [.map (some m),af ha L.az.length ch,af sa L.aH.length cs]],[fE m (L.aI.map bF.name) ps]]) HP2.out i hil HPS.out (-am);rw[<-HPE.out,<-Int.sub_eq_add_neg,<-hW3] at z;exact z)
     have hjl':j<(iG L.aI i (-am)).length:=by rw[iy];exact hjl
     have bi:=Pool.Ov (S1:=[[blk q [.map (some m),af ha L.az.length ch,af sa L.aH.length cs]],[fE m (L.aI.map bF.name) ps]]) HP2.out i hil HPS.out;have bj:=HP3.Ov j hjl' (by rw[iy];exact HPS.out);rw[ug hil hjl hij] at bj;rw[<-HPE.out] at bi;rw[<-HRE.out] at bj;have fi3:=bi.f 3;have fj3:=bj.f 3;have kj3:W3.cell? ⟨r,3,none⟩=some (ae au L.aI[j].aS):=bj.c 3 _ rfl;have kj0:=bj.lt;rw[hW3] at fj3 kj3 kj0;obtain⟨W4,hW4⟩:∃W4,W4=(w2.setCell ⟨p,3,none⟩ (ae au (L.aI[i].aS-am))).setCell ⟨r,3,none⟩ (ae au (L.aI[j].aS+am)):=⟨_,rfl⟩;have HP4:Hid (Pool FF w ([[blk q [.map (some m),af ha L.az.length ch,af sa L.aH.length cs]],[fE m (L.aI.map bF.name) ps]]++dV ps (iV L.aI i j am)::[[row 109 4 (af ha L.az.length ch) L.az.length (L.az.flatMap aG)],[row 112 2 (af sa L.aH.length cs) L.aH.length (L.aH.flatMap aM)],[]]) W4):=hide (by
      have z:=HP3.L8 j hjl' (by rw[iy];exact HPS.out) am;rw[ug hil hjl hij,<-HRE.out,hW3,<-hW4] at z;exact z)
     have HW4:Hid (W4=_):=hide hW4;clear hW3 hW4 HP3 bi bj HP2 j3';go_wp2_with fail;go_ret;rw[<-HW4.out];have hl:ig L.aI L.az fr tn am=iV L.aI i j am:=by simp[ig,HC.out,HI.out,HJ.out]
     unfold jw;rw[HC.out,hl];refine⟨rfl,HP4.cast ?_⟩;have en:(iV L.aI i j am).map bF.name=L.aI.map bF.name:=by unfold iV;rw[jB,jB]
     simp[fU,en]
theorem Mt{A:List bF}{i j:Nat}(hi:i<A.length)(hj:j<A.length)(hne:i≠j)(am:Int):(iV A i j am)[i]?=some (gV A[i] (-am)):=by
 have hj':j<(iG A i (-am)).length:=by rw[iy];exact hj
 unfold iV;rw[kI hj',List.getElem?_set_ne (Ne.symm hne),kI hi];simp[hi]
theorem QH{A:List bF}{i j:Nat}(hi:i<A.length)(hj:j<A.length)(hne:i≠j)(am:Int):(iV A i j am)[j]?=some (gV A[j] am):=by
 have hj':j<(iG A i (-am)).length:=by rw[iy];exact hj
 unfold iV;rw[kI hj',List.getElem?_set_self hj',ug hi hj hne]
theorem Io{x:bF}{held am:Int}(hl:-1<=x.bB)(hh:held<=1000000000000)(hr:eu (-1000000000000) 1000000000000 (x.aS+-am)=true):dD (gV x (-am)) held=mh x held am:=by
 rw[Bool.eq_iff_iff];simp only[eu,decide_eq_true_eq] at hr;simp only[dD,mh,gV,eu,Bool.and_eq_true,Bool.or_eq_true,decide_eq_true_eq];constructor
 ·rintro⟨⟨h1,h2⟩,h3|h3⟩
  ·have h3:=of_decide_eq_true h3;exact .inl (by omega)
  ·have h3:=of_decide_eq_true h3;exact .inr (by omega)
 ·rintro(h3|h3)
  ·exact⟨⟨decide_eq_true hr,hh⟩,.inl (decide_eq_true (by omega))⟩
  ·exact⟨⟨decide_eq_true hr,hh⟩,.inr (decide_eq_true (by omega))⟩
theorem Ez{L:bM}{fr tn:ByteArray}{am:Int}{i j:Nat}(hp:gp L.aI fr tn=none)(hi:dZ L.aI fr=some i)(hj:dZ L.aI tn=some j)(hne:fr≠tn)(hlim:∀x∈L.aI,-1<=x.bB)(hheld:∀x∈L.aI,bf x.name L.az<=1000000000000) :
  mY L i j am=(⟨ig L.aI L.az fr tn am,L.az,L.aH⟩,(postC L.aI L.az fr tn am).getD 0):=by
 obtain⟨hil,eni,_⟩:=fq hi;obtain⟨hjl,enj,_⟩:=fq hj;have hij:i≠j:=by
  rintro rfl;exact hne (eni.symm.trans enj)
 have hc:=rq (H:=L.az) (am:=am) hp hi hj hil hjl;have r1:gG (iV L.aI i j am) i=eu (-1000000000000) 1000000000000 (L.aI[i].aS+-am):=by simp[gG,Mt hil hjl hij,gV]
 have r2:gG (iV L.aI i j am) j=eu (-1000000000000) 1000000000000 (L.aI[j].aS+am):=by simp[gG,QH hil hjl hij,gV]
 unfold mY;rw[r1,r2];cases hr:(eu (-1000000000000) 1000000000000 (L.aI[i].aS+-am)&&eu (-1000000000000) 1000000000000 (L.aI[j].aS+am))
 ·rw[hr] at hc;have hc:postC L.aI L.az fr tn am=some 8:=by rw[hc];rfl
  simp[ig,hc]
 ·rw[hr] at hc;rw[Bool.and_eq_true] at hr;have k:iH (iV L.aI i j am) L.az i=mh L.aI[i] (bf L.aI[i].name L.az) am:=by
   have e:iH (iV L.aI i j am) L.az i=dD (gV L.aI[i] (-am)) (bf L.aI[i].name L.az):=by simp[iH,Mt hil hjl hij,gV]
   rw[e,Io (hlim _ (List.getElem_mem hil)) (hheld _ (List.getElem_mem hil)) hr.1]
  rw[k];cases hv:mh L.aI[i] (bf L.aI[i].name L.az) am
  ·have hc:postC L.aI L.az fr tn am=some 7:=by rw[hc,hv];rfl
   simp[ig,hc]
  ·have hc:postC L.aI L.az fr tn am=none:=by rw[hc,hv];rfl
   simp[ig,hc,hi,hj]
theorem nC{X:Type}(p:X->Bool)(l:List X)(x:X):(l.takeWhile p++x::l.dropWhile p).Perm (l++[x]):=by
 have h1:(l.takeWhile p++x::l.dropWhile p).Perm (x::(l.takeWhile p++l.dropWhile p)):=List.perm_middle;rw[List.takeWhile_append_dropWhile] at h1;exact h1.trans (List.perm_append_comm (l₁:=[x]))
theorem Hf{X:Type}(f:X->Int)(l:List X)(x:X)(h:l.Pairwise (fun a b=>f a<f b))(hx:∀y∈l,f y≠f x):(l.takeWhile (fun y=>decide (f y<f x))++x::l.dropWhile (fun y=>decide (f y<f x))).Pairwise (fun a b=>f a<f b):=by
 induction l with
 | nil=>simp
 | cons a l ih =>
  rw[List.pairwise_cons] at h;have hxa:=hx a (by simp);have hxl:∀y∈l,f y≠f x:=fun y hy=>hx y (by simp[hy])
  by_cases ha:f a<f x
  ·rw[List.takeWhile_cons_of_pos (by simpa using ha),List.dropWhile_cons_of_pos (by simpa using ha),List.cons_append,List.pairwise_cons];refine⟨fun b hb=>?_,ih h.2 hxl⟩;have hb:=(nC _ l x).mem_iff.1 hb;rw[List.mem_append,List.mem_singleton] at hb;rcases hb with hb|rfl
   ·exact h.1 b hb
   ·exact ha
  ·rw[List.takeWhile_cons_of_neg (by simpa using ha),List.dropWhile_cons_of_neg (by simpa using ha),List.nil_append,List.pairwise_cons,List.pairwise_cons];refine⟨fun b hb=>?_,h⟩;rw[List.mem_cons] at hb;rcases hb with rfl|hb
   ·omega
   ·have:=h.1 b hb;omega
theorem QF{X:Type}(f:X->Int){l:List X}(h:l.Pairwise (fun a b=>f a<f b)):∀a b,a∈l->b∈l->f a=f b->a=b:=by
 induction l with
 | nil=>intro a b ha;cases ha
 | cons c l ih =>
  rw[List.pairwise_cons] at h;intro a b ha hb e;rw[List.mem_cons] at ha hb;rcases ha with rfl|ha
  ·rcases hb with rfl|hb
   ·rfl
   ·have:=h.1 b hb;omega
  ·rcases hb with rfl|hb
   ·have:=h.1 a ha;omega
   ·exact ih h.2 a b ha hb e
theorem Nh{X:Type}(f:X->Int){l r:List X}{x:X}(h:l.Pairwise (fun a b=>f a<f b))(hx:∀y∈l,f y≠f x)(hp:r.Perm (l++[x]))(hr:r.Pairwise (fun a b=>f a<=f b)) :
  r=l.takeWhile (fun y=>decide (f y<f x))++x::l.dropWhile (fun y=>decide (f y<f x)):=by
 have q:=Hf f l x h hx;have hp2:=hp.trans (nC (fun y=>decide (f y<f x)) l x).symm;refine List.Perm.eq_of_pairwise (le:=fun a b=>f a<=f b) ?_ hr (q.imp (fun h=>Int.le_of_lt h)) hp2;intro a b ha hb h1 h2;exact QF f q a b (hp2.mem_iff.1 ha) hb (Int.le_antisymm h1 h2)
theorem OQ{l r:List Sn}{id code:Int}(h:(l.map Sn.id).Pairwise (· < ·))(hx:∀y∈l,y.id≠id)(hp:r.Perm (l++[⟨id,code⟩]))(hr:r.Pairwise (fun a b=>a.id<=b.id)):r=kG l id code :=
 Nh Sn.id (x:=⟨id,code⟩) (List.pairwise_map.1 h) hx hp hr
theorem Pi{l r:List bP}{x:bP}(h:(l.map bP.id).Pairwise (· < ·))(hx:∀y∈l,y.id≠x.id)(hp:r.Perm (l++[x]))(hr:r.Pairwise (fun a b=>a.id<=b.id)):r=kH l x :=
 Nh bP.id (List.pairwise_map.1 h) hx hp hr
end Go.Proofs.YtdbmmdecclalgaaGreatDoor
