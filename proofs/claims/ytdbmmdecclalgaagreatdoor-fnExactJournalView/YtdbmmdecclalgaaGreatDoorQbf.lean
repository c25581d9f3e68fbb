import Derived.Test.YtdbmmdecclalgaaGreatDoorQbd
import Derived.Test.YtdbmmdecclalgaaGreatDoorQbe
import Derived.Test.YtdbmmdecclalgaaGreatDoorQaq
import Derived.Sort.KeysCollected
namespace Go.Proofs.YtdbmmdecclalgaaGreatDoor
open Go.Value renaming int → ae, slice → af, string → ag, pointer → ai, agg → aj
open Go.IntKind renaming i64 → au
open Go renaming undef → ak
open Go.Proofs.Tryz Go.ChangeShapes Go.WideShapes Go.ChangeAt Go.RowKit Go.Maps Go.Sort
set_option linter.unusedVariables false
set_option maxRecDepth 100000
set_option maxHeartbeats 8000000
def O4(l:List bF):List (List UInt8):=l.map (fun f=>f.name.data.toList)
theorem qp(s:ByteArray):s.toList=s.data.toList:=Lib.toList_data s
theorem Hd{x:World}{m n:Nat}{A B:List bF}{D:DataW Unit}{ps:List Nat}(ho:x.ownsMap prog 9 gq m n D)(hk:Ct D (A.map bF.name) ps)(hB:B.Perm A)(hs:F6 B):(O4 B).Perm (strKeys D):=by
 have honly:∀kl,Maps.has D kl=true->∃f∈B,kl=kn f.name:=fun kl h=>by
  obtain⟨i,hi,e⟩:=hk.only kl h;have hi':i<A.length:=by simpa using hi
  exact⟨A[i],hB.mem_iff.2 (List.getElem_mem hi'),by simpa using e⟩
 have hat:∀f∈B,∃p,∀z,D.atKey (kn f.name) z=pg p:=fun f hf=>by
  obtain⟨i,hi,rfl⟩:=List.mem_iff_getElem.1 (hB.mem_iff.1 hf);exact⟨_,fun z=>by have:=hk.at_ i (by simpa using hi) z;simpa using this⟩
 obtain⟨es,rfl,hp,_⟩:=ho.entries zJ;refine perm_strKeys hp (fun p hp'=>?_) ?_ (fun x=>?_)
 ·have:=honly p.1 (by
   rw[has_eq,List.any_eq_true];exact⟨p,hp',WideAt.sameKey_self (by
    obtain⟨es2,e2,_,h2⟩:=ho.entries zJ;cases e2;exact h2 p hp')⟩)
  obtain⟨f,_,e⟩:=this;exact⟨_,e⟩
 ·unfold O4;refine List.pairwise_map.2 (List.Pairwise.imp (fun{a b} h e=>?_) hs);rw[qp,qp,e] at h;exact List.lt_irrefl _ h
 ·unfold O4;rw[List.mem_map];constructor
  ·rintro⟨f,hf,rfl⟩;obtain⟨p,hp⟩:=hat f hf;exact has_true_of_atKey hp
  ·intro h;obtain⟨f,hf,e⟩:=honly _ h;exact⟨f,hf,by simp only[kn,Lit.string.injEq] at e;exact e.symm⟩
theorem GZ{l:List bF}(hs:F6 l){ss:List (List UInt8)}(h:(O4 l).Perm ss):ss.mergeSort (fun x y=>decide (x<=y))=O4 l:=by
 have tr:∀a b c:List UInt8,leB a b=true->leB b c=true->leB a c=true:=fun a b c h1 h2=>by simp only[leB,decide_eq_true_eq] at *;exact List.le_trans h1 h2
 have tot:∀a b:List UInt8,(leB a b||leB b a)=true:=fun a b=>by simp only[leB,Bool.or_eq_true,decide_eq_true_eq];exact List.le_total a b
 refine List.Perm.eq_of_pairwise (le:=fun a b=>leB a b=true) (fun a b _ _ h1 h2=>?_) (List.pairwise_mergeSort tr tot ss) ?_ ((List.mergeSort_perm ss leB).trans h.symm)
 ·simp only[leB,decide_eq_true_eq] at h1 h2;exact List.le_antisymm h1 h2
 ·unfold O4;refine List.pairwise_map.2 (List.Pairwise.imp (fun{a b} h=>?_) hs);simp only[leB,decide_eq_true_eq];rw[qp,qp] at h;exact List.le_of_lt h
def OD(f:bF):List Value:=[ag f.name]
theorem QN(f:bF):(OD f).length=1:=rfl
theorem O3(l:List bF):(O4 l).map encStr=l.flatMap OD:=by
 induction l with
 | nil=>rfl
 | cons f l ih =>
  have e:encStr f.name.data.toList=ag f.name:=by simp[encStr]
  show encStr f.name.data.toList::(O4 l).map encStr=OD f++l.flatMap OD;rw[ih,e];rfl
theorem MX{x:World}{m:Nat}{ns:List ByteArray}{ps:List Nat}(h:(fE m ns ps).P x){j:Nat}(hj:j<ns.length)(hn:ns[j].size<=maxLen):(Instr.lookup 218 (.map (some m)) (ag ns[j]) false).run prog x=.ok (ai (some ⟨ps.getD j 0,0,none⟩)) x:=by
 obtain⟨D,ho,hi⟩:=h;exact Dc ho hn (hi.at_ j hj)
theorem MF{w:World}{base base':Nat}{T:TypeId}{sz n:Nat}{v:Value}{xs:List Value}(hb:base<=base')(h:w.ownsRow base' T sz v n xs):w.ownsRow base T sz v n xs:=by
 obtain⟨h1,h2|⟨g,c,cur,e,hg,r⟩⟩:=h
 ·exact⟨h1,.inl h2⟩
 ·exact⟨h1,.inr ⟨g,c,cur,e,Nat.le_trans hb hg,r⟩⟩
def Qt(B:List bF)(H:List bP)(S:List Sn)(FF:List Nat)(w:World)(e:Ending)(w':World):Prop:=∃p:LP,e=.returned (eD p ⟨B,H,S⟩)/\jr p ⟨B,H,S⟩/\Pool FF w [bC p ⟨B,H,S⟩] w'
structure Uj(FF:List Nat)(w:World)(q m:Nat)(ps:List Nat)(ha:Option Addr)(ch:Nat)(sa:Option Addr)(cs:Nat)(A:List bF)(H:List bP)(S:List Sn)(l0 l1 l2 l3 l4 l5 l6 l7 l8 l9 l10:Bool)(u3 u6 u7 u8 u9 u10 u11 u12 u13 u14:Value)(x:World):Prop where
 aT:Pool FF w [[blk q [.map (some m),af ha H.length ch,af sa S.length cs]],[fE m (A.map bF.name) ps],dV ps A,[row 109 4 (af ha H.length ch) H.length (H.flatMap aG)],[row 112 2 (af sa S.length cs) S.length (S.flatMap aM)],[blk w.heap.size [af none 0 0,af none 0 0,af none 0 0]],cond l9 [blk (FZ u3) (cond l10 [af none 0 0,af ha H.length ch,af sa S.length cs] [af none 0 0,af none 0 0,af none 0 0])] [],[],[],[]] x
 q3:l9=true->u3=ai (some ⟨FZ u3,0,none⟩)
 d10_9:l10=true->l9=true
 p6:l0=true->u6=ai (some ⟨q,0,none⟩)
 p7:l1=true->u7=ai (some ⟨q,0,none⟩)
 p10:l4=true->u10=ai (some ⟨q,0,none⟩)
 p11:l5=true->u11=ai (some ⟨q,0,none⟩)
 p8:l2=true->u8=ai (some ⟨q,1,none⟩)
 p12:l6=true->u12=ai (some ⟨q,2,none⟩)
 p9:l3=true->u9=(af ha H.length ch)
 p13:l7=true->u13=(af sa S.length cs)
 p14:l8=true->u14=aj #[af none 0 0,(af ha H.length ch),(af sa S.length cs)]
structure Ui(FF:List Nat)(w:World)(q m:Nat)(ps:List Nat)(ha:Option Addr)(ch:Nat)(sa:Option Addr)(cs:Nat)(A B:List bF)(H:List bP)(S:List Sn)(L0:Nat)(a5:Option Addr)(c5 k g2 c2 pj:Nat)(y:bF)(l0 l1 l2 l3 l4 l5 l6 l7 l8 l9 l10 l11 l12 l13:Bool)(u26 u27 u28 u29 u30 u31 u32 u33 u34 u35 u36 u37 u38:Value)(x:World):Prop where
 aT:Pool FF w [[blk q [.map (some m),af ha H.length ch,af sa S.length cs]],[fE m (A.map bF.name) ps],dV ps A,[row 109 4 (af ha H.length ch) H.length (H.flatMap aG)],[row 112 2 (af sa S.length cs) S.length (S.flatMap aM)],[blk w.heap.size [af none 0 0,af none 0 0,af none 0 0]],cond l13 [blk L0 [u37,(af ha H.length ch),(af sa S.length cs)]] [blk L0 [(af a5 k c5),(af ha H.length ch),(af sa S.length cs)]],cond l11 [row 106 4 u37 (k+1) ((B.take k).flatMap aL++aL y)] [row 106 4 (af a5 k c5) k ((B.take k).flatMap aL)],cond l10 [blk (jP (tJ u36)) (aL y)] [],[row 9 1 (af (some ⟨g2,0,none⟩) B.length c2) B.length (B.flatMap OD)]] x
 q36:l10=true->u36=af (some ⟨jP (tJ u36),0,none⟩) 1 1
 d11_10:l11=true->l10=true
 d11_1:l11=true->l1=true
 d13_11:l13=true->l11=true
 d13_1:l13=true->l1=true
 p26:l0=true->u26=ai (some ⟨L0,0,none⟩)
 p38:l12=true->u38=ai (some ⟨L0,0,none⟩)
 p27:l1=true->u27=(af a5 k c5)
 p28:l2=true->u28=ai (some ⟨q,0,none⟩)
 p29:l3=true->u29=ai (some ⟨q,0,none⟩)
 p30:l4=true->u30=ai (some ⟨q,0,none⟩)
 p31:l5=true->u31=.map (some m)
 p32:l6=true->u32=ag y.name
 p33:l7=true->u33=ai (some ⟨pj,0,none⟩)
 p34:l8=true->u34=ai (some ⟨pj,0,none⟩)
 p35:l9=true->u35=aj #[ag y.name,ag y.cur,ae au y.bB,ae au y.aS]
theorem uk(q m:Nat)(ps:List Nat)(hv sv:Value)(A B:List bF)(H:List bP)(S:List Sn)(w:World)(hps:ps.length=A.length)(hB:B.Perm A)(hs:F6 B)(hl:A.length<=1000)(hn:∀y∈A,y.name.size<=maxLen)(h:Star (fU q m ps hv sv A H S).flatten w) :
  Calls prog 136 #[ai (some ⟨q,0,none⟩)] w fun e w'=>Qt B H S (ic (fU q m ps hv sv A H S).flatten) w e w':=by
 obtain⟨FF,hFF⟩:∃FF,FF=ic (fU q m ps hv sv A H S).flatten:=⟨_,rfl⟩;obtain⟨i0,hi0,hz0,hz1,hz2⟩:=info_parts vk;obtain⟨ha,ch,sa,cs,rfl,rfl,hbk⟩:=h.bk hps;obtain⟨W1,hW1⟩:∃W1,W1=w.alloc (.cells #[af none 0 0,af none 0 0,af none 0 0] 31):=⟨_,rfl⟩;have HP:Hid (Pool FF w [[blk q [.map (some m),af ha H.length ch,af sa S.length cs]],[fE m (A.map bF.name) ps],dV ps A,[row 109 4 (af ha H.length ch) H.length (H.flatMap aG)],[row 112 2 (af sa S.length cs) S.length (S.flatMap aM)],[blk w.heap.size [af none 0 0,af none 0 0,af none 0 0]],[],[],[],[]] W1):=hide (by
  rw[hW1];have z:Pool FF w [[blk q [.map (some m),af ha H.length ch,af sa S.length cs]],[fE m (A.map bF.name) ps],dV ps A,[row 109 4 (af ha H.length ch) H.length (H.flatMap aG)],[row 112 2 (af sa S.length cs) S.length (S.flatMap aM)],[],[],[],[],[]] w:=by
   rw[hFF];exact(Pool.of h).cast (by simp[fU])
  exact z.aY (i:=5) rfl [af none 0 0,af none 0 0,af none 0 0] 31)
 have HPS:=hide hps;have HB:=hide hB;have HS:=hide hs;have HN:=hide hn;have HBL:Hid (B.length=A.length):=hide hB.length_eq;have hl2:B.length<=1000:=by rw[hB.length_eq];exact hl
 have HW1:Hid (_=W1):=hide hW1.symm;rw[<-hFF];clear h hFF hps hB hs hn hbk hW1;go_enter func136,ntmps136;go_upto_region 1 with fail
 rw[HW1.out];clear HW1;rename_i K1 hK1;refine dw (by kernel_rfl) (fun L act x=>∃l0 l1 l2 l3 l4 l5 l6 l7 l8 l9 l10:Bool,∃u3 u6 u7 u8 u9 u10 u11 u12 u13 u14:Value,L=#[l0,l1,l2,l3,l4,l5,l6,l7,l8,l9,l10]/\act={tmps:=#[ai (some ⟨q,0,none⟩),ak,ai (some ⟨w.heap.size,0,none⟩),u3,ak,ak,u6,u7,u8,u9,u10,u11,u12,u13,u14,ak,ak,ak,ak,ak,ak,ak,ak,ak,ak,ak,ak,ak,ak,ak,ak,ak,ak,ak,ak,ak,ak,ak,ak,ak,ak],defers:=[]}/\Uj FF w q m ps ha ch sa cs A H S l0 l1 l2 l3 l4 l5 l6 l7 l8 l9 l10 u3 u6 u7 u8 u9 u10 u11 u12 u13 u14 x) ?_ ?_ ?_
 rotate_left 2
 ·exact⟨false,false,false,false,false,false,false,false,false,false,false,ak,ak,ak,ak,ak,ak,ak,ak,ak,ak,rfl,rfl,⟨HP.drew,nofun,nofun,nofun,nofun,nofun,nofun,nofun,nofun,nofun,nofun,nofun⟩⟩
 ·rintro L act x i⟨l0,l1,l2,l3,l4,l5,l6,l7,l8,l9,l10,u3,u6,u7,u8,u9,u10,u11,u12,u13,u14,rfl,rfl,h⟩ hi K hK;have hi15:i<11:=gz hi;have hl:=(mem_ready.1 hi).1;obtain rfl|rfl|rfl|rfl|rfl|rfl|rfl|rfl|rfl|rfl|rfl:=(by omega:i=0\/i=1\/i=2\/i=3\/i=4\/i=5\/i=6\/i=7\/i=8\/i=9\/i=10)
  ·obtain rfl:l0=false:=hl;refine aK (v:=ai (some ⟨q,0,none⟩)) (w':=x) ?_ (hK _ _ ⟨_,_,_,_,_,_,_,_,_,_,_,_,_,_,_,_,_,_,_,_,_,rfl,rfl,{h with p6:=fun _=>rfl}⟩);go_simp
  ·obtain rfl:l1=false:=hl;obtain rfl:l0=true:=aC hi 0;refine aK (v:=ai (some ⟨q,0,none⟩)) (w':=x) ?_ (hK _ _ ⟨_,_,_,_,_,_,_,_,_,_,_,_,_,_,_,_,_,_,_,_,_,rfl,rfl,{h with p7:=fun _=>rfl}⟩);rw[h.p6 rfl];go_simp
  ·obtain rfl:l2=false:=hl;obtain rfl:l1=true:=aC hi 1;refine aK (v:=ai (some ⟨q,1,none⟩)) (w':=x) ?_ (hK _ _ ⟨_,_,_,_,_,_,_,_,_,_,_,_,_,_,_,_,_,_,_,_,_,rfl,rfl,{h with p8:=fun _=>rfl}⟩);rw[h.p7 rfl];go_simp
  ·obtain rfl:l3=false:=hl;obtain rfl:l2=true:=aC hi 2;have c0:x.cell? ⟨q,1,none⟩=some (af ha H.length ch):=(h.aT.aB (i:=0) rfl).c 1 _ rfl;refine aK (v:=(af ha H.length ch)) (w':=x) ?_ (hK _ _ ⟨_,_,_,_,_,_,_,_,_,_,_,_,_,_,_,_,_,_,_,_,_,rfl,rfl,{h with p9:=fun _=>rfl}⟩);rw[h.p8 rfl];go_simp
  ·obtain rfl:l4=false:=hl;refine aK (v:=ai (some ⟨q,0,none⟩)) (w':=x) ?_ (hK _ _ ⟨_,_,_,_,_,_,_,_,_,_,_,_,_,_,_,_,_,_,_,_,_,rfl,rfl,{h with p10:=fun _=>rfl}⟩);go_simp
  ·obtain rfl:l5=false:=hl;obtain rfl:l4=true:=aC hi 4;refine aK (v:=ai (some ⟨q,0,none⟩)) (w':=x) ?_ (hK _ _ ⟨_,_,_,_,_,_,_,_,_,_,_,_,_,_,_,_,_,_,_,_,_,rfl,rfl,{h with p11:=fun _=>rfl}⟩);rw[h.p10 rfl];go_simp
  ·obtain rfl:l6=false:=hl;obtain rfl:l5=true:=aC hi 5;refine aK (v:=ai (some ⟨q,2,none⟩)) (w':=x) ?_ (hK _ _ ⟨_,_,_,_,_,_,_,_,_,_,_,_,_,_,_,_,_,_,_,_,_,rfl,rfl,{h with p12:=fun _=>rfl}⟩);rw[h.p11 rfl];go_simp
  ·obtain rfl:l7=false:=hl;obtain rfl:l6=true:=aC hi 6;have c0:x.cell? ⟨q,2,none⟩=some (af sa S.length cs):=(h.aT.aB (i:=0) rfl).c 2 _ rfl;refine aK (v:=(af sa S.length cs)) (w':=x) ?_ (hK _ _ ⟨_,_,_,_,_,_,_,_,_,_,_,_,_,_,_,_,_,_,_,_,_,rfl,rfl,{h with p13:=fun _=>rfl}⟩);rw[h.p12 rfl];go_simp
  ·obtain rfl:l8=false:=hl;obtain rfl:l3=true:=aC hi 3;obtain rfl:l7=true:=aC hi 7;refine aK (v:=aj #[af none 0 0,(af ha H.length ch),(af sa S.length cs)]) (w':=x) ?_ (hK _ _ ⟨_,_,_,_,_,_,_,_,_,_,_,_,_,_,_,_,_,_,_,_,_,rfl,rfl,{h with p14:=fun _=>rfl}⟩);rw[h.p9 rfl,h.p13 rfl];go_simp
  ·obtain rfl:l9=false:=hl;obtain rfl:l10=false:=nf h.d10_9 rfl;refine aK (v:=ai (some ⟨x.heap.size,0,none⟩)) (w':=x.alloc (.cells #[af none 0 0,af none 0 0,af none 0 0] 31)) ?_ (hK _ _ ⟨_,_,_,_,_,_,_,_,_,_,_,(ai (some ⟨x.heap.size,0,none⟩)),u6,u7,u8,u9,u10,u11,u12,u13,u14,rfl,rfl,{h with q3:=(fun _=>rfl),aT:=(h.aT.aY (i:=6) rfl [af none 0 0,af none 0 0,af none 0 0] 31),d10_9:=fun _=>rfl}⟩);go_simp
  ·obtain rfl:l10=false:=hl;obtain rfl:l0=true:=aC hi 0;obtain rfl:l1=true:=aC hi 1;obtain rfl:l2=true:=aC hi 2;obtain rfl:l3=true:=aC hi 3;obtain rfl:l4=true:=aC hi 4;obtain rfl:l5=true:=aC hi 5;obtain rfl:l6=true:=aC hi 6;obtain rfl:l7=true:=aC hi 7;obtain rfl:l8=true:=aC hi 8;obtain rfl:l9=true:=aC hi 9;have A6:=h.aT.aB (i:=6) rfl;have t0:=A6.c 0 _ rfl;have t1:=A6.c 1 _ rfl;have t2:=A6.c 2 _ rfl;have f0:=A6.f 0;have f1:=A6.f 1;have f2:=A6.f 2;refine eB (w':=((x.setCell ⟨FZ u3,0,none⟩ (af none 0 0)).setCell ⟨FZ u3,1,none⟩ (af ha H.length ch)).setCell ⟨FZ u3,2,none⟩ (af sa S.length cs)) ?_ (hK _ _ ⟨_,_,_,_,_,_,_,_,_,_,_,u3,u6,u7,u8,u9,u10,u11,u12,u13,u14,rfl,rfl,{h with aT:=(((h.aT.aQ (i:=6) rfl 0 (af none 0 0) (by simp)).aQ (i:=6) rfl 1 (af ha H.length ch) (by simp)).aQ (i:=6) rfl 2 (af sa S.length cs) (by simp)),d10_9:=fun _=>rfl}⟩);rw[h.p14 rfl,h.q3 rfl];go_simp;rfl
 ·rintro L act x⟨l0,l1,l2,l3,l4,l5,l6,l7,l8,l9,l10,u3,u6,u7,u8,u9,u10,u11,u12,u13,u14,rfl,rfl,h⟩ hr;have hall:=eZ hr rfl (by decide);have t0:l0=true:=hall 0 (by decide);have t1:l1=true:=hall 1 (by decide);have t2:l2=true:=hall 2 (by decide);have t3:l3=true:=hall 3 (by decide);have t4:l4=true:=hall 4 (by decide);have t5:l5=true:=hall 5 (by decide);have t6:l6=true:=hall 6 (by decide);have t7:l7=true:=hall 7 (by decide);have t8:l8=true:=hall 8 (by decide);have t9:l9=true:=hall 9 (by decide);have t10:l10=true:=hall 10 (by decide);subst t0 t1 t2 t3 t4 t5 t6 t7 t8 t9 t10;clear hall hr;obtain⟨L0,hL⟩:∃L0,L0=FZ u3:=⟨_,rfl⟩;have e3:=h.q3 rfl;have HP2:Hid (Pool FF w [[blk q [.map (some m),af ha H.length ch,af sa S.length cs]],[fE m (A.map bF.name) ps],dV ps A,[row 109 4 (af ha H.length ch) H.length (H.flatMap aG)],[row 112 2 (af sa S.length cs) S.length (S.flatMap aM)],[blk w.heap.size [af none 0 0,af none 0 0,af none 0 0]],[blk L0 [af none 0 0,(af ha H.length ch),(af sa S.length cs)]],[],[],[]] x):=hide (by rw[hL];exact h.aT);rw[<-hL] at e3;subst e3;clear h HP hL;refine hK1 _ _ ?_;clear hK1;obtain⟨DM,hown,hks⟩:=(HP2.get (i:=1) rfl).get (r:=fE m (A.map bF.name) ps) (by simp);have HKP:=hide (Hd hown hks HB.out HS.out);have hsz:Maps.size DM=A.length:=by have:=hks.size;simpa using this
  have HKM:Hid (Calls prog 175 #[.map (some m)] x fun e w'=>e=.returned (.func (.func 217) #[] #[ai (some ⟨x.heap.size,0,none⟩)])/\w'=x.alloc (.cells #[.map (some m)] 218)):=hide (callsIn_wide.1 (Bb (some m) x));have HSO:=hide (callsIn_wide.1 (nX m _ DM gq x hown (by rw[hsz];unfold maxLen;omega) (by rw[hsz];omega)));clear hown hks hsz;have d0:=(HP2.aB (i:=0) rfl).c 0 _ rfl;have dl:=(HP2.aB (i:=0) rfl).lt;go_wp2_with fail;refine HKM.mono ?_;rintro e w1⟨rfl,hw1⟩;have hw1':=hw1.symm;subst hw1';clear hw1;go_wp2_with fail;refine HSO.mono ?_;rintro e w2⟨v2,ss,rfl,hperm,hrow2,_,hb2⟩;have hml:=GZ HS.out (HKP.trans hperm.symm);have hsl:ss.length=B.length:=by rw[hperm.length_eq,<-HKP.length_eq];simp[O4]
  rw[hml,O3,hsl] at hrow2;obtain⟨a2,c2,rfl⟩:=bv hrow2;have HB2:Hid (Below x.heap.size x w2):=hide (aJ (aF (Below.refl _ _) _) hb2);have HP3:Hid (Pool FF w [[blk q [.map (some m),af ha H.length ch,af sa S.length cs]],[fE m (A.map bF.name) ps],dV ps A,[row 109 4 (af ha H.length ch) H.length (H.flatMap aG)],[row 112 2 (af sa S.length cs) S.length (S.flatMap aM)],[blk w.heap.size [af none 0 0,af none 0 0,af none 0 0]],[blk L0 [af none 0 0,(af ha H.length ch),(af sa S.length cs)]],[row 106 4 (af none 0 0) 0 []],[],[row 9 1 (af a2 B.length c2) B.length (B.flatMap OD)]] w2):=hide (by
   have z2:=HP2.CY (i:=9) rfl HB2.out (MF (by simp) hrow2);exact(z2.rA (i:=7) rfl 106 4))
  clear hperm hrow2 hb2 hml hsl HP2 HKP HKM HSO HB2 d0 dl;obtain⟨NX,hNX⟩:∃NX,NX=x.heap.size:=⟨_,rfl⟩;rw[<-hNX];clear hNX;go_wp2_with fail;go_loopw [22] (fun i wr=>∃(k:Nat)(a5:Option Addr)(c5:Nat),k<=B.length/\i=ae au (k:Int)/\Hid (Pool FF w [[blk q [.map (some m),af ha H.length ch,af sa S.length cs]],[fE m (A.map bF.name) ps],dV ps A,[row 109 4 (af ha H.length ch) H.length (H.flatMap aG)],[row 112 2 (af sa S.length cs) S.length (S.flatMap aM)],[blk w.heap.size [af none 0 0,af none 0 0,af none 0 0]],[blk L0 [af a5 k c5,(af ha H.length ch),(af sa S.length cs)]],[row 106 4 (af a5 k c5) k ((B.take k).flatMap aL)],[],[row 9 1 (af a2 B.length c2) B.length (B.flatMap OD)]] wr)) (fun i wr=>B.length-(intOf i).toNat)
  case atStart=>exact⟨0,none,0,Nat.zero_le _,rfl,HP3⟩
  case round =>
   obtain⟨k,a5,c5,hk,rfl,HPr⟩:=hrel;clear HP3;by_cases hlt:k<B.length
   ·have hlt':(k:Int)<(B.length:Int):=by omega
    have hrw:=HPr.rowAt (i:=9) rfl;obtain⟨g2,e2⟩:=zh hrw (by omega);subst e2;have hnc:wr.cell? ⟨g2,k,none⟩=some (ag (B[k]).name):=by
     have:=hrw.cells (g:=g2) rfl k (ag (B[k]).name) (by have:=flat_get OD 1 QN B k hlt 0 (by decide);simpa[OD] using this);simpa[addr_add] using this
    have hg2:=(hrw.lt g2 rfl).2;clear hrw;obtain⟨j,hj,hjk⟩:=List.mem_iff_getElem.1 (HB.mem_iff.1 (List.getElem_mem hlt));obtain⟨y,hy⟩:∃y,y=B[k]:=⟨_,rfl⟩;have HYN:Hid (B.take (k+1)=B.take k++[y]):=hide (by rw[hy];exact dX B k hlt);rw[<-hy] at hnc hjk;have HJK:=hide hjk;have HYS:Hid (y.name.size<=maxLen):=hide (by rw[<-hjk];exact HN.out _ (List.getElem_mem hj));clear hy hjk;obtain⟨pj,hpj⟩:∃pj,pj=ps.getD j 0:=⟨_,rfl⟩;have HPJ:=hide hpj;clear hpj;go_upto_region 5 with fail
    rename_i K5 hK5;clear hnc hg2;refine dw (by kernel_rfl) (fun L act x=>∃l0 l1 l2 l3 l4 l5 l6 l7 l8 l9 l10 l11 l12 l13:Bool,∃u26 u27 u28 u29 u30 u31 u32 u33 u34 u35 u36 u37 u38:Value,L=#[l0,l1,l2,l3,l4,l5,l6,l7,l8,l9,l10,l11,l12,l13]/\act={tmps:=#[ai (some ⟨q,0,none⟩),ak,ai (some ⟨w.heap.size,0,none⟩),ai (some ⟨L0,0,none⟩),ak,ag y.name,u6,u7,u8,u9,u10,u11,u12,u13,u14,ai (some ⟨q,0,none⟩),ai (some ⟨q,0,none⟩),ai (some ⟨q,0,none⟩),Value.map (some m),Value.func (Fn.func 217) #[] #[ai (some ⟨NX,0,none⟩)],af (some ⟨g2,0,none⟩) B.length c2,ae au ↑B.length,ae au ↑k,Value.bool true,ai (some ⟨g2,k,none⟩),ag y.name,u26,u27,u28,u29,u30,u31,u32,u33,u34,u35,u36,u37,u38,u39,ak],defers:=[]}/\Ui FF w q m ps ha ch sa cs A B H S L0 a5 c5 k g2 c2 pj y l0 l1 l2 l3 l4 l5 l6 l7 l8 l9 l10 l11 l12 l13 u26 u27 u28 u29 u30 u31 u32 u33 u34 u35 u36 u37 u38 x) ?_ ?_ ?_
    rotate_left 2
    ·exact⟨false,false,false,false,false,false,false,false,false,false,false,false,false,false,(u26),(u27),(u28),(u29),(u30),(u31),(u32),(u33),(u34),(u35),(u36),(u37),(u38),rfl,rfl,⟨HPr.drew,nofun,nofun,nofun,nofun,nofun,nofun,nofun,nofun,nofun,nofun,nofun,nofun,nofun,nofun,nofun,nofun⟩⟩
    ·rintro L act x i⟨l0,l1,l2,l3,l4,l5,l6,l7,l8,l9,l10,l11,l12,l13,u26,u27,u28,u29,u30,u31,u32,u33,u34,u35,u36,u37,u38,rfl,rfl,h⟩ hi K hK;have hi15:i<14:=gz hi;have hl:=(mem_ready.1 hi).1;obtain rfl|rfl|rfl|rfl|rfl|rfl|rfl|rfl|rfl|rfl|rfl|rfl|rfl|rfl:=(by omega:i=0\/i=1\/i=2\/i=3\/i=4\/i=5\/i=6\/i=7\/i=8\/i=9\/i=10\/i=11\/i=12\/i=13)
     ·obtain rfl:l0=false:=hl;refine aK (v:=ai (some ⟨L0,0,none⟩)) (w':=x) ?_ (hK _ _ ⟨_,_,_,_,_,_,_,_,_,_,_,_,_,_,_,_,_,_,_,_,_,_,_,_,_,_,_,rfl,rfl,{h with p26:=fun _=>rfl}⟩);go_simp
     ·obtain rfl:l1=false:=hl;obtain rfl:l0=true:=aC hi 0;obtain rfl:l13=false:=nf h.d13_1 rfl;have c0:x.cell? ⟨L0,0,none⟩=some (af a5 k c5):=(h.aT.aB (i:=6) rfl).c 0 _ rfl;refine aK (v:=(af a5 k c5)) (w':=x) ?_ (hK _ _ ⟨_,_,_,_,_,_,_,_,_,_,_,_,_,_,_,_,_,_,_,_,_,_,_,_,_,_,_,rfl,rfl,{h with p27:=(fun _=>rfl),d11_1:=fun _=>rfl,d13_1:=fun _=>rfl}⟩);rw[h.p26 rfl];go_simp
     ·obtain rfl:l2=false:=hl;refine aK (v:=ai (some ⟨q,0,none⟩)) (w':=x) ?_ (hK _ _ ⟨_,_,_,_,_,_,_,_,_,_,_,_,_,_,_,_,_,_,_,_,_,_,_,_,_,_,_,rfl,rfl,{h with p28:=fun _=>rfl}⟩);go_simp
     ·obtain rfl:l3=false:=hl;obtain rfl:l2=true:=aC hi 2;refine aK (v:=ai (some ⟨q,0,none⟩)) (w':=x) ?_ (hK _ _ ⟨_,_,_,_,_,_,_,_,_,_,_,_,_,_,_,_,_,_,_,_,_,_,_,_,_,_,_,rfl,rfl,{h with p29:=fun _=>rfl}⟩);rw[h.p28 rfl];go_simp
     ·obtain rfl:l4=false:=hl;obtain rfl:l3=true:=aC hi 3;refine aK (v:=ai (some ⟨q,0,none⟩)) (w':=x) ?_ (hK _ _ ⟨_,_,_,_,_,_,_,_,_,_,_,_,_,_,_,_,_,_,_,_,_,_,_,_,_,_,_,rfl,rfl,{h with p30:=fun _=>rfl}⟩);rw[h.p29 rfl];go_simp
     ·obtain rfl:l5=false:=hl;obtain rfl:l4=true:=aC hi 4;have c0:x.cell? ⟨q,0,none⟩=some (.map (some m)):=(h.aT.aB (i:=0) rfl).c 0 _ rfl;refine aK (v:=.map (some m)) (w':=x) ?_ (hK _ _ ⟨_,_,_,_,_,_,_,_,_,_,_,_,_,_,_,_,_,_,_,_,_,_,_,_,_,_,_,rfl,rfl,{h with p31:=fun _=>rfl}⟩);rw[h.p30 rfl];go_simp
     ·obtain rfl:l6=false:=hl;refine aK (v:=ag y.name) (w':=x) ?_ (hK _ _ ⟨_,_,_,_,_,_,_,_,_,_,_,_,_,_,_,_,_,_,_,_,_,_,_,_,_,_,_,rfl,rfl,{h with p32:=fun _=>rfl}⟩);go_simp
     ·obtain rfl:l7=false:=hl;obtain rfl:l5=true:=aC hi 5;obtain rfl:l6=true:=aC hi 6;have hlk:(Instr.lookup 218 (.map (some m)) (ag y.name) false).run prog x=.ok (ai (some ⟨pj,0,none⟩)) x:=by
       have z:=MX ((h.aT.get (i:=1) rfl).get (r:=fE m (A.map bF.name) ps) (by simp)) (j:=j) (by simpa using hj) (by simp only[List.getElem_map,HJK.out];exact HYS.out);simp only[List.getElem_map,HJK.out,<-HPJ.out] at z;exact z
      refine aK (v:=ai (some ⟨pj,0,none⟩)) (w':=x) ?_ (hK _ _ ⟨_,_,_,_,_,_,_,_,_,_,_,_,_,_,_,_,_,_,_,_,_,_,_,_,_,_,_,rfl,rfl,{h with p33:=fun _=>rfl}⟩);rw[h.p31 rfl,h.p32 rfl];go_simp
     ·obtain rfl:l8=false:=hl;obtain rfl:l7=true:=aC hi 7;refine aK (v:=ai (some ⟨pj,0,none⟩)) (w':=x) ?_ (hK _ _ ⟨_,_,_,_,_,_,_,_,_,_,_,_,_,_,_,_,_,_,_,_,_,_,_,_,_,_,_,rfl,rfl,{h with p34:=fun _=>rfl}⟩);rw[h.p33 rfl];go_simp
     ·obtain rfl:l9=false:=hl;obtain rfl:l8=true:=aC hi 8;have zb:jb pj (aL y) x:=by
       have z:=Pool.Ov (S1:=[_,_]) h.aT j hj HPS.out;rw[HJK.out,<-HPJ.out] at z;exact z
      have c0:=zb.c 0 _ rfl;have c1:=zb.c 1 _ rfl;have c2:=zb.c 2 _ rfl;have c3:=zb.c 3 _ rfl;refine aK (v:=aj #[ag y.name,ag y.cur,ae au y.bB,ae au y.aS]) (w':=x) ?_ (hK _ _ ⟨_,_,_,_,_,_,_,_,_,_,_,_,_,_,_,_,_,_,_,_,_,_,_,_,_,_,_,rfl,rfl,{h with p35:=fun _=>rfl}⟩);rw[h.p34 rfl];go_simp
     ·obtain rfl:l10=false:=hl;obtain rfl:l9=true:=aC hi 9;obtain rfl:l11=false:=nf h.d11_10 rfl;refine aK (v:=af (some ⟨x.heap.size,0,none⟩) 1 1) (w':=x.alloc (.cells #[ag y.name,ag y.cur,ae au y.bB,ae au y.aS] 106)) ?_ (hK _ _ ⟨_,_,_,_,_,_,_,_,_,_,_,_,_,_,u26,u27,u28,u29,u30,u31,u32,u33,u34,u35,(af (some ⟨x.heap.size,0,none⟩) 1 1),u37,u38,rfl,rfl,{h with q36:=(fun _=>rfl),aT:=(h.aT.aY (i:=8) rfl (aL y) 106),d11_10:=fun _=>rfl}⟩);rw[h.p35 rfl];go_simp
     ·obtain rfl:l11=false:=hl;obtain rfl:l1=true:=aC hi 1;obtain rfl:l10=true:=aC hi 10;obtain rfl:l13=false:=nf h.d13_11 rfl;obtain⟨v',z,hr,hp⟩:=h.aT.append (P:=prog) (i0:=7) rfl 27 27 i0 _ 48 underlying27 hi0 hz0 hz1 hz2 rfl (by decide) (some ⟨jP (tJ u36),0,none⟩) 1 1 (aL y) rfl (fun e=>by cases e) (gJ (h.aT.aB (i:=8) rfl)) (pU y) (by unfold maxLen;omega) (by omega);refine aK (v:=v') (w':=z) ?_ (hK _ _ ⟨_,_,_,_,_,_,_,_,_,_,_,_,_,_,u26,u27,u28,u29,u30,u31,u32,u33,u34,u35,u36,(v'),u38,rfl,rfl,{h with aT:=(hp),d11_10:=fun _=>rfl,d11_1:=fun _=>rfl,d13_11:=fun _=>rfl}⟩);exact eQ rfl (h.p27 rfl) (h.q36 rfl) hr
     ·obtain rfl:l12=false:=hl;obtain rfl:l0=true:=aC hi 0;obtain rfl:l1=true:=aC hi 1;obtain rfl:l2=true:=aC hi 2;obtain rfl:l3=true:=aC hi 3;obtain rfl:l4=true:=aC hi 4;obtain rfl:l5=true:=aC hi 5;obtain rfl:l6=true:=aC hi 6;obtain rfl:l7=true:=aC hi 7;obtain rfl:l8=true:=aC hi 8;obtain rfl:l9=true:=aC hi 9;obtain rfl:l10=true:=aC hi 10;obtain rfl:l11=true:=aC hi 11;refine aK (v:=ai (some ⟨L0,0,none⟩)) (w':=x) ?_ (hK _ _ ⟨_,_,_,_,_,_,_,_,_,_,_,_,_,_,_,_,_,_,_,_,_,_,_,_,_,_,_,rfl,rfl,{h with p38:=fun _=>rfl}⟩);go_simp
     ·obtain rfl:l13=false:=hl;obtain rfl:l0=true:=aC hi 0;obtain rfl:l1=true:=aC hi 1;obtain rfl:l2=true:=aC hi 2;obtain rfl:l3=true:=aC hi 3;obtain rfl:l4=true:=aC hi 4;obtain rfl:l5=true:=aC hi 5;obtain rfl:l6=true:=aC hi 6;obtain rfl:l7=true:=aC hi 7;obtain rfl:l8=true:=aC hi 8;obtain rfl:l9=true:=aC hi 9;obtain rfl:l10=true:=aC hi 10;obtain rfl:l11=true:=aC hi 11;obtain rfl:l12=true:=aC hi 12;obtain⟨a6,k6,e6⟩:=bv (h.aT.rowAt (i:=7) rfl);have A6:=h.aT.aB (i:=6) rfl;have t1:=A6.c 0 _ rfl;have f1:=A6.f 0;refine eB (w':=x.setCell ⟨L0,0,none⟩ u37) ?_ (hK _ _ ⟨_,_,_,_,_,_,_,_,_,_,_,_,_,_,u26,u27,u28,u29,u30,u31,u32,u33,u34,u35,u36,u37,u38,rfl,rfl,{h with aT:=(h.aT.aQ (i:=6) rfl 0 u37 (by simp)),d13_11:=fun _=>rfl,d13_1:=fun _=>rfl}⟩);rw[h.p38 rfl,e6];go_simp
    ·rintro L act x⟨l0,l1,l2,l3,l4,l5,l6,l7,l8,l9,l10,l11,l12,l13,u26,u27,u28,u29,u30,u31,u32,u33,u34,u35,u36,u37,u38,rfl,rfl,h⟩ hr;have hall:=eZ hr rfl (by decide);have t0:l0=true:=hall 0 (by decide);have t1:l1=true:=hall 1 (by decide);have t2:l2=true:=hall 2 (by decide);have t3:l3=true:=hall 3 (by decide);have t4:l4=true:=hall 4 (by decide);have t5:l5=true:=hall 5 (by decide);have t6:l6=true:=hall 6 (by decide);have t7:l7=true:=hall 7 (by decide);have t8:l8=true:=hall 8 (by decide);have t9:l9=true:=hall 9 (by decide);have t10:l10=true:=hall 10 (by decide);have t11:l11=true:=hall 11 (by decide);have t12:l12=true:=hall 12 (by decide);have t13:l13=true:=hall 13 (by decide);subst t0 t1 t2 t3 t4 t5 t6 t7 t8 t9 t10 t11 t12 t13;clear hall hr;obtain⟨a6,k6,e6⟩:=bv (h.aT.rowAt (i:=7) rfl);have HPn:Hid (Pool FF w [[blk q [.map (some m),af ha H.length ch,af sa S.length cs]],[fE m (A.map bF.name) ps],dV ps A,[row 109 4 (af ha H.length ch) H.length (H.flatMap aG)],[row 112 2 (af sa S.length cs) S.length (S.flatMap aM)],[blk w.heap.size [af none 0 0,af none 0 0,af none 0 0]],[blk L0 [af a6 (k+1) k6,(af ha H.length ch),(af sa S.length cs)]],[row 106 4 (af a6 (k+1) k6) (k+1) ((B.take (k+1)).flatMap aL)],[],[row 9 1 (af (some ⟨g2,0,none⟩) B.length c2) B.length (B.flatMap OD)]] x):=hide (by
      have z:=h.aT.drop (i:=8) rfl;rw[e6] at z;have e2:(B.take k).flatMap aL++aL y=(B.take (k+1)).flatMap aL:=by rw[HYN.out];simp
      rw[e2] at z;exact z)
     clear h;refine hK5 _ _ ?_;clear hK5;go_wp2;exact⟨⟨k+1,a6,k6,by omega,by go_num,HPn⟩,by simp[intOf];omega⟩
   ·have hlt':¬ (k:Int)<(B.length:Int):=by omega
    obtain rfl:k=B.length:=by omega
    rw[List.take_length] at HPr;have d0:=(HPr.aB (i:=6) rfl).c 0 _ rfl;have d1:=(HPr.aB (i:=6) rfl).c 1 _ rfl;have d2:=(HPr.aB (i:=6) rfl).c 2 _ rfl;have t0:=(HPr.aB (i:=5) rfl).c 0 _ rfl;have t1:=(HPr.aB (i:=5) rfl).c 1 _ rfl;have t2:=(HPr.aB (i:=5) rfl).c 2 _ rfl;have f0:=(HPr.aB (i:=5) rfl).f 0;have f1:=(HPr.aB (i:=5) rfl).f 1;have f2:=(HPr.aB (i:=5) rfl).f 2;have HPz:=hide (((HPr.aQ (i:=5) rfl 0 (af a5 B.length c5) (by simp)).aQ (i:=5) rfl 1 (af ha H.length ch) (by simp)).aQ (i:=5) rfl 2 (af sa S.length cs) (by simp));have HQ:Hid (Qt B H S FF w (.returned (eD ⟨a5,c5,ha,ch,sa,cs⟩ ⟨B,H,S⟩)) (((wr.setCell ⟨w.heap.size,0,none⟩ (af a5 B.length c5)).setCell ⟨w.heap.size,1,none⟩ (af ha H.length ch)).setCell ⟨w.heap.size,2,none⟩ (af sa S.length cs))):=hide (by
     obtain⟨a7,c7,e7,s7,z7⟩:=Pool.iT mq HPz.out (i:=7) rfl;obtain⟨a8,c8,e8,s8,z8⟩:=Pool.iT gH z7 (i:=3) rfl;obtain⟨a9,c9,e9,s9,z9⟩:=Pool.iT kC z8 (i:=4) rfl;simp only[Value.slice.injEq,true_and] at e7 e8 e9;obtain⟨rfl,rfl⟩:=e7;obtain⟨rfl,rfl⟩:=e8;obtain⟨rfl,rfl⟩:=e9;refine⟨⟨a5,c5,ha,ch,sa,cs⟩,rfl,⟨s7,s8,s9⟩,?_⟩;have y:=(((((z9.drop (i:=0) rfl).drop (i:=1) rfl).drop (i:=2) rfl).drop (i:=5) rfl).drop (i:=6) rfl).drop (i:=9) rfl;exact y.perm (List.perm_append_comm (l₁:=[bA 4 aG ha ch H,bA 2 aM sa cs S]) (l₂:=[bA 4 aL a5 c5 B])))
    obtain⟨e0,e1,e2⟩:=JQ (u0:=af a5 B.length c5) (u1:=(af ha H.length ch)) (u2:=(af sa S.length cs)) t0 t1 t2;go_wp2_with fail;exact bodyPost_ret (v:=aj #[af a5 B.length c5,(af ha H.length ch),(af sa S.length cs)]) (by simp[results,results136,go_sem,e0,e1,e2]) rfl HQ.out
end Go.Proofs.YtdbmmdecclalgaaGreatDoor
