import Derived.Test.YtdbmmdecclalgaaGreatDoorQao
import Derived.Test.YtdbmmdecclalgaaGreatDoorQai
import Derived.Test.YtdbmmdecclalgaaGreatDoorQae
import Derived.Test.YtdbmmdecclalgaaGreatDoorQaf
import Derived.Test.YtdbmmdecclalgaaGreatDoorQaa
import Derived.Test.YtdbmmdecclalgaaGreatDoorRows
import Derived.WalkKit
import Derived.ProofKit
import Derived.OpenShut
import Derived.ShutString
import Derived.WalkSpells
import Derived.WalkLawsBesides
import Derived.Laws.BitsAllLaws
import Derived.Test.YtdbmmdecclalgaaGreatDoorQab
import Derived.Below
import Derived.Laws.BytesArg
import Derived.RegionTactic
import Derived.ChangeAlike
import Derived.Deep.RegionWith
import Derived.Test.YtdbmmdecclalgaaGreatDoorQac
import Derived.Test.YtdbmmdecclalgaaGreatDoorQap
import Derived.Test.YtdbmmdecclalgaaGreatDoorQak
import Derived.Maps.AppendAt
import Derived.Lib.Strings
import Derived.Deep.QuietTactic
import Derived.BigQuiet
import Derived.BigRegion
import Derived.OwnWalk
import Derived.Test.YtdbmmdecclalgaaGreatDoorQaj
namespace Go.Proofs.YtdbmmdecclalgaaGreatDoor
open Go.Value renaming int → ae, slice → af, pointer → ai, string → ag, agg → aj
open Go.IntKind renaming i64 → au
open Go.Proofs.Tryz Go.ChangeShapes Go.WideShapes Go.ChangeAt Go.RowKit Go.Maps
set_option linter.unusedVariables false
set_option maxRecDepth 100000
set_option maxHeartbeats 4000000
def yO:Option Nat->Int
 | none=>-1
 | some k=>k
theorem Fe(a:Option Addr)(l:List Sn)(cap:Nat)(q:Nat)(id:Int)(w:World)(hl:l.length<=1048576)(h:bu 2 aM w a l)(hq:q<w.heap.size)(hc:w.cell? ⟨q,0,none⟩=some (ae au id)) :
  Calls prog 203 #[af a l.length cap,.func (.func 204) #[] #[ai (some ⟨q,0,none⟩)]] w fun e w'=>e=.returned (ae au (yO (fi (l.map Sn.id) id)))/\Below w.heap.size w w':=by
 have HC:=hide h;have HQ:=hide hc;clear h hc;go_enter func203,ntmps203;go_wp2;go_loopw [8] (fun i wr=>∃k:Nat,k<=l.length/\i=ae au (k:Int)/\Below w.heap.size w wr/\Hid (∀j (hj:j<l.length),j<k->l[j].id≠id)) (fun i wr=>l.length-(intOf i).toNat)
 case atStart=>exact⟨0,Nat.zero_le _,rfl,Below.refl _ _,hide (fun j _ hj=>by omega)⟩
 case round =>
  obtain⟨k,hk,rfl,HB,HN⟩:=hrel;by_cases hlt:k<l.length
  ·obtain⟨b,off,rfl,hb,c0,c1⟩:=uf (HC.below HB) k hlt;have hqc:wr.cell? ⟨q,0,none⟩=some (ae au id):=(HB.cell hq).trans HQ.out;have hq2:q<wr.heap.size:=Nat.lt_of_lt_of_le hq HB.size;cases hq:((l[k]).id==id)
   ·have HS:Hid (∀j (hj:j<l.length),j<k+1->l[j].id≠id):=hide (fun j hj hjk=>by
     rcases Nat.lt_or_ge j k with h|h
     ·exact HN.out j hj h
     ·obtain rfl:j=k:=by omega
      simpa using hq)
    go_wp2_with (go_in);exact⟨⟨k+1,by omega,by go_num,aF HB _,HS⟩,by simp[intOf];omega⟩
   ·have HE:Hid (fi (l.map Sn.id) id=some k):=hide (Hz (by simpa using hlt) (by simpa using hq) (fun j hj hjk=>by have:=HN.out j (by simpa using hj) hjk;simpa using this));go_wp2_with (go_in);go_ret;exact⟨by rw[HE.out];rfl,aF HB _⟩
  ·have HE:Hid (fi (l.map Sn.id) id=none):=hide (DF (fun i hi=>by have:=HN.out i (by simpa using hi) (by have:i<l.length:=(by simpa using hi);omega);simpa using this));go_wp2;go_ret;exact⟨by rw[HE.out];rfl,HB⟩
theorem AZ(q:Nat)(a:Option Addr)(l:List Sn)(cap:Nat)(id:Int)(w:World)(hl:l.length<=1048576)(h:bu 2 aM w a l)(hq:q<w.heap.size)(hc:w.cell? ⟨q,2,none⟩=some (af a l.length cap)) :
  Calls prog 162 #[ai (some ⟨q,0,none⟩),ae au id] w fun e w'=>e=.returned (ae au (yO (fi (l.map Sn.id) id)))/\Below w.heap.size w w':=by
 have HC:=hide h;have HQ:=hide hc;clear h hc;have hmf:∀(fn:Fn)(first cap:Array Value)(w:World),(Instr.makeFunc fn first cap).run prog w=.ok (.func fn first cap) w:=fun _ _ _ _=>rfl
 have HB:=hide (aF (Below.refl w.heap.size w) (.cells #[ae au id] 2));have hc1:=(HB.cell (p:=⟨q,2,none⟩) hq).trans HQ.out;have hqn:q≠w.heap.size:=by omega
 go_enter func162,ntmps162;go_wp2_with fail;refine(Fe a l cap w.heap.size id _ hl (HC.below HB.out) (by simp) (by simp)).mono ?_;rintro e w2⟨rfl,hb2⟩;have HB2:=hide (aJ HB.out hb2);clear hb2;go_wp2;go_ret;exact⟨rfl,HB2.out⟩
theorem Dq(a:Option Addr)(l:List bP)(cap:Nat)(q:Nat)(id:Int)(w:World)(hl:l.length<=1048576)(h:bu 4 aG w a l)(hq:q<w.heap.size)(hc:w.cell? ⟨q,0,none⟩=some (ae au id)) :
  Calls prog 235 #[af a l.length cap,.func (.func 236) #[] #[ai (some ⟨q,0,none⟩)]] w fun e w'=>e=.returned (ae au (yO (fi (l.map bP.id) id)))/\Below w.heap.size w w':=by
 have HC:=hide h;have HQ:=hide hc;clear h hc;go_enter func235,ntmps235;go_wp2;go_loopw [8] (fun i wr=>∃k:Nat,k<=l.length/\i=ae au (k:Int)/\Below w.heap.size w wr/\Hid (∀j (hj:j<l.length),j<k->l[j].id≠id)) (fun i wr=>l.length-(intOf i).toNat)
 case atStart=>exact⟨0,Nat.zero_le _,rfl,Below.refl _ _,hide (fun j _ hj=>by omega)⟩
 case round =>
  obtain⟨k,hk,rfl,HB,HN⟩:=hrel;by_cases hlt:k<l.length
  ·obtain⟨b,off,rfl,hb,c0,c1,c2,c3⟩:=oC (HC.below HB) k hlt;have hqc:wr.cell? ⟨q,0,none⟩=some (ae au id):=(HB.cell hq).trans HQ.out;have hq2:q<wr.heap.size:=Nat.lt_of_lt_of_le hq HB.size;cases hq:((l[k]).id==id)
   ·have HS:Hid (∀j (hj:j<l.length),j<k+1->l[j].id≠id):=hide (fun j hj hjk=>by
     rcases Nat.lt_or_ge j k with h|h
     ·exact HN.out j hj h
     ·obtain rfl:j=k:=by omega
      simpa using hq)
    go_wp2_with (go_in);exact⟨⟨k+1,by omega,by go_num,aF HB _,HS⟩,by simp[intOf];omega⟩
   ·have HE:Hid (fi (l.map bP.id) id=some k):=hide (Hz (by simpa using hlt) (by simpa using hq) (fun j hj hjk=>by have:=HN.out j (by simpa using hj) hjk;simpa using this));go_wp2_with (go_in);go_ret;exact⟨by rw[HE.out];rfl,aF HB _⟩
  ·have HE:Hid (fi (l.map bP.id) id=none):=hide (DF (fun i hi=>by have:=HN.out i (by simpa using hi) (by have:i<l.length:=(by simpa using hi);omega);simpa using this));go_wp2;go_ret;exact⟨by rw[HE.out];rfl,HB⟩
theorem oL(q:Nat)(a:Option Addr)(l:List bP)(cap:Nat)(id:Int)(w:World)(hl:l.length<=1048576)(h:bu 4 aG w a l)(hq:q<w.heap.size)(hc:w.cell? ⟨q,1,none⟩=some (af a l.length cap)) :
  Calls prog 205 #[ai (some ⟨q,0,none⟩),ae au id] w fun e w'=>e=.returned (ae au (yO (fi (l.map bP.id) id)))/\Below w.heap.size w w':=by
 have HC:=hide h;have HQ:=hide hc;clear h hc;have hmf:∀(fn:Fn)(first cap:Array Value)(w:World),(Instr.makeFunc fn first cap).run prog w=.ok (.func fn first cap) w:=fun _ _ _ _=>rfl
 have HB:=hide (aF (Below.refl w.heap.size w) (.cells #[ae au id] 2));have hc1:=(HB.cell (p:=⟨q,1,none⟩) hq).trans HQ.out;have hqn:q≠w.heap.size:=by omega
 go_enter func205,ntmps205;go_wp2_with fail;refine(Dq a l cap w.heap.size id _ hl (HC.below HB.out) (by simp) (by simp)).mono ?_;rintro e w2⟨rfl,hb2⟩;have HB2:=hide (aJ HB.out hb2);clear hb2;go_wp2;go_ret;exact⟨rfl,HB2.out⟩
structure xq(x:World)(q m:Nat)(ps:List Nat)(ha:Option Addr)(ch:Nat)(sa:Option Addr)(cs:Nat)(A:List bF)(H:List bP)(S:List Sn):Prop where
 lt:q<x.heap.size
 c0:x.cell? ⟨q,0,none⟩=some (.map (some m))
 c1:x.cell? ⟨q,1,none⟩=some (af ha H.length ch)
 c2:x.cell? ⟨q,2,none⟩=some (af sa S.length cs)
 map:(fE m (A.map bF.name) ps).P x
 aI:∀i (h:i<A.length),jb (ps.getD i 0) (aL A[i]) x
 az:bu 4 aG x ha H
 aH:bu 2 aM x sa S
theorem Star.bk{x:World}{q m:Nat}{ps:List Nat}{hv sv:Value}{A:List bF}{H:List bP}{S:List Sn}(h:Star (fU q m ps hv sv A H S).flatten x)(hl:ps.length=A.length) :
  ∃ha ch sa cs,hv=af ha H.length ch/\sv=af sa S.length cs/\xq x q m ps ha ch sa cs A H S:=by
 have hr:∀r,r∈(fU q m ps hv sv A H S).flatten->r.P x:=fun r hr=>h.get hr
 have b:jb q [.map (some m),hv,sv] x:=hr (blk q [.map (some m),hv,sv]) (by simp[fU]);have r1:x.ownsRow 0 109 4 hv H.length (H.flatMap aG):=hr (row 109 4 hv H.length (H.flatMap aG)) (by simp[fU]);have r2:x.ownsRow 0 112 2 sv S.length (S.flatMap aM):=hr (row 112 2 sv S.length (S.flatMap aM)) (by simp[fU]);obtain⟨ha,ch,e1,s1,_⟩:=Star.GV gH r1;obtain⟨sa,cs,e2,s2,_⟩:=Star.GV kC r2;have o1:bR 4 aG x (jP ha) ha ch H:=(s1.get (r:=bA 4 aG ha ch H) (by simp)).2;have o2:bR 2 aM x (jP sa) sa cs S:=(s2.get (r:=bA 2 aM sa cs S) (by simp)).2;subst e1 e2;refine⟨ha,ch,sa,cs,rfl,rfl,⟨b.lt,b.c 0 _ rfl,b.c 1 _ rfl,b.c 2 _ rfl,hr (fE m (A.map bF.name) ps) (by simp[fU]),fun i hi=>?_,o1.rows,o2.rows⟩⟩;have hp:i<ps.length:=by omega
 refine hr (blk (ps.getD i 0) (aL A[i])) ?_;have:blk (ps.getD i 0) (aL A[i])∈dV ps A:=by
  unfold dV;rw[List.mem_map];refine⟨(ps[i],A[i]),?_,by simp[hp]⟩;have hz:i<(List.zip ps A).length:=by simp[List.length_zip];omega
  have e:(List.zip ps A)[i]=(ps[i],A[i]):=by simp
  rw[<-e];exact List.getElem_mem hz
 simp only[fU,List.flatten_cons,List.flatten_nil,List.mem_append];exact .inr (.inr (.inl this))
theorem xq.below{x y:World}{q m:Nat}{ps:List Nat}{ha:Option Addr}{ch:Nat}{sa:Option Addr}{cs:Nat}{A:List bF}{H:List bP}{S:List Sn}(h:xq x q m ps ha ch sa cs A H S)(b:Below x.heap.size x y):xq y q m ps ha ch sa cs A H S:=by
 obtain⟨D,ho,hk⟩:=h.map;exact⟨Nat.lt_of_lt_of_le h.lt b.size,aN b _ _ h.c0,aN b _ _ h.c1,aN b _ _ h.c2,⟨D,ho.kept (gy b) (by simp),hk⟩,
  fun i hi=>((Star.ou (h.aI i hi)).below b).get (r:=blk (ps.getD i 0) (aL A[i])) (by simp),h.az.below b,h.aH.below b⟩
theorem xq.MW{x:World}{q m:Nat}{ps:List Nat}{ha:Option Addr}{ch:Nat}{sa:Option Addr}{cs:Nat}{A:List bF}{H:List bP}{S:List Sn}(h:xq x q m ps ha ch sa cs A H S):oP x m A:=by
 obtain⟨D,ho,hk⟩:=h.map;refine⟨D,by simpa using ho,⟨fun i hi=>⟨ps.getD i 0,fun z=>?_,?_⟩,fun kl hkl=>?_⟩⟩
 ·have:=hk.at_ i (by simpa using hi) z;simpa using this
 ·have b:=h.aI i hi;exact⟨b.lt,b.c 0 _ rfl,b.c 1 _ rfl,b.c 2 _ rfl,b.c 3 _ rfl⟩
 ·obtain⟨i,hi,e⟩:=hk.only kl hkl;exact⟨i,by simpa using hi,by simpa using e⟩
theorem xq.book{x:World}{q m:Nat}{ps:List Nat}{ha:Option Addr}{ch:Nat}{sa:Option Addr}{cs:Nat}{L:bM}(h:xq x q m ps ha ch sa cs L.aI L.az L.aH)(hh:∀y∈L.az,Bt y)(hs:∀y∈L.aH,Qp y):lL x q L :=
 ⟨h.lt,m,ha,sa,ch,cs,h.c0,h.c1,h.c2,h.az.az hh,h.aH.ans hs,h.MW⟩
theorem QP{l:List bP}{id:Int}:(decide (yO (fi (l.map bP.id) id) ≥ 0))=l.any (fun h=>h.id==id):=by
 cases e:fi (l.map bP.id) id with
 | none =>
  have:=Po e;have h2:l.any (fun h=>h.id==id)=false:=by
   rw[List.any_eq_false];intro x hx q;exact this x.id (List.mem_map_of_mem hx) (by simpa using q)
  rw[h2];rfl
 | some k =>
  obtain⟨hk,he⟩:=Jr e;have h2:l.any (fun h=>h.id==id)=true:=by
   rw[List.any_eq_true];exact⟨l[k]'(by simpa using hk),List.getElem_mem _,by simpa using he⟩
  rw[h2];simp[yO]
theorem ND(q m:Nat)(ps:List Nat)(ha:Option Addr)(ch:Nat)(sa:Option Addr)(cs:Nat)(D:bM)(c:Cm)(w:World)(n2:D.az.length<=1048576)(h:xq w q m ps ha ch sa cs D.aI D.az D.aH) :
  Calls prog 163 #[ai (some ⟨q,0,none⟩),c.v] w fun e w'=>e=.returned (.bool (fw D c))/\Below w.heap.size w w':=by
 have HB:=hide (aF (Below.refl w.heap.size w) (.cells #[ae au c.id,ae au c.kind,ag c.fr,ag c.to,ae au c.am,ae au c.ref] 88));have HK:=hide (h.below HB.out);have hqn:q≠w.heap.size:=Nat.ne_of_lt h.lt;have d0:=HK.c0;have d1:=HK.c1;have d2:=HK.c2;have hln:∀ty,(Builtin.len_ #[218] ty #[.map (some m)]).run prog (w.alloc (.cells #[ae au c.id,ae au c.kind,ag c.fr,ag c.to,ae au c.am,ae au c.ref] 88))=.ok (ae au (D.aI.length:Int)) (w.alloc (.cells #[ae au c.id,ae au c.kind,ag c.fr,ag c.to,ae au c.am,ae au c.ref] 88)):=fun ty=>by
  obtain⟨M,ho,hk⟩:=HK.map;rw[ho.len (t:=218) (e:=223) u64 ty,hk.size,List.length_map]
 clear h;unfold Cm.v;by_cases s40:D.aH.length=40
 ·have s40':((D.aH.length:Int)==40)=true:=by simp;omega
  have HF:Hid (fw D c=true):=hide (by simp[fw,s40]);clear hln;go_enter func163,ntmps163;go_wp2_with fail;go_ret;exact⟨by rw[HF.out];rfl,HB.out⟩
 ·have s40':((D.aH.length:Int)==40)=false:=by simp;omega
  by_cases k1:c.kind=1
  ·have k1':(c.kind==1)=true:=by simp[k1]
   have HF:Hid (fw D c=((D.aI.length:Int)==12)):=hide (by
    have e:((D.aI.length:Int)==12)=decide (D.aI.length=12):=by rw[Bool.eq_iff_iff];simp;omega
    rw[e];simp[fw,k1,s40])
   clear k1 s40;go_enter func163,ntmps163;go_wp2_with fail;go_ret;exact⟨by rw[HF.out];rfl,HB.out⟩
  ·have k1':(c.kind==1)=false:=by simp[k1]
   clear hln;by_cases k3:c.kind=3
   ·have k3':(c.kind==3)=true:=by simp[k3]
    by_cases h10:D.az.length=10
    ·have h10':((D.az.length:Int)==10)=true:=by simp;omega
     have HF:Hid (fw D c=true):=hide (by simp[fw,k3,h10]);clear k1 k3 s40 h10;go_enter func163,ntmps163;go_wp2_with fail;go_ret;exact⟨by rw[HF.out];rfl,HB.out⟩
    ·have h10':((D.az.length:Int)==10)=false:=by simp;omega
     have HF:Hid (fw D c=D.az.any (fun h=>h.id==c.id)):=hide (by simp[fw,k3,h10,s40]);clear k1 k3 s40 h10;go_enter func163,ntmps163;go_wp2_with fail;refine(oL q ha D.az ch c.id _ n2 HK.az HK.lt HK.c1).mono ?_;rintro e w2⟨rfl,hb2⟩;have HB2:=hide (aJ HB.out hb2);clear hb2;go_wp2_with fail;go_ret;exact⟨by rw[HF.out,<-QP];rfl,HB2.out⟩
   ·have k3':(c.kind==3)=false:=by simp[k3]
    have HF:Hid (fw D c=false):=hide (by simp[fw,k1,k3,s40]);clear k1 k3 s40;go_enter func163,ntmps163;go_wp2_with fail;go_ret;exact⟨by rw[HF.out];rfl,HB.out⟩
theorem wW(code:Int)(t:TypeId)(v:Value)(w:World)(hg:w.cell? ⟨0,0,none⟩=some (.iface t v)) :
  Calls prog 161 #[ae au code] w fun e w'=>sS code (.iface t v) w e w':=by
 go_enter func161,ntmps161;go_wp2;go_ret;exact⟨rfl,rfl⟩
def uz(D:bM)(c:Cm):Option Int :=
 if c.B=false then some 2 else if 0<=jN D.aH c.id then some (jN D.aH c.id) else if fw D c then some 3 else none
def IL(o:Option Int)(g:Value)(w:World)(e:Ending)(w':World):Prop:=Below w.heap.size w w' /\
 match o with
 | none=>e=.returned .nilIface
 | some code=>∃n,Pool [] w [[blk n [ae au code,g]]] w'/\e=.returned (.iface 229 (ai (some ⟨n,0,none⟩)))
theorem ui{w x:World}{o:Option Int}{code:Int}{g:Value}(ho:o=some code)(b:Below w.heap.size w x):IL o g w (.returned (.iface 229 (ai (some ⟨x.heap.size,0,none⟩)))) (x.alloc (.cells #[ae au code,g] 233)):=by
 subst ho;exact⟨aF b _,_,((Pool.start w [[]] rfl).keep b).aY (i:=0) rfl [ae au code,g] 233,rfl⟩
theorem GI{l:List Sn}{id:Int}(h:fi (l.map Sn.id) id=none):jN l id=-1:=by simp[jN,h]
theorem ze{l:List Sn}{id:Int}{k:Nat}(h:fi (l.map Sn.id) id=some k)(hk:k<l.length):jN l id=l[k].code:=by simp[jN,h,hk]
theorem Lu(q m:Nat)(ps:List Nat)(ha:Option Addr)(ch:Nat)(sa:Option Addr)(cs:Nat)(D:bM)(c:Cm)(t:TypeId)(v:Value)(w:World)(n2:D.az.length<=1048576)(n3:D.aH.length<=1048576)(hcf:c.fr.size<=maxLen)(hct:c.to.size<=maxLen)(hco:∀y∈D.aH,0<=y.code)(h:xq w q m ps ha ch sa cs D.aI D.az D.aH)(hg:w.cell? ⟨0,0,none⟩=some (.iface t v)) :
  Calls prog 131 #[ai (some ⟨q,0,none⟩),c.v] w fun e w'=>IL (uz D c) (.iface t v) w e w':=by
 have hlt:=h.lt;have HK:=hide h;have HO:=hide hco;have HG:=hide hg;have h0:0<w.heap.size:=dO hg;clear h hco hg;have HP:=hide ((Pool.start w [[]] rfl).aY (i:=0) rfl c.cells 88);unfold Cm.v;go_enter func131,ntmps131;go_wp2_with fail;refine(kN _ _ _ _ _ _ _ hcf hct).mono ?_;rintro e w1⟨rfl,hk1⟩;have HP1:=hide (HP.keep hk1.below);clear hk1 HP;cases hB:dK c.id c.kind c.fr c.to c.am c.ref
 ·have HA:Hid (uz D c=some 2):=hide (by simp[uz,Cm.B,hB]);have HG1:=hide ((HP1.below.cell (p:=⟨0,0,none⟩) h0).trans HG.out);go_wp2_with fail;refine(wW _ t v _ HG1.out).mono ?_;rintro e w2⟨rfl,rfl⟩;go_wp2_with fail;go_ret;exact ui HA.out HP1.below
 ·have HBT:Hid (c.B=true):=hide hB;clear hB;have c0:=(HP1.aB (i:=0) rfl).c 0 _ rfl;go_wp2_with fail;refine(AZ q sa D.aH cs c.id _ n3 (HK.aH.below HP1.below) (Nat.lt_of_lt_of_le hlt HP1.below.size) (HK.below HP1.below).c2).mono ?_;rintro e w2⟨rfl,hb2⟩;have HP2:=hide (HP1.keep hb2);clear hb2 HP1 c0;have HK2:=hide (HK.below HP2.below)
  cases hf:fi (D.aH.map Sn.id) c.id with
  | some k =>
   obtain⟨hk,_⟩:=Jr hf;have hk:k<D.aH.length:=by simpa using hk
   have hk':(k:Int)<(D.aH.length:Int):=by omega
   have hge:decide ((k:Int) ≥ 0)=true:=by simp
   have HA:Hid (uz D c=some D.aH[k].code):=hide (by
    have:=HO.out _ (List.getElem_mem hk);simp[uz,HBT.out,ze hf hk,this])
   clear hf;obtain⟨b,off,ea,hb,z0,z1⟩:=uf HK2.aH k hk;have d2:=HK2.c2;rw[ea] at d2;have HG2:=hide ((HP2.below.cell (p:=⟨0,0,none⟩) h0).trans HG.out);unfold yO;go_wp2_with fail;refine(wW _ t v _ HG2.out).mono ?_;rintro e w3⟨rfl,rfl⟩;go_wp2_with fail;go_ret;exact ui HA.out HP2.below
  | none =>
   have HN:Hid (jN D.aH c.id=-1):=hide (GI hf);clear hf;have c0:=(HP2.aB (i:=0) rfl).c 0 _ rfl;have c1:=(HP2.aB (i:=0) rfl).c 1 _ rfl;have c2:=(HP2.aB (i:=0) rfl).c 2 _ rfl;have c3:=(HP2.aB (i:=0) rfl).c 3 _ rfl;have c4:=(HP2.aB (i:=0) rfl).c 4 _ rfl;have c5:=(HP2.aB (i:=0) rfl).c 5 _ rfl;unfold yO;go_wp2_with fail;refine(ND q m ps ha ch sa cs D c _ n2 HK2.out).mono ?_;rintro e w3⟨rfl,hb3⟩;have HP3:=hide (HP2.keep hb3);clear hb3 HP2 HK2 c0 c1 c2 c3 c4 c5;cases hfu:fw D c
   ·have HA:Hid (uz D c=none):=hide (by simp[uz,HBT.out,HN.out,hfu]);clear hfu;go_wp2_with fail;go_ret;exact⟨HP3.below,by rw[HA.out];rfl⟩
   ·have HA:Hid (uz D c=some 3):=hide (by simp[uz,HBT.out,HN.out,hfu]);clear hfu;have HG3:=hide ((HP3.below.cell (p:=⟨0,0,none⟩) h0).trans HG.out);go_wp2_with fail;refine(wW _ t v _ HG3.out).mono ?_;rintro e w4⟨rfl,rfl⟩;go_wp2_with fail;go_ret;exact ui HA.out HP3.below
theorem nP{w a b:World}{o:Obj}(h:Below (w.heap.size+1) (w.alloc o) a)(k:Below a.heap.size a b):Below (w.heap.size+1) (w.alloc o) b :=
 h.trans (k.mono (by have:=h.size;simpa using this))
theorem ed{w wr:World}{o:Obj}(h:Below (w.heap.size+1) (w.alloc o) wr):Below w.heap.size w wr :=
 (aF (Below.refl _ _) o).trans (h.mono (by omega))
theorem xD{w x:World}{e:TypeId}{n size:Nat}{xs:List Value}{cells:Nat->List Value}(h:x.ownsRow w.heap.size e size (af (some ⟨w.heap.size,0,none⟩) n n) n xs):jV w.heap.size n size cells 0 x:=by
 obtain⟨hl,⟨h0,_⟩|⟨g,cap,cur,h1,hb,hg,hn,hc,hz,ht⟩⟩:=h
 ·cases h0
 ·simp only[Value.slice.injEq,Option.some.injEq,Addr.mk.injEq,and_true,true_and] at h1;obtain⟨rfl,rfl⟩:=h1;refine⟨(Array.getElem?_eq_some_iff.1 hg).1,fun j hj=>?_,iw hg,fun i r hi=>by omega⟩;have hj':j<cur.size:=by rw[hz];exact hj
  exact⟨cur[j],by simp[World.cell?,hg,Array.getElem?_eq_getElem hj']⟩
structure xg(w:World)(va vh vs v0 v1 v2:Value)(x:World):Prop where
 lt:w.heap.size+1+1<x.heap.size
 old:Below w.heap.size w x
 a0:x.cell? ⟨w.heap.size,0,none⟩=some va
 a1:x.cell? ⟨w.heap.size,1,none⟩=some vh
 a2:x.cell? ⟨w.heap.size,2,none⟩=some vs
 r:∀j,j<3->∃v,x.cell? ⟨w.heap.size+1,j,none⟩=some v
 c0:x.cell? ⟨w.heap.size+1+1,0,none⟩=some v0
 c1:x.cell? ⟨w.heap.size+1+1,1,none⟩=some v1
 c2:x.cell? ⟨w.heap.size+1+1,2,none⟩=some v2
 f1:∀j,x.frozen? ⟨w.heap.size+1,j,none⟩=false
 f2:∀j,x.frozen? ⟨w.heap.size+1+1,j,none⟩=false
theorem xg.below{w:World}{va vh vs v0 v1 v2:Value}{x y:World}(h:xg w va vh vs v0 v1 v2 x)(b:Below x.heap.size x y):xg w va vh vs v0 v1 v2 y:=by
 have hlt:=h.lt;have l0:w.heap.size<x.heap.size:=by omega
 have l1:w.heap.size+1<x.heap.size:=by omega
 exact⟨Nat.lt_of_lt_of_le h.lt b.size,aJ h.old b,(b.cell l0).trans h.a0,(b.cell l0).trans h.a1,(b.cell l0).trans h.a2,fun j hj=>by obtain⟨v,hv⟩:=h.r j hj;exact⟨v,(b.cell l1).trans hv⟩,
  (b.cell hlt).trans h.c0,(b.cell hlt).trans h.c1,(b.cell hlt).trans h.c2,fun j=>(b.frozen l1).trans (h.f1 j),fun j=>(b.frozen hlt).trans (h.f2 j)⟩
theorem xg.set2{w:World}{va vh vs v0 v1 v2:Value}{x:World}(h:xg w va vh vs v0 v1 v2 x)(u:Value):xg w va vh vs v0 v1 u (x.setCell ⟨w.heap.size+1+1,2,none⟩ u) :=
 ⟨by rw[size_setCell];exact h.lt,h.old.setCell (by show w.heap.size<=w.heap.size+1+1;omega) _,by rw[aP (.inl (by omega))];exact h.a0,by rw[aP (.inl (by omega))];exact h.a1,by rw[aP (.inl (by omega))];exact h.a2,fun j hj=>by rw[aP (.inl (by omega))];exact h.r j hj,
  by rw[aP (.inr (by omega))];exact h.c0,by rw[aP (.inr (by omega))];exact h.c1,cz h.c2,fun j=>by rw[lH];exact h.f1 j,fun j=>by rw[lH];exact h.f2 j⟩
theorem lY.set{w:World}{g o:Nat}{l:List bF}{b:Nat}{u:Value}(h:lY w (some ⟨g,0,none⟩) l)(hne:b≠g):lY (w.setCell ⟨b,o,none⟩ u) (some ⟨g,0,none⟩) l:=fun i hi=>by
 obtain⟨b',off,e,hb,h0,h1,h2,h3,r⟩:=h i hi;cases e;exact⟨g,0,rfl,by rw[size_setCell];exact hb,by rw[aP (.inl hne)];exact h0,by rw[aP (.inl hne)];exact h1,by rw[aP (.inl hne)];exact h2,by rw[aP (.inl hne)];exact h3,r⟩
theorem fM.set{w:World}{g o:Nat}{l:List bP}{b:Nat}{u:Value}(h:fM w (some ⟨g,0,none⟩) l)(hne:b≠g):fM (w.setCell ⟨b,o,none⟩ u) (some ⟨g,0,none⟩) l:=fun i hi=>by
 obtain⟨b',off,e,hb,h0,h1,h2,h3,r⟩:=h i hi;cases e;exact⟨g,0,rfl,by rw[size_setCell];exact hb,by rw[aP (.inl hne)];exact h0,by rw[aP (.inl hne)];exact h1,by rw[aP (.inl hne)];exact h2,by rw[aP (.inl hne)];exact h3,r⟩
theorem ji.set{w:World}{g o:Nat}{l:List Sn}{b:Nat}{u:Value}(h:ji w (some ⟨g,0,none⟩) l)(hne:b≠g):ji (w.setCell ⟨b,o,none⟩ u) (some ⟨g,0,none⟩) l:=fun i hi=>by
 obtain⟨b',off,e,hb,h0,h1,r⟩:=h i hi;cases e;exact⟨g,0,rfl,by rw[size_setCell];exact hb,by rw[aP (.inl hne)];exact h0,by rw[aP (.inl hne)];exact h1,r⟩
theorem JQ{X:World}{b:Nat}{u0 u1 u2 t0 t1 t2:Value}(h0:X.cell? ⟨b,0,none⟩=some t0)(h1:X.cell? ⟨b,1,none⟩=some t1)(h2:X.cell? ⟨b,2,none⟩=some t2) :
  (((X.setCell ⟨b,0,none⟩ u0).setCell ⟨b,1,none⟩ u1).setCell ⟨b,2,none⟩ u2).cell? ⟨b,0,none⟩=some u0/\(((X.setCell ⟨b,0,none⟩ u0).setCell ⟨b,1,none⟩ u1).setCell ⟨b,2,none⟩ u2).cell? ⟨b,1,none⟩=some u1/\(((X.setCell ⟨b,0,none⟩ u0).setCell ⟨b,1,none⟩ u1).setCell ⟨b,2,none⟩ u2).cell? ⟨b,2,none⟩=some u2:=by
 refine⟨?_,?_,?_⟩
 ·rw[aP (.inr (by omega)),aP (.inr (by omega))];exact cz h0
 ·rw[aP (.inr (by omega))];exact cz (by rw[aP (.inr (by omega))];exact h1)
 ·exact cz (by rw[aP (.inr (by omega)),aP (.inr (by omega))];exact h2)
def rU(w:World)(e:Ending)(w':World):Prop:=e=.returned (.bool true)/\Below w.heap.size w w'
theorem Bj(nm cu:ByteArray)(li po:Int)(w:World) :
  Calls prog 57 #[aj #[ag nm,ag cu,ae au li,ae au po],aj #[ag nm,ag cu,ae au li,ae au po]] w fun e w'=>rU w e w':=by
 have h0:(nm.toList != nm.toList)=false:=by simp
 have h1:(cu.toList != cu.toList)=false:=by simp
 have h2:(li != li)=false:=by simp
 have h3:(po != po)=false:=by simp
 go_enter func57,ntmps57;go_wp2;go_ret;exact⟨rfl,aF (aF (Below.refl _ _) _) _⟩
theorem H5(id:Int)(nm cu:ByteArray)(am:Int)(w:World) :
  Calls prog 58 #[aj #[ae au id,ag nm,ag cu,ae au am],aj #[ae au id,ag nm,ag cu,ae au am]] w fun e w'=>rU w e w':=by
 have h0:(id != id)=false:=by simp
 have h1:(nm.toList != nm.toList)=false:=by simp
 have h2:(cu.toList != cu.toList)=false:=by simp
 have h3:(am != am)=false:=by simp
 go_enter func58,ntmps58;go_wp2;go_ret;exact⟨rfl,aF (aF (Below.refl _ _) _) _⟩
theorem Aj(id co:Int)(w:World) :
  Calls prog 59 #[aj #[ae au id,ae au co],aj #[ae au id,ae au co]] w fun e w'=>rU w e w':=by
 have h0:(id != id)=false:=by simp
 have h1:(co != co)=false:=by simp
 go_enter func59,ntmps59;go_wp2;go_ret;exact⟨rfl,aF (aF (Below.refl _ _) _) _⟩
theorem Qn{w x:World}{va vh vs:Value}(h:Below (w.alloc (.cells #[va,vh,vs] 31)).heap.size (w.alloc (.cells #[va,vh,vs] 31)) x):x.cell? ⟨w.heap.size,0,none⟩=some va/\x.cell? ⟨w.heap.size,1,none⟩=some vh/\x.cell? ⟨w.heap.size,2,none⟩=some vs :=
 ⟨by rw[h.cell (by simp)];simp,by rw[h.cell (by simp)];simp,by rw[h.cell (by simp)];simp⟩
theorem Jz{w x:World}{pa ph ps qa qh qs:Value}(h:Below ((w.alloc (.cells #[pa,ph,ps] 31)).alloc (.cells #[qa,qh,qs] 31)).heap.size ((w.alloc (.cells #[pa,ph,ps] 31)).alloc (.cells #[qa,qh,qs] 31)) x) :
  (x.cell? ⟨w.heap.size,0,none⟩=some pa/\x.cell? ⟨w.heap.size,1,none⟩=some ph/\x.cell? ⟨w.heap.size,2,none⟩=some ps)/\(x.cell? ⟨w.heap.size+1,0,none⟩=some qa/\x.cell? ⟨w.heap.size+1,1,none⟩=some qh/\x.cell? ⟨w.heap.size+1,2,none⟩=some qs):=by
 have h1:=Qn (aJ (aF (Below.refl _ _) _) h);have h2:=Qn h;rw[show (w.alloc (.cells #[pa,ph,ps] 31)).heap.size=w.heap.size+1 by simp] at h2;exact⟨h1,h2⟩
theorem Ei(s:ByteArray)(k:Nat)(h:¬ k<s.size):s.data.toList.take k=s.data.toList:=List.take_of_length_le (by simp;omega)
theorem F7(a b:Int)(h1:0<=a)(h2:a<4294967296)(h3:0<=b)(h4:b<4294967296):0<=bits .xor .u32 a b/\bits .xor .u32 a b<4294967296:=by
 rw[u32_xor a b h1 h2 h3 h4];have:a.toNat ^^^ b.toNat<2 ^ 32:=Nat.xor_lt_two_pow (by omega) (by omega);omega
theorem LF(a:Int)(h1:0<=a)(h2:a<4294967296):bits .xor .u32 a 0=a:=by
 rw[u32_xor a 0 h1 h2 (by omega) (by omega)];simp;omega
def lJ(c:Int):Int:=if c%2=1 then bits .xor .u32 (c/2) 3988292384 else c/2
theorem Co(c:Int)(h1:0<=c)(h2:c<4294967296):0<=lJ c/\lJ c<4294967296:=by
 unfold lJ;split
 ·exact F7 _ _ (by omega) (by omega) (by omega) (by omega)
 ·omega
theorem Au(c:Int)(h:c%2=1):lJ c=bits .xor .u32 (c/2) 3988292384:=by simp[lJ,h]
theorem xU(c:Int)(h:¬ c%2=1):lJ c=c/2:=by simp[lJ,h]
theorem and_one(c:Int)(h1:0<=c)(h2:c<4294967296):bits .and .u32 c 1=c%2:=by
 rw[u32_and c 1 h1 h2 (by omega) (by omega)];rw[show ((1:Int).toNat)=1 from rfl,nat_mask1];omega
def Bo:Nat->Int->Int
 | 0,c=>c
 | n+1,c=>Bo n (lJ c)
def Jw(c:Int)(b:UInt8):Int:=Bo 8 (bits .xor .u32 c (b.toNat:Int))
def vM(l:List UInt8):Int:=l.foldl Jw 4294967295
theorem Cn(l:List UInt8)(b:UInt8):vM (l++[b])=Bo 8 (bits .xor .u32 (vM l) (b.toNat:Int)):=by simp[vM,Jw]
def crc(l:List UInt8):Int:=bits .xor .u32 IntKind.u32.max (vM l)
theorem Pk(y:Int)(h1:0<=y)(h2:y<4294967296):bits .xor .u32 (y/2) (3988292384*bits .and .u32 y 1%4294967296)=lJ y:=by
 rw[and_one y h1 h2];by_cases h:y%2=1
 ·rw[Au y h,h];rfl
 ·rw[xU y h,show y%2=0 by omega];exact LF _ (by omega) (by omega)
theorem wT(j:Nat)(hj:j<8)(y:Int):Bo (8-(j+1)) (lJ y)=Bo (8-j) y:=by
 rw[show 8-j=8-(j+1)+1 by omega];rfl
theorem FL(j:Nat)(hj:¬ j<8)(y:Int):Bo (8-j) y=y:=by
 rw[show 8-j=0 by omega];rfl
def LB(z:Int):ByteArray:=⟨#[UInt8.ofNat (z%256).toNat,UInt8.ofNat (z/256%256).toNat,UInt8.ofNat (z/65536%256).toNat,UInt8.ofNat (z/16777216%256).toNat]⟩
def Q6(z:Int):ByteArray:=⟨#[UInt8.ofNat (z/16777216%256).toNat,UInt8.ofNat (z/65536%256).toNat,UInt8.ofNat (z/256%256).toNat,UInt8.ofNat (z%256).toNat]⟩
def frame(s:ByteArray):ByteArray:=Q6 (s.size:Int)++LB (crc s.data.toList)++s
theorem DU(s:ByteArray)(w:World)(hs:s.size<=maxLen) :
  Calls prog 189 #[ag s] w fun e w'=>e=.returned (.int .u32 (crc s.data.toList))/\w'=w:=by
 unfold maxLen at hs;go_enter func189,ntmps189;go_wp2;go_loop [3,8] (fun c i=>∃(k:Nat)(x:Int),k<=s.size/\i=ae au k/\c=.int .u32 x/\0<=x/\x<4294967296/\Hid (x=vM (s.data.toList.take k))) (fun c i=>s.size-(intOf i).toNat)
 case atStart=>exact⟨0,4294967295,Nat.zero_le _,rfl,rfl,by omega,by omega,hide rfl⟩
 case round =>
  obtain⟨k,x,hk,rfl,rfl,hx1,hx2,HX⟩:=hrel;by_cases hlt:k<s.size
  ·have hbb:((s[k].toNat:Int)%4294967296)=(s[k].toNat:Int):=by have:=s[k].toNat_lt;omega
   have hin:=hide (F7 x ((s[k].toNat:Int)%4294967296) hx1 hx2 (by omega) (by omega));have HN:Hid (vM (s.data.toList.take (k+1))=Bo 8 (bits .xor .u32 x ((s[k].toNat:Int)%4294967296))):=hide (by rw[iU s k hlt,Cn,<-HX.out,hbb]);clear hbb;go_wp2;go_loop [3,17] (fun c i=>∃(j:Nat)(y:Int),j<=8/\i=ae au j/\c=.int .u32 y/\0<=y/\y<4294967296/\Hid (Bo (8-j) y=vM (s.data.toList.take (k+1)))) (fun c i=>8-(intOf i).toNat)
   case atStart=>exact⟨0,_,by omega,rfl,rfl,hin.1,hin.2,hide HN.symm⟩
   case round =>
    obtain⟨j,y,hj,rfl,rfl,hy1,hy2,HY⟩:=hrel;by_cases hj8:j<8
    ·have HB:=hide (Co y hy1 hy2);go_wp2;go_round
     case rel =>
      refine⟨j+1,lJ y,by omega,by go_num,by rw[Pk y hy1 hy2],HB.1,HB.2,hide ?_⟩;rw[wT j hj8];exact HY.out
     case measure=>simp[intOf];omega
    ·have HE:Hid (y=vM (s.data.toList.take (k+1))):=hide (by have:=HY.out;rwa [FL j hj8] at this);go_wp2;exact⟨⟨k+1,y,by omega,by go_num,rfl,hy1,hy2,HE⟩,by simp[intOf];omega⟩
  ·have HE:Hid (x=vM s.data.toList):=hide (by have:=HX.out;rwa [Ei s k hlt] at this);go_wp2;go_ret;exact⟨by unfold crc;rw[<-HE.out];rfl,rfl⟩
theorem NW(w1:World)(B:Nat)(a b c d:Int)(h0:w1.cell? ⟨B,0,none⟩=some (.int .u8 a))(h1:w1.cell? ⟨B,1,none⟩=some (.int .u8 b))(h2:w1.cell? ⟨B,2,none⟩=some (.int .u8 c))(h3:w1.cell? ⟨B,3,none⟩=some (.int .u8 d)) :
  (convert 160 9 (af (some ⟨B,0,none⟩) 4 4)).run prog w1=.ok (ag ⟨#[UInt8.ofNat a.toNat,UInt8.ofNat b.toNat,UInt8.ofNat c.toNat,UInt8.ofNat d.toNat]⟩) w1:=by
 have h:=run_convert_bytes_arg (P:=prog) w1 160 5 underlying160 underlying5 B 0 4 4 [a,b,c,d] rfl (fun i hi=>by
  obtain rfl|rfl|rfl|rfl:i=0\/i=1\/i=2\/i=3:=by omega
  ·simpa using h0
  ·simpa using h1
  ·simpa using h2
  ·simpa using h3) 9 underlying9
 rw[h];rfl
theorem Sy(w:World)(a b c d:Int):(convert 160 9 (af (some ⟨w.heap.size,0,none⟩) 4 4)).run prog (w.alloc (.cells #[.int .u8 a,.int .u8 b,.int .u8 c,.int .u8 d] 5))=.ok (ag ⟨#[UInt8.ofNat a.toNat,UInt8.ofNat b.toNat,UInt8.ofNat c.toNat,UInt8.ofNat d.toNat]⟩) (w.alloc (.cells #[.int .u8 a,.int .u8 b,.int .u8 c,.int .u8 d] 5)) :=
 NW _ _ _ _ _ _ (by simp) (by simp) (by simp) (by simp)
theorem Kr(s:ByteArray)(w:World)(hs:s.size<=maxLen) :
  Calls prog 67 #[ag s] w fun e w'=>e=.returned (ag (LB (crc s.data.toList)))/\Kept w w':=by
 unfold maxLen at hs;go_enter func67,ntmps67;go_wp2;go_loop [3,4] (fun c i=>∃(k:Nat)(x:Int),k<=s.size/\i=ae au k/\c=.int .u32 x/\0<=x/\x<4294967296/\Hid (x=vM (s.data.toList.take k))) (fun c i=>s.size-(intOf i).toNat)
 case atStart=>exact⟨0,4294967295,Nat.zero_le _,rfl,rfl,by omega,by omega,hide rfl⟩
 case round =>
  obtain⟨k,x,hk,rfl,rfl,hx1,hx2,HX⟩:=hrel;by_cases hlt:k<s.size
  ·have hbb:((s[k].toNat:Int)%4294967296)=(s[k].toNat:Int):=by have:=s[k].toNat_lt;omega
   have hin:=hide (F7 x ((s[k].toNat:Int)%4294967296) hx1 hx2 (by omega) (by omega));have HN:Hid (vM (s.data.toList.take (k+1))=Bo 8 (bits .xor .u32 x ((s[k].toNat:Int)%4294967296))):=hide (by rw[iU s k hlt,Cn,<-HX.out,hbb]);clear hbb;go_wp2;go_loop [3,5] (fun c i=>∃(j:Nat)(y:Int),j<=8/\i=ae au j/\c=.int .u32 y/\0<=y/\y<4294967296/\Hid (Bo (8-j) y=vM (s.data.toList.take (k+1)))) (fun c i=>8-(intOf i).toNat)
   case atStart=>exact⟨0,_,by omega,rfl,rfl,hin.1,hin.2,hide HN.symm⟩
   case round =>
    obtain⟨j,y,hj,rfl,rfl,hy1,hy2,HY⟩:=hrel;by_cases hj8:j<8
    ·have HB:=hide (Co y hy1 hy2);by_cases hodd:y%2=1
     ·go_wp2;go_round
      case rel =>
       refine⟨j+1,lJ y,by omega,by go_num,by rw[Au y hodd],HB.1,HB.2,hide ?_⟩;rw[wT j hj8];exact HY.out
      case measure=>simp[intOf];omega
     ·go_wp2;go_round
      case rel =>
       refine⟨j+1,lJ y,by omega,by go_num,by rw[xU y hodd],HB.1,HB.2,hide ?_⟩;rw[wT j hj8];exact HY.out
      case measure=>simp[intOf];omega
    ·have HE:Hid (y=vM (s.data.toList.take (k+1))):=hide (by have:=HY.out;rwa [FL j hj8] at this);go_wp2;exact⟨⟨k+1,y,by omega,by go_num,rfl,hy1,hy2,HE⟩,by simp[intOf];omega⟩
  ·have HE:Hid (x=vM s.data.toList):=hide (by have:=HX.out;rwa [Ei s k hlt] at this);have hc:=Sy;go_wp2;go_ret;exact⟨by unfold crc;rw[<-HE.out];rfl,(Kept.refl _).alloc _ _⟩
theorem Oe(n:Nat)(h:n<=100000):({data:=#[UInt8.ofNat (n/16777216),UInt8.ofNat (n/65536),UInt8.ofNat ((n:Int)/256%256).toNat,UInt8.ofNat ((n:Int)%256).toNat]}:ByteArray)=Q6 (n:Int):=by
 unfold Q6;rw[show ((n:Int)/16777216%256).toNat=n/16777216 by omega,show ((n:Int)/65536%256).toNat=n/65536 by omega]
theorem wJ(s:ByteArray)(w:World)(hm:s.size<=maxLen)(hs:¬ s.size<=100000) :
  Calls prog 143 #[ag s] w fun e w'=>e=.returned (ag ⟨#[]⟩)/\Kept w w':=by
 unfold maxLen at hm;have h0:100000<(s.size:Int):=by omega
 go_enter func143,ntmps143;go_wp2;go_ret;exact⟨rfl,Kept.refl _⟩
theorem Sv(w:World)(t:TypeId)(a b c d a' b' c' d':Int):(convert 160 9 (af (some ⟨w.heap.size,0,none⟩) 8 8)).run prog (w.alloc (.cells #[.int .u8 a,.int .u8 b,.int .u8 c,.int .u8 d,.int .u8 a',.int .u8 b',.int .u8 c',.int .u8 d'] t))=.ok (ag ⟨#[UInt8.ofNat a.toNat,UInt8.ofNat b.toNat,UInt8.ofNat c.toNat,UInt8.ofNat d.toNat,UInt8.ofNat a'.toNat,UInt8.ofNat b'.toNat,UInt8.ofNat c'.toNat,UInt8.ofNat d'.toNat]⟩) (w.alloc (.cells #[.int .u8 a,.int .u8 b,.int .u8 c,.int .u8 d,.int .u8 a',.int .u8 b',.int .u8 c',.int .u8 d'] t)):=by
 have h:=run_convert_bytes_arg (P:=prog) (w.alloc (.cells #[.int .u8 a,.int .u8 b,.int .u8 c,.int .u8 d,.int .u8 a',.int .u8 b',.int .u8 c',.int .u8 d'] t)) 160 5 underlying160 underlying5 w.heap.size 0 8 8 [a,b,c,d,a',b',c',d'] rfl (fun i hi=>by
  obtain rfl|rfl|rfl|rfl|rfl|rfl|rfl|rfl:i=0\/i=1\/i=2\/i=3\/i=4\/i=5\/i=6\/i=7:=by omega
  all_goals simp) 9 underlying9
 rw[h];rfl
theorem Sl(n:Nat)(h:n<=100000)(z:Int):({data:=#[UInt8.ofNat (n/16777216),UInt8.ofNat (n/65536),UInt8.ofNat (n/256%256),UInt8.ofNat (n%256),UInt8.ofNat (z%256).toNat,UInt8.ofNat (z/256%256).toNat,UInt8.ofNat (z/65536%256).toNat,UInt8.ofNat (z/16777216%256).toNat]}:ByteArray)=Q6 (n:Int)++LB z:=by
 rw[<-Oe n h];apply ByteArray.ext;simp only[LB,ByteArray.data_append];rw[show ((n:Int)/256%256).toNat=n/256%256 by omega,show ((n:Int)%256).toNat=n%256 by omega];rfl
theorem vw(s:ByteArray)(w:World)(hs:s.size<=100000) :
  Calls prog 143 #[ag s] w fun e w'=>e=.returned (ag (frame s))/\Kept w w':=by
 have h0:(s.size:Int)<=100000:=by omega
 have h1:0<=(s.size:Int):=by omega
 unfold frame;go_enter func143,ntmps143;go_wp2_with fail;refine(DU _ _ (by unfold maxLen;omega)).mono ?_;rintro e w1⟨rfl,rfl⟩;have hc:=Sv;have HB:=hide (Sl s.size hs (crc s.data.toList));go_wp2;go_ret;exact⟨by rw[<-HB.out];rfl,(Kept.refl _).alloc _ _⟩
theorem fT{x y:World}{base:Nat}{e:TypeId}{sz:Nat}{v:Value}{n:Nat}{xs:List Value}(h:x.ownsRow base e sz v n xs)(b:Below x.heap.size x y):y.ownsRow base e sz v n xs:=by
 obtain⟨hl,⟨h0,h1⟩|⟨g,cap,cur,h1,hb,hg,r⟩⟩:=h
 ·exact⟨hl,.inl ⟨h0,h1⟩⟩
 ·exact⟨hl,.inr ⟨g,cap,cur,h1,hb,(b.block g (Array.getElem?_eq_some_iff.1 hg).1).trans hg,r⟩⟩
theorem jY{x:World}{base:Nat}{e:TypeId}{sz:Nat}{v:Value}{n:Nat}{xs:List Value}(h:x.ownsRow base e sz v n xs):∀g,v.ownBlock=some g->base<=g:=by
 intro g hg;obtain⟨hl,⟨h0,h1⟩|⟨g',cap,cur,h1,hb,_⟩⟩:=h
 ·rw[h0] at hg;cases hg
 ·rw[h1] at hg;simp only[Value.ownBlock,Option.some.injEq] at hg;omega
theorem nS{a b:ByteArray}(h:¬ a=b):(a.toList==b.toList)=false:=by
 cases e:(a.toList==b.toList) with
 | false=>rfl
 | true=>exact absurd (bT.1 e) h
def strCells(x:ByteArray):List Value:=[ag x]
theorem Gm(x:ByteArray):(strCells x).length=1:=rfl
theorem IV(l:List ByteArray):∀u∈l.flatMap strCells,u.oneCell'=true:=fun u hu=>by
 obtain⟨x,_,hx⟩:=List.mem_flatMap.1 hu;simp only[strCells,List.mem_cons,List.not_mem_nil,or_false] at hx;rcases hx with rfl;rfl
theorem IU{w:World}{a:Option Addr}{l:List ByteArray}(h:bu 1 strCells w a l)(i:Nat)(hi:i<l.length):∃b off,a=some ⟨b,off,none⟩/\b<w.heap.size/\w.cell? ⟨b,off+i,none⟩=some (ag l[i]):=by
 obtain⟨b,off,e,hb,hc⟩:=h i hi;have:=hc 0 _ rfl;rw[Nat.mul_one,Nat.add_zero] at this;exact⟨b,off,e,hb,this⟩
theorem Si:prog.underlying 80=some (.slice 9):=by kernel_rfl
def vT(l:List ByteArray)(n:Nat)(w:World)(e:Ending)(w':World):Prop:=Below w.heap.size w w'/\∃v,e=.returned (.tuple #[v,ae au (n:Int)])/\D8 1 strCells l w v w'
theorem Lh{w w1:World}{v0 v1 v2:Value}{T:TypeId}(h:Below (w.alloc (.cells #[v0,v1,v2] T)).heap.size (w.alloc (.cells #[v0,v1,v2] T)) w1):w1.cell? ⟨w.heap.size,0,none⟩=some v0/\w1.cell? ⟨w.heap.size,1,none⟩=some v1/\w1.cell? ⟨w.heap.size,2,none⟩=some v2:=by
 have h1:w.heap.size<(w.alloc (.cells #[v0,v1,v2] T)).heap.size:=by simp
 exact⟨(h.cell h1).trans (World.cell?_alloc_at _ _ _ _ rfl),(h.cell h1).trans (World.cell?_alloc_at _ _ _ _ rfl),(h.cell h1).trans (World.cell?_alloc_at _ _ _ _ rfl)⟩
theorem nQ{w wr:World}{o:Obj}(h:Below (w.heap.size+1) (w.alloc o) wr):w.heap.size+1<=wr.heap.size:=by have:=h.size;simpa using this
theorem AB{w x:World}{v0 v1 v2:Value}{T:TypeId}(h:Below (w.heap.size+1) (w.alloc (.cells #[v0,v1,v2] T)) x):x.cell? ⟨w.heap.size,0,none⟩=some v0/\x.cell? ⟨w.heap.size,1,none⟩=some v1/\x.cell? ⟨w.heap.size,2,none⟩=some v2 :=
 Lh (by simpa using h)
theorem Bu{k m:Nat}(h:k=m+1)(hk:k<=1048576):IntKind.i64.wrap ((k:Int)-1)=(m:Int):=by
 rw[show (k:Int)-1=(m:Int) by omega];simp only[IntKind.wrap,IntKind.signed,IntKind.bits];simp;omega
theorem DY{f:Nat->Bool}{n k:Nat}(h:k<n)(hf:f k=false):bE f n=false:=by
 induction n with
 | zero=>omega
 | succ n ih =>
  simp only[bE];rcases Nat.lt_or_ge k n with h1|h1
  ·rw[ih h1];rfl
  ·obtain rfl:k=n:=by omega
   rw[hf,Bool.and_false]
structure Fl where
 nm:ByteArray
 da:ByteArray
deriving DecidableEq
def aW(f:Fl):List Value:=[ag f.nm,ag f.da]
theorem Cc(x:Fl):(aW x).length=2:=rfl
theorem QY(l:List Fl):∀u∈l.flatMap aW,u.oneCell'=true:=fun u hu=>by
 obtain⟨x,_,hx⟩:=List.mem_flatMap.1 hu;simp only[aW,List.mem_cons,List.not_mem_nil,or_false] at hx;rcases hx with rfl|rfl<;>rfl
theorem iL{w:World}{a:Option Addr}{l:List Fl}(h:bu 2 aW w a l)(i:Nat)(hi:i<l.length):∃b off,a=some ⟨b,off,none⟩/\b<w.heap.size/\w.cell? ⟨b,off+i*2,none⟩=some (ag l[i].nm)/\w.cell? ⟨b,off+i*2+1,none⟩=some (ag l[i].da):=by
 obtain⟨b,off,e,hb,hc⟩:=h i hi;exact⟨b,off,e,hb,hc 0 _ rfl,hc 1 _ rfl⟩
structure Dp where
 kind:Int
 nm:ByteArray
 tn:ByteArray
 da:ByteArray
deriving DecidableEq
def dR(o:Dp):List Value:=[ae au o.kind,ag o.nm,ag o.tn,ag o.da]
theorem NL(x:Dp):(dR x).length=4:=rfl
theorem wR{w:World}{a:Option Addr}{l:List Dp}(h:bu 4 dR w a l)(i:Nat)(hi:i<l.length):∃b off,a=some ⟨b,off,none⟩/\b<w.heap.size/\w.cell? ⟨b,off+i*4,none⟩=some (ae au l[i].kind)/\w.cell? ⟨b,off+i*4+1,none⟩=some (ag l[i].nm)/\w.cell? ⟨b,off+i*4+2,none⟩=some (ag l[i].tn)/\w.cell? ⟨b,off+i*4+3,none⟩=some (ag l[i].da):=by
 obtain⟨b,off,e,hb,hc⟩:=h i hi;exact⟨b,off,e,hb,hc 0 _ rfl,hc 1 _ rfl,hc 2 _ rfl,hc 3 _ rfl⟩
def D9(l:List Fl):Prop:=∀f∈l,f.nm.size<=1048576/\f.da.size<=1048576
def Bp(o:Dp):Prop:=o.nm.size<=1048600/\o.tn.size<=1048600/\o.da.size<=1048600
def oW(s:ByteArray):Bool:=eu 1 100 (s.size:Int)
def q9(l:List Fl)(k:Nat):Bool:=match k with
 | 0=>true
 | m+1=>match l[m]?,l[m+1]? with
  | some x,some y=>Op.bytesLess x.nm.toList y.nm.toList
  | _,_=>false
theorem q8{l:List Fl}{m:Nat}(h:m+1<l.length):q9 l (m+1)=Op.bytesLess (l[m]).nm.toList (l[m+1]).nm.toList:=by
 simp[q9,List.getElem?_eq_getElem h,List.getElem?_eq_getElem (show m<l.length by omega)]
def F5(l:List Fl)(k:Nat):Bool:=match l[k]? with
 | none=>false
 | some f=>oW f.nm&&q9 l k
theorem kS{l:List Fl}{k:Nat}(h:k<l.length):F5 l k=(oW (l[k]).nm&&q9 l k):=by simp[F5,List.getElem?_eq_getElem h]
def iN:List Fl->Nat
 | []=>0
 | f::l=>f.da.size+iN l
theorem FK(a b:List Fl):iN (a++b)=iN a+iN b:=by
 induction a with
 | nil=>simp[iN]
 | cons x xs ih=>simp only[List.cons_append,iN,ih];omega
theorem Le(l:List Fl)(k:Nat)(h:k<l.length):iN (l.take (k+1))=iN (l.take k)+(l[k]).da.size:=by
 rw[dX l k h,FK];simp[iN]
theorem DR{l:List Fl}{M:Nat}(h:∀f∈l,f.da.size<=M):iN l<=M*l.length:=by
 induction l with
 | nil=>simp[iN]
 | cons x xs ih =>
  have h1:=h x (by simp);have h2:=ih (fun f hf=>h f (by simp[hf]));simp only[iN,List.length_cons,Nat.mul_add,Nat.mul_one];omega
theorem Aq{l:List Fl}{f:Fl}(h:f∈l):f.da.size<=iN l:=by
 induction l with
 | nil=>simp at h
 | cons x xs ih =>
  simp only[List.mem_cons] at h;simp only[iN];rcases h with rfl|h
  ·omega
  ·have:=ih h;omega
theorem NU{l:List Fl}(h60:l.length<=61)(hs:∀f∈l,f.da.size<=67108864)(k:Nat):iN (l.take k)<=4093640704:=by
 have h1:=DR (l:=l.take k) (M:=67108864) (fun f hf=>hs f (List.mem_of_mem_take hf));have h2:(l.take k).length<=61:=by rw[List.length_take];omega
 have h3:67108864*(l.take k).length<=67108864*61:=Nat.mul_le_mul_left _ h2;omega
def dN(l:List Fl):Bool:=decide (l.length<=60)&&bE (F5 l) l.length&&decide ((iN l:Int)<=200000)
theorem fu{l:List Fl}(h:dN l=true):l.length<=60/\bE (F5 l) l.length=true/\iN l<=200000:=by
 simp only[dN,Bool.and_eq_true,decide_eq_true_eq] at h;exact⟨h.1.1,h.1.2,by omega⟩
theorem vJ{l:List Fl}(h:dN l=true):∀f∈l,f.nm.size<=100/\f.da.size<=200000:=fun f hf=>by
 obtain⟨h1,h2,h3⟩:=fu h;have h4:=Aq hf;obtain⟨i,hi,rfl⟩:=List.getElem_of_mem hf;have h5:=dU h2 hi;rw[kS hi] at h5;simp only[oW,eu,Bool.and_eq_true,decide_eq_true_eq] at h5;exact⟨by omega,by omega⟩
theorem KU{l:List Fl}(h:dN l=true):D9 l:=fun f hf=>by
 have:=vJ h f hf;exact⟨by omega,by omega⟩
def qU(s:ByteArray):Bool:=s.toList.isEmpty
def fF(o:Dp):Bool:=eu 1 3 o.kind&&oW o.nm&&(if o.kind==2 then oW o.tn&&qU o.da else qU o.tn&&(o.kind==1||qU o.da))
def yC(l:List Fl)(nm:ByteArray):Option Nat:=l.findIdx? (fun f=>f.nm.toList==nm.toList)
theorem Oh{l:List Fl}{nm:ByteArray}{k:Nat}(hk:k<l.length)(h1:(l[k]).nm=nm)(h2:∀j (hj:j<l.length),j<k->(l[j]).nm≠nm):yC l nm=some k:=by
 unfold yC;rw[List.findIdx?_eq_some_iff_getElem];exact⟨hk,bT.2 h1,fun j hj=>by simpa using nS (h2 j (by omega) hj)⟩
theorem JB{l:List Fl}{nm:ByteArray}(h:∀j (hj:j<l.length),(l[j]).nm≠nm):yC l nm=none:=by
 unfold yC;rw[List.findIdx?_eq_none_iff];intro f hf;obtain⟨i,hi,rfl⟩:=List.getElem_of_mem hf;exact nS (h i hi)
theorem sO{l:List Fl}{nm:ByteArray}{k:Nat}(h:yC l nm=some k):∃hk:k<l.length,(l[k]).nm=nm:=by
 unfold yC at h;rw[List.findIdx?_eq_some_iff_getElem] at h;obtain⟨hk,h1,_⟩:=h;exact⟨hk,bT.1 h1⟩
theorem PN{l:List Fl}{nm:ByteArray}(h:yC l nm=none):∀f∈l,f.nm≠nm:=by
 unfold yC at h;rw[List.findIdx?_eq_none_iff] at h;intro f hf e;have:=h f hf;rw[bT.2 e] at this;cases this
def tq(nm da:ByteArray)(st:List Fl×Bool)(f:Fl):List Fl×Bool :=
 let st1:=if (!st.2&&!Op.bytesLess f.nm.toList nm.toList)=true then (st.1++[⟨nm,da⟩],true) else st
 if (f.nm.toList==nm.toList)=true then st1 else (st1.1++[f],st1.2)
def lg(l:List Fl)(nm da:ByteArray)(k:Nat):List Fl×Bool:=(l.take k).foldl (tq nm da) ([],false)
theorem rZ(l:List Fl)(nm da:ByteArray)(k:Nat)(h:k<l.length):lg l nm da (k+1)=tq nm da (lg l nm da k) l[k]:=by
 unfold lg;rw[dX l k h,List.foldl_append];rfl
theorem zn(l:List Fl)(nm da:ByteArray):∀k,(lg l nm da k).1.length<=2*k
 | 0=>by simp[lg]
 | k+1=>by
  have ih:=zn l nm da k;rcases Nat.lt_or_ge k l.length with h|h
  ·rw[rZ l nm da k h];unfold tq;simp only;split<;>split<;>simp<;>omega
  ·have:lg l nm da (k+1)=lg l nm da k:=by
    unfold lg;rw[List.take_of_length_le (by omega),List.take_of_length_le (by omega)]
   rw[this];omega
def jA(l:List Fl)(nm da:ByteArray):List Fl:=if (lg l nm da l.length).2 then (lg l nm da l.length).1 else (lg l nm da l.length).1++[⟨nm,da⟩]
def iD(l:List Fl)(nm:ByteArray):List Fl:=l.filter (fun f=>!(f.nm.toList==nm.toList))
theorem Lf(l:List Fl)(nm:ByteArray)(k:Nat)(h:k<l.length):iD (l.take (k+1)) nm=iD (l.take k) nm++(if ((l[k]).nm.toList==nm.toList)=true then [] else [l[k]]):=by
 unfold iD;rw[dX l k h,List.filter_append];cases e:((l[k]).nm.toList==nm.toList)<;>simp[e]
theorem Ar(l:List Fl)(nm:ByteArray):(iD l nm).length<=l.length:=List.length_filter_le _ _
def nM(l:List Fl)(nm:ByteArray):ByteArray:=match yC l nm with
 | none=>ByteArray.empty
 | some k=>match l[k]? with
  | none=>ByteArray.empty
  | some f=>f.da
def wX(l:List Fl)(nm da:ByteArray):ByteArray:=match yC l nm with
 | none=>da
 | some _=>nM l nm++da
def kr(l:List Fl)(o:Dp):List Fl×Bool :=
 if (o.kind==1)=true then (jA l o.nm (wX l o.nm o.da),true)
 else match yC l o.nm with
  | none=>(l,false)
  | some _=>(if (o.kind==2)=true then jA (iD l o.nm) o.tn (nM l o.nm) else iD l o.nm,true)
def uF(l:List Fl)(o:Dp):Option (List Fl):=if (kr l o).2&&fF o&&dN (kr l o).1 then some (kr l o).1 else none
def qR(l:List Fl):List Dp->Option (List Fl)
 | []=>some l
 | o::os=>(uF l o).bind (fun l'=>qR l' os)
theorem xC(l:List Fl)(a b:List Dp):qR l (a++b)=(qR l a).bind (fun l'=>qR l' b):=by
 induction a generalizing l with
 | nil=>rfl
 | cons o a ih =>
  simp only[List.cons_append,qR]
  cases uF l o with
  | none=>rfl
  | some l'=>exact ih l'
theorem ww(l:List Fl)(os:List Dp)(k:Nat)(h:k<os.length){l':List Fl}(hr:qR l (os.take k)=some l'):qR l (os.take (k+1))=uF l' os[k]:=by
 rw[dX os k h,xC,hr];simp only[Option.bind_some,qR];cases uF l' os[k]<;>rfl
theorem JX(l:List Fl)(os:List Dp)(k:Nat)(h:qR l (os.take k)=none):qR l os=none:=by
 have e:os=os.take k++os.drop k:=(List.take_append_drop k os).symm;rw[e,xC,h];rfl
structure Uu where
 aO:List Fl
 aR:List Fl
 ops:List Dp
def Nb(r:Option (List Fl))(aO:List Fl):Bool:=match r with
 | none=>false
 | some l=>decide (l=aO)
def iZ(D:Uu):Bool:=dN D.aO&&dN D.aR&&decide (D.ops.length<=200)&&Nb (qR D.aR D.ops) D.aO
theorem gm(s:ByteArray):s.data.toList.length=s.size:=Array.length_toList
def PL(l:List UInt8):Nat->Nat
 | 0=>0
 | j+1=>256*PL l j+(l.getD j 0).toNat
theorem IA(l:List UInt8):∀j,PL l j<256 ^ j
 | 0=>by simp[PL]
 | j+1=>by
  have:=IA l j;have:=(l.getD j 0).toNat_lt;rw[PL,Nat.pow_succ];omega
def tV(l:List UInt8):Nat:=PL l 4
theorem Oc(l:List UInt8):tV l<4294967296:=by have:=IA l 4;unfold tV;omega
theorem Od(l:List UInt8):tV l=(l.getD 0 0).toNat*16777216+(l.getD 1 0).toNat*65536+(l.getD 2 0).toNat*256+(l.getD 3 0).toNat:=by
 simp only[tV,PL];omega
def F3(l:List UInt8):Prop:=8<=l.length/\tV l<=100000/\8+tV l<=l.length/\LB (crc ((l.drop 8).take (tV l)))=bs ((l.drop 4).take 4)
noncomputable instance (l:List UInt8):Decidable (F3 l):=Classical.propDecidable _
noncomputable def KQ:Nat->List UInt8->List ByteArray×Nat
 | 0,_=>([],0)
 | f+1,l=>if F3 l then (bs ((l.drop 8).take (tV l))::(KQ f (l.drop (8+tV l))).1,8+tV l+(KQ f (l.drop (8+tV l))).2) else ([],0)
noncomputable def frames(s:ByteArray):List ByteArray:=(KQ (s.size+1) s.data.toList).1
noncomputable def dF(s:ByteArray):Nat:=(KQ (s.size+1) s.data.toList).2
structure Rest(s:ByteArray)(l:List ByteArray)(p:Nat):Prop where
 le:p<=s.size
 len:l.length<=p
 rest:∃f,s.size-p<f/\l++(KQ f (s.data.toList.drop p)).1=frames s/\p+(KQ f (s.data.toList.drop p)).2=dF s
theorem rest_start(s:ByteArray):Rest s [] 0:=⟨by omega,by simp,s.size+1,by omega,by simp[frames],by simp[dF]⟩
theorem Rest.stop{s:ByteArray}{l:List ByteArray}{p:Nat}(h:Rest s l p)(k:¬ F3 (s.data.toList.drop p)):l=frames s/\p=dF s:=by
 obtain⟨f,h0,h1,h2⟩:=h.rest;obtain⟨f,rfl⟩:∃g,f=g+1:=⟨f-1,by omega⟩;rw[KQ,if_neg k] at h1 h2;simp at h1 h2;exact⟨h1,h2⟩
theorem Rest.step{s:ByteArray}{l:List ByteArray}{p:Nat}(h:Rest s l p)(k:F3 (s.data.toList.drop p)):Rest s (l++[bs (((s.data.toList.drop p).drop 8).take (tV (s.data.toList.drop p)))]) (p+8+tV (s.data.toList.drop p)):=by
 obtain⟨f,h0,h1,h2⟩:=h.rest;obtain⟨f,rfl⟩:∃g,f=g+1:=⟨f-1,by omega⟩;rw[KQ,if_pos k] at h1 h2;have hk:=k.2.2.1;rw[List.length_drop,gm] at hk;have hl:=h.len;have hp:=h.le;have e:(s.data.toList.drop p).drop (8+tV (s.data.toList.drop p))=s.data.toList.drop (p+8+tV (s.data.toList.drop p)):=by rw[List.drop_drop,Nat.add_assoc]
 rw[e] at h1 h2;refine⟨by omega,by simp;omega,f,by omega,?_,?_⟩
 ·rw[<-h1,List.append_assoc];rfl
 ·rw[<-h2];simp only;omega
theorem uq(s:ByteArray):∀f (l:List UInt8),(KQ f l).1.length<=l.length
 | 0,l=>by simp[KQ]
 | f+1,l=>by
  rw[KQ];split
  ·rename_i k;have:=uq s f (l.drop (8+tV l));have:=k.2.2.1;simp at *;omega
  ·simp
theorem iC(s:ByteArray)(a b:Nat):(s.extract a b).data.toList=(s.data.toList.drop a).take (b-a):=by
 rw[ByteArray.data_extract,Array.toList_extract,List.extract_eq_take_drop]
end Go.Proofs.YtdbmmdecclalgaaGreatDoor
