import Derived.Test.YtdbmmdecclalgaaGreatDoorQae
import Derived.Test.YtdbmmdecclalgaaGreatDoorQaf
import Derived.Maps.OwnOps
import Derived.Maps.OwnSet
import Derived.Maps.RangeWalk
import Derived.Maps.Views
import Derived.Deep.RegionHeld
import Derived.Deep.CutRange
namespace Go.Proofs.YtdbmmdecclalgaaGreatDoor
open Go.Value renaming int → ae, slice → af, string → ag, pointer → ai, agg → aj
open Go.IntKind renaming i64 → au
open Go.Proofs.Tryz Go.ChangeShapes Go.WideShapes Go.ChangeAt Go.RowKit Go.Maps
set_option linter.unusedVariables false
set_option maxRecDepth 100000
set_option maxHeartbeats 4000000
def nU(L:bM)(k:Nat):Bool:=match L.aI[k]? with
 | none=>true
 | some x=>gT L k&&dW x.name&&jU x.cur&&eu (-1) 1000000000000 x.bB&&eu (-1000000000000) 1000000000000 x.aS
theorem gP{L:bM}{k:Nat}(h:k<L.aI.length):nU L k=(gT L k&&dW (L.aI[k]).name&&jU (L.aI[k]).cur&&eu (-1) 1000000000000 (L.aI[k]).bB&&eu (-1000000000000) 1000000000000 (L.aI[k]).aS):=by
 simp[nU,List.getElem?_eq_getElem h]
theorem kV(a:Option Addr)(L:bM)(cap:Nat)(w:World)(hl:L.aI.length<=12)(h:lY w a L.aI) :
  Calls prog 150 #[af a L.aI.length cap] w fun e w'=>e=.returned (.bool (bE (nU L) L.aI.length))/\Below w.heap.size w w':=by
 have HL:=hide h;clear h;go_enter func150,ntmps150;go_wp2;go_loopw [7] (fun i wr=>∃k:Nat,k<=L.aI.length/\i=ae au (k:Int)/\Below w.heap.size w wr/\Hid (bE (nU L) k=true)) (fun i wr=>L.aI.length-(intOf i).toNat)
 case atStart=>exact⟨0,Nat.zero_le _,rfl,Below.refl _ _,hide rfl⟩
 case round =>
  obtain⟨k,hk,rfl,HB,HS⟩:=hrel;by_cases hlt:k<L.aI.length
  ·obtain⟨b,off,rfl,hb,c0,c1,c2,c3,s1,s2,_,_⟩:=(HL.below HB) k hlt;have hlt':(k:Int)<(L.aI.length:Int):=by omega
   by_cases hz:k=0
   ·have hri:Hid (gT L k=true):=hide (by rw[hz];rfl);have hz':decide ((0:Int)<(k:Int))=false:=by simp;omega
    have hz'':decide (0<k)=false:=by simp;omega
    clear hz;cases q1:dW (L.aI[k]).name
    ·have HR:Hid (bE (nU L) L.aI.length=false):=hide (by rw[aZ hlt (by rw[gP hlt,hri.out,q1];simp)]);go_wp2_with (fail);go_quiet (fail);go_wp2_with (first|(go_at_call 157;refine(dz _ _ s1).mono ?_;rintro e w'⟨rfl,rfl⟩)|(go_at_call 158;refine(dI _ _ s2).mono ?_;rintro e w'⟨rfl,rfl⟩)|(go_at_call 103;refine(bH _ _ _ _).mono ?_;rintro e w'⟨rfl,rfl⟩));go_ret;exact⟨by rw[HR.out];rfl,below_drewN (aF HB _) _⟩
    ·
     cases q2:jU (L.aI[k]).cur
     ·have HR:Hid (bE (nU L) L.aI.length=false):=hide (by rw[aZ hlt (by rw[gP hlt,hri.out,q1,q2];simp)]);go_wp2_with (fail);go_quiet (fail);go_wp2_with (first|(go_at_call 157;refine(dz _ _ s1).mono ?_;rintro e w'⟨rfl,rfl⟩)|(go_at_call 158;refine(dI _ _ s2).mono ?_;rintro e w'⟨rfl,rfl⟩)|(go_at_call 103;refine(bH _ _ _ _).mono ?_;rintro e w'⟨rfl,rfl⟩));go_ret;exact⟨by rw[HR.out];rfl,below_drewN (aF HB _) _⟩
     ·
      cases q3:eu (-1) 1000000000000 (L.aI[k]).bB
      ·have HR:Hid (bE (nU L) L.aI.length=false):=hide (by rw[aZ hlt (by rw[gP hlt,hri.out,q1,q2,q3];simp)]);go_wp2_with (fail);go_quiet (fail);go_wp2_with (first|(go_at_call 157;refine(dz _ _ s1).mono ?_;rintro e w'⟨rfl,rfl⟩)|(go_at_call 158;refine(dI _ _ s2).mono ?_;rintro e w'⟨rfl,rfl⟩)|(go_at_call 103;refine(bH _ _ _ _).mono ?_;rintro e w'⟨rfl,rfl⟩));go_ret;exact⟨by rw[HR.out];rfl,below_drewN (aF HB _) _⟩
      ·
       cases q4:eu (-1000000000000) 1000000000000 (L.aI[k]).aS
       ·have HR:Hid (bE (nU L) L.aI.length=false):=hide (by rw[aZ hlt (by rw[gP hlt,hri.out,q1,q2,q3,q4];simp)]);go_wp2_with (fail);go_quiet (fail);go_wp2_with (first|(go_at_call 157;refine(dz _ _ s1).mono ?_;rintro e w'⟨rfl,rfl⟩)|(go_at_call 158;refine(dI _ _ s2).mono ?_;rintro e w'⟨rfl,rfl⟩)|(go_at_call 103;refine(bH _ _ _ _).mono ?_;rintro e w'⟨rfl,rfl⟩));go_ret;exact⟨by rw[HR.out];rfl,below_drewN (aF HB _) _⟩
       ·
        have HS2:Hid (bE (nU L) (k+1)=true):=hide (dQ HS.out (by rw[gP hlt,hri.out,q1,q2,q3,q4];rfl));go_wp2_with (fail);go_quiet (fail);go_wp2_with (first|(go_at_call 157;refine(dz _ _ s1).mono ?_;rintro e w'⟨rfl,rfl⟩)|(go_at_call 158;refine(dI _ _ s2).mono ?_;rintro e w'⟨rfl,rfl⟩)|(go_at_call 103;refine(bH _ _ _ _).mono ?_;rintro e w'⟨rfl,rfl⟩));exact⟨⟨_,by omega,by go_num,below_drewN (aF HB _) _,HS2⟩,by simp[intOf];omega⟩
   ·obtain⟨m,hm⟩:∃m,k=m+1:=⟨k-1,by omega⟩;have hm3:m<L.aI.length:=by omega
    obtain⟨b',off',heq,_,p0,_,_,_,_⟩:=(HL.below HB) m hm3;simp only[Option.some.injEq,Addr.mk.injEq,and_true] at heq;obtain⟨rfl,rfl⟩:=heq;have hz':(0:Int)<(k:Int):=by omega
    have hm1:IntKind.i64.wrap ((k:Int)-1)=(m:Int):=by rw[show (k:Int)-1=(m:Int) by omega];simp only[IntKind.wrap,IntKind.signed,IntKind.bits];simp;omega
    have hm2:(m:Int)<(L.aI.length:Int):=by omega
    have hz'':0<k:=by omega
    have hrs:gT L k=Op.bytesLess (L.aI[m]).name.toList (L.aI[k]).name.toList:=by subst hm;exact kZ hlt
    cases q0:Op.bytesLess (L.aI[m]).name.toList (L.aI[k]).name.toList
    ·have HR:Hid (bE (nU L) L.aI.length=false):=hide (by rw[aZ hlt (by rw[gP hlt,hrs,q0];simp)]);clear hrs hm hz;go_wp2_with (fail);go_quiet (fail);go_wp2_with (first|(go_at_call 157;refine(dz _ _ s1).mono ?_;rintro e w'⟨rfl,rfl⟩)|(go_at_call 158;refine(dI _ _ s2).mono ?_;rintro e w'⟨rfl,rfl⟩)|(go_at_call 103;refine(bH _ _ _ _).mono ?_;rintro e w'⟨rfl,rfl⟩));go_ret;exact⟨by rw[HR.out];rfl,below_drewN (aF HB _) _⟩
    ·have hri:Hid (gT L k=true):=hide (by rw[hrs,q0]);clear hrs hm hz;cases q1:dW (L.aI[k]).name
     ·have HR:Hid (bE (nU L) L.aI.length=false):=hide (by rw[aZ hlt (by rw[gP hlt,hri.out,q1];simp)]);go_wp2_with (fail);go_quiet (fail);go_wp2_with (first|(go_at_call 157;refine(dz _ _ s1).mono ?_;rintro e w'⟨rfl,rfl⟩)|(go_at_call 158;refine(dI _ _ s2).mono ?_;rintro e w'⟨rfl,rfl⟩)|(go_at_call 103;refine(bH _ _ _ _).mono ?_;rintro e w'⟨rfl,rfl⟩));go_ret;exact⟨by rw[HR.out];rfl,below_drewN (aF HB _) _⟩
     ·
      cases q2:jU (L.aI[k]).cur
      ·have HR:Hid (bE (nU L) L.aI.length=false):=hide (by rw[aZ hlt (by rw[gP hlt,hri.out,q1,q2];simp)]);go_wp2_with (fail);go_quiet (fail);go_wp2_with (first|(go_at_call 157;refine(dz _ _ s1).mono ?_;rintro e w'⟨rfl,rfl⟩)|(go_at_call 158;refine(dI _ _ s2).mono ?_;rintro e w'⟨rfl,rfl⟩)|(go_at_call 103;refine(bH _ _ _ _).mono ?_;rintro e w'⟨rfl,rfl⟩));go_ret;exact⟨by rw[HR.out];rfl,below_drewN (aF HB _) _⟩
      ·
       cases q3:eu (-1) 1000000000000 (L.aI[k]).bB
       ·have HR:Hid (bE (nU L) L.aI.length=false):=hide (by rw[aZ hlt (by rw[gP hlt,hri.out,q1,q2,q3];simp)]);go_wp2_with (fail);go_quiet (fail);go_wp2_with (first|(go_at_call 157;refine(dz _ _ s1).mono ?_;rintro e w'⟨rfl,rfl⟩)|(go_at_call 158;refine(dI _ _ s2).mono ?_;rintro e w'⟨rfl,rfl⟩)|(go_at_call 103;refine(bH _ _ _ _).mono ?_;rintro e w'⟨rfl,rfl⟩));go_ret;exact⟨by rw[HR.out];rfl,below_drewN (aF HB _) _⟩
       ·
        cases q4:eu (-1000000000000) 1000000000000 (L.aI[k]).aS
        ·have HR:Hid (bE (nU L) L.aI.length=false):=hide (by rw[aZ hlt (by rw[gP hlt,hri.out,q1,q2,q3,q4];simp)]);go_wp2_with (fail);go_quiet (fail);go_wp2_with (first|(go_at_call 157;refine(dz _ _ s1).mono ?_;rintro e w'⟨rfl,rfl⟩)|(go_at_call 158;refine(dI _ _ s2).mono ?_;rintro e w'⟨rfl,rfl⟩)|(go_at_call 103;refine(bH _ _ _ _).mono ?_;rintro e w'⟨rfl,rfl⟩));go_ret;exact⟨by rw[HR.out];rfl,below_drewN (aF HB _) _⟩
        ·
         have HS2:Hid (bE (nU L) (k+1)=true):=hide (dQ HS.out (by rw[gP hlt,hri.out,q1,q2,q3,q4];rfl));go_wp2_with (fail);go_quiet (fail);go_wp2_with (first|(go_at_call 157;refine(dz _ _ s1).mono ?_;rintro e w'⟨rfl,rfl⟩)|(go_at_call 158;refine(dI _ _ s2).mono ?_;rintro e w'⟨rfl,rfl⟩)|(go_at_call 103;refine(bH _ _ _ _).mono ?_;rintro e w'⟨rfl,rfl⟩));exact⟨⟨_,by omega,by go_num,below_drewN (aF HB _) _,HS2⟩,by simp[intOf];omega⟩
  ·have hk':¬ (k:Int)<(L.aI.length:Int):=by omega
   have HR:Hid (bE (nU L) L.aI.length=true):=hide (by
    have hs:=HS.out;rw[show k=L.aI.length by omega] at hs;exact hs)
   go_wp2;go_ret;exact⟨by rw[HR.out];rfl,HB⟩
theorem u9:prog.underlying 9=some .string:=by kernel_rfl
theorem u64:prog.underlying 218=some (.map 9 223):=by kernel_rfl
theorem LD(w:World):(zeroValue 223).run prog w=.ok (.pointer none) w:=by kernel_rfl
theorem zJ:Keyed prog 9:=string_keyed u9
def kn(s:ByteArray):Lit:=Lit.string s.data.toList
theorem Ja{s:ByteArray}(h:s.size<=maxLen):keyOf prog 9 (ag s)=some (kn s):=_root_.Go.WideMaps.keyOf_string_mk u9 h
theorem mg{a b:ByteArray}(h:kn a=kn b):a=b:=by
 simp only[kn,Lit.string.injEq] at h;exact ByteArray.ext (Array.toList_inj.1 h)
theorem zP(s:ByteArray):WideAt.IsKeyLit (kn s):=trivial
def pg(p:Nat):DataW Unit:=.lit (.int .i64 (p:Int))
def gq(v:Value):Option (DataW Unit×List MemPlace):=match v with
 | ai (some ⟨p,0,none⟩)=>some (pg p,[])
 | _=>none
theorem Mm(p:Nat):gq (ai (some ⟨p,0,none⟩))=some (pg p,[]):=rfl
theorem CQ{v:Value}{y:DataW Unit×List MemPlace}(h:gq v=some y):∃p,v=ai (some ⟨p,0,none⟩)/\y=(pg p,[]):=by
 unfold gq at h;split at h
 ·exact⟨_,rfl,(Option.some.inj h).symm⟩
 ·cases h
theorem zo{a b:Nat}(h:pg a=pg b):a=b:=by
 simp[pg] at h;omega
def jW(w:World)(q:Nat)(x:bF):Prop :=
 q<w.heap.size/\w.cell? ⟨q,0,none⟩=some (ag x.name)/\w.cell? ⟨q,1,none⟩=some (ag x.cur)/\w.cell? ⟨q,2,none⟩=some (ae au x.bB)/\w.cell? ⟨q,3,none⟩=some (ae au x.aS)
theorem jW.kept{w w':World}{q:Nat}{x:bF}(h:jW w q x)(hs:w.heap.size<=w'.heap.size)(hk:∀a v,w.cell? a=some v->w'.cell? a=some v):jW w' q x :=
 ⟨Nat.lt_of_lt_of_le h.1 hs,hk _ _ h.2.1,hk _ _ h.2.2.1,hk _ _ h.2.2.2.1,hk _ _ h.2.2.2.2⟩
structure vW(w:World)(D:DataW Unit)(l:List bF):Prop where
 at_:∀i (h:i<l.length),∃q,(∀z,D.atKey (kn l[i].name) z=pg q)/\jW w q l[i]
 only:∀kl,Maps.has D kl=true->∃i,∃h:i<l.length,kl=kn l[i].name
theorem vW.kept{w w':World}{D:DataW Unit}{l:List bF}(h:vW w D l)(hs:w.heap.size<=w'.heap.size)(hk:∀a v,w.cell? a=some v->w'.cell? a=some v):vW w' D l :=
 ⟨fun i hi=>by obtain⟨q,h1,h2⟩:=h.at_ i hi;exact⟨q,h1,h2.kept hs hk⟩,h.only⟩
def oP(w:World)(m:Nat)(l:List bF):Prop:=∃D,w.ownsMap prog 9 gq m l.length D/\vW w D l
theorem rD(w:World):oP (w.alloc (.map #[] 0)) w.heap.size [] :=
 ⟨.map [],World.ownsMap_made _ _ _ _,fun i hi=>by simp at hi,fun kl h=>by simp[Maps.has] at h⟩
theorem gy{w w':World}(b:Below w.heap.size w w'):w.grownBy w' none:=⟨b.os,b.tape,b.output,b.size,fun i hi _=>b.block i hi⟩
theorem oP.below{w w':World}{m:Nat}{l:List bF}(h:oP w m l)(b:Below w.heap.size w w'):oP w' m l:=by
 obtain⟨D,ho,hi⟩:=h;exact⟨D,ho.kept (gy b) (by simp),hi.kept b.size (aN b)⟩
theorem EI{w:World}{m n:Nat}{D:DataW Unit}(h:w.ownsMap prog 9 gq m n D){a:Addr}{v:Value}(hc:w.cell? a=some v):a.block≠m:=by
 obtain⟨es,clock,hb,_⟩:=h;intro e;unfold World.cell? at hc;rw[e,hb] at hc;simp at hc
theorem Kk{w w':World}{m n:Nat}{D:DataW Unit}(h:w.ownsMap prog 9 gq m n D)(g:w.grownBy w' (some m)):∀a v,w.cell? a=some v->w'.cell? a=some v :=
 fun a v hc=>g.cell hc (fun e=>EI h hc (Option.some.inj e))
theorem Km{w w':World}{D:DataW Unit}{l:List bF}{x:bF}{q:Nat}(hm:Maps.IsMap D)(h:vW w D l)(hs:w.heap.size<=w'.heap.size)(hk:∀a v,w.cell? a=some v->w'.cell? a=some v)
  (hx:∀i (hi:i<l.length),l[i].name≠x.name) (hq:jW w' q x):vW w' (D.put (kn x.name) (pg q)) (l++[x]):=by
 refine⟨fun i hi=>?_,fun kl hkl=>?_⟩
 ·rcases Nat.lt_or_ge i l.length with h1|h1
  ·obtain⟨q',a1,a2⟩:=h.at_ i h1;rw[List.getElem_append_left h1];exact⟨q',fun z=>by rw[atKey_put_other (fun e=>hx i h1 (mg e))];exact a1 z,a2.kept hs hk⟩
  ·have:i=l.length:=by simp at hi;omega
   subst this;simp only[List.getElem_concat_length];exact⟨q,fun z=>atKey_put_same hm (zP _) _ z,hq⟩
 ·by_cases e:kl=kn x.name
  ·exact⟨l.length,by simp,by simp[e]⟩
  ·rw[has_put_other e] at hkl;obtain⟨i,hi,rfl⟩:=h.only kl hkl;exact⟨i,by simp;omega,by rw[List.getElem_append_left hi]⟩
theorem oZ{ops:Array Oper}{rest:List Oper}{o:Oper}{a:Act}{Q:Exit->Act->World->Prop}(w:World)(hg:o.guard=none)(it:Operand)(hop:o.op=Op.next it false)(m r n:Nat)(D:DataW Unit)(left:Lit->Bool)(cnt:Nat)
  (hit:a.eval it=ai (some ⟨r,0,none⟩)) (h:w.ranges prog 9 gq m r n D left cnt) (l:List bF) (hi:vW w D l)
  (hDone:(∀kl,left kl=false)->wpList prog ops Q rest (a.put o.dst (.tuple #[.bool false])) w)
  (hMore:∀(j:Nat)(hj:j<l.length)(q:Nat)(w':World)(cnt':Nat),left (kn l[j].name)=true->jW w q l[j]->w'.ranges prog 9 gq m r n D (fun z=>left z&&!z.sameKey (kn l[j].name)) cnt'->cnt'<cnt->w.grownBy w' (some r)->w'.heap.size=w.heap.size ->
   (Instr.entry (ai (some ⟨r,0,none⟩))).run prog w'=.ok (.tuple #[ag l[j].name,ai (some ⟨q,0,none⟩)]) w'->wpList prog ops Q rest (a.put o.dst (.tuple #[.bool true,ag l[j].name,ai (some ⟨q,0,none⟩)])) w') :
  wpList prog ops Q (o::rest) a w:=by
 refine wpList_next_ranges w hg it hop 9 zJ gq ag (fun q:Nat=>ai (some ⟨q,0,none⟩)) (fun key kl hk=>by obtain⟨s,rfl,_⟩:=WideMaps.string_of_keyOf u9 hk;exact⟨s,rfl⟩) (fun v y hv=>by obtain⟨p,rfl,_⟩:=CQ hv;exact⟨p,rfl⟩)
  m r n D left cnt hit h (fun _ hl=>hDone hl) (fun x c kl y w' cnt' hkey hlk hv hat hrg hlt hgr hsz hen=>?_)
 obtain⟨j,hj,rfl⟩:=hi.only kl (has_true_of_atKey hat);obtain⟨q,hq,hb⟩:=hi.at_ j hj;obtain⟨p,e1,rfl⟩:=CQ hv;simp only[Value.pointer.injEq,Option.some.injEq,Addr.mk.injEq,and_true] at e1;subst e1;obtain rfl:=zo ((hat (pg 0)).symm.trans (hq (pg 0)));obtain⟨s,e2,e3,_⟩:=WideMaps.string_of_keyOf u9 hkey;cases e2;obtain rfl:=mg (a:=l[j].name) e3;exact hMore j hj _ w' cnt' hlk hb hrg hlt hgr hsz hen
theorem Dc{x:World}{m n:Nat}{D:DataW Unit}(ho:x.ownsMap prog 9 gq m n D){nm:ByteArray}(hn:nm.size<=maxLen){q:Nat}(hq:∀z,D.atKey (kn nm) z=pg q) :
  (Instr.lookup 218 (.map (some m)) (ag nm) false).run prog x=.ok (ai (some ⟨q,0,none⟩)) x:=by
 obtain⟨es,clock,hb,F,_,rfl⟩:=ho;rcases Maps.fit_look (t:=218) (e:=223) false zJ u64 (LD x) hb F (Ja hn) with ⟨hrun,hno,hat⟩|⟨e0,y,_,_,hrun,hR,hat,_⟩
 ·have h2:=(hq (pg (q+1))).symm.trans (hat (pg (q+1)));have:=zo h2;omega
 ·obtain⟨p,e1,rfl⟩:=CQ hR;obtain rfl:=zo ((hat (pg 0)).symm.trans (hq (pg 0)));rw[hrun,e1];rfl
theorem I8{x:World}{m n:Nat}{D:DataW Unit}(ho:x.ownsMap prog 9 gq m n D){nm:ByteArray}(hn:nm.size<=maxLen)(hq:Maps.has D (kn nm)=false) :
  (Instr.lookup 218 (.map (some m)) (ag nm) false).run prog x=.ok (.pointer none) x:=by
 obtain⟨es,clock,hb,F,_,rfl⟩:=ho;rcases Maps.fit_look (t:=218) (e:=223) false zJ u64 (LD x) hb F (Ja hn) with ⟨hrun,hno,hat⟩|⟨e0,y,_,_,hrun,hR,hat,_⟩
 ·exact hrun
 ·rw[has_true_of_atKey hat] at hq;cases hq
theorem dG(w:World):∀k,Below w.heap.size w (w.drewN k)
 | 0=>Below.refl _ _
 | k+1=>(dG w k).drew
theorem sw{w:World}{m:Nat}{l:List bF}(h:oP w m l){nm:ByteArray}(hn:nm.size<=maxLen) :
  (∃j,∃hj:j<l.length,∃q,l[j].name=nm/\jW w q l[j]/\∀k,(Instr.lookup 218 (.map (some m)) (ag nm) false).run prog (w.drewN k)=.ok (ai (some ⟨q,0,none⟩)) (w.drewN k)) \/
  ((∀j (hj:j<l.length),l[j].name≠nm)/\∀k,(Instr.lookup 218 (.map (some m)) (ag nm) false).run prog (w.drewN k)=.ok (.pointer none) (w.drewN k)):=by
 obtain⟨D,ho,hi⟩:=h;have hoN:∀k,(w.drewN k).ownsMap prog 9 gq m l.length D:=fun k=>ho.kept (gy (dG w k)) (by simp)
 by_cases hex:∃j,∃hj:j<l.length,l[j].name=nm
 ·obtain⟨j,hj,e⟩:=hex;obtain⟨q,hq,hb⟩:=hi.at_ j hj;rw[e] at hq;exact .inl ⟨j,hj,q,e,hb,fun k=>Dc (hoN k) hn hq⟩
 ·have hno:∀j (hj:j<l.length),l[j].name≠nm:=fun j hj e=>hex ⟨j,hj,e⟩
  refine .inr ⟨hno,fun k=>I8 (hoN k) hn ?_⟩;rw[Bool.eq_false_iff];intro hh;obtain⟨j,hj,e⟩:=hi.only _ hh;exact hno j hj (mg e).symm
def lL(w:World)(q:Nat)(L:bM):Prop:=q<w.heap.size/\∃m h s ch cs,w.cell? ⟨q,0,none⟩=some (.map (some m))/\w.cell? ⟨q,1,none⟩=some (af h L.az.length ch)/\w.cell? ⟨q,2,none⟩=some (af s L.aH.length cs) /\
 fM w h L.az/\ji w s L.aH/\oP w m L.aI
theorem lL.below{w w':World}{q:Nat}{L:bM}(k:lL w q L)(b:Below w.heap.size w w'):lL w' q L:=by
 obtain⟨hq,m,h,s,ch,cs,c0,c1,c2,hh,ha,hm⟩:=k;exact⟨Nat.lt_of_lt_of_le hq b.size,m,h,s,ch,cs,aN b _ _ c0,aN b _ _ c1,aN b _ _ c2,hh.below b,ha.below b,hm.below b⟩
def JI(L:bM)(w:World)(e:Ending)(w':World):Prop:=Below w.heap.size w w'/\∃q,e=.returned (ai (some ⟨q,0,none⟩))/\lL w' q L
def mG(w:World)(va vh vs:Value)(x:World):Prop:=x.cell? ⟨w.heap.size,1,none⟩=some vh/\x.cell? ⟨w.heap.size,2,none⟩=some vs/\Hid (Below (w.heap.size+1) (w.alloc (.cells #[va,vh,vs] 31)) x)
theorem vO{w:World}{va vh vs:Value}{x:World}(h:Below (w.heap.size+1) (w.alloc (.cells #[va,vh,vs] 31)) x):mG w va vh vs x :=
 ⟨by rw[h.cell (by simp)];simp,by rw[h.cell (by simp)];simp,hide h⟩
theorem mG.alloc{w:World}{va vh vs:Value}{x:World}(h:mG w va vh vs x)(o:Obj):mG w va vh vs (x.alloc o) :=
 vO (h.2.2.alloc (by have:=h.2.2.size;simp at this;omega) o)
theorem mG.on{w:World}{va vh vs:Value}{x y:World}(h:mG w va vh vs x)(b:Below x.heap.size x y):mG w va vh vs y :=
 vO (h.2.2.trans (b.mono (by have:=h.2.2.size;simp at this;omega)))
theorem mG.old{w:World}{va vh vs:Value}{x:World}(h:mG w va vh vs x):Below w.heap.size w x :=
 ((Below.refl w.heap.size w).alloc (Nat.le_refl _) _).trans (h.2.2.mono (by omega))
def Qv(w:World)(va vh vs:Value)(L:bM)(q:Nat)(x:World)(m:Nat):Prop :=
 mG w va vh vs x/\w.heap.size+1<=m/\q<x.heap.size/\x.cell? ⟨q,0,none⟩=some (.map (some m))/\(∃h ch,x.cell? ⟨q,1,none⟩=some (af h L.az.length ch)/\fM x h L.az)/\(∃s cs,x.cell? ⟨q,2,none⟩=some (af s L.aH.length cs)/\ji x s L.aH)/\oP x m []
theorem Il{w:World}{va vh vs:Value}{L:bM}{x:World}{m ch cs:Nat}{h s:Option Addr}(hb:mG w va vh vs (x.alloc (.cells #[.map (some m),af h L.az.length ch,af s L.aH.length cs] 222)))(hm:w.heap.size+1<=m)
  (hh:fM x h L.az) (hs:ji x s L.aH) (hp:oP x m []):Qv w va vh vs L x.heap.size (x.alloc (.cells #[.map (some m),af h L.az.length ch,af s L.aH.length cs] 222)) m :=
 ⟨hb,hm,by simp,by simp,⟨h,ch,by simp,hh.below ((Below.refl _ _).alloc (Nat.le_refl _) _)⟩,⟨s,cs,by simp,hs.below ((Below.refl _ _).alloc (Nat.le_refl _) _)⟩,hp.below ((Below.refl _ _).alloc (Nat.le_refl _) _)⟩
structure JF(w:World)(va vh vs:Value)(L:bM)(q m:Nat)(h s:Option Addr)(ch cs:Nat)(l:List bF)(x:World):Prop where
 box:mG w va vh vs x
 lt:q<x.heap.size
 c0:x.cell? ⟨q,0,none⟩=some (.map (some m))
 c1:x.cell? ⟨q,1,none⟩=some (af h L.az.length ch)
 c2:x.cell? ⟨q,2,none⟩=some (af s L.aH.length cs)
 az:fM x h L.az
 aH:ji x s L.aH
 map:oP x m l
def mo(x:bF):Obj:=.cells #[ag x.name,ag x.cur,ae au x.bB,ae au x.aS] 106
theorem fM.keeps{w w':World}{a:Option Addr}{l:List bP}(h:fM w a l)(hs:w.heap.size<=w'.heap.size)(hk:∀a v,w.cell? a=some v->w'.cell? a=some v):fM w' a l:=fun i hi=>by
 obtain⟨b,off,e,hb,h0,h1,h2,h3,r⟩:=h i hi;exact⟨b,off,e,by omega,hk _ _ h0,hk _ _ h1,hk _ _ h2,hk _ _ h3,r⟩
theorem ji.keeps{w w':World}{a:Option Addr}{l:List Sn}(h:ji w a l)(hs:w.heap.size<=w'.heap.size)(hk:∀a v,w.cell? a=some v->w'.cell? a=some v):ji w' a l:=fun i hi=>by
 obtain⟨b,off,e,hb,h0,h1,r⟩:=h i hi;exact⟨b,off,e,by omega,hk _ _ h0,hk _ _ h1,r⟩
theorem PK(x:World)(y:bF):jW ((x.alloc (mo y)).alloc (mo y)) (x.heap.size+1) y:=by
 unfold mo;exact⟨by simp,by simp,by simp,by simp,by simp⟩
theorem mid_step{w:World}{va vh vs:Value}{L:bM}{q m:Nat}{h s:Option Addr}{ch cs:Nat}{k:Nat}{x:World}(hk:k<L.aI.length)(hl:L.aI.length<=12)(hm:w.heap.size+1<=m)(M:JF w va vh vs L q m h s ch cs (L.aI.take k) x)
  (hd:∀i j (hi:i<L.aI.length) (hj:j<L.aI.length),i<j->L.aI[i].name≠L.aI[j].name) (hn:L.aI[k].name.size<=maxLen) :
  ∃y,(Instr.mapUpdate 218 (.map (some m)) (ag L.aI[k].name) (ai (some ⟨x.heap.size+1,0,none⟩))).run prog ((x.alloc (mo L.aI[k])).alloc (mo L.aI[k])).drew=.ok () y/\JF w va vh vs L q m h s ch cs (L.aI.take (k+1)) y:=by
 obtain⟨D,ho,hi⟩:=M.map;have hB2:Below x.heap.size x ((x.alloc (mo L.aI[k])).alloc (mo L.aI[k])).drew:=(((Below.refl _ _).alloc (Nat.le_refl _) _).alloc (by simp) _).drew;have ho2:((x.alloc (mo L.aI[k])).alloc (mo L.aI[k])).drew.ownsMap prog 9 gq m (L.aI.take k).length D:=ho.kept (gy hB2) (by simp);obtain⟨y,hrun,ho3,hg⟩:=ho2.update (t:=218) (e:=223) zJ u64 (by unfold maxLen;rw[List.length_take];omega) (Ja hn) (Mm (x.heap.size+1));have hkeep:=Kk ho2 hg;have hkeep2:∀a v,x.cell? a=some v->y.cell? a=some v:=fun a v hc=>hkeep a v (aN hB2 a v hc)
 have hs2:x.heap.size<=y.heap.size:=Nat.le_trans hB2.size hg.size;have hxm:x.heap.size<=((x.alloc (mo L.aI[k])).alloc (mo L.aI[k])).drew.heap.size:=hB2.size;refine⟨y,hrun,⟨?_,Nat.lt_of_lt_of_le M.lt hs2,hkeep2 _ _ M.c0,hkeep2 _ _ M.c1,hkeep2 _ _ M.c2,M.az.keeps hs2 hkeep2,M.aH.keeps hs2 hkeep2,⟨D.put (kn L.aI[k].name) (pg (x.heap.size+1)),?_,?_⟩⟩⟩
 ·have b1:=M.box.2.2.out;have hsz:=b1.size;simp only[World.size_alloc] at hsz;have b2:=b1.trans (hB2.mono hsz);exact vO (b2.grown hg (by have:=hB2.size;omega) (fun j hj=>by cases hj;exact hm))
 ·have e1:(L.aI.take (k+1)).length=(L.aI.take k).length+1:=by simp only[List.length_take];omega
  rw[e1];exact ho3
 ·rw[dX _ _ hk];refine Km ho.isMap hi hs2 hkeep2 (fun i hi'=>?_) ((PK x _).kept hg.size hkeep);have hik:i<k:=by simp only[List.length_take] at hi';omega
  rw[List.getElem_take];exact hd i k (by omega) hk hik
set_option maxRecDepth 100000 in
theorem AC(a h s:Option Addr)(ca ch cs:Nat)(L:bM)(w:World)(g1:L.aI.length<=12)(g2:L.az.length<=10)(g3:L.aH.length<=40)(hL:iO w a h s L)(hd:∀i j (hi:i<L.aI.length) (hj:j<L.aI.length),i<j->L.aI[i].name≠L.aI[j].name) :
  Calls prog 130 #[aj #[af a L.aI.length ca,af h L.az.length ch,af s L.aH.length cs]] w fun e w'=>JI L w e w':=by
 have HL:=hide hL;have HD:=hide hd;clear hL hd;have hmm:=@run_makeMap prog;go_enter func130,ntmps130;go_upto_region 1 with fail
 go_cut [3] from 7 to 15 (fun b wx=>∃q m,b=ai (some ⟨q,0,none⟩)/\Hid (Qv w (af a L.aI.length ca) (af h L.az.length ch) (af s L.aH.length cs) L q wx m))
 case first =>
  go_region_held (fun x=>x.cell? ⟨w.heap.size,1,none⟩=some (af h L.az.length ch)/\x.cell? ⟨w.heap.size,2,none⟩=some (af s L.aH.length cs)/\Hid (Below (w.heap.size+1) (w.alloc (.cells #[af a L.aI.length ca,af h L.az.length ch,af s L.aH.length cs] 31)) x))
   (first|exact vO (Below.refl _ _).drew|exact mG.alloc (by assumption) _|exact mG.on (by assumption) (by assumption))
   (first|(go_at_call 159;refine(Iw _ _ _ _ (by omega) (HL.az.below (mG.old (by assumption)))).mono ?_;rintro e wh⟨hbh,ah,caph,rfl,hah⟩)|(go_at_call 160;refine(Iy _ _ _ _ (by omega) (HL.aH.below (mG.old (by assumption)))).mono ?_;rintro e ws⟨hbs,as',caps,rfl,has⟩))
  ·have hmp:=(((rD (w.alloc (.cells #[af a L.aI.length ca,af h L.az.length ch,af s L.aH.length cs] 31))).below ((Below.refl _ _).drew)).below hbh).below hbs;rw[World.size_alloc] at hmp;have HC:=hide (Il (w:=w) (L:=L) (x:=ws) (m:=w.heap.size+1) (by assumption) (Nat.le_refl _) (hah.below hbs) has hmp);clear hmp;go_wp2_with fail;go_meet
   case rel=>exact⟨_,_,rfl,HC⟩
  ·have HC:=hide (Il (L:=L) (x:=ws) (by assumption) (by have:=hbh.size;simp at this;exact this) ((hah.below ((Below.refl _ _).alloc (Nat.le_refl _) _)).below hbs) has ((rD wh).below hbs));go_wp2_with fail;go_meet
   case rel=>exact⟨_,_,rfl,HC⟩
  ·have HC:=hide (Il (L:=L) (x:=ws.alloc (.map #[] 0)) (by assumption) (by have:=hbh.size;have:=hbs.size;simp at *;omega) ((hah.below hbs).below ((Below.refl _ _).alloc (Nat.le_refl _) _)) (has.below ((Below.refl _ _).alloc (Nat.le_refl _) _)) (rD ws));go_wp2_with fail;go_meet
   case rel=>exact⟨_,_,by simp,HC⟩
 case rest =>
  obtain⟨q,m,rfl,HC⟩:=hcut;obtain⟨hbox,hm,hq,c0,⟨h',ch',c1,hh⟩,⟨s',cs',c2,ha⟩,hmap⟩:=HC.out;have e0:wc.cell? ⟨w.heap.size,0,none⟩=some (af a L.aI.length ca):=by rw[hbox.2.2.cell (by simp)];simp
  have HM:Hid (JF w (af a L.aI.length ca) (af h L.az.length ch) (af s L.aH.length cs) L q m h' s' ch' cs' (L.aI.take 0) wc):=hide ⟨hbox,hq,c0,c1,c2,hh,ha,hmap⟩;clear hbox hq c0 c1 c2 hh ha hmap HC;go_wp2;go_loopw [19] (fun i wr=>∃k:Nat,k<=L.aI.length/\i=ae au (k:Int)/\Hid (JF w (af a L.aI.length ca) (af h L.az.length ch) (af s L.aH.length cs) L q m h' s' ch' cs' (L.aI.take k) wr)) (fun i wr=>L.aI.length-(intOf i).toNat)
  case atStart=>exact⟨0,Nat.zero_le _,rfl,HM⟩
  case round =>
   clear HM e0;obtain⟨k,hk,rfl,HM⟩:=hrel;by_cases hlt:k<L.aI.length
   ·obtain⟨b,off,rfl,hb,d0,d1,d2,d3,s1,s2,_,_⟩:=(HL.aI.below HM.box.old) k hlt;have hlt':(k:Int)<(L.aI.length:Int):=by omega
    have c0:=HM.c0;have hqx:=HM.lt;obtain⟨y,hrun,HM2⟩:=mid_step hlt g1 hm HM.out HD.out s1;have HM3:=hide HM2;clear HM2;simp only[mo] at hrun;go_wp2_with fail;go_region;go_wp2;exact⟨⟨k+1,by omega,by go_num,HM3⟩,by simp[intOf];omega⟩
   ·have hk':¬ (k:Int)<(L.aI.length:Int):=by omega
    have HE:Hid (JI L w (.returned (ai (some ⟨q,0,none⟩))) wr):=hide (by
     have M:=HM.out;rw[List.take_of_length_le (by omega)] at M;exact⟨M.box.old,q,rfl,M.lt,m,h',s',ch',cs',M.c0,M.c1,M.c2,M.az,M.aH,M.map⟩)
    go_wp2;go_ret;exact HE.out
theorem nD(q:Nat)(L:bM)(nm:ByteArray)(w:World)(hs:jq L.az)(hB:lL w q L) :
  Calls prog 199 #[ai (some ⟨q,0,none⟩),ag nm] w fun e w'=>e=.returned (ae au (bf nm L.az))/\Below w.heap.size w w':=by
 obtain⟨hq,m,h,s,ch,cs,c0,c1,c2,hh,ha,hm⟩:=hB;have HC:=hide hh;have HS:=hide hs;have hl:L.az.length<=10:=hs.1;clear hh hs c0 c2 ha hm;go_enter func199,ntmps199;go_wp2;go_loopw [5,13] (fun s i wr=>∃k:Nat,k<=L.az.length/\i=ae au (k:Int)/\s=ae au (bf nm (L.az.take k))/\Below w.heap.size w wr) (fun s i wr=>L.az.length-(intOf i).toNat)
 case atStart=>exact⟨0,Nat.zero_le _,rfl,rfl,Below.refl _ _⟩
 case round =>
  obtain⟨k,hk,rfl,rfl,HB⟩:=hrel;by_cases hlt:k<L.az.length
  ·obtain⟨b,off,rfl,hb,d0,d1,d2,d3,_⟩:=(HC.below HB) k hlt;have hlt':(k:Int)<(L.az.length:Int):=by omega
   have hbd:=pJ nm L.az k HS.out;have ham:=HS.2 (L.az[k]) (List.getElem_mem hlt);obtain⟨b0,b1⟩:=hbd;obtain⟨m0,m1⟩:=ham;have hst:bf nm (L.az.take (k+1))=bf nm (L.az.take k)+(if (L.az[k]).fr=nm then (L.az[k]).aV else 0):=by
    rw[dX L.az k hlt,vD];simp[bf]
   cases hq:((L.az[k]).fr.toList==nm.toList)
   ·have hne:¬ (L.az[k]).fr=nm:=fun e=>by rw[bT.2 e] at hq;cases hq
    have HT:Hid (bf nm (L.az.take (k+1))=bf nm (L.az.take k)):=hide (by rw[hst,if_neg hne];omega);clear hst hne;generalize bf nm (L.az.take k)=x at *;go_wp2;exact⟨⟨k+1,by omega,by go_num,by rw[HT.out],aF HB _⟩,by simp[intOf];omega⟩
   ·have HT:Hid (bf nm (L.az.take (k+1))=bf nm (L.az.take k)+(L.az[k]).aV):=hide (by rw[hst,if_pos (bT.1 hq)]);clear hst;generalize bf nm (L.az.take k)=x at *;go_wp2;exact⟨⟨k+1,by omega,by go_num,by rw[HT.out],aF HB _⟩,by simp[intOf];omega⟩
  ·have HE:Hid (L.az.take k=L.az):=hide (by rw[List.take_of_length_le (by omega)]);have hk':¬ (k:Int)<(L.az.length:Int):=by omega
   go_wp2;go_ret;exact⟨by show Ending.returned (Value.int _ (bf nm (L.az.take k)))=_;rw[HE.out],HB⟩
def eU(left:Lit->Bool)(cur:ByteArray):List bF->Int
 | []=>0
 | x::xs=>(if left (kn x.name)=true then 0 else if x.cur=cur then x.aS else 0)+eU left cur xs
theorem Bl{left:Lit->Bool}{cur:ByteArray}{l:List bF}(h:∀x∈l,left (kn x.name)=true):eU left cur l=0:=by
 induction l with
 | nil=>rfl
 | cons x xs ih=>simp only[eU,h x (by simp),if_true];rw[ih (fun y hy=>h y (by simp[hy]))];rfl
theorem Fz{left:Lit->Bool}{cur:ByteArray}{l:List bF}(h:∀kl,left kl=false):eU left cur l=fe cur l:=by
 induction l with
 | nil=>rfl
 | cons x xs ih=>simp only[eU,fe,h,ih];simp
theorem Bn{left left':Lit->Bool}{cur:ByteArray}{l:List bF}(h:∀x∈l,left (kn x.name)=left' (kn x.name)):eU left cur l=eU left' cur l:=by
 induction l with
 | nil=>rfl
 | cons x xs ih=>simp only[eU,h x (by simp)];rw[ih (fun y hy=>h y (by simp[hy]))]
def Apart(l:List bF):Prop:=∀i j (hi:i<l.length) (hj:j<l.length),i<j->l[i].name≠l[j].name
theorem ku{a b:ByteArray}:(kn a).sameKey (kn b)=true ↔ a=b:=by
 constructor
 ·intro h;by_cases e:kn a=kn b
  ·exact mg e
  ·rw[sameKey_ne e] at h;cases h
 ·rintro rfl;exact WideAt.sameKey_self (zP _)
theorem DJ{left:Lit->Bool}{cur:ByteArray}:∀{l:List bF}(hd:Apart l){j:Nat}(hj:j<l.length),left (kn l[j].name)=true ->
  eU (fun z=>left z&&!z.sameKey (kn l[j].name)) cur l=eU left cur l+(if l[j].cur=cur then l[j].aS else 0):=by
 intro l
 induction l with
 | nil=>intro hd j hj;simp at hj
 | cons x xs ih =>
  intro hd j hj hl;have hd':Apart xs:=fun a b ha hb hab=>hd (a+1) (b+1) (by simpa using ha) (by simpa using hb) (by omega)
  cases j with
  | zero =>
   simp only[List.getElem_cons_zero] at hl⊢;have hself:(kn x.name).sameKey (kn x.name)=true:=ku.2 rfl;simp only[eU,hl,hself,if_true,Bool.not_true,Bool.and_false,Bool.false_eq_true,if_false];rw[Bn (left':=left) (fun y hy=>by
    obtain⟨i,hi,rfl⟩:=List.getElem_of_mem hy;have hne:=hd 0 (i+1) (by simp) (by simpa using hi) (by omega);simp only[List.getElem_cons_zero,List.getElem_cons_succ] at hne;have:(kn xs[i].name).sameKey (kn x.name)=false:=by
     rw[Bool.eq_false_iff];intro e;exact hne (ku.1 e).symm
    simp[this])]
   omega
  | succ i =>
   simp only[List.getElem_cons_succ] at hl⊢;have hi:i<xs.length:=by simpa using hj
   have hne:=hd 0 (i+1) (by simp) (by simpa using hi) (by omega);simp only[List.getElem_cons_zero,List.getElem_cons_succ] at hne;have:(kn x.name).sameKey (kn xs[i].name)=false:=by
    rw[Bool.eq_false_iff];intro e;exact hne (ku.1 e)
   simp only[eU,this,Bool.not_false,Bool.and_true];rw[ih hd' hi hl];omega
theorem Ic{left:Lit->Bool}{cur:ByteArray}{l:List bF}(h:∀x∈l,-1000000000000<=x.aS/\x.aS<=1000000000000):-(1000000000000*l.length:Int)<=eU left cur l/\eU left cur l<=1000000000000*l.length:=by
 induction l with
 | nil=>simp[eU]
 | cons x xs ih =>
  have h1:=h x (by simp);have h2:=ih (fun y hy=>h y (by simp[hy]));simp only[eU,List.length_cons];split
  ·omega
  ·split<;>omega
theorem Ib{left:Lit->Bool}{cur:ByteArray}{l:List bF}(h:nV l):-12000000000000<=eU left cur l/\eU left cur l<=12000000000000:=by
 have h1:=Ic (left:=left) (cur:=cur) h.2;have:=h.1;omega
theorem Dl{w:World}{m r n cnt:Nat}{D:DataW Unit}{left:Lit->Bool}(h:w.ranges prog 9 gq m r n D left cnt){a:Addr}{v:Value}(hc:w.cell? a=some v):a.block≠r:=by
 obtain⟨es,clock,since,aH,c0,hb,_,_,_,hr,_⟩:=h;intro e;unfold World.cell? at hc;rw[e,hr] at hc;simp at hc
theorem zR{w w':World}{m r n cnt:Nat}{D:DataW Unit}{left:Lit->Bool}(h:w.ranges prog 9 gq m r n D left cnt)(g:w.grownBy w' (some r)):∀a v,w.cell? a=some v->w'.cell? a=some v :=
 fun a v hc=>g.cell hc (fun e=>Dl h hc (Option.some.inj e))
set_option maxRecDepth 100000 in
theorem rX(q:Nat)(L:bM)(cur:ByteArray)(w:World)(hs:nV L.aI)(hd:Apart L.aI)(hB:lL w q L) :
  Calls prog 201 #[ai (some ⟨q,0,none⟩),ag cur] w fun e w'=>e=.returned (ae au (fe cur L.aI))/\Below w.heap.size w w':=by
 obtain⟨hq,m,h,s,ch,cs,c0,c1,c2,hh,ha,hm⟩:=hB;obtain⟨D,hown,hi⟩:=hm;have HI:=hide hi;have HD:=hide hd;have HS:=hide hs;clear hi hs hd c1 c2 hh ha;go_enter func201,ntmps201;go_wp2_with (first
  | (at_range;refine wpList_range_own _ rfl _ 218 rfl 9 223 zJ u64 _ m L.aI.length D rfl hown ?_;intro w0 hrg0 hg0 hs0)
  | go_in)
 go_frame;have HB0:Hid (Below w.heap.size w w0):=hide ((Below.refl _ _).grown hg0 (Nat.le_refl _) (fun j hj=>by cases hj));go_loopw [5] (fun s wr=>∃(left:Lit->Bool)(cnt:Nat),wr.ranges prog 9 gq m w.heap.size L.aI.length D left cnt/\Below w.heap.size w wr/\s=ae au (eU left cur L.aI)) (fun s wr=>wr.rangeLeft m w.heap.size)
 case atStart =>
  refine⟨_,_,hrg0,HB0.out,?_⟩;rw[Bl];intro x hx;obtain⟨i,hi',rfl⟩:=List.getElem_of_mem hx;obtain⟨p,hp,_⟩:=HI.at_ i hi';exact has_true_of_atKey hp
 case round =>
  obtain⟨left,cnt,hrg,HB,rfl⟩:=hrel;have hin:vW wr D L.aI:=HI.kept HB.size (aN HB);go_wp2_with (first
   | (at_next;refine oZ _ rfl _ rfl m w.heap.size L.aI.length D left cnt rfl hrg L.aI hin ?_ ?_)
   | go_in)
  ·intro hl0;have HE:Hid (eU left cur L.aI=fe cur L.aI):=hide (Fz hl0);clear hl0;go_wp2;go_ret;exact⟨by rw[HE.out];rfl,HB⟩
  ·intro j hj p w1 cnt1 hlj hblk hrg1 hlt hg1 hs1 hen;have HB1:Hid (Below w.heap.size w w1):=hide (HB.grown hg1 HB.size (fun k hk=>by cases hk;exact Nat.le_refl _));obtain⟨p0,p1,p2,p3,p4⟩:=hblk.kept hg1.size (zR hrg hg1);have hbd:=Ib (left:=left) (cur:=cur) HS.out;have ham:=HS.2 (L.aI[j]) (List.getElem_mem hj);obtain⟨b0,b1⟩:=hbd;obtain⟨m0,m1⟩:=ham;have hst:=DJ (cur:=cur) HD.out hj hlj;have HM:Hid (w1.rangeLeft m w.heap.size<wr.rangeLeft m w.heap.size):=hide (by rw[hrg1.left_eq,hrg.left_eq];exact hlt);have HR:=hide hrg1;clear hrg1 hrg hin hblk hg1 hs1 hlt hlj hrg0 hg0 hs0 hown;cases hq:((L.aI[j]).cur.toList==cur.toList)
   ·have hne:¬ (L.aI[j]).cur=cur:=fun e=>by rw[bT.2 e] at hq;cases hq
    have HT:Hid (eU (fun z=>left z&&!z.sameKey (kn L.aI[j].name)) cur L.aI=eU left cur L.aI):=hide (by rw[hst,if_neg hne];omega);clear hst hne;generalize eU left cur L.aI=x at *;go_wp2;go_roundw
    case rel=>exact⟨_,cnt1,HR.out,HB1.out,by rw[HT.out]⟩
    case measure=>exact HM.out
   ·have HT:Hid (eU (fun z=>left z&&!z.sameKey (kn L.aI[j].name)) cur L.aI=eU left cur L.aI+(L.aI[j]).aS):=hide (by rw[hst,if_pos (bT.1 hq)]);clear hst;generalize eU left cur L.aI=x at *;go_wp2;go_roundw
    case rel=>exact⟨_,cnt1,HR.out,HB1.out,by rw[HT.out]⟩
    case measure=>exact HM.out
end Go.Proofs.YtdbmmdecclalgaaGreatDoor
