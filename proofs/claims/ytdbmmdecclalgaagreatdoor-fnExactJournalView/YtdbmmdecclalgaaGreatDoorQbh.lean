import Derived.Test.YtdbmmdecclalgaaGreatDoorQbg
import Derived.Maps.OwnOps
import Derived.Maps.OwnSet
import Derived.Maps.RangeWalk
import Derived.Maps.Views
import Derived.Deep.Slices
import Derived.WalkKit
import Derived.ProofKit
import Derived.OpenShut
import Derived.ChangeOld
namespace Go.Proofs.YtdbmmdecclalgaaGreatDoor
open Go.Value renaming int → ae, slice → af, string → ag, agg → aj
open Go.IntKind renaming i64 → au
open Go.Proofs.Tryz Go.ChangeShapes Go.WideShapes Go.ChangeAt Go.RowKit Go.Maps
set_option linter.unusedVariables false
set_option maxRecDepth 100000
set_option maxHeartbeats 8000000
theorem Mk{nm da:ByteArray}{st:List Fl×Bool}{x f:Fl}(h:f∈(tq nm da st x).1):f∈st.1\/f=⟨nm,da⟩\/f=x:=by
 unfold tq at h;simp only at h;by_cases h1:(x.nm.toList==nm.toList)=true
 ·rw[if_pos h1] at h;by_cases h2:(!st.2&&!Op.bytesLess x.nm.toList nm.toList)=true
  ·rw[if_pos h2] at h;simp only[List.mem_append,List.mem_singleton] at h;rcases h with h|h
   ·exact .inl h
   ·exact .inr (.inl h)
  ·rw[if_neg h2] at h;exact .inl h
 ·rw[if_neg h1] at h;by_cases h2:(!st.2&&!Op.bytesLess x.nm.toList nm.toList)=true
  ·rw[if_pos h2] at h;simp only[List.mem_append,List.mem_singleton] at h;rcases h with (h|h)|h
   ·exact .inl h
   ·exact .inr (.inl h)
   ·exact .inr (.inr h)
  ·rw[if_neg h2] at h;simp only[List.mem_append,List.mem_singleton] at h;rcases h with h|h
   ·exact .inl h
   ·exact .inr (.inr h)
theorem zm(l:List Fl)(nm da:ByteArray):∀k,∀f∈(lg l nm da k).1,f∈l\/f=⟨nm,da⟩
 | 0=>by simp[lg]
 | k+1=>by
  have ih:=zm l nm da k;rcases Nat.lt_or_ge k l.length with h|h
  ·rw[rZ l nm da k h];intro f hf;rcases Mk hf with hf|hf|rfl
   ·exact ih f hf
   ·exact .inr hf
   ·exact .inl (List.getElem_mem h)
  ·have e:lg l nm da (k+1)=lg l nm da k:=by
    unfold lg;rw[List.take_of_length_le (by omega),List.take_of_length_le (by omega)]
   rw[e];exact ih
theorem Ex{l:List Fl}{nm da:ByteArray}{f:Fl}(h:f∈jA l nm da):f∈l\/f=⟨nm,da⟩:=by
 unfold jA at h;split at h
 ·exact zm l nm da _ f h
 ·simp only[List.mem_append,List.mem_singleton] at h;rcases h with h|h
  ·exact zm l nm da _ f h
  ·exact .inr h
theorem Ey(l:List Fl)(nm da:ByteArray):(jA l nm da).length<=2*l.length+1:=by
 have:=zn l nm da l.length;unfold jA;split<;>simp<;>omega
theorem Ik{l:List Fl}{nm:ByteArray}{M:Nat}(h:∀f∈l,f.da.size<=M):(nM l nm).size<=M:=by
 unfold nM;split
 ·simp
 ·split
  ·simp
  ·rename_i k _ f hf;exact h f (List.mem_of_getElem? hf)
theorem Ci{l:List Fl}{o:Dp}(h:dN l=true)(ho:Bp o):Lv (kr l o).1/\(kr l o).1.length<=200:=by
 have hs:=vJ h;have h60:=(fu h).1;have hd:(nM l o.nm).size<=200000:=Ik (fun f hf=>(hs f hf).2);have sG:∀f∈l,f.nm.size<=4194304/\f.da.size<=4194304:=fun f hf=>by have:=hs f hf;exact⟨by omega,by omega⟩
 have sC:∀f∈iD l o.nm,f∈l:=fun f hf=>(List.mem_filter.1 hf).1
 obtain⟨o1,o2,o3⟩:=ho;have lc:=Ar l o.nm;unfold kr;split
 ·have hl:=Ey l o.nm (wX l o.nm o.da);refine⟨fun f hf=>?_,by simp only;omega⟩;rcases Ex hf with hf|rfl
  ·exact sG f hf
  ·refine⟨by show o.nm.size<=_;omega,?_⟩;show (wX l o.nm o.da).size<=_;unfold wX;split
   ·omega
   ·rw[ByteArray.size_append];omega
 ·split
  ·exact⟨sG,by simp only;omega⟩
  ·simp only;split
   ·have hl:=Ey (iD l o.nm) o.tn (nM l o.nm);refine⟨fun f hf=>?_,by omega⟩;rcases Ex hf with hf|rfl
    ·exact sG f (sC f hf)
    ·exact⟨by show o.tn.size<=_;omega,by show (nM l o.nm).size<=_;omega⟩
   ·exact⟨fun f hf=>sG f (sC f hf),by omega⟩
theorem Cj{aO aR:List Fl}{ops:List Dp}(h1:dN aO=true)(h2:dN aR=true)(h3:ops.length<=200):iZ ⟨aO,aR,ops⟩=Nb (qR aR ops) aO:=by simp[iZ,h1,h2,h3]
theorem qD{aO aR:List Fl}{ops:List Dp}{k:Nat}(hk:k<ops.length){now:List Fl}(hr:qR aR (ops.take k)=some now)(hs:uF now ops[k]=none):iZ ⟨aO,aR,ops⟩=false:=by
 have e:qR aR ops=none:=JX aR ops (k+1) (by rw[ww aR ops k hk hr];exact hs);simp[iZ,e,Nb]
theorem yZ(la sa oa:Option Addr)(lc sc oc:Nat)(aO aR:List Fl)(ops:List Dp)(w:World)(hl:aO.length<=1048576)(hs:aR.length<=1048576)(hn:ops.length<=1048576)(gl:D9 aO)(gs:D9 aR)(go:∀o∈ops,Bp o)(hsc:sa=none->sc=0)
  (h1:bu 2 aW w la aO) (h2:bu 2 aW w sa aR) (h3:bu 4 dR w oa ops) :
  Calls prog 15 #[aj #[af la aO.length lc,af sa aR.length sc,af oa ops.length oc]] w fun e w'=>e=.returned (.bool (iZ ⟨aO,aR,ops⟩))/\Below w.heap.size w w':=by
 have H1:=hide h1;have H2:=hide h2;have H3:=hide h3;have GO:=hide go;have HSC:=hide hsc;clear h1 h2 h3 go hsc;have HX0:Hid (Below (w.heap.size+1) (w.alloc (.cells #[af la aO.length lc,af sa aR.length sc,af oa ops.length oc] 37)) (w.alloc (.cells #[af la aO.length lc,af sa aR.length sc,af oa ops.length oc] 37))):=hide (Below.refl _ _);go_enter func15,ntmps15;go_wp2_with fail;refine(rH la aO lc _ hl gl.g (H1.below (ed HX0.out))).mono ?_;rintro e w1⟨rfl,hb1⟩;have HX1:=hide (nP HX0.out hb1);clear hb1 HX0;obtain⟨x0,x1,x2⟩:=AB HX1.out;have xl:=nQ HX1.out;cases q1:dN aO
 ·have HR:Hid (iZ ⟨aO,aR,ops⟩=false):=hide (by simp[iZ,q1]);go_wp2;go_ret;exact⟨by rw[HR.out];rfl,ed HX1.out⟩
 ·go_wp2_with fail;refine(rH sa aR sc _ hs gs.g (H2.below (ed HX1.out))).mono ?_;rintro e w2⟨rfl,hb2⟩;have HX2:=hide (nP HX1.out hb2);clear hb2 HX1 x0 x1 x2 xl;obtain⟨x0,x1,x2⟩:=AB HX2.out;have xl:=nQ HX2.out;cases q2:dN aR
  ·have HR:Hid (iZ ⟨aO,aR,ops⟩=false):=hide (by simp[iZ,q2]);go_wp2;go_ret;exact⟨by rw[HR.out];rfl,ed HX2.out⟩
  ·by_cases h200:ops.length<=200
   ·have a2:¬ (200:Int)<(ops.length:Int):=by omega
    have HRUN:=hide (Cj q1 q2 h200);have HQ2:=hide q2;have h60:aO.length<=60:=(fu q1).1;have hs60:aR.length<=60:=(fu q2).1;clear q1 q2;go_wp2;go_loopw [3,4] (fun v i wr=>∃(k:Nat)(now:List Fl)(na:Option Addr)(nc:Nat),k<=ops.length/\i=ae au (k:Int)/\v=af na now.length nc/\now.length<=60/\Hid (na=none->nc=0)/\Hid (qR aR (ops.take k)=some now)/\Hid (dN now=true)/\Hid (bu 2 aW wr na now)/\Hid (Below (w.heap.size+1) (w.alloc (.cells #[af la aO.length lc,af sa aR.length sc,af oa ops.length oc] 37)) wr)) (fun v i wr=>ops.length-(intOf i).toNat)
    case atStart=>exact⟨0,aR,sa,sc,Nat.zero_le _,rfl,rfl,hs60,HSC,hide rfl,HQ2,hide (H2.below (ed HX2.out)),HX2⟩
    case round =>
     obtain⟨k,now,na,nc,hk,rfl,rfl,hnl,HNC,HRK,HFN,HRW,HX⟩:=hrel;clear x0 x1 x2 xl;obtain⟨x0,x1,x2⟩:=AB HX.out;have xl:=nQ HX.out;by_cases hlt:k<ops.length
     ·have hlt':(k:Int)<(ops.length:Int):=by omega
      obtain⟨b,off,rfl,hb,c0,c1,c2,c3⟩:=wR (H3.below (ed HX.out)) k hlt;have HSO:Hid (Bp ops[k]):=hide (GO.out _ (List.getElem_mem hlt));have HDS:=hide (Ci HFN.out HSO.out);go_wp2_with fail;refine(M4 na now nc ops[k] wr (by omega) HNC.out (KU HFN.out).g HSO.out HRW.out).mono ?_;rintro e w3⟨hb3,v3,rfl,ho3⟩;obtain⟨a3,cp3,rfl,hr3,hn3⟩:=zx ho3;have HX3:=hide (nP HX.out hb3);have HR3:=hide hr3;have HN3:=hide hn3;have hb':b<w3.heap.size:=Nat.lt_of_lt_of_le hb hb3.size;have d0:w3.cell? ⟨b,off+k*4,none⟩=some (ae au (ops[k]).kind):=(hb3.cell hb).trans c0;have d1:w3.cell? ⟨b,off+k*4+1,none⟩=some (ag (ops[k]).nm):=(hb3.cell hb).trans c1;have d2:w3.cell? ⟨b,off+k*4+2,none⟩=some (ag (ops[k]).tn):=(hb3.cell hb).trans c2;have d3:w3.cell? ⟨b,off+k*4+3,none⟩=some (ag (ops[k]).da):=(hb3.cell hb).trans c3;clear hb3 ho3 hr3 hn3 HX x0 x1 x2 xl c0 c1 c2 c3 hb;obtain⟨x0,x1,x2⟩:=AB HX3.out;have xl:=nQ HX3.out;have HST:Hid (uF now ops[k]=if (kr now ops[k]).2&&fF ops[k]&&dN (kr now ops[k]).1 then some (kr now ops[k]).1 else none):=hide rfl;have HLN:Hid ((kr now ops[k]).1.length<=200):=hide HDS.2;have HSG:Hid (SK (kr now ops[k]).1):=hide HDS.1.up;clear HDS;generalize (kr now ops[k]).1=nx at *;generalize (kr now ops[k]).2=ok at *;cases ok
      ·have HR:Hid (iZ ⟨aO,aR,ops⟩=false):=hide (qD hlt HRK.out (by rw[HST.out];rfl));go_wp2;go_ret;exact⟨by rw[HR.out];rfl,ed HX3.out⟩
      ·go_wp2_with fail;refine(G8 ops[k] w3 HSO.out).mono ?_;rintro e w4⟨rfl,hb4⟩;have HX4:=hide (nP HX3.out hb4);have HR4:=hide (HR3.below hb4);clear hb4 HX3 HR3 x0 x1 x2 xl;obtain⟨x0,x1,x2⟩:=AB HX4.out;have xl:=nQ HX4.out;cases q3:fF ops[k]
       ·have HR:Hid (iZ ⟨aO,aR,ops⟩=false):=hide (qD hlt HRK.out (by rw[HST.out,q3];rfl));go_wp2;go_ret;exact⟨by rw[HR.out];rfl,ed HX4.out⟩
       ·go_wp2_with fail;refine(rH a3 nx cp3 w4 (by have:=HLN.out;omega) HSG.out HR4.out).mono ?_;rintro e w5⟨rfl,hb5⟩;have HX5:=hide (nP HX4.out hb5);have HR5:=hide (HR4.below hb5);clear hb5 HX4 HR4 x0 x1 x2 xl;cases q4:dN nx
        ·have HR:Hid (iZ ⟨aO,aR,ops⟩=false):=hide (qD hlt HRK.out (by rw[HST.out,q3,q4];rfl));go_wp2;go_ret;exact⟨by rw[HR.out];rfl,ed HX5.out⟩
        ·have HRK2:Hid (qR aR (ops.take (k+1))=some nx):=hide (by rw[ww aR ops k hlt HRK.out,HST.out,q3,q4];rfl);have hn60:nx.length<=60:=(fu q4).1;have HQ4:=hide q4;clear q3 q4;go_wp2;exact⟨⟨k+1,nx,a3,cp3,by omega,by go_num,rfl,hn60,HN3,HRK2,HQ4,HR5,HX5⟩,by simp[intOf];omega⟩
     ·have hk':¬ (k:Int)<(ops.length:Int):=by omega
      have HRR:Hid (iZ ⟨aO,aR,ops⟩=decide (now=aO)):=hide (by
       have:=HRK.out;rw[List.take_of_length_le (by omega)] at this;rw[HRUN.out,this];rfl)
      go_wp2_with fail;refine(G7 na la now aO nc lc wr (by omega) (by omega) HRW.out (H1.below (ed HX.out))).mono ?_;rintro e w3⟨rfl,hb3⟩;have HE:Hid (Below w.heap.size w w3):=hide (aJ (ed HX.out) hb3);clear hb3;go_wp2;go_ret;exact⟨by rw[HRR.out];rfl,HE.out⟩
   ·have a2:(200:Int)<(ops.length:Int):=by omega
    have HR:Hid (iZ ⟨aO,aR,ops⟩=false):=hide (by simp[iZ,h200]);go_wp2;go_ret;exact⟨by rw[HR.out];rfl,ed HX2.out⟩
theorem uM:prog.underlying 97=some (.map 9 136):=by kernel_rfl
theorem PV(w:World):(zeroValue 136).run prog w=.ok (aj #[af none 0 0,ae au 0]) w:=by kernel_rfl
theorem qP:Keyed prog 9:=string_keyed u9
theorem zO{s:ByteArray}(h:s.size<=maxLen):keyOf prog 9 (ag s)=some (kn s):=_root_.Go.WideMaps.keyOf_string_mk u9 h
def ik:List ByteArray->ByteArray
 | []=>ByteArray.empty
 | x::xs=>x++ik xs
theorem xX(a b:List ByteArray):ik (a++b)=ik a++ik b:=by
 induction a with
 | nil=>simp[ik]
 | cons x xs ih=>simp only[List.cons_append,ik,ih,ByteArray.append_assoc]
structure Bd where
 a:Option Nat
 c:Nat
 ps:List ByteArray
def uy(a:Option Nat):Option Addr:=a.map fun g=>⟨g,0,none⟩
def Bd.v(b:Bd):Value:=af (uy b.a) b.ps.length b.c
def Bd.V(b:Bd):Value:=aj #[af (uy b.a) b.ps.length b.c,ae au ((ik b.ps).size:Int)]
def oN:Option Nat->Int
 | none=>-1
 | some g=>g
def PM(a:Option Nat)(n c:Nat)(k:Int):DataW Unit:=.agg [.lit (.int .i64 (oN a)),.lit (.int .i64 (n:Int)),.lit (.int .i64 (c:Int)),.lit (.int .i64 k)]
def Bd.D(b:Bd):DataW Unit:=PM b.a b.ps.length b.c ((ik b.ps).size:Int)
theorem JA{a a':Option Nat}{n n' c c':Nat}{k k':Int}(h:PM a n c k=PM a' n' c' k'):a=a'/\n=n'/\c=c'/\k=k':=by
 simp only[PM,DataW.agg.injEq,List.cons.injEq,DataW.lit.injEq,Lit.int.injEq,and_true,true_and] at h;obtain⟨h1,h2,h3,h4⟩:=h;refine⟨?_,by omega,by omega,h4⟩;cases a<;>cases a'<;>simp only[oN] at h1
 ·rfl
 ·omega
 ·omega
 ·rw[show _=_ from Int.ofNat.inj h1]
def jo(v:Value):Option (DataW Unit×List MemPlace):=match v with
 | .agg xs=>match xs.toList with
  | [af none n c,ae au k]=>some (PM none n c k,[])
  | [af (some ⟨g,0,none⟩) n c,ae au k]=>some (PM (some g) n c k,[])
  | _=>none
 | _=>none
theorem SB(a:Option Nat)(n c:Nat)(k:Int):jo (aj #[af (uy a) n c,ae au k])=some (PM a n c k,[]):=by cases a<;>rfl
theorem IB{v:Value}{y:DataW Unit×List MemPlace}(h:jo v=some y):∃a n c k,v=aj #[af (uy a) n c,ae au k]/\y=(PM a n c k,[]):=by
 unfold jo at h;split at h
 ·rename_i xs;split at h
  ·rename_i n c k e;refine⟨none,n,c,k,?_,(Option.some.inj h).symm⟩;rw[show xs=#[af none n c,ae au k] from Array.toList_inj.1 e];rfl
  ·rename_i g n c k e;refine⟨some g,n,c,k,?_,(Option.some.inj h).symm⟩;rw[show xs=#[af (some ⟨g,0,none⟩) n c,ae au k] from Array.toList_inj.1 e];rfl
  ·cases h
 ·cases h
theorem Bd.elem(b:Bd):jo b.V=some (b.D,[]):=SB _ _ _ _
theorem Qo{b:Bd}{v:Value}{ps:List MemPlace}(h:jo v=some (b.D,ps)):v=b.V:=by
 obtain⟨a,n,c,k,rfl,e⟩:=IB h;simp only[Prod.mk.injEq] at e;obtain⟨e1,e2,e3,e4⟩:=JA e.1;simp only[Bd.V,e1,e2,e3,e4]
def OI(u v:Value):Prop:=u.ownBlock=none\/u.ownBlock≠v.ownBlock
def strs(ps:List ByteArray):List Value:=ps.map Value.string
def mr(l:List Fl):Prop:=l.Pairwise (fun x y=>x.nm.toList<y.nm.toList)
structure Shelf(base m:Nat)(l:List Fl)(β:ByteArray->Bd)(N:Nat)(w:World):Prop where
 map:∃D n,n<=N/\w.ownsMap prog 9 jo m n D/\(∀f∈l,∀z,D.atKey (kn f.nm) z=(β f.nm).D)/\(∀kl,Maps.has D kl=true->∃f∈l,kl=kn f.nm)/\Maps.size D=l.length
 lo:base<=m
 rows:∀f∈l,w.ownsRow base 9 1 (β f.nm).v (β f.nm).ps.length (strs (β f.nm).ps)
 cat:∀f∈l,ik (β f.nm).ps=f.da
 apt:∀f∈l,∀f'∈l,f.nm≠f'.nm->OI (β f.nm).v (β f'.nm).v
 srt:mr l
 pcs:∀f∈l,(β f.nm).ps.length<=N
 nms:∀f∈l,f.nm.size<=4194304
theorem Shelf.lt{base m N:Nat}{l:List Fl}{β:ByteArray->Bd}{w:World}(h:Shelf base m l β N w):m<w.heap.size:=by
 obtain⟨D,n,_,ho,_⟩:=h.map;exact ho.lt
theorem Shelf.below{base m N:Nat}{l:List Fl}{β:ByteArray->Bd}{w w':World}(h:Shelf base m l β N w)(b:Below w.heap.size w w'):Shelf base m l β N w':=by
 obtain⟨D,n,hn,ho,r⟩:=h.map;exact {h with
  map:=⟨D,n,hn,ho.kept (gy b) (by simp),r⟩
  rows:=fun f hf=>fT (h.rows f hf) b}
theorem Shelf.mono{base m N N':Nat}{l:List Fl}{β:ByteArray->Bd}{w:World}(h:Shelf base m l β N w)(hN:N<=N'):Shelf base m l β N' w:=by
 obtain⟨D,n,hn,ho,r⟩:=h.map;exact {h with
  map:=⟨D,n,Nat.le_trans hn hN,ho,r⟩
  pcs:=fun f hf=>Nat.le_trans (h.pcs f hf) hN}
theorem GH{base:Nat}{w:World}(hb:base<=w.heap.size)(β:ByteArray->Bd):Shelf base w.heap.size [] β 0 (w.alloc (.map #[] 0)) :=
 ⟨⟨.map [],0,Nat.le_refl _,World.ownsMap_made _ _ _ _,fun f hf=>by simp at hf,fun kl h=>by simp[Maps.has] at h,by simp[Maps.size]⟩,hb,fun f hf=>by simp at hf,fun f hf=>by simp at hf,fun f hf=>by simp at hf,List.Pairwise.nil,fun f hf=>by simp at hf,fun f hf=>by simp at hf⟩
theorem oq{w:World}{base m n k sz:Nat}{e:TypeId}{v:Value}{xs:List Value}{D:DataW Unit}(h:w.ownsRow base e sz v k xs)(ho:w.ownsMap prog 9 jo m n D):v.ownBlock≠some m:=by
 intro hv;obtain⟨es,clock,hm,_⟩:=ho;obtain⟨_,⟨h0,_⟩|⟨g,cap,cur,h1,_,hg,_⟩⟩:=h
 ·rw[h0] at hv;cases hv
 ·rw[h1] at hv;simp only[Value.ownBlock,Option.some.injEq] at hv;subst hv;rw[hm] at hg;cases hg
def SG(left:Int)(P:Prop)(w:World)(e:Ending)(w':World):Prop:=Below w.heap.size w w'/\∃r:Int,e=.returned (ae au r)/\-1<=r/\r<=left/\(0<=r->P)
def Lx(f:Fl):Prop:=f.nm.size<=maxLen/\f.da.size<=maxLen
def Oz(o:Dp):Prop:=o.nm.size<=maxLen/\o.tn.size<=maxLen/\o.da.size<=maxLen
def Rn{A:Type}(p:A->Prop)(l:List A):Prop:=l.length<=1048576/\∀x∈l,p x
def FU(f:Fl):Prop:=f.nm.size<=1048576/\f.da.size<=1048576
theorem Gi(f:Fl)(left:Int)(w:World)(hn:Lx f)(hl:0<=left/\left<=1048576) :
  Calls prog 34 #[aj #[ag f.nm,ag f.da],ae au left] w fun e w'=>SG left (FU f) w e w':=by
 obtain⟨l0,l1⟩:=hl;obtain⟨n1,n2⟩:=hn;unfold maxLen at n1 n2;by_cases a1:left-(f.nm.size:Int)<0
 ·go_enter func34,ntmps34;go_wp2;go_ret;exact⟨aF (Below.refl _ _) _,-1,rfl,by omega,by omega,fun h=>by omega⟩
 ·by_cases a2:left-(f.nm.size:Int)-(f.da.size:Int)<0
  ·go_enter func34,ntmps34;go_wp2;go_ret;exact⟨aF (Below.refl _ _) _,-1,rfl,by omega,by omega,fun h=>by omega⟩
  ·go_enter func34,ntmps34;go_wp2;go_ret;exact⟨aF (Below.refl _ _) _,_,rfl,by omega,by omega,fun h=>⟨by omega,by omega⟩⟩
theorem JU(o:Dp)(left:Int)(w:World)(hn:Oz o)(hl:0<=left/\left<=1048576) :
  Calls prog 35 #[aj #[ae au o.kind,ag o.nm,ag o.tn,ag o.da],ae au left] w fun e w'=>SG left (Bp o) w e w':=by
 obtain⟨l0,l1⟩:=hl;obtain⟨n1,n2,n3⟩:=hn;unfold maxLen at n1 n2 n3;by_cases a1:left-(o.nm.size:Int)<0
 ·go_enter func35,ntmps35;go_wp2;go_ret;exact⟨aF (Below.refl _ _) _,-1,rfl,by omega,by omega,fun h=>by omega⟩
 ·by_cases a2:left-(o.nm.size:Int)-(o.tn.size:Int)<0
  ·go_enter func35,ntmps35;go_wp2;go_ret;exact⟨aF (Below.refl _ _) _,-1,rfl,by omega,by omega,fun h=>by omega⟩
  ·by_cases a3:left-(o.nm.size:Int)-(o.tn.size:Int)-(o.da.size:Int)<0
   ·go_enter func35,ntmps35;go_wp2;go_ret;exact⟨aF (Below.refl _ _) _,-1,rfl,by omega,by omega,fun h=>by omega⟩
   ·go_enter func35,ntmps35;go_wp2;go_ret;exact⟨aF (Below.refl _ _) _,_,rfl,by omega,by omega,fun h=>⟨by omega,by omega,by omega⟩⟩
theorem xz(a:Option Addr)(l:List Fl)(cap:Nat)(left:Int)(w:World)(hn:l.length<=maxLen)(hm:∀x∈l,Lx x)(hl:0<=left/\left<=1048576)(h:bu 2 aW w a l) :
  Calls prog 13 #[af a l.length cap,ae au left] w fun e w'=>SG left (Rn FU l) w e w':=by
 have HC:=hide h;have HM:=hide hm;clear h hm;obtain⟨l0,l1⟩:=hl;unfold maxLen at hn;by_cases a1:left-(l.length:Int)<0
 ·go_enter func13,ntmps13;go_wp2;go_ret;exact⟨Below.refl _ _,-1,rfl,by omega,by omega,fun h=>by omega⟩
 ·have hln:l.length<=1048576:=by omega
  go_enter func13,ntmps13;go_wp2;go_loopw [1,5] (fun v i wr=>∃(k:Nat)(r:Int),k<=l.length/\i=ae au (k:Int)/\v=ae au r/\0<=r/\r<=left/\Hid (Below w.heap.size w wr)/\Hid (∀x∈l.take k,FU x)) (fun v i wr=>l.length-(intOf i).toNat)
  case atStart=>exact⟨0,_,Nat.zero_le _,rfl,rfl,by omega,by omega,hide (Below.refl _ _),hide (fun x hx=>by simp at hx)⟩
  case round =>
   obtain⟨k,r,hk,rfl,rfl,hr0,hr1,HB,HS⟩:=hrel;by_cases hlt:k<l.length
   ·have hlt':(k:Int)<(l.length:Int):=by omega
    obtain⟨b,off,rfl,hb,c0,c1⟩:=iL (HC.below HB.out) k hlt;go_wp2_with fail;refine(Gi l[k] r wr (HM.out _ (List.getElem_mem hlt)) (And.intro (by omega) (by omega))).mono ?_;rintro e w1⟨hb1,r2,rfl,q0,q1,q2⟩;have HB1:=hide (aJ HB.out hb1);have HQ:=hide q2;clear hb1 q2;by_cases q:r2<0
    ·go_wp2;go_ret;exact⟨HB1.out,-1,rfl,by omega,by omega,fun h=>by omega⟩
    ·have HS2:Hid (∀x∈l.take (k+1),FU x):=hide (by
      rw[dX l k hlt];intro x hx;simp only[List.mem_append,List.mem_singleton] at hx;rcases hx with hx|rfl
      ·exact HS.out x hx
      ·exact HQ.out (by omega))
     go_wp2;exact⟨⟨k+1,r2,by omega,by go_num,rfl,by omega,by omega,HB1,HS2⟩,by simp[intOf];omega⟩
   ·have hk':¬ (k:Int)<(l.length:Int):=by omega
    have HE:Hid (∀x∈l,FU x):=hide (by have:=HS.out;rwa [List.take_of_length_le (by omega)] at this);go_wp2;go_ret;exact⟨HB.out,r,rfl,by omega,by omega,fun h=>⟨hln,HE.out⟩⟩
theorem Gl(a:Option Addr)(l:List Dp)(cap:Nat)(left:Int)(w:World)(hn:l.length<=maxLen)(hm:∀x∈l,Oz x)(hl:0<=left/\left<=1048576)(h:bu 4 dR w a l) :
  Calls prog 14 #[af a l.length cap,ae au left] w fun e w'=>SG left (Rn Bp l) w e w':=by
 have HC:=hide h;have HM:=hide hm;clear h hm;obtain⟨l0,l1⟩:=hl;unfold maxLen at hn;by_cases a1:left-(l.length:Int)<0
 ·go_enter func14,ntmps14;go_wp2;go_ret;exact⟨Below.refl _ _,-1,rfl,by omega,by omega,fun h=>by omega⟩
 ·have hln:l.length<=1048576:=by omega
  go_enter func14,ntmps14;go_wp2;go_loopw [1,5] (fun v i wr=>∃(k:Nat)(r:Int),k<=l.length/\i=ae au (k:Int)/\v=ae au r/\0<=r/\r<=left/\Hid (Below w.heap.size w wr)/\Hid (∀x∈l.take k,Bp x)) (fun v i wr=>l.length-(intOf i).toNat)
  case atStart=>exact⟨0,_,Nat.zero_le _,rfl,rfl,by omega,by omega,hide (Below.refl _ _),hide (fun x hx=>by simp at hx)⟩
  case round =>
   obtain⟨k,r,hk,rfl,rfl,hr0,hr1,HB,HS⟩:=hrel;by_cases hlt:k<l.length
   ·have hlt':(k:Int)<(l.length:Int):=by omega
    obtain⟨b,off,rfl,hb,c0,c1,c2,c3⟩:=wR (HC.below HB.out) k hlt;go_wp2_with fail;refine(JU l[k] r wr (HM.out _ (List.getElem_mem hlt)) (And.intro (by omega) (by omega))).mono ?_;rintro e w1⟨hb1,r2,rfl,q0,q1,q2⟩;have HB1:=hide (aJ HB.out hb1);have HQ:=hide q2;clear hb1 q2;by_cases q:r2<0
    ·go_wp2;go_ret;exact⟨HB1.out,-1,rfl,by omega,by omega,fun h=>by omega⟩
    ·have HS2:Hid (∀x∈l.take (k+1),Bp x):=hide (by
      rw[dX l k hlt];intro x hx;simp only[List.mem_append,List.mem_singleton] at hx;rcases hx with hx|rfl
      ·exact HS.out x hx
      ·exact HQ.out (by omega))
     go_wp2;exact⟨⟨k+1,r2,by omega,by go_num,rfl,by omega,by omega,HB1,HS2⟩,by simp[intOf];omega⟩
   ·have hk':¬ (k:Int)<(l.length:Int):=by omega
    have HE:Hid (∀x∈l,Bp x):=hide (by have:=HS.out;rwa [List.take_of_length_le (by omega)] at this);go_wp2;go_ret;exact⟨HB.out,r,rfl,by omega,by omega,fun h=>⟨hln,HE.out⟩⟩
def Tq(aO aR:List Fl)(ops:List Dp):Prop:=Rn FU aO/\Rn FU aR/\Rn Bp ops
structure xn(w:World)(la sa oa:Option Addr)(aO aR:List Fl)(ops:List Dp):Prop where
 r1:bu 2 aW w la aO
 r2:bu 2 aW w sa aR
 r3:bu 4 dR w oa ops
theorem xn.below{w w':World}{la sa oa:Option Addr}{aO aR:List Fl}{ops:List Dp}(h:xn w la sa oa aO aR ops)(b:Below w.heap.size w w'):xn w' la sa oa aO aR ops:=⟨h.r1.below b,h.r2.below b,h.r3.below b⟩
def Rp(aO aR:List Fl)(ops:List Dp):Prop:=(aO.length<=maxLen/\∀x∈aO,Lx x)/\(aR.length<=maxLen/\∀x∈aR,Lx x)/\ops.length<=maxLen/\∀x∈ops,Oz x
theorem Gj(la sa oa:Option Addr)(lc sc oc:Nat)(aO aR:List Fl)(ops:List Dp)(left:Int)(w:World)(hn:Rp aO aR ops)(hl:0<=left/\left<=1048576)(h:xn w la sa oa aO aR ops) :
  Calls prog 4 #[aj #[af la aO.length lc,af sa aR.length sc,af oa ops.length oc],ae au left] w fun e w'=>SG left (Tq aO aR ops) w e w':=by
 have HC:=hide h;have HN:=hide hn;have HL:=hide hl;clear h hn;have HX0:Hid (Below (w.heap.size+1) (w.alloc (.cells #[af la aO.length lc,af sa aR.length sc,af oa ops.length oc] 25)) (w.alloc (.cells #[af la aO.length lc,af sa aR.length sc,af oa ops.length oc] 25))):=hide (Below.refl _ _);go_enter func4,ntmps4;go_wp2_with fail;refine(xz la aO lc left _ HN.1.1 HN.1.2 HL.out (HC.r1.below (ed HX0.out))).mono ?_;rintro e w1⟨hb1,r1,rfl,p0,p1,p2⟩;have HX1:=hide (nP HX0.out hb1);have HP:=hide p2;clear hb1 HX0 p2;obtain⟨x0,x1,x2⟩:=AB HX1.out;have xl:=nQ HX1.out;by_cases q:r1<0
 ·go_wp2;go_ret;exact⟨ed HX1.out,-1,rfl,by omega,by omega,fun h=>by omega⟩
 ·go_wp2_with fail;refine(xz sa aR sc r1 _ HN.2.1.1 HN.2.1.2 (And.intro (by omega) (by omega)) (HC.r2.below (ed HX1.out))).mono ?_;rintro e w2⟨hb2,r2,rfl,p0',p1',p2'⟩;have HX2:=hide (nP HX1.out hb2);have HP2:=hide p2';clear hb2 HX1 p2' x0 x1 x2 xl;obtain⟨x0,x1,x2⟩:=AB HX2.out;have xl:=nQ HX2.out;by_cases q2:r2<0
  ·go_wp2;go_ret;exact⟨ed HX2.out,-1,rfl,by omega,by omega,fun h=>by omega⟩
  ·go_wp2_with fail;refine(Gl oa ops oc r2 _ HN.2.2.1 HN.2.2.2 (And.intro (by omega) (by omega)) (HC.r3.below (ed HX2.out))).mono ?_;rintro e w3⟨hb3,r3,rfl,p0'',p1'',p2''⟩;have HX3:=hide (nP HX2.out hb3);have HP3:=hide p2'';clear hb3 HX2 p2'' x0 x1 x2 xl;by_cases q3:r3<0
   ·go_wp2;go_ret;exact⟨ed HX3.out,-1,rfl,by omega,by omega,fun h=>by omega⟩
   ·go_wp2;go_ret;exact⟨ed HX3.out,r3,rfl,by omega,by omega,fun h=>⟨HP.out (by omega),HP2.out (by omega),HP3.out h⟩⟩
theorem own:ownKnob prog.godebug=none:=by kernel_rfl
theorem laidOut:laidOutB prog=true:=by kernel_rfl
theorem SA:prog.cellsOf 22=1:=by kernel_rfl
theorem TH:prog.cellsOf 23=1:=by kernel_rfl
theorem Uc:prog.cellsOf 25=3:=by kernel_rfl
theorem TV:prog.cellsOf 69=2:=by kernel_rfl
theorem TU:prog.cellsOf 72=4:=by kernel_rfl
theorem Sz:prog.cellsOf 9=1:=by kernel_rfl
theorem Ub:prog.cellsOf 2=1:=by kernel_rfl
section
variable {H:Type} {enc:TypeId×Value->H} {W:World} {base:Nat} {sp:Nat->Bool} {held:Bool}
theorem zy{fuel:Nat}{cs:List Value}{x:DataW H×List MemPlace}(h:DataW.trod enc prog W base sp held fuel 22 cs=some x):∃a cap,∃l:List Fl,cs=[af a l.length cap]/\bu 2 aW W a l/\l.length<=maxLen/\∀x∈l,Lx x:=by
 rcases Deep.open_slice underlying22 h with ⟨rfl,_⟩|⟨a,len,cap,m,k,D,Pl,rfl,hb,hl,hm,hmm,rfl,hx⟩
 ·exact⟨none,0,[],rfl,bu.nil,by simp,fun x hx=>by simp at hx⟩
 ·have hlm:len<=m:=by rw[hmm];split<;>omega
  have hsp:0<len->a=⟨a.block,a.off,none⟩:=fun h0=>by
   obtain⟨cs',h1,_⟩:=hx 0 (by omega);rw[TV] at h1;obtain⟨_,hcl,hcell⟩:=World.cells?_some h1;have:=hcell 0 (by decide);simp only[Nat.zero_mul,Addr.add,if_true] at this;exact Bz (v:=cs'[0]) (by rw[this,List.getElem?_eq_getElem])
  have each:∀i,i<len->∃y:Fl,(∃b off,some a=some ⟨b,off,none⟩/\b<W.heap.size/\∀r v,(aW y)[r]?=some v->W.cell? ⟨b,off+i*2+r,none⟩=some v)/\Lx y:=fun i hi=>by
   obtain⟨cs',h1,h2⟩:=hx i (by omega);rw[TV] at h1;obtain⟨_,hcl,hcell⟩:=World.cells?_some h1;obtain⟨xs,n',_,_,_,hxl,hf⟩:=DataW.trod_struct underlying69 h2;have ea:=hsp (by omega);rw[ea] at hcell;obtain⟨y0,y1,rfl⟩:=Qa xs hxl;obtain⟨v0,v1,rfl⟩:=Qa cs' hcl;have g0:DataW.trod enc prog W base sp held n' 9 [v0]=some y0:=by simpa[Sz] using hf 0 _ rfl
   have c0:=hcell 0 (by decide);rw[wZ] at c0;have g1:DataW.trod enc prog W base sp held n' 9 [v1]=some y1:=by simpa[Sz] using hf 1 _ rfl
   have c1:=hcell 1 (by decide);rw[wZ] at c1;obtain⟨z0,e0,_,s0⟩:=DataW.trod_string underlying9 g0;obtain⟨z1,e1,_,s1⟩:=DataW.trod_string underlying9 g1;simp only[List.cons.injEq,and_true] at e0 e1;subst e0 e1;have hblk:a.block<W.heap.size:=by
    rcases Nat.lt_or_ge a.block W.heap.size with h'|h'
    ·exact h'
    ·exfalso;have:=c0;simp[World.cell?,Array.getElem?_eq_none h'] at this
   refine⟨⟨z0,z1⟩,⟨a.block,a.off,by rw[<-ea],hblk,fun r v hv=>?_⟩,s0,s1⟩
   match r,hv with
   | 0,hv=>simp[aW] at hv;rw[<-hv];exact c0
   | 1,hv=>simp[aW] at hv;rw[<-hv];exact c1
  obtain⟨l,hll,hq⟩:=Df each;refine⟨some a,cap,l,by rw[hll],fun i hi=>?_,by rw[hll];omega,fun x hx=>?_⟩
  ·exact(hq i hi).1
  ·obtain⟨i,hi,rfl⟩:=List.getElem_of_mem hx;exact(hq i hi).2
theorem J4{fuel:Nat}{cs:List Value}{x:DataW H×List MemPlace}(h:DataW.trod enc prog W base sp held fuel 23 cs=some x):∃a cap,∃l:List Dp,cs=[af a l.length cap]/\bu 4 dR W a l/\l.length<=maxLen/\∀x∈l,Oz x:=by
 rcases Deep.open_slice underlying23 h with ⟨rfl,_⟩|⟨a,len,cap,m,k,D,Pl,rfl,hb,hl,hm,hmm,rfl,hx⟩
 ·exact⟨none,0,[],rfl,bu.nil,by simp,fun x hx=>by simp at hx⟩
 ·have hlm:len<=m:=by rw[hmm];split<;>omega
  have hsp:0<len->a=⟨a.block,a.off,none⟩:=fun h0=>by
   obtain⟨cs',h1,_⟩:=hx 0 (by omega);rw[TU] at h1;obtain⟨_,hcl,hcell⟩:=World.cells?_some h1;have:=hcell 0 (by decide);simp only[Nat.zero_mul,Addr.add,if_true] at this;exact Bz (v:=cs'[0]) (by rw[this,List.getElem?_eq_getElem])
  have each:∀i,i<len->∃y:Dp,(∃b off,some a=some ⟨b,off,none⟩/\b<W.heap.size/\∀r v,(dR y)[r]?=some v->W.cell? ⟨b,off+i*4+r,none⟩=some v)/\Oz y:=fun i hi=>by
   obtain⟨cs',h1,h2⟩:=hx i (by omega);rw[TU] at h1;obtain⟨_,hcl,hcell⟩:=World.cells?_some h1;obtain⟨xs,n',_,_,_,hxl,hf⟩:=DataW.trod_struct underlying72 h2;have ea:=hsp (by omega);rw[ea] at hcell;obtain⟨y0,y1,y2,y3,rfl⟩:=P8 xs hxl;obtain⟨v0,v1,v2,v3,rfl⟩:=P8 cs' hcl;have g0:DataW.trod enc prog W base sp held n' 2 [v0]=some y0:=by simpa[Ub] using hf 0 _ rfl
   have c0:=hcell 0 (by decide);rw[wZ] at c0;have g1:DataW.trod enc prog W base sp held n' 9 [v1]=some y1:=by simpa[Sz] using hf 1 _ rfl
   have c1:=hcell 1 (by decide);rw[wZ] at c1;have g2:DataW.trod enc prog W base sp held n' 9 [v2]=some y2:=by simpa[Sz] using hf 2 _ rfl
   have c2:=hcell 2 (by decide);rw[wZ] at c2;have g3:DataW.trod enc prog W base sp held n' 9 [v3]=some y3:=by simpa[Sz] using hf 3 _ rfl
   have c3:=hcell 3 (by decide);rw[wZ] at c3;obtain⟨z0,e0,_,s0⟩:=DataW.trod_int underlying2 g0;obtain⟨z1,e1,_,s1⟩:=DataW.trod_string underlying9 g1;obtain⟨z2,e2,_,s2⟩:=DataW.trod_string underlying9 g2;obtain⟨z3,e3,_,s3⟩:=DataW.trod_string underlying9 g3;simp only[List.cons.injEq,and_true] at e0 e1 e2 e3;subst e0 e1 e2 e3;have hblk:a.block<W.heap.size:=by
    rcases Nat.lt_or_ge a.block W.heap.size with h'|h'
    ·exact h'
    ·exfalso;have:=c0;simp[World.cell?,Array.getElem?_eq_none h'] at this
   refine⟨⟨z0,z1,z2,z3⟩,⟨a.block,a.off,by rw[<-ea],hblk,fun r v hv=>?_⟩,s1,s2,s3⟩
   match r,hv with
   | 0,hv=>simp[dR] at hv;rw[<-hv];exact c0
   | 1,hv=>simp[dR] at hv;rw[<-hv];exact c1
   | 2,hv=>simp[dR] at hv;rw[<-hv];exact c2
   | 3,hv=>simp[dR] at hv;rw[<-hv];exact c3
  obtain⟨l,hll,hq⟩:=Df each;refine⟨some a,cap,l,by rw[hll],fun i hi=>?_,by rw[hll];omega,fun x hx=>?_⟩
  ·exact(hq i hi).1
  ·obtain⟨i,hi,rfl⟩:=List.getElem_of_mem hx;exact(hq i hi).2
end
theorem J5{H:Type}{enc:TypeId×Value->H}{W:World}{base:Nat}{v:Value}{d:DataW H}{p:List MemPlace}(hv:Value.okWide prog W .any base 25 v)(h:DataW.Trod enc prog W 0 (fun _=>true) true 25 v d p) :
  ∃(la sa oa:Option Addr)(lc sc oc:Nat)(aO aR:List Fl)(ops:List Dp),v=aj #[af la aO.length lc,af sa aR.length sc,af oa ops.length oc]/\xn W la sa oa aO aR ops/\Rp aO aR ops:=by
 obtain⟨cs,rfl,hsz⟩:=okWide_struct underlying25 hv;obtain⟨fuel,hf⟩:=h;obtain⟨xs,n,_,_,hl,hlen,hfi⟩:=DataW.trod_struct underlying25 hf;obtain⟨y0,y1,y2,rfl⟩:=P9 xs hlen;rw[Uc] at hl;simp only[Value.cells] at hl hfi;obtain⟨a0,a1,a2,hcs⟩:=P9 _ hl;rw[hcs] at hfi;have h0:DataW.trod enc prog W 0 (fun _=>true) true n 22 [a0]=some y0:=by simpa[SA] using hfi 0 _ rfl
 have h1:DataW.trod enc prog W 0 (fun _=>true) true n 22 [a1]=some y1:=by simpa[SA] using hfi 1 _ rfl
 have h2:DataW.trod enc prog W 0 (fun _=>true) true n 23 [a2]=some y2:=by simpa[TH] using hfi 2 _ rfl
 obtain⟨la,lc,l0,e0,r0,n0,m0⟩:=zy h0;obtain⟨sa,sc,l1,e1,r1,n1,m1⟩:=zy h1;obtain⟨oa,oc,l2,e2,r2,n2,m2⟩:=J4 h2;simp only[List.cons.injEq,and_true] at e0 e1 e2;subst e0 e1 e2;exact⟨la,sa,oa,lc,sc,oc,l0,l1,l2,by congr 1;exact Array.toList_inj.1 hcs,⟨r0,r1,r2⟩,⟨n0,m0⟩,⟨n1,m1⟩,n2,m2⟩
end Go.Proofs.YtdbmmdecclalgaaGreatDoor
