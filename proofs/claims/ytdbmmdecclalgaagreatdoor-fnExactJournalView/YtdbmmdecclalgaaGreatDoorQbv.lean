import Derived.Test.YtdbmmdecclalgaaGreatDoorQap
import Derived.Test.YtdbmmdecclalgaaGreatDoorQah
import Derived.Test.YtdbmmdecclalgaaGreatDoorQao
import Derived.Test.YtdbmmdecclalgaaGreatDoorQaf
import Derived.Test.YtdbmmdecclalgaaGreatDoorQaq
import Derived.Test.YtdbmmdecclalgaaGreatDoorQbu
namespace Go.Proofs.YtdbmmdecclalgaaGreatDoor
open Go.Value renaming int → ae, slice → af, agg → aj
open Go.IntKind renaming i64 → au
open Go.Proofs.Tryz Go.ChangeShapes Go.WideShapes Go.ChangeAt Go.RowKit
set_option linter.unusedVariables false
set_option maxRecDepth 100000
set_option maxHeartbeats 8000000
structure vV(lo hi:Nat)(a1 a2 a3:Option Addr)(c1 c2 c3 g1 g2 g3:Nat)(aO:List bF)(aR:List bP)(ops:List Sn)(x:World):Prop where
 o1:bR 4 aL x g1 a1 c1 aO
 o2:bR 4 aG x g2 a2 c2 aR
 o3:bR 2 aM x g3 a3 c3 ops
 d12:0<aO.length->0<aR.length->g1≠g2
 d13:0<aO.length->0<ops.length->g1≠g3
 d23:0<aR.length->0<ops.length->g2≠g3
 i1:0<aO.length->lo<=g1/\g1<hi
 i2:0<aR.length->lo<=g2/\g2<hi
 i3:0<ops.length->lo<=g3/\g3<hi
theorem vV.below{lo hi:Nat}{a1 a2 a3:Option Addr}{c1 c2 c3 g1 g2 g3:Nat}{aO:List bF}{aR:List bP}{ops:List Sn}{x y:World}(h:vV lo hi a1 a2 a3 c1 c2 c3 g1 g2 g3 aO aR ops x)(b:Below x.heap.size x y):vV lo hi a1 a2 a3 c1 c2 c3 g1 g2 g3 aO aR ops y :=
 ⟨h.o1.below b,h.o2.below b,h.o3.below b,h.d12,h.d13,h.d23,h.i1,h.i2,h.i3⟩
theorem vV.led{lo hi:Nat}{a1 a2 a3:Option Addr}{c1 c2 c3 g1 g2 g3:Nat}{D:bM}{x:World}(h:vV lo hi a1 a2 a3 c1 c2 c3 g1 g2 g3 D.aI D.az D.aH x)(hw:og D):iO x a1 a2 a3 D:=⟨h.o1.rows.aI hw.aI,h.o2.rows.az hw.az,h.o3.rows.ans hw.aH⟩
structure OH(lo hi:Nat)(w w':World):Prop where
 os:w'.os=w.os
 tape:w'.tape=w.tape
 output:w'.output=w.output
 size:w.heap.size<=w'.heap.size
 block:∀k,k<w.heap.size->(k<lo\/hi<=k)->w'.heap[k]?=w.heap[k]?
theorem OH.low{lo hi:Nat}{w w':World}(h:OH lo hi w w'){B:Nat}(hB:B<=lo)(hw:B<=w.heap.size):Below B w w':=⟨h.os,h.tape,h.output,h.size,fun k hk=>h.block k (by omega) (.inl (by omega))⟩
theorem OH.keep{lo hi:Nat}{x y:World}(h:OH lo hi x y){lo2 hi2:Nat}{a1 a2 a3:Option Addr}{c1 c2 c3 g1 g2 g3:Nat}{aO:List bF}{aR:List bP}{ops:List Sn}(o:vV lo2 hi2 a1 a2 a3 c1 c2 c3 g1 g2 g3 aO aR ops x)(hd:hi2<=lo\/hi<=lo2):vV lo2 hi2 a1 a2 a3 c1 c2 c3 g1 g2 g3 aO aR ops y :=
 ⟨o.o1.oz (fun q=>h.block _ (o.o1.lt q) (by have:=o.i1 q;omega)),o.o2.oz (fun q=>h.block _ (o.o2.lt q) (by have:=o.i2 q;omega)),o.o3.oz (fun q=>h.block _ (o.o3.lt q) (by have:=o.i3 q;omega)),o.d12,o.d13,o.d23,o.i1,o.i2,o.i3⟩
theorem OH.blk{lo hi:Nat}{x y:World}(h:OH lo hi x y){g:Nat}{cur:List Value}(k:jb g cur x)(hd:g<lo\/hi<=g):jb g cur y:=k.same (h.block g k.lt hd) h.size
def JG(lo hi q:Nat)(a1 a2 a3:Option Addr)(c1 c2 c3 g1 g2 g3 n1 n2 n3:Nat)(w:World)(e:Ending)(w':World):Prop :=
 e=.returned (ae au ((q+4*n1+4*n2+2*n3:Nat):Int))/\OH lo hi w w'/\vV lo hi a1 a2 a3 c1 c2 c3 g1 g2 g3 (fK q n1) (fJ (q+4*n1) n2) (gL (q+4*n1+4*n2) n3) w'
theorem MV{lo hi q:Nat}{a1 a2 a3:Option Addr}{c1 c2 c3 g1 g2 g3:Nat}{aO:List bF}{aR:List bP}{ops:List Sn}{w wa w1 w2 w3:World}(h:vV lo hi a1 a2 a3 c1 c2 c3 g1 g2 g3 aO aR ops w)(b:Below w.heap.size w wa)
  (q1:qV (0<aO.length) g1 wa w1) (r1:bR 4 aL w1 g1 a1 c1 (fK q aO.length)) (q2:qV (0<aR.length) g2 w1 w2) (r2:bR 4 aG w2 g2 a2 c2 (fJ (q+4*aO.length) aR.length))
  (q3:qV (0<ops.length) g3 w2 w3) (r3:bR 2 aM w3 g3 a3 c3 (gL (q+4*aO.length+4*aR.length) ops.length)) :
  OH lo hi w w3/\vV lo hi a1 a2 a3 c1 c2 c3 g1 g2 g3 (fK q aO.length) (fJ (q+4*aO.length) aR.length) (gL (q+4*aO.length+4*aR.length) ops.length) w3:=by
 have s0:=b.size;have s1:=q1.size;have s2:=q2.size;refine⟨⟨q3.os.trans (q2.os.trans (q1.os.trans b.os)),q3.tape.trans (q2.tape.trans (q1.tape.trans b.tape)),q3.output.trans (q2.output.trans (q1.output.trans b.output)),by have:=q3.size;omega,fun k hk hd=>?_⟩,?_⟩
 ·rw[q3.block k (by omega) (fun p=>by have:=h.i3 p;omega),q2.block k (by omega) (fun p=>by have:=h.i2 p;omega),q1.block k (by omega) (fun p=>by have:=h.i1 p;omega),b.block k hk]
 ·refine⟨r1.oz (fun p=>?_),r2.oz (fun p=>?_),r3,?_,?_,?_,?_,?_,?_⟩
  ·have l1:=r1.lt p;rw[jg] at p;rw[q3.block g1 (by omega) (fun z=>h.d13 p z),q2.block g1 l1 (fun z=>h.d12 p z)]
  ·have l2:=r2.lt p;rw[je] at p;exact q3.block g2 l2 (fun z=>h.d23 p z)
  ·rw[jg,je];exact h.d12
  ·rw[jg,kz];exact h.d13
  ·rw[je,kz];exact h.d23
  ·rw[jg];exact h.i1
  ·rw[je];exact h.i2
  ·rw[kz];exact h.i3
theorem zD(lo hi q:Nat)(a1 a2 a3:Option Addr)(c1 c2 c3 g1 g2 g3:Nat)(aO:List bF)(aR:List bP)(ops:List Sn)(w:World)(n1:aO.length<=1048576)(n2:aR.length<=1048576)(n3:ops.length<=1048576)(q0:0<q)(q1:q<=1000)
  (h:vV lo hi a1 a2 a3 c1 c2 c3 g1 g2 g3 aO aR ops w) :
  Calls prog 11 #[aj #[af a1 aO.length c1,af a2 aR.length c2,af a3 ops.length c3],ae au (q:Int)] w fun e w'=>JG lo hi q a1 a2 a3 c1 c2 c3 g1 g2 g3 aO.length aR.length ops.length w e w':=by
 have HL:=hide h;clear h;have KX0:Hid (jb w.heap.size [af a1 aO.length c1,af a2 aR.length c2,af a3 ops.length c3] (w.alloc (.cells #[af a1 aO.length c1,af a2 aR.length c2,af a3 ops.length c3] 31))):=hide jb.new;have HX0:Hid (Below w.heap.size w (w.alloc (.cells #[af a1 aO.length c1,af a2 aR.length c2,af a3 ops.length c3] 31))):=hide (aF (Below.refl _ _) _);go_enter func11,ntmps11;go_wp2_with fail;generalize w.alloc (.cells #[af a1 aO.length c1,af a2 aR.length c2,af a3 ops.length c3] 31)=wa at *;refine(wD a1 aO c1 g1 q wa (by omega) q0 (by omega) (HL.o1.below HX0.out)).mono ?_;rintro e w1⟨rfl,hc1,ho1⟩;have HC1:=hide hc1;have HO1:=hide ho1;have KX1:Hid (jb w.heap.size _ w1):=hide (KX0.same (hc1.block _ KX0.lt (fun p=>by have:=HL.o1.lt p;omega)) hc1.size);clear hc1 ho1 KX0;have HQ1:Hid (0<q+4*aO.length/\q+4*aO.length<=10000000):=hide (by omega);have hq1:((q+4*aO.length:Nat):Int)<=10000000:=by omega
 obtain⟨k1,hk1⟩:∃k1,k1=q+4*aO.length:=⟨_,rfl⟩;have HK1:=hide hk1;rw[<-hk1] at HQ1 hq1⊢;clear hk1;have x1:=KX1.c 1 _ rfl;go_wp2_with fail;refine(Ba a2 aR c2 g2 k1 w1 (by omega) HQ1.1 (by have:=HQ1.2;omega) (((HL.o2.below HX0.out)).oz (fun p=>HC1.block g2 (by have:=HL.o2.lt p;have:=HX0.size;omega) (fun z e=>HL.d12 z p e.symm)))).mono ?_;rintro e w2⟨rfl,hc2,ho2⟩;have HC2:=hide hc2;have HO2:=hide ho2;have KX2:Hid (jb w.heap.size _ w2):=hide (KX1.same (hc2.block _ KX1.lt (fun p=>by have:=HL.o2.lt p;omega)) hc2.size);clear hc2 ho2 KX1 x1;have HQ2:Hid (0<k1+4*aR.length/\k1+4*aR.length<=20000000):=hide (by have:=HQ1.out;omega);have hq2:((k1+4*aR.length:Nat):Int)<=20000000:=by have:=HQ2.out;omega
 obtain⟨k2,hk2⟩:∃k2,k2=k1+4*aR.length:=⟨_,rfl⟩;have HK2:=hide hk2;rw[<-hk2] at HQ2 hq2⊢;clear hk2;have x2:=KX2.c 2 _ rfl;go_wp2_with fail;refine(uY a3 ops c3 g3 k2 w2 (by omega) HQ2.1 (by have:=HQ2.2;omega) (((HL.o3.below HX0.out)).oz (fun p=>by
  have l3:=HL.o3.lt p;have s0:=HX0.size;have s1:=HC1.size;rw[HC2.block g3 (by omega) (fun z e=>HL.d23 z p e.symm),HC1.block g3 (by omega) (fun z e=>HL.d13 z p e.symm)]))).mono ?_
 rintro e w3⟨rfl,hc3,ho3⟩;have HE:Hid (JG lo hi q a1 a2 a3 c1 c2 c3 g1 g2 g3 aO.length aR.length ops.length w (.returned (ae au ((k2+2*ops.length:Nat):Int))) w3):=hide (by
  have e2:=HK2.out;have e1:=HK1.out;subst e2 e1;obtain⟨m1,m2⟩:=MV HL.out HX0.out HC1.out HO1.out HC2.out HO2.out hc3 ho3;exact⟨rfl,m1,m2⟩)
 clear hc3 ho3;generalize ((k2+2*ops.length:Nat):Int)=k3 at *;go_wp2;go_ret;exact HE.out
theorem Aa(q:Nat)(a1 a2 a3:Option Addr)(c1 c2 c3 n1 n2 n3:Nat)(w:World)(m1:n1<=1048576)(m2:n2<=1048576)(m3:n3<=1048576)(q0:0<q)(q1:q<=1000)
  (h:bu 4 aL w a1 (fK q n1)/\bu 4 aG w a2 (fJ (q+4*n1) n2)/\bu 2 aM w a3 (gL (q+4*n1+4*n2) n3)) :
  Calls prog 12 #[aj #[af a1 n1 c1,af a2 n2 c2,af a3 n3 c3],ae au (q:Int)] w fun e w'=>mQ (q+4*n1+4*n2+2*n3) w e w':=by
 have HL:=hide h;clear h;have KX0:Hid (jb w.heap.size [af a1 n1 c1,af a2 n2 c2,af a3 n3 c3] (w.alloc (.cells #[af a1 n1 c1,af a2 n2 c2,af a3 n3 c3] 31))):=hide jb.new;have HX0:Hid (Below w.heap.size w (w.alloc (.cells #[af a1 n1 c1,af a2 n2 c2,af a3 n3 c3] 31))):=hide (aF (Below.refl _ _) _);go_enter func12,ntmps12;go_wp2_with fail;generalize w.alloc (.cells #[af a1 n1 c1,af a2 n2 c2,af a3 n3 c3] 31)=wa at *;refine(wN a1 n1 c1 q wa (by omega) q0 (by omega) (HL.1.below HX0.out)).mono ?_;rintro e w1⟨rfl,hb1⟩;have HX1:=hide (aJ HX0.out hb1);have KX1:=hide (KX0.below hb1);clear hb1 HX0 KX0;have HQ1:Hid (0<q+4*n1/\q+4*n1<=10000000):=hide (by omega);have hq1:((q+4*n1:Nat):Int)<=10000000:=by omega
 obtain⟨k1,hk1⟩:∃k1,k1=q+4*n1:=⟨_,rfl⟩;rw[<-hk1] at HQ1 hq1 HL⊢;have HK1:=hide hk1;clear hk1;have x1:=KX1.c 1 _ rfl;have j1:¬ ((k1:Int)<0):=by omega
 go_wp2_with fail;refine(Bi a2 n2 c2 k1 w1 (by omega) HQ1.1 (by have:=HQ1.2;omega) (HL.2.1.below HX1.out)).mono ?_;rintro e w2⟨rfl,hb2⟩;have HX2:=hide (aJ HX1.out hb2);have KX2:=hide (KX1.below hb2);clear hb2 HX1 KX1 x1 j1;have HQ2:Hid (0<k1+4*n2/\k1+4*n2<=20000000):=hide (by have:=HQ1.out;omega);have hq2:((k1+4*n2:Nat):Int)<=20000000:=by have:=HQ2.out;omega
 obtain⟨k2,hk2⟩:∃k2,k2=k1+4*n2:=⟨_,rfl⟩;rw[<-hk2] at HQ2 hq2 HL⊢;have HK2:=hide hk2;clear hk2;have x2:=KX2.c 2 _ rfl;have j2:¬ ((k2:Int)<0):=by omega
 go_wp2_with fail;refine(vF a3 n3 c3 k2 w2 (by omega) HQ2.1 (by have:=HQ2.2;omega) (HL.2.2.below HX2.out)).mono ?_;rintro e w3⟨rfl,hb3⟩;have HE:Hid (mQ (q+4*n1+4*n2+2*n3) w (.returned (ae au ((k2+2*n3:Nat):Int))) w3):=hide ⟨by rw[HK2.out,HK1.out],aJ HX2.out hb3⟩;clear hb3;have hq3:((k2+2*n3:Nat):Int)<=30000000:=by have:=HQ2.out;omega
 have j3:¬ (((k2+2*n3:Nat):Int)<0):=by omega
 obtain⟨k3,hk3⟩:∃k3,k3=k2+2*n3:=⟨_,rfl⟩;rw[<-hk3] at hq3 j3⊢;rw[<-hk3] at HE;clear hk3;go_wp2;go_ret;exact HE.out

structure D6(x:World)(a1 a2 a3:Option Addr)(L:bM):Prop where
 aI:bu 4 aL x a1 L.aI
 az:bu 4 aG x a2 L.az
 aH:bu 2 aM x a3 L.aH
theorem D6.below{x y:World}{a1 a2 a3:Option Addr}{L:bM}(h:D6 x a1 a2 a3 L)(b:Below x.heap.size x y):D6 y a1 a2 a3 L:=⟨h.aI.below b,h.az.below b,h.aH.below b⟩
theorem vV.r3{lo hi:Nat}{a1 a2 a3:Option Addr}{c1 c2 c3 g1 g2 g3:Nat}{D:bM}{x:World}(h:vV lo hi a1 a2 a3 c1 c2 c3 g1 g2 g3 D.aI D.az D.aH x):D6 x a1 a2 a3 D:=⟨h.o1.rows,h.o2.rows,h.o3.rows⟩
theorem iO.r3{x:World}{a1 a2 a3:Option Addr}{D:bM}(h:iO x a1 a2 a3 D):D6 x a1 a2 a3 D:=⟨h.aI.row,h.az.row,h.aH.row⟩
def P6(Y:bM):bM:=⟨fK 1 Y.aI.length,fJ (1+4*Y.aI.length) Y.az.length,gL (1+4*Y.aI.length+4*Y.az.length) Y.aH.length⟩
theorem Ak(a c:Option Addr)(l:List bF)(ca cc:Nat)(w:World)(hn:l.length<=1048576)(h:bu 4 aL w a l)(h':bu 4 aL w c l) :
  Calls prog 21 #[af a l.length ca,af c l.length cc] w fun e w'=>rU w e w':=by
 have HL:=hide h;have HL':=hide h';clear h h';have hln:((l.length:Int) != (l.length:Int))=false:=by simp
 go_enter func21,ntmps21;go_wp2;go_loopw [5] (fun i wr=>∃k:Nat,k<=l.length/\i=ae au (k:Int)/\Below w.heap.size w wr) (fun i wr=>l.length-(intOf i).toNat)
 case atStart=>exact⟨0,Nat.zero_le _,rfl,Below.refl _ _⟩
 case round =>
  obtain⟨k,hk,rfl,HB⟩:=hrel;by_cases hlt:k<l.length
  ·obtain⟨b,off,rfl,hb,d0,d1,d2,d3⟩:=jL (HL.below HB) k hlt;obtain⟨b2,off2,rfl,hc,e0,e1,e2,e3⟩:=jL (HL'.below HB) k hlt;have hlt':(k:Int)<(l.length:Int):=by omega
   have d0':=fun y:Later wr=>(y.below.cell hb).trans d0
   have d1':=fun y:Later wr=>(y.below.cell hb).trans d1
   have d2':=fun y:Later wr=>(y.below.cell hb).trans d2
   have d3':=fun y:Later wr=>(y.below.cell hb).trans d3
   have e0':=fun y:Later wr=>(y.below.cell hc).trans e0
   have e1':=fun y:Later wr=>(y.below.cell hc).trans e1
   have e2':=fun y:Later wr=>(y.below.cell hc).trans e2
   have e3':=fun y:Later wr=>(y.below.cell hc).trans e3
   clear d0 d1 d2 d3 e0 e1 e2 e3;have hne:Nonempty (Later wr):=bO _;go_wp2_with fail;refine aU wr (by kernel_rfl) (by kernel_rfl) ((Below.refl _ _).drew) ?_
   repeat (go_big_quiet_step (first|(go_at_call 57;exact dh (Bj _ _ _ _ _))))
   refine wpQuiet_nil ?_;intro _ hw';obtain⟨nx,rfl⟩:=hw';go_wp2;exact⟨⟨k+1,by omega,by go_num,aJ HB nx.below⟩,by simp[intOf];omega⟩
  ·have hk':¬ (k:Int)<(l.length:Int):=by omega
   go_wp2;go_ret;exact⟨rfl,HB⟩
theorem Fv(a c:Option Addr)(l:List bP)(ca cc:Nat)(w:World)(hn:l.length<=1048576)(h:bu 4 aG w a l)(h':bu 4 aG w c l) :
  Calls prog 22 #[af a l.length ca,af c l.length cc] w fun e w'=>rU w e w':=by
 have HL:=hide h;have HL':=hide h';clear h h';have hln:((l.length:Int) != (l.length:Int))=false:=by simp
 go_enter func22,ntmps22;go_wp2;go_loopw [5] (fun i wr=>∃k:Nat,k<=l.length/\i=ae au (k:Int)/\Below w.heap.size w wr) (fun i wr=>l.length-(intOf i).toNat)
 case atStart=>exact⟨0,Nat.zero_le _,rfl,Below.refl _ _⟩
 case round =>
  obtain⟨k,hk,rfl,HB⟩:=hrel;by_cases hlt:k<l.length
  ·obtain⟨b,off,rfl,hb,d0,d1,d2,d3⟩:=oC (HL.below HB) k hlt;obtain⟨b2,off2,rfl,hc,e0,e1,e2,e3⟩:=oC (HL'.below HB) k hlt;have hlt':(k:Int)<(l.length:Int):=by omega
   have d0':=fun y:Later wr=>(y.below.cell hb).trans d0
   have d1':=fun y:Later wr=>(y.below.cell hb).trans d1
   have d2':=fun y:Later wr=>(y.below.cell hb).trans d2
   have d3':=fun y:Later wr=>(y.below.cell hb).trans d3
   have e0':=fun y:Later wr=>(y.below.cell hc).trans e0
   have e1':=fun y:Later wr=>(y.below.cell hc).trans e1
   have e2':=fun y:Later wr=>(y.below.cell hc).trans e2
   have e3':=fun y:Later wr=>(y.below.cell hc).trans e3
   clear d0 d1 d2 d3 e0 e1 e2 e3;have hne:Nonempty (Later wr):=bO _;go_wp2_with fail;refine aU wr (by kernel_rfl) (by kernel_rfl) ((Below.refl _ _).drew) ?_
   repeat (go_big_quiet_step (first|(go_at_call 58;exact dh (H5 _ _ _ _ _))))
   refine wpQuiet_nil ?_;intro _ hw';obtain⟨nx,rfl⟩:=hw';go_wp2;exact⟨⟨k+1,by omega,by go_num,aJ HB nx.below⟩,by simp[intOf];omega⟩
  ·have hk':¬ (k:Int)<(l.length:Int):=by omega
   go_wp2;go_ret;exact⟨rfl,HB⟩
theorem yx(a c:Option Addr)(l:List Sn)(ca cc:Nat)(w:World)(hn:l.length<=1048576)(h:bu 2 aM w a l)(h':bu 2 aM w c l) :
  Calls prog 23 #[af a l.length ca,af c l.length cc] w fun e w'=>rU w e w':=by
 have HL:=hide h;have HL':=hide h';clear h h';have hln:((l.length:Int) != (l.length:Int))=false:=by simp
 go_enter func23,ntmps23;go_wp2;go_loopw [5] (fun i wr=>∃k:Nat,k<=l.length/\i=ae au (k:Int)/\Below w.heap.size w wr) (fun i wr=>l.length-(intOf i).toNat)
 case atStart=>exact⟨0,Nat.zero_le _,rfl,Below.refl _ _⟩
 case round =>
  obtain⟨k,hk,rfl,HB⟩:=hrel;by_cases hlt:k<l.length
  ·obtain⟨b,off,rfl,hb,d0,d1⟩:=uf (HL.below HB) k hlt;obtain⟨b2,off2,rfl,hc,e0,e1⟩:=uf (HL'.below HB) k hlt;have hlt':(k:Int)<(l.length:Int):=by omega
   have d0':=fun y:Later wr=>(y.below.cell hb).trans d0
   have d1':=fun y:Later wr=>(y.below.cell hb).trans d1
   have e0':=fun y:Later wr=>(y.below.cell hc).trans e0
   have e1':=fun y:Later wr=>(y.below.cell hc).trans e1
   clear d0 d1 e0 e1;have hne:Nonempty (Later wr):=bO _;go_wp2_with fail;refine aU wr (by kernel_rfl) (by kernel_rfl) ((Below.refl _ _).drew) ?_
   repeat (go_big_quiet_step (first|(go_at_call 59;exact dh (Aj _ _ _))))
   refine wpQuiet_nil ?_;intro _ hw';obtain⟨nx,rfl⟩:=hw';go_wp2;exact⟨⟨k+1,by omega,by go_num,aJ HB nx.below⟩,by simp[intOf];omega⟩
  ·have hk':¬ (k:Int)<(l.length:Int):=by omega
   go_wp2;go_ret;exact⟨rfl,HB⟩
theorem qB(a h s a' h' s':Option Addr)(L:bM)(ca ch cs ca' ch' cs':Nat)(w:World)(hl:D6 w a h s L)(hl':D6 w a' h' s' L)(n1:L.aI.length<=1048576)(n2:L.az.length<=1048576)(n3:L.aH.length<=1048576) :
  Calls prog 8 #[aj #[af a L.aI.length ca,af h L.az.length ch,af s L.aH.length cs],aj #[af a' L.aI.length ca',af h' L.az.length ch',af s' L.aH.length cs']] w fun e w'=>rU w e w':=by
 have HL:=hide hl;have HL':=hide hl';clear hl hl';have HX0:Hid (Below ((w.alloc (.cells #[af a L.aI.length ca,af h L.az.length ch,af s L.aH.length cs] 31)).alloc (.cells #[af a' L.aI.length ca',af h' L.az.length ch',af s' L.aH.length cs'] 31)).heap.size ((w.alloc (.cells #[af a L.aI.length ca,af h L.az.length ch,af s L.aH.length cs] 31)).alloc (.cells #[af a' L.aI.length ca',af h' L.az.length ch',af s' L.aH.length cs'] 31)) ((w.alloc (.cells #[af a L.aI.length ca,af h L.az.length ch,af s L.aH.length cs] 31)).alloc (.cells #[af a' L.aI.length ca',af h' L.az.length ch',af s' L.aH.length cs'] 31))):=hide (Below.refl _ _);have HO:Hid (∀x,Below ((w.alloc (.cells #[af a L.aI.length ca,af h L.az.length ch,af s L.aH.length cs] 31)).alloc (.cells #[af a' L.aI.length ca',af h' L.az.length ch',af s' L.aH.length cs'] 31)).heap.size ((w.alloc (.cells #[af a L.aI.length ca,af h L.az.length ch,af s L.aH.length cs] 31)).alloc (.cells #[af a' L.aI.length ca',af h' L.az.length ch',af s' L.aH.length cs'] 31)) x->Below w.heap.size w x):=hide (fun x hx=>aJ (aF (aF (Below.refl _ _) _) _) hx);go_enter func8,ntmps8;go_wp2_with (first
  | (go_at_call 21;refine(Ak _ _ L.aI _ _ _ n1 (HL.aI.below (HO.out _ HX0.out)) (HL'.aI.below (HO.out _ HX0.out))).mono ?_;rintro e w1⟨rfl,hb1⟩;have HX1:=hide (aJ HX0.out hb1);obtain⟨⟨x0,x1,x2⟩,y0,y1,y2⟩:=Jz HX1.out;clear hb1)
  | (go_at_call 22;refine(Fv _ _ L.az _ _ _ n2 (HL.az.below (HO.out _ HX1.out)) (HL'.az.below (HO.out _ HX1.out))).mono ?_;rintro e w2⟨rfl,hb2⟩;have HX2:=hide (aJ HX1.out hb2);obtain⟨⟨z0,z1,z2⟩,t0,t1,t2⟩:=Jz HX2.out;clear hb2)
  | (go_at_call 23;refine(yx _ _ L.aH _ _ _ n3 (HL.aH.below (HO.out _ HX2.out)) (HL'.aH.below (HO.out _ HX2.out))).mono ?_;rintro e w3⟨rfl,hb3⟩;have HX3:=hide (aJ HX2.out hb3);clear hb3))
 go_ret;exact⟨rfl,HO.out _ HX3.out⟩
structure tX(lo hi:Nat)(a1 a2 a3:Option Addr)(c1 c2 c3 g1 g2 g3:Nat)(aO aR:List Fl)(ops:List Dp)(x:World):Prop where
 o1:bR 2 aW x g1 a1 c1 aO
 o2:bR 2 aW x g2 a2 c2 aR
 o3:bR 4 dR x g3 a3 c3 ops
 d12:0<aO.length->0<aR.length->g1≠g2
 d13:0<aO.length->0<ops.length->g1≠g3
 d23:0<aR.length->0<ops.length->g2≠g3
 i1:0<aO.length->lo<=g1/\g1<hi
 i2:0<aR.length->lo<=g2/\g2<hi
 i3:0<ops.length->lo<=g3/\g3<hi
theorem tX.below{lo hi:Nat}{a1 a2 a3:Option Addr}{c1 c2 c3 g1 g2 g3:Nat}{aO aR:List Fl}{ops:List Dp}{x y:World}(h:tX lo hi a1 a2 a3 c1 c2 c3 g1 g2 g3 aO aR ops x)(b:Below x.heap.size x y):tX lo hi a1 a2 a3 c1 c2 c3 g1 g2 g3 aO aR ops y :=
 ⟨h.o1.below b,h.o2.below b,h.o3.below b,h.d12,h.d13,h.d23,h.i1,h.i2,h.i3⟩
theorem tX.at{lo hi:Nat}{a1 a2 a3:Option Addr}{c1 c2 c3 g1 g2 g3:Nat}{aO aR:List Fl}{ops:List Dp}{x:World}(h:tX lo hi a1 a2 a3 c1 c2 c3 g1 g2 g3 aO aR ops x):xn x a1 a2 a3 aO aR ops:=⟨h.o1.rows,h.o2.rows,h.o3.rows⟩
theorem Bq.r{g1 g2 g3:Nat}{aO aR:List Fl}{ops:List Dp}{x:World}(h:Bq g1 g2 g3 aO aR ops x){lo:Nat}(hl:lo<=g1):tX lo x.heap.size (some ⟨g1,0,none⟩) (some ⟨g2,0,none⟩) (some ⟨g3,0,none⟩) aO.length aR.length ops.length g1 g2 g3 aO aR ops x :=
 ⟨h.o1,h.o2,h.o3,fun _ _=>by have:=h.d12;omega,fun _ _=>by have:=h.d12;have:=h.d23;omega,fun _ _=>by have:=h.d23;omega,fun _=>by have:=h.d12;have:=h.d23;have:=h.lt;omega,fun _=>by have:=h.d12;have:=h.d23;have:=h.lt;omega,fun _=>by have:=h.d12;have:=h.d23;have:=h.lt;omega⟩
def FW(lo hi q:Nat)(a1 a2 a3:Option Addr)(c1 c2 c3 g1 g2 g3 n1 n2 n3:Nat)(w:World)(e:Ending)(w':World):Prop :=
 e=.returned (ae au ((q+2*n1+2*n2+4*n3:Nat):Int))/\OH lo hi w w'/\tX lo hi a1 a2 a3 c1 c2 c3 g1 g2 g3 (kw q n1) (kw (q+2*n1) n2) (mf (q+2*n1+2*n2) n3) w'
theorem Kj{lo hi q:Nat}{a1 a2 a3:Option Addr}{c1 c2 c3 g1 g2 g3:Nat}{aO aR:List Fl}{ops:List Dp}{w wa w1 w2 w3:World}(h:tX lo hi a1 a2 a3 c1 c2 c3 g1 g2 g3 aO aR ops w)(b:Below w.heap.size w wa)
  (q1:qV (0<aO.length) g1 wa w1) (r1:bR 2 aW w1 g1 a1 c1 (kw q aO.length)) (q2:qV (0<aR.length) g2 w1 w2) (r2:bR 2 aW w2 g2 a2 c2 (kw (q+2*aO.length) aR.length))
  (q3:qV (0<ops.length) g3 w2 w3) (r3:bR 4 dR w3 g3 a3 c3 (mf (q+2*aO.length+2*aR.length) ops.length)) :
  OH lo hi w w3/\tX lo hi a1 a2 a3 c1 c2 c3 g1 g2 g3 (kw q aO.length) (kw (q+2*aO.length) aR.length) (mf (q+2*aO.length+2*aR.length) ops.length) w3:=by
 have s0:=b.size;have s1:=q1.size;have s2:=q2.size;refine⟨⟨q3.os.trans (q2.os.trans (q1.os.trans b.os)),q3.tape.trans (q2.tape.trans (q1.tape.trans b.tape)),q3.output.trans (q2.output.trans (q1.output.trans b.output)),by have:=q3.size;omega,fun k hk hd=>?_⟩,?_⟩
 ·rw[q3.block k (by omega) (fun p=>by have:=h.i3 p;omega),q2.block k (by omega) (fun p=>by have:=h.i2 p;omega),q1.block k (by omega) (fun p=>by have:=h.i1 p;omega),b.block k hk]
 ·refine⟨r1.oz (fun p=>?_),r2.oz (fun p=>?_),r3,?_,?_,?_,?_,?_,?_⟩
  ·have l1:=r1.lt p;rw[iK] at p;rw[q3.block g1 (by omega) (fun z=>h.d13 p z),q2.block g1 l1 (fun z=>h.d12 p z)]
  ·have l2:=r2.lt p;rw[iK] at p;exact q3.block g2 l2 (fun z=>h.d23 p z)
  ·rw[iK,iK];exact h.d12
  ·rw[iK,mZ];exact h.d13
  ·rw[iK,mZ];exact h.d23
  ·rw[iK];exact h.i1
  ·rw[iK];exact h.i2
  ·rw[mZ];exact h.i3
theorem C8(lo hi q:Nat)(a1 a2 a3:Option Addr)(c1 c2 c3 g1 g2 g3:Nat)(aO aR:List Fl)(ops:List Dp)(w:World)(n1:aO.length<=1048576)(n2:aR.length<=1048576)(n3:ops.length<=1048576)(q0:0<q)(q1:q<=1000)
  (h:tX lo hi a1 a2 a3 c1 c2 c3 g1 g2 g3 aO aR ops w) :
  Calls prog 10 #[aj #[af a1 aO.length c1,af a2 aR.length c2,af a3 ops.length c3],ae au (q:Int)] w fun e w'=>FW lo hi q a1 a2 a3 c1 c2 c3 g1 g2 g3 aO.length aR.length ops.length w e w':=by
 have HL:=hide h;clear h;have KX0:Hid (jb w.heap.size [af a1 aO.length c1,af a2 aR.length c2,af a3 ops.length c3] (w.alloc (.cells #[af a1 aO.length c1,af a2 aR.length c2,af a3 ops.length c3] 37))):=hide jb.new;have HX0:Hid (Below w.heap.size w (w.alloc (.cells #[af a1 aO.length c1,af a2 aR.length c2,af a3 ops.length c3] 37))):=hide (aF (Below.refl _ _) _);go_enter func10,ntmps10;go_wp2_with fail;generalize w.alloc (.cells #[af a1 aO.length c1,af a2 aR.length c2,af a3 ops.length c3] 37)=wa at *;refine(tL a1 aO c1 g1 q wa (by omega) q0 (by omega) (HL.o1.below HX0.out)).mono ?_;rintro e w1⟨rfl,hc1,ho1⟩;have HC1:=hide hc1;have HO1:=hide ho1;have KX1:Hid (jb w.heap.size _ w1):=hide (KX0.same (hc1.block _ KX0.lt (fun p=>by have:=HL.o1.lt p;omega)) hc1.size);clear hc1 ho1 KX0;have HQ1:Hid (0<q+2*aO.length/\q+2*aO.length<=10000000):=hide (by omega);have hq1:((q+2*aO.length:Nat):Int)<=10000000:=by omega
 obtain⟨k1,hk1⟩:∃k1,k1=q+2*aO.length:=⟨_,rfl⟩;have HK1:=hide hk1;rw[<-hk1] at HQ1 hq1⊢;clear hk1;have x1:=KX1.c 1 _ rfl;go_wp2_with fail;refine(tL a2 aR c2 g2 k1 w1 (by omega) HQ1.1 (by have:=HQ1.2;omega) (((HL.o2.below HX0.out)).oz (fun p=>HC1.block g2 (by have:=HL.o2.lt p;have:=HX0.size;omega) (fun z e=>HL.d12 z p e.symm)))).mono ?_;rintro e w2⟨rfl,hc2,ho2⟩;have HC2:=hide hc2;have HO2:=hide ho2;have KX2:Hid (jb w.heap.size _ w2):=hide (KX1.same (hc2.block _ KX1.lt (fun p=>by have:=HL.o2.lt p;omega)) hc2.size);clear hc2 ho2 KX1 x1;have HQ2:Hid (0<k1+2*aR.length/\k1+2*aR.length<=20000000):=hide (by have:=HQ1.out;omega);have hq2:((k1+2*aR.length:Nat):Int)<=20000000:=by have:=HQ2.out;omega
 obtain⟨k2,hk2⟩:∃k2,k2=k1+2*aR.length:=⟨_,rfl⟩;have HK2:=hide hk2;rw[<-hk2] at HQ2 hq2⊢;clear hk2;have x2:=KX2.c 2 _ rfl;go_wp2_with fail;refine(C9 a3 ops c3 g3 k2 w2 (by omega) HQ2.1 (by have:=HQ2.2;omega) (((HL.o3.below HX0.out)).oz (fun p=>by
  have l3:=HL.o3.lt p;have s0:=HX0.size;have s1:=HC1.size;rw[HC2.block g3 (by omega) (fun z e=>HL.d23 z p e.symm),HC1.block g3 (by omega) (fun z e=>HL.d13 z p e.symm)]))).mono ?_
 rintro e w3⟨rfl,hc3,ho3⟩;have HE:Hid (FW lo hi q a1 a2 a3 c1 c2 c3 g1 g2 g3 aO.length aR.length ops.length w (.returned (ae au ((k2+4*ops.length:Nat):Int))) w3):=hide (by
  have e2:=HK2.out;have e1:=HK1.out;subst e2 e1;obtain⟨m1,m2⟩:=Kj HL.out HX0.out HC1.out HO1.out HC2.out HO2.out hc3 ho3;exact⟨rfl,m1,m2⟩)
 clear hc3 ho3;generalize ((k2+4*ops.length:Nat):Int)=k3 at *;go_wp2;go_ret;exact HE.out
end Go.Proofs.YtdbmmdecclalgaaGreatDoor
