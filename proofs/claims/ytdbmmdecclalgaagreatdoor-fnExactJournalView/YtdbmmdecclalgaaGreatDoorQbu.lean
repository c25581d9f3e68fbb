import Derived.Test.YtdbmmdecclalgaaGreatDoorQbh
import Derived.Test.YtdbmmdecclalgaaGreatDoorQbi
import Derived.Test.YtdbmmdecclalgaaGreatDoorQbm
namespace Go.Proofs.YtdbmmdecclalgaaGreatDoor
open Go.Value renaming int → ae, slice → af, string → ag, agg → aj
open Go.IntKind renaming i64 → au
open Go.Proofs.Tryz Go.ChangeShapes Go.WideShapes Go.ChangeAt Go.RowKit
set_option linter.unusedVariables false
set_option maxRecDepth 100000
set_option maxHeartbeats 8000000
theorem Sd:(prog.info? 76).map (fun i=>(i.zero,i.size,i.bytes))=some (some (aj #[ae au 0,ag ByteArray.empty,ag ByteArray.empty,ag ByteArray.empty]),4,56):=by kernel_rfl
theorem Ga(f:Fl)(w:World) :
  Calls prog 47 #[aj #[ag f.nm,ag f.da]] w fun e w'=>e=.returned (aj #[ag f.nm,ag f.da])/\Below w.heap.size w w':=by
 go_enter func47,ntmps47;go_wp2;exact bodyPost_ret (v:=aj #[ag f.nm,ag f.da]) (by simp[results,results47,go_sem]) rfl ⟨rfl,aF (aF (aF (Below.refl _ _) _) _) _⟩
theorem JP(o:Dp)(w:World) :
  Calls prog 48 #[aj #[ae au o.kind,ag o.nm,ag o.tn,ag o.da]] w fun e w'=>e=.returned (aj #[ae au o.kind,ag o.nm,ag o.tn,ag o.da])/\Below w.heap.size w w':=by
 go_enter func48,ntmps48;go_wp2;exact bodyPost_ret (v:=aj #[ae au o.kind,ag o.nm,ag o.tn,ag o.da]) (by simp[results,results48,go_sem]) rfl ⟨rfl,aF (aF (aF (Below.refl _ _) _) _) _⟩
def JD{A:Type}(sz:Nat)(f:A->List Value)(l:List A)(w:World)(g:Nat)(w':World):Prop:=(w.heap.size<=g/\g<w'.heap.size)/\bR sz f w' g (some ⟨g,0,none⟩) l.length l
theorem JD.below{A:Type}{sz:Nat}{f:A->List Value}{l:List A}{w x y:World}{g:Nat}(h:JD sz f l w g x)(b:Below x.heap.size x y):JD sz f l w g y:=⟨⟨h.1.1,Nat.lt_of_lt_of_le h.1.2 b.size⟩,h.2.below b⟩
def Tp{A:Type}(sz:Nat)(f:A->List Value)(l:List A)(w:World)(e:Ending)(w':World):Prop:=Below w.heap.size w w'/\∃g,e=.returned (af (some ⟨g,0,none⟩) l.length l.length)/\JD sz f l w g w'
theorem xx(a:Option Addr)(l:List Fl)(cap:Nat)(w:World)(hn:l.length<=1048576)(h:bu 2 aW w a l) :
  Calls prog 17 #[af a l.length cap] w fun e w'=>Tp 2 aW l w e w':=by
 obtain⟨i0,hi,hz0,hz1,hz2⟩:=info_parts Fb;have HL:=hide h;clear h;have uS:prog.underlying 34=some (.slice 93):=by kernel_rfl
 go_enter func17,ntmps17;go_wp2_with (first|(at_make;refine bI.mk ?_)|go_in);refine bI.mk' ?_;refine wpList_make_full _ rfl _ _ 34 rfl w.heap.size 93 i0 _ 2 uS hi hz0 hz1 .i64 .i64 _ _ l.length rfl rfl rfl rfl (by rw[hz2];omega) (by unfold maxLen;omega) (Nat.le_refl _) ?_;intro w0 hown hgrow;have HB0:Hid (Below w.heap.size w w0):=hide ((Below.refl _ _).grown hgrow (Nat.le_refl _) (fun j hj=>by cases hj));have HM0:=hide (xD (cells:=(fun i=>(l[i]?).elim [] aW)) hown);clear hown hgrow;go_wp2;go_loopw [4] (fun i wr=>∃k:Nat,k<=l.length/\i=ae au (k:Int)/\Below w.heap.size w wr/\Hid (jV w.heap.size l.length 2 (fun i=>(l[i]?).elim [] aW) k wr)) (fun i wr=>l.length-(intOf i).toNat)
 case atStart=>exact⟨0,Nat.zero_le _,rfl,HB0.out,HM0⟩
 case round =>
  obtain⟨k,hk,rfl,HB,HM⟩:=hrel;by_cases hlt:k<l.length
  ·obtain⟨b,off,rfl,hb,d0,d1⟩:=iL (HL.below HB) k hlt;have hlt':(k:Int)<(l.length:Int):=by omega
   go_wp2_with fail;refine(Ga l[k] wr).mono ?_;rintro e w1⟨rfl,hb1⟩;have hM1:=HM.below hb1;have HP:=hide (((((HM.below hb1).put).set hlt (by decide) (v:=ag (l[k]).nm) (by simp[List.getElem?_eq_getElem hlt,aW]) rfl).set hlt (by decide) (v:=ag (l[k]).da) (by simp[List.getElem?_eq_getElem hlt,aW]) rfl)).whole;have HB1:=hide (aJ HB hb1);obtain⟨v0,f0⟩:=hM1.there (k*2+0) (by omega);obtain⟨v1,f1⟩:=hM1.there (k*2+1) (by omega);have z0:=hM1.free (k*2+0);have z1:=hM1.free (k*2+1);simp only[Nat.add_zero] at f0 z0;clear hM1 hb1;go_wp2;exact⟨⟨k+1,by omega,by go_num,((HB1.setCell (Nat.le_refl _) _).setCell (Nat.le_refl _) _),HP⟩,by simp[intOf];omega⟩
  ·have hk':¬ (k:Int)<(l.length:Int):=by omega
   have HE:Hid (Tp 2 aW l w (.returned (af (some ⟨w.heap.size,0,none⟩) l.length l.length)) wr):=hide (by
    have M:=HM.out;rw[show k=l.length by omega] at M;have O:=kv Cc M (Nat.le_refl _);exact⟨HB,w.heap.size,rfl,⟨Nat.le_refl _,M.lt⟩,O⟩)
   go_wp2;go_ret;exact HE.out
theorem Gb(a:Option Addr)(l:List Dp)(cap:Nat)(w:World)(hn:l.length<=1048576)(h:bu 4 dR w a l) :
  Calls prog 18 #[af a l.length cap] w fun e w'=>Tp 4 dR l w e w':=by
 obtain⟨i0,hi,hz0,hz1,hz2⟩:=info_parts Sd;have HL:=hide h;clear h;have uS:prog.underlying 35=some (.slice 76):=by kernel_rfl
 go_enter func18,ntmps18;go_wp2_with (first|(at_make;refine bI.mk ?_)|go_in);refine bI.mk' ?_;refine wpList_make_full _ rfl _ _ 35 rfl w.heap.size 76 i0 _ 4 uS hi hz0 hz1 .i64 .i64 _ _ l.length rfl rfl rfl rfl (by rw[hz2];omega) (by unfold maxLen;omega) (Nat.le_refl _) ?_;intro w0 hown hgrow;have HB0:Hid (Below w.heap.size w w0):=hide ((Below.refl _ _).grown hgrow (Nat.le_refl _) (fun j hj=>by cases hj));have HM0:=hide (xD (cells:=(fun i=>(l[i]?).elim [] dR)) hown);clear hown hgrow;go_wp2;go_loopw [4] (fun i wr=>∃k:Nat,k<=l.length/\i=ae au (k:Int)/\Below w.heap.size w wr/\Hid (jV w.heap.size l.length 4 (fun i=>(l[i]?).elim [] dR) k wr)) (fun i wr=>l.length-(intOf i).toNat)
 case atStart=>exact⟨0,Nat.zero_le _,rfl,HB0.out,HM0⟩
 case round =>
  obtain⟨k,hk,rfl,HB,HM⟩:=hrel;by_cases hlt:k<l.length
  ·obtain⟨b,off,rfl,hb,d0,d1,d2,d3⟩:=wR (HL.below HB) k hlt;have hlt':(k:Int)<(l.length:Int):=by omega
   go_wp2_with fail;refine(JP l[k] wr).mono ?_;rintro e w1⟨rfl,hb1⟩;have hM1:=HM.below hb1;have HP:=hide (((((((HM.below hb1).put).set hlt (by decide) (v:=ae au (l[k]).kind) (by simp[List.getElem?_eq_getElem hlt,dR]) rfl).set hlt (by decide) (v:=ag (l[k]).nm) (by simp[List.getElem?_eq_getElem hlt,dR]) rfl).set hlt (by decide) (v:=ag (l[k]).tn) (by simp[List.getElem?_eq_getElem hlt,dR]) rfl).set hlt (by decide) (v:=ag (l[k]).da) (by simp[List.getElem?_eq_getElem hlt,dR]) rfl)).whole;have HB1:=hide (aJ HB hb1);obtain⟨v0,f0⟩:=hM1.there (k*4+0) (by omega);obtain⟨v1,f1⟩:=hM1.there (k*4+1) (by omega);obtain⟨v2,f2⟩:=hM1.there (k*4+2) (by omega);obtain⟨v3,f3⟩:=hM1.there (k*4+3) (by omega);have z0:=hM1.free (k*4+0);have z1:=hM1.free (k*4+1);have z2:=hM1.free (k*4+2);have z3:=hM1.free (k*4+3);simp only[Nat.add_zero] at f0 z0;clear hM1 hb1;go_wp2;exact⟨⟨k+1,by omega,by go_num,((((HB1.setCell (Nat.le_refl _) _).setCell (Nat.le_refl _) _).setCell (Nat.le_refl _) _).setCell (Nat.le_refl _) _),HP⟩,by simp[intOf];omega⟩
  ·have hk':¬ (k:Int)<(l.length:Int):=by omega
   have HE:Hid (Tp 4 dR l w (.returned (af (some ⟨w.heap.size,0,none⟩) l.length l.length)) wr):=hide (by
    have M:=HM.out;rw[show k=l.length by omega] at M;have O:=kv NL M (Nat.le_refl _);exact⟨HB,w.heap.size,rfl,⟨Nat.le_refl _,M.lt⟩,O⟩)
   go_wp2;go_ret;exact HE.out
theorem kY(x:World){g b o:Nat}(v:Value)(h:g≠b):(x.setCell ⟨b,o,none⟩ v).heap[g]?=x.heap[g]?:=Below.heap_setCell _ _ _ _ h
structure Bq(g1 g2 g3:Nat)(aO aR:List Fl)(ops:List Dp)(x:World):Prop where
 o1:bR 2 aW x g1 (some ⟨g1,0,none⟩) aO.length aO
 o2:bR 2 aW x g2 (some ⟨g2,0,none⟩) aR.length aR
 o3:bR 4 dR x g3 (some ⟨g3,0,none⟩) ops.length ops
 d12:g1<g2
 d23:g2<g3
 lt:g3<x.heap.size
theorem Bq.below{g1 g2 g3:Nat}{aO aR:List Fl}{ops:List Dp}{x y:World}(h:Bq g1 g2 g3 aO aR ops x)(b:Below x.heap.size x y):Bq g1 g2 g3 aO aR ops y :=
 ⟨h.o1.below b,h.o2.below b,h.o3.below b,h.d12,h.d23,Nat.lt_of_lt_of_le h.lt b.size⟩
theorem Bq.at{g1 g2 g3:Nat}{aO aR:List Fl}{ops:List Dp}{x:World}(h:Bq g1 g2 g3 aO aR ops x):xn x (some ⟨g1,0,none⟩) (some ⟨g2,0,none⟩) (some ⟨g3,0,none⟩) aO aR ops:=⟨h.o1.rows,h.o2.rows,h.o3.rows⟩
def Ox(aO aR:List Fl)(ops:List Dp)(w:World)(e:Ending)(w':World):Prop:=Below w.heap.size w w'/\∃g1 g2 g3,e=.returned (aj #[af (some ⟨g1,0,none⟩) aO.length aO.length,af (some ⟨g2,0,none⟩) aR.length aR.length,af (some ⟨g3,0,none⟩) ops.length ops.length])/\w.heap.size<=g1/\Bq g1 g2 g3 aO aR ops w'
theorem pW(la sa oa:Option Addr)(lc sc oc:Nat)(aO aR:List Fl)(ops:List Dp)(w:World)(hs:Tq aO aR ops)(h:xn w la sa oa aO aR ops) :
  Calls prog 6 #[aj #[af la aO.length lc,af sa aR.length sc,af oa ops.length oc]] w fun e w'=>Ox aO aR ops w e w':=by
 have HL:=hide h;have HM:=hide hs;clear h hs;obtain⟨wa,hwa⟩:∃wa,wa=w.alloc (.cells #[af la aO.length lc,af sa aR.length sc,af oa ops.length oc] 25):=⟨_,rfl⟩;obtain⟨wb,hwb⟩:∃wb,wb=wa.alloc (.cells #[af none 0 0,af none 0 0,af none 0 0] 37):=⟨_,rfl⟩;obtain⟨wc,hwc⟩:∃wc,wc=wb.alloc (.cells #[af none 0 0,af none 0 0,af none 0 0] 37):=⟨_,rfl⟩;have sa':wa.heap.size=w.heap.size+1:=by rw[hwa];simp
 have sb:wb.heap.size=w.heap.size+1+1:=by rw[hwb];simp[sa']
 have sc':wc.heap.size=w.heap.size+1+1+1:=by rw[hwc];simp[sb]
 have kA:jb w.heap.size [af la aO.length lc,af sa aR.length sc,af oa ops.length oc] wc:=by rw[hwc,hwb,hwa];exact(jb.new.alloc _).alloc _
 have kR:jb (w.heap.size+1) [af none 0 0,af none 0 0,af none 0 0] wc:=by rw[<-sa',hwc,hwb];exact jb.new.alloc _
 have kO:jb (w.heap.size+1+1) [af none 0 0,af none 0 0,af none 0 0] wc:=by rw[<-sb,hwc];exact jb.new
 have b3:Below w.heap.size w wc:=by rw[hwc,hwb,hwa];exact aF (aF (aF (Below.refl _ _) _) _) _
 have HW:Hid (((w.alloc (.cells #[af la aO.length lc,af sa aR.length sc,af oa ops.length oc] 25)).alloc (.cells #[af none 0 0,af none 0 0,af none 0 0] 37)).alloc (.cells #[af none 0 0,af none 0 0,af none 0 0] 37)=wc):=hide (by rw[hwc,hwb,hwa]);clear hwa hwb hwc sa' sb;have HB3:=hide b3;have HS:=hide sc';have KA:=hide kA;have KR:=hide kR;have KO:=hide kO;clear kA kR kO b3 sc';go_enter func6,ntmps6;go_wp2_with fail;rw[HW.out];refine(xx _ aO _ wc HM.1.1 (HL.r1.below HB3.out)).mono ?_;rintro e w1⟨hb1,g1,rfl,⟨hg1,hgl1⟩,ho1⟩;have KA1:=hide (KA.below hb1);have KR1:=hide (KR.below hb1);have KO1:=hide (KO.below hb1);have HB1:=hide (aJ HB3.out hb1);have HO1:=hide ho1;have HG1:Hid (w.heap.size+1+1+1<=g1/\g1<w1.heap.size):=hide ⟨by rw[HS.out] at hg1;exact hg1,hgl1⟩;clear hb1 ho1 hg1 hgl1;have y1:=KA1.c 1 _ rfl;have t0:=KO1.c 0 _ rfl;have ft0:=KO1.f 0;go_wp2_with fail;have hb1':Below w.heap.size w (w1.setCell ⟨w.heap.size+1+1,0,none⟩ (af (some ⟨g1,0,none⟩) aO.length aO.length)):=HB1.setCell (p:=⟨w.heap.size+1+1,0,none⟩) (by show w.heap.size<=w.heap.size+1+1;omega) _;refine(xx _ aR _ (w1.setCell ⟨w.heap.size+1+1,0,none⟩ (af (some ⟨g1,0,none⟩) aO.length aO.length)) HM.2.1.1 (HL.r2.below hb1')).mono ?_;rintro e w2⟨hb2,g2,rfl,⟨hg2,hgl2⟩,ho2⟩;have hs1:(w1.setCell ⟨w.heap.size+1+1,0,none⟩ (af (some ⟨g1,0,none⟩) aO.length aO.length)).heap.size=w1.heap.size:=size_setCell _ _ _;rw[hs1] at hg2;have KA2:=hide ((KA1.other 0 (af (some ⟨g1,0,none⟩) aO.length aO.length) (show w.heap.size+1+1≠w.heap.size by omega)).below hb2);have KR2:=hide ((KR1.other 0 (af (some ⟨g1,0,none⟩) aO.length aO.length) (show w.heap.size+1+1≠w.heap.size+1 by omega)).below hb2);have KO2:=hide ((KO1.set 0 (af (some ⟨g1,0,none⟩) aO.length aO.length) (by simp)).below hb2);have HB2:=hide (aJ hb1' hb2);have HE1:Hid (w2.heap[g1]?=w1.heap[g1]?):=hide ((hb2.block g1 (by rw[hs1];exact HG1.2)).trans (kY _ _ (by have:=HG1.1;omega)));have HO2:=hide ho2;have HG2:Hid (g1<g2/\g2<w2.heap.size/\w1.heap.size<=w2.heap.size):=hide ⟨Nat.lt_of_lt_of_le HG1.2 hg2,hgl2,by have:=hb2.size;rw[hs1] at this;exact this⟩;clear hb2 ho2 hg2 hgl2 hb1' hs1 y1 t0 ft0;have y2:=KA2.c 2 _ rfl;have t1:=KO2.c 1 _ rfl;have ft1:=KO2.f 1;go_wp2_with fail;have hb2':Below w.heap.size w (w2.setCell ⟨w.heap.size+1+1,1,none⟩ (af (some ⟨g2,0,none⟩) aR.length aR.length)):=HB2.setCell (p:=⟨w.heap.size+1+1,1,none⟩) (by show w.heap.size<=w.heap.size+1+1;omega) _;refine(Gb _ ops _ (w2.setCell ⟨w.heap.size+1+1,1,none⟩ (af (some ⟨g2,0,none⟩) aR.length aR.length)) HM.2.2.1 (HL.r3.below hb2')).mono ?_;rintro e w3⟨hb3,g3,rfl,⟨hg3,hgl3⟩,ho3⟩;have hs2:(w2.setCell ⟨w.heap.size+1+1,1,none⟩ (af (some ⟨g2,0,none⟩) aR.length aR.length)).heap.size=w2.heap.size:=size_setCell _ _ _;rw[hs2] at hg3;have jR:=(KR2.other 1 (af (some ⟨g2,0,none⟩) aR.length aR.length) (show w.heap.size+1+1≠w.heap.size+1 by omega)).below hb3;have jO:=(KO2.set 1 (af (some ⟨g2,0,none⟩) aR.length aR.length) (by simp)).below hb3;clear y2 t1 ft1;have t0:=jO.c 0 _ rfl;have t1:=jO.c 1 _ rfl;have t2:=jO.c 2 _ rfl;have ft2:=jO.f 2;have u0:=jR.c 0 _ rfl;have u1:=jR.c 1 _ rfl;have u2:=jR.c 2 _ rfl;have fu0:=jR.f 0;have fu1:=jR.f 1;have fu2:=jR.f 2;obtain⟨Y,hY⟩:∃Y,Y=((((w3.setCell ⟨w.heap.size+1+1,2,none⟩ (af (some ⟨g3,0,none⟩) ops.length ops.length)).setCell ⟨w.heap.size+1,0,none⟩ (af (some ⟨g1,0,none⟩) aO.length aO.length)).setCell ⟨w.heap.size+1,1,none⟩ (af (some ⟨g2,0,none⟩) aR.length aR.length)).setCell ⟨w.heap.size+1,2,none⟩ (af (some ⟨g3,0,none⟩) ops.length ops.length)):=⟨_,rfl⟩;have eY:∀g,w.heap.size+1+1+1<=g->Y.heap[g]?=w3.heap[g]?:=fun g hg=>by
  rw[hY,kY _ _ (by omega),kY _ _ (by omega),kY _ _ (by omega),kY _ _ (by omega)]
 have sY:Y.heap.size=w3.heap.size:=by rw[hY,size_setCell,size_setCell,size_setCell,size_setCell]
 have e2:w3.heap[g2]?=w2.heap[g2]?:=(hb3.block g2 (by rw[hs2];exact HG2.2.1)).trans (kY _ _ (by have:=HG1.1;have:=HG2.1;omega));have e1:w3.heap[g1]?=w1.heap[g1]?:=((hb3.block g1 (by rw[hs2];have:=HG1.2;have:=HG2.2.2;omega)).trans (kY _ _ (by have:=HG1.1;omega))).trans HE1.out;have l1:w.heap.size+1+1+1<=g1:=HG1.1;have l2:w.heap.size+1+1+1<=g2:=by have:=HG2.1;omega
 have l3:w.heap.size+1+1+1<=g3:=by have:=HG2.2.1;omega
 have bY:Below w.heap.size w Y:=by
  rw[hY];exact((((aJ hb2' hb3).setCell (p:=⟨w.heap.size+1+1,2,none⟩) (by show w.heap.size<=w.heap.size+1+1;omega) _).setCell (p:=⟨w.heap.size+1,0,none⟩) (by show w.heap.size<=w.heap.size+1;omega) _).setCell (p:=⟨w.heap.size+1,1,none⟩) (by show w.heap.size<=w.heap.size+1;omega) _).setCell (p:=⟨w.heap.size+1,2,none⟩) (by show w.heap.size<=w.heap.size+1;omega) _
 have HE:Hid (Ox aO aR ops w (.returned (aj #[af (some ⟨g1,0,none⟩) aO.length aO.length,af (some ⟨g2,0,none⟩) aR.length aR.length,af (some ⟨g3,0,none⟩) ops.length ops.length])) Y):=hide ⟨bY,g1,g2,g3,rfl,by omega,⟨HO1.oz (fun _=>(eY g1 l1).trans e1),HO2.oz (fun _=>(eY g2 l2).trans e2),ho3.oz (fun _=>eY g3 l3),HG2.1,Nat.lt_of_lt_of_le HG2.2.1 hg3,by rw[sY];exact hgl3⟩⟩;have HY:=hide hY;clear jR jO ho3 hg3 hgl3 hb2' hs2 eY sY e1 e2 l1 l2 l3 bY hb3 hY;go_wp2;rw[<-HY.out];have c0:Y.cell? ⟨w.heap.size+1,0,none⟩=some (af (some ⟨g1,0,none⟩) aO.length aO.length):=by rw[HY.out,aP (.inr (by omega)),aP (.inr (by omega))];exact cz (by rw[aP (.inl (by omega))];exact u0)
 have c1:Y.cell? ⟨w.heap.size+1,1,none⟩=some (af (some ⟨g2,0,none⟩) aR.length aR.length):=by rw[HY.out,aP (.inr (by omega))];exact cz (by rw[aP (.inr (by omega)),aP (.inl (by omega))];exact u1)
 have c2:Y.cell? ⟨w.heap.size+1,2,none⟩=some (af (some ⟨g3,0,none⟩) ops.length ops.length):=by rw[HY.out];exact cz (by rw[aP (.inr (by omega)),aP (.inr (by omega)),aP (.inl (by omega))];exact u2)
 exact bodyPost_ret (v:=aj #[af (some ⟨g1,0,none⟩) aO.length aO.length,af (some ⟨g2,0,none⟩) aR.length aR.length,af (some ⟨g3,0,none⟩) ops.length ops.length]) (by simp[results,results6,go_sem,c0,c1,c2]) rfl HE.out
theorem H6(f:Fl)(w:World) :
  Calls prog 60 #[aj #[ag f.nm,ag f.da],aj #[ag f.nm,ag f.da]] w fun e w'=>e=.returned (.bool true)/\Below w.heap.size w w':=by
 go_enter func60,ntmps60;go_wp2;go_ret;exact⟨rfl,aF (aF (Below.refl _ _) _) _⟩
theorem KX(o:Dp)(w:World) :
  Calls prog 61 #[aj #[ae au o.kind,ag o.nm,ag o.tn,ag o.da],aj #[ae au o.kind,ag o.nm,ag o.tn,ag o.da]] w fun e w'=>e=.returned (.bool true)/\Below w.heap.size w w':=by
 have i0:(o.kind != o.kind)=false:=by simp
 go_enter func61,ntmps61;go_wp2;go_ret;exact⟨rfl,aF (aF (Below.refl _ _) _) _⟩
theorem xQ(a c:Option Addr)(l:List Fl)(ca cc:Nat)(w:World)(hn:l.length<=1048576)(h:bu 2 aW w a l)(h':bu 2 aW w c l) :
  Calls prog 24 #[af a l.length ca,af c l.length cc] w fun e w'=>e=.returned (.bool true)/\Below w.heap.size w w':=by
 have HC:=hide h;have HC':=hide h';clear h h';have hln:((l.length:Int) != (l.length:Int))=false:=by simp
 go_enter func24,ntmps24;go_wp2;go_loopw [5] (fun i wr=>∃k:Nat,k<=l.length/\i=ae au (k:Int)/\Hid (Below w.heap.size w wr)) (fun i wr=>l.length-(intOf i).toNat)
 case atStart=>exact⟨0,Nat.zero_le _,rfl,hide (Below.refl _ _)⟩
 case round =>
  obtain⟨k,hk,rfl,HB⟩:=hrel;by_cases hlt:k<l.length
  ·have hlt':(k:Int)<(l.length:Int):=by omega
   obtain⟨b,off,rfl,hb,c0,c1⟩:=iL (HC.below HB.out) k hlt;obtain⟨b',off',rfl,hb',p0,p1⟩:=iL (HC'.below HB.out) k hlt;have d0:=bN c0;have q0:=bN p0;have d1:=bN c1;have q1:=bN p1;have hne:Nonempty (Later wr):=bO _;go_wp2_with fail;refine aU wr (by kernel_rfl) (by kernel_rfl) ((Below.refl _ _).drew) ?_
   repeat (go_big_quiet_step (first|(go_at_call 60;exact dh (H6 l[k] _))))
   refine wpQuiet_nil ?_;intro _ hw';obtain⟨nx,rfl⟩:=hw';go_wp2;exact⟨⟨k+1,by omega,by go_num,hide (aJ HB.out nx.below)⟩,by simp[intOf];omega⟩
  ·have hk':¬ (k:Int)<(l.length:Int):=by omega
   go_wp2;go_ret;exact⟨rfl,HB.out⟩
theorem H8(a c:Option Addr)(l:List Dp)(ca cc:Nat)(w:World)(hn:l.length<=1048576)(h:bu 4 dR w a l)(h':bu 4 dR w c l) :
  Calls prog 25 #[af a l.length ca,af c l.length cc] w fun e w'=>e=.returned (.bool true)/\Below w.heap.size w w':=by
 have HC:=hide h;have HC':=hide h';clear h h';have hln:((l.length:Int) != (l.length:Int))=false:=by simp
 go_enter func25,ntmps25;go_wp2;go_loopw [5] (fun i wr=>∃k:Nat,k<=l.length/\i=ae au (k:Int)/\Hid (Below w.heap.size w wr)) (fun i wr=>l.length-(intOf i).toNat)
 case atStart=>exact⟨0,Nat.zero_le _,rfl,hide (Below.refl _ _)⟩
 case round =>
  obtain⟨k,hk,rfl,HB⟩:=hrel;by_cases hlt:k<l.length
  ·have hlt':(k:Int)<(l.length:Int):=by omega
   obtain⟨b,off,rfl,hb,c0,c1,c2,c3⟩:=wR (HC.below HB.out) k hlt;obtain⟨b',off',rfl,hb',p0,p1,p2,p3⟩:=wR (HC'.below HB.out) k hlt;have d0:=bN c0;have q0:=bN p0;have d1:=bN c1;have q1:=bN p1;have d2:=bN c2;have q2:=bN p2;have d3:=bN c3;have q3:=bN p3;have hne:Nonempty (Later wr):=bO _;go_wp2_with fail;refine aU wr (by kernel_rfl) (by kernel_rfl) ((Below.refl _ _).drew) ?_
   repeat (go_big_quiet_step (first|(go_at_call 61;exact dh (KX l[k] _))))
   refine wpQuiet_nil ?_;intro _ hw';obtain⟨nx,rfl⟩:=hw';go_wp2;exact⟨⟨k+1,by omega,by go_num,hide (aJ HB.out nx.below)⟩,by simp[intOf];omega⟩
  ·have hk':¬ (k:Int)<(l.length:Int):=by omega
   go_wp2;go_ret;exact⟨rfl,HB.out⟩
theorem H7(la sa oa la' sa' oa':Option Addr)(lc sc oc lc' sc' oc':Nat)(aO aR:List Fl)(ops:List Dp)(w:World)(hs:Tq aO aR ops)(h:xn w la sa oa aO aR ops)(h':xn w la' sa' oa' aO aR ops) :
  Calls prog 9 #[aj #[af la aO.length lc,af sa aR.length sc,af oa ops.length oc],aj #[af la' aO.length lc',af sa' aR.length sc',af oa' ops.length oc']] w fun e w'=>e=.returned (.bool true)/\Below w.heap.size w w':=by
 have H1:=hide h;have H2:=hide h';have HM:=hide hs;clear h h' hs;obtain⟨wa,hwa⟩:∃wa,wa=w.alloc (.cells #[af la aO.length lc,af sa aR.length sc,af oa ops.length oc] 37):=⟨_,rfl⟩;obtain⟨wb,hwb⟩:∃wb,wb=wa.alloc (.cells #[af la' aO.length lc',af sa' aR.length sc',af oa' ops.length oc'] 37):=⟨_,rfl⟩;have sa0:wa.heap.size=w.heap.size+1:=by rw[hwa];simp
 have kA:jb w.heap.size [af la aO.length lc,af sa aR.length sc,af oa ops.length oc] wb:=by rw[hwb,hwa];exact jb.new.alloc _
 have kB:jb (w.heap.size+1) [af la' aO.length lc',af sa' aR.length sc',af oa' ops.length oc'] wb:=by rw[<-sa0,hwb];exact jb.new
 have b2:Below w.heap.size w wb:=by rw[hwb,hwa];exact aF (aF (Below.refl _ _) _) _
 have HW:Hid ((w.alloc (.cells #[af la aO.length lc,af sa aR.length sc,af oa ops.length oc] 37)).alloc (.cells #[af la' aO.length lc',af sa' aR.length sc',af oa' ops.length oc'] 37)=wb):=hide (by rw[hwb,hwa]);clear hwa hwb sa0;have HB2:=hide b2;have KA:=hide kA;have KB:=hide kB;clear kA kB b2;go_enter func9,ntmps9;go_wp2_with fail;rw[HW.out];refine(xQ _ _ aO _ _ wb HM.1.1 (H1.r1.below HB2.out) (H2.r1.below HB2.out)).mono ?_;rintro e w1⟨rfl,hb1⟩;have KA1:=hide (KA.below hb1);have KB1:=hide (KB.below hb1);have HB1:Hid (Below w.heap.size w w1):=hide (aJ HB2.out hb1);clear hb1;have y1:=KA1.c 1 _ rfl;have z1:=KB1.c 1 _ rfl;go_wp2_with fail;refine(xQ _ _ aR _ _ w1 HM.2.1.1 (H1.r2.below HB1.out) (H2.r2.below HB1.out)).mono ?_;rintro e w2⟨rfl,hb2⟩;have y2:=(KA1.below hb2).c 2 _ rfl;have z2:=(KB1.below hb2).c 2 _ rfl;have HB3:Hid (Below w.heap.size w w2):=hide (aJ HB1.out hb2);clear hb2 y1 z1;go_wp2_with fail;refine(H8 _ _ ops _ _ w2 HM.2.2.1 (H1.r3.below HB3.out) (H2.r3.below HB3.out)).mono ?_;rintro e w3⟨rfl,hb3⟩;have HB4:Hid (Below w.heap.size w w3):=hide (aJ HB3.out hb3);clear hb3 y2 z2;go_wp2;go_ret;exact⟨rfl,HB4.out⟩
def kw(q n:Nat):List Fl:=(List.range n).map fun(i:Nat)=>⟨jd (q+2*i),jd (q+2*i+1)⟩
def mf(q n:Nat):List Dp:=(List.range n).map fun(i:Nat)=>⟨((q+4*i:Nat):Int),jd (q+4*i+1),jd (q+4*i+2),jd (q+4*i+3)⟩
theorem iK(q n:Nat):(kw q n).length=n:=by simp[kw]
theorem mZ(q n:Nat):(mf q n).length=n:=by simp[mf]
theorem KS(q n:Nat)(i:Nat)(h:i<n):(kw q n)[i]?=some ⟨jd (q+2*i),jd (q+2*i+1)⟩:=by simp[kw,List.getElem?_range h]
theorem J6(q n:Nat)(i:Nat)(h:i<n):(mf q n)[i]?=some ⟨((q+4*i:Nat):Int),jd (q+4*i+1),jd (q+4*i+2),jd (q+4*i+3)⟩:=by simp[mf,List.getElem?_range h]
def uX(q:Nat)(g:Nat)(a:Option Addr)(cap n:Nat)(w:World)(e:Ending)(w':World):Prop:=e=.returned (ae au ((q+2*n:Nat):Int))/\qV (0<n) g w w'/\bR 2 aW w' g a cap (kw q n)
theorem tL(a:Option Addr)(l:List Fl)(cap g:Nat)(q:Nat)(w:World)(hn:l.length<=10000000)(q0:0<q)(q1:q<=100000000)(h:bR 2 aW w g a cap l) :
  Calls prog 26 #[af a l.length cap,ae au (q:Int)] w fun e w'=>uX q g a cap l.length w e w':=by
 have HL:=hide h;clear h;by_cases h0:0<l.length
 ·have HO:=hide (nu Cc (by decide) (cells:=fun i=>((kw q l.length)[i]?).elim [] aW) HL.out h0);obtain⟨rfl,_⟩:=HL.own h0;go_enter func26,ntmps26;go_wp2;go_loopw [1,5] (fun s i wr=>∃k:Nat,k<=l.length/\i=ae au (k:Int)/\s=ae au ((q+2*k:Nat):Int)/\Hid (qV (0<l.length) g w wr)/\Hid (jV g l.length 2 (fun i=>((kw q l.length)[i]?).elim [] aW) k wr)) (fun s i wr=>l.length-(intOf i).toNat)
  case atStart=>exact⟨0,Nat.zero_le _,rfl,by simp,hide (qV.refl _ _ _),HO⟩
  case round =>
   obtain⟨k,hk,rfl,rfl,HT,HM⟩:=hrel;by_cases hlt:k<l.length
   ·have hlt':(k:Int)<(l.length:Int):=by omega
    have HQK:Hid (0<q+2*k/\q+2*k<=900000000):=hide (by omega);have hqk:((q+2*k:Nat):Int)<=900000000:=by omega
    have HAT:=hide (KS q l.length k hlt);generalize hqe:q+2*k=qk at *;have HQE:=hide hqe;clear hqe;have HP0:=hide HM.put;have HT0:=hide HT.out;clear HM HT;have HMT0:Hid (Calls prog 62 #[ae au ((qk:Nat):Int)] wr fun e w'=>e=.returned (ag (jd qk))/\Below wr.heap.size wr w'):=hide (by
     have:=eG qk wr (by have:=HQK.out;omega) (by have:=HQK.out;omega);simpa using this)
    go_wp2_with fail;refine HMT0.mono ?_;rintro e x0⟨rfl,hb0⟩;have HQ0:=hide (HP0.below hb0);have HU0:=hide (HT0.on hb0);clear hb0 HP0 HT0;obtain⟨v0,f0⟩:=HQ0.there (k*2) (by omega);have z0:=HQ0.free (k*2);have HP1:=hide (HQ0.set hlt (by decide) (v:=ag (jd qk)) (by rw[HAT.out];simp[aW]) (o:=k*2) (by omega));have HT1:=hide (HU0.setCell h0 (o:=k*2) (ag (jd qk)));clear HQ0 HU0;have HMT1:Hid (Calls prog 62 #[ae au ((qk:Int)+1)] (x0.setCell ⟨g,k*2,none⟩ (ag (jd qk))) fun e w'=>e=.returned (ag (jd (qk+1)))/\Below (x0.setCell ⟨g,k*2,none⟩ (ag (jd qk))).heap.size (x0.setCell ⟨g,k*2,none⟩ (ag (jd qk))) w'):=hide (by
     have:=eG (qk+1) (x0.setCell ⟨g,k*2,none⟩ (ag (jd qk))) (by have:=HQK.out;omega) (by have:=HQK.out;omega);simpa using this)
    go_wp2_with fail;refine HMT1.mono ?_;rintro e x1⟨rfl,hb1⟩;have HQ1:=hide (HP1.below hb1);have HU1:=hide (HT1.on hb1);clear hb1 HP1 HT1;obtain⟨v1,f1⟩:=HQ1.there (k*2+1) (by omega);have z1:=HQ1.free (k*2+1);have HP2:=hide (HQ1.set hlt (by decide) (v:=ag (jd (qk+1))) (by rw[HAT.out];simp[aW]) (o:=k*2+1) (by omega));have HT2:=hide (HU1.setCell h0 (o:=k*2+1) (ag (jd (qk+1))));clear HQ1 HU1;have HW:=hide HP2.whole;clear HP2;go_wp2;exact⟨⟨k+1,by omega,by go_num,by have:=HQE.out;go_num,HT2,HW⟩,by simp[intOf];omega⟩
   ·have hk':¬ (k:Int)<(l.length:Int):=by omega
    have HE:Hid (uX q g (some ⟨g,0,none⟩) cap l.length w (.returned (ae au ((q+2*k:Nat):Int))) wr):=hide (by
     have M:=HM.out;have ek:k=l.length:=by omega
     rw[ek] at M⊢;have O:=kv (l:=kw q l.length) Cc (by rw[iK];exact M) (cap:=cap) (by rw[iK];exact HL.room);exact⟨rfl,HT.out,O⟩)
    generalize ((q+2*k:Nat):Int)=qk at *;go_wp2;go_ret;exact HE.out
 ·have hz:l=[]:=List.eq_nil_of_length_eq_zero (by omega);subst hz;go_enter func26,ntmps26;go_wp2;go_loopw [1,5] (fun s i wr=>s=ae au (q:Int)/\i=ae au 0/\wr=w) (fun s i wr=>0)
  case atStart=>exact⟨rfl,rfl,rfl⟩
  case round =>
   obtain⟨rfl,rfl,hw⟩:=hrel;subst hw;go_wp2;go_ret;exact⟨by simp,qV.refl _ _ _,by have:=HL.out;simpa[kw] using this⟩
def xK(q:Nat)(g:Nat)(a:Option Addr)(cap n:Nat)(w:World)(e:Ending)(w':World):Prop:=e=.returned (ae au ((q+4*n:Nat):Int))/\qV (0<n) g w w'/\bR 4 dR w' g a cap (mf q n)
theorem C9(a:Option Addr)(l:List Dp)(cap g:Nat)(q:Nat)(w:World)(hn:l.length<=10000000)(q0:0<q)(q1:q<=100000000)(h:bR 4 dR w g a cap l) :
  Calls prog 27 #[af a l.length cap,ae au (q:Int)] w fun e w'=>xK q g a cap l.length w e w':=by
 have HL:=hide h;clear h;by_cases h0:0<l.length
 ·have HO:=hide (nu NL (by decide) (cells:=fun i=>((mf q l.length)[i]?).elim [] dR) HL.out h0);obtain⟨rfl,_⟩:=HL.own h0;go_enter func27,ntmps27;go_wp2;go_loopw [1,5] (fun s i wr=>∃k:Nat,k<=l.length/\i=ae au (k:Int)/\s=ae au ((q+4*k:Nat):Int)/\Hid (qV (0<l.length) g w wr)/\Hid (jV g l.length 4 (fun i=>((mf q l.length)[i]?).elim [] dR) k wr)) (fun s i wr=>l.length-(intOf i).toNat)
  case atStart=>exact⟨0,Nat.zero_le _,rfl,by simp,hide (qV.refl _ _ _),HO⟩
  case round =>
   obtain⟨k,hk,rfl,rfl,HT,HM⟩:=hrel;by_cases hlt:k<l.length
   ·have hlt':(k:Int)<(l.length:Int):=by omega
    have HQK:Hid (0<q+4*k/\q+4*k<=900000000):=hide (by omega);have hqk:((q+4*k:Nat):Int)<=900000000:=by omega
    have HAT:=hide (J6 q l.length k hlt);generalize hqe:q+4*k=qk at *;have HQE:=hide hqe;clear hqe;have HP0:=hide HM.put;have HT0:=hide HT.out;clear HM HT;have HQ0:=hide HP0.out;have HU0:=hide HT0.out;clear HP0 HT0;obtain⟨v0,f0⟩:=HQ0.there (k*4) (by omega);have z0:=HQ0.free (k*4);have HP1:=hide (HQ0.set hlt (by decide) (v:=ae au ((qk:Nat):Int)) (by rw[HAT.out];simp[dR]) (o:=k*4) (by omega));have HT1:=hide (HU0.setCell h0 (o:=k*4) (ae au ((qk:Nat):Int)));clear HQ0 HU0;have HMT1:Hid (Calls prog 62 #[ae au ((qk:Int)+1)] (wr.setCell ⟨g,k*4,none⟩ (ae au ((qk:Nat):Int))) fun e w'=>e=.returned (ag (jd (qk+1)))/\Below (wr.setCell ⟨g,k*4,none⟩ (ae au ((qk:Nat):Int))).heap.size (wr.setCell ⟨g,k*4,none⟩ (ae au ((qk:Nat):Int))) w'):=hide (by
     have:=eG (qk+1) (wr.setCell ⟨g,k*4,none⟩ (ae au ((qk:Nat):Int))) (by have:=HQK.out;omega) (by have:=HQK.out;omega);simpa using this)
    go_wp2_with fail;refine HMT1.mono ?_;rintro e x1⟨rfl,hb1⟩;have HQ1:=hide (HP1.below hb1);have HU1:=hide (HT1.on hb1);clear hb1 HP1 HT1;obtain⟨v1,f1⟩:=HQ1.there (k*4+1) (by omega);have z1:=HQ1.free (k*4+1);have HP2:=hide (HQ1.set hlt (by decide) (v:=ag (jd (qk+1))) (by rw[HAT.out];simp[dR]) (o:=k*4+1) (by omega));have HT2:=hide (HU1.setCell h0 (o:=k*4+1) (ag (jd (qk+1))));clear HQ1 HU1;have HMT2:Hid (Calls prog 62 #[ae au ((qk:Int)+2)] (x1.setCell ⟨g,k*4+1,none⟩ (ag (jd (qk+1)))) fun e w'=>e=.returned (ag (jd (qk+2)))/\Below (x1.setCell ⟨g,k*4+1,none⟩ (ag (jd (qk+1)))).heap.size (x1.setCell ⟨g,k*4+1,none⟩ (ag (jd (qk+1)))) w'):=hide (by
     have:=eG (qk+2) (x1.setCell ⟨g,k*4+1,none⟩ (ag (jd (qk+1)))) (by have:=HQK.out;omega) (by have:=HQK.out;omega);simpa using this)
    go_wp2_with fail;refine HMT2.mono ?_;rintro e x2⟨rfl,hb2⟩;have HQ2:=hide (HP2.below hb2);have HU2:=hide (HT2.on hb2);clear hb2 HP2 HT2;obtain⟨v2,f2⟩:=HQ2.there (k*4+2) (by omega);have z2:=HQ2.free (k*4+2);have HP3:=hide (HQ2.set hlt (by decide) (v:=ag (jd (qk+2))) (by rw[HAT.out];simp[dR]) (o:=k*4+2) (by omega));have HT3:=hide (HU2.setCell h0 (o:=k*4+2) (ag (jd (qk+2))));clear HQ2 HU2;have HMT3:Hid (Calls prog 62 #[ae au ((qk:Int)+3)] (x2.setCell ⟨g,k*4+2,none⟩ (ag (jd (qk+2)))) fun e w'=>e=.returned (ag (jd (qk+3)))/\Below (x2.setCell ⟨g,k*4+2,none⟩ (ag (jd (qk+2)))).heap.size (x2.setCell ⟨g,k*4+2,none⟩ (ag (jd (qk+2)))) w'):=hide (by
     have:=eG (qk+3) (x2.setCell ⟨g,k*4+2,none⟩ (ag (jd (qk+2)))) (by have:=HQK.out;omega) (by have:=HQK.out;omega);simpa using this)
    go_wp2_with fail;refine HMT3.mono ?_;rintro e x3⟨rfl,hb3⟩;have HQ3:=hide (HP3.below hb3);have HU3:=hide (HT3.on hb3);clear hb3 HP3 HT3;obtain⟨v3,f3⟩:=HQ3.there (k*4+3) (by omega);have z3:=HQ3.free (k*4+3);have HP4:=hide (HQ3.set hlt (by decide) (v:=ag (jd (qk+3))) (by rw[HAT.out];simp[dR]) (o:=k*4+3) (by omega));have HT4:=hide (HU3.setCell h0 (o:=k*4+3) (ag (jd (qk+3))));clear HQ3 HU3;have HW:=hide HP4.whole;clear HP4;go_wp2;exact⟨⟨k+1,by omega,by go_num,by have:=HQE.out;go_num,HT4,HW⟩,by simp[intOf];omega⟩
   ·have hk':¬ (k:Int)<(l.length:Int):=by omega
    have HE:Hid (xK q g (some ⟨g,0,none⟩) cap l.length w (.returned (ae au ((q+4*k:Nat):Int))) wr):=hide (by
     have M:=HM.out;have ek:k=l.length:=by omega
     rw[ek] at M⊢;have O:=kv (l:=mf q l.length) NL (by rw[mZ];exact M) (cap:=cap) (by rw[mZ];exact HL.room);exact⟨rfl,HT.out,O⟩)
    generalize ((q+4*k:Nat):Int)=qk at *;go_wp2;go_ret;exact HE.out
 ·have hz:l=[]:=List.eq_nil_of_length_eq_zero (by omega);subst hz;go_enter func27,ntmps27;go_wp2;go_loopw [1,5] (fun s i wr=>s=ae au (q:Int)/\i=ae au 0/\wr=w) (fun s i wr=>0)
  case atStart=>exact⟨rfl,rfl,rfl⟩
  case round =>
   obtain⟨rfl,rfl,hw⟩:=hrel;subst hw;go_wp2;go_ret;exact⟨by simp,qV.refl _ _ _,by have:=HL.out;simpa[mf] using this⟩
theorem Rn.f{l:List Fl}(h:Rn FU l):D9 l:=h.2
abbrev IK(A B:Nat)(p0 p1 p2 q0 q1 q2:Value)(W x:World):Prop:=x.cell? ⟨A,0,none⟩=some p0/\x.cell? ⟨A,1,none⟩=some p1/\x.cell? ⟨A,2,none⟩=some p2/\x.cell? ⟨B,0,none⟩=some q0/\x.cell? ⟨B,1,none⟩=some q1/\x.cell? ⟨B,2,none⟩=some q2/\Hid (Below W.heap.size W x)
theorem IK.of{A B:Nat}{p0 p1 p2 q0 q1 q2:Value}{W x:World}(h:jb A [p0,p1,p2] W)(k:jb B [q0,q1,q2] W)(b:Below W.heap.size W x):IK A B p0 p1 p2 q0 q1 q2 W x :=
 ⟨(h.below b).c 0 _ rfl,(h.below b).c 1 _ rfl,(h.below b).c 2 _ rfl,(k.below b).c 0 _ rfl,(k.below b).c 1 _ rfl,(k.below b).c 2 _ rfl,hide b⟩
theorem IK.on{A B:Nat}{p0 p1 p2 q0 q1 q2:Value}{W x y:World}(h:IK A B p0 p1 p2 q0 q1 q2 W x)(b:Below x.heap.size x y):IK A B p0 p1 p2 q0 q1 q2 W y :=
 ⟨aN b _ _ h.1,aN b _ _ h.2.1,aN b _ _ h.2.2.1,aN b _ _ h.2.2.2.1,aN b _ _ h.2.2.2.2.1,aN b _ _ h.2.2.2.2.2.1,hide (aJ h.2.2.2.2.2.2.out b)⟩
theorem IK.old{A B:Nat}{p0 p1 p2 q0 q1 q2:Value}{W x:World}(h:IK A B p0 p1 p2 q0 q1 q2 W x):Below W.heap.size W x:=h.2.2.2.2.2.2.out
end Go.Proofs.YtdbmmdecclalgaaGreatDoor
