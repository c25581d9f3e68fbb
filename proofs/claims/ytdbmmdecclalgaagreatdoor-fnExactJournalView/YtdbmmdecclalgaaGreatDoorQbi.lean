import Derived.Test.YtdbmmdecclalgaaGreatDoorQbb
import Derived.Test.YtdbmmdecclalgaaGreatDoorQbf
import Derived.Test.YtdbmmdecclalgaaGreatDoorQbc
import Derived.Test.YtdbmmdecclalgaaGreatDoorQbh
import Derived.Deep.RegionHeld3
namespace Go.Proofs.YtdbmmdecclalgaaGreatDoor
open Go.Value renaming int → ae, pointer → ai, agg → aj, string → ag, slice → af
open Go.IntKind renaming i64 → au
open Go.Proofs.Tryz Go.ChangeShapes Go.WideShapes Go.ChangeAt Go.RowKit Go.Maps
set_option linter.unusedVariables false
set_option maxRecDepth 100000
set_option maxHeartbeats 4000000
theorem Ip(w:World):Calls prog 133 #[.nilIface] w fun e w'=>e=.returned (ae au 0)/\Below w.heap.size w w':=by
 have HB:Hid (Below w.heap.size w (w.alloc (.cells #[ai none] 229))):=hide (aF (Below.refl _ _) _);go_enter func133,ntmps133;go_wp2_with fail;refine(Rj _ _).mono ?_;rintro e w2⟨rfl,hw2⟩;have HW:=hide hw2;clear hw2;go_wp2_with fail;go_ret;exact⟨rfl,HW.out▸HB.out⟩
theorem xW(n:Nat)(code:Int)(g:Value)(w:World)(hb:jb n [ae au code,g] w)(hg:w.cell? ⟨3,0,none⟩=some (.iface 288 (aj #[ai (some ⟨11,182,none⟩)]))) :
  Calls prog 133 #[.iface 229 (ai (some ⟨n,0,none⟩))] w fun e w'=>e=.returned (ae au code)/\Below w.heap.size w w':=by
 obtain⟨W1,hW1⟩:∃W1,W1=w.alloc (.cells #[ai none] 229):=⟨_,rfl⟩;have hB1:Below w.heap.size w W1:=by rw[hW1];exact aF (Below.refl _ _) _
 have hn:n≠w.heap.size:=Nat.ne_of_lt hb.lt;have k0:W1.cell? ⟨w.heap.size,0,none⟩=some (.pointer none):=by rw[hW1];exact World.cell?_alloc_at _ _ _ _ rfl
 have k1:W1.frozen? ⟨w.heap.size,0,none⟩=false:=by rw[hW1];exact iw (heap_alloc_new w _) 0
 have hlw:w.heap.size<W1.heap.size:=by rw[hW1];simp
 have HAS:=hide (Rk ⟨n,0,none⟩ ⟨w.heap.size,0,none⟩ (.pointer none) W1 ((hB1.cell (p:=⟨3,0,none⟩) (dO hg)).trans hg) k0 k1);have HB:=hide (hb.below hB1);have HW1:Hid (_=W1):=hide hW1.symm;have HB1:=hide hB1;clear hW1 hg k0 k1 hB1;go_enter func133,ntmps133;go_upto_region 2 with fail
 rw[HW1.out];go_wp2_with fail;refine HAS.mono ?_;rintro e w2⟨rfl,hw2⟩;obtain⟨X,hX⟩:∃X,X=(((W1.alloc (.cells #[ai (some ⟨w.heap.size,0,none⟩)] 231)).alloc (.cells #[ai (some ⟨11,231,none⟩),ai (some ⟨W1.heap.size,0,none⟩),.int .u64 150] 280)).alloc (.cells #[ai (some ⟨11,231,none⟩),ai (some ⟨W1.heap.size,0,none⟩),.int .u64 150] 280)).alloc (.cells #[ai (some ⟨n,0,none⟩)] 229):=⟨_,rfl⟩;have bX:Below W1.heap.size W1 X:=by rw[hX];exact aF (aF (aF (aF (Below.refl _ _) _) _) _) _
 rw[<-hX] at hw2;have c0:w2.cell? ⟨w.heap.size,0,none⟩=some (ai (some ⟨n,0,none⟩)):=by
  rw[hw2];refine cz (u:=.pointer none) ?_;rw[bX.cell (p:=⟨w.heap.size,0,none⟩) hlw,<-HW1.out];exact World.cell?_alloc_at _ _ _ _ rfl
 have c1:w2.cell? ⟨n,0,none⟩=some (ae au code):=by
  rw[hw2,aP (.inl (fun e=>hn e.symm))];exact(HB.below bX).c 0 _ rfl
 have HB2:Hid (Below w.heap.size w w2):=hide (by rw[hw2];exact(aJ HB1.out bX).setCell (Nat.le_refl _) _);have hn2:n<w2.heap.size:=dO c1;clear hw2 hX bX HW1 HAS HB1;go_wp2_with fail;go_ret;exact⟨rfl,HB2.out⟩
theorem zu(L:bM)(i j:Nat)(am:Int):((mY L i j am).1.aI).map bF.name=L.aI.map bF.name:=by
 unfold mY;split
 ·split
  ·simp only[iV];rw[jB,jB]
  ·rfl
 ·rfl
theorem Ch(D:bM)(c:Cm):((lZ D c).1.aI).map bF.name=D.aI.map bF.name\/(lZ D c).1.aI=qz D.aI ⟨c.fr,c.to,c.am,0⟩:=by
 unfold lZ;split
 ·unfold kW;split
  ·exact .inl rfl
  ·exact .inr rfl
 ·split
  ·left;unfold ja;split
   ·split
    ·split
     ·exact zu ..
     ·unfold zY;split
      ·rfl
      ·split<;>rfl
    ·rfl
   ·rfl
  ·left;unfold nK;split
   ·rfl
   ·split
    ·rfl
    ·split
     ·split
      ·exact zu ..
      ·rfl
     ·rfl
theorem Q4{D:bM}{c:Cm}(hw:og D)(hcf:c.fr.size<=maxLen):∀y∈(lZ D c).1.aI,y.name.size<=maxLen:=by
 intro y hy;rcases Ch D c with e|e
 ·have h1:y.name∈((lZ D c).1.aI).map bF.name:=List.mem_map.2 ⟨y,hy,rfl⟩;rw[e] at h1;obtain⟨x,hx,e2⟩:=List.mem_map.1 h1;rw[<-e2];exact(hw.aI x hx).1
 ·rw[e] at hy;rcases List.mem_append.1 ((oJ D.aI ⟨c.fr,c.to,c.am,0⟩).mem_iff.2 hy) with h|h
  ·exact(hw.aI y h).1
  ·rw[List.mem_singleton.1 h];exact hcf
theorem NP{D:bM}{c:Cm}(h:D.aI.length<=12):(lZ D c).1.aI.length<=13:=by
 rcases Ch D c with e|e
 ·have:=congrArg List.length e;simp only[List.length_map] at this;omega
 ·rw[e,zT];omega
theorem FP{D:bM}{c:Cm}{k:Int}(hs:df D=true)(h:uz D c=some k):dJ D c=(D,k):=by
 unfold uz at h;unfold dJ;rw[hs];simp only[Bool.true_eq_false,if_false];split at h
 ·rename_i q;rw[if_pos q];cases h;rfl
 ·rename_i q;rw[if_neg q];split at h
  ·rename_i q2;rw[if_pos q2];cases h;rfl
  ·rename_i q2;rw[if_neg q2];split at h
   ·rename_i q3;rw[if_pos q3];cases h;rfl
   ·cases h
theorem FQ{D:bM}{c:Cm}(hs:df D=true)(h:uz D c=none):c.B=true/\¬ 0<=jN D.aH c.id/\fw D c=false/\dJ D c=(⟨(lZ D c).1.aI,(lZ D c).1.az,kG D.aH c.id (lZ D c).2⟩,(lZ D c).2):=by
 unfold uz at h;unfold dJ;rw[hs];simp only[Bool.true_eq_false,if_false];split at h
 ·cases h
 ·rename_i q;split at h
  ·cases h
  ·rename_i q2;split at h
   ·cases h
   ·rename_i q3;refine⟨by simpa using q,q2,by simpa using q3,?_⟩;rw[if_neg q,if_neg q2,if_neg q3]
theorem Eu{l:List Sn}{id:Int}(hc:∀y∈l,0<=y.code)(h:¬ 0<=jN l id):∀y∈l,y.id≠id:=by
 intro y hy e
 cases hf:fi (l.map Sn.id) id with
 | none =>
  rw[fi,List.findIdx?_eq_none_iff] at hf;have:=hf y.id (List.mem_map.2 ⟨y,hy,rfl⟩);simp[e] at this
 | some k =>
  have hf2:=hf;rw[fi,List.findIdx?_eq_some_iff_getElem] at hf2;have hk:k<l.length:=by simpa using hf2.1
  rw[ze hf hk] at h;exact h (hc _ (List.getElem_mem hk))
structure Rt(D:bM):Prop where
 na:D.aI.length<=12
 nh:D.az.length<=10
 ns:D.aH.length<=40
 srt:F6 D.aI
 ac:∀x∈D.aI,dW x.name=true/\jU x.cur=true/\(-1<=x.bB/\x.bB<=1000000000000)/\dD x (bf x.name D.az)=true/\fe x.cur D.aI=0
 hup:D.az.Pairwise (fun a b=>a.id<b.id)
 ho:∀h∈D.az,(1<=h.id/\h.id<=1000000000)/\(1<=h.aV/\h.aV<=1000000000000)/\h.fr≠h.to/\∃x∈D.aI,∃y∈D.aI,x.name=h.fr/\y.name=h.to/\x.cur=y.cur
 sup:D.aH.Pairwise (fun a b=>a.id<b.id)
 se:∀s∈D.aH,(1<=s.id/\s.id<=1000000000)/\(s.code=0\/(4<=s.code/\s.code<=9))
theorem Jm{A:List bF}(hs:F6 A){i:Nat}(hi:i<A.length):dZ A A[i].name=some i :=
 sI hi rfl (fun j hj e=>yG hs j i (by omega) hi hj e)
theorem Cz{A:List bF}(hs:F6 A){i j:Nat}(hi:i<A.length)(hj:j<A.length)(e:A[i].name=A[j].name):i=j:=by
 rcases Nat.lt_trichotomy i j with h|h|h
 ·exact absurd e (yG hs i j hi hj h)
 ·exact h
 ·exact absurd e.symm (yG hs j i hj hi h)
theorem rR{f:Nat->Bool}:∀{n:Nat},(∀k,k<n->f k=true)->bE f n=true
 | 0,_=>rfl
 | n+1,h=>dQ (rR (fun k hk=>h k (by omega))) (h n (by omega))
theorem Ev{l:List Int}(h:l.Pairwise (· < ·))(k:Nat)(hk:k<l.length):fD l k=true:=by
 cases k with
 | zero=>rfl
 | succ m=>rw[Ew hk];exact decide_eq_true (List.pairwise_iff_getElem.1 h m (m+1) (by omega) hk (by omega))
theorem PX{D:bM}(k:df D=true):Rt D:=by
 have ok:=ul k;have lm:=Qk k;unfold df at k;simp only[Bool.and_eq_true,decide_eq_true_eq] at k;obtain⟨⟨⟨⟨⟨⟨k1,k2⟩,k3⟩,k4⟩,k5⟩,k6⟩,k7⟩:=k;refine⟨k1,k2,k3,lm.srt,fun x hx=>?_,List.pairwise_map.1 ok.en.up,fun h hh=>?_,List.pairwise_map.1 ok.up,fun s hs=>ok.codes s hs⟩
 ·obtain⟨i,hi,rfl⟩:=List.mem_iff_getElem.1 hx;have q:=dU k6 hi;rw[iE hi] at q;simp only[Bool.and_eq_true,decide_eq_true_eq] at q;exact⟨q.1.1.1.1.1,q.1.1.1.1.2,bW.1 q.1.1.1.2,q.1.2,q.2⟩
 ·obtain⟨hp,hne,g1,g2⟩:=lm.prs h hh;obtain⟨i,hi,e⟩:=List.mem_iff_getElem.1 hh;have q:=dU k5 hi;rw[fI hi,e] at q;simp only[Bool.and_eq_true] at q;refine⟨bW.1 q.1.1,⟨g1,g2⟩,hne,?_⟩;unfold gp at hp;split at hp
  ·rename_i i j e1 e2;obtain⟨hi1,n1,_⟩:=fq e1;obtain⟨hj1,n2,_⟩:=fq e2;split at hp
   ·rename_i q2;rw[o7 hi1 hj1] at q2;exact⟨_,List.getElem_mem hi1,_,List.getElem_mem hj1,n1,n2,eX.1 q2⟩
   ·cases hp
  ·cases hp
theorem RQ{D:bM}(r:Rt D):df D=true:=by
 have hu:(D.az.map bP.id).Pairwise (· < ·):=List.pairwise_map.2 r.hup;have su:(D.aH.map Sn.id).Pairwise (· < ·):=List.pairwise_map.2 r.sup;unfold df;simp only[Bool.and_eq_true,decide_eq_true_eq];refine⟨⟨⟨⟨⟨⟨r.na,r.nh⟩,r.ns⟩,rR (fun k hk=>?_)⟩,rR (fun k hk=>?_)⟩,rR (fun k hk=>?_)⟩,rR (fun k hk=>?_)⟩
 ·rw[ru hk];have:=(r.ac _ (List.getElem_mem hk)).2.2.2.1;simp only[dD,Bool.and_eq_true] at this;exact this.1.1
 ·obtain⟨h1,h2,h3,x,hx,y,hy,e1,e2,e3⟩:=r.ho _ (List.getElem_mem hk);rw[fI hk];simp only[Bool.and_eq_true];refine⟨⟨bW.2 h1,Ev hu k (by simpa using hk)⟩,?_⟩;obtain⟨i,hi,rfl⟩:=List.mem_iff_getElem.1 hx;obtain⟨j,hj,rfl⟩:=List.mem_iff_getElem.1 hy;have a1:=Jm r.srt hi;have a2:=Jm r.srt hj;rw[e1] at a1;rw[e2] at a2;rw[qm a1 a2 hi hj];simp only[Bool.and_eq_true,decide_eq_true_eq];exact⟨⟨fun e=>h3 (by rw[<-e1,<-e2];subst e;rfl),eX.2 e3⟩,bW.2 h2⟩
 ·obtain⟨h1,h2,h3,h4,h5⟩:=r.ac _ (List.getElem_mem hk);rw[iE hk];simp only[Bool.and_eq_true,decide_eq_true_eq];refine⟨⟨⟨⟨⟨h1,h2⟩,bW.2 h3⟩,?_⟩,h4⟩,h5⟩
  cases k with
  | zero=>rfl
  | succ m=>rw[kZ hk];exact EL.2 (List.pairwise_iff_getElem.1 r.srt m (m+1) (by omega) hk (by omega))
 ·obtain⟨h1,h2⟩:=r.se _ (List.getElem_mem hk);rw[jf hk];simp only[Bool.and_eq_true,Bool.or_eq_true,decide_eq_true_eq];exact⟨⟨bW.2 h1,Ev su k (by simpa using hk)⟩,h2.imp id bW.2⟩
theorem Ee(cur:ByteArray)(a b:List bF):fe cur (a++b)=fe cur a+fe cur b:=by
 induction a with
 | nil=>simp[fe]
 | cons x l ih=>simp only[List.cons_append,fe,ih];omega
theorem LK(cur:ByteArray)(l:List bF)(x:bF):fe cur (qz l x)=fe cur l+(if x.cur=cur then x.aS else 0):=by
 have e:=List.takeWhile_append_dropWhile (p:=fun y:bF=>!F4 x.name y.name) (l:=l);have e2:fe cur l=fe cur (l.takeWhile (fun y:bF=>!F4 x.name y.name))+fe cur (l.dropWhile (fun y:bF=>!F4 x.name y.name)):=by rw[<-Ee,e]
 rw[e2];unfold qz;rw[Ee];simp only[fe];omega
theorem JO{cur:ByteArray}{l:List bF}(h:∀x∈l,x.cur≠cur):fe cur l=0:=by
 induction l with
 | nil=>rfl
 | cons x l ih =>
  simp only[fe];rw[if_neg (h x (List.mem_cons_self ..)),ih (fun y hy=>h y (List.mem_cons_of_mem _ hy))];rfl
theorem Hm{nm:ByteArray}{l:List bP}(h:∀x∈l,x.fr≠nm):bf nm l=0:=by
 induction l with
 | nil=>rfl
 | cons x l ih =>
  simp only[bf];rw[if_neg (h x (List.mem_cons_self ..)),ih (fun y hy=>h y (List.mem_cons_of_mem _ hy))];rfl
theorem Ec(cur:ByteArray):∀(l:List bF)(i:Nat)(y:bF)(hi:i<l.length),y.cur=l[i].cur->fe cur (l.set i y)=fe cur l+(if l[i].cur=cur then y.aS-l[i].aS else 0)
 | [],i,y,hi,e=>by simp at hi
 | x::l,0,y,hi,e=>by
  simp only[List.set_cons_zero,fe,List.getElem_cons_zero] at e⊢;rw[e];split<;>omega
 | x::l,i+1,y,hi,e=>by
  simp only[List.set_cons_succ,fe,List.getElem_cons_succ] at e⊢;rw[Ec cur l i y (by simpa using hi) e];omega
theorem Bv{A:List bF}{i:Nat}(hi:i<A.length)(cur:ByteArray)(d:Int):fe cur (iG A i d)=fe cur A+(if A[i].cur=cur then d else 0):=by
 have e:iG A i d=A.set i (gV A[i] d):=by simp[iG,hi]
 rw[e,Ec cur A i (gV A[i] d) hi rfl];simp only[gV];split<;>omega
theorem y8{A:List bF}{i k:Nat}(hi:i<A.length)(hk:k<A.length)(d:Int)(hk':k<(iG A i d).length):(iG A i d)[k]=⟨A[k].name,A[k].cur,A[k].bB,A[k].aS+(if k=i then d else 0)⟩:=by
 have e:iG A i d=A.set i (gV A[i] d):=by simp[iG,hi]
 simp only[e,List.getElem_set];split
 ·rename_i q;subst q;simp[gV]
 ·rename_i q;rw[if_neg (fun z=>q z.symm)];simp
theorem yJ{A:List bF}{i j k:Nat}(hi:i<A.length)(hj:j<A.length)(hk:k<A.length)(am:Int)(hk':k<(iV A i j am).length):(iV A i j am)[k]=⟨A[k].name,A[k].cur,A[k].bB,A[k].aS+(if k=i then -am else 0)+(if k=j then am else 0)⟩:=by
 have h1:k<(iG A i (-am)).length:=by rw[iy];exact hk
 have h2:j<(iG A i (-am)).length:=by rw[iy];exact hj
 have e1:=y8 h2 h1 am (by rw[iy];exact h1);have e2:=y8 hi hk (-am) h1;rw[e2] at e1;exact e1
theorem GQ{A:List bF}{i j:Nat}(am:Int):(iV A i j am).map bF.name=A.map bF.name:=by unfold iV;rw[jB,jB]
theorem Ms{A:List bF}{i j:Nat}(hi:i<A.length)(hj:j<A.length)(hc:A[i].cur=A[j].cur)(cur:ByteArray)(am:Int):fe cur (iV A i j am)=fe cur A:=by
 unfold iV;have h2:j<(iG A i (-am)).length:=by rw[iy];exact hj
 have e2:(iG A i (-am))[j].cur=A[j].cur:=by rw[y8 hi hj (-am) h2]
 rw[Bv h2,Bv hi,e2,hc];split<;>omega
theorem Ea{x:bF}{h h':Int}(k:dD x h=true)(hl:h'<=h):dD x h'=true:=by
 simp only[dD,Bool.and_eq_true,Bool.or_eq_true,decide_eq_true_eq] at k⊢;refine⟨⟨k.1.1,by omega⟩,?_⟩;rcases k.2 with q|q
 ·exact .inl q
 ·exact .inr (by omega)
theorem QC{D:bM}(r:Rt D){i j:Nat}(hi:i<D.aI.length)(hj:j<D.aI.length)(hij:i≠j)(hc:D.aI[i].cur=D.aI[j].cur){am:Int}(h0:0<=am)
  (hr:gG (iV D.aI i j am) j=true) (hk:iH (iV D.aI i j am) D.az i=true):Rt ⟨iV D.aI i j am,D.az,D.aH⟩:=by
 have mem:∀y,y∈iV D.aI i j am->∃k,∃hk:k<D.aI.length,y=⟨D.aI[k].name,D.aI[k].cur,D.aI[k].bB,D.aI[k].aS+(if k=i then -am else 0)+(if k=j then am else 0)⟩:=fun y hy=>by
  obtain⟨k,hk,rfl⟩:=List.mem_iff_getElem.1 hy;have hk2:k<D.aI.length:=by rw[pq] at hk;exact hk
  exact⟨k,hk2,yJ hi hj hk2 am hk⟩
 have there:∀k (hk:k<D.aI.length),∃y∈iV D.aI i j am,y.name=D.aI[k].name/\y.cur=D.aI[k].cur:=fun k hk=>by
  have hk':k<(iV D.aI i j am).length:=by rw[pq];exact hk
  refine⟨_,List.getElem_mem hk',?_,?_⟩<;>rw[yJ hi hj hk am hk']
 refine⟨by rw[pq];exact r.na,r.nh,r.ns,wm (GQ am).symm r.srt,fun y hy=>?_,r.hup,fun h hh=>?_,r.sup,r.se⟩
 ·obtain⟨k,hkl,rfl⟩:=mem y hy;obtain⟨h1,h2,h3,h4,h5⟩:=r.ac _ (List.getElem_mem hkl);refine⟨h1,h2,h3,?_,by simp only;rw[Ms hi hj hc];exact h5⟩;by_cases ki:k=i
  ·subst ki;have hk':k<(iV D.aI k j am).length:=by rw[pq];exact hkl
   have e:=yJ hi hj hkl am hk';simp only[iH,List.getElem?_eq_getElem hk'] at hk;rw[e] at hk;exact hk
  ·by_cases kj:k=j
   ·subst kj;have hk':k<(iV D.aI i k am).length:=by rw[pq];exact hkl
    have e:=yJ hi hj hkl am hk';simp only[gG,List.getElem?_eq_getElem hk'] at hr;rw[e] at hr;simp only[if_neg ki,if_pos] at hr⊢;simp only[dD,Bool.and_eq_true,Bool.or_eq_true,decide_eq_true_eq] at h4⊢;exact⟨⟨hr,h4.1.2⟩,h4.2.imp id (fun q=>by omega)⟩
   ·rw[if_neg ki,if_neg kj];simp only[Int.add_zero];exact h4
 ·obtain⟨h1,h2,h3,x,hx,y,hy,e1,e2,e3⟩:=r.ho h hh;obtain⟨a,ha,rfl⟩:=List.mem_iff_getElem.1 hx;obtain⟨b,hb,rfl⟩:=List.mem_iff_getElem.1 hy;obtain⟨x',hx',n1,c1⟩:=there a ha;obtain⟨y',hy',n2,c2⟩:=there b hb;exact⟨h1,h2,h3,x',hx',y',hy',n1.trans e1,n2.trans e2,by rw[c1,c2];exact e3⟩
theorem QD{D:bM}(r:Rt D){k:Nat}(hk:k<D.az.length):Rt ⟨D.aI,jT D.az k,D.aH⟩:=by
 refine⟨r.na,by have:=vL D.az k hk;have:=r.nh;show (jT D.az k).length<=10;omega,r.ns,r.srt,fun x hx=>?_,?_,fun h hh=>r.ho h (Ju hh),r.sup,r.se⟩
 ·obtain⟨h1,h2,h3,h4,h5⟩:=r.ac x hx;exact⟨h1,h2,h3,Ea h4 (Ca (fun y hy=>by have:=(r.ho y hy).2.1;omega) hk),h5⟩
 ·have h:=r.hup;rw[sN D.az k hk,List.pairwise_append] at h;show (D.az.take k++D.az.drop (k+1)).Pairwise _;rw[List.pairwise_append];exact⟨h.1,(List.pairwise_cons.1 h.2.1).2,fun a ha b hb=>h.2.2 a ha b (List.mem_cons_of_mem _ hb)⟩
theorem OU{D:bM}(r:Rt D){nm cu:ByteArray}{li:Int}(hn:dW nm=true)(hc:jU cu=true)(hl:-1<=li/\li<=1000000000000)(hno:dZ D.aI nm=none)(hlen:D.aI.length<12):Rt ⟨qz D.aI ⟨nm,cu,li,0⟩,D.az,D.aH⟩:=by
 have hoff:∀y∈D.aI,y.name≠nm:=fun y hy=>by
  obtain⟨i,hi,rfl⟩:=List.mem_iff_getElem.1 hy;exact vz hno i hi
 have mem:∀y,y∈qz D.aI ⟨nm,cu,li,0⟩ ↔ y∈D.aI\/y=⟨nm,cu,li,0⟩:=fun y=>by
  rw[<-(oJ D.aI ⟨nm,cu,li,0⟩).mem_iff,List.mem_append,List.mem_singleton]
 have tot:∀cur,fe cur (qz D.aI ⟨nm,cu,li,0⟩)=fe cur D.aI:=fun cur=>by
  rw[LK];simp
 refine⟨by rw[zT];omega,r.nh,r.ns,IW r.srt hoff,fun x hx=>?_,r.hup,fun h hh=>?_,r.sup,r.se⟩
 ·rcases (mem x).1 hx with h|rfl
  ·obtain⟨h1,h2,h3,h4,h5⟩:=r.ac x h;exact⟨h1,h2,h3,h4,(tot _).trans h5⟩
  ·have hh:bf nm D.az=0:=Hm (fun h hh e=>by
    obtain⟨_,_,_,x,hx,_,_,e1,_⟩:=r.ho h hh;exact hoff x hx (e1.trans e))
   refine⟨hn,hc,hl,?_,?_⟩
   ·simp only[dD,hh,Bool.and_eq_true,Bool.or_eq_true,decide_eq_true_eq,bW];omega
   ·simp only;rw[tot];by_cases q:∃x∈D.aI,x.cur=cu
    ·obtain⟨x,hx,e⟩:=q;rw[<-e];exact(r.ac x hx).2.2.2.2
    ·exact JO (fun x hx e=>q ⟨x,hx,e⟩)
 ·obtain⟨h1,h2,h3,x,hx,y,hy,e⟩:=r.ho h hh;exact⟨h1,h2,h3,x,(mem x).2 (.inl hx),y,(mem y).2 (.inl hy),e⟩
theorem OV{D:bM}(r:Rt D){hd:bP}{i j:Nat}(hi:i<D.aI.length)(hj:j<D.aI.length)(ni:D.aI[i].name=hd.fr)(nj:D.aI[j].name=hd.to)(hne:hd.fr≠hd.to)(hc:D.aI[i].cur=D.aI[j].cur)(hid:1<=hd.id/\hd.id<=1000000000)(ham:1<=hd.aV/\hd.aV<=1000000000000)
  (hno:∀y∈D.az,y.id≠hd.id) (hlen:D.az.length<10) (hk:iH D.aI (kH D.az hd) i=true):Rt ⟨D.aI,kH D.az hd,D.aH⟩:=by
 have mem:∀y,y∈kH D.az hd ↔ y∈D.az\/y=hd:=fun y=>by
  rw[show kH D.az hd=D.az.takeWhile (fun y:bP=>decide (y.id<hd.id))++hd::D.az.dropWhile (fun y:bP=>decide (y.id<hd.id)) from rfl,(nC (fun y:bP=>decide (y.id<hd.id)) D.az hd).mem_iff,List.mem_append,List.mem_singleton]
 have len:(kH D.az hd).length=D.az.length+1:=by
  have:=(nC (fun y:bP=>decide (y.id<hd.id)) D.az hd).length_eq;simpa[kH] using this
 refine⟨r.na,by show (kH D.az hd).length<=10;omega,r.ns,r.srt,fun x hx=>?_,Hf bP.id D.az hd r.hup hno,fun h hh=>?_,r.sup,r.se⟩
 ·obtain⟨k,hkl,rfl⟩:=List.mem_iff_getElem.1 hx;obtain⟨h1,h2,h3,h4,h5⟩:=r.ac _ hx;refine⟨h1,h2,h3,?_,h5⟩;simp only;by_cases q:hd.fr=D.aI[k].name
  ·have ki:k=i:=Cz r.srt hkl hi (by rw[ni];exact q.symm);subst ki;simpa[iH,hkl] using hk
  ·rw[wM,if_neg q,Int.add_zero];exact h4
 ·rcases (mem h).1 hh with q|rfl
  ·exact r.ho h q
  ·exact⟨hid,ham,hne,_,List.getElem_mem hi,_,List.getElem_mem hj,ni,nj,hc⟩
theorem QB{D:bM}(r:Rt D){id code:Int}(hid:1<=id/\id<=1000000000)(hc:code=0\/(4<=code/\code<=9))(hno:∀y∈D.aH,y.id≠id)(hlen:D.aH.length<40):Rt ⟨D.aI,D.az,kG D.aH id code⟩:=by
 have mem:∀y,y∈kG D.aH id code ↔ y∈D.aH\/y=⟨id,code⟩:=fun y=>by
  rw[show kG D.aH id code=D.aH.takeWhile (fun y:Sn=>decide (y.id<id))++⟨id,code⟩::D.aH.dropWhile (fun y:Sn=>decide (y.id<id)) from rfl,(nC (fun y:Sn=>decide (y.id<id)) D.aH ⟨id,code⟩).mem_iff,List.mem_append,List.mem_singleton]
 have len:(kG D.aH id code).length=D.aH.length+1:=by
  have:=(nC (fun y:Sn=>decide (y.id<id)) D.aH ⟨id,code⟩).length_eq;simpa[kG] using this
 refine⟨r.na,r.nh,by show (kG D.aH id code).length<=40;omega,r.srt,r.ac,r.hup,r.ho,Hf Sn.id D.aH ⟨id,code⟩ r.sup hno,fun s hs=>?_⟩;rcases (mem s).1 hs with q|rfl
 ·exact r.se s q
 ·exact⟨hid,hc⟩
theorem Av{c:Cm}(h:c.B=true):(1<=c.id/\c.id<=1000000000)/\((c.kind=1/\dW c.fr=true/\jU c.to=true/\-1<=c.am/\c.am<=1000000000000)\/((c.kind=2\/c.kind=3)/\dW c.fr=true/\dW c.to=true/\c.fr≠c.to/\1<=c.am/\c.am<=1000000000000)\/((c.kind=4\/c.kind=5)/\1<=c.ref/\c.ref<=1000000000)):=by
 unfold Cm.B dK at h;rw[Bool.and_eq_true] at h;refine⟨bW.1 h.1,?_⟩;by_cases k1:c.kind=1
 ·rw[if_pos k1] at h;simp only[Bool.and_eq_true] at h;exact .inl ⟨k1,h.2.1.1.1,h.2.1.1.2,bW.1 h.2.1.2⟩
 ·rw[if_neg k1] at h;by_cases k2:c.kind=2\/c.kind=3
  ·rw[if_pos k2] at h;simp only[Bool.and_eq_true] at h;exact .inr (.inl ⟨k2,h.2.1.1.1.1,h.2.1.1.1.2,fun e=>by have:=h.2.1.1.2;rw[e] at this;simp at this,bW.1 h.2.1.2⟩)
  ·rw[if_neg k2] at h;by_cases k4:c.kind=4\/c.kind=5
   ·rw[if_pos k4] at h;simp only[Bool.and_eq_true] at h;exact .inr (.inr ⟨k4,bW.1 h.2.2⟩)
   ·rw[if_neg k4] at h;simp at h
theorem xO{D:bM}{c:Cm}(hf:fw D c=false):D.aH.length≠40/\(c.kind=1->D.aI.length≠12)/\(c.kind=3->D.az.length≠10/\∀y∈D.az,y.id≠c.id):=by
 have h3:=fun hk=>Ad (D:=D) (c:=c) hf hk
 simp only[fw,Bool.or_eq_false_iff,Bool.and_eq_false_iff,decide_eq_false_iff_not] at hf;refine⟨hf.1.1,fun k=>?_,fun k=>⟨?_,h3 k⟩⟩
 ·rcases hf.1.2 with q|q
  ·exact absurd k q
  ·exact q
 ·rcases hf.2 with q|q
  ·exact absurd k q
  ·exact q.1
theorem Mq{D:bM}(r:Rt D){i j:Nat}{fr tn:ByteArray}(e1:dZ D.aI fr=some i)(e2:dZ D.aI tn=some j)(hne:fr≠tn)(hs:o8 D.aI i j=true){am:Int}(h0:0<=am) :
  Rt (mY D i j am).1/\((mY D i j am).2=0\/(mY D i j am).2=7\/(mY D i j am).2=8)/\(mY D i j am).1.aH=D.aH/\(mY D i j am).1.az=D.az:=by
 obtain⟨hi,ni,_⟩:=fq e1;obtain⟨hj,nj,_⟩:=fq e2;have hij:i≠j:=by
  rintro rfl;exact hne (ni.symm.trans nj)
 rw[o7 hi hj] at hs;have hc:=eX.1 hs;unfold mY;split
 ·rename_i q;rw[Bool.and_eq_true] at q;split
  ·rename_i q2;exact⟨QC r hi hj hij hc h0 q.2 q2,.inl rfl,rfl,rfl⟩
  ·exact⟨r,.inr (.inl rfl),rfl,rfl⟩
 ·exact⟨r,.inr (.inr rfl),rfl,rfl⟩
theorem RS{D:bM}{c:Cm}(r:Rt D)(hB:c.B=true)(hf:fw D c=false):Rt (lZ D c).1/\((lZ D c).2=0\/(4<=(lZ D c).2/\(lZ D c).2<=9))/\(lZ D c).1.aH=D.aH:=by
 obtain⟨hid,hk⟩:=Av hB;obtain⟨f1,f2,f3⟩:=xO hf;have hup:(D.az.map bP.id).Pairwise (· < ·):=List.pairwise_map.2 r.hup;unfold lZ;rcases hk with ⟨k,hn,hc,hl⟩|⟨k,n1,n2,hne,a1,a2⟩|⟨k,_⟩
 ·rw[if_pos k];unfold kW;split
  ·exact⟨r,.inr ⟨by simp,by simp⟩,rfl⟩
  ·rename_i e;exact⟨OU r hn hc hl e (by have:=r.na;have:=f2 k;omega),.inl rfl,rfl⟩
 ·rw[if_neg (by omega),if_pos k];unfold ja;split
  ·rename_i i j e1 e2;split
   ·rename_i hs;split
    ·obtain⟨p1,p2,p3,_⟩:=Mq r e1 e2 hne hs (am:=c.am) (by omega);exact⟨p1,by omega,p3⟩
    ·rename_i k2;have k3:c.kind=3:=by omega
     obtain⟨hi,ni,_⟩:=fq e1;obtain⟨hj,nj,_⟩:=fq e2;rw[o7 hi hj] at hs;unfold zY;split
     ·exact⟨r,.inr ⟨by simp,by simp⟩,rfl⟩
     ·split
      ·rename_i hkp;exact⟨OV (hd:=⟨c.id,c.fr,c.to,c.am⟩) r hi hj ni nj hne (eX.1 hs) hid ⟨a1,a2⟩ (f3 k3).2 (by have:=r.nh;have:=(f3 k3).1;omega) hkp,.inl rfl,rfl⟩
      ·exact⟨r,.inr ⟨by simp,by simp⟩,rfl⟩
   ·exact⟨r,.inr ⟨by simp,by simp⟩,rfl⟩
  ·exact⟨r,.inr ⟨by simp,by simp⟩,rfl⟩
 ·rw[if_neg (by omega),if_neg (by omega)]
  cases hfi:fi (D.az.map bP.id) c.ref with
  | none =>
   rw[Fx hfi];exact⟨r,.inr ⟨by simp,by simp⟩,rfl⟩
  | some m =>
   obtain⟨hml,e,hfd⟩:=rP hfi;have r2:=QD r hml;unfold nK;rw[hfd];simp only;rw[uu hup hml e];split
   ·exact⟨r2,.inl rfl,rfl⟩
   ·split
    ·rename_i i j e1 e2;obtain⟨_,g2,hne,x,hx,y,hy,n1,n2,hcu⟩:=r.ho _ (List.getElem_mem hml);have hs:o8 D.aI i j=true:=by
      obtain⟨hi,ni,_⟩:=fq e1;obtain⟨hj,nj,_⟩:=fq e2;obtain⟨a,ha,rfl⟩:=List.mem_iff_getElem.1 hx;obtain⟨b,hb,rfl⟩:=List.mem_iff_getElem.1 hy;obtain rfl:=Cz r.srt ha hi (n1.trans ni.symm);obtain rfl:=Cz r.srt hb hj (n2.trans nj.symm);rw[o7 ha hb];exact eX.2 hcu
     obtain⟨p1,p2,p3,_⟩:=Mq r2 e1 e2 hne hs (am:=(D.az[m]).aV) (by omega);split
     ·exact⟨p1,.inl rfl,p3⟩
     ·rename_i q;exact⟨r,by simp only;omega,rfl⟩
    ·exact⟨r,.inr ⟨by simp,by simp⟩,rfl⟩
theorem CG{D:bM}{c:Cm}(h:df D=true):df (dJ D c).1=true:=by
 cases ha:uz D c with
 | some k=>rw[FP h ha];exact h
 | none =>
  obtain⟨hB,hs,hf,e⟩:=FQ h ha;have r:=PX h;obtain⟨p1,p2,p3⟩:=RS r hB hf;rw[e];refine RQ ?_;have hno:=Eu (fun y hy=>by have:=(r.se y hy).2;omega) hs;have z:=QB p1 (Av hB).1 p2 (by rw[p3];exact hno) (by rw[p3];have:=r.ns;have:=(xO hf).1;omega);rw[p3] at z;exact z
theorem gU{a b:ByteArray}:Op.bytesLess a.toList b.toList=true ↔ a.toList<b.toList:=by rw[qx];simp
def yh(l:List Fl)(nm da:ByteArray):List Fl:=l.filter (fun f=>Op.bytesLess f.nm.toList nm.toList)++⟨nm,da⟩::l.filter (fun f=>Op.bytesLess nm.toList f.nm.toList)
theorem mO{a b:ByteArray}(h:b.toList<a.toList\/a=b):Op.bytesLess a.toList b.toList=false:=by
 rw[qx];simp only[decide_eq_false_iff_not];rcases h with h|rfl
 ·exact List.not_lt.2 (List.le_of_lt h)
 ·exact List.lt_irrefl _
def Ro(l:List Fl)(nm da:ByteArray)(k:Nat):Prop :=
 (lg l nm da k=(l.take k,false)/\∀f∈l.take k,f.nm.toList<nm.toList) \/
 (lg l nm da k=(yh (l.take k) nm da,true)/\∃f∈l.take k,¬ f.nm.toList<nm.toList)
theorem filter_all{l:List Fl}{nm:ByteArray}(h:∀f∈l,f.nm.toList<nm.toList):l.filter (fun f=>Op.bytesLess f.nm.toList nm.toList)=l/\l.filter (fun f=>Op.bytesLess nm.toList f.nm.toList)=[] :=
 ⟨List.filter_eq_self.2 fun f hf=>gU.2 (h f hf),List.filter_eq_nil_iff.2 fun f hf=>by rw[mO (.inl (h f hf))];simp⟩
theorem RV{l:List Fl}(hs:mr l)(nm da:ByteArray):∀k,k<=l.length->Ro l nm da k
 | 0,_=>.inl ⟨by simp[lg],fun f hf=>by simp at hf⟩
 | k+1,hk=>by
  have hlt:k<l.length:=by omega
  have ih:=RV hs nm da k (by omega);have hx:∀f∈l.take k,f.nm.toList<(l[k]).nm.toList:=fun f hf=>by
   obtain⟨i,hi,rfl⟩:=List.getElem_of_mem hf;have hi2:i<k:=by simp at hi;omega
   have e:(l.take k)[i]=l[i]'(by omega):=by simp
   rw[e];exact List.pairwise_iff_getElem.1 hs i k (by omega) hlt hi2
  unfold Ro at ih⊢;rw[rZ l nm da k hlt,dX l k hlt];generalize l.take k=P at *;generalize l[k]=x at *;rcases ih with ⟨e,hall⟩|⟨e,f0,hf0,hn0⟩
  ·rw[e];obtain⟨fa,fb⟩:=filter_all hall;rcases Rz x.nm nm with h|h|h
   ·refine .inl ⟨?_,?_⟩
    ·have h1:=gU.2 h;have h2:(x.nm.toList==nm.toList)=false:=nS (fun q=>by rw[q] at h;exact List.lt_irrefl _ h);simp[tq,h1,h2]
    ·intro f hf;simp only[List.mem_append,List.mem_singleton] at hf;rcases hf with hf|rfl
     ·exact hall f hf
     ·exact h
   ·refine .inr ⟨?_,x,by simp,by rw[h];exact List.lt_irrefl _⟩;have h1:=mO (.inr h);have h1':=mO (.inr h.symm);have h2:(x.nm.toList==nm.toList)=true:=bT.2 h;simp[tq,yh,h1,h1',h2,List.filter_append,fa,fb]
   ·refine .inr ⟨?_,x,by simp,List.not_lt.2 (List.le_of_lt h)⟩;have h1:=mO (.inl h);have h1':=gU.2 h;have h2:(x.nm.toList==nm.toList)=false:=nS (fun q=>by rw[q] at h;exact List.lt_irrefl _ h);simp[tq,yh,h1,h1',h2,List.filter_append,fa,fb]
  ·rw[e];have hgt:nm.toList<x.nm.toList:=by
    have h1:=hx f0 hf0;rcases Rz f0.nm nm with q|q|q
    ·exact absurd q hn0
    ·rw[<-q];exact h1
    ·exact List.lt_trans q h1
   refine .inr ⟨?_,f0,by simp[hf0],hn0⟩;have h1:=mO (.inl hgt);have h1':=gU.2 hgt;have h2:(x.nm.toList==nm.toList)=false:=nS (fun q=>by rw[q] at hgt;exact List.lt_irrefl _ hgt);simp[tq,yh,h1,h1',h2,List.filter_append]
theorem yI{l:List Fl}(hs:mr l)(nm da:ByteArray):jA l nm da=yh l nm da:=by
 have h:=RV hs nm da l.length (Nat.le_refl _);unfold Ro at h;rw[List.take_length] at h;rcases h with ⟨e,hall⟩|⟨e,_⟩
 ·obtain⟨fa,fb⟩:=filter_all hall;simp[jA,e,yh,fa,fb]
 ·simp[jA,e]
theorem MU{l:List Fl}{nm da:ByteArray}{f:Fl}:f∈yh l nm da ↔ f=⟨nm,da⟩\/(f∈l/\f.nm≠nm):=by
 unfold yh;simp only[List.mem_append,List.mem_filter,List.mem_cons,gU];constructor
 ·rintro(⟨h,q⟩|h|⟨h,q⟩)
  ·exact .inr ⟨h,fun e=>by rw[e] at q;exact List.lt_irrefl _ q⟩
  ·exact .inl h
  ·exact .inr ⟨h,fun e=>by rw[e] at q;exact List.lt_irrefl _ q⟩
 ·rintro(h|⟨h,q⟩)
  ·exact .inr (.inl h)
  ·rcases Rz f.nm nm with t|t|t
   ·exact .inl ⟨h,t⟩
   ·exact absurd t q
   ·exact .inr (.inr ⟨h,t⟩)
theorem LY{l:List Fl}(hs:mr l)(nm da:ByteArray):mr (yh l nm da):=by
 unfold yh mr;rw[List.pairwise_append];refine⟨hs.sublist List.filter_sublist,?_,?_⟩
 ·rw[List.pairwise_cons];refine⟨fun f hf=>gU.1 (List.mem_filter.1 hf).2,hs.sublist List.filter_sublist⟩
 ·intro x hx y hy;have h1:=gU.1 (List.mem_filter.1 hx).2;simp only[List.mem_cons] at hy;rcases hy with rfl|hy
  ·exact h1
  ·exact List.lt_trans h1 (gU.1 (List.mem_filter.1 hy).2)
def gN(l:List Fl)(nm:ByteArray):Bool:=l.any (fun f=>f.nm.toList==nm.toList)
theorem nH{l:List Fl}{nm:ByteArray}:gN l nm=true ↔ ∃f∈l,f.nm=nm:=by
 unfold gN;rw[List.any_eq_true];exact⟨fun⟨f,hf,e⟩=>⟨f,hf,bT.1 e⟩,fun⟨f,hf,e⟩=>⟨f,hf,bT.2 e⟩⟩
theorem BL{l:List Fl}(hs:mr l)(nm:ByteArray):(l.filter (fun f=>Op.bytesLess f.nm.toList nm.toList)).length+(l.filter (fun f=>Op.bytesLess nm.toList f.nm.toList)).length+(if gN l nm then 1 else 0)=l.length/\(iD l nm).length+(if gN l nm then 1 else 0)=l.length:=by
 induction l with
 | nil=>simp[gN,iD]
 | cons x t ih =>
  have hs':=List.pairwise_cons.1 hs;obtain⟨i1,i2⟩:=ih hs'.2;have hno:x.nm=nm->gN t nm=false:=fun e=>by
   rw[Bool.eq_false_iff];intro q;obtain⟨f,hf,e2⟩:=nH.1 q;have:=hs'.1 f hf;rw[e,e2] at this;exact List.lt_irrefl _ this
  unfold iD at i2⊢;rcases Rz x.nm nm with h|h|h
  ·have h1:=gU.2 h;have h1':=mO (.inl h);have h2:(x.nm.toList==nm.toList)=false:=nS (fun q=>by rw[q] at h;exact List.lt_irrefl _ h);have h3:gN (x::t) nm=gN t nm:=by simp[gN,h2]
   simp only[List.filter_cons,h1,h1',h2,h3,Bool.not_false,if_true,List.length_cons,Bool.false_eq_true,if_false];omega
  ·have h1:=mO (.inr h);have h1':=mO (.inr h.symm);have h2:(x.nm.toList==nm.toList)=true:=bT.2 h;have h3:gN (x::t) nm=true:=by simp[gN,h2]
   rw[hno h] at i1 i2;simp only[List.filter_cons,h1,h1',h2,h3,Bool.not_true,if_true,List.length_cons,Bool.false_eq_true,if_false] at i1 i2⊢;omega
  ·have h1:=mO (.inl h);have h1':=gU.2 h;have h2:(x.nm.toList==nm.toList)=false:=nS (fun q=>by rw[q] at h;exact List.lt_irrefl _ h);have h3:gN (x::t) nm=gN t nm:=by simp[gN,h2]
   simp only[List.filter_cons,h1,h1',h2,h3,Bool.not_false,if_true,List.length_cons,Bool.false_eq_true,if_false];omega
theorem EM{l:List Fl}(hs:mr l)(nm da:ByteArray):(jA l nm da).length=if gN l nm then l.length else l.length+1:=by
 have:=(BL hs nm).1;rw[yI hs];unfold yh;simp only[List.length_append,List.length_cons];split<;>simp_all<;>omega
theorem MZ{l:List Fl}(hs:mr l)(nm:ByteArray):(iD l nm).length+(if gN l nm then 1 else 0)=l.length:=(BL hs nm).2
theorem jh{l:List Fl}{nm:ByteArray}{f:Fl}:f∈iD l nm ↔ f∈l/\f.nm≠nm:=by
 unfold iD;rw[List.mem_filter];constructor
 ·rintro⟨h,q⟩;refine⟨h,fun e=>?_⟩;rw[bT.2 e] at q;cases q
 ·rintro⟨h,q⟩;exact⟨h,by rw[nS q];rfl⟩
theorem uH{l:List Fl}(hs:mr l)(nm:ByteArray):mr (iD l nm):=hs.sublist List.filter_sublist
theorem eO{l:List Fl}(hs:mr l){nm da:ByteArray}{f:Fl}:f∈jA l nm da ↔ f=⟨nm,da⟩\/(f∈l/\f.nm≠nm):=by rw[yI hs];exact MU
theorem uG{l:List Fl}(hs:mr l)(nm da:ByteArray):mr (jA l nm da):=by rw[yI hs];exact LY hs nm da
def b0:Bd:=⟨none,0,[]⟩
theorem o6{s:ByteArray}(h:s.size<=4194304):s.size<=maxLen:=by unfold maxLen;omega
theorem Dx{l:List Fl}{β:ByteArray->Bd}{D:DataW Unit}(hat:∀f∈l,∀z,D.atKey (kn f.nm) z=(β f.nm).D)(honly:∀kl,Maps.has D kl=true->∃f∈l,kl=kn f.nm)(nm:ByteArray):Maps.has D (kn nm)=gN l nm:=by
 cases e:gN l nm with
 | true =>
  obtain⟨f,hf,rfl⟩:=nH.1 e;exact has_true_of_atKey (hat f hf)
 | false =>
  rw[Bool.eq_false_iff];intro q;obtain⟨f,hf,e2⟩:=honly _ q;have:=nH.2 ⟨f,hf,(mg e2).symm⟩;rw[e] at this;cases this
theorem Shelf.look{base m N:Nat}{l:List Fl}{β:ByteArray->Bd}{w:World}(h:Shelf base m l β N w){nm:ByteArray}(hn:nm.size<=4194304)(ok:Bool) :
  ∀k,(Instr.lookup 97 (.map (some m)) (ag nm) ok).run prog (w.drewN k)=.ok (if ok then .tuple #[if gN l nm then (β nm).V else b0.V,.bool (gN l nm)] else if gN l nm then (β nm).V else b0.V) (w.drewN k):=by
 intro k;obtain⟨D,n,hn',ho,hat,honly,hsz⟩:=h.map;have hoN:(w.drewN k).ownsMap prog 9 jo m n D:=ho.kept (gy (dG w k)) (by simp);have hh:=Dx hat honly nm;have key:∀v ps,jo v=some (D.atKey (kn nm) b0.D,ps)->v=if gN l nm then (β nm).V else b0.V:=fun v ps hv=>by
  cases e:gN l nm with
  | true =>
   obtain⟨f,hf,rfl⟩:=nH.1 e;rw[hat f hf] at hv;exact Qo hv
  | false =>
   rw[e] at hh;rw[atKey_of_not_has hh] at hv;exact Qo hv
 cases ok with
 | true =>
  obtain⟨v,ps,hrun,hv⟩:=hoN.look_ok qP uM (PV _) b0.elem (zO (o6 hn));rw[hrun,key v ps hv,hh];rfl
 | false =>
  obtain⟨v,ps,hrun,hv⟩:=hoN.lookup qP uM (PV _) b0.elem (zO (o6 hn));rw[hrun,key v ps hv];rfl
def Cu(β:ByteArray->Bd)(nm:ByteArray)(b:Bd):ByteArray->Bd:=fun s=>if s=nm then b else β s
theorem il(β:ByteArray->Bd)(nm:ByteArray)(b:Bd):Cu β nm b nm=b:=by simp[Cu]
theorem fO{β:ByteArray->Bd}{nm:ByteArray}{b:Bd}{s:ByteArray}(h:s≠nm):Cu β nm b s=β s:=by simp[Cu,h]
theorem Shelf.store{base m N:Nat}{l:List Fl}{β:ByteArray->Bd}{x:World}(h:Shelf base m l β N x){nm da:ByteArray}(b:Bd)(hn:nm.size<=4194304)(hN:N<=1000000)(hrow:x.ownsRow base 9 1 b.v b.ps.length (strs b.ps))(hcat:ik b.ps=da)
  (hap:∀f∈l,f.nm≠nm->OI b.v (β f.nm).v/\OI (β f.nm).v b.v) (hpc:b.ps.length<=N+1) :
  ∃y,(Instr.mapUpdate 97 (.map (some m)) (ag nm) b.V).run prog x=.ok () y/\Shelf base m (jA l nm da) (Cu β nm b) (N+1) y/\x.grownBy y (some m):=by
 obtain⟨D,n,hn',ho,hat,honly,hsz⟩:=h.map;obtain⟨y,hrun,ho2,hg⟩:=ho.update qP uM (by unfold maxLen;omega) (zO (o6 hn)) b.elem;have hh:=Dx hat honly nm;have kept:∀{v:Value}{k:Nat}{xs:List Value},x.ownsRow base 9 1 v k xs->y.ownsRow base 9 1 v k xs:=fun hr=>hr.kept hg (.inr (oq hr ho))
 refine⟨y,hrun,⟨⟨D.put (kn nm) b.D,n+1,by omega,ho2,fun f hf z=>?_,fun kl hkl=>?_,?_⟩,h.lo,fun f hf=>?_,fun f hf=>?_,fun f hf f' hf' hne=>?_,uG h.srt nm da,fun f hf=>?_,fun f hf=>?_⟩,hg⟩
 ·rcases (eO h.srt).1 hf with rfl|⟨hf,hne⟩
  ·rw[il];exact atKey_put_same ho.isMap (zP _) _ z
  ·rw[fO hne,atKey_put_other (fun e=>hne (mg e))];exact hat f hf z
 ·by_cases e:kl=kn nm
  ·exact⟨⟨nm,da⟩,(eO h.srt).2 (.inl rfl),e⟩
  ·rw[has_put_other e] at hkl;obtain⟨f,hf,rfl⟩:=honly kl hkl;exact⟨f,(eO h.srt).2 (.inr ⟨hf,fun q=>e (by rw[q])⟩),rfl⟩
 ·rw[size_put (ho.tidy qP),hh,EM h.srt,hsz]
 ·rcases (eO h.srt).1 hf with rfl|⟨hf,hne⟩
  ·rw[il];exact kept hrow
  ·rw[fO hne];exact kept (h.rows f hf)
 ·rcases (eO h.srt).1 hf with rfl|⟨hf,hne⟩
  ·rw[il];exact hcat
  ·rw[fO hne];exact h.cat f hf
 ·rcases (eO h.srt).1 hf with rfl|⟨hf,h1⟩
  ·rcases (eO h.srt).1 hf' with rfl|⟨hf',h2⟩
   ·exact absurd rfl hne
   ·rw[il,fO h2];exact(hap f' hf' h2).1
  ·rcases (eO h.srt).1 hf' with rfl|⟨hf',h2⟩
   ·rw[il,fO h1];exact(hap f hf h1).2
   ·rw[fO h1,fO h2];exact h.apt f hf f' hf' hne
 ·rcases (eO h.srt).1 hf with rfl|⟨hf,hne⟩
  ·rw[il];exact hpc
  ·rw[fO hne];have:=h.pcs f hf;omega
 ·rcases (eO h.srt).1 hf with rfl|⟨hf,hne⟩
  ·exact hn
  ·exact h.nms f hf
theorem Shelf.drop{base m N:Nat}{l:List Fl}{β:ByteArray->Bd}{x:World}(h:Shelf base m l β N x){nm:ByteArray}(hn:nm.size<=4194304)(ty:TypeId) :
  ∃y,(Builtin.delete_ #[97,9] ty #[.map (some m),ag nm]).run prog x=.ok (.tuple #[]) y/\Shelf base m (iD l nm) β N y/\x.grownBy y (some m)/\(∀{v:Value}{k:Nat}{xs:List Value},x.ownsRow base 9 1 v k xs->y.ownsRow base 9 1 v k xs):=by
 obtain⟨D,n,hn',ho,hat,honly,hsz⟩:=h.map;obtain⟨y,hrun,ho2,ht⟩:=ho.drop qP uM (zO (o6 hn)) ty;have hg:=ht.grown;have hh:=Dx hat honly nm;have kept:∀{v:Value}{k:Nat}{xs:List Value},x.ownsRow base 9 1 v k xs->y.ownsRow base 9 1 v k xs:=fun hr=>hr.kept hg (.inr (oq hr ho))
 refine⟨y,hrun,⟨⟨D.del (kn nm),n,hn',ho2,fun f hf z=>?_,fun kl hkl=>?_,?_⟩,h.lo,fun f hf=>kept (h.rows f (jh.1 hf).1),fun f hf=>h.cat f (jh.1 hf).1,fun f hf f' hf' hne=>h.apt f (jh.1 hf).1 f' (jh.1 hf').1 hne,uH h.srt nm,fun f hf=>h.pcs f (jh.1 hf).1,fun f hf=>h.nms f (jh.1 hf).1⟩,hg,kept⟩
 ·obtain⟨hf,hne⟩:=jh.1 hf;rw[atKey_del_other (fun e=>hne (mg e))];exact hat f hf z
 ·by_cases e:kl=kn nm
  ·rw[e,has_del_same] at hkl;cases hkl
  ·rw[has_del_other e] at hkl;obtain⟨f,hf,rfl⟩:=honly kl hkl;exact⟨f,jh.2 ⟨hf,fun q=>e (by rw[q])⟩,rfl⟩
 ·have h1:=size_del (k:=kn nm) (ho.tidy qP);have h2:=MZ h.srt nm;rw[hh,hsz] at h1;omega
theorem Sc:(prog.info? 9).map (fun i=>(i.zero,i.size,i.bytes))=some (some (ag ByteArray.empty),1,16):=by kernel_rfl
theorem T9:prog.underlying 80=some (.slice 9):=by kernel_rfl
theorem RZ{x:World}{g:Nat}{v0:Value}(c0:x.cell? ⟨g,0,none⟩=some v0)(j:Nat)(u:Value)(hj:[v0][j]?=some u):x.cell? ((⟨g,0,none⟩:Addr).add j)=some u:=by
 rw[addr_add]
 match j,hj with
 | 0,hj=>simp at hj;rw[<-hj];exact c0
def yR(base:Nat)(b:Bd)(data:ByteArray)(w:World)(e:Ending)(w':World):Prop:=∃b':Bd,e=.returned b'.V/\b'.ps=b.ps++[data]/\w'.ownsRow base 9 1 b'.v b'.ps.length (strs b'.ps)/\w.grownBy w' b.v.ownBlock/\(b'.v.ownBlock=b.v.ownBlock\/∃g,b'.v.ownBlock=some g/\w.heap.size<=g)
abbrev Sw(B:Nat)(p0 p1:Value)(x:World):Prop:=x.cell? ⟨B,0,none⟩=some p0/\x.cell? ⟨B,1,none⟩=some p1
theorem Ac{w w' w'':World}{row:Option Nat}(h:Below w.heap.size w w')(k:w'.grownBy w'' row)(hr:∀j,row=some j->j<w.heap.size):w.grownBy w'' row :=
 ⟨k.os.trans h.os,k.tape.trans h.tape,k.output.trans h.output,Nat.le_trans h.size k.size,fun i hi hne=>(k.block i (Nat.lt_of_lt_of_le hi h.size) hne).trans (h.block i hi)⟩
theorem jb.other{g g':Nat}{cur:List Value}{x:World}(h:jb g cur x)(o:Nat)(v:Value)(hg:g'≠g):jb g cur (x.setCell ⟨g',o,none⟩ v) :=
 ⟨by rw[size_setCell];exact h.lt,fun j u hj=>by rw[aP (.inl hg)];exact h.c j u hj,fun j=>by rw[lH];exact h.f j⟩
theorem Sw.set2{B:Nat}{p0 p1 u v:Value}{x:World}(h:Sw B p0 p1 x):Sw B p0 p1 ((x.setCell ⟨B+1,0,none⟩ u).setCell ⟨B+1,1,none⟩ v):=by
 refine⟨?_,?_⟩
 ·rw[aP (.inl (by omega)),aP (.inl (by omega))];exact h.1
 ·rw[aP (.inl (by omega)),aP (.inl (by omega))];exact h.2
theorem vH{w x:World}{row:Option Nat}(h:w.grownBy x row){g o:Nat}(hg:w.heap.size<=g)(u:Value):w.grownBy (x.setCell ⟨g,o,none⟩ u) row :=
 ⟨h.os,h.tape,h.output,by rw[size_setCell];exact h.size,fun i hi hne=>(Below.heap_setCell _ _ _ _ (fun e=>by have:i=g:=e;omega)).trans (h.block i hi hne)⟩
theorem LG{n:Nat}(h:n<=1000000000000):IntKind.i64.wrap (n:Int)=(n:Int):=by simp only[IntKind.wrap,IntKind.signed,IntKind.bits];simp;omega
theorem jb.grown{g:Nat}{cur:List Value}{x y:World}{row:Option Nat}(h:jb g cur x)(k:x.grownBy y row)(hr:some g≠row):jb g cur y :=
 ⟨Nat.lt_of_lt_of_le h.lt k.size,fun j v hj=>(World.cell?_of_block (k.block g h.lt hr)).trans (h.c j v hj),fun j=>(World.frozen?_of_block (k.block g h.lt hr)).trans (h.f j)⟩
theorem Eb(base:Nat)(b:Bd)(data:ByteArray)(w:World)(hb:base<=w.heap.size)(hp:b.ps.length<=1000000)(hz:(ik b.ps).size<=1000000000)(hd:data.size<=4194304)(h:w.ownsRow base 9 1 b.v b.ps.length (strs b.ps)) :
  Calls prog 84 #[aj #[af (uy b.a) b.ps.length b.c,ae au ((ik b.ps).size:Int)],ag data] w fun e w'=>yR base b data w e w':=by
 obtain⟨i0,hi0,hz0,hz1,hz2⟩:=info_parts Sc;have hu:=T9;obtain⟨W,hW⟩:∃W,W=(w.alloc (.cells #[af (uy b.a) b.ps.length b.c,ae au ((ik b.ps).size:Int)] 136)).alloc (.cells #[af none 0 0,ae au 0] 136):=⟨_,rfl⟩;have HW:Hid ((w.alloc (.cells #[af (uy b.a) b.ps.length b.c,ae au ((ik b.ps).size:Int)] 136)).alloc (.cells #[af none 0 0,ae au 0] 136)=W):=hide hW.symm;have sW:W.heap.size=w.heap.size+2:=by rw[hW];simp
 have HB:Hid (Below w.heap.size w W):=hide (by rw[hW];exact aF (aF (Below.refl _ _) _) _);have KA:Hid (jb w.heap.size [af (uy b.a) b.ps.length b.c,ae au ((ik b.ps).size:Int)] W):=hide (by rw[hW];exact jb.new.alloc _);have KR:Hid (jb (w.heap.size+1) [af none 0 0,ae au 0] W):=hide (by rw[hW];have:=jb.new (w:=w.alloc (.cells #[af (uy b.a) b.ps.length b.c,ae au ((ik b.ps).size:Int)] 136)) (cur:=[af none 0 0,ae au 0]) (T:=136);simpa using this);have hlow:∀j,b.v.ownBlock=some j->j<w.heap.size:=fun j hj=>(h.lt j hj).2
 have HLOW:=hide hlow;have HO:Hid (W.ownsRow base 9 1 b.v b.ps.length (strs b.ps)):=hide (fT h HB.out);have x0:=KA.c 0 _ rfl;have x1:=KA.c 1 _ rfl;have SW:Hid (W.heap.size=w.heap.size+2):=hide sW;have HH:=hide h;clear hW h hlow sW;generalize hcs:(ik b.ps).size=cs at *;have HCS:=hide hcs;clear hcs;go_enter func84,ntmps84;go_wp2_with fail;rw[HW.out];have XD:Hid (Sw w.heap.size (af (uy b.a) b.ps.length b.c) (ae au (cs:Int)) W.drew):=hide ⟨x0,x1⟩;have XA:Hid (Sw w.heap.size (af (uy b.a) b.ps.length b.c) (ae au (cs:Int)) (W.alloc (.cells #[ag data] 9)).drew):=hide (by
  have k:=KA.below (aF (Below.refl _ _) (.cells #[ag data] 9)).drew;exact⟨k.c 0 _ rfl,k.c 1 _ rfl⟩)
 have KR2:Hid (jb (w.heap.size+1) [af none 0 0,ae au 0] (W.alloc (.cells #[ag data] 9)).drew):=hide (KR.below (aF (Below.refl _ _) _).drew);have KA2:Hid (jb w.heap.size [af (uy b.a) b.ps.length b.c,ae au (cs:Int)] (W.alloc (.cells #[ag data] 9)).drew):=hide (KA.below (aF (Below.refl _ _) _).drew);go_region_held3 (fun x=>x.cell? ⟨w.heap.size,0,none⟩=some (af (uy b.a) b.ps.length b.c)/\x.cell? ⟨w.heap.size,1,none⟩=some (ae au (cs:Int)))
  (first|with_reducible exact XD.out|with_reducible exact XA.out|with_reducible exact Sw.set2 (by assumption)|(with_reducible assumption))
  (first|(refine step_append_lies _ rfl (.tmp 6) (.tmp 8) 80 rfl base 9 i0 _ 1 16 hu hi0 hz0 hz1 hz2 rfl (by decide) b.v b.ps.length (strs b.ps) rfl (fT HO.out (aF (Below.refl _ _) _).drew) ⟨W.heap.size,0,none⟩ 1 1 [ag data] rfl rfl (RZ (World.cell?_alloc_at _ _ _ _ rfl)) (fun u hu=>by simp only[List.mem_singleton] at hu;rw[hu];rfl) (by decide) (by unfold maxLen;omega) (by omega) (by have:=SW.out;simp;omega) (W.heap.size+1) (by simp) ?_;intro g cap w' ho hg hlie hlt;have HG:=hide hg;have HOO:=hide ho;have HLI:=hide hlie;have KA3:=hide (KA2.grown hg (fun q=>by have:=HLOW.out _ q.symm;omega));have KR3:=hide (KR2.grown hg (fun q=>by have:=HLOW.out _ q.symm;omega));have XS:Sw w.heap.size (af (uy b.a) b.ps.length b.c) (ae au (cs:Int)) w':=⟨KA3.c 0 _ rfl,KA3.c 1 _ rfl⟩;have r0:=KR3.c 0 _ rfl;have r1:=KR3.c 1 _ rfl;have f0:=KR3.f 0;have f1:=KR3.f 1;have hrl:=KR3.lt;clear hg ho hlie))
 have hw:IntKind.i64.wrap ((cs:Int)+(data.size:Int))=((cs+data.size:Nat):Int):=by
  rw[show (cs:Int)+(data.size:Int)=((cs+data.size:Nat):Int) by omega];exact LG (by omega)
 rw[hw];obtain⟨Y,hY⟩:∃Y,Y=((w'.setCell ⟨w.heap.size+1,0,none⟩ (af (some ⟨g,0,none⟩) (b.ps.length+1) cap)).setCell ⟨w.heap.size+1,1,none⟩ (ae au ((cs+data.size:Nat):Int))):=⟨_,rfl⟩;rw[<-hY];have k0:Y.cell? ⟨w.heap.size+1,0,none⟩=some (af (some ⟨g,0,none⟩) (b.ps.length+1) cap):=by rw[hY,aP (.inr (by omega))];exact cz r0
 have k1:Y.cell? ⟨w.heap.size+1,1,none⟩=some (ae au ((cs+data.size:Nat):Int)):=by rw[hY];exact cz (by rw[aP (.inr (by omega))];exact r1)
 have hne:∀v,v=af (some ⟨g,0,none⟩) (b.ps.length+1) cap->v.ownBlock=none\/v.ownBlock≠some (w.heap.size+1):=fun v e=>.inr (fun q=>by
  rw[e] at q;simp only[Value.ownBlock,Option.some.injEq] at q;rcases HLI.out with e1|e1
  ·have:=HLOW.out _ e1;omega
  ·have:=SW.out;omega)
 have HE:Hid (yR base b data w (.returned (aj #[af (some ⟨g,0,none⟩) (b.ps.length+1) cap,ae au ((cs+data.size:Nat):Int)])) Y):=hide (by
  refine⟨⟨some g,cap,b.ps++[data]⟩,?_,rfl,?_,?_,?_⟩
  ·have e1:(ik (b.ps++[data])).size=cs+data.size:=by
    rw[xX,ByteArray.size_append,HCS.out];simp[ik]
   simp only[Bd.V,uy,Option.map_some,List.length_append,List.length_singleton,e1]
  ·have e2:(⟨some g,cap,b.ps++[data]⟩:Bd).v=af (some ⟨g,0,none⟩) (b.ps.length+1) cap:=by simp[Bd.v,uy]
   have e3:strs (b.ps++[data])=strs b.ps++[ag data]:=by simp[strs]
   simp only[e2,e3,List.length_append,List.length_singleton];rw[hY];exact(HOO.kept (wO _ _ _ _) (hne _ rfl)).kept (wO _ _ _ _) (hne _ rfl)
  ·rw[hY];exact vH (vH (Ac (aJ HB.out (aF (Below.refl _ _) _).drew) HG.out HLOW.out) (by omega) _) (by omega) _
  ·rcases HLI.out with e1|e1
   ·exact .inl (by rw[e1];rfl)
   ·exact .inr ⟨g,rfl,by have:=SW.out;omega⟩)
 clear HG HOO HLI KA3 KR3 XS r0 r1 f0 f1 hY hne;go_wp2;exact bodyPost_ret (v:=aj #[af (some ⟨g,0,none⟩) (b.ps.length+1) cap,ae au ((cs+data.size:Nat):Int)]) (by simp[results,results84,go_sem,k0,k1]) rfl HE.out
end Go.Proofs.YtdbmmdecclalgaaGreatDoor
