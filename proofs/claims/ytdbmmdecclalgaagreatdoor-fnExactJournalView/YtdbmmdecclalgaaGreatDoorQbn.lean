import Derived.Test.YtdbmmdecclalgaaGreatDoorQbm
import Derived.Test.YtdbmmdecclalgaaGreatDoorQaq
import Derived.Test.YtdbmmdecclalgaaGreatDoorQbl
namespace Go.Proofs.YtdbmmdecclalgaaGreatDoor
open Go.Value renaming int → ae, slice → af, string → ag, agg → aj
open Go.IntKind renaming i64 → au
open Go.Proofs.Tryz Go.ChangeShapes Go.WideShapes Go.ChangeAt Go.RowKit Go.Lib
set_option linter.unusedVariables false
set_option maxRecDepth 100000
def kF(a:Option Addr)(l:List ByteArray):Rs:=⟨if l=[] then [] else [jP a],fun x=>∀k (h:k<l.length),a=some ⟨jP a,0,none⟩/\jP a<x.heap.size/\x.cell? ⟨jP a,k,none⟩=some (ag l[k]),fun x y e h k hk=>by
 have hn:l≠[]:=fun z=>by rw[z] at hk;cases hk
 rw[if_neg hn] at e;have e:=e (jP a) (by simp);obtain⟨h1,h2,h3⟩:=h k hk;have hlt:jP a<y.heap.size:=by
  rcases Nat.lt_or_ge (jP a) y.heap.size with q|q
  ·exact q
  ·rw[Array.getElem?_eq_none q,Array.getElem?_eq_getElem h2] at e;cases e
 exact⟨h1,hlt,(World.cell?_of_block (a:=⟨jP a,k,none⟩) e).trans h3⟩⟩
theorem Star.MM{x:World}{g cap:Nat}{a:Option Addr}{l:List ByteArray}(h:bR 1 strCells x g a cap l):Star [kF a l] x/\∀b∈ic [kF a l],b=g:=by
 have hg:0<l.length->a=some ⟨g,0,none⟩:=fun q=>(h.own q).1
 refine⟨Star.one (r:=kF a l) (fun k hk=>?_) ?_ ?_,fun b hb=>?_⟩
 ·have e:=hg (by omega);obtain⟨b,off,e1,hb,hc⟩:=IU h.rows k hk;rw[e] at e1;cases e1;subst e;exact⟨rfl,hb,by show x.cell? ⟨g,k,none⟩=_;simpa using hc⟩
 ·show (if l=[] then [] else [jP a]).Nodup;split<;>simp
 ·intro b hb;have hb':b∈(if l=[] then [] else [jP a]):=hb;split at hb'
  ·cases hb'
  ·rename_i hn;rw[List.mem_singleton] at hb';have h0:0<l.length:=List.length_pos_iff.2 hn;obtain⟨b',off,e1,hlt,_⟩:=IU h.rows 0 h0;rw[hg h0] at e1 hb';cases e1;rw[hb'];exact hlt
 ·rw[fC] at hb;have hb':b∈(if l=[] then [] else [jP a]):=hb;split at hb'
  ·cases hb'
  ·rename_i hn;rw[List.mem_singleton] at hb';rw[hg (List.length_pos_iff.2 hn)] at hb';exact hb'
theorem Pool.CX{w x y:World}{S:List (List Rs)}{i:Nat}{l:List ByteArray}{a:Option Addr}{cap g:Nat}(h:Pool [] w S x)(hi:S[i]?=some [])(b:Below x.heap.size x y)(hg:x.heap.size<=g)(ho:bR 1 strCells y g a cap l):Pool [] w (S.set i [kF a l]) y :=
 h.new hi b (Star.MM ho).1 (fun c hc=>by rw[(Star.MM ho).2 c hc];exact hg)
theorem Pool.Bw{F:List Nat}{w x:World}{S:List (List Rs)}{i:Nat}{l:List ByteArray}{a:Option Addr}(h:Pool F w S x)(hi:S[i]?=some [kF a l]){k:Nat}(hk:k<l.length):a=some ⟨jP a,0,none⟩/\x.cell? ⟨jP a,k,none⟩=some (ag l[k]):=by
 obtain⟨h1,_,h3⟩:=((h.get hi).get (r:=kF a l) (by simp):(kF a l).P x) k hk;exact⟨h1,h3⟩
theorem PH{s:ByteArray}(h:jU s=true):s.size<=maxLen:=by
 simp only[jU,Bool.and_eq_true,decide_eq_true_eq] at h;rw[h.1];decide
theorem Sa{D:bM}(r:Rt D):og D:=by
 refine⟨fun x hx=>?_,fun h hh=>?_,fun s hs=>?_⟩
 ·obtain⟨h1,h2,h3,h4,_⟩:=r.ac x hx;simp only[dD,eu,Bool.and_eq_true,decide_eq_true_eq] at h4;exact⟨jZ h1,PH h2,by unfold sQ;omega,by unfold sQ;omega⟩
 ·obtain⟨h1,h2,_,x,hx,y,hy,e1,e2,_⟩:=r.ho h hh;exact⟨by rw[<-e1];exact jZ (r.ac x hx).1,by rw[<-e2];exact jZ (r.ac y hy).1,by unfold sQ;omega,by unfold sQ;omega⟩
 ·have h1:=r.se s hs;exact⟨by unfold sQ;omega,by unfold sQ;omega⟩
theorem sF{D:bM}(h:df D=true):og D/\(D.aI.length<=1048576/\D.az.length<=1048576/\D.aH.length<=1048576):=by
 have r:=PX h;exact⟨Sa r,by have:=r.na;omega,by have:=r.nh;omega,by have:=r.ns;omega⟩
theorem Pool.uj{w x y:World}{S:List (List Rs)}{i:Nat}{p:LP}{L:bM}(h:Pool [] w S x)(hi:S[i]?=some [])(k:Pool [] x [bC p L] y):Pool [] w (S.set i (bC p L)) y:=h.call hi (by simpa[ic] using k)
theorem NF:∀f (l:List UInt8),∀x∈(KQ f l).1,x.size<=l.length:=by
 intro f
 induction f with
 | zero=>intro l x hx;cases hx
 | succ f ih =>
  intro l x hx;rw[KQ] at hx;split at hx
  ·rename_i h;rcases List.mem_cons.1 hx with rfl|hx
   ·rw[bD];simp;omega
   ·have:=ih _ x hx;simp at this;omega
  ·cases hx
theorem qA{s x:ByteArray}(h:x∈frames s):x.size<=s.size:=by
 have:=NF _ _ x h;rwa [gm] at this
structure J0(aO:List Fl)(p:LP)(L:bM)(n:Int):Prop where
 e:(if (gu aO fQ).2=true then kE (gu aO fQ).1 else some (cZ,0))=some (L,n)
 s:df L=true
 pl:jr p L
 n0:0<=n/\n<=1000000000
structure RF(fs:List ByteArray)(k:Nat)(s:bM×Int)(p:LP)(L:bM)(n:Int):Prop where
 e:nJ (fs.map fun x=>x.data.toList) s=nJ ((fs.drop k).map fun x=>x.data.toList) (L,n)
 s:df L=true
 pl:jr p L
 n0:0<=n/\n<=1000000000
theorem RU{l:List UInt8}{e:Ending}(h:(∃c,(3<=(bG l).length/\oV (bG l) c/\c.T=l)/\e=.returned (.tuple #[c.v,.bool true])) \/
  (((bG l).length<3\/∃c,oV (bG l) c/\c.T≠l)/\e=.returned (.tuple #[aj #[ae au 0,ae au 0,ag ⟨#[]⟩,ag ⟨#[]⟩,ae au 0,ae au 0],.bool false]))) :
  (∃c,eH l c []/\e=.returned (.tuple #[c.v,.bool true]))\/((∀c,¬ eH l c [])/\e=.returned (.tuple #[(⟨0,0,⟨#[]⟩,⟨#[]⟩,0,0⟩:Cm).v,.bool false])):=by
 by_cases q:∃c,eH l c []
 ·obtain⟨c,hc⟩:=q;obtain⟨c',b',h5,h6⟩:=both (.inl ⟨c,hc,rfl⟩) h;exact .inl ⟨c,hc,h6.trans h5.symm⟩
 ·obtain⟨c',b',h5,h6⟩:=both (.inr ⟨fun c hc=>q ⟨c,hc⟩,rfl⟩) h;exact .inr ⟨fun c hc=>q ⟨c,hc⟩,h6.trans h5.symm⟩
theorem sU(l:List UInt8)(w:World)(hs:l.length<=1048576):Calls prog 45 #[ag (bs l)] w fun e w'=>Qr l w e w':=by
 by_cases h3:3<=(bG l).length
 ·exact Gn l w hs h3
 ·refine(El l w hs (by omega)).mono ?_;rintro e w'⟨rfl,hb⟩;exact⟨hb,.inr ⟨.inl (by omega),rfl⟩⟩
theorem FM{c:Cm}(h:c.B=true):c.fr.size<=12/\c.«to».size<=12:=by
 obtain⟨_,hp⟩:=wV h;unfold Cm.B at h;rcases hp with ⟨_,e1,e2,_⟩|⟨k,_⟩
 ·rw[e1,e2];decide
 ·obtain⟨_,s1,s2,_⟩:=yP k h;exact⟨s1,s2⟩
theorem Pool.Ql{F:List Nat}{w x:World}{S:List (List Rs)}{i:Nat}{p:LP}{L:bM}(h:Pool F w S x)(hi:S[i]?=some (bC p L))(hw:og L):iO x p.aa p.ha p.sa L:=by
 have st:=h.get hi;exact⟨(st.get (r:=bA 4 aL p.aa p.ca L.aI) (by simp[bC])).2.rows.aI hw.aI,(st.get (r:=bA 4 aG p.ha p.ch L.az) (by simp[bC])).2.rows.az hw.az,(st.get (r:=bA 2 aM p.sa p.cs L.aH) (by simp[bC])).2.rows.ans hw.aH⟩
theorem IQ{x:Int}(h0:-9223372036854775808<=x)(h1:x<=9223372036854775807):IntKind.i64.wrap x=x:=by
 simp only[IntKind.wrap,IntKind.signed,IntKind.bits];simp;omega
theorem yM{aO:List Fl}(h1:(gu aO fQ).2=true)(h:kE (gu aO fQ).1=none):BS aO=none:=by
 unfold BS;rw[if_pos h1,h];rfl
structure Tc(aO:List Fl)(p:LP)(L:bM)(n:Int)(b:Bool):Prop where
 yes:b=true->BS aO=some (L,n)
 no:b=false->BS aO=none/\L=cZ/\p=dH/\n=0
 s:df L=true
 pl:jr p L
def SH(aO:List Fl)(w:World)(e:Ending)(w':World):Prop :=
 ∃p L n g m b,Tc aO p L n b/\e=.returned (.tuple #[aj #[af p.aa L.aI.length p.ca,af p.ha L.az.length p.ch,af p.sa L.aH.length p.cs,ae au n,ae au g,ae au m],.bool b])/\Pool [] w [bC p L] w'
theorem Pool.xB{F:List Nat}{w x:World}{S:List (List Rs)}(h:Pool F w S x){i b:Nat}{z0 z1 z2 z3 z4 z5:Value}(hi:S[i]?=some [blk b [z0,z1,z2,z3,z4,z5]])(v0 v1 v2 v3 v4 v5:Value) :
  Pool F w (S.set i [blk b [v0,v1,v2,v3,v4,v5]]) ((((((x.setCell ⟨b,0,none⟩ v0).setCell ⟨b,1,none⟩ v1).setCell ⟨b,2,none⟩ v2).setCell ⟨b,3,none⟩ v3).setCell ⟨b,4,none⟩ v4).setCell ⟨b,5,none⟩ v5):=by
 have hlen:i<S.length:=(List.getElem?_eq_some_iff.1 hi).1;have h0:=h.aQ (i:=i) hi 0 v0 (by simp);have h1:=h0.aQ (i:=i) (by rw[List.getElem?_set_self (by simpa using hlen)]) 1 v1 (by simp);have h2:=h1.aQ (i:=i) (by rw[List.getElem?_set_self (by simpa using hlen)]) 2 v2 (by simp);have h3:=h2.aQ (i:=i) (by rw[List.getElem?_set_self (by simpa using hlen)]) 3 v3 (by simp);have h4:=h3.aQ (i:=i) (by rw[List.getElem?_set_self (by simpa using hlen)]) 4 v4 (by simp);have h5:=h4.aQ (i:=i) (by rw[List.getElem?_set_self (by simpa using hlen)]) 5 v5 (by simp);simpa[List.set_set] using h5
end Go.Proofs.YtdbmmdecclalgaaGreatDoor
