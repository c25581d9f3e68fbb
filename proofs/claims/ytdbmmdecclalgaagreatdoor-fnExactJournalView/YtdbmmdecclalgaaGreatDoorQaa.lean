import Derived.Test.YtdbmmdecclalgaaGreatDoorRows
import Derived.WalkKit
import Derived.ProofKit
import Derived.OpenShut
import Derived.ShutString
import Derived.WalkSpells
import Derived.WalkLawsBesides
import Derived.Below
import Derived.Deep.QuietTactic
import Derived.BigQuiet
import Derived.BigRegion
import Derived.Deep.RegionWith
import Derived.Maps.AppendAt
import Derived.OwnWalk
import Derived.Deep.RegionHeld
import Derived.Deep.RegionLaw
import Derived.Orders
import Derived.Deep.AppendLies
import Derived.Laws.OwnMore
namespace Go.Proofs.YtdbmmdecclalgaaGreatDoor
open Go.Value renaming slice → af, pointer → ai, agg → aj, int → ae, string → ag
open Go renaming undef → ak
open Go.IntKind renaming i64 → au
open Go.ChangeShapes Go.WideShapes Go.ChangeAt Go.RowKit Go.Proofs.Tryz
set_option linter.unusedVariables false
set_option maxRecDepth 100000
set_option maxHeartbeats 400000
theorem hide{p:Prop}(h:p):Hid p:=h
theorem aF{w w':World}(h:Below w.heap.size w w')(o:Obj):Below w.heap.size w (w'.alloc o):=h.alloc h.size o
theorem aJ{a b c:World}(h:Below a.heap.size a b)(k:Below b.heap.size b c):Below a.heap.size a c:=h.trans (k.mono h.size)
def eu(lo hi n:Int):Bool:=decide (lo<=n/\n<=hi)
def bI(p:Prop):Prop:=p
theorem bI.mk{p:Prop}(h:bI p):p:=h
theorem dX{A:Type}(l:List A)(k:Nat)(h:k<l.length):l.take (k+1)=l.take k++[l[k]]:=List.take_succ_eq_append_getElem h
theorem dO{w:World}{a:Addr}{v:Value}(h:w.cell? a=some v):a.block<w.heap.size:=by
 rcases Nat.lt_or_ge a.block w.heap.size with h'|h'
 ·exact h'
 ·exfalso;unfold World.cell? at h;simp[Array.getElem?_eq_none h'] at h
theorem aN{w w':World}(b:Below w.heap.size w w'):∀a v,w.cell? a=some v->w'.cell? a=some v:=fun a v h=>(b.cell (dO h)).trans h
theorem eP{A B:Type}(f:A->List B)(n:Nat)(hf:∀x,(f x).length=n)(l:List A):(l.flatMap f).length=l.length*n:=by
 induction l with
 | nil=>simp
 | cons x xs ih=>simp only[List.flatMap_cons,List.length_append,ih,hf,List.length_cons,Nat.succ_mul];omega
theorem flat_get{A B:Type}(f:A->List B)(n:Nat)(hf:∀x,(f x).length=n)(l:List A):∀(i:Nat)(h:i<l.length)(r:Nat),r<n->(l.flatMap f)[i*n+r]?=(f l[i])[r]?:=by
 induction l with
 | nil=>intro i h;simp at h
 | cons x xs ih =>
  intro i h r hr;rw[List.flatMap_cons]
  cases i with
  | zero=>rw[List.getElem?_append_left (by rw[hf];omega)];simp
  | succ i =>
   rw[List.getElem?_append_right (by rw[hf,Nat.succ_mul];omega),hf,show (i+1)*n+r-n=i*n+r by rw[Nat.succ_mul];omega];rw[ih i (by simpa using h) r hr];simp
theorem addr_add(b off j:Nat):(⟨b,off,none⟩:Addr).add j=⟨b,off+j,none⟩:=by
 simp only[Addr.add];split
 ·rename_i h;subst h;rfl
 ·rfl
def bu{A:Type}(sz:Nat)(f:A->List Value)(w:World)(a:Option Addr)(l:List A):Prop :=
 ∀i (h:i<l.length),∃b off,a=some ⟨b,off,none⟩/\b<w.heap.size/\∀r v,(f l[i])[r]?=some v->w.cell? ⟨b,off+i*sz+r,none⟩=some v
theorem bu.below{A:Type}{sz:Nat}{f:A->List Value}{w w':World}{a:Option Addr}{l:List A}(h:bu sz f w a l)(k:Below w.heap.size w w'):bu sz f w' a l:=fun i hi=>by
 obtain⟨b,off,e,hb,hc⟩:=h i hi;have:=k.size;exact⟨b,off,e,by omega,fun r v hv=>(k.cell (by exact hb)).trans (hc r v hv)⟩
theorem bu.nil{A:Type}{sz:Nat}{f:A->List Value}{w:World}{a:Option Addr}:bu sz f w a ([]:List A):=fun i hi=>by simp at hi
theorem bu.news{A:Type}{sz:Nat}{f:A->List Value}(hf:∀x,(f x).length=sz)(h0:0<sz){w:World}{b off:Nat}{l:List A}(h:bu sz f w (some ⟨b,off,none⟩) l):∀j u,(l.flatMap f)[j]?=some u->w.cell? ((⟨b,off,none⟩:Addr).add j)=some u:=by
 intro j u hj;have hlen:=eP f sz hf l;have hj':j<(l.flatMap f).length:=(List.getElem?_eq_some_iff.1 hj).1;rw[hlen] at hj';have hi:j/sz<l.length:=(Nat.div_lt_iff_lt_mul h0).2 hj';have hr:j%sz<sz:=Nat.mod_lt _ h0;have hg:=flat_get f sz hf l (j/sz) hi (j%sz) hr;have hd:j/sz*sz+j%sz=j:=by rw[Nat.mul_comm];exact Nat.div_add_mod j sz
 rw[hd,hj] at hg;obtain⟨b',off',e,_,hc⟩:=h (j/sz) hi;simp only[Option.some.injEq,Addr.mk.injEq,and_true] at e;obtain⟨rfl,rfl⟩:=e;rw[addr_add];have:=hc (j%sz) u hg.symm;rwa [Nat.add_assoc,hd] at this
theorem iw{w:World}{g:Nat}{cur:Array Value}{e:TypeId}(h:w.heap[g]?=some (.cells cur e (0,0)))(j:Nat):w.frozen? ⟨g,j,none⟩=false:=by
 simp[World.frozen?,h]
structure bR{A:Type}(sz:Nat)(f:A->List Value)(w:World)(g:Nat)(a:Option Addr)(cap:Nat)(l:List A):Prop where
 rows:bu sz f w a l
 own:0<l.length->a=some ⟨g,0,none⟩/\∀j,w.frozen? ⟨g,j,none⟩=false
 room:l.length<=cap
 nocap:a=none->cap=0
theorem bR.lt{A:Type}{sz:Nat}{f:A->List Value}{w:World}{g:Nat}{a:Option Addr}{cap:Nat}{l:List A}(h:bR sz f w g a cap l)(h0:0<l.length):g<w.heap.size:=by
 obtain⟨b,off,e,hb,_⟩:=h.rows 0 h0;rw[(h.own h0).1] at e;simp only[Option.some.injEq,Addr.mk.injEq,and_true] at e;omega
theorem bR.below{A:Type}{sz:Nat}{f:A->List Value}{w w':World}{g:Nat}{a:Option Addr}{cap:Nat}{l:List A}(h:bR sz f w g a cap l)(k:Below w.heap.size w w'):bR sz f w' g a cap l :=
 ⟨h.rows.below k,fun h0=>⟨(h.own h0).1,fun j=>(k.frozen (by exact h.lt h0)).trans ((h.own h0).2 j)⟩,h.room,h.nocap⟩
theorem bR.nil{A:Type}{sz:Nat}{f:A->List Value}{w:World}{g:Nat}{a:Option Addr}{cap:Nat}(hn:a=none->cap=0):bR sz f w g a cap ([]:List A):=⟨bu.nil,fun h=>by simp at h,by simp,hn⟩
theorem ll{A:Type}{sz:Nat}{f:A->List Value}(hf:∀x,(f x).length=sz){w:World}{base:Nat}{e:TypeId}{v:Value}{l:List A}(h:w.ownsRow base e sz v l.length (l.flatMap f)):∃g a cap,base<=g/\v=af a l.length cap/\bR sz f w g a cap l:=by
 obtain⟨hl,⟨h0,h1⟩|⟨g,cap,cur,h1,hb,hg,hn,hc,hz,ht⟩⟩:=h
 ·have hl0:l.length=0:=h1;have:l=[]:=List.eq_nil_of_length_eq_zero hl0;subst this;exact⟨base,none,0,Nat.le_refl _,h0,bR.nil (fun _=>rfl)⟩
 ·refine⟨g,some ⟨g,0,none⟩,cap,hb,h1,⟨fun i hi=>⟨g,0,rfl,(Array.getElem?_eq_some_iff.1 hg).1,fun r u hu=>?_⟩,fun _=>⟨rfl,iw hg⟩,hn,fun q=>by cases q⟩⟩;have hr:r<sz:=by rw[<-hf l[i]];exact(List.getElem?_eq_some_iff.1 hu).1
  have h2:=flat_get f sz hf l i hi r hr;rw[hu] at h2;have hlt:i*sz+r<(l.flatMap f).length:=(List.getElem?_eq_some_iff.1 h2).1;have h3:(cur.toList.take (l.length*sz))[i*sz+r]?=some u:=by rw[ht];exact h2
  have h4:cur.toList[i*sz+r]?=some u:=by
   rw[List.getElem?_take] at h3;split at h3
   ·exact h3
   ·cases h3
  simp only[World.cell?,hg,Nat.zero_add];simpa using h4
structure Turned(g:Nat)(w w':World):Prop where
 os:w'.os=w.os
 tape:w'.tape=w.tape
 output:w'.output=w.output
 size:w'.heap.size=w.heap.size
 block:∀k,k≠g->w'.heap[k]?=w.heap[k]?
theorem Turned.refl(g:Nat)(w:World):Turned g w w:=⟨rfl,rfl,rfl,rfl,fun _ _=>rfl⟩
theorem Turned.setCell{g:Nat}{w x:World}(h:Turned g w x){o:Nat}(v:Value):Turned g w (x.setCell ⟨g,o,none⟩ v) :=
 ⟨h.os,h.tape,h.output,by rw[<-h.size];simp[World.setCell],fun k hk=>(Below.heap_setCell _ _ _ _ hk).trans (h.block k hk)⟩
theorem Turned.below{g:Nat}{w x:World}(h:Turned g w x){B:Nat}(hB:B<=g):Below B w x:=⟨h.os,h.tape,h.output,by rw[h.size];exact Nat.le_refl _,fun k hk=>h.block k (by omega)⟩
theorem Turned.cell{g:Nat}{w x:World}(h:Turned g w x){p:Addr}(hp:p.block≠g):x.cell? p=w.cell? p:=World.cell?_of_block (h.block _ hp)
theorem Turned.frozen{g:Nat}{w x:World}(h:Turned g w x){p:Addr}(hp:p.block≠g):x.frozen? p=w.frozen? p:=World.frozen?_of_block (h.block _ hp)
theorem bu.turned{A:Type}{sz:Nat}{f:A->List Value}{w w':World}{a:Option Addr}{l:List A}{g:Nat}(h:bu sz f w a l)(k:Turned g w w')(hne:∀b off,0<l.length->a=some ⟨b,off,none⟩->b≠g):bu sz f w' a l:=fun i hi=>by
 obtain⟨b,off,e,hb,hc⟩:=h i hi;exact⟨b,off,e,by rw[k.size];exact hb,fun r v hv=>(k.cell (hne b off (by omega) e)).trans (hc r v hv)⟩
theorem bR.turned{A:Type}{sz:Nat}{f:A->List Value}{w w':World}{g g':Nat}{a:Option Addr}{cap:Nat}{l:List A}(h:bR sz f w g a cap l)(k:Turned g' w w')(hne:0<l.length->g≠g'):bR sz f w' g a cap l :=
 ⟨h.rows.turned k (fun b off h0 e=>by
  rw[(h.own h0).1] at e;simp only[Option.some.injEq,Addr.mk.injEq,and_true] at e;rw[<-e.1];exact hne h0),fun h0=>⟨(h.own h0).1,fun j=>(k.frozen (hne h0)).trans ((h.own h0).2 j)⟩,h.room,h.nocap⟩
structure jV(g n size:Nat)(cells:Nat->List Value)(k:Nat)(x:World):Prop where
 lt:g<x.heap.size
 there:∀j,j<n*size->∃v,x.cell? ⟨g,j,none⟩=some v
 free:∀j,x.frozen? ⟨g,j,none⟩=false
 done:∀i r,i<k->r<size->x.cell? ⟨g,i*size+r,none⟩=(cells i)[r]?
theorem jV.below{g n size k:Nat}{cells:Nat->List Value}{x y:World}(h:jV g n size cells k x)(b:Below x.heap.size x y):jV g n size cells k y :=
 ⟨Nat.lt_of_lt_of_le h.lt b.size,fun j hj=>by obtain⟨v,hv⟩:=h.there j hj;exact⟨v,(b.cell h.lt).trans hv⟩,fun j=>(b.frozen h.lt).trans (h.free j),fun i r hi hr=>(b.cell h.lt).trans (h.done i r hi hr)⟩
theorem lH(w:World)(p a:Addr)(v:Value):(w.setCell p v).frozen? a=w.frozen? a:=World.frozen?_setCell _ _ _ _
theorem size_setCell(w:World)(p:Addr)(v:Value):(w.setCell p v).heap.size=w.heap.size:=by simp
theorem aP{w:World}{b o b' o':Nat}{v:Value}(h:b≠b'\/o≠o'):(w.setCell ⟨b,o,none⟩ v).cell? ⟨b',o',none⟩=w.cell? ⟨b',o',none⟩ :=
 World.cell?_setCell_other w _ _ v (fun e=>by simp only[Addr.mk.injEq,and_true] at e;rcases h with h|h<;>omega)
theorem cz{w:World}{b o:Nat}{u v:Value}(h:w.cell? ⟨b,o,none⟩=some u):(w.setCell ⟨b,o,none⟩ v).cell? ⟨b,o,none⟩=some v:=World.cell?_setCell_same w _ v h
structure qH(g n size:Nat)(cells:Nat->List Value)(k m:Nat)(x:World):Prop where
 lt:g<x.heap.size
 there:∀j,j<n*size->∃v,x.cell? ⟨g,j,none⟩=some v
 free:∀j,x.frozen? ⟨g,j,none⟩=false
 done:∀i r,i<k->r<size->x.cell? ⟨g,i*size+r,none⟩=(cells i)[r]?
 part:∀r,r<m->x.cell? ⟨g,k*size+r,none⟩=(cells k)[r]?
theorem jV.put{g n size k:Nat}{cells:Nat->List Value}{x:World}(h:jV g n size cells k x):qH g n size cells k 0 x:=⟨h.lt,h.there,h.free,h.done,fun r hr=>by omega⟩
theorem qH.set{g n size k m:Nat}{cells:Nat->List Value}{x:World}(h:qH g n size cells k m x)(hk:k<n)(hm:m<size){v:Value}(hv:(cells k)[m]?=some v){o:Nat}(ho:o=k*size+m):qH g n size cells k (m+1) (x.setCell ⟨g,o,none⟩ v):=by
 subst ho;have hin:k*size+m<n*size:=Nat.lt_of_lt_of_le (show k*size+m<(k+1)*size by rw[Nat.succ_mul];omega) (Nat.mul_le_mul_right _ hk);obtain⟨u,hu⟩:=h.there _ hin;refine⟨by rw[size_setCell];exact h.lt,fun j hj=>?_,fun j=>by rw[lH];exact h.free j,fun i r hi hr=>?_,fun r hr=>?_⟩
 ·by_cases e:k*size+m=j
  ·subst e;exact⟨v,cz hu⟩
  ·rw[aP (.inr e)];exact h.there j hj
 ·have:i*size+r≠k*size+m:=by
   have:(i+1)*size<=k*size:=Nat.mul_le_mul_right _ hi;rw[Nat.succ_mul] at this;omega
  rw[aP (.inr (fun e=>this e.symm))];exact h.done i r hi hr
 ·by_cases e:r=m
  ·subst e;rw[cz hu,hv]
  ·rw[aP (.inr (by omega))];exact h.part r (by omega)
theorem qH.whole{g n size k:Nat}{cells:Nat->List Value}{x:World}(h:qH g n size cells k size x):jV g n size cells (k+1) x :=
 ⟨h.lt,h.there,h.free,fun i r hi hr=>by
  rcases Nat.lt_or_ge i k with h1|h1
  ·exact h.done i r h1 hr
  ·obtain rfl:i=k:=by omega
   exact h.part r hr⟩
theorem kv{A:Type}{sz:Nat}{f:A->List Value}(hf:∀x,(f x).length=sz){g cap:Nat}{l:List A}{x:World}(h:jV g l.length sz (fun i=>(l[i]?).elim [] f) l.length x)(hc:l.length<=cap):bR sz f x g (some ⟨g,0,none⟩) cap l :=
 ⟨fun i hi=>⟨g,0,rfl,h.lt,fun r v hv=>by
  have hr:r<sz:=by rw[<-hf l[i]];exact(List.getElem?_eq_some_iff.1 hv).1
  have:=h.done i r hi hr;rw[Nat.zero_add,this,List.getElem?_eq_getElem hi];exact hv⟩,fun _=>⟨rfl,h.free⟩,hc,fun q=>by cases q⟩
theorem QK{sz i k r r':Nat}(hr:r<sz)(hr':r'<sz)(h:¬ (k=i/\r'=r)):i*sz+r≠k*sz+r':=by
 intro e;rcases Nat.lt_trichotomy k i with h1|h1|h1
 ·have:=Nat.mul_le_mul_right sz (show k+1<=i from h1);rw[Nat.succ_mul] at this;omega
 ·subst h1;exact h ⟨rfl,by omega⟩
 ·have:=Nat.mul_le_mul_right sz (show i+1<=k from h1);rw[Nat.succ_mul] at this;omega
theorem bR.set{A:Type}{sz:Nat}{f:A->List Value}(hf:∀x,(f x).length=sz){w:World}{g:Nat}{a:Option Addr}{cap:Nat}{l l':List A}{i r:Nat}{u:Value}(h:bR sz f w g a cap l)(hi:i<l.length)(hr:r<sz)(hlen:l'.length=l.length)
  (hc:∀k (hk:k<l'.length) (hk':k<l.length) r' v,(f l'[k])[r']?=some v->(k=i/\r'=r/\v=u)\/(¬ (k=i/\r'=r)/\(f l[k])[r']?=some v)):bR sz f (w.setCell ⟨g,i*sz+r,none⟩ u) g a cap l':=by
 obtain⟨ea,hfz⟩:=h.own (by omega);refine⟨fun k hk=>?_,fun h0=>⟨ea,fun j=>by rw[lH];exact hfz j⟩,by rw[hlen];exact h.room,h.nocap⟩;have hk':k<l.length:=by omega
 obtain⟨b,off,e,hb,hcell⟩:=h.rows k hk';have e':=e;rw[ea] at e';simp only[Option.some.injEq,Addr.mk.injEq,and_true] at e';obtain⟨rfl,rfl⟩:=e';refine⟨g,0,e,by rw[size_setCell];exact hb,fun r' v hv=>?_⟩;rw[Nat.zero_add];have hr':r'<sz:=by rw[<-hf l'[k]];exact(List.getElem?_eq_some_iff.1 hv).1
 rcases hc k hk hk' r' v hv with ⟨rfl,rfl,rfl⟩|⟨hne,ho⟩
 ·obtain⟨b2,off2,e2,_,hcell2⟩:=h.rows k hi;rw[ea] at e2;simp only[Option.some.injEq,Addr.mk.injEq,and_true] at e2;obtain⟨rfl,rfl⟩:=e2;have hin:r'<(f l[k]).length:=by rw[hf];exact hr
  have:=hcell2 r' _ (List.getElem?_eq_getElem hin);rw[Nat.zero_add] at this;exact cz this
 ·rw[aP (.inr (QK hr hr' hne))];have:=hcell r' v ho;rwa [Nat.zero_add] at this
def D8{A:Type}(sz:Nat)(f:A->List Value)(l:List A)(w:World)(v:Value)(w':World):Prop:=∃g a cap,w.heap.size<=g/\v=af a l.length cap/\bR sz f w' g a cap l
theorem D8.below{A:Type}{sz:Nat}{f:A->List Value}{l:List A}{w x y:World}{v:Value}(h:D8 sz f l w v x)(b:Below x.heap.size x y):D8 sz f l w v y:=by
 obtain⟨g,a,cap,hg,e,ho⟩:=h;exact⟨g,a,cap,hg,e,ho.below b⟩
def S3(B:Nat)(p0 p1 p2:Value)(W0 x:World):Prop:=x.cell? ⟨B,0,none⟩=some p0/\x.cell? ⟨B,1,none⟩=some p1/\x.cell? ⟨B,2,none⟩=some p2/\Hid (Below W0.heap.size W0 x)
theorem S3.of{B:Nat}{p0 p1 p2:Value}{W0 x:World}(h:W0.cell? ⟨B,0,none⟩=some p0/\W0.cell? ⟨B,1,none⟩=some p1/\W0.cell? ⟨B,2,none⟩=some p2)(b:Below W0.heap.size W0 x):S3 B p0 p1 p2 W0 x :=
 ⟨aN b _ _ h.1,aN b _ _ h.2.1,aN b _ _ h.2.2,hide b⟩
theorem S3.on{B:Nat}{p0 p1 p2:Value}{W0 x y:World}(h:S3 B p0 p1 p2 W0 x)(b:Below x.heap.size x y):S3 B p0 p1 p2 W0 y :=
 ⟨aN b _ _ h.1,aN b _ _ h.2.1,aN b _ _ h.2.2.1,hide (aJ h.2.2.2.out b)⟩
theorem TI{w x:World}{cur:Array Value}{T:TypeId}(h:Below (w.heap.size+1) (w.alloc (.cells cur T)) x)(j:Nat)(v:Value)(hj:cur[j]?=some v):x.cell? ⟨w.heap.size,j,none⟩=some v :=
 (h.cell (by show w.heap.size<w.heap.size+1;omega)).trans ((World.cell?_alloc_at _ _ _ _ rfl).trans hj)
theorem PI{w x:World}{cur:Array Value}{T:TypeId}(h:Below (w.heap.size+1) (w.alloc (.cells cur T)) x)(j:Nat):x.frozen? ⟨w.heap.size,j,none⟩=false :=
 (h.frozen (by show w.heap.size<w.heap.size+1;omega)).trans (iw (cur:=cur) (e:=T) (by show (w.heap.push _)[w.heap.size]?=_;simp) j)
structure jb(g:Nat)(cur:List Value)(x:World):Prop where
 lt:g<x.heap.size
 c:∀j v,cur[j]?=some v->x.cell? ⟨g,j,none⟩=some v
 f:∀j,x.frozen? ⟨g,j,none⟩=false
theorem jb.new{w:World}{cur:List Value}{T:TypeId}:jb w.heap.size cur (w.alloc (.cells cur.toArray T)) :=
 ⟨by simp,fun j v hj=>TI (T:=T) (Below.refl _ _) j v (by simpa using hj),fun j=>PI (cur:=cur.toArray) (T:=T) (Below.refl _ _) j⟩
theorem jb.below{g:Nat}{cur:List Value}{x y:World}(h:jb g cur x)(b:Below x.heap.size x y):jb g cur y :=
 ⟨Nat.lt_of_lt_of_le h.lt b.size,fun j v hj=>(b.cell h.lt).trans (h.c j v hj),fun j=>(b.frozen h.lt).trans (h.f j)⟩
theorem jb.alloc{g:Nat}{cur:List Value}{x:World}(h:jb g cur x)(o:Obj):jb g cur (x.alloc o):=h.below (aF (Below.refl _ _) _)
theorem jb.set{g:Nat}{cur:List Value}{x:World}(h:jb g cur x)(o:Nat)(v:Value)(ho:o<cur.length):jb g (cur.set o v) (x.setCell ⟨g,o,none⟩ v) :=
 ⟨by rw[size_setCell];exact h.lt,fun j u hj=>by
  by_cases e:o=j
  ·subst e;rw[List.getElem?_set_self (by simpa using ho)] at hj;cases hj;exact cz (h.c o cur[o] (List.getElem?_eq_getElem ho))
  ·rw[List.getElem?_set_ne e] at hj;rw[aP (.inr e)];exact h.c j u hj,fun j=>by rw[lH];exact h.f j⟩
theorem wU{L:Array Bool}(h:L.toList.count false=0)(j:Nat):L.getD j true≠false:=by
 intro hj;have hm:false∈L.toList:=by
  rcases Nat.lt_or_ge j L.size with hlt|hge
  ·have:L[j]=false:=by simpa[hlt] using hj
   rw[<-this];exact Array.getElem_mem_toList hlt
  ·simp[Array.getElem?_eq_none hge] at hj
 exact absurd h (Nat.ne_of_gt (List.count_pos_iff.2 hm))
theorem yA{L:Array Bool}{j:Nat}(hj:L.getD j true=false):(L.setIfInBounds j true).toList.count false+1=L.toList.count false:=by
 have hlt:j<L.size:=by
  rcases Nat.lt_or_ge j L.size with hlt|hge
  ·exact hlt
  ·simp[Array.getElem?_eq_none hge] at hj
 have e:L[j]=false:=by simpa[hlt] using hj
 have hm:false∈L.toList:=by rw[<-e];exact Array.getElem_mem_toList hlt
 have hp:=List.count_pos_iff.2 hm;rw[Array.toList_setIfInBounds,List.count_set (by simpa using hlt)];have e':L.toList[j]'(by simpa using hlt)=false:=by simpa using e
 rw[e',if_pos (by decide),if_neg (by decide)];omega
theorem JK{P:Program}{ops:Array Oper}{Q:Exit->Act->World->Prop}{md:Region.Mode}(I:Array Bool->Act->World->Prop)
  (hst:∀L a w i,I L a w->i∈Region.ready md ops L->∀K:Act->World->Prop,(∀a' w',I (L.setIfInBounds i true) a' w'->K a' w')->wpOp P ops Q i K a w)
  (hen:∀L a w,I L a w->Region.ready md ops L=[]->Q .normal a w) :
  ∀fuel L a w,I L a w->L.toList.count false<=fuel->wpAny P md ops Q fuel L a w:=by
 intro fuel
 induction fuel with
 | zero =>
  intro L a w h hc;have hr:Region.ready md ops L=[]:=by
   cases hr:Region.ready md ops L with
   | nil=>rfl
   | cons j t =>
    have:j∈Region.ready md ops L:=by rw[hr];exact List.mem_cons_self
    exact absurd (mem_ready.1 this).1 (wU (by omega) j)
  exact⟨hr,hen L a w h hr⟩
 | succ fuel ih =>
  intro L a w h hc;refine⟨fun hr=>hen L a w h hr,fun i hi=>hst L a w i h hi _ fun a' w' h'=>ih _ a' w' h' ?_⟩;have:=yA (mem_ready.1 hi).1;omega
theorem dw{P:Program}{ops:Array Oper}{Q:Exit->Act->World->Prop}{id:Nat}{a:Act}{w:World}(hm:P.follows .mixedOrders=true)(I:Array Bool->Act->World->Prop)
  (hst:∀L a w i,I L a w->i∈Region.ready .any ops L->∀K:Act->World->Prop,(∀a' w',I (L.setIfInBounds i true) a' w'->K a' w')->wpOp P ops Q i K a w)
  (hen:∀L a w,I L a w->Region.ready .any ops L=[]->Q .normal a w) (h0:I (Array.replicate ops.size false) a w.drew):(Code.region id ops true).wp P Q a w :=
 wp_region_any hm (JK I hst hen _ _ _ _ h0 (by
  have h:=List.count_le_length (a:=false) (l:=(Array.replicate ops.size false).toList);rw[Array.length_toList,Array.size_replicate] at h;exact h))
theorem aK{P:Program}{ops:Array Oper}{Q:Exit->Act->World->Prop}{i:Nat}{o:Oper}{a:Act}{w:World}{K:Act->World->Prop}{v:Value}{w':World}(hr:(execOp a.eval o).run P w=.ok (.value v) w')(h:K (a.put o.dst v) w')(hi:ops[i]?=some o:=by rfl)(hg:o.guard=none:=by rfl):wpOp P ops Q i K a w:=by
 unfold wpOp;have hw:Region.wanted o (yielded ops a.tmps)=true:=by simp[Region.wanted,hg]
 simp only[hi,hw,if_true];exact .inl (by unfold Oper.wp;rw[hr];exact h)
theorem eB{P:Program}{ops:Array Oper}{Q:Exit->Act->World->Prop}{i:Nat}{o:Oper}{a:Act}{w:World}{K:Act->World->Prop}{w':World}(hr:(execOp a.eval o).run P w=.ok .skip w')(h:K (a.put o.dst ak) w')(hi:ops[i]?=some o:=by rfl)(hg:o.guard=none:=by rfl):wpOp P ops Q i K a w:=by
 unfold wpOp;have hw:Region.wanted o (yielded ops a.tmps)=true:=by simp[Region.wanted,hg]
 simp only[hi,hw,if_true];exact .inl (by unfold Oper.wp;rw[hr];exact h)
theorem gz{md:Region.Mode}{ops:Array Oper}{L:Array Bool}{i:Nat}(hi:i∈Region.ready md ops L):i<ops.size:=by
 obtain⟨_,o,ho,_⟩:=mem_ready.1 hi;exact(Array.getElem?_eq_some_iff.1 ho).1
theorem nf{a b:Bool}(h:a=true->b=true)(hb:b=false):a=false:=by
 cases a
 ·rfl
 ·rw[h rfl] at hb;cases hb
theorem aC{md:Region.Mode}{ops:Array Oper}{L:Array Bool}{i:Nat}(hi:i∈Region.ready md ops L)(k:Nat)(hk:((ops[i]?).map fun o=>o.after.any fun e=>Region.binds md e&&e.on==k)=some true:=by kernel_rfl):L.getD k false=true:=by
 obtain⟨_,o,ho,hd⟩:=mem_ready.1 hi;rw[ho] at hk;simp only[Option.map_some,Option.some.injEq,Array.any_eq_true] at hk;obtain⟨j,hj,he⟩:=hk;simp only[Bool.and_eq_true,beq_iff_eq] at he;have:=hd o.after[j] (Array.getElem_mem hj) he.1;rwa [he.2] at this
theorem eQ{P:Program}{w w':World}{o:Oper}{ev:Operand->Value}{s x:Operand}{t:TypeId}{v u v':Value}(hop:o.op=Op.call {callee:=Callee.builtin Builtin.append,args:=#[s,x],argTypes:=#[t,t]})(hs:ev s=v)(hx:ev x=u)(hr:(Builtin.append_ #[t,t] o.type #[v,u]).run P w=.ok v' w'):(execOp ev o).run P w=.ok (.value v') w':=by
 unfold execOp;simp only[hop,resolve,invoke,builtin,Sem.run_bind,Sem.run_pure,Result.andThen_ok,List.map_toArray,List.map_cons,List.map_nil,hs,hx,hr]
theorem xJ{x:World}{g:Nat}{v0 v1:Value}(c0:x.cell? ⟨g,0,none⟩=some v0)(c1:x.cell? ⟨g,1,none⟩=some v1)(j:Nat)(u:Value)(hj:[v0,v1][j]?=some u):x.cell? ((⟨g,0,none⟩:Addr).add j)=some u:=by
 rw[addr_add]
 match j,hj with
 | 0,hj=>simp at hj;rw[<-hj];exact c0
 | 1,hj=>simp at hj;rw[<-hj];exact c1
theorem eZ{md:Region.Mode}{ops:Array Oper}{L:Array Bool}(h:Region.ready md ops L=[])(hs:L.size=ops.size)(ha:∀i (hi:i<ops.size),∀e∈ops[i].after,Region.binds md e=true->e.on<i):∀i,i<ops.size->L.getD i false=true:=by
 intro i
 induction i using Nat.strongRecOn with
 | ind i ih =>
  intro hi
  cases hL:L.getD i true with
  | false =>
   have:i∈Region.ready md ops L:=mem_ready.2 ⟨hL,ops[i],by simp[hi],fun e he hb=>ih _ (ha i hi e he hb) (Nat.lt_trans (ha i hi e he hb) hi)⟩;rw[h] at this;cases this
  | true =>
   have hi':i<L.size:=by omega
   simpa[hi'] using hL
theorem wO(w:World)(g j:Nat)(v:Value):w.grownBy (w.setCell ⟨g,j,none⟩ v) (some g):=⟨rfl,rfl,rfl,by simp[World.setCell],fun k hk hne=>Below.heap_setCell _ _ _ _ (fun e=>hne (by rw[e]))⟩
theorem gF{P:Program}{ops:Array Oper}{Q:Exit->Act->World->Prop}{i:Nat}{o:Oper}{a:Act}{w:World}{K:Act->World->Prop}{f:FuncId}{args:Array Value}{R:Ending->World->Prop}(hr:(execOp a.eval o).run P w=.ok (.enter f args) w)(hc:Calls P f args w R)(hK:∀e w',R e w'->∃v,e=.returned v/\K (a.put o.dst v) w')(hi:ops[i]?=some o:=by rfl)(hg:o.guard=none:=by rfl):wpOp P ops Q i K a w:=by
 unfold wpOp;have hw:Region.wanted o (yielded ops a.tmps)=true:=by simp[Region.wanted,hg]
 simp only[hi,hw,if_true];refine .inl ?_;unfold Oper.wp;rw[hr,Oper.upon_enter];refine hc.mono fun e w' he=>?_
 obtain⟨v,rfl,hv⟩:=hK e w' he;exact hv
theorem qZ{P:Program}{w:World}(base:Nat)(t ty e:TypeId)(i:TypeInfo)(z:Value)(size bytes:Nat)(ht:P.underlying t=some (.slice e))(hi:P.info? e=some i)(hz:i.zero=some z)
  (hsize:i.size=size) (hby:i.bytes=bytes) (hzs:z.cells.size=size) (hsz:0<size)
  (v:Value) (n:Nat) (xs:List Value) (hown:w.ownsRow base e size v n xs)
  (ao:Option Addr) (m c:Nat) (news:List Value) (hl:news.length=m*size) (hnone:ao=none->m=0/\c=0) (hnews:∀a,ao=some a->∀j u,news[j]?=some u->w.cell? (a.add j)=some u) (h1:∀u∈news,u.oneCell'=true)
  (h63:n+m<=maxLen) (hbytes:(n+m)*bytes<=140737488355328) (hbase:base<=w.heap.size) :
  ∃v' w',(Builtin.append_ #[t,t] ty #[v,af ao m c]).run P w=.ok v' w'/\w'.ownsRow base e size v' (n+m) (xs++news)/\w.grownBy w' v.ownBlock/\(v'.ownBlock=v.ownBlock\/v'.ownBlock=some w.heap.size):=by
 cases ao with
 | some a =>
  obtain⟨v',w',r1,r2,r3,_,r5⟩:=run_append_own_at (P:=P) (w:=w) base t ty e i z size bytes ht hi hz hsize hby hzs hsz v n xs hown a m c news hl (hnews a rfl) h1 h63 hbytes hbase;exact⟨v',w',r1,r2,r3,r5⟩
 | none =>
  obtain⟨rfl,rfl⟩:=hnone rfl;have hn:news=[]:=List.eq_nil_of_length_eq_zero (by simpa using hl);subst hn;exact⟨v,w,run_append_owned_none (P:=P) (w:=w) base t ty e i size ht hi v n xs hown,by simpa using hown,World.grownBy.refl _ _,.inl rfl⟩
theorem bu.jD{A:Type}{sz:Nat}{f:A->List Value}(hf:∀x,(f x).length=sz)(h0:0<sz){w:World}{a:Option Addr}{l:List A}(h:bu sz f w a l):∀ad,a=some ad->∀j u,(l.flatMap f)[j]?=some u->w.cell? (ad.add j)=some u:=by
 intro ad had j u hj;subst had
 cases l with
 | nil=>simp at hj
 | cons x t =>
  obtain⟨b,off,e,_⟩:=h 0 (by simp);simp only[Option.some.injEq] at e;subst e;exact h.news hf h0 j u hj
theorem kJ{A:Type}{sz:Nat}{f:A->List Value}{w:World}{a:Option Addr}{l:List A}(h:bu sz f w a l)(ha:a=none):l.length=0:=by
 cases l with
 | nil=>rfl
 | cons x t =>
  obtain⟨b,off,e,_⟩:=h 0 (by simp);rw[ha] at e;cases e
structure Rs where
 fp:List Nat
 P:World->Prop
 loc:∀x y:World,(∀b∈fp,y.heap[b]?=x.heap[b]?)->P x->P y
def ic(rs:List Rs):List Nat:=rs.flatMap Rs.fp
theorem nI(r:Rs)(rs:List Rs):ic (r::rs)=r.fp++ic rs:=by simp[ic]
theorem iB(a b:List Rs):ic (a++b)=ic a++ic b:=by simp[ic]
theorem fC(r:Rs):ic [r]=r.fp:=by simp[ic]
theorem CZ{rs:List Rs}{b:Nat}:b∈ic rs ↔ ∃r∈rs,b∈r.fp:=by simp[ic]
structure Fr(F:List Nat)(w x:World):Prop where
 os:x.os=w.os
 tape:x.tape=w.tape
 output:x.output=w.output
 size:w.heap.size<=x.heap.size
 block:∀k,k<w.heap.size->k ∉ F->x.heap[k]?=w.heap[k]?
theorem Fr.refl(F:List Nat)(w:World):Fr F w w:=⟨rfl,rfl,rfl,Nat.le_refl _,fun _ _ _=>rfl⟩
theorem Fr.below{F:List Nat}{w x:World}(h:Below w.heap.size w x):Fr F w x:=⟨h.os,h.tape,h.output,h.size,fun k hk _=>h.block k hk⟩
theorem Fr.LM{w x:World}(h:Fr [] w x):Below w.heap.size w x:=⟨h.os,h.tape,h.output,h.size,fun k hk=>h.block k hk (by simp)⟩
theorem Fr.mono{F G:List Nat}{w x:World}(h:Fr F w x)(hs:∀b∈F,b∈G\/w.heap.size<=b):Fr G w x :=
 ⟨h.os,h.tape,h.output,h.size,fun k hk hn=>h.block k hk (fun q=>by rcases hs k q with a|a;exact hn a;omega)⟩
theorem Fr.trans{F G:List Nat}{w x y:World}(h:Fr F w x)(k:Fr G x y)(hs:∀b∈G,b∈F\/w.heap.size<=b):Fr F w y :=
 ⟨k.os.trans h.os,k.tape.trans h.tape,k.output.trans h.output,Nat.le_trans h.size k.size,fun b hb hn=>(k.block b (Nat.lt_of_lt_of_le hb h.size) (fun q=>by rcases hs b q with a|a;exact hn a;omega)).trans (h.block b hb hn)⟩
theorem Fr.drew{F:List Nat}{w x:World}(h:Fr F w x):Fr F w x.drew:=⟨h.os,h.tape,h.output,h.size,h.block⟩
theorem Fr.alloc{F:List Nat}{w x:World}(h:Fr F w x)(o:Obj):Fr F w (x.alloc o):=h.trans (Fr.below (aF (Below.refl _ _) o)) (G:=[]) (fun b hb=>by cases hb)
theorem Fr.set{F:List Nat}{w x:World}(h:Fr F w x){g o:Nat}{v:Value}(hg:g∈F\/w.heap.size<=g):Fr F w (x.setCell ⟨g,o,none⟩ v) :=
 ⟨h.os,h.tape,h.output,by rw[size_setCell];exact h.size,fun k hk hn=>(Below.heap_setCell _ _ _ _ (fun e=>by subst e;rcases hg with a|a;exact hn a;exact absurd hk (by show ¬ k<_;omega))).trans (h.block k hk hn)⟩
theorem Fr.turned{g:Nat}{w x:World}(h:Turned g w x):Fr [g] w x:=⟨h.os,h.tape,h.output,by rw[h.size];exact Nat.le_refl _,fun k hk hn=>h.block k (fun e=>hn (by simp[e]))⟩
theorem Fr.grown{w x:World}{o:Option Nat}(h:w.grownBy x o):Fr o.toList w x:=⟨h.os,h.tape,h.output,h.size,fun k hk hn=>h.block k hk (fun e=>hn (by simp[<-e]))⟩
theorem Fr.cell{F:List Nat}{w x:World}(h:Fr F w x){p:Addr}(hp:p.block<w.heap.size)(hn:p.block ∉ F):x.cell? p=w.cell? p:=World.cell?_of_block (h.block _ hp hn)
structure Star(rs:List Rs)(x:World):Prop where
 all:∀r∈rs,r.P x
 nd:(ic rs).Nodup
 lt:∀b∈ic rs,b<x.heap.size
theorem Star.nil(x:World):Star [] x:=⟨fun r h=>(by cases h),(by simp[ic]),fun b h=>(by simp[ic] at h)⟩
theorem Star.perm{rs rs':List Rs}{x:World}(h:Star rs x)(p:rs.Perm rs'):Star rs' x :=
 ⟨fun r hr=>h.all r (p.mem_iff.2 hr),(List.Perm.nodup_iff (List.Perm.flatMap_right _ p)).1 h.nd,fun b hb=>h.lt b ((List.Perm.flatMap_right _ p).mem_iff.2 hb)⟩
theorem Star.left{a b:List Rs}{x:World}(h:Star (a++b) x):Star a x:=by
 have nd:=h.nd;rw[iB,List.nodup_append] at nd;exact⟨fun r hr=>h.all r (by simp[hr]),nd.1,fun c hc=>h.lt c (by rw[iB];simp[hc])⟩
theorem Star.right{a b:List Rs}{x:World}(h:Star (a++b) x):Star b x:=h.perm List.perm_append_comm |>.left
theorem Star.app{a b:List Rs}{x:World}(h:Star a x)(k:Star b x)(d:∀c∈ic a,c ∉ ic b):Star (a++b) x :=
 ⟨fun r hr=>by rcases List.mem_append.1 hr with q|q;exact h.all r q;exact k.all r q,by
  rw[iB,List.nodup_append];exact⟨h.nd,k.nd,fun c hc e he q=>d c hc (q▸he)⟩,fun c hc=>by
  rw[iB] at hc;rcases List.mem_append.1 hc with q|q
  ·exact h.lt c q
  ·exact k.lt c q⟩
theorem Star.apart{a b:List Rs}{x:World}(h:Star (a++b) x):∀c∈ic a,c ∉ ic b:=by
 have nd:=h.nd;rw[iB,List.nodup_append] at nd;exact fun c hc q=>nd.2.2 c hc c q rfl
theorem Star.keep{rs:List Rs}{x y:World}{F:List Nat}(h:Star rs x)(k:Fr F x y)(d:∀b∈ic rs,b ∉ F):Star rs y :=
 ⟨fun r hr=>r.loc x y (fun b hb=>k.block b (h.lt b (CZ.2 ⟨r,hr,hb⟩)) (d b (CZ.2 ⟨r,hr,hb⟩))) (h.all r hr),h.nd,fun b hb=>Nat.lt_of_lt_of_le (h.lt b hb) k.size⟩
theorem Star.below{rs:List Rs}{x y:World}(h:Star rs x)(k:Below x.heap.size x y):Star rs y:=h.keep (Fr.below (F:=[]) k) (fun _ _ q=>by cases q)
theorem Star.cons{r:Rs}{rs:List Rs}{x:World}(h:Star (r::rs) x):r.P x/\Star rs x:=⟨h.all r (by simp),Star.right (a:=[r]) h⟩
theorem Star.get{rs:List Rs}{x:World}(h:Star rs x){r:Rs}(hr:r∈rs):r.P x:=h.all r hr
theorem Star.one{r:Rs}{x:World}(h:r.P x)(nd:r.fp.Nodup)(lt:∀b∈r.fp,b<x.heap.size):Star [r] x :=
 ⟨fun q hq=>by simp only[List.mem_singleton] at hq;subst hq;exact h,by rw[fC];exact nd,by rw[fC];exact lt⟩
structure Pool(F:List Nat)(w:World)(S:List (List Rs))(x:World):Prop where
 fr:Fr F w x
 st:Star S.flatten x
 hi:∀b∈ic S.flatten,b∈F\/w.heap.size<=b
theorem y7{S:List (List Rs)}{i:Nat}{rs:List Rs}(hi:S[i]?=some rs)(rs':List Rs):∃A B,S.flatten=A++(rs++B)/\(S.set i rs').flatten=A++(rs'++B):=by
 have hl:i<S.length:=(List.getElem?_eq_some_iff.1 hi).1;refine⟨(S.take i).flatten,(S.drop (i+1)).flatten,?_,?_⟩
 ·have e:S=S.take i++rs::S.drop (i+1):=by
   have:=List.getElem?_eq_some_iff.1 hi;obtain⟨_,h2⟩:=this;rw[<-h2];simp
  rw[<-List.flatten_cons,<-List.flatten_append,<-e]
 ·rw[List.set_eq_take_append_cons_drop,if_pos hl,List.flatten_append,List.flatten_cons]
theorem Pool.get{F:List Nat}{w x:World}{S:List (List Rs)}(h:Pool F w S x){i:Nat}{rs:List Rs}(hi:S[i]?=some rs):Star rs x:=by
 obtain⟨A,B,e,_⟩:=y7 hi [];have:=h.st;rw[e] at this;exact this.right.left
theorem Pool.step{F:List Nat}{w x y:World}{S:List (List Rs)}(h:Pool F w S x){i:Nat}{rs rs':List Rs}(hi:S[i]?=some rs)(fr:Fr (ic rs) x y)(st:Star rs' y)(sub:∀b∈ic rs',b∈ic rs\/x.heap.size<=b):Pool F w (S.set i rs') y:=by
 obtain⟨A,B,e,e'⟩:=y7 hi rs';have hs:=h.st;have hh:=h.hi;rw[e] at hs hh;have hin:∀b∈ic rs,b∈F\/w.heap.size<=b:=fun b hb=>hh b (by rw[iB,iB];simp[hb])
 have dA:=hs.apart;have dB:=hs.right.apart;have kA:Star A y:=hs.left.keep fr (fun b hb q=>dA b hb (by rw[iB];simp[q]));have kB:Star B y:=hs.right.right.keep fr (fun b hb q=>dB b q hb);refine⟨h.fr.trans fr hin,?_,?_⟩
 ·rw[e'];refine kA.app (st.app kB (fun c hc q=>?_)) (fun c hc q=>?_)
  ·rcases sub c hc with a|a
   ·exact dB c a q
   ·have:=hs.right.right.lt c q;omega
  ·rw[iB] at q;rcases List.mem_append.1 q with q|q
   ·rcases sub c q with a|a
    ·exact dA c hc (by rw[iB];simp[a])
    ·have:=hs.left.lt c hc;omega
   ·exact dA c hc (by rw[iB];simp[q])
 ·rw[e'];intro b hb;rw[iB,iB] at hb;rcases List.mem_append.1 hb with q|q
  ·exact hh b (by rw[iB];simp[q])
  ·rcases List.mem_append.1 q with q|q
   ·rcases sub b q with a|a
    ·exact hin b a
    ·exact .inr (Nat.le_trans h.fr.size a)
   ·exact hh b (by rw[iB,iB];simp[q])
theorem Pool.call{F:List Nat}{w x y:World}{S:List (List Rs)}(h:Pool F w S x){i:Nat}{rs rs':List Rs}(hi:S[i]?=some rs)(k:Pool (ic rs) x [rs'] y):Pool F w (S.set i rs') y :=
 h.step hi k.fr (by simpa using k.st) (by simpa using k.hi)
theorem Pool.keep{F:List Nat}{w x y:World}{S:List (List Rs)}(h:Pool F w S x)(b:Below x.heap.size x y):Pool F w S y :=
 ⟨h.fr.trans (Fr.below (F:=[]) b) (fun c hc=>by cases hc),h.st.below b,h.hi⟩
theorem Pool.drew{F:List Nat}{w x:World}{S:List (List Rs)}(h:Pool F w S x):Pool F w S x.drew:=h.keep (Below.refl _ _).drew
theorem Pool.alloc{F:List Nat}{w x:World}{S:List (List Rs)}(h:Pool F w S x)(o:Obj):Pool F w S (x.alloc o):=h.keep (aF (Below.refl _ _) o)
theorem Pool.perm{F:List Nat}{w x:World}{S S':List (List Rs)}(h:Pool F w S x)(p:S.flatten.Perm S'.flatten):Pool F w S' x :=
 ⟨h.fr,h.st.perm p,fun b hb=>h.hi b ((List.Perm.flatMap_right _ p).mem_iff.2 hb)⟩
theorem Pool.cast{F:List Nat}{w x:World}{S S':List (List Rs)}(h:Pool F w S x)(e:S.flatten=S'.flatten):Pool F w S' x:=⟨h.fr,e▸h.st,e▸h.hi⟩
theorem Pool.drop{F:List Nat}{w x:World}{S:List (List Rs)}(h:Pool F w S x){i:Nat}{rs:List Rs}(hi:S[i]?=some rs):Pool F w (S.set i []) x:=h.step hi (Fr.refl _ _) (Star.nil _) (fun b hb=>by simp[ic] at hb)
theorem Pool.new{F:List Nat}{w x y:World}{S:List (List Rs)}(h:Pool F w S x){i:Nat}{rs':List Rs}(hi:S[i]?=some [])(b:Below x.heap.size x y)(st:Star rs' y)(hi':∀c∈ic rs',x.heap.size<=c):Pool F w (S.set i rs') y :=
 h.step hi (Fr.below b) st (fun c hc=>.inr (hi' c hc))
theorem Pool.start(w:World)(S:List (List Rs))(e:S.flatten=[]):Pool [] w S w:=⟨Fr.refl _ _,by rw[e];exact Star.nil _,by rw[e];exact fun b hb=>by simp[ic] at hb⟩
theorem Pool.of{rs:List Rs}{w:World}(h:Star rs w):Pool (ic rs) w [rs] w:=⟨Fr.refl _ _,by simpa using h,fun b hb=>.inl (by simpa using hb)⟩
theorem Pool.below{w x:World}{S:List (List Rs)}(h:Pool [] w S x):Below w.heap.size w x:=h.fr.LM
def blk(b:Nat)(cur:List Value):Rs:=⟨[b],jb b cur,fun x y e h=>by
 have e:=e b (by simp);have hlt:b<y.heap.size:=by
  rcases Nat.lt_or_ge b y.heap.size with q|q
  ·exact q
  ·rw[Array.getElem?_eq_none q] at e;have:=h.lt;rw[Array.getElem?_eq_getElem this] at e;cases e
 exact⟨hlt,fun j v hj=>(World.cell?_of_block (a:=⟨b,j,none⟩) e).trans (h.c j v hj),fun j=>(World.frozen?_of_block (a:=⟨b,j,none⟩) e).trans (h.f j)⟩⟩
theorem Iz(b:Nat)(cur:List Value):(blk b cur).fp=[b]:=rfl
theorem Star.ou{b:Nat}{cur:List Value}{x:World}(h:jb b cur x):Star [blk b cur] x:=Star.one h (by simp[blk]) (fun c hc=>by simp only[Iz,List.mem_singleton] at hc;subst hc;exact h.lt)
theorem Pool.aY{F:List Nat}{w x:World}{S:List (List Rs)}(h:Pool F w S x){i:Nat}(hi:S[i]?=some [])(cur:List Value)(T:TypeId):Pool F w (S.set i [blk x.heap.size cur]) (x.alloc (.cells cur.toArray T)) :=
 h.new hi (aF (Below.refl _ _) _) (Star.ou jb.new) (fun c hc=>by simp only[fC,Iz,List.mem_singleton] at hc;omega)
theorem Pool.aQ{F:List Nat}{w x:World}{S:List (List Rs)}(h:Pool F w S x){i b:Nat}{cur:List Value}(hi:S[i]?=some [blk b cur])(o:Nat)(v:Value)(ho:o<cur.length):Pool F w (S.set i [blk b (cur.set o v)]) (x.setCell ⟨b,o,none⟩ v):=by
 have hB:jb b cur x:=(h.get hi).get (r:=blk b cur) (by simp);exact h.step hi (by rw[fC,Iz];exact(Fr.refl _ _).set (.inl (by simp))) (Star.ou (hB.set o v ho)) (fun c hc=>.inl hc)
def row(T:TypeId)(sz:Nat)(v:Value)(n:Nat)(xs:List Value):Rs:=⟨v.ownBlock.toList,fun x=>x.ownsRow 0 T sz v n xs,fun x y e h=>by
 obtain⟨hl,h0|⟨g,cap,cur,h1,hb,hg,r⟩⟩:=h
 ·exact⟨hl,.inl h0⟩
 ·exact⟨hl,.inr ⟨g,cap,cur,h1,hb,(e g (by subst h1;simp[Value.ownBlock])).trans hg,r⟩⟩⟩
theorem qd(T:TypeId)(sz:Nat)(v:Value)(n:Nat)(xs:List Value):(row T sz v n xs).fp=v.ownBlock.toList:=rfl
theorem uD(o:Option Nat):o.toList.Nodup:=by cases o<;>simp
theorem MC{w:World}{base:Nat}{T:TypeId}{sz n:Nat}{v:Value}{xs:List Value}(h:w.ownsRow base T sz v n xs):w.ownsRow 0 T sz v n xs:=by
 obtain⟨hl,h0|⟨g,cap,cur,h1,hb,r⟩⟩:=h
 ·exact⟨hl,.inl h0⟩
 ·exact⟨hl,.inr ⟨g,cap,cur,h1,Nat.zero_le _,r⟩⟩
theorem Star.ofRow{base:Nat}{T:TypeId}{sz n:Nat}{v:Value}{xs:List Value}{x:World}(h:x.ownsRow base T sz v n xs):Star [row T sz v n xs] x :=
 Star.one (r:=row T sz v n xs) (MC h) (uD _) (fun c hc=>by
  rw[qd,Option.mem_toList] at hc;exact(h.lt c hc).2)
theorem Pool.newRow{F:List Nat}{w x:World}{S:List (List Rs)}(h:Pool F w S x){i:Nat}(hi:S[i]?=some [])(T:TypeId)(sz:Nat):Pool F w (S.set i [row T sz (af (some ⟨x.heap.size,0,none⟩) 0 0) 0 []]) (x.alloc (.cells #[] T)) :=
 h.new hi (aF (Below.refl _ _) _) (Star.ofRow (World.ownsRow_made (base:=0) x #[] 0 (Nat.zero_le _) (by unfold maxLen;omega) (by simp))) (fun c hc=>by simp only[fC,qd,Value.ownBlock,Option.toList,List.mem_singleton] at hc;omega)
theorem Pool.rA{F:List Nat}{w x:World}{S:List (List Rs)}(h:Pool F w S x){i:Nat}(hi:S[i]?=some [])(T:TypeId)(sz:Nat):Pool F w (S.set i [row T sz (af none 0 0) 0 []]) x :=
 h.new hi (Below.refl _ _) (Star.ofRow (World.ownsRow_nil x 0 T sz)) (fun c hc=>by simp[fC,qd,Value.ownBlock] at hc)
theorem Pool.rowAt{F:List Nat}{w x:World}{S:List (List Rs)}(h:Pool F w S x){i:Nat}{T:TypeId}{sz n:Nat}{v:Value}{xs:List Value}(hi:S[i]?=some [row T sz v n xs]):x.ownsRow 0 T sz v n xs:=(h.get hi).get (r:=row T sz v n xs) (by simp)
theorem Pool.aB{F:List Nat}{w x:World}{S:List (List Rs)}(h:Pool F w S x){i b:Nat}{cur:List Value}(hi:S[i]?=some [blk b cur]):jb b cur x:=(h.get hi).get (r:=blk b cur) (by simp)
theorem Pool.grow{F:List Nat}{w x y:World}{S:List (List Rs)}(h:Pool F w S x){i:Nat}{T:TypeId}{sz n m:Nat}{v v':Value}{xs ys:List Value}(hi:S[i]?=some [row T sz v n xs])(ho:y.ownsRow 0 T sz v' m ys)(hg:x.grownBy y v.ownBlock)(hl:v'.ownBlock=v.ownBlock\/v'.ownBlock=some x.heap.size):Pool F w (S.set i [row T sz v' m ys]) y :=
 h.step hi (by rw[fC,qd];exact Fr.grown hg) (Star.ofRow ho) (fun c hc=>by
  rw[fC,qd,Option.mem_toList] at hc;rcases hl with e|e
  ·exact .inl (by rw[fC,qd,Option.mem_toList,<-e];exact hc)
  ·rw[e] at hc;simp only[Option.some.injEq] at hc;exact .inr (by omega))
def jP:Option Addr->Nat
 | some a=>a.block
 | none=>0
def Qq(x:World)(sz n:Nat)(a:Option Addr)(cap:Nat):Prop:=(a=none/\cap=0/\n=0)\/∃g cur T,a=some ⟨g,0,none⟩/\x.heap[g]?=some (.cells cur T (0,0))/\cur.size=cap*sz/\n<=cap/\cap<=maxLen
def bA{A:Type}(sz:Nat)(f:A->List Value)(a:Option Addr)(cap:Nat)(l:List A):Rs:=⟨(af a l.length cap).ownBlock.toList,fun x=>Qq x sz l.length a cap/\bR sz f x (jP a) a cap l,fun x y e h=>by
 obtain⟨s,h⟩:=h;have hs:Qq y sz l.length a cap:=by
  rcases s with s|⟨g,cur,T,rfl,hg,r⟩
  ·exact .inl s
  ·exact .inr ⟨g,cur,T,rfl,(e g (by simp[Value.ownBlock])).trans hg,r⟩
 refine⟨hs,?_⟩;by_cases h0:0<l.length
 ·rcases s with ⟨_,_,s⟩|⟨g,cur,T,rfl,hg,r⟩
  ·omega
  have e:=e g (by simp[Value.ownBlock]);refine⟨fun i hi=>?_,fun h0=>⟨(h.own h0).1,fun j=>?_⟩,h.room,h.nocap⟩
  ·obtain⟨b,off,ea,hb,hc⟩:=h.rows i hi;simp only[Option.some.injEq,Addr.mk.injEq,and_true] at ea;obtain⟨rfl,rfl⟩:=ea;refine⟨g,0,rfl,?_,fun r v hv=>(World.cell?_of_block (a:=⟨g,0+i*sz+r,none⟩) e).trans (hc r v hv)⟩;rcases Nat.lt_or_ge g y.heap.size with q|q
   ·exact q
   ·rw[Array.getElem?_eq_none q,Array.getElem?_eq_getElem hb] at e;cases e
  ·exact(World.frozen?_of_block (a:=⟨g,j,none⟩) e).trans ((h.own h0).2 j)
 ·have:l=[]:=List.eq_nil_of_length_eq_zero (by omega);subst this;exact bR.nil h.nocap⟩
theorem uO{A:Type}(sz:Nat)(f:A->List Value)(a:Option Addr)(cap:Nat)(l:List A):(bA sz f a cap l).fp=(af a l.length cap).ownBlock.toList:=rfl
theorem EE{A:Type}{sz:Nat}{f:A->List Value}{a:Option Addr}{cap:Nat}{l:List A}{b:Nat}(h:b∈(bA sz f a cap l).fp):a≠none/\b=jP a:=by
 rw[uO,Option.mem_toList] at h
 cases a with
 | none=>cases h
 | some ad=>exact⟨fun e=>(by cases e),by simpa[Value.ownBlock,jP] using h.symm⟩
theorem Star.MN{A:Type}{sz:Nat}{f:A->List Value}{a:Option Addr}{cap:Nat}{l:List A}{x:World}(s:Qq x sz l.length a cap)(h:bR sz f x (jP a) a cap l):Star [bA sz f a cap l] x :=
 Star.one (r:=bA sz f a cap l) ⟨s,h⟩ (uD _) (fun b hb=>by
  rcases s with ⟨rfl,_⟩|⟨g,cur,T,rfl,hg,r⟩
  ·rw[uO] at hb;simp[Value.ownBlock] at hb
  ·obtain⟨_,rfl⟩:=EE hb;exact(Array.getElem?_eq_some_iff.1 hg).1)
theorem Star.CV{A:Type}{sz:Nat}{f:A->List Value}{x:World}:Star [bA sz f none 0 ([]:List A)] x:=Star.MN (.inl ⟨rfl,rfl,rfl⟩) (bR.nil (fun _=>rfl))
theorem Star.GV{A:Type}{sz:Nat}{f:A->List Value}(hf:∀x,(f x).length=sz){w:World}{base:Nat}{e:TypeId}{v:Value}{l:List A}(h:w.ownsRow base e sz v l.length (l.flatMap f)):∃a cap,v=af a l.length cap/\Star [bA sz f a cap l] w/\(∀b∈ic [bA sz f a cap l],b∈v.ownBlock.toList):=by
 obtain⟨g,a,cap,hb,e1,ho⟩:=ll hf h;have hs:Qq w sz l.length a cap:=by
  obtain⟨_,⟨h0,h1⟩|⟨g',c',cur,h1,_,hg,hn,hm,hc,_⟩⟩:=h
  ·rw[h0] at e1;simp only[Value.slice.injEq] at e1;exact .inl ⟨e1.1.symm,e1.2.2.symm,h1⟩
  ·rw[h1] at e1;simp only[Value.slice.injEq,true_and] at e1;obtain⟨rfl,rfl⟩:=e1;exact .inr ⟨g',cur,_,rfl,hg,hc,hn,hm⟩
 have ho2:bR sz f w (jP a) a cap l:=by
  by_cases h0:0<l.length
  ·have:jP a=g:=by rw[(ho.own h0).1];rfl
   rw[this];exact ho
  ·have:l=[]:=List.eq_nil_of_length_eq_zero (by omega);subst this;exact bR.nil ho.nocap
 refine⟨a,cap,e1,Star.MN hs ho2,fun b q=>?_⟩;rw[fC,uO,<-e1] at q;exact q
theorem Pool.jS{A:Type}{sz:Nat}{f:A->List Value}{F:List Nat}{w x:World}{S:List (List Rs)}(h:Pool F w S x){i:Nat}{a:Option Addr}{cap:Nat}{l:List A}(hi:S[i]?=some [bA sz f a cap l]):bR sz f x (jP a) a cap l:=((h.get hi).get (r:=bA sz f a cap l) (by simp)).2
theorem Pool.RO{A:Type}{sz:Nat}{f:A->List Value}{F:List Nat}{w x:World}{S:List (List Rs)}(h:Pool F w S x){i:Nat}{a:Option Addr}{cap:Nat}{l:List A}(hi:S[i]?=some [bA sz f a cap l]):Qq x sz l.length a cap:=((h.get hi).get (r:=bA sz f a cap l) (by simp)).1
theorem Qq.set{x:World}{sz n:Nat}{a:Option Addr}{cap:Nat}(h:Qq x sz n a cap)(b o:Nat)(v:Value):Qq (x.setCell ⟨b,o,none⟩ v) sz n a cap:=by
 rcases h with h|⟨g,cur,T,e,hg,hc,r⟩
 ·exact .inl h
 ·by_cases q:g=b
  ·subst q;exact .inr ⟨g,cur.setIfInBounds o v,T,e,by simp[World.setCell,Array.getElem?_modify,hg],by simpa using hc,r⟩
  ·exact .inr ⟨g,cur,T,e,(Below.heap_setCell _ _ _ _ q).trans hg,hc,r⟩
theorem Pool.Et{F:List Nat}{w x:World}{S:List (List Rs)}(h:Pool F w S x){i b:Nat}{z0 z1 z2 z3 z4 z5:Value}(hi:S[i]?=some [blk b [z0,z1,z2,z3,z4,z5]])(v0 v1 v2 v3 v4 v5:Value) :
  Pool F w (S.set i [blk b [v0,v1,v2,v3,v4,v5]]) ((((((x.setCell ⟨b,0,none⟩ v0).setCell ⟨b,1,none⟩ v1).setCell ⟨b,2,none⟩ v2).setCell ⟨b,3,none⟩ v3).setCell ⟨b,4,none⟩ v4).setCell ⟨b,5,none⟩ v5):=by
 have hl:i<S.length:=(List.getElem?_eq_some_iff.1 hi).1;have e:∀r:List Rs,(S.set i r)[i]?=some r:=fun r=>by simp[hl]
 have h0:=h.aQ hi 0 v0 (by simp);have h1:=h0.aQ (e _) 1 v1 (by simp);have h2:=h1.aQ (by rw[List.set_set];exact e _) 2 v2 (by simp);have h3:=h2.aQ (by rw[List.set_set,List.set_set];exact e _) 3 v3 (by simp);have h4:=h3.aQ (by rw[List.set_set,List.set_set,List.set_set];exact e _) 4 v4 (by simp);have h5:=h4.aQ (by rw[List.set_set,List.set_set,List.set_set,List.set_set];exact e _) 5 v5 (by simp);simp only[List.set_set] at h5;exact h5
def SQ(a:Option Addr):Prop:=∀x,a=some x->∃b off,x=⟨b,off,none⟩
def tJ:Value->Option Addr
 | af a _ _=>a
 | aj xs=>(match xs.toList with|af a _ _::_=>a|_=>none)
 | .tuple ys=>(match ys.toList with|aj xs::_=>(match xs.toList with|af a _ _::_=>a|_=>none)|_=>none)
 | _=>none
def FZ:Value->Nat
 | ai (some a)=>a.block
 | _=>0
theorem Pool.append{P:Program}{F:List Nat}{w x:World}{S:List (List Rs)}(h:Pool F w S x){i0:Nat}{T:TypeId}{size n:Nat}{v:Value}{xs:List Value}(hs:S[i0]?=some [row T size v n xs])
  (t ty:TypeId) (i:TypeInfo) (z:Value) (bytes:Nat) (ht:P.underlying t=some (.slice T)) (hi:P.info? T=some i) (hz:i.zero=some z)
  (hsize:i.size=size) (hby:i.bytes=bytes) (hzs:z.cells.size=size) (hsz:0<size)
  (ao:Option Addr) (m c:Nat) (news:List Value) (hl:news.length=m*size) (hnone:ao=none->m=0/\c=0) (hnews:∀a,ao=some a->∀j u,news[j]?=some u->x.cell? (a.add j)=some u) (h1:∀u∈news,u.oneCell'=true)
  (h63:n+m<=maxLen) (hbytes:(n+m)*bytes<=140737488355328) :
  ∃v' y,(Builtin.append_ #[t,t] ty #[v,af ao m c]).run P x=.ok v' y/\Pool F w (S.set i0 [row T size v' (n+m) (xs++news)]) y:=by
 obtain⟨v',y,hr,ho,hg,hlie⟩:=qZ (P:=P) (w:=x) 0 t ty T i z size bytes ht hi hz hsize hby hzs hsz v n xs (h.rowAt hs) ao m c news hl hnone hnews h1 h63 hbytes (Nat.zero_le _);exact⟨v',y,hr,h.grow hs ho hg hlie⟩
theorem gJ{g:Nat}{cur:List Value}{x:World}(h:jb g cur x):∀a,(some ⟨g,0,none⟩:Option Addr)=some a->∀j u,cur[j]?=some u->x.cell? (a.add j)=some u:=fun a ha j u hj=>by
 simp only[Option.some.injEq] at ha;subst ha;rw[addr_add,Nat.zero_add];exact h.c j u hj
theorem Below.news{w x:World}{A:Type}{sz:Nat}{f:A->List Value}(hf:∀x,(f x).length=sz)(h0:0<sz){a:Option Addr}{l:List A}(b:Below w.heap.size w x)(h:bu sz f w a l):∀ad,a=some ad->∀j u,(l.flatMap f)[j]?=some u->x.cell? (ad.add j)=some u:=(h.below b).jD hf h0
def wF(lo hi:Int)(c:UInt8):Bool:=decide (lo<=(c.toNat:Int)/\(c.toNat:Int)<=hi)
def lets(lo hi:Int)(l:List UInt8):Bool:=l.all (wF lo hi)
theorem iU(s:ByteArray)(k:Nat)(h:k<s.size):s.data.toList.take (k+1)=s.data.toList.take k++[s[k]]:=by
 rw[List.take_succ_eq_append_getElem (by simpa using h)];rfl
theorem wE(lo hi:Int)(l:List UInt8)(c:UInt8):lets lo hi (l++[c])=(lets lo hi l&&wF lo hi c):=by
 simp[lets]
theorem sD(lo hi:Int)(s:ByteArray)(k:Nat)(h:k<s.size)(hb:wF lo hi s[k]=false):lets lo hi s.data.toList=false:=by
 have e:=List.take_append_drop (k+1) s.data.toList;rw[iU s k h] at e;rw[<-e];simp only[lets,List.all_append];simp[hb]
theorem zF(lo hi:Int)(s:ByteArray)(k:Nat)(h:¬ k<s.size)(hb:lets lo hi (s.data.toList.take k)=true):lets lo hi s.data.toList=true:=by
 rw[List.take_of_length_le (by simp;omega)] at hb;exact hb
theorem tN(s:ByteArray)(lo hi:Int)(w:World)(hs:s.size<=maxLen) :
  Calls prog 202 #[ag s,.int .u8 lo,.int .u8 hi] w fun e w'=>e=.returned (.bool (lets lo hi s.data.toList))/\w'=w:=by
 unfold maxLen at hs;go_enter func202,ntmps202;go_wp2;go_loop [10] (fun i=>∃k:Nat,k<=s.size/\i=ae au k/\Hid (lets lo hi (s.data.toList.take k)=true)) (fun i=>s.size-(intOf i).toNat)
 case atStart=>exact⟨0,Nat.zero_le _,rfl,show Hid _ from hide rfl⟩
 case round =>
  obtain⟨k,hk,rfl,HL⟩:=hrel;by_cases hlt:k<s.size
  ·have hsn:=iU s k hlt;by_cases h1:(s[k].toNat:Int)<lo
   ·have HR:Hid (lets lo hi s.data.toList=false):=hide (sD lo hi s k hlt (by simp[wF];omega));clear hsn;go_wp2;go_ret;exact⟨by rw[HR.out];rfl,rfl⟩
   ·by_cases h2:hi<(s[k].toNat:Int)
    ·have HR:Hid (lets lo hi s.data.toList=false):=hide (sD lo hi s k hlt (by simp[wF];omega));clear hsn;go_wp2;go_ret;exact⟨by rw[HR.out];rfl,rfl⟩
    ·have HR:Hid (lets lo hi (s.data.toList.take (k+1))=true):=hide (by rw[hsn,wE,HL.out];simp[wF];omega);clear hsn;go_wp2;go_round
     case rel=>exact⟨k+1,by omega,by go_num,HR⟩
     case measure=>simp[intOf];omega
  ·have HR:Hid (lets lo hi s.data.toList=true):=hide (zF lo hi s k hlt HL.out);go_wp2;go_ret;exact⟨by rw[HR.out];rfl,rfl⟩
def dW(s:ByteArray):Bool:=decide (1<=s.size)&&decide (s.size<=12)&&lets 97 122 s.data.toList
def jU(s:ByteArray):Bool:=decide (s.size=3)&&lets 65 90 s.data.toList
theorem dz(s:ByteArray)(w:World)(hs:s.size<=maxLen) :
  Calls prog 157 #[ag s] w fun e w'=>e=.returned (.bool (dW s))/\w'=w:=by
 have hm:=hs;unfold maxLen at hs;by_cases h1:1<=s.size
 ·by_cases h2:s.size<=12
  ·have HR:Hid (dW s=lets 97 122 s.data.toList):=hide (by simp[dW,h1,h2]);have a1:(1:Int)<=(s.size:Int):=by omega
   have a2:(s.size:Int)<=12:=by omega
   go_enter func157,ntmps157;go_wp2_with (go_at_call 202;refine(tN _ _ _ _ hm).mono ?_;rintro e w'⟨rfl,rfl⟩);go_ret;exact⟨by rw[HR.out];rfl,rfl⟩
  ·have HR:Hid (dW s=false):=hide (by simp[dW];omega);have a1:(1:Int)<=(s.size:Int):=by omega
   have a2:¬ (s.size:Int)<=12:=by omega
   go_enter func157,ntmps157;go_wp2;go_ret;exact⟨by rw[HR.out];rfl,rfl⟩
 ·have HR:Hid (dW s=false):=hide (by simp[dW];omega);have a1:¬ (1:Int)<=(s.size:Int):=by omega
  go_enter func157,ntmps157;go_wp2;go_ret;exact⟨by rw[HR.out];rfl,rfl⟩
theorem dI(s:ByteArray)(w:World)(hs:s.size<=maxLen) :
  Calls prog 158 #[ag s] w fun e w'=>e=.returned (.bool (jU s))/\w'=w:=by
 have hm:=hs;unfold maxLen at hs;by_cases h1:s.size=3
 ·have HR:Hid (jU s=lets 65 90 s.data.toList):=hide (by simp[jU,h1]);have a1:((s.size:Int)==3)=true:=by simp;omega
  clear h1;go_enter func158,ntmps158;go_wp2_with (go_at_call 202;refine(tN _ _ _ _ hm).mono ?_;rintro e w'⟨rfl,rfl⟩);go_ret;exact⟨by rw[HR.out];rfl,rfl⟩
 ·have HR:Hid (jU s=false):=hide (by simp[jU];omega);have a1:((s.size:Int)==3)=false:=by simp;omega
  go_enter func158,ntmps158;go_wp2;go_ret;exact⟨by rw[HR.out];rfl,rfl⟩
theorem dE(s:ByteArray)(w:World)(hs:s.size<=maxLen) :
  Calls prog 97 #[ag s] w fun e w'=>e=.returned (.bool (dW s))/\w'=w:=by
 have hm:=hs;unfold maxLen at hs;by_cases h1:1<=s.size
 ·by_cases h2:s.size<=12
  ·have HR:Hid (dW s=lets 97 122 s.data.toList):=hide (by simp[dW,h1,h2]);have a1:¬ (s.size:Int)<1:=by omega
   have a2:¬ 12<(s.size:Int):=by omega
   go_enter func97,ntmps97;go_wp2;go_loop [3] (fun i=>∃k:Nat,k<=s.size/\i=ae au k/\Hid (lets 97 122 (s.data.toList.take k)=true)) (fun i=>s.size-(intOf i).toNat)
   case atStart=>exact⟨0,Nat.zero_le _,rfl,hide rfl⟩
   case round =>
    obtain⟨k,hk,rfl,HL⟩:=hrel;by_cases hlt:k<s.size
    ·have hsn:=iU s k hlt;by_cases h3:(s[k].toNat:Int)<97
     ·have HS:Hid (lets 97 122 s.data.toList=false):=hide (sD 97 122 s k hlt (by simp[wF];omega));clear hsn;go_wp2;go_ret;exact⟨by rw[HR.out,HS.out];rfl,rfl⟩
     ·by_cases h4:122<(s[k].toNat:Int)
      ·have HS:Hid (lets 97 122 s.data.toList=false):=hide (sD 97 122 s k hlt (by simp[wF];omega));clear hsn;go_wp2;go_ret;exact⟨by rw[HR.out,HS.out];rfl,rfl⟩
      ·have HS:Hid (lets 97 122 (s.data.toList.take (k+1))=true):=hide (by rw[hsn,wE,HL.out];simp[wF];omega);clear hsn;go_wp2;go_round
       case rel=>exact⟨k+1,by omega,by go_num,HS⟩
       case measure=>simp[intOf];omega
    ·have HS:Hid (lets 97 122 s.data.toList=true):=hide (zF 97 122 s k hlt HL.out);go_wp2;go_ret;exact⟨by rw[HR.out,HS.out];rfl,rfl⟩
  ·have HR:Hid (dW s=false):=hide (by simp[dW];omega);have a1:¬ (s.size:Int)<1:=by omega
   have a2:12<(s.size:Int):=by omega
   go_enter func97,ntmps97;go_wp2;go_ret;exact⟨by rw[HR.out];rfl,rfl⟩
 ·have HR:Hid (dW s=false):=hide (by simp[dW];omega);have a1:(s.size:Int)<1:=by omega
  go_enter func97,ntmps97;go_wp2;go_ret;exact⟨by rw[HR.out];rfl,rfl⟩
theorem dP(s:ByteArray)(w:World)(hs:s.size<=maxLen) :
  Calls prog 98 #[ag s] w fun e w'=>e=.returned (.bool (jU s))/\w'=w:=by
 have hm:=hs;unfold maxLen at hs;by_cases h1:s.size=3
 ·have HR:Hid (jU s=lets 65 90 s.data.toList):=hide (by simp[jU,h1]);have a1:((s.size:Int) != 3)=false:=by simp;omega
  have b1:s.size<=3:=by omega
  have b2:3<=s.size:=by omega
  clear h1;go_enter func98,ntmps98;go_wp2;go_loop [3] (fun i=>∃k:Nat,k<=s.size/\i=ae au k/\Hid (lets 65 90 (s.data.toList.take k)=true)) (fun i=>s.size-(intOf i).toNat)
  case atStart=>exact⟨0,Nat.zero_le _,rfl,hide rfl⟩
  case round =>
   obtain⟨k,hk,rfl,HL⟩:=hrel;by_cases hlt:k<s.size
   ·have hsn:=iU s k hlt;have hk3:(k:Int)<3:=by omega
    by_cases h3:(s[k].toNat:Int)<65
    ·have HS:Hid (lets 65 90 s.data.toList=false):=hide (sD 65 90 s k hlt (by simp[wF];omega));clear hsn;go_wp2;go_ret;exact⟨by rw[HR.out,HS.out];rfl,rfl⟩
    ·by_cases h4:90<(s[k].toNat:Int)
     ·have HS:Hid (lets 65 90 s.data.toList=false):=hide (sD 65 90 s k hlt (by simp[wF];omega));clear hsn;go_wp2;go_ret;exact⟨by rw[HR.out,HS.out];rfl,rfl⟩
     ·have HS:Hid (lets 65 90 (s.data.toList.take (k+1))=true):=hide (by rw[hsn,wE,HL.out];simp[wF];omega);clear hsn;go_wp2;go_round
      case rel=>exact⟨k+1,by omega,by go_num,HS⟩
      case measure=>simp[intOf];omega
   ·have HS:Hid (lets 65 90 s.data.toList=true):=hide (zF 65 90 s k hlt HL.out);have hk3:¬ (k:Int)<3:=by omega
    go_wp2;go_ret;exact⟨by rw[HR.out,HS.out];rfl,rfl⟩
 ·have HR:Hid (jU s=false):=hide (by simp[jU];omega);have a1:((s.size:Int) != 3)=true:=by simp;omega
  go_enter func98,ntmps98;go_wp2;go_ret;exact⟨by rw[HR.out];rfl,rfl⟩
end Go.Proofs.YtdbmmdecclalgaaGreatDoor
