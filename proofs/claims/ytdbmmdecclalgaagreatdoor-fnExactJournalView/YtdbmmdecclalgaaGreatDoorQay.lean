import Derived.Test.YtdbmmdecclalgaaGreatDoorQax
import Derived.Lib.SliceRun
import Derived.Deep.RegionLaw
import Derived.Lib.Overlaps
import Derived.Lib.AppendZerosOnto
import Derived.Laws.Externs
import Derived.Laws.CopyRow
import Derived.Laws.NewBlocks
namespace Go.Proofs.YtdbmmdecclalgaaGreatDoor
open Go.Value renaming slice → af, int → ae, pointer → ai, string → ag, agg → aj
open Go.IntKind renaming i64 → au
open Go renaming undef → ak
open Go.ChangeShapes Go.WideShapes Go.ChangeAt Go.RowKit Go.Shelf Go.Lib Go.Sort Go.Proofs.Tryz Go.Maps
set_option linter.unusedVariables false
set_option maxRecDepth 100000
set_option maxHeartbeats 4000000
theorem Cb{A:Type}[Inhabited A](enc:A->List Value)(k:Nat)(hk:∀x,(enc x).length=k)(h0:0<k)(l:List A)(t:Nat)(ht:t<l.length*k):(flatK enc k l.toArray)[t]! = (l.flatMap enc)[t]!:=by
 have hq:t/k<l.length:=(Nat.div_lt_iff_lt_mul h0).2 ht;have hm:t%k<k:=Nat.mod_lt _ h0;have e:(l.flatMap enc)[t]?=(enc l[t/k])[t%k]?:=by
  have:=flat_get enc k hk l (t/k) hq (t%k) hm;rw[Nat.div_add_mod'] at this;exact this
 rw[get_flatK enc k l.toArray t (by simpa using ht)];have e2:l.toArray[t/k]! = l[t/k]:=by simp[hq]
 rw[e2,List.getElem!_eq_getElem?_getD,List.getElem!_eq_getElem?_getD,e]
theorem BX{A:Type}[Inhabited A](enc:A->List Value)(k:Nat)(hk:∀x,(enc x).length=k)(h0:0<k){w:World}{g:Nat}{cur:Array Value}{e:TypeId}{l:List A}(hb:w.heap[g]?=some (.cells cur e (0,0)))(ht:cur.toList.take (l.length*k)=l.flatMap enc):HoldsK enc k w g 0 l.toArray:=by
 intro j hj;have hj':j<l.length*k:=by simpa using hj
 refine⟨?_,by simp[World.frozen?,hb]⟩;have h1:(cur.toList.take (l.length*k))[j]?=(l.flatMap enc)[j]?:=by rw[ht]
 rw[List.getElem?_take_of_lt hj'] at h1;rw[Cb enc k hk h0 l j hj'];simp only[World.cell?,hb,Nat.zero_add];have hlen:j<(l.flatMap enc).length:=by rw[eP enc k hk l];exact hj'
 rw[<-Array.getElem?_toList,h1,getElem!_pos _ j hlen,List.getElem?_eq_getElem hlen];rfl
theorem Dw{w:World}{g n:Nat}{os:Array Obj}{cur:Array Value}{e:TypeId}{fr:Nat×Nat}(F:Array Value)(hb:w.heap[g]?=some (.cells cur e fr)) :
  (grow (putRow id (Sort.ahead w n) g 0 F) os).heap[g]?=some (.cells (putCells id 0 F cur) e fr):=by
 have hg:g<w.heap.size:=(Array.getElem?_eq_some_iff.1 hb).1;rw[heap_grow_old _ _ (by simpa using hg)];simp[putRow,mapBlock,Sort.ahead,Array.getElem?_modify,hb,onCells]
theorem yw{w:World}{g n:Nat}{os:Array Obj}(F:Array Value):w.grownBy (grow (putRow id (Sort.ahead w n) g 0 F) os) (some g):=by
 refine⟨rfl,rfl,rfl,by simp,fun k hk hne=>?_⟩;rw[heap_grow_old _ _ (by simpa using hk)];have:g≠k:=fun e=>hne (by rw[e])
 simp[putRow,mapBlock,Sort.ahead,Array.getElem?_modify,this]
theorem yX{A:Type}[Inhabited A](enc:A->List Value)(k:Nat)(hk:∀x,(enc x).length=k)(h0:0<k)(cur:Array Value)(l:List A)(h:l.length*k<=cur.size):(putCells id 0 (flatK enc k l.toArray) cur).toList.take (l.length*k)=l.flatMap enc:=by
 apply List.ext_getElem?;intro j;by_cases hj:j<l.length*k
 ·have hlen:j<(l.flatMap enc).length:=by rw[eP enc k hk l];exact hj
  have e:=Cb enc k hk h0 l j hj;rw[List.getElem?_take_of_lt hj,Array.getElem?_toList,List.getElem?_eq_getElem hlen];have e2:(l.flatMap enc)[j]! = (l.flatMap enc)[j]:=getElem!_pos _ j hlen;rw[<-e2,<-e];simp[putCells,hj,show j<cur.size by omega]
 ·rw[List.getElem?_take_eq_none (by omega),List.getElem?_eq_none (by rw[eP enc k hk l];omega)]
theorem Pool.sorted{A:Type}[Inhabited A](enc:A->List Value)(k:Nat)(hk:∀x,(enc x).length=k)(h0:0<k){F:List Nat}{w x:World}{S:List (List Rs)}(h:Pool F w S x){i:Nat}{T:TypeId}{g cap:Nat}{l:List A}(hi:S[i]?=some [row T k (af (some ⟨g,0,none⟩) l.length cap) l.length (l.flatMap enc)]){r:List A}(hr:r.length=l.length)(m:Nat)(os:Array Obj) :
  Pool F w (S.set i [row T k (af (some ⟨g,0,none⟩) l.length cap) r.length (r.flatMap enc)]) (sortWorldK enc k x g 0 m r.toArray os):=by
 have ho:=h.rowAt hi;obtain⟨hlen,⟨hv,_⟩|⟨g',cap',cur,hv,hb0,hb,h1,h2,h3,h4⟩⟩:=ho
 ·cases hv
 ·cases hv;refine h.grow hi (v':=af (some ⟨g,0,none⟩) l.length cap) ?_ (yw _) (.inl rfl);have h5:r.length*k<=cur.size:=by rw[h3,hr];exact Nat.mul_le_mul_right _ h1
  refine⟨by rw[eP enc k hk r],.inr ⟨g,cap,_,by rw[hr],hb0,Dw _ hb,by rw[hr];exact h1,h2,by simp[putCells,h3],yX enc k hk h0 cur r h5⟩⟩
theorem Eo{F:List Nat}{w x:World}{S:List (List Rs)}(h:Pool F w S x){i:Nat}{v:Value}{l:List Sn}(hi:S[i]?=some [row 112 2 v l.length (l.flatMap aM)])(hl0:0<l.length)(hl:l.length<=1048576) :
  Calls prog 172 #[v,.func (.func 173) #[] #[]] x fun e w'=>e=.returned (.tuple #[])/\∃r:List Sn,r.Perm l/\r.Pairwise (fun a b=>a.id<=b.id)/\Pool F w (S.set i [row 112 2 v r.length (r.flatMap aM)]) w':=by
 obtain⟨hlen,⟨hv,hn⟩|⟨g,cap,cur,rfl,hb0,hb,h1,h2,h3,h4⟩⟩:=h.rowAt hi
 ·omega
 ·have hg:g<x.heap.size:=(Array.getElem?_eq_some_iff.1 hb).1;have hc:=Gv g 0 cap l.toArray x (BX aM 2 (fun _=>rfl) (by decide) hb h4) hg (by simp;omega);rw[show l.toArray.size=l.length by simp] at hc;refine hc.mono ?_;rintro e w'⟨rfl,d',n,os,hp,hs,rfl⟩;obtain⟨hp1,_,hp3⟩:=hp;have hp1:d'.size=l.length:=by simpa using hp1
  have hpm:d'.toList.Perm l:=by
   rw[Array.extract_eq_self_of_le (by simp[hp1]),Array.extract_eq_self_of_le (by simp)] at hp3;simpa using hp3
  refine⟨rfl,d'.toList,hpm,?_,?_⟩
  ·rw[List.pairwise_iff_getElem];intro a b ha hb' hab;have ha':a<d'.size:=by simpa using ha
   have hb'':b<d'.size:=by simpa using hb'
   have z:=hs a b (Nat.zero_le _) hab (by omega);rw[O6,getElem!_pos d' a ha',getElem!_pos d' b hb''] at z;have z:=of_decide_eq_false z;simp only[Array.getElem_toList];omega
  ·have z:=h.sorted aM 2 (fun _=>rfl) (by decide) hi (r:=d'.toList) (by simpa using hp1) n os;simpa using z
theorem CB{F:List Nat}{w x:World}{S:List (List Rs)}(h:Pool F w S x){i:Nat}{v:Value}{l:List bP}(hi:S[i]?=some [row 109 4 v l.length (l.flatMap aG)])(hl0:0<l.length)(hl:l.length<=1048576) :
  Calls prog 207 #[v,.func (.func 208) #[] #[]] x fun e w'=>e=.returned (.tuple #[])/\∃r:List bP,r.Perm l/\r.Pairwise (fun a b=>a.id<=b.id)/\Pool F w (S.set i [row 109 4 v r.length (r.flatMap aG)]) w':=by
 obtain⟨hlen,⟨hv,hn⟩|⟨g,cap,cur,rfl,hb0,hb,h1,h2,h3,h4⟩⟩:=h.rowAt hi
 ·omega
 ·have hg:g<x.heap.size:=(Array.getElem?_eq_some_iff.1 hb).1;have hc:=Gx g 0 cap l.toArray x (BX aG 4 (fun _=>rfl) (by decide) hb h4) hg (by simp;omega);rw[show l.toArray.size=l.length by simp] at hc;refine hc.mono ?_;rintro e w'⟨rfl,d',n,os,hp,hs,rfl⟩;obtain⟨hp1,_,hp3⟩:=hp;have hp1:d'.size=l.length:=by simpa using hp1
  have hpm:d'.toList.Perm l:=by
   rw[Array.extract_eq_self_of_le (by simp[hp1]),Array.extract_eq_self_of_le (by simp)] at hp3;simpa using hp3
  refine⟨rfl,d'.toList,hpm,?_,?_⟩
  ·rw[List.pairwise_iff_getElem];intro a b ha hb' hab;have ha':a<d'.size:=by simpa using ha
   have hb'':b<d'.size:=by simpa using hb'
   have z:=hs a b (Nat.zero_le _) hab (by omega);rw[O7,getElem!_pos d' a ha',getElem!_pos d' b hb''] at z;have z:=of_decide_eq_false z;simp only[Array.getElem_toList];omega
  ·have z:=h.sorted aG 4 (fun _=>rfl) (by decide) hi (r:=d'.toList) (by simpa using hp1) n os;simpa using z
theorem EG(q m:Nat)(ps:List Nat)(hv sv:Value)(A:List bF)(H:List bP)(S:List Sn)(id code:Int)(w:World)(n3:S.length<=40)(hps:ps.length=A.length)(hup:(S.map Sn.id).Pairwise (· < ·))(hno:∀y∈S,y.id≠id)(h:Star (fU q m ps hv sv A H S).flatten w) :
  Calls prog 135 #[ai (some ⟨q,0,none⟩),ae au id,ae au code] w fun e w'=>e=.returned (.tuple #[])/\∃sv',Pool (ic (fU q m ps hv sv A H S).flatten) w [(fU q m ps hv sv' A H (kG S id code)).flatten] w':=by
 obtain⟨FF,hFF⟩:∃FF,FF=ic (fU q m ps hv sv A H S).flatten:=⟨_,rfl⟩;have HP:Hid (Pool FF w [[blk q [.map (some m),hv,sv]],[fE m (A.map bF.name) ps],dV ps A,[row 109 4 hv H.length (H.flatMap aG)],[row 112 2 sv S.length (S.flatMap aM)],[]] w):=hide (by
  rw[hFF];exact(Pool.of h).cast (by simp[fU]))
 rw[<-hFF];clear h hFF;obtain⟨i0,hi0,hz0,hz1,hz2⟩:=info_parts um;obtain⟨a2,c2,rfl⟩:=bv (HP.rowAt (i:=4) rfl);have d2:=(HP.aB (i:=0) rfl).c 2 _ rfl;have hlt:=(HP.aB (i:=0) rfl).lt;have HU:=hide hup;have HN:=hide hno;clear hup hno;go_enter func135,ntmps135;go_wp2_with (first|(at_builtin;refine bI.mk ?_)|fail);refine bI.mk' ?_;refine jH (fun Y hY=>?_);have HY:Hid (Pool FF w [[blk q [.map (some m),hv,af a2 S.length c2]],[fE m (A.map bF.name) ps],dV ps A,[row 109 4 hv H.length (H.flatMap aG)],[row 112 2 (af a2 S.length c2) S.length (S.flatMap aM)],[blk w.heap.size (aM ⟨id,code⟩)]] Y):=hide (by rw[hY];exact HP.aY (i:=5) rfl (aM ⟨id,code⟩) 112);clear hY HP d2 hlt;refine cB HY.out (i0:=4) rfl rfl _ _ 29 rfl i0 _ 16 underlying29 hi0 hz0 hz1 hz2 rfl (by decide) rfl (some ⟨w.heap.size,0,none⟩) 1 1 (aM ⟨id,code⟩) rfl rfl (fun e=>by cases e) (gJ (HY.aB (i:=5) rfl)) (fun u hu=>by simp[aM] at hu;rcases hu with rfl|rfl<;>rfl) (by unfold maxLen;omega) (by omega) ?_;obtain⟨N,hN⟩:∃N,N=S++[(⟨id,code⟩:Sn)]:=⟨_,rfl⟩;intro v2 y2 hp2;have HP2:Hid (Pool FF w [[blk q [.map (some m),hv,af a2 S.length c2]],[fE m (A.map bF.name) ps],dV ps A,[row 109 4 hv H.length (H.flatMap aG)],[row 112 2 v2 N.length (N.flatMap aM)],[]] y2):=hide (by
  have z:=hp2.drop (i:=5) rfl;have e1:(S++[(⟨id,code⟩:Sn)]).length=S.length+1:=by simp
  have e2:(S++[(⟨id,code⟩:Sn)]).flatMap aM=S.flatMap aM++aM ⟨id,code⟩:=by simp
  rw[hN,e1,e2];exact z)
 have HNN:=hide hN;have hn0:0<N.length:=by rw[hN];simp
 have hn1:N.length<=1048576:=by rw[hN];simp;omega
 clear hN;clear hp2 HY;obtain⟨a3,c3,rfl⟩:=bv (HP2.rowAt (i:=4) rfl);have t2:=(HP2.aB (i:=0) rfl).c 2 _ rfl;have f2:=(HP2.aB (i:=0) rfl).f 2;have l2:=(HP2.aB (i:=0) rfl).lt;have HP3:=hide (HP2.aQ (i:=0) rfl 2 (af a3 N.length c3) (by simp));clear HP2;go_wp2_with fail;refine(Eo HP3.out (i:=4) rfl hn0 hn1).mono ?_;rintro e w3⟨rfl,r,hr,hs,hp4⟩;have HP4:=hide hp4;have HR:Hid (r=kG S id code):=hide (OQ HU.out HN.out (HNN.out▸hr) hs);clear hr hs hp4;go_wp2_with fail;go_end0;refine⟨rfl,af a3 N.length c3,?_⟩;have z:=HP4.out;rw[HR.out] at z;exact z.cast (by simp[fU])
theorem Ae{A B:Type}(f:A->List B)(n:Nat)(hf:∀x,(f x).length=n)(l:List A)(k:Nat):(l.flatMap f).take (k*n)=(l.take k).flatMap f:=by
 induction l generalizing k with
 | nil=>simp
 | cons x t ih =>
  cases k with
  | zero=>simp
  | succ k =>
   rw[List.flatMap_cons,List.take_succ_cons,List.flatMap_cons,List.take_append,hf x,List.take_of_length_le (by rw[hf x,Nat.succ_mul];omega),show (k+1)*n-n=k*n by rw[Nat.succ_mul];omega,ih k]
theorem Af{A B:Type}(f:A->List B)(n:Nat)(hf:∀x,(f x).length=n)(l:List A)(k:Nat):(l.flatMap f).drop (k*n)=(l.drop k).flatMap f:=by
 induction l generalizing k with
 | nil=>simp
 | cons x t ih =>
  cases k with
  | zero=>simp
  | succ k =>
   rw[List.flatMap_cons,List.drop_succ_cons,List.drop_append,hf x,List.drop_eq_nil_of_le (by rw[hf x,Nat.succ_mul];omega),show (k+1)*n-n=k*n by rw[Nat.succ_mul];omega,ih k];rfl
theorem vG{w:World}{g o:Nat}{cur:Array Value}{t:TypeId}{fr:Nat×Nat}(hg:w.heap[g]?=some (.cells cur t fr))(v:Value):(w.setCell ⟨g,o,none⟩ v).heap[g]?=some (.cells (cur.setIfInBounds o v) t fr):=by
 simp[World.setCell,Array.getElem?_modify,hg]
theorem nG{g:Nat}{t:TypeId}{fr:Nat×Nat}:∀(vs:List Value)(o:Nat)(w:World)(cur:Array Value),w.heap[g]?=some (.cells cur t fr)->o+vs.length<=cur.size->(w.setCells g o vs).heap[g]?=some (.cells (cur.toList.take o++vs++cur.toList.drop (o+vs.length)).toArray t fr)
 | [],o,w,cur,hg,ho=>by
  rw[World.setCells,hg];simp
 | v::r,o,w,cur,hg,ho=>by
  rw[World.setCells,nG r (o+1) _ _ (vG hg v) (by simp at ho⊢;omega)];have:=list_seg_step cur.toList o v r (by simpa using ho);simp only[Array.toList_setIfInBounds];rw[this];simp
theorem DC(w:World)(g:Nat)(cs:Array Value):w.grownBy (w.setRow g cs) (some g) :=
 ⟨rfl,rfl,rfl,by simp,fun k hk hne=>setRow_other w g k cs (fun e=>hne (by rw[e]))⟩
theorem rM{a b c:World}{o:Option Nat}(h:a.grownBy b o)(k:b.grownBy c o):a.grownBy c o :=
 ⟨k.os.trans h.os,k.tape.trans h.tape,k.output.trans h.output,Nat.le_trans h.size k.size,fun i hi hn=>(k.block i (Nat.lt_of_lt_of_le hi h.size) hn).trans (h.block i hi hn)⟩
theorem rO(g:Nat):∀(vs:List Value)(o:Nat)(w:World),w.grownBy (w.setCells g o vs) (some g)
 | [],_,_=>⟨rfl,rfl,rfl,Nat.le_refl _,fun _ _ _=>rfl⟩
 | v::r,o,w=>rM (wO w g o v) (rO g r (o+1) _)
theorem A8{P:Program}(w:World)(t e ty:TypeId)(z:Value)(ht:P.underlying t=some (.slice e))(hv:∀w,(zeroValue e).run P w=.ok z w)(zs:List Value)(hz:(Builtin.zeroCells z.cells 1).toList=zs)(h1:∀v∈zs,v.oneCell'=true)(g o c:Nat)(cur:Array Value)(te:TypeId)(hg:w.heap[g]?=some (.cells cur te (0,0)))(hfit:o+zs.length<=cur.size) :
  (Builtin.clear_ #[t] ty #[af (some ⟨g,o,none⟩) 1 c]).run P w=.ok (.tuple #[]) (w.setRow g (cur.toList.take o++zs++cur.toList.drop (o+zs.length)).toArray):=by
 have hst:=run_storeCells_at P g o te zs 0 cur w hg (by simpa using hfit) h1;simp only[Nat.add_zero] at hst;simp[Builtin.clear_,run_underlying ht,hv,hz,hst]
def jT{A:Type}(l:List A)(k:Nat):List A:=l.take k++l.drop (k+1)
theorem vL{A:Type}(l:List A)(k:Nat)(hk:k<l.length):(jT l k).length=l.length-1:=by simp[jT];omega
def OC(g c:Nat)(l:List bP)(k:Nat)(w:World)(e:Ending)(w':World):Prop:=e=.returned (af (some ⟨g,0,none⟩) (l.length-1) c)/\w'.ownsRow 0 109 4 (af (some ⟨g,0,none⟩) (l.length-1) c) (l.length-1) ((jT l k).flatMap aG)/\w.grownBy w' (some g)
theorem Ig(g c:Nat)(l:List bP)(k:Nat)(w:World)(hl:l.length<=1048576)(hk:k<l.length)(h:w.ownsRow 0 109 4 (af (some ⟨g,0,none⟩) l.length c) l.length (l.flatMap aG)) :
  Calls prog 209 #[af (some ⟨g,0,none⟩) l.length c,ae au (k:Int),ae au ((k:Int)+1)] w fun e w'=>OC g c l k w e w':=by
 obtain⟨i0,hi0,hz0,hz1,hz2⟩:=info_parts kM;have hu:prog.underlying 28=some (.slice 109):=by kernel_rfl
 obtain⟨hXl,⟨h1,_⟩|⟨g',c',cur,e0,_,hg,hnc,hcm,hcs,htk⟩⟩:=id h
 ·cases h1
 simp only[Value.slice.injEq,Option.some.injEq,Addr.mk.injEq,and_true,true_and] at e0;obtain⟨rfl,rfl⟩:=e0;obtain⟨XS,hXS⟩:∃XS,XS=l.flatMap aG:=⟨_,rfl⟩;rw[<-hXS] at hXl htk;obtain⟨news,hnews⟩:∃news,news=XS.drop ((k+1)*4):=⟨_,rfl⟩;have hlen:news.length=(l.length-(k+1))*4:=by rw[hnews,List.length_drop,hXl];omega
 have hone:∀u∈news,u.oneCell'=true:=fun u hu=>kP l u (by rw[<-hXS];exact List.mem_of_mem_drop (hnews▸hu))
 have hcell:∀j v,XS[j]?=some v->w.drew.cell? ⟨g,j,none⟩=some v:=fun j v hj=>by
  rw[hXS] at hj;have:=h.cells (g:=g) rfl j v hj;rwa [addr_add,Nat.zero_add] at this
 have hspare:∀t,t<news.length->(w.drew.cell? ⟨g,0+k*4+t,none⟩).isSome=true/\w.drew.frozen? ⟨g,0+k*4+t,none⟩=false:=fun t ht=>by
  rw[hlen] at ht;constructor
  ·have hj:k*4+t<XS.length:=by omega
   rw[Nat.zero_add,hcell _ _ (List.getElem?_eq_getElem hj)];rfl
  ·exact iw (w:=w.drew) hg _
 obtain⟨W1,hW1⟩:∃W1,W1=w.drew.setCells g (0+k*4) news:=⟨_,rfl⟩;obtain⟨R1,hR1⟩:∃R1:List Value,R1=cur.toList.take (k*4)++news++cur.toList.drop (k*4+news.length):=⟨_,rfl⟩;have k1:W1.heap[g]?=some (.cells R1.toArray 109 (0,0)):=by
  rw[hW1,hR1,Nat.zero_add];exact nG news (k*4) w.drew cur hg (by rw[hlen,hcs];omega)
 have hR1s:R1.length=c*4:=by
  rw[hR1];simp[hcs,hlen];omega
 have hR1t:R1.take ((l.length-1)*4)=(jT l k).flatMap aG:=by
  have e1:cur.toList.take (k*4)=(l.take k).flatMap aG:=by
   rw[<-Ae aG 4 gH l k,<-hXS,<-htk,List.take_take,Nat.min_eq_left (by omega)]
  have e2:news=(l.drop (k+1)).flatMap aG:=by rw[hnews,hXS,Af aG 4 gH]
  have e3:(cur.toList.take (k*4)++news).length=(l.length-1)*4:=by simp[hcs,hlen];omega
  rw[hR1,List.take_append,List.take_of_length_le (by rw[e3];exact Nat.le_refl _),e3,Nat.sub_self,List.take_zero,List.append_nil,e1,e2,jT,List.flatMap_append]
 have hcl:∀ty,(Builtin.clear_ #[28] ty #[af (some ⟨g,(l.length-1)*4,none⟩) 1 (c-(l.length-1))]).run prog W1=.ok (.tuple #[]) (W1.setRow g (R1.take ((l.length-1)*4)++[ae au 0,ag ByteArray.empty,ag ByteArray.empty,ae au 0]++R1.drop ((l.length-1)*4+4)).toArray):=fun ty =>
  A8 W1 _ _ ty (aj #[ae au 0,ag ByteArray.empty,ag ByteArray.empty,ae au 0]) hu zeroValue109 [ae au 0,ag ByteArray.empty,ag ByteArray.empty,ae au 0] (by kernel_rfl) (by intro v hv;simp at hv;rcases hv with rfl|rfl|rfl|rfl<;>rfl) g ((l.length-1)*4) _ R1.toArray 109 k1 (by simp[hR1s];omega)
 obtain⟨R2,hR2⟩:∃R2:List Value,R2=R1.take ((l.length-1)*4)++[ae au 0,ag ByteArray.empty,ag ByteArray.empty,ae au 0]++R1.drop ((l.length-1)*4+4):=⟨_,rfl⟩;rw[<-hR2] at hcl;have HE:Hid (OC g c l k w (.returned (af (some ⟨g,0,none⟩) (l.length-1) c)) (W1.setRow g R2.toArray)):=hide (by
  refine⟨rfl,⟨by rw[eP aG 4 gH,vL l k hk],.inr ⟨g,c,R2.toArray,rfl,Nat.zero_le _,setRow_heap W1 g _ _ _ _ k1,by omega,hcm,?_,?_⟩⟩,?_⟩
  ·rw[hR2];simp[hR1s];omega
  ·have e4:(R1.take ((l.length-1)*4)).length=(l.length-1)*4:=by rw[List.length_take,hR1s];omega
   rw[<-hR1t,hR2,show (R1.take ((l.length-1)*4)++[ae au 0,ag ByteArray.empty,ag ByteArray.empty,ae au 0]++R1.drop ((l.length-1)*4+4)).toArray.toList=R1.take ((l.length-1)*4)++([ae au 0,ag ByteArray.empty,ag ByteArray.empty,ae au 0]++R1.drop ((l.length-1)*4+4)) by simp,List.take_append,e4,Nat.sub_self,List.take_zero,List.append_nil,List.take_of_length_le (by rw[e4];exact Nat.le_refl _)]
  ·exact rM (b:=W1) (by rw[hW1];exact rM (b:=w.drew) ⟨rfl,rfl,rfl,Nat.le_refl _,fun _ _ _=>rfl⟩ (rO _ _ _ _)) (DC _ _ _))
 have hM:l.length-1=k+(l.length-(k+1)):=by omega
 have hM1:1=l.length-(k+(l.length-(k+1))):=by omega
 rw[hM] at HE;have hcl2:∀ty,(Builtin.clear_ #[28] ty #[af (some ⟨g,(k+(l.length-(k+1)))*4,none⟩) (l.length-(k+(l.length-(k+1)))) (c-(k+(l.length-(k+1))))]).run prog W1=.ok (.tuple #[]) (W1.setRow g R2.toArray):=fun ty=>by
  have:=hcl ty;rw[hM] at this;rw[<-hM1];exact this
 clear hcl hM hM1;obtain⟨A,hA,hsrc⟩:∃A:Addr,A=(if c=k+1 then (⟨g,0,none⟩:Addr) else ⟨g,(k+1)*4,none⟩)/\Hid (∀t u,news[t]?=some u->w.drew.cell? (A.add t)=some u):=by
  by_cases hc:c=k+1
  ·refine⟨⟨g,0,none⟩,by simp[hc],fun t u hu=>?_⟩;have h0:news.length=0:=by rw[hlen];omega
   rw[List.length_eq_zero_iff.1 h0] at hu;simp at hu
  ·refine⟨⟨g,(k+1)*4,none⟩,by simp[hc],fun t u hu=>?_⟩;rw[addr_add];exact hcell _ _ (by rw[<-List.getElem?_drop,<-hnews];exact hu)
 have HS1:=hide hlen;have HS2:=hide hone;have HS3:=hide hspare;have HW:=hide hW1;clear h hg hnews hXS htk hcell hspare hone hlen hR1t hR1s hR1 hR2 k1 hW1 hXl hcs;have b1:¬ ((k:Int)=(k:Int)+1):=by omega
 have b2:(k:Int)+1<=(l.length:Int):=by omega
 have b3:(k:Int)<=(k:Int)+1:=by omega
 have b4:(l.length:Int)<=(c:Int):=by omega
 have b5:¬ (c=k):=by omega
 have b6:(0:Int)<=(k:Int)+1:=by omega
 have b7:(k:Int)<=(c:Int):=by omega
 have b8:(k:Int)+1<=(c:Int):=by omega
 have w1_:IntKind.i64.wrap ((k:Int)+1)=(k:Int)+1:=iP (by omega);by_cases hc:c=k+1
 ·rw[if_pos hc] at hA;subst hc;have hcl3:∀ty,(Builtin.clear_ #[28] ty #[af (some ⟨g,k*4,none⟩) (l.length-k) 1]).run prog W1=.ok (.tuple #[]) (W1.setRow g R2.toArray):=fun ty=>by
   have:=hcl2 ty;rw[show k+(l.length-(k+1))=k by omega,show k+1-k=1 by omega] at this;exact this
  clear hcl2;rw[show k+(l.length-(k+1))=k by omega] at HE;have HS0:Hid (news.length=0*4):=hide (by have:=HS1.out;omega);go_enter func209,ntmps209;go_wp2_with fail;subst hA;go_region_law (refine step_append_room rfl (.tmp 22) (.tmp 25) 28 rfl 109 i0 4 hu hi0 hz1 g 0 k (k+1) (by simp[Act.eval,Act.put]) ⟨g,0,none⟩ 0 0 news (by simp[Act.eval,Act.put]) HS0.out hsrc.out HS2.out (by omega) HS3.out ?_;rw[<-HW.out]);go_wp2_with fail;go_ret;exact HE.out
 ·rw[if_neg hc] at hA;go_enter func209,ntmps209;go_wp2_with fail;subst hA;go_region_law (refine step_append_room rfl (.tmp 22) (.tmp 25) 28 rfl 109 i0 4 hu hi0 hz1 g 0 k c (by simp[Act.eval,Act.put]) ⟨g,(k+1)*4,none⟩ (l.length-(k+1)) (c-(k+1)) news (by simp[Act.eval,Act.put]) HS1.out hsrc.out HS2.out (by omega) HS3.out ?_;rw[<-HW.out]);go_wp2_with fail;go_ret;exact HE.out
theorem tK{P:Program}(w:World)(dT sT ty elem:TypeId)(g o dLen dCap:Nat)(a:Addr)(sLen sCap size:Nat)(cur:Array Value)(t:TypeId)(cs:List Value)
  (hu:P.underlying dT=some (.slice elem)) (hs:(P.info? elem).map (·.size)=some size)
  (hg:w.heap[g]?=some (.cells cur t (0,0))) (hn:cs.length=Nat.min sLen dLen*size)
  (hsrc:∀j v,cs[j]?=some v->w.cell? (a.add j)=some v) (hfit:o+cs.length<=cur.size) (h1:∀v∈cs,v.oneCell'=true) :
  (Builtin.copy_ #[dT,sT] ty #[af (some ⟨g,o,none⟩) dLen dCap,af (some a) sLen sCap]).run P w =
   .ok (goInt (Nat.min sLen dLen)) (w.setRow g (cur.toList.take o++cs++cur.toList.drop (o+cs.length)).toArray):=by
 have hl:=run_loadCells_list (P:=P) w a cs hsrc;have hst:=run_storeCells_at P g o t cs 0 cur w hg (by simpa using hfit) h1
 cases hq:P.info? elem with
 | none=>simp[hq] at hs
 | some i =>
  have hi:i.size=size:=by simpa[hq] using hs
  simp[Builtin.copy_,run_underlying hu,Builtin.lenOf,Builtin.firstCells,sizeOf,typeInfo,hq,hi,<-hn,hl,hst]
theorem KV{P:Program}{w w':World}{o:Oper}{ev:Operand->Value}{d s:Operand}{t t':TypeId}{v u v':Value}(hop:o.op=Op.call {callee:=Callee.builtin Builtin.copy,args:=#[d,s],argTypes:=#[t,t']})(hd:ev d=v)(hs:ev s=u)(hr:(Builtin.copy_ #[t,t'] o.type #[v,u]).run P w=.ok v' w'):(execOp ev o).run P w=.ok (.value v') w':=by
 unfold execOp;simp only[hop,resolve,invoke,builtin,Sem.run_bind,Sem.run_pure,Result.andThen_ok,List.map_toArray,List.map_cons,List.map_nil,hd,hs,hr]
def rJ(l:List bP)(k:Nat)(x:bP):List bP:=l.take k++x::l.drop k
theorem KH(l:List bP)(k:Nat)(x:bP)(hk:k<=l.length):(rJ l k x).length=l.length+1:=by simp[rJ];omega
def xk(v:Value)(l:List bP)(k:Nat)(x:bP)(w:World)(e:Ending)(w':World):Prop:=∃v',e=.returned v'/\w'.ownsRow 0 109 4 v' (l.length+1) ((rJ l k x).flatMap aG)/\w.grownBy w' v.ownBlock/\(v'.ownBlock=v.ownBlock\/v'.ownBlock=some w.heap.size)
theorem E8(v:Value)(l:List bP)(x:bP)(vb:Nat)(w:World)(hl:l.length<=1048576)(h:w.ownsRow 0 109 4 v l.length (l.flatMap aG))(hv:w.heap[vb]?=some (.cells #[ae au x.id,ag x.fr,ag x.to,ae au x.aV] 109 (0,0))) :
  Calls prog 210 #[v,ae au (l.length:Int),af (some ⟨vb,0,none⟩) 1 1] w fun e w'=>xk v l l.length x w e w':=by
 obtain⟨i0,hi0,hz0,hz1,hz2⟩:=info_parts kM;have hu:prog.underlying 28=some (.slice 109):=by kernel_rfl
 obtain⟨sa,sc,rfl⟩:=bv h;have HO:=hide h;have hn:∀ad,(some ⟨vb,0,none⟩:Option Addr)=some ad->∀j u,(aG x)[j]?=some u->w.cell? (ad.add j)=some u:=fun ad had j u hj=>by
  simp only[Option.some.injEq] at had;subst had;rw[addr_add,Nat.zero_add];simp only[World.cell?,hv];simpa[aG] using hj
 have HN:=hide hn;clear h hv hn;by_cases hc:sc=l.length
 ·subst hc;go_enter func210,ntmps210;go_wp2_with (first|(at_builtin;refine bI.mk ?_)|fail);refine bI.mk' ?_;refine bU rfl _ _ 28 rfl 0 109 i0 _ 4 48 hu hi0 hz0 hz1 hz2 rfl (by decide) _ l.length _ rfl HO.out (some ⟨vb,0,none⟩) 1 1 (aG x) rfl rfl (fun e=>by cases e) HN.out (fun u hu=>kP [x] u (by simpa using hu)) (by unfold maxLen;omega) (by omega) (Nat.zero_le _) ?_;intro v' w' ho' hg' hl';obtain⟨sa',sc',rfl⟩:=bv ho';have HE:Hid (xk (af sa l.length l.length) l l.length x w (.returned (af sa' (l.length+1) sc')) w'):=hide ⟨_,rfl,by
   have e:rJ l l.length x=l++[x]:=by simp[rJ]
   rw[e,List.flatMap_append];simpa using ho',hg',hl'⟩
  clear ho' hg' hl';go_wp2;go_ret;exact HE.out
 ·have hc2:¬ (l.length=sc):=fun e=>hc e.symm
  go_enter func210,ntmps210;go_wp2_with (first|(at_builtin;refine bI.mk ?_)|fail);refine bI.mk' ?_;refine bU rfl _ _ 28 rfl 0 109 i0 _ 4 48 hu hi0 hz0 hz1 hz2 rfl (by decide) _ l.length _ rfl HO.out (some ⟨vb,0,none⟩) 1 1 (aG x) rfl rfl (fun e=>by cases e) HN.out (fun u hu=>kP [x] u (by simpa using hu)) (by unfold maxLen;omega) (by omega) (Nat.zero_le _) ?_;intro v' w' ho' hg' hl';obtain⟨sa',sc',rfl⟩:=bv ho';have HE:Hid (xk (af sa l.length sc) l l.length x w (.returned (af sa' (l.length+1) sc')) w'):=hide ⟨_,rfl,by
   have e:rJ l l.length x=l++[x]:=by simp[rJ]
   rw[e,List.flatMap_append];simpa using ho',hg',hl'⟩
  clear ho' hg' hl';go_wp2;go_ret;exact HE.out
structure TP(g k n c:Nat)(w W1:World)(l0 l1 l2 l3 l4 l5 l6 l7 l8:Bool)(u69 u70 u71 u72 u73 u74 u75 u76 u77:Value)(x:World):Prop where
 wb:l8=false->x=w.drew
 wa:l8=true->x=W1
 p69:l0=true->u69=af (some ⟨g,0,none⟩) (n+1) c
 p70:l1=true->u70=ae au (k:Int)
 p71:l2=true->u71=ae au 1
 p72:l3=true->u72=ae au ((k:Int)+1)
 p73:l4=true->u73=af (some ⟨g,(k+1)*4,none⟩) (n+1-(k+1)) (c-(k+1))
 p74:l5=true->u74=af (some ⟨g,0,none⟩) (n+1) c
 p75:l6=true->u75=ae au (k:Int)
 p76:l7=true->u76=af (some ⟨g,k*4,none⟩) (n+1-k) (c-k)
theorem Dn(g c:Nat)(l:List bP)(k:Nat)(x:bP)(vb:Nat)(w:World)(hl:l.length<=1048576)(hk:k<l.length)(hc:l.length+1<=c)(hne:vb≠g)(h:w.ownsRow 0 109 4 (af (some ⟨g,0,none⟩) l.length c) l.length (l.flatMap aG))(hv:w.heap[vb]?=some (.cells #[ae au x.id,ag x.fr,ag x.to,ae au x.aV] 109 (0,0))) :
  Calls prog 210 #[af (some ⟨g,0,none⟩) l.length c,ae au (k:Int),af (some ⟨vb,0,none⟩) 1 1] w fun e w'=>xk (af (some ⟨g,0,none⟩) l.length c) l k x w e w':=by
 obtain⟨i0,hi0,hz0,hz1,hz2⟩:=info_parts kM;have hu:prog.underlying 28=some (.slice 109):=by kernel_rfl
 obtain⟨_,⟨h0,_⟩|⟨g',c',cur,h1,_,hg,hnc,hcm,hcs,htk⟩⟩:=h
 ·cases h0
 simp only[Value.slice.injEq,Option.some.injEq,Addr.mk.injEq,and_true,true_and] at h1;obtain⟨rfl,rfl⟩:=h1;obtain⟨XS,hXS⟩:∃XS,XS=l.flatMap aG:=⟨_,rfl⟩;rw[<-hXS] at htk;have hXl:XS.length=l.length*4:=by rw[hXS];exact eP aG 4 gH l
 have hcm2:=hcm;unfold maxLen at hcm2;have hss:(prog.info? 109).map (·.size)=some 4:=by rw[hi0];simp[hz1]
 have hov:∀lb cb,(callFunc 238 #[af (some ⟨vb,0,none⟩) 1 1,af (some ⟨g,(k+1)*4,none⟩) lb cb]).run prog w=.ok (.value (.bool false)) w:=fun lb cb=>by
  rw[run_callFunc_extern func238 (by kernel_rfl) (by kernel_rfl) (by kernel_rfl) (e:=Extern.SlicesOverlaps.overlaps #[28,28] #[4]) (by kernel_rfl),
   Lib.run_overlaps_apart w 28 4 109 hu 4 (fun w=>by simp[sizeOf,typeInfo,hi0,hz1]) ⟨vb,0,none⟩ ⟨g,(k+1)*4,none⟩ 1 1 lb cb hne 109 109 4 (c*4) (by simp[World.shape?,hv]) (by simp[World.shape?,hg,hcs]) (by omega) (by simp[World.frozen?,hv]) (by simp[World.frozen?,hv])]
  rfl
 have hgl:g<w.heap.size:=(Array.getElem?_eq_some_iff.1 hg).1;have hsrc:∀j u,(XS.drop (k*4))[j]?=some u->w.drew.cell? ((⟨g,k*4,none⟩:Addr).add j)=some u:=fun j u hj=>by
  rw[addr_add];rw[List.getElem?_drop,<-htk,List.getElem?_take] at hj;split at hj
  ·show w.cell? _=_;simp only[World.cell?,hg];simpa using hj
  ·cases hj
 have e1:=tK (P:=prog) w.drew 28 28 3 109 g ((k+1)*4) (l.length+1-(k+1)) (c-(k+1)) ⟨g,k*4,none⟩ (l.length+1-k) (c-k) 4 cur 109 (XS.drop (k*4)) hu hss hg (by rw[List.length_drop,hXl,show Nat.min (l.length+1-k) (l.length+1-(k+1))=l.length-k by simp only[Nat.min_def];split<;>omega];omega) hsrc (by simp[hcs,hXl];omega) (fun u hu=>kP l u (by rw[<-hXS];exact List.mem_of_mem_drop hu));rw[show Nat.min (l.length+1-k) (l.length+1-(k+1))=l.length-k by simp only[Nat.min_def];split<;>omega] at e1;obtain⟨R1,hR1⟩:∃R1:List Value,R1=cur.toList.take ((k+1)*4)++XS.drop (k*4)++cur.toList.drop ((k+1)*4+(XS.drop (k*4)).length):=⟨_,rfl⟩;rw[<-hR1] at e1;have hR1s:R1.length=c*4:=by
  rw[hR1];simp[hcs,hXl];omega
 have hR1t:R1.take (k*4)=XS.take (k*4):=by
  rw[hR1,List.append_assoc,List.take_append_of_le_length (by simp[hcs];omega),List.take_take,<-htk,List.take_take];congr 1;simp only[Nat.min_def];split<;>split<;>omega
 have hR1d:(R1.drop (k*4+4)).take ((l.length-k)*4)=XS.drop (k*4):=by
  rw[hR1,List.append_assoc,List.drop_append,List.drop_of_length_le (by simp[hcs];omega),List.nil_append];rw[show k*4+4-(cur.toList.take ((k+1)*4)).length=0 by simp[hcs];omega,List.drop_zero,List.take_append_of_le_length (by simp[hXl];omega),List.take_of_length_le (by simp[hXl];omega)]
 obtain⟨W1,hW1⟩:∃W1,W1=w.drew.setRow g R1.toArray:=⟨_,rfl⟩;rw[<-hW1] at e1;have k1:W1.heap[g]?=some (.cells R1.toArray 109 (0,0)):=by rw[hW1];exact setRow_heap w.drew g _ _ _ _ hg
 have k2:∀j,j≠g->W1.heap[j]?=w.heap[j]?:=fun j hj=>by rw[hW1];exact setRow_other w.drew g j _ hj
 have e2:=tK (P:=prog) W1 28 28 3 109 g (k*4) (l.length+1-k) (c-k) ⟨vb,0,none⟩ 1 1 4 R1.toArray 109 (aG x) hu hss k1 (by rw[show Nat.min 1 (l.length+1-k)=1 by simp only[Nat.min_def];split<;>omega];rfl) (fun j u hj=>by
  rw[addr_add,Nat.zero_add];simp only[World.cell?,k2 vb hne,hv];simpa[aG] using hj) (by simp[hR1s,aG];omega) (fun u hu=>kP [x] u (by simpa using hu))
 rw[show Nat.min 1 (l.length+1-k)=1 by simp only[Nat.min_def];split<;>omega] at e2;obtain⟨R2,hR2⟩:∃R2:List Value,R2=R1.toArray.toList.take (k*4)++aG x++R1.toArray.toList.drop (k*4+(aG x).length):=⟨_,rfl⟩;rw[<-hR2] at e2;have hR2s:R2.length=c*4:=by
  rw[hR2];simp[hR1s,aG];omega
 have hR2t:R2.take ((l.length+1)*4)=(rJ l k x).flatMap aG:=by
  have f1:(l.flatMap aG).take (k*4)=(l.take k).flatMap aG:=Ae aG 4 gH l k;have f2:(l.flatMap aG).drop (k*4)=(l.drop k).flatMap aG:=Af aG 4 gH l k;have hsl:(aG x).length=4:=rfl;have hal:(XS.take (k*4)++aG x).length=k*4+4:=by simp[hXl,aG];omega
  rw[hR2,show R1.toArray.toList=R1 from rfl,hR1t,hsl,List.take_append,List.take_of_length_le (by rw[hal];omega),hal,show (l.length+1)*4-(k*4+4)=(l.length-k)*4 by omega,hR1d,hXS,f1,f2];simp[rJ]
 obtain⟨W2,hW2⟩:∃W2,W2=W1.setRow g R2.toArray:=⟨_,rfl⟩;rw[<-hW2] at e2;have HE:Hid (xk (af (some ⟨g,0,none⟩) l.length c) l k x w (.returned (af (some ⟨g,0,none⟩) (l.length+1) c)) W2):=hide (by
  have m1:W2.heap[g]?=some (.cells R2.toArray 109 (0,0)):=by rw[hW2];exact setRow_heap W1 g _ _ _ _ k1
  refine⟨_,rfl,⟨by rw[eP aG 4 gH,KH l k x (by omega)],.inr ⟨g,c,R2.toArray,rfl,Nat.zero_le _,m1,hc,hcm,by simpa using hR2s,hR2t⟩⟩,?_,.inl rfl⟩;have s3:W2.heap.size=w.heap.size:=by rw[hW2,hW1];simp[World.setRow]
  refine⟨?_,?_,?_,by rw[s3];exact Nat.le_refl _,fun j hj hjg=>?_⟩
  ·rw[hW2,hW1];rfl
  ·rw[hW2,hW1];rfl
  ·rw[hW2,hW1];rfl
  ·have hjn:j≠g:=fun e=>hjg (by rw[e];rfl)
   rw[hW2];exact(setRow_other W1 g j _ hjn).trans (k2 j hjn))
 have HE1:=hide e1;have HV:=hide hv;clear hR2 hR2s hR2t hW2 hR1 hR1s hR1t hR1d hW1 k1 k2 hXl hXS htk hsrc hg hcs hgl e1 hv;have b1:¬ ((k:Int)=(l.length:Int)):=by omega
 have b2:¬ ((c:Int)<(l.length:Int)+1):=by omega
 have b3:¬ (k=l.length):=by omega
 have b4:¬ (c=k):=by omega
 have b5:(k:Int)<=(l.length:Int):=by omega
 have b6:¬ (c=k+1):=by omega
 have b8:(k:Int)<=(l.length:Int)+1:=by omega
 have b9:(k:Int)+1<=(l.length:Int)+1:=by omega
 have b10:¬ ((k:Int)+1<0):=by omega
 have b11:(l.length:Int)+1<=(c:Int):=by omega
 have b12:¬ ((l.length:Int)+1<0):=by omega
 have w1_:IntKind.i64.wrap ((k:Int)+1)=(k:Int)+1:=iP (by omega);have w2_:IntKind.i64.wrap ((l.length:Int)+1)=(l.length:Int)+1:=iP (by omega);go_enter func210,ntmps210;go_wp2_with (simp only[hov]);rename_i K5 hK5;refine dw (by kernel_rfl) (fun L act x=>∃l0 l1 l2 l3 l4 l5 l6 l7 l8:Bool,∃u69 u70 u71 u72 u73 u74 u75 u76 u77:Value,L=#[l0,l1,l2,l3,l4,l5,l6,l7,l8]/\act={tmps:=#[af (some ⟨g,0,none⟩) (l.length+1) c,ae au ↑k,af (some ⟨vb,0,none⟩) 1 1,ak,ak,ak,af none 0 0,ae au 1,ae au ↑l.length,ak,af (some ⟨g,0,none⟩) l.length c,ae au ↑k,af (some ⟨g,k*4,none⟩) (l.length-k) (c-k),af (some ⟨vb,0,none⟩) 1 1,ae au 1,ae au 1,Value.bool false,ak,af (some ⟨g,0,none⟩) l.length c,ae au ↑l.length,ae au ↑k,ae au ↑l.length,Value.bool false,ak,ak,ak,ae au ↑l.length,ae au 1,ae au (↑l.length+1),af (some ⟨g,0,none⟩) l.length c,ae au ↑c,Value.bool false,ak,ak,ak,ak,ak,ak,ak,ak,ak,ak,ak,ak,ak,ak,ak,ak,ak,ak,ak,ak,ak,ak,ak,ak,af (some ⟨g,0,none⟩) l.length c,ae au ↑l.length,ae au 1,ae au (↑l.length+1),af (some ⟨g,0,none⟩) (l.length+1) c,af (some ⟨vb,0,none⟩) 1 1,af (some ⟨g,0,none⟩) (l.length+1) c,ae au ↑k,ae au 1,ae au (↑k+1),af (some ⟨g,(k+1)*4,none⟩) (l.length-k) (c-(k+1)),Value.bool false,Value.bool true,u69,u70,u71,u72,u73,u74,u75,u76,u77,ak,ak,ak,ak,ak,ak,ak,ak,ak,ak,ak,ak,ak,ak,ak,ak,ak],defers:=[]}/\TP g k l.length c w W1 l0 l1 l2 l3 l4 l5 l6 l7 l8 u69 u70 u71 u72 u73 u74 u75 u76 u77 x) ?_ ?_ ?_
 rotate_left 2
 ·exact⟨false,false,false,false,false,false,false,false,false,ak,ak,ak,ak,ak,ak,ak,ak,ak,rfl,rfl,⟨fun _=>rfl,nofun,nofun,nofun,nofun,nofun,nofun,nofun,nofun,nofun⟩⟩
 ·rintro L act x i⟨l0,l1,l2,l3,l4,l5,l6,l7,l8,u69,u70,u71,u72,u73,u74,u75,u76,u77,rfl,rfl,h⟩ hi K hK;have hi15:i<9:=gz hi;have hl:=(mem_ready.1 hi).1;obtain rfl|rfl|rfl|rfl|rfl|rfl|rfl|rfl|rfl:=(by omega:i=0\/i=1\/i=2\/i=3\/i=4\/i=5\/i=6\/i=7\/i=8)
  ·obtain rfl:l0=false:=hl;refine aK (v:=af (some ⟨g,0,none⟩) (l.length+1) c) (w':=x) ?_ (hK _ _ ⟨_,_,_,_,_,_,_,_,_,_,_,_,_,_,_,_,_,_,rfl,rfl,{h with p69:=fun _=>rfl}⟩);go_simp
  ·obtain rfl:l1=false:=hl;refine aK (v:=ae au (k:Int)) (w':=x) ?_ (hK _ _ ⟨_,_,_,_,_,_,_,_,_,_,_,_,_,_,_,_,_,_,rfl,rfl,{h with p70:=fun _=>rfl}⟩);go_simp
  ·obtain rfl:l2=false:=hl;refine aK (v:=ae au 1) (w':=x) ?_ (hK _ _ ⟨_,_,_,_,_,_,_,_,_,_,_,_,_,_,_,_,_,_,rfl,rfl,{h with p71:=fun _=>rfl}⟩);go_simp
  ·obtain rfl:l3=false:=hl;obtain rfl:l1=true:=aC hi 1;obtain rfl:l2=true:=aC hi 2;refine aK (v:=ae au ((k:Int)+1)) (w':=x) ?_ (hK _ _ ⟨_,_,_,_,_,_,_,_,_,_,_,_,_,_,_,_,_,_,rfl,rfl,{h with p72:=fun _=>rfl}⟩);rw[h.p70 rfl,h.p71 rfl];go_simp
  ·obtain rfl:l4=false:=hl;obtain rfl:l0=true:=aC hi 0;obtain rfl:l3=true:=aC hi 3;refine aK (v:=af (some ⟨g,(k+1)*4,none⟩) (l.length+1-(k+1)) (c-(k+1))) (w':=x) ?_ (hK _ _ ⟨_,_,_,_,_,_,_,_,_,_,_,_,_,_,_,_,_,_,rfl,rfl,{h with p73:=fun _=>rfl}⟩);rw[h.p69 rfl,h.p72 rfl];go_simp
  ·obtain rfl:l5=false:=hl;refine aK (v:=af (some ⟨g,0,none⟩) (l.length+1) c) (w':=x) ?_ (hK _ _ ⟨_,_,_,_,_,_,_,_,_,_,_,_,_,_,_,_,_,_,rfl,rfl,{h with p74:=fun _=>rfl}⟩);go_simp
  ·obtain rfl:l6=false:=hl;refine aK (v:=ae au (k:Int)) (w':=x) ?_ (hK _ _ ⟨_,_,_,_,_,_,_,_,_,_,_,_,_,_,_,_,_,_,rfl,rfl,{h with p75:=fun _=>rfl}⟩);go_simp
  ·obtain rfl:l7=false:=hl;obtain rfl:l5=true:=aC hi 5;obtain rfl:l6=true:=aC hi 6;refine aK (v:=af (some ⟨g,k*4,none⟩) (l.length+1-k) (c-k)) (w':=x) ?_ (hK _ _ ⟨_,_,_,_,_,_,_,_,_,_,_,_,_,_,_,_,_,_,rfl,rfl,{h with p76:=fun _=>rfl}⟩);rw[h.p74 rfl,h.p75 rfl];go_simp
  ·obtain rfl:l8=false:=hl;obtain rfl:l4=true:=aC hi 4;obtain rfl:l7=true:=aC hi 7;have hx:=h.wb rfl;subst hx;refine aK (v:=goInt ((l.length-k:Nat):Int)) (w':=W1) ?_ (hK _ _ ⟨_,_,_,_,_,_,_,_,_,_,_,_,_,_,_,_,_,_,rfl,rfl,{h with wb:=nofun,wa:=fun _=>rfl}⟩);exact KV rfl (h.p73 rfl) (h.p76 rfl) HE1.out
 ·rintro L act x⟨l0,l1,l2,l3,l4,l5,l6,l7,l8,u69,u70,u71,u72,u73,u74,u75,u76,u77,rfl,rfl,h⟩ hr;have hall:=eZ hr rfl (by decide);have t0:l0=true:=hall 0 (by decide);have t1:l1=true:=hall 1 (by decide);have t2:l2=true:=hall 2 (by decide);have t3:l3=true:=hall 3 (by decide);have t4:l4=true:=hall 4 (by decide);have t5:l5=true:=hall 5 (by decide);have t6:l6=true:=hall 6 (by decide);have t7:l7=true:=hall 7 (by decide);have t8:l8=true:=hall 8 (by decide);subst t0 t1 t2 t3 t4 t5 t6 t7 t8;clear hall hr;have hx:=h.wa rfl;subst hx;clear h;refine hK5 _ _ ?_;clear hK5;go_wp2;go_ret;exact HE.out
theorem E9(g c:Nat)(l:List bP)(k:Nat)(x:bP)(vb:Nat)(w:World)(hl:l.length<=1048576)(hk:k<=l.length)(hc:l.length+1<=c)(h:w.ownsRow 0 109 4 (af (some ⟨g,0,none⟩) l.length c) l.length (l.flatMap aG))(hne:vb≠g)(hv:w.heap[vb]?=some (.cells #[ae au x.id,ag x.fr,ag x.to,ae au x.aV] 109 (0,0))) :
  Calls prog 210 #[af (some ⟨g,0,none⟩) l.length c,ae au (k:Int),af (some ⟨vb,0,none⟩) 1 1] w fun e w'=>xk (af (some ⟨g,0,none⟩) l.length c) l k x w e w':=by
 rcases Nat.lt_or_ge k l.length with q|q
 ·exact Dn g c l k x vb w hl q hc hne h hv
 ·obtain rfl:k=l.length:=by omega
  exact E8 _ l x vb w hl h hv
end Go.Proofs.YtdbmmdecclalgaaGreatDoor
