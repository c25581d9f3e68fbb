import Derived.Test.YtdbmmdecclalgaaGreatDoorQae
import Derived.Test.YtdbmmdecclalgaaGreatDoorQac
import Derived.Test.YtdbmmdecclalgaaGreatDoorQab
import Derived.Lib.Strings
import Derived.Lib.IndexBytes
import Derived.Deep.QuietTactic
import Derived.BigQuiet
import Derived.Deep.DeepCutAuto
import Derived.Test.YtdbmmdecclalgaaGreatDoorQaf
import Derived.Maps.AppendAt
import Derived.OwnWalk
import Derived.Laws.OwnMore
namespace Go.Proofs.YtdbmmdecclalgaaGreatDoor
open Go.Value renaming int → ae, string → ag, agg → aj, slice → af
open Go.IntKind renaming i64 → au
open Go.Proofs.Tryz Go.ChangeShapes Go.WideShapes Go.ChangeAt Go.RowKit Go.Lib
set_option linter.unusedVariables false
set_option maxRecDepth 100000
set_option maxHeartbeats 4000000
def dm(k:Int):List UInt8:=if k=1 then [111,112,101,110] else if k=2 then [112,111,115,116] else if k=3 then [104,111,108,100] else if k=4 then [116,97,107,101] else [100,114,111,112]
def lU(id kind:Int)(f t:ByteArray)(am ref:Int):List UInt8 :=
 if dK id kind f t am ref=true then
  (if kind=4\/kind=5 then Lib.itoa id++([32]++(dm kind++([32]++Lib.itoa ref)))
   else Lib.itoa id++([32]++(dm kind++([32]++(f.data.toList++([32]++(t.data.toList++([32]++Lib.itoa am))))))))
 else []
def rV(l:List UInt8)(w:World)(e:Ending)(w':World):Prop:=e=.returned (ag (bs l))/\Below w.heap.size w w'
theorem nO{w x:World}{v0 v1 v2 v3 v4 v5:Value}{T:TypeId}(h:Below (w.alloc (.cells #[v0,v1,v2,v3,v4,v5] T)).heap.size (w.alloc (.cells #[v0,v1,v2,v3,v4,v5] T)) x) :
  x.cell? ⟨w.heap.size,0,none⟩=some v0/\x.cell? ⟨w.heap.size,1,none⟩=some v1/\x.cell? ⟨w.heap.size,2,none⟩=some v2/\x.cell? ⟨w.heap.size,3,none⟩=some v3/\x.cell? ⟨w.heap.size,4,none⟩=some v4/\x.cell? ⟨w.heap.size,5,none⟩=some v5:=by
 have hb:∀o,x.cell? ⟨w.heap.size,o,none⟩=(w.alloc (.cells #[v0,v1,v2,v3,v4,v5] T)).cell? ⟨w.heap.size,o,none⟩:=fun o=>h.cell (p:=⟨w.heap.size,o,none⟩) (by simp)
 refine⟨?_,?_,?_,?_,?_,?_⟩<;>rw[hb]<;>simp
theorem eF{n:Int}(h0:-1000000000000000<=n)(h1:n<=1000000000000000):(Lib.itoa n).length<=17:=by
 by_cases h:n<0
 ·rw[<-itoa_neg h h0];have:=vK 15 (-n).toNat (by omega) (by omega);simp;omega
 ·rw[<-pF (by omega) h1];have:=vK 15 n.toNat (by omega) (by omega);omega
theorem lw{s:ByteArray}(h:dW s=true):s.size<=12:=by
 unfold dW at h;simp only[Bool.and_eq_true,decide_eq_true_eq] at h;omega
theorem Ck{s:ByteArray}(h:jU s=true):s.size<=12:=by
 unfold jU at h;simp only[Bool.and_eq_true,decide_eq_true_eq] at h;omega
theorem yP{id k:Int}{f t:ByteArray}{am ref:Int}(hk:k=1\/k=2\/k=3)(h:dK id k f t am ref=true):(1<=id/\id<=1000000000)/\f.size<=12/\t.size<=12/\-1<=am/\am<=1000000000000:=by
 unfold dK at h;simp only[Bool.and_eq_true] at h;obtain⟨h0,h1⟩:=h;refine⟨bW.1 h0,?_⟩;rcases hk with rfl|rfl|rfl
 ·rw[if_pos rfl] at h1;simp only[Bool.and_eq_true] at h1;exact⟨lw h1.1.1.1,Ck h1.1.1.2,bW.1 h1.1.2⟩
 ·rw[if_neg (by decide),if_pos (by decide)] at h1;simp only[Bool.and_eq_true] at h1;have:=bW.1 h1.1.2;exact⟨lw h1.1.1.1.1,lw h1.1.1.1.2,by omega⟩
 ·rw[if_neg (by decide),if_pos (by decide)] at h1;simp only[Bool.and_eq_true] at h1;have:=bW.1 h1.1.2;exact⟨lw h1.1.1.1.1,lw h1.1.1.1.2,by omega⟩
theorem NY{id k:Int}{f t:ByteArray}{am ref:Int}(hk:k=4\/k=5)(h:dK id k f t am ref=true):(1<=id/\id<=1000000000)/\1<=ref/\ref<=1000000000:=by
 unfold dK at h;simp only[Bool.and_eq_true] at h;obtain⟨h0,h1⟩:=h;refine⟨bW.1 h0,?_⟩;rcases hk with rfl|rfl
 ·rw[if_neg (by decide),if_neg (by decide),if_pos (by decide)] at h1;simp only[Bool.and_eq_true] at h1;exact bW.1 h1.2
 ·rw[if_neg (by decide),if_neg (by decide),if_pos (by decide)] at h1;simp only[Bool.and_eq_true] at h1;exact bW.1 h1.2
theorem FN{id k:Int}{f t:ByteArray}{am ref:Int}(h:dK id k f t am ref=true):k=1\/k=2\/k=3\/k=4\/k=5:=by
 unfold dK at h;simp only[Bool.and_eq_true] at h;by_cases h1:k=1
 ·exact .inl h1
 ·by_cases h2:k=2\/k=3
  ·omega
  ·by_cases h3:k=4\/k=5
   ·omega
   ·rw[if_neg h1,if_neg h2,if_neg h3] at h;simp at h
theorem Gt(id:Int)(f t:ByteArray)(am ref:Int)(w:World)(hf:f.size<=maxLen)(ht:t.size<=maxLen)(hc:dK id 1 f t am ref=true) :
  Calls prog 73 #[aj #[ae au id,ae au 1,ag f,ag t,ae au am,ae au ref]] w fun e w'=>rV (lU id 1 f t am ref) w e w':=by
 obtain⟨⟨i0,i1⟩,sf,st,a0,a1⟩:=yP (by omega) hc;have l1:(bs (Lib.itoa id)).size<=17:=by rw[bD];exact eF (by omega) (by omega)
 have l2:(bs (Lib.itoa am)).size<=17:=by rw[bD];exact eF (by omega) (by omega)
 have HR:Hid (bs (Lib.itoa id)++{data:=#[32,111,112,101,110,32]}++f++{data:=#[32]}++t++{data:=#[32]}++bs (Lib.itoa am)=bs (lU id 1 f t am ref)):=hide (by
  apply gQ;rw[lU,if_pos hc,if_neg (by decide)];simp[bS,dm])
 go_enter func73,ntmps73;go_wp2_with (first|(go_at_call 75;refine(fH _ _ _ _ _ _ _ hf ht).mono ?_;rintro e w1⟨rfl,hk1⟩;have HX1:=hide hk1.below;obtain⟨x0,x1,x2,x3,x4,x5⟩:=nO HX1.out;clear hk1)|(go_at_call 96;refine(iY _ _ (by omega) (by omega)).mono ?_;rintro e w2⟨rfl,hb2⟩;have HX2:=hide (aJ HX1.out hb2);obtain⟨y0,y1,y2,y3,y4,y5⟩:=nO HX2.out;clear hb2));have k2:∀y:Later w2,y.w.cell? ⟨w.heap.size,2,none⟩=some (ag f):=fun y=>aN y.below _ _ y2
 have k3:∀y:Later w2,y.w.cell? ⟨w.heap.size,3,none⟩=some (ag t):=fun y=>aN y.below _ _ y3
 have k4:∀y:Later w2,y.w.cell? ⟨w.heap.size,4,none⟩=some (ae au am):=fun y=>aN y.below _ _ y4
 have hne:Nonempty (Later w2):=bO _;refine aU w2 (by kernel_rfl) (by kernel_rfl) ((Below.refl _ _).drew) ?_
 repeat (go_big_quiet_step (first|(go_at_call 96;exact dh (iY _ _ (by omega) (by omega)))))
 refine wpQuiet_nil ?_;intro _ hw';obtain⟨nx,rfl⟩:=hw';go_wp2;go_ret;exact⟨by rw[<-HR.out];rfl,aJ (aJ (aF (Below.refl _ _) _) HX2.out) nx.below⟩
theorem Gs(id:Int)(f t:ByteArray)(am ref:Int)(w:World)(hf:f.size<=maxLen)(ht:t.size<=maxLen)(hc:dK id 2 f t am ref=true) :
  Calls prog 73 #[aj #[ae au id,ae au 2,ag f,ag t,ae au am,ae au ref]] w fun e w'=>rV (lU id 2 f t am ref) w e w':=by
 obtain⟨⟨i0,i1⟩,sf,st,a0,a1⟩:=yP (by omega) hc;have l1:(bs (Lib.itoa id)).size<=17:=by rw[bD];exact eF (by omega) (by omega)
 have l2:(bs (Lib.itoa am)).size<=17:=by rw[bD];exact eF (by omega) (by omega)
 have HR:Hid (bs (Lib.itoa id)++{data:=#[32,112,111,115,116,32]}++f++{data:=#[32]}++t++{data:=#[32]}++bs (Lib.itoa am)=bs (lU id 2 f t am ref)):=hide (by
  apply gQ;rw[lU,if_pos hc,if_neg (by decide)];simp[bS,dm])
 go_enter func73,ntmps73;go_wp2_with (first|(go_at_call 75;refine(fH _ _ _ _ _ _ _ hf ht).mono ?_;rintro e w1⟨rfl,hk1⟩;have HX1:=hide hk1.below;obtain⟨x0,x1,x2,x3,x4,x5⟩:=nO HX1.out;clear hk1)|(go_at_call 96;refine(iY _ _ (by omega) (by omega)).mono ?_;rintro e w2⟨rfl,hb2⟩;have HX2:=hide (aJ HX1.out hb2);obtain⟨y0,y1,y2,y3,y4,y5⟩:=nO HX2.out;clear hb2));have k2:∀y:Later w2,y.w.cell? ⟨w.heap.size,2,none⟩=some (ag f):=fun y=>aN y.below _ _ y2
 have k3:∀y:Later w2,y.w.cell? ⟨w.heap.size,3,none⟩=some (ag t):=fun y=>aN y.below _ _ y3
 have k4:∀y:Later w2,y.w.cell? ⟨w.heap.size,4,none⟩=some (ae au am):=fun y=>aN y.below _ _ y4
 have hne:Nonempty (Later w2):=bO _;refine aU w2 (by kernel_rfl) (by kernel_rfl) ((Below.refl _ _).drew) ?_
 repeat (go_big_quiet_step (first|(go_at_call 96;exact dh (iY _ _ (by omega) (by omega)))))
 refine wpQuiet_nil ?_;intro _ hw';obtain⟨nx,rfl⟩:=hw';go_wp2;go_ret;exact⟨by rw[<-HR.out];rfl,aJ (aJ (aF (Below.refl _ _) _) HX2.out) nx.below⟩
theorem Gr(id:Int)(f t:ByteArray)(am ref:Int)(w:World)(hf:f.size<=maxLen)(ht:t.size<=maxLen)(hc:dK id 3 f t am ref=true) :
  Calls prog 73 #[aj #[ae au id,ae au 3,ag f,ag t,ae au am,ae au ref]] w fun e w'=>rV (lU id 3 f t am ref) w e w':=by
 obtain⟨⟨i0,i1⟩,sf,st,a0,a1⟩:=yP (by omega) hc;have l1:(bs (Lib.itoa id)).size<=17:=by rw[bD];exact eF (by omega) (by omega)
 have l2:(bs (Lib.itoa am)).size<=17:=by rw[bD];exact eF (by omega) (by omega)
 have HR:Hid (bs (Lib.itoa id)++{data:=#[32,104,111,108,100,32]}++f++{data:=#[32]}++t++{data:=#[32]}++bs (Lib.itoa am)=bs (lU id 3 f t am ref)):=hide (by
  apply gQ;rw[lU,if_pos hc,if_neg (by decide)];simp[bS,dm])
 go_enter func73,ntmps73;go_wp2_with (first|(go_at_call 75;refine(fH _ _ _ _ _ _ _ hf ht).mono ?_;rintro e w1⟨rfl,hk1⟩;have HX1:=hide hk1.below;obtain⟨x0,x1,x2,x3,x4,x5⟩:=nO HX1.out;clear hk1)|(go_at_call 96;refine(iY _ _ (by omega) (by omega)).mono ?_;rintro e w2⟨rfl,hb2⟩;have HX2:=hide (aJ HX1.out hb2);obtain⟨y0,y1,y2,y3,y4,y5⟩:=nO HX2.out;clear hb2));have k2:∀y:Later w2,y.w.cell? ⟨w.heap.size,2,none⟩=some (ag f):=fun y=>aN y.below _ _ y2
 have k3:∀y:Later w2,y.w.cell? ⟨w.heap.size,3,none⟩=some (ag t):=fun y=>aN y.below _ _ y3
 have k4:∀y:Later w2,y.w.cell? ⟨w.heap.size,4,none⟩=some (ae au am):=fun y=>aN y.below _ _ y4
 have hne:Nonempty (Later w2):=bO _;refine aU w2 (by kernel_rfl) (by kernel_rfl) ((Below.refl _ _).drew) ?_
 repeat (go_big_quiet_step (first|(go_at_call 96;exact dh (iY _ _ (by omega) (by omega)))))
 refine wpQuiet_nil ?_;intro _ hw';obtain⟨nx,rfl⟩:=hw';go_wp2;go_ret;exact⟨by rw[<-HR.out];rfl,aJ (aJ (aF (Below.refl _ _) _) HX2.out) nx.below⟩
theorem Gq(id:Int)(f t:ByteArray)(am ref:Int)(w:World)(hf:f.size<=maxLen)(ht:t.size<=maxLen)(hc:dK id 4 f t am ref=true) :
  Calls prog 73 #[aj #[ae au id,ae au 4,ag f,ag t,ae au am,ae au ref]] w fun e w'=>rV (lU id 4 f t am ref) w e w':=by
 obtain⟨⟨i0,i1⟩,a0,a1⟩:=NY (by omega) hc;have l1:(bs (Lib.itoa id)).size<=17:=by rw[bD];exact eF (by omega) (by omega)
 have l2:(bs (Lib.itoa ref)).size<=17:=by rw[bD];exact eF (by omega) (by omega)
 have HR:Hid (bs (Lib.itoa id)++{data:=#[32,116,97,107,101,32]}++bs (Lib.itoa ref)=bs (lU id 4 f t am ref)):=hide (by
  apply gQ;rw[lU,if_pos hc,if_pos (by decide)];simp[bS,dm])
 go_enter func73,ntmps73;go_wp2_with (first|(go_at_call 75;refine(fH _ _ _ _ _ _ _ hf ht).mono ?_;rintro e w1⟨rfl,hk1⟩;have HX1:=hide hk1.below;obtain⟨x0,x1,x2,x3,x4,x5⟩:=nO HX1.out;clear hk1)|(go_at_call 96;refine(iY _ _ (by omega) (by omega)).mono ?_;rintro e w2⟨rfl,hb2⟩;have HX2:=hide (aJ (by first|exact HX2.out|exact HX1.out) hb2);obtain⟨y0,y1,y2,y3,y4,y5⟩:=nO HX2.out;clear hb2));go_ret;exact⟨by rw[<-HR.out];rfl,aJ (aF (Below.refl _ _) _) HX2.out⟩
theorem Gp(id:Int)(f t:ByteArray)(am ref:Int)(w:World)(hf:f.size<=maxLen)(ht:t.size<=maxLen)(hc:dK id 5 f t am ref=true) :
  Calls prog 73 #[aj #[ae au id,ae au 5,ag f,ag t,ae au am,ae au ref]] w fun e w'=>rV (lU id 5 f t am ref) w e w':=by
 obtain⟨⟨i0,i1⟩,a0,a1⟩:=NY (by omega) hc;have l1:(bs (Lib.itoa id)).size<=17:=by rw[bD];exact eF (by omega) (by omega)
 have l2:(bs (Lib.itoa ref)).size<=17:=by rw[bD];exact eF (by omega) (by omega)
 have HR:Hid (bs (Lib.itoa id)++{data:=#[32,100,114,111,112,32]}++bs (Lib.itoa ref)=bs (lU id 5 f t am ref)):=hide (by
  apply gQ;rw[lU,if_pos hc,if_pos (by decide)];simp[bS,dm])
 go_enter func73,ntmps73;go_wp2_with (first|(go_at_call 75;refine(fH _ _ _ _ _ _ _ hf ht).mono ?_;rintro e w1⟨rfl,hk1⟩;have HX1:=hide hk1.below;obtain⟨x0,x1,x2,x3,x4,x5⟩:=nO HX1.out;clear hk1)|(go_at_call 96;refine(iY _ _ (by omega) (by omega)).mono ?_;rintro e w2⟨rfl,hb2⟩;have HX2:=hide (aJ (by first|exact HX2.out|exact HX1.out) hb2);obtain⟨y0,y1,y2,y3,y4,y5⟩:=nO HX2.out;clear hb2));go_ret;exact⟨by rw[<-HR.out];rfl,aJ (aF (Below.refl _ _) _) HX2.out⟩
theorem Em(id kind:Int)(f t:ByteArray)(am ref:Int)(w:World)(hf:f.size<=maxLen)(ht:t.size<=maxLen)(hc:dK id kind f t am ref=false) :
  Calls prog 73 #[aj #[ae au id,ae au kind,ag f,ag t,ae au am,ae au ref]] w fun e w'=>rV (lU id kind f t am ref) w e w':=by
 have HR:Hid (lU id kind f t am ref=[]):=hide (by simp[lU,hc]);go_enter func73,ntmps73;go_wp2_with (first|(go_at_call 75;refine(fH _ _ _ _ _ _ _ hf ht).mono ?_;rintro e w1⟨rfl,hk1⟩;have HX1:=hide hk1.below;obtain⟨x0,x1,x2,x3,x4,x5⟩:=nO HX1.out;clear hk1));go_ret;exact⟨by rw[HR.out];rfl,aJ (aF (Below.refl _ _) _) HX1.out⟩
theorem pY(id kind:Int)(f t:ByteArray)(am ref:Int)(w:World)(hf:f.size<=maxLen)(ht:t.size<=maxLen) :
  Calls prog 73 #[aj #[ae au id,ae au kind,ag f,ag t,ae au am,ae au ref]] w fun e w'=>rV (lU id kind f t am ref) w e w':=by
 cases hc:dK id kind f t am ref
 ·exact Em id kind f t am ref w hf ht hc
 ·rcases FN hc with rfl|rfl|rfl|rfl|rfl
  ·exact Gt id f t am ref w hf ht hc
  ·exact Gs id f t am ref w hf ht hc
  ·exact Gr id f t am ref w hf ht hc
  ·exact Gq id f t am ref w hf ht hc
  ·exact Gp id f t am ref w hf ht hc
theorem Np(l:List UInt8)(a:Int)(m:Nat)(h:-(m:Int)<=a/\a<=m):-(((m+23)*10 ^ l.length:Nat):Int)<=cO l a/\cO l a<=(((m+23)*10 ^ l.length:Nat):Int):=by
 induction l generalizing a m with
 | nil=>simp only[cO,List.length_nil,Nat.pow_zero,Nat.mul_one];omega
 | cons c cs ih =>
  have hc:=c.toNat_lt;simp only[cO,List.length_cons];have e:(m+23)*10 ^ (cs.length+1)=(10*m+207+23)*10 ^ cs.length:=by
   rw[Nat.pow_succ,Nat.mul_comm (10 ^ cs.length) 10,<-Nat.mul_assoc];congr 1;omega
  split
  ·have:=ih a (10*m+207) (by omega);rw[e];exact this
  ·have:=ih (10*a+c.toNat-48) (10*m+207) (by omega);rw[e];exact this
theorem iJ(l:List UInt8)(h:l.length<=14):-(2300000000000000:Int)<=cO l 0/\cO l 0<=2300000000000000:=by
 have:=Np l 0 0 (by omega);have h2:10 ^ l.length<=10 ^ 14:=Nat.pow_le_pow_right (by omega) (by omega);omega
theorem FJ(f n:Nat)(aI:List UInt8):nZ (f+1) n aI≠[]:=by
 induction f generalizing n aI with
 | zero =>
  by_cases h:n<10
  ·rw[gI _ _ _ h];simp
  ·rw[lT _ _ _ (by omega)];simp[nZ]
 | succ f ih =>
  by_cases h:n<10
  ·rw[gI _ _ _ h];simp
  ·rw[lT _ _ _ (by omega)];exact ih _ _
theorem qE(n:Nat):dec n≠[]:=FJ 19 n []
theorem NA(n:Nat)(r:List UInt8):(dec n++r).head?≠some 45:=by
 intro h
 cases hd:dec n with
 | nil=>exact qE n hd
 | cons c cs =>
  rw[hd] at h;simp at h;have:=mW n c (by rw[hd];simp);rw[h] at this;revert this;decide
theorem Pn(s:ByteArray)(h:1<=s.size):s.data.toList=s[0]::s.data.toList.tail:=by
 have hl:s.data.toList.length=s.size:=by simp
 cases e:s.data.toList with
 | nil=>rw[e] at hl;simp at hl;omega
 | cons c cs =>
  have:s.data.toList[0]'(by omega)=c:=by simp[e]
  rw[List.tail_cons];congr 1;rw[<-this];rfl
theorem uo(l:List UInt8)(c:UInt8)(a:Int):cO (l++[c]) a=if c.toNat=46 then cO l a else 10*cO l a+c.toNat-48:=by
 rw[vB];simp only[cO]
theorem Kept.drewN{a w:World}(h:Kept a w):∀q,Kept a (w.drewN q)
 | 0=>h
 | q+1=>(Kept.drewN h q).drew
theorem mX(s:ByteArray)(k:Nat)(h:k<s.size):s.data.toList=s.data.toList.take k++s[k]::s.data.toList.drop (k+1):=by
 have e:=(List.take_append_drop (k+1) s.data.toList).symm;rw[iU s k h,List.append_assoc] at e;exact e
theorem DI(s:ByteArray)(k:Nat):s.extract 0 k=bs (s.data.toList.take k):=gQ (by rw[Lib.extract_data];simp)
theorem extract_drop(s:ByteArray)(k:Nat):s.extract k s.size=bs (s.data.toList.drop k):=gQ (by rw[Lib.extract_to_end])
theorem wI(s:ByteArray)(c:Int)(w:World)(hs:s.size<=maxLen) :
  Calls prog 68 #[ag s,.int .u8 c] w fun e w'=>Kept w w'/\((∃(a:List UInt8)(x:UInt8)(r:List UInt8),s.data.toList=a++x::r/\(x.toNat:Int)=c/\(∀b∈a,(b.toNat:Int)≠c)/\e=.returned (.tuple #[ag (bs a),ag (bs r),.bool true])) \/
   ((∀b∈s.data.toList,(b.toNat:Int)≠c)/\e=.returned (.tuple #[ag s,ag ⟨#[]⟩,.bool false]))):=by
 unfold maxLen at hs;go_enter func68,ntmps68;go_wp2;go_loop [7] (fun i=>∃k:Nat,k<=s.size/\i=ae au k/\Hid (∀b∈s.data.toList.take k,(b.toNat:Int)≠c)) (fun i=>s.size-(intOf i).toNat)
 case atStart=>exact⟨0,Nat.zero_le _,rfl,hide (by simp)⟩
 case round =>
  obtain⟨k,hk,rfl,HL⟩:=hrel;by_cases hlt:k<s.size
  ·by_cases hc:(s[k].toNat:Int)=c
   ·have HS:=hide (mX s k hlt);have HC:=hide hc;have hq:((s[k].toNat:Int)==c)=true:=by simpa using hc
    clear hc;go_wp2;go_quiet (fail);go_wp2;go_ret3;exact⟨(Kept.refl _).drewN _,.inl ⟨_,_,_,HS.out,HC.out,HL.out,by rw[<-DI,<-extract_drop];rfl⟩⟩
   ·have HS:Hid (∀b∈s.data.toList.take (k+1),(b.toNat:Int)≠c):=hide (by
     rw[iU s k hlt];intro b hb;rcases List.mem_append.1 hb with h|h
     ·exact HL.out b h
     ·simp at h;rw[h];exact hc)
    have hq:((s[k].toNat:Int)==c)=false:=by simpa using hc
    clear hc;go_wp2;go_round
    case rel=>exact⟨k+1,by omega,by go_num,HS⟩
    case measure=>simp[intOf];omega
  ·have HE:Hid (s.data.toList.take k=s.data.toList):=hide (by rw[List.take_of_length_le (by simp;omega)]);go_wp2;go_ret3;exact⟨Kept.refl _,.inr ⟨by have:=HL.out;rw[HE.out] at this;simpa using this,rfl⟩⟩
def rC(l:List UInt8):Bool:=decide (1<l.length)&&decide (l.head?=some 45)
def kU(l:List UInt8):List UInt8:=if rC l=true then l.tail else l
def ko(t:List UInt8)(neg:Bool):Bool:=decide (1<=t.length)&&decide (t.length<=14)&&!(decide (t.head?=some 48)&&(decide (1<t.length)||neg))
def oM(c:UInt8):Bool:=decide (48<=(c.toNat:Int)/\(c.toNat:Int)<=57)
def iI(l:List UInt8):Bool:=ko (kU l) (rC l)&&(kU l).all oM
def gM(l:List UInt8):Int:=if iI l=true then (if rC l=true then -(cO (kU l) 0) else cO (kU l) 0) else 0
theorem lI(s:ByteArray)(h:0<s.size)(c:UInt8):(s.data.toList.head?=some c) ↔ s[0]=c:=by
 rw[Pn s h];simp
theorem lV(a c:UInt8)(n:Nat)(hc:c.toNat=n):(((a.toNat:Int)==(n:Int))=true) ↔ a=c:=by
 constructor
 ·intro h;apply UInt8.toNat_inj.1;simp at h;omega
 ·intro h;subst h;simp;omega
theorem Kz(s:ByteArray)(w:World)(hs:s.size<=maxLen)(hneg:rC s.data.toList=true) :
  Calls prog 69 #[ag s] w fun e w'=>e=.returned (.tuple #[ae au (gM s.data.toList),.bool (iI s.data.toList)])/\w'=w:=by
 unfold maxLen at hs;have HN:Hid (rC s.data.toList=true):=hide hneg;have h1:1<s.size:=by unfold rC at hneg;rw[<-jI s];simp at hneg;simpa using hneg.1
 have g0:0<s.size:=by omega
 have h2:((s[0].toNat:Int)==45)=true:=(lV s[0] 45 45 rfl).2 ((lI s g0 45).1 (by unfold rC at hneg;simp at hneg;simpa using hneg.2));have h1':(1:Int)<(s.size:Int):=by omega
 clear hneg;have HT0:Hid ((s.extract 1 s.size).data.toList=kU s.data.toList):=hide (by unfold kU;rw[if_pos HN.out,Lib.extract_to_end,List.drop_one]);have hl0:(s.extract 1 s.size).size<=s.size:=by simp
 go_enter func69,ntmps69;go_upto_region 4 with fail
 generalize hte:s.extract 1 s.size=t at *;clear hte;have HT:=HT0;clear HT0 h1 h2 h1';have hts:t.size<=2 ^ 63-1:=by omega
 by_cases f1:1<=t.size
 ·by_cases f2:t.size<=14
  ·have gt0:0<t.size:=by omega
   by_cases f3:t[0]=48/\(1<t.size\/true=true)
   ·have HR:Hid (iI s.data.toList=false):=hide (by
     unfold iI;rw[<-HT.out,HN.out];have:ko t.data.toList true=false:=by
      unfold ko;rw[decide_eq_true ((lI t gt0 48).2 f3.1)];rcases f3.2 with h|h
      ·first|(simp;done)|(simp[h];done)
      ·first|(simp;done)|cases h
     rw[this];rfl)
    have hq:((t[0].toNat:Int)==48)=true:=(lV t[0] 48 48 rfl).2 f3.1;have f4:=f3.2;clear f3;clear f4;go_wp2
    all_goals go_ret2
    all_goals exact⟨by unfold gM;rw[HR.out];rfl,rfl⟩
   ·have hform:ko t.data.toList true=true:=by
     unfold ko;have e1:(decide (t.data.toList.head?=some 48)&&(decide (1<t.data.toList.length)||true))=false:=by
      rw[Bool.eq_false_iff];intro h;simp only[Bool.and_eq_true,decide_eq_true_eq,Bool.or_eq_true] at h;exact f3 ⟨(lI t gt0 48).1 h.1,by simp⟩
     rw[e1];simp[f1,f2]
    have HI:Hid (iI s.data.toList=t.data.toList.all oM):=hide (by unfold iI;rw[<-HT.out,HN.out,hform];rfl);clear hform;have hcase:((t[0].toNat:Int)==48)=false\/(((t[0].toNat:Int)==48)=true/\¬ (1<(t.size:Int))/\true=false):=by
     by_cases h:t[0]=48
     ·right;refine⟨(lV t[0] 48 48 rfl).2 h,by intro h2;exact f3 ⟨h,.inl (by omega)⟩,?_⟩;cases hb:(true:Bool)
      ·rfl
      ·exact absurd ⟨h,.inr hb⟩ f3
     ·left;rw[Bool.eq_false_iff];intro h2;exact h ((lV t[0] 48 48 rfl).1 h2)
    clear f3;rcases hcase with hq|⟨hq,hq1,hq2⟩
    ·go_wp2;go_loop [5,6] (fun n i=>∃k:Nat,k<=t.size/\i=ae au k/\n=ae au (cO (t.data.toList.take k) 0)/\Hid ((t.data.toList.take k).all oM=true)) (fun n i=>t.size-(intOf i).toNat)
     case atStart=>exact⟨0,Nat.zero_le _,rfl,rfl,hide rfl⟩
     case round =>
      obtain⟨k,hk,rfl,rfl,HL⟩:=hrel;by_cases hlt:k<t.size
      ·have hsn:=iU t k hlt;have hbd:=iJ (t.data.toList.take k) (by rw[List.length_take,jI];omega);obtain⟨b1,b2⟩:=hbd;have hbyte:=(t[k]).toNat_lt;by_cases d1:(t[k].toNat:Int)<48
       ·have HR:Hid (iI s.data.toList=false):=hide (by rw[HI.out,mX t k hlt];simp[oM];intro _ h2;omega);clear hsn;go_wp2
        all_goals go_ret2
        all_goals exact⟨by unfold gM;rw[HR.out];rfl,rfl⟩
       ·by_cases d2:57<(t[k].toNat:Int)
        ·have HR:Hid (iI s.data.toList=false):=hide (by rw[HI.out,mX t k hlt];simp[oM];intro _ _ h3;omega);clear hsn;go_wp2
         all_goals go_ret2
         all_goals exact⟨by unfold gM;rw[HR.out];rfl,rfl⟩
        ·have HS:Hid (cO (t.data.toList.take (k+1)) 0=cO (t.data.toList.take k) 0*10+((t[k].toNat:Int)-48)):=hide (by rw[hsn,uo,if_neg (by omega)];omega);have HA:Hid ((t.data.toList.take (k+1)).all oM=true):=hide (by rw[hsn,List.all_append,HL.out];simp[oM];omega);clear hsn;generalize cO (t.data.toList.take k) 0=x at *;go_wp2;go_round
         case rel=>exact⟨k+1,by omega,by go_num,by rw[HS.out],HA⟩
         case measure=>simp[intOf];omega
      ·have HE:Hid (t.data.toList.take k=t.data.toList):=hide (by rw[List.take_of_length_le (by simp;omega)]);have HR:Hid (iI s.data.toList=true):=hide (by rw[HI.out,<-HE.out];exact HL.out);have HV:Hid (gM s.data.toList=-(cO (t.data.toList.take k) 0)):=hide (by unfold gM;rw[if_pos HR.out,HN.out,<-HT.out,HE.out];rfl);have hbd:=iJ (t.data.toList.take k) (by rw[List.length_take,jI];omega);obtain⟨b1,b2⟩:=hbd;generalize cO (t.data.toList.take k) 0=x at *;go_wp2;go_ret2;exact⟨by rw[HV.out,HR.out];rfl,rfl⟩
    ·cases hq2
  ·have HR:Hid (iI s.data.toList=false):=hide (by
    unfold iI;rw[<-HT.out,HN.out];have:ko t.data.toList true=false:=by unfold ko;simp[f2]
    rw[this];rfl)
   go_wp2
   all_goals go_ret2
   all_goals exact⟨by unfold gM;rw[HR.out];rfl,rfl⟩
 ·have HR:Hid (iI s.data.toList=false):=hide (by
   unfold iI;rw[<-HT.out,HN.out];have:ko t.data.toList true=false:=by unfold ko;simp[f1]
   rw[this];rfl)
  go_wp2
  all_goals go_ret2
  all_goals exact⟨by unfold gM;rw[HR.out];rfl,rfl⟩
theorem Ky(s:ByteArray)(w:World)(hs:s.size<=maxLen)(hneg:rC s.data.toList=false) :
  Calls prog 69 #[ag s] w fun e w'=>e=.returned (.tuple #[ae au (gM s.data.toList),.bool (iI s.data.toList)])/\w'=w:=by
 unfold maxLen at hs;obtain⟨t,rfl⟩:∃t,t=s:=⟨s,rfl⟩;have HN:Hid (rC t.data.toList=false):=hide hneg;have HT:Hid (t.data.toList=kU t.data.toList):=hide (by unfold kU;rw[if_neg (by rw[hneg];simp)]);have hcut:(1<t.size/\∃h:0<t.size,((t[0].toNat:Int)==45)=false)\/¬ 1<t.size:=by
  by_cases h1:1<t.size
  ·left;refine⟨h1,by omega,?_⟩;rw[Bool.eq_false_iff];intro h2;have:=(lI t (by omega) 45).2 ((lV t[0] 45 45 rfl).1 h2);unfold rC at hneg;rw[this,jI] at hneg;simp at hneg;omega
  ·exact .inr h1
 clear hneg;rcases hcut with ⟨h1,g00,h2⟩|h1
 have h1':(1:Int)<(t.size:Int):=by omega
 go_enter func69,ntmps69;go_upto_region 4 with fail
 clear h1 h2 h1'
 rotate_left
 have h1':¬ (1:Int)<(t.size:Int):=by omega
 go_enter func69,ntmps69;go_upto_region 4 with fail
 clear h1 h1'
 all_goals
  have hts:t.size<=2 ^ 63-1:=by omega
  by_cases f1:1<=t.size
  ·by_cases f2:t.size<=14
   ·have gt0:0<t.size:=by omega
    by_cases f3:t[0]=48/\(1<t.size\/false=true)
    ·have HR:Hid (iI t.data.toList=false):=hide (by
      unfold iI;rw[<-HT.out,HN.out];have:ko t.data.toList false=false:=by
       unfold ko;rw[decide_eq_true ((lI t gt0 48).2 f3.1)];rcases f3.2 with h|h
       ·first|(simp;done)|(simp[h];done)
       ·first|(simp;done)|cases h
      rw[this];rfl)
     have hq:((t[0].toNat:Int)==48)=true:=(lV t[0] 48 48 rfl).2 f3.1;have f4:=f3.2;clear f3;have f5:(1:Int)<(t.size:Int):=by rcases f4 with h|h<;>first|omega|cases h
     clear f4;go_wp2
     all_goals go_ret2
     all_goals exact⟨by unfold gM;rw[HR.out];rfl,rfl⟩
    ·have hform:ko t.data.toList false=true:=by
      unfold ko;have e1:(decide (t.data.toList.head?=some 48)&&(decide (1<t.data.toList.length)||false))=false:=by
       rw[Bool.eq_false_iff];intro h;simp only[Bool.and_eq_true,decide_eq_true_eq,Bool.or_eq_true] at h;exact f3 ⟨(lI t gt0 48).1 h.1,by simpa[jI] using h.2⟩
      rw[e1];simp[f1,f2]
     have HI:Hid (iI t.data.toList=t.data.toList.all oM):=hide (by unfold iI;rw[<-HT.out,HN.out,hform];rfl);clear hform;have hcase:((t[0].toNat:Int)==48)=false\/(((t[0].toNat:Int)==48)=true/\¬ (1<(t.size:Int))/\false=false):=by
      by_cases h:t[0]=48
      ·right;refine⟨(lV t[0] 48 48 rfl).2 h,by intro h2;exact f3 ⟨h,.inl (by omega)⟩,?_⟩;cases hb:(false:Bool)
       ·rfl
       ·exact absurd ⟨h,.inr hb⟩ f3
      ·left;rw[Bool.eq_false_iff];intro h2;exact h ((lV t[0] 48 48 rfl).1 h2)
     clear f3;rcases hcase with hq|⟨hq,hq1,hq2⟩
     ·go_wp2;go_loop [5,6] (fun n i=>∃k:Nat,k<=t.size/\i=ae au k/\n=ae au (cO (t.data.toList.take k) 0)/\Hid ((t.data.toList.take k).all oM=true)) (fun n i=>t.size-(intOf i).toNat)
      case atStart=>exact⟨0,Nat.zero_le _,rfl,rfl,hide rfl⟩
      case round =>
       obtain⟨k,hk,rfl,rfl,HL⟩:=hrel;by_cases hlt:k<t.size
       ·have hsn:=iU t k hlt;have hbd:=iJ (t.data.toList.take k) (by rw[List.length_take,jI];omega);obtain⟨b1,b2⟩:=hbd;have hbyte:=(t[k]).toNat_lt;by_cases d1:(t[k].toNat:Int)<48
        ·have HR:Hid (iI t.data.toList=false):=hide (by rw[HI.out,mX t k hlt];simp[oM];intro _ h2;omega);clear hsn;go_wp2
         all_goals go_ret2
         all_goals exact⟨by unfold gM;rw[HR.out];rfl,rfl⟩
        ·by_cases d2:57<(t[k].toNat:Int)
         ·have HR:Hid (iI t.data.toList=false):=hide (by rw[HI.out,mX t k hlt];simp[oM];intro _ _ h3;omega);clear hsn;go_wp2
          all_goals go_ret2
          all_goals exact⟨by unfold gM;rw[HR.out];rfl,rfl⟩
         ·have HS:Hid (cO (t.data.toList.take (k+1)) 0=cO (t.data.toList.take k) 0*10+((t[k].toNat:Int)-48)):=hide (by rw[hsn,uo,if_neg (by omega)];omega);have HA:Hid ((t.data.toList.take (k+1)).all oM=true):=hide (by rw[hsn,List.all_append,HL.out];simp[oM];omega);clear hsn;generalize cO (t.data.toList.take k) 0=x at *;go_wp2;go_round
          case rel=>exact⟨k+1,by omega,by go_num,by rw[HS.out],HA⟩
          case measure=>simp[intOf];omega
       ·have HE:Hid (t.data.toList.take k=t.data.toList):=hide (by rw[List.take_of_length_le (by simp;omega)]);have HR:Hid (iI t.data.toList=true):=hide (by rw[HI.out,<-HE.out];exact HL.out);have HV:Hid (gM t.data.toList=cO (t.data.toList.take k) 0):=hide (by unfold gM;rw[if_pos HR.out,HN.out,<-HT.out,HE.out];rfl);have hbd:=iJ (t.data.toList.take k) (by rw[List.length_take,jI];omega);obtain⟨b1,b2⟩:=hbd;generalize cO (t.data.toList.take k) 0=x at *;go_wp2;go_ret2;exact⟨by rw[HV.out,HR.out];rfl,rfl⟩
     ·clear hq2;go_wp2;go_loop [5,6] (fun n i=>∃k:Nat,k<=t.size/\i=ae au k/\n=ae au (cO (t.data.toList.take k) 0)/\Hid ((t.data.toList.take k).all oM=true)) (fun n i=>t.size-(intOf i).toNat)
      case atStart=>exact⟨0,Nat.zero_le _,rfl,rfl,hide rfl⟩
      case round =>
       obtain⟨k,hk,rfl,rfl,HL⟩:=hrel;by_cases hlt:k<t.size
       ·have hsn:=iU t k hlt;have hbd:=iJ (t.data.toList.take k) (by rw[List.length_take,jI];omega);obtain⟨b1,b2⟩:=hbd;have hbyte:=(t[k]).toNat_lt;by_cases d1:(t[k].toNat:Int)<48
        ·have HR:Hid (iI t.data.toList=false):=hide (by rw[HI.out,mX t k hlt];simp[oM];intro _ h2;omega);clear hsn;go_wp2
         all_goals go_ret2
         all_goals exact⟨by unfold gM;rw[HR.out];rfl,rfl⟩
        ·by_cases d2:57<(t[k].toNat:Int)
         ·have HR:Hid (iI t.data.toList=false):=hide (by rw[HI.out,mX t k hlt];simp[oM];intro _ _ h3;omega);clear hsn;go_wp2
          all_goals go_ret2
          all_goals exact⟨by unfold gM;rw[HR.out];rfl,rfl⟩
         ·have HS:Hid (cO (t.data.toList.take (k+1)) 0=cO (t.data.toList.take k) 0*10+((t[k].toNat:Int)-48)):=hide (by rw[hsn,uo,if_neg (by omega)];omega);have HA:Hid ((t.data.toList.take (k+1)).all oM=true):=hide (by rw[hsn,List.all_append,HL.out];simp[oM];omega);clear hsn;generalize cO (t.data.toList.take k) 0=x at *;go_wp2;go_round
          case rel=>exact⟨k+1,by omega,by go_num,by rw[HS.out],HA⟩
          case measure=>simp[intOf];omega
       ·have HE:Hid (t.data.toList.take k=t.data.toList):=hide (by rw[List.take_of_length_le (by simp;omega)]);have HR:Hid (iI t.data.toList=true):=hide (by rw[HI.out,<-HE.out];exact HL.out);have HV:Hid (gM t.data.toList=cO (t.data.toList.take k) 0):=hide (by unfold gM;rw[if_pos HR.out,HN.out,<-HT.out,HE.out];rfl);have hbd:=iJ (t.data.toList.take k) (by rw[List.length_take,jI];omega);obtain⟨b1,b2⟩:=hbd;generalize cO (t.data.toList.take k) 0=x at *;go_wp2;go_ret2;exact⟨by rw[HV.out,HR.out];rfl,rfl⟩
   ·have HR:Hid (iI t.data.toList=false):=hide (by
     unfold iI;rw[<-HT.out,HN.out];have:ko t.data.toList false=false:=by unfold ko;simp[f2]
     rw[this];rfl)
    go_wp2
    all_goals go_ret2
    all_goals exact⟨by unfold gM;rw[HR.out];rfl,rfl⟩
  ·have HR:Hid (iI t.data.toList=false):=hide (by
    unfold iI;rw[<-HT.out,HN.out];have:ko t.data.toList false=false:=by unfold ko;simp[f1]
    rw[this];rfl)
   go_wp2
   all_goals go_ret2
   all_goals exact⟨by unfold gM;rw[HR.out];rfl,rfl⟩
theorem sH(s:ByteArray)(w:World)(hs:s.size<=maxLen) :
  Calls prog 69 #[ag s] w fun e w'=>e=.returned (.tuple #[ae au (gM s.data.toList),.bool (iI s.data.toList)])/\w'=w:=by
 cases h:rC s.data.toList
 ·exact Ky s w hs h
 ·exact Kz s w hs h
def bG:List UInt8->List (List UInt8)
 | []=>[[]]
 | c::r=>if c=32 then []::bG r else match bG r with
  | []=>[[c]]
  | a::t=>(c::a)::t
theorem fV(a r:List UInt8)(h:∀b∈a,b≠32):bG (a++32::r)=a::bG r:=by
 induction a with
 | nil=>simp[bG]
 | cons c cs ih =>
  have hc:c≠32:=h c (List.mem_cons_self ..);rw[List.cons_append,bG,if_neg hc,ih (fun b hb=>h b (List.mem_cons_of_mem _ hb))]
theorem lN(a:List UInt8)(h:∀b∈a,b≠32):bG a=[a]:=by
 induction a with
 | nil=>rfl
 | cons c cs ih =>
  have hc:c≠32:=h c (List.mem_cons_self ..);rw[bG,if_neg hc,ih (fun b hb=>h b (List.mem_cons_of_mem _ hb))]
theorem yT(l:List UInt8):0<(bG l).length:=by
 cases l with
 | nil=>simp[bG]
 | cons c r =>
  rw[bG];split
  ·simp
  ·split<;>simp
def bL(l:List UInt8):Int:=if iI l=true then gM l else -2000000000000
theorem jK(s:ByteArray)(w:World)(hs:s.size<=maxLen) :
  Calls prog 71 #[ag s] w fun e w'=>e=.returned (ae au (bL s.data.toList))/\w'=w:=by
 cases h:iI s.data.toList
 ·have HR:Hid (bL s.data.toList=-2000000000000):=hide (by simp[bL,h]);go_enter func71,ntmps71;go_wp2_with (first|(go_at_call 69;refine(sH _ _ hs).mono ?_;rintro e w'⟨rfl,rfl⟩;simp only[h]));go_ret;exact⟨by rw[HR.out];rfl,rfl⟩
 ·have HR:Hid (bL s.data.toList=gM s.data.toList):=hide (by simp[bL,h]);go_enter func71,ntmps71;go_wp2_with (first|(go_at_call 69;refine(sH _ _ hs).mono ?_;rintro e w'⟨rfl,rfl⟩;simp only[h]));go_ret;exact⟨by rw[HR.out];rfl,rfl⟩
def Ow(ws:List (List UInt8))(w:World)(e:Ending)(w':World):Prop:=Below w.heap.size w w'/\∃g cap,e=.returned (af (some ⟨g,0,none⟩) ws.length cap)/\w.heap.size<=g/\∀(j:Nat) x,ws[j]?=some x->w'.cell? ⟨g,j,none⟩=some (ag (bs x))
def vX(ws:List (List UInt8)):List Value:=ws.map fun x=>ag (bs x)
def PQ(w:World)(l:List UInt8)(ws:List (List UInt8))(rest:List UInt8)(more:Bool)(v:Value)(x:World):Prop :=
 Below w.heap.size w x/\x.ownsRow w.heap.size 9 1 v ws.length (vX ws)/\v≠af none 0 0/\(more=true->bG l=ws++bG rest)/\(more=false->bG l=ws)/\ws.length+rest.length<=l.length+1/\(more=true->ws.length+rest.length<=l.length)
theorem Nj:(prog.info? 9).map (fun i=>(i.zero,i.size,i.bytes))=some (some (ag ByteArray.empty),1,16):=by kernel_rfl
theorem Me{w:World}{B:Nat}{v:Value}{n:Nat}{xs:List Value}(h:w.ownsRow B 9 1 v n xs)(hn:0<n):∃g cap,v=af (some ⟨g,0,none⟩) n cap:=by
 rcases h.2 with ⟨_,h0⟩|⟨g,cap,_,hv,_⟩
 ·omega
 ·exact⟨g,cap,hv⟩
theorem ML(w:World)(x:Value)(j:Nat)(u:Value)(hj:[x][j]?=some u):(w.alloc (.cells #[x] 9)).cell? ((⟨w.heap.size,0,none⟩:Addr).add j)=some u:=by
 cases j with
 | zero=>simp at hj;subst hj;simp[Addr.add]
 | succ j=>simp at hj
theorem MG{w x:World}{B:Nat}{v:Value}{n:Nat}{xs:List Value}(h:w.ownsRow B 9 1 v n xs)(k:Below w.heap.size w x):x.ownsRow B 9 1 v n xs :=
 h.kept (row:=none) ⟨k.os,k.tape,k.output,k.size,fun i hi _=>k.block i hi⟩ (by cases h:v.ownBlock with|none=>exact .inl rfl|some x=>exact .inr (by simp))
theorem JN{w x w1 w2:World}{l:List UInt8}{ws:List (List UInt8)}{rest a r:List UInt8}{more:Bool}{v v':Value}{o:Obj}(hm:PQ w l ws rest true v x)(hb:Below x.heap.size x w1)
  (hc:(more=true/\rest=a++32::r/\bG rest=a::bG r)\/(more=false/\rest=a/\r=[]/\bG rest=[a]))
  (ho:w2.ownsRow w.heap.size 9 1 v' (ws.length+1) (vX ws++[ag (bs a)])) (hg:(w1.alloc o).grownBy w2 v.ownBlock) (hn:v'≠af none 0 0):PQ w l (ws++[a]) r more v' w2:=by
 obtain⟨h1,h2,h3,h4,h5,h6,h7⟩:=hm;refine⟨below_grown hg (aF (aJ h1 hb) _) (fun j hj=>(h2.lt j hj).1),by simpa[vX] using ho,hn,fun e=>?_,fun e=>?_,?_,fun e=>?_⟩
 ·rcases hc with ⟨_,_,h⟩|⟨h,_⟩
  ·rw[h4 rfl,h];simp
  ·rw[e] at h;cases h
 ·rcases hc with ⟨h,_⟩|⟨_,_,_,h⟩
  ·rw[e] at h;cases h
  ·rw[h4 rfl,h]
 ·have:=h7 rfl;rcases hc with ⟨_,h,_⟩|⟨_,_,h,_⟩
  ·rw[h] at this;simp at this⊢;omega
  ·rw[h];simp;omega
 ·have:=h7 rfl;rcases hc with ⟨_,h,_⟩|⟨h,_⟩
  ·rw[h] at this;simp at this⊢;omega
  ·rw[e] at h;cases h
def Rw(l:List UInt8)(w:World)(e:Ending)(w':World):Prop:=Below w.heap.size w w'/\∃a r more,e=.returned (.tuple #[ag (bs a),ag (bs r),.bool more])/\((more=true/\l=a++32::r/\bG l=a::bG r)\/(more=false/\l=a/\r=[]/\bG l=[a]))
theorem EW(l:List UInt8)(w:World)(hs:l.length<=maxLen):Calls prog 68 #[ag (bs l),.int .u8 32] w fun e w'=>Rw l w e w':=by
 refine(wI (bs l) 32 w (by rw[bD];exact hs)).mono ?_;rintro e w'⟨hk,h⟩;have hne:∀b:UInt8,(b.toNat:Int)≠32->b≠32:=fun b hb e=>hb (by rw[e];rfl)
 refine⟨hk.below,?_⟩;rcases h with ⟨a,x,r,hl,hx,ha,rfl⟩|⟨ha,rfl⟩
 ·rw[bS] at hl;obtain rfl:x=32:=UInt8.toNat_inj.1 (by show x.toNat=32;omega);exact⟨a,r,true,rfl,.inl ⟨rfl,hl,by rw[hl];exact fV a r (fun b hb=>hne b (ha b hb))⟩⟩
 ·rw[bS] at ha;exact⟨l,[],false,rfl,.inr ⟨rfl,rfl,rfl,lN l (fun b hb=>hne b (ha b hb))⟩⟩
theorem ow(l:List UInt8)(w:World)(hs:l.length<=1048576) :
  Calls prog 70 #[ag (bs l)] w fun e w'=>Ow (bG l) w e w':=by
 obtain⟨i0,hi,hz0,hz1,hz2⟩:=info_parts Nj;have u36:prog.underlying 80=some (.slice 9):=by kernel_rfl
 go_enter func70,ntmps70;go_wp2;go_loopw [0,3,4] (fun s v m wr=>∃ws rest more,s=ag (bs rest)/\m=.bool more/\Hid (PQ w l ws rest more v wr)) (fun s v m wr=>match m with|.bool true=>(match s with|ag b=>b.size+1|_=>0)|_=>0)
 case atStart=>exact⟨[],l,true,rfl,rfl,hide ⟨aF (Below.refl _ _) _,World.ownsRow_made w #[] 0 (Nat.le_refl _) (by unfold maxLen;omega) rfl,by simp,fun _=>rfl,(fun h=>by cases h),by simp,fun _=>by simp⟩⟩
 case round =>
  obtain⟨ws,rest,more,rfl,rfl,HM⟩:=hrel;cases more
  ·go_wp2;go_ret;obtain⟨h1,h2,h3,_,h5,_⟩:=HM.out;rw[h5 rfl];have hw:=h5 rfl;have hp:0<ws.length:=by rw[<-hw];exact yT l
   obtain⟨g,cap,hv⟩:=Me h2 hp;subst hv;refine⟨h1,g,cap,rfl,(h2.lt g rfl).1,fun j x hj=>?_⟩;have hj':j<ws.length:=(List.getElem?_eq_some_iff.1 hj).1;rw[h2.cellAt j (by omega)];simp[vX,hj]
  ·go_wp2_with (first|(go_at_call 68;refine(EW rest _ (by have:=HM.2.2.2.2.2.1;unfold maxLen;omega)).mono ?_;rintro e w1⟨hb1,a,r,more,rfl,hc⟩;have HB1:=hide hb1;have HC:=hide hc;clear hb1 hc)|(at_builtin;refine bI.mk ?_)|fail);refine bI.mk' ?_;have hown:w1.ownsRow w.heap.size 9 1 u3 ws.length (vX ws):=MG HM.2.1 HB1.out;have HO:=hide hown;have hlen:ws.length+1<=1048577:=by have:=HM.2.2.2.2.2.2 rfl;omega
   clear hown;refine wpList_append_own_at _ rfl _ _ 80 rfl w.heap.size 9 i0 _ 1 16 u36 hi hz0 hz1 hz2 rfl (by decide) u3 ws.length (vX ws) rfl ?own ⟨w1.heap.size,0,none⟩ 1 1 [ag (bs a)] rfl rfl ?news (fun u hu=>by simp at hu;subst hu;rfl) (by unfold maxLen;omega) (by omega) ?base ?_
   case own=>exact HO.alloc _
   case news=>exact ML w1 _
   case base=>have:=HM.1.size;have:=HB1.size;simp;omega
   intro v' w2 hown' hgrow hnil hloc;have HN:Hid (PQ w l (ws++[a]) r more v' w2):=hide (JN HM.out HB1.out HC.out hown' hgrow (fun h=>by have:=(hnil.1 h).2;omega));have HR:Hid (more=true->r.length<rest.length):=hide (fun hm=>by
    rcases HC.out with ⟨_,hr,_⟩|⟨h,_⟩
    ·rw[hr];simp;omega
    ·rw[hm] at h;cases h)
   clear hown' hgrow hnil hloc HM HC HO HB1;go_wp2;refine⟨⟨_,_,_,rfl,rfl,HN⟩,?_⟩;cases more
   ·simp
   ·have:=HR.out rfl;simp[bD];omega
def jy(c:UInt8):Bool:=c==32||c==10
def aX(l:List UInt8):List UInt8:=l.takeWhile (fun c=>!jy c)
def bK(l:List UInt8):List UInt8:=l.dropWhile (fun c=>!jy c)
theorem fZ(l:List UInt8):aX l++bK l=l:=List.takeWhile_append_dropWhile
theorem qW{a r:List UInt8}(ha:∀c∈a,jy c=false)(hr:∀c,r.head?=some c->jy c=true):aX (a++r)=a/\bK (a++r)=r:=by
 induction a with
 | nil =>
  cases r with
  | nil=>exact⟨rfl,rfl⟩
  | cons c cs =>
   have:=hr c rfl;simp[aX,bK,this]
 | cons x xs ih =>
  have hx:=ha x (List.mem_cons_self ..);obtain⟨i1,i2⟩:=ih (fun c hc=>ha c (List.mem_cons_of_mem _ hc));simp only[aX,bK] at i1 i2⊢;rw[List.cons_append,List.takeWhile_cons_of_pos (by simp[hx]),List.dropWhile_cons_of_pos (by simp[hx]),i1,i2];exact⟨rfl,rfl⟩
theorem Lc(f n:Nat)(aI:List UInt8)(h:1<=n)(hn:n<10 ^ (f+1)):(nZ (f+1) n aI).head?≠some 48:=by
 induction f generalizing n aI with
 | zero =>
  rw[gI _ _ _ (by simpa using hn)];simp only[List.head?_cons,ne_eq,Option.some.injEq];intro e;have:=congrArg UInt8.toNat e;rw[pR] at this;simp at hn;revert this;simp;omega
 | succ f ih =>
  by_cases h1:n<10
  ·rw[gI _ _ _ h1];simp only[List.head?_cons,ne_eq,Option.some.injEq];intro e;have:=congrArg UInt8.toNat e;rw[pR] at this;revert this;simp;omega
  ·rw[lT _ _ _ (by omega)];exact ih _ _ (by omega) (by rw[Nat.pow_succ] at hn;omega)
theorem zC(m:Nat):rC (dec m)=false:=by
 unfold rC;have:=NA m [];rw[List.append_nil] at this;simp[this]
theorem DN(m:Nat):1<=(dec m).length:=by
 cases e:dec m with
 | nil=>exact absurd e (qE m)
 | cons c cs=>simp
theorem Am{m:Nat}(h:m<=99999999999999)(hp:1<=m):(dec m).head?≠some 48:=by
 have:=Lc 19 m [] hp (by omega);rwa [show nZ (19+1) m []=dec m from rfl] at this
theorem FE(m:Nat):(dec m).all oM=true:=by
 rw[List.all_eq_true];intro c hc;have:=mW m c hc;simp[oM];omega
theorem E5{m:Nat}(h:m<=99999999999999):iI (dec m)=true:=by
 unfold iI kU;rw[zC,if_neg (by simp),FE,Bool.and_true];unfold ko;have h1:=vK 13 m (by omega) (by omega);have h0:=DN m;have h2:(decide ((dec m).head?=some 48)&&(decide (1<(dec m).length)||false))=false:=by
  rcases Nat.eq_zero_or_pos m with rfl|hp
  ·rfl
  ·simp[Am h hp]
 rw[h2];simp[h0,h1]
theorem Ng{m:Nat}(h:m<=99999999999999):gM (dec m)=m:=by
 unfold gM;rw[if_pos (E5 h),zC,if_neg (by simp)];unfold kU;rw[zC,if_neg (by simp),wL m (by omega)]
theorem zB(m:Nat):rC (45::dec m)=true:=by
 have:=DN m;simp[rC];omega
theorem EZ{m:Nat}(h:m<=99999999999999)(hp:1<=m):iI (45::dec m)=true:=by
 unfold iI kU;rw[zB,if_pos rfl,List.tail_cons,FE,Bool.and_true];unfold ko;have h1:=vK 13 m (by omega) (by omega);have h0:=DN m;simp[h0,h1,Am h hp]
theorem Nf{m:Nat}(h:m<=99999999999999)(hp:1<=m):gM (45::dec m)=-m:=by
 unfold gM;rw[if_pos (EZ h hp),zB,if_pos rfl];unfold kU;rw[zB,if_pos rfl,List.tail_cons,wL m (by omega)]
theorem kL{n:Int}(h0:-99999999999999<=n)(h1:n<=99999999999999):iI (Lib.itoa n)=true/\gM (Lib.itoa n)=n:=by
 by_cases h:n<0
 ·rw[<-itoa_neg h (by omega)];refine⟨EZ (by omega) (by omega),?_⟩;rw[Nf (by omega) (by omega)];omega
 ·rw[<-pF (by omega) (by omega)];refine⟨E5 (by omega),?_⟩;rw[Ng (by omega)];omega
theorem Nn(s:List UInt8):∀a:Int,0<=a->(∀c∈s,48<=c.toNat/\c.toNat<=57)->a<=cO s a:=by
 induction s with
 | nil=>intro a _ _;exact Int.le_refl _
 | cons c cs ih =>
  intro a ha hd;have hc:=hd c (List.mem_cons_self ..);rw[cO,if_neg (by omega)];have:=ih (10*a+c.toNat-48) (by omega) (fun d h=>hd d (List.mem_cons_of_mem _ h));omega
theorem BV{c:UInt8}{s:List UInt8}(hd:∀d∈c::s,48<=d.toNat/\d.toNat<=57)(h0:c≠48):1<=cO (c::s) 0:=by
 have hc:=hd c (List.mem_cons_self ..);have hn:c.toNat≠48:=fun e=>h0 (UInt8.toNat_inj.1 (by simpa using e))
 rw[cO,if_neg (by omega)];have:=Nn s (10*0+c.toNat-48) (by omega) (fun d h=>hd d (List.mem_cons_of_mem _ h));omega
theorem Ij:∀(n f:Nat)(t aI:List UInt8),t.length=n+1->n<=f->(∀c∈t,48<=c.toNat/\c.toNat<=57)->(t.head?=some 48->t.length=1)->nZ (f+1) (cO t 0).toNat aI=t++aI:=by
 intro n
 induction n with
 | zero =>
  intro f t aI hl _ hd _
  match t,hl with
  | [c],_ =>
   have hc:=hd c (List.mem_cons_self ..);have e:(cO [c] 0).toNat=c.toNat-48:=by rw[cO,if_neg (by omega),cO];omega
   rw[e,gI _ _ _ (by omega)];have:dg (c.toNat-48)=c:=UInt8.toNat_inj.1 (by rw[pR];omega);rw[this];rfl
 | succ n ih =>
  intro f t aI hl hf hd h0;obtain⟨s,c,rfl⟩:∃s c,t=s++[c]:=by
   rcases List.eq_nil_or_concat t with rfl|⟨s,c,rfl⟩
   ·simp at hl
   ·exact⟨s,c,by simp⟩
  have hls:s.length=n+1:=by simpa using hl
  have hds:∀d∈s,48<=d.toNat/\d.toNat<=57:=fun d h=>hd d (List.mem_append_left _ h)
  have hc:=hd c (List.mem_append_right _ (List.mem_singleton.2 rfl))
  match s,hls with
  | a::s',hls =>
   have ha:a≠48:=fun e=>by
    have:=h0 (by rw[e];rfl);simp at this
   have hp:=BV hds ha;have e:cO ((a::s')++[c]) 0=10*cO (a::s') 0+c.toNat-48:=by
    rw[vB];show cO [c] _=_;rw[cO,if_neg (by omega),cO]
   obtain⟨g,rfl⟩:∃g,f=g+1:=⟨f-1,by omega⟩;rw[e,lT _ _ _ (by omega)];have e1:(10*cO (a::s') 0+c.toNat-48).toNat/10=(cO (a::s') 0).toNat:=by omega
   have e2:dg (10*cO (a::s') 0+c.toNat-48).toNat=c:=UInt8.toNat_inj.1 (by rw[pR];omega);rw[e1,e2,ih g (a::s') (c::aI) hls (by omega) hds (fun q=>absurd (by simpa using q) ha)];simp
theorem KG{l:List UInt8}(h:iI l=true)(h0:0<=gM l):itoa (gM l)=l/\gM l<=99999999999999:=by
 have hB:=h;simp only[iI,ko,Bool.and_eq_true,decide_eq_true_eq,Bool.not_eq_true',List.all_eq_true,oM] at h;obtain⟨⟨⟨h1,h2⟩,h3⟩,h4⟩:=h;have hd:∀c∈kU l,48<=c.toNat/\c.toNat<=57:=fun c hc=>by have:=h4 c hc;omega
 have hv:gM l=if rC l=true then -(cO (kU l) 0) else cO (kU l) 0:=by unfold gM;rw[if_pos hB]
 cases hn:rC l
 ·have eb:kU l=l:=by unfold kU;rw[hn];rfl
  rw[eb] at h1 h2 h3 hd hv;rw[hn] at hv h3;simp only[Bool.false_eq_true,if_false] at hv;have hc:=Ij (l.length-1) 19 l [] (by omega) (by omega) hd (fun q=>by
   simp only[Bool.or_false,Bool.and_eq_false_iff,decide_eq_false_iff_not] at h3;rcases h3 with h3|h3
   ·exact absurd q h3
   ·omega)
  have hs:gM l<=99999999999999:=by
   rw[hv];have:=(List.append_nil l).symm▸hc;have hb:∀(t:List UInt8)(a:Int)(k:Nat),0<=a->a<10 ^ k->(∀c∈t,48<=c.toNat/\c.toNat<=57)->cO t a<10 ^ (k+t.length):=by
    intro t
    induction t with
    | nil=>intro a k h0 h1 _;simpa[cO] using h1
    | cons c cs ih =>
     intro a k h0 h1 hd;have hc:=hd c (List.mem_cons_self ..);rw[cO,if_neg (by omega)];have h2:(10*a+c.toNat-48:Int)<10 ^ (k+1):=by rw[Int.pow_succ];omega
     have:=ih _ (k+1) (by omega) h2 (fun d h=>hd d (List.mem_cons_of_mem _ h));rw[List.length_cons];rw[show k+(cs.length+1)=k+1+cs.length by omega];exact this
   have q:=hb l 0 0 (by omega) (by simp) hd;have q2:(10:Int) ^ (0+l.length)<=10 ^ 14:=by
    rw[Nat.zero_add];have:(10:Nat) ^ l.length<=10 ^ 14:=Nat.pow_le_pow_right (by omega) h2;exact_mod_cast this
   have:(10:Int) ^ 14=100000000000000:=by decide
   omega
  refine⟨?_,hs⟩;rw[<-pF h0 (by omega),hv];rw[hv] at h0;simpa[dec] using hc
 ·exfalso;rw[hn] at hv h3;simp only[if_true] at hv
  match hb:kU l,h1 with
  | c::s,_ =>
   rw[hb] at hd hv h3;have hc:c≠48:=fun e=>by simp[e] at h3
   have:=BV hd hc;omega
def Rx(b:Nat)(id kind:Int)(f t:ByteArray)(am ref:Int)(x:World):Prop:=x.heap[b]?=some (.cells #[ae au id,ae au kind,ag f,ag t,ae au am,ae au ref] 88 (0,0))
theorem Rx.cells{b:Nat}{id kind:Int}{f t:ByteArray}{am ref:Int}{x:World}(h:Rx b id kind f t am ref x) :
  (x.cell? ⟨b,0,none⟩=some (ae au id)/\x.cell? ⟨b,1,none⟩=some (ae au kind)/\x.cell? ⟨b,2,none⟩=some (ag f)/\x.cell? ⟨b,3,none⟩=some (ag t)/\x.cell? ⟨b,4,none⟩=some (ae au am)/\x.cell? ⟨b,5,none⟩=some (ae au ref))/\∀j,x.frozen? ⟨b,j,none⟩=false :=
 ⟨⟨by simp[World.cell?,show x.heap[b]?=_ from h],by simp[World.cell?,show x.heap[b]?=_ from h],by simp[World.cell?,show x.heap[b]?=_ from h],by simp[World.cell?,show x.heap[b]?=_ from h],by simp[World.cell?,show x.heap[b]?=_ from h],by simp[World.cell?,show x.heap[b]?=_ from h]⟩,iw h⟩
theorem Rx.below{b:Nat}{id kind:Int}{f t:ByteArray}{am ref:Int}{x y:World}(h:Rx b id kind f t am ref x)(k:Below x.heap.size x y):Rx b id kind f t am ref y :=
 (k.block b (Array.getElem?_eq_some_iff.1 h).1).trans h
def CP(x:World)(b:Nat)(v0 v1 v2 v3 v4 v5:Value):World:=(((((x.setCell ⟨b,0,none⟩ v0).setCell ⟨b,1,none⟩ v1).setCell ⟨b,2,none⟩ v2).setCell ⟨b,3,none⟩ v3).setCell ⟨b,4,none⟩ v4).setCell ⟨b,5,none⟩ v5
theorem GM{x:World}{b:Nat}{v0 v1 v2 v3 v4 v5 u0 u1 u2 u3 u4 u5:Value}(r0:x.cell? ⟨b,0,none⟩=some u0)(r1:x.cell? ⟨b,1,none⟩=some u1)(r2:x.cell? ⟨b,2,none⟩=some u2)(r3:x.cell? ⟨b,3,none⟩=some u3)(r4:x.cell? ⟨b,4,none⟩=some u4)(r5:x.cell? ⟨b,5,none⟩=some u5) :
  (CP x b v0 v1 v2 v3 v4 v5).cell? ⟨b,0,none⟩=some v0/\(CP x b v0 v1 v2 v3 v4 v5).cell? ⟨b,1,none⟩=some v1/\(CP x b v0 v1 v2 v3 v4 v5).cell? ⟨b,2,none⟩=some v2/\(CP x b v0 v1 v2 v3 v4 v5).cell? ⟨b,3,none⟩=some v3/\(CP x b v0 v1 v2 v3 v4 v5).cell? ⟨b,4,none⟩=some v4/\(CP x b v0 v1 v2 v3 v4 v5).cell? ⟨b,5,none⟩=some v5:=by
 unfold CP;refine⟨?_,?_,?_,?_,?_,?_⟩
 ·rw[aP (.inr (by omega)),aP (.inr (by omega)),aP (.inr (by omega)),aP (.inr (by omega)),aP (.inr (by omega))];exact cz r0
 ·rw[aP (.inr (by omega)),aP (.inr (by omega)),aP (.inr (by omega)),aP (.inr (by omega))];exact cz (by rw[aP (.inr (by omega))];exact r1)
 ·rw[aP (.inr (by omega)),aP (.inr (by omega)),aP (.inr (by omega))];exact cz (by rw[aP (.inr (by omega)),aP (.inr (by omega))];exact r2)
 ·rw[aP (.inr (by omega)),aP (.inr (by omega))];exact cz (by rw[aP (.inr (by omega)),aP (.inr (by omega)),aP (.inr (by omega))];exact r3)
 ·rw[aP (.inr (by omega))];exact cz (by rw[aP (.inr (by omega)),aP (.inr (by omega)),aP (.inr (by omega)),aP (.inr (by omega))];exact r4)
 ·exact cz (by rw[aP (.inr (by omega)),aP (.inr (by omega)),aP (.inr (by omega)),aP (.inr (by omega)),aP (.inr (by omega))];exact r5)
theorem GN{w x:World}{b:Nat}{v0 v1 v2 v3 v4 v5:Value}(h:Below w.heap.size w x)(hb:w.heap.size<=b):Below w.heap.size w (CP x b v0 v1 v2 v3 v4 v5) :=
 (((((h.setCell (p:=⟨b,0,none⟩) hb v0).setCell (p:=⟨b,1,none⟩) hb v1).setCell (p:=⟨b,2,none⟩) hb v2).setCell (p:=⟨b,3,none⟩) hb v3).setCell (p:=⟨b,4,none⟩) hb v4).setCell (p:=⟨b,5,none⟩) hb v5
theorem El(l:List UInt8)(w:World)(hs:l.length<=1048576)(h3:(bG l).length<3) :
  Calls prog 45 #[ag (bs l)] w fun e w'=>e=.returned (.tuple #[aj #[ae au 0,ae au 0,ag ByteArray.empty,ag ByteArray.empty,ae au 0,ae au 0],.bool false])/\Below w.heap.size w w':=by
 have h3':((bG l).length:Int)<3:=by omega
 go_enter func45,ntmps45;go_wp2_with (first|(go_at_call 70;refine(ow l _ hs).mono ?_;rintro e w1⟨hb1,g,cap,rfl,hg,hc⟩;have HR:Hid (Rx w.heap.size 0 0 ByteArray.empty ByteArray.empty 0 0 w1):=hide (Rx.below (heap_alloc_new w _) hb1);have HB:=hide hb1;clear hb1;obtain⟨⟨r0,r1,r2,r3,r4,r5⟩,rf⟩:=HR.cells;have f0:=rf 0;have f1:=rf 1;have f2:=rf 2;have f3:=rf 3;have f4:=rf 4;have f5:=rf 5;clear rf)|fail);obtain⟨e0,e1,e2,e3,e4,e5⟩:=GM (v0:=ae au 0) (v1:=ae au 0) (v2:=.string {data:=#[]}) (v3:=.string {data:=#[]}) (v4:=ae au 0) (v5:=ae au 0) r0 r1 r2 r3 r4 r5;unfold CP at e0 e1 e2 e3 e4 e5;have HE:=GN (v0:=ae au 0) (v1:=ae au 0) (v2:=.string {data:=#[]}) (v3:=.string {data:=#[]}) (v4:=ae au 0) (v5:=ae au 0) (aJ (aF (Below.refl w.heap.size w) _) HB.out) (Nat.le_refl _);exact bodyPost_ret (v:=.tuple #[aj #[ae au 0,ae au 0,.string {data:=#[]},.string {data:=#[]},ae au 0,ae au 0],.bool false]) (by simp[results,results45,go_sem,e0,e1,e2,e3,e4,e5]) rfl ⟨rfl,HE⟩
end Go.Proofs.YtdbmmdecclalgaaGreatDoor
