import Derived.Test.YtdbmmdecclalgaaGreatDoorQbi
import Derived.Deep.CutRange
import Derived.Test.YtdbmmdecclalgaaGreatDoorQbj
namespace Go.Proofs.YtdbmmdecclalgaaGreatDoor
open Go.Value renaming int → ae, slice → af, string → ag, pointer → ai, agg → aj
open Go.IntKind renaming i64 → au
open Go.Proofs.Tryz Go.ChangeShapes Go.WideShapes Go.ChangeAt Go.RowKit Go.Maps Go.Sort
set_option linter.unusedVariables false
set_option maxRecDepth 100000
set_option maxHeartbeats 4000000
theorem gD(s:ByteArray)(w:World)(h:s.size<=4194304) :
  Calls prog 82 #[ag s] w fun e w'=>e=.returned (.bool (oW s))/\w'=w:=by
 go_enter func82,ntmps82;go_wp2_with fail;refine(bH _ _ _ _).mono ?_;rintro e w'⟨rfl,rfl⟩;go_wp2;go_ret;exact⟨rfl,rfl⟩
def FD(left:Lit->Bool):List Fl->Nat
 | []=>0
 | f::l=>(if left (kn f.nm) then 0 else f.da.size)+FD left l
theorem La{left:Lit->Bool}{l:List Fl}(h:∀f∈l,left (kn f.nm)=true):FD left l=0:=by
 induction l with
 | nil=>rfl
 | cons x xs ih=>simp only[FD,h x (by simp),if_true];rw[ih (fun y hy=>h y (by simp[hy]))]
theorem Px{left:Lit->Bool}{l:List Fl}(h:∀kl,left kl=false):FD left l=iN l:=by
 induction l with
 | nil=>rfl
 | cons x xs ih=>simp only[FD,h,Bool.false_eq_true,if_false,iN,ih]
theorem Lb{left left':Lit->Bool}{l:List Fl}(h:∀f∈l,left (kn f.nm)=left' (kn f.nm)):FD left l=FD left' l:=by
 induction l with
 | nil=>rfl
 | cons x xs ih=>simp only[FD,h x (by simp)];rw[ih (fun y hy=>h y (by simp[hy]))]
theorem NR(left:Lit->Bool)(l:List Fl):FD left l<=iN l:=by
 induction l with
 | nil=>simp[FD]
 | cons x xs ih=>simp only[FD,iN];split<;>omega
theorem NQ{left:Lit->Bool}:∀{l:List Fl}(hs:mr l){f:Fl}(hf:f∈l),left (kn f.nm)=true->FD (fun z=>left z&&!z.sameKey (kn f.nm)) l=FD left l+f.da.size:=by
 intro l
 induction l with
 | nil=>intro hs f hf;simp at hf
 | cons x xs ih =>
  intro hs f hf hl;have hs':=List.pairwise_cons.1 hs;rcases List.mem_cons.1 hf with rfl|hf'
  ·have hself:(kn f.nm).sameKey (kn f.nm)=true:=ku.2 rfl;simp only[FD,hl,hself,if_true,Bool.not_true,Bool.and_false,Bool.false_eq_true,if_false];rw[Lb (left':=left) (fun y hy=>by
    have hne:=hs'.1 y hy;have:(kn y.nm).sameKey (kn f.nm)=false:=by
     rw[Bool.eq_false_iff];intro e;rw[ku.1 e] at hne;exact List.lt_irrefl _ hne
    simp[this])]
   omega
  ·have hne:=hs'.1 f hf';have:(kn x.nm).sameKey (kn f.nm)=false:=by
    rw[Bool.eq_false_iff];intro e;rw[ku.1 e] at hne;exact List.lt_irrefl _ hne
   simp only[FD,this,Bool.not_false,Bool.and_true];rw[ih hs'.2 hf' hl];omega
theorem uB{ops:Array Oper}{rest:List Oper}{o:Oper}{a:Act}{Q:Exit->Act->World->Prop}(w:World)(hg:o.guard=none)(it:Operand)(hop:o.op=Op.next it false)(m r n:Nat)(D:DataW Unit)(left:Lit->Bool)(cnt:Nat)
  (hit:a.eval it=ai (some ⟨r,0,none⟩)) (h:w.ranges prog 9 jo m r n D left cnt) (l:List Fl) (β:ByteArray->Bd) (hat:∀f∈l,∀z,D.atKey (kn f.nm) z=(β f.nm).D) (honly:∀kl,Maps.has D kl=true->∃f∈l,kl=kn f.nm)
  (hDone:(∀kl,left kl=false)->wpList prog ops Q rest (a.put o.dst (.tuple #[.bool false])) w)
  (hMore:∀f∈l,∀(w':World)(cnt':Nat),left (kn f.nm)=true->w'.ranges prog 9 jo m r n D (fun z=>left z&&!z.sameKey (kn f.nm)) cnt'->cnt'<cnt->w.grownBy w' (some r)->w'.heap.size=w.heap.size ->
   (Instr.entry (ai (some ⟨r,0,none⟩))).run prog w'=.ok (.tuple #[ag f.nm,aj #[af (uy (β f.nm).a) (β f.nm).ps.length (β f.nm).c,ae au ((ik (β f.nm).ps).size:Int)]]) w'->wpList prog ops Q rest (a.put o.dst (.tuple #[.bool true,ag f.nm,aj #[af (uy (β f.nm).a) (β f.nm).ps.length (β f.nm).c,ae au ((ik (β f.nm).ps).size:Int)]])) w') :
  wpList prog ops Q (o::rest) a w:=by
 refine wpList_next_ranges w hg it hop 9 qP jo ag (fun q:Option Nat×Nat×Nat×Int=>aj #[af (uy q.1) q.2.1 q.2.2.1,ae au q.2.2.2]) (fun key kl hk=>by obtain⟨s,rfl,_⟩:=WideMaps.string_of_keyOf u9 hk;exact⟨s,rfl⟩) (fun v y hv=>by obtain⟨a,n,c,k,rfl,_⟩:=IB hv;exact⟨(a,n,c,k),rfl⟩)
  m r n D left cnt hit h (fun _ hl=>hDone hl) (fun x c kl y w' cnt' hkey hlk hv hat' hrg hlt hgr hsz hen=>?_)
 obtain⟨f,hf,rfl⟩:=honly kl (has_true_of_atKey hat');obtain⟨a1,n1,c1,k1,e1,e2⟩:=IB hv;have e3:(β f.nm).D=PM a1 n1 c1 k1:=by
  have h1:=(hat f hf b0.D).symm.trans (hat' b0.D);rw[h1,e2]
 obtain⟨q1,q2,q3,q4⟩:=JA e3;obtain⟨s,e4,e5,_⟩:=WideMaps.string_of_keyOf u9 hkey;cases e4;obtain rfl:=mg (a:=f.nm) e5;have ev:aj #[af (uy c.1) c.2.1 c.2.2.1,ae au c.2.2.2]=aj #[af (uy (β f.nm).a) (β f.nm).ps.length (β f.nm).c,ae au ((ik (β f.nm).ps).size:Int)]:=by
  rw[e1,q1,q2,q3,q4]
 simp only[ev] at hen⊢;exact hMore f hf w' cnt' hlk hrg hlt hgr hsz hen
def ut(l:List Fl):Bool:=decide ((l.length:Int)<=60)&&decide ((iN l:Int)<=200000)
theorem vI(base m N:Nat)(l:List Fl)(β:ByteArray->Bd)(w:World)(hd:iN l<=1000000000)(h:Shelf base m l β N w) :
  Calls prog 83 #[.map (some m)] w fun e w'=>e=.returned (.bool (ut l))/\Below w.heap.size w w':=by
 obtain⟨D,n,hn,hown,hat,honly,hsz⟩:=h.map;have HS:=hide h.srt;have HCT:=hide h.cat;have HA:=hide hat;have HO:=hide honly;have HL:Hid (∀x:World,x.ownsMap prog 9 jo m n D->(Builtin.len_ #[97] 3 #[.map (some m)]).run prog x=.ok (ae au (l.length:Int)) x):=hide (fun x hx=>by rw[hx.len uM,hsz]);clear hat honly hsz h;go_enter func83,ntmps83;go_wp2_with (first
  | (at_range;refine wpList_range_own _ rfl _ 97 rfl 9 136 qP uM _ m n D rfl hown ?_;intro w0 hrg0 hg0 hs0)
  | go_in)
 go_frame;have HB0:Hid (Below w.heap.size w w0):=hide ((Below.refl _ _).grown hg0 (Nat.le_refl _) (fun j hj=>by cases hj));go_loopw [3] (fun s wr=>∃(left:Lit->Bool)(cnt:Nat)(z:Nat),wr.ranges prog 9 jo m w.heap.size n D left cnt/\Below w.heap.size w wr/\s=ae au (z:Int)/\Hid (z=FD left l)) (fun s wr=>wr.rangeLeft m w.heap.size)
 case atStart =>
  refine⟨_,_,0,hrg0,HB0.out,rfl,hide ?_⟩;rw[La];intro f hf;exact has_true_of_atKey (HA.out f hf)
 case round =>
  obtain⟨left,cnt,z,hrg,HB,rfl,HZ⟩:=hrel;have hzb:z<=1000000000:=by rw[HZ.out];exact Nat.le_trans (NR _ _) hd
  go_wp2_with (first
   | (at_next;refine uB _ rfl _ rfl m w.heap.size n D left cnt rfl hrg l β HA.out HO.out ?_ ?_)
   | go_in)
  ·intro hl0;have HE:Hid (z=iN l):=hide (by rw[HZ.out,Px hl0]);have hlen:=HL.out wr hrg.owns;have hfb:ut l=(decide ((l.length:Int)<=60)&&decide ((z:Int)<=200000)):=by rw[HE.out];rfl
   have HF:=hide hfb;clear hl0 hfb HZ;by_cases g1:(l.length:Int)<=60
   ·go_wp2;go_ret;exact⟨by rw[HF.out];simp[g1],HB⟩
   ·go_wp2;go_ret;exact⟨by rw[HF.out];simp;omega,HB⟩
  ·intro f hf w1 cnt1 hlj hrg1 hlt hg1 hs1 hen;have HB1:Hid (Below w.heap.size w w1):=hide (HB.grown hg1 HB.size (fun k hk=>by cases hk;exact Nat.le_refl _));have hst:=NQ HS.out hf hlj;have hle:=NR (fun z=>left z&&!z.sameKey (kn f.nm)) l;have hcs:(ik (β f.nm).ps).size=f.da.size:=by rw[HCT.out f hf]
   have HT:Hid (z+f.da.size=FD (fun z=>left z&&!z.sameKey (kn f.nm)) l):=hide (by rw[hst,HZ.out]);have hzb2:z+f.da.size<=1000000000:=by rw[HT.out];omega
   have HM:Hid (w1.rangeLeft m w.heap.size<wr.rangeLeft m w.heap.size):=hide (by rw[hrg1.left_eq,hrg.left_eq];exact hlt);have HR:=hide hrg1;rw[hcs] at hen⊢;clear hrg1 hrg hg1 hs1 hlt hlj hrg0 hg0 hs0 hown hst hle hcs HZ;go_wp2;go_roundw
   case rel=>exact⟨_,cnt1,z+f.da.size,HR.alloc _,aF HB1.out _,by go_num,HT⟩
   case measure =>
    have hm:=HM.out;rw[HR.left_eq] at hm;rw[(HR.alloc _).left_eq];exact hm
theorem Ud:b0.V=aj #[af none 0 0,ae au 0]:=rfl
theorem Jp(base m N:Nat)(l:List Fl)(β:ByteArray->Bd)(nm:ByteArray)(w:World)(hn:nm.size<=4194304)(h:Shelf base m l β N w) :
  Calls prog 313 #[.map (some m),ag nm] w fun e w'=>e=.returned (.bool (gN l nm))/\Below w.heap.size w w':=by
 have hl:(Instr.lookup 97 (.map (some m)) (ag nm) true).run prog w=.ok (if true then .tuple #[if gN l nm then (β nm).V else b0.V,.bool (gN l nm)] else if gN l nm then (β nm).V else b0.V) w:=h.look hn true 0;simp only[if_true] at hl;cases e:gN l nm
 ·rw[e] at hl;simp only[Bool.false_eq_true,if_false,Ud] at hl;have HR:Hid (gN l nm=false):=hide e;clear e;go_enter func313,ntmps313;go_wp2;go_ret;exact⟨rfl,aF (Below.refl _ _) _⟩
 ·rw[e] at hl;simp only[if_true,Bd.V] at hl;have HR:Hid (gN l nm=true):=hide e;clear e;go_enter func313,ntmps313;go_wp2;go_ret;exact⟨rfl,aF (Below.refl _ _) _⟩
theorem Mj{l:List Fl}(hs:mr l)(k:Nat)(hk:k<l.length):jA (l.take k) (l[k]).nm (l[k]).da=l.take (k+1):=by
 have hst:mr (l.take k):=hs.sublist (List.take_sublist _ _);have hall:∀f∈l.take k,f.nm.toList<(l[k]).nm.toList:=fun f hf=>by
  obtain⟨i,hi,rfl⟩:=List.getElem_of_mem hf;have hi2:i<k:=by simp at hi;omega
  have e:(l.take k)[i]=l[i]'(by omega):=by simp
  rw[e];exact List.pairwise_iff_getElem.1 hs i k (by omega) hk hi2
 obtain⟨fa,fb⟩:=filter_all hall;rw[yI hst,yh,fa,fb,dX l k hk]
def FV(l:List Fl)(w:World)(e:Ending)(w':World):Prop:=Below w.heap.size w w'/\∃m β,e=.returned (.map (some m))/\Shelf w.heap.size m l β l.length w'
theorem MH{w:World}{base:Nat}:w.ownsRow base 9 1 b0.v b0.ps.length (strs b0.ps):=⟨by simp[strs,b0],.inl ⟨rfl,rfl⟩⟩
theorem oO{w w':World}(h:w.grownBy w' none):Below w.heap.size w w':=(Below.refl _ _).grown h (Nat.le_refl _) (fun j hj=>by cases hj)
theorem Sw.grown{B:Nat}{p0 p1:Value}{x y:World}{row:Option Nat}(h:Sw B p0 p1 x)(hg:x.grownBy y row)(hr:row≠some B):Sw B p0 p1 y:=⟨hg.cell h.1 (fun e=>hr e.symm),hg.cell h.2 (fun e=>hr e.symm)⟩
theorem Oj{x:World}{base sz k:Nat}{e:TypeId}{u v:Value}{xs:List Value}(hv:x.ownsRow base e sz v k xs)(hu:∀g,u.ownBlock=some g->x.heap.size<=g):OI u v/\OI v u:=by
 have hne:∀g,u.ownBlock=some g->v.ownBlock≠some g:=fun g h1 h2=>by
  have:=(hv.lt g h2).2;have:=hu g h1;omega
 constructor
 ·cases h:u.ownBlock with
  | none=>exact .inl h
  | some g=>exact .inr (fun q=>hne g h (by rw[<-q,h]))
 ·cases h:v.ownBlock with
  | none=>exact .inl h
  | some g=>exact .inr (fun q=>hne g (by rw[<-q,h]) h)
theorem Shelf.add{base m N:Nat}{l:List Fl}{β:ByteArray->Bd}{x x2:World}(h:Shelf base m l β N x){nm da:ByteArray}{b b':Bd}(hn:nm.size<=4194304)(hN:N<=100000)(hps:b'.ps=b.ps++[da])(hb:b.ps=[])(hb2:b.v.ownBlock=none)(hro:x2.ownsRow base 9 1 b'.v b'.ps.length (strs b'.ps))(hg:x.grownBy x2 b.v.ownBlock)(hli:b'.v.ownBlock=b.v.ownBlock\/∃g,b'.v.ownBlock=some g/\x.heap.size<=g) :
  ∃y,(Instr.mapUpdate 97 (.map (some m)) (ag nm) b'.V).run prog x2=.ok () y/\Shelf base m (jA l nm da) (Cu β nm b') (N+1) y/\x2.grownBy y (some m):=by
 rw[hb2] at hg hli;have hbl:=oO hg;refine(h.below hbl).store b' hn (by omega) hro (by rw[hps,hb];simp[ik]) (fun f hf hne=>?_) (by rw[hps,hb];simp);have:=Oj (u:=b'.v) (h.rows f hf) (fun g hg=>by
  rcases hli with q|⟨g',q,hge⟩
  ·rw[q] at hg;cases hg
  ·rw[q] at hg;cases hg;exact hge)
 exact this
theorem xA(a:Option Addr)(l:List Fl)(cap:Nat)(w:World)(hl:l.length<=60)(hg:Lv l)(hs:mr l)(h:bu 2 aW w a l) :
  Calls prog 50 #[af a l.length cap] w fun e w'=>FV l w e w':=by
 have HC:=hide h;have HG:=hide hg;have HS:=hide hs;clear h hg hs;have hmm:=@run_makeMap prog;go_enter func50,ntmps50;go_wp2;clear hmm;go_loopw [9] (fun i wr=>∃(k:Nat)(β:ByteArray->Bd),k<=l.length/\i=ae au (k:Int)/\Hid (Below w.heap.size w wr)/\Hid (Shelf w.heap.size w.heap.size (l.take k) β k wr)) (fun i wr=>l.length-(intOf i).toNat)
 case atStart=>exact⟨0,fun _=>b0,Nat.zero_le _,rfl,hide (aF (Below.refl _ _) _),hide (GH (Nat.le_refl _) _)⟩
 case round =>
  obtain⟨k,β,hk,rfl,HB,HH⟩:=hrel;by_cases hlt:k<l.length
  ·have hlt':(k:Int)<(l.length:Int):=by omega
   obtain⟨b,off,rfl,hb,c0,c1⟩:=iL (HC.below HB.out) k hlt;have s1:=(HG.out _ (List.getElem_mem hlt)).1;have s2:=(HG.out _ (List.getElem_mem hlt)).2;have HLW:Hid (w.heap.size<wr.heap.size):=hide HH.lt;have HW2:Hid (Below wr.heap.size wr (wr.alloc (.cells #[ag (l[k]).nm,ag (l[k]).da] 93))):=hide (aF (Below.refl _ _) _);have XD:Hid (Sw wr.heap.size (ag (l[k]).nm) (ag (l[k]).da) (wr.alloc (.cells #[ag (l[k]).nm,ag (l[k]).da] 93)).drew):=hide ⟨World.cell?_alloc_at _ _ _ _ rfl,World.cell?_alloc_at _ _ _ _ rfl⟩;have HHD:Hid (Shelf w.heap.size w.heap.size (l.take k) β k (wr.alloc (.cells #[ag (l[k]).nm,ag (l[k]).da] 93)).drew):=hide (HH.below HW2.drew);have HBD:Hid (Below w.heap.size w (wr.alloc (.cells #[ag (l[k]).nm,ag (l[k]).da] 93)).drew):=hide (aJ HB.out HW2.drew);have HWT:Hid (Calls prog 84 #[aj #[af none 0 0,ae au 0],ag (l[k]).da] (wr.alloc (.cells #[ag (l[k]).nm,ag (l[k]).da] 93)).drew fun e w'=>yR w.heap.size b0 (l[k]).da (wr.alloc (.cells #[ag (l[k]).nm,ag (l[k]).da] 93)).drew e w'):=hide (Eb w.heap.size b0 (l[k]).da _ HBD.size (by simp[b0]) (by simp[b0,ik]) s2 MH);have HPL:=hide (Mj HS.out k hlt);go_wp2_with fail;go_region_held3 (fun x=>x.cell? ⟨wr.heap.size,0,none⟩=some (ag (l[k]).nm)/\x.cell? ⟨wr.heap.size,1,none⟩=some (ag (l[k]).da))
    (first|with_reducible exact XD.out|(with_reducible assumption))
    (first|(go_at_call 84;refine HWT.mono ?_;rintro e w2⟨b',rfl,hps,hro,hg,hli⟩;have XS:Sw wr.heap.size (ag (l[k]).nm) (ag (l[k]).da) w2:=XD.grown hg (by rw[show b0.v.ownBlock=none from rfl];simp);obtain⟨y,hrun,hsh,hgy⟩:=HHD.add (b:=b0) s1 (by omega) hps rfl rfl hro hg hli;have XY:Sw wr.heap.size (ag (l[k]).nm) (ag (l[k]).da) y:=XS.grown hgy (by have:=HLW.out;simp;omega);have HSH:=hide hsh;have HBY:Hid (Below w.heap.size w y):=hide ((aJ HBD.out (oO hg)).grown hgy (Nat.le_trans HBD.size (oO hg).size) (fun j hj=>by cases hj;exact Nat.le_refl _));clear hsh hgy hg hli hro hps))
   have HSH2:Hid (Shelf w.heap.size w.heap.size (l.take (k+1)) (Cu β (l[k]).nm b') (k+1) y):=hide (by rw[<-HPL.out];exact HSH.out);clear hrun XS XY HSH;go_wp2;exact⟨⟨k+1,_,by omega,by go_num,HBY,HSH2⟩,by simp[intOf];omega⟩
  ·have hk':¬ (k:Int)<(l.length:Int):=by omega
   have HE:Hid (FV l w (.returned (.map (some w.heap.size))) wr):=hide ⟨HB.out,_,β,rfl,by
    have:=HH.out;rw[List.take_of_length_le (by omega)] at this;exact this.mono hk⟩
   go_wp2;go_ret;exact HE.out
theorem LZ{l:List Fl}(h:bE (F5 l) l.length=true):mr l:=by
 have step:∀d i (hi:i+d+1<l.length),(l[i]'(by omega)).nm.toList<(l[i+d+1]).nm.toList:=by
  intro d
  induction d with
  | zero =>
   intro i hi;have h2:=dU h hi;rw[kS hi,q8 (m:=i) hi] at h2;simp only[Bool.and_eq_true] at h2;exact gU.1 h2.2
  | succ d ih =>
   intro i hi;have h1:=ih i (by omega);have hi2:(i+d+1)+1<l.length:=hi;have h2:=dU h hi2;rw[kS hi2,q8 (m:=i+d+1) hi2] at h2;simp only[Bool.and_eq_true] at h2;exact List.lt_trans h1 (gU.1 h2.2)
 unfold mr;rw[List.pairwise_iff_getElem];intro i j hi hj hij;have:=step (j-i-1) i (by omega);have e:i+(j-i-1)+1=j:=by omega
 simp only[e] at this;exact this
theorem Ah{l:List Fl}(h:dN l=true):mr l:=LZ (fu h).2.1
theorem Ld{l:List Fl}(h60:l.length<=61)(hs:∀f∈l,f.da.size<=4194304)(k:Nat):iN (l.take k)<=255852544:=by
 have h1:=DR (l:=l.take k) (M:=4194304) (fun f hf=>hs f (List.mem_of_mem_take hf));have h2:(l.take k).length<=61:=by rw[List.length_take];omega
 have h3:4194304*(l.take k).length<=4194304*61:=Nat.mul_le_mul_left _ h2;omega
theorem xP(a:Option Addr)(l:List Fl)(cap:Nat)(w:World)(hl:l.length<=1048576)(hs:Lv l)(h:bu 2 aW w a l) :
  Calls prog 49 #[af a l.length cap] w fun e w'=>e=.returned (.bool (dN l))/\Below w.heap.size w w':=by
 have HC:=hide h;have HS:=hide hs;clear h hs;by_cases h60:l.length<=60
 ·have a2:¬ (60:Int)<(l.length:Int):=by omega
  go_enter func49,ntmps49;go_wp2;go_loopw [10] (fun i wr=>∃(k:Nat),k<=l.length/\i=ae au (k:Int)/\Hid (Below w.heap.size w wr)/\Hid (bE (F5 l) k=true)) (fun i wr=>l.length-(intOf i).toNat)
  case atStart=>exact⟨0,Nat.zero_le _,rfl,hide (Below.refl _ _),hide rfl⟩
  case round =>
   obtain⟨k,hk,rfl,HB,HG⟩:=hrel;by_cases hlt:k<l.length
   ·have hlt':(k:Int)<(l.length:Int):=by omega
    obtain⟨b,off,rfl,hb,c0,c1⟩:=iL (HC.below HB.out) k hlt;have s1:=(HS.out _ (List.getElem_mem hlt)).1;have d0:∀y:Later (wr.alloc (.cells #[ag (l[k]).nm,ag (l[k]).da] 93)),y.w.cell? ⟨wr.heap.size,0,none⟩=some (ag (l[k]).nm):=bN (World.cell?_alloc_at _ _ _ _ rfl);have hne:Nonempty (Later (wr.alloc (.cells #[ag (l[k]).nm,ag (l[k]).da] 93))):=bO _;by_cases hz0:k=0
    ·have hri:Hid (q9 l k=true):=hide (by rw[hz0];rfl);have hz':decide ((0:Int)<(k:Int))=false:=by simp;omega
     have hz'':decide (0<k)=false:=by simp;omega
     clear hz0;cases q1:oW (l[k]).nm
     ·have HR:Hid (dN l=false):=hide (pQ hlt (by rw[kS hlt,q1];rfl));go_wp2_with fail;refine aU (wr.alloc (.cells #[ag (l[k]).nm,ag (l[k]).da] 93)) (by kernel_rfl) (by kernel_rfl) ((Below.refl _ _).drew) ?_
      repeat (go_big_quiet_step (first|(go_at_call 82;exact jJ q1 (bZ (gD _ _ s1)))))
      refine wpQuiet_nil ?_;intro _ hw';obtain⟨nx,rfl⟩:=hw';go_wp2;go_ret;exact⟨by rw[HR.out];rfl,aJ (aF HB.out _) nx.below⟩
     ·have HG2:Hid (bE (F5 l) (k+1)=true):=hide (dQ HG.out (by rw[kS hlt,q1,hri.out];rfl));go_wp2_with fail;refine aU (wr.alloc (.cells #[ag (l[k]).nm,ag (l[k]).da] 93)) (by kernel_rfl) (by kernel_rfl) ((Below.refl _ _).drew) ?_
      repeat (go_big_quiet_step (first|(go_at_call 82;exact jJ q1 (bZ (gD _ _ s1)))))
      refine wpQuiet_nil ?_;intro _ hw';obtain⟨nx,rfl⟩:=hw';go_wp2;exact⟨⟨k+1,by omega,by go_num,hide (aJ (aF HB.out _) nx.below),HG2⟩,by simp[intOf];omega⟩
    ·obtain⟨m,hm⟩:∃m,k=m+1:=⟨k-1,by omega⟩;have hm3:m<l.length:=by omega
     obtain⟨b',off',heq,hb',p0,_⟩:=iL (HC.below HB.out) m hm3;simp only[Option.some.injEq,Addr.mk.injEq,and_true] at heq;obtain⟨rfl,rfl⟩:=heq;have f0:∀y:Later (wr.alloc (.cells #[ag (l[k]).nm,ag (l[k]).da] 93)),y.w.cell? ⟨b,off+m*2,none⟩=some (ag (l[m]).nm):=BM hb' p0;have hz':(0:Int)<(k:Int):=by omega
     have hm1:IntKind.i64.wrap ((k:Int)-1)=(m:Int):=Bu hm (by omega);have hm2:(m:Int)<(l.length:Int):=by omega
     have hz'':0<k:=by omega
     have hrs:q9 l k=Op.bytesLess (l[m]).nm.toList (l[k]).nm.toList:=by subst hm;exact q8 hlt
     cases q2:Op.bytesLess (l[m]).nm.toList (l[k]).nm.toList
     ·have HR:Hid (dN l=false):=hide (pQ hlt (by rw[kS hlt,hrs,q2];simp));clear hrs hm hz0;cases q1:oW (l[k]).nm;skip
      rotate_left
      skip
      all_goals
       go_wp2_with fail;refine aU (wr.alloc (.cells #[ag (l[k]).nm,ag (l[k]).da] 93)) (by kernel_rfl) (by kernel_rfl) ((Below.refl _ _).drew) ?_
       repeat (go_big_quiet_step (first|(go_at_call 82;exact jJ q1 (bZ (gD _ _ s1)))))
       refine wpQuiet_nil ?_;intro _ hw';obtain⟨nx,rfl⟩:=hw';go_wp2;go_ret;exact⟨by rw[HR.out];rfl,aJ (aF HB.out _) nx.below⟩
     ·cases q1:oW (l[k]).nm
      ·have HR:Hid (dN l=false):=hide (pQ hlt (by rw[kS hlt,q1];rfl));clear hrs hm hz0;go_wp2_with fail;refine aU (wr.alloc (.cells #[ag (l[k]).nm,ag (l[k]).da] 93)) (by kernel_rfl) (by kernel_rfl) ((Below.refl _ _).drew) ?_
       repeat (go_big_quiet_step (first|(go_at_call 82;exact jJ q1 (bZ (gD _ _ s1)))))
       refine wpQuiet_nil ?_;intro _ hw';obtain⟨nx,rfl⟩:=hw';go_wp2;go_ret;exact⟨by rw[HR.out];rfl,aJ (aF HB.out _) nx.below⟩
      ·have HG2:Hid (bE (F5 l) (k+1)=true):=hide (dQ HG.out (by rw[kS hlt,q1,hrs,q2];rfl));clear hrs hm hz0;go_wp2_with fail;refine aU (wr.alloc (.cells #[ag (l[k]).nm,ag (l[k]).da] 93)) (by kernel_rfl) (by kernel_rfl) ((Below.refl _ _).drew) ?_
       repeat (go_big_quiet_step (first|(go_at_call 82;exact jJ q1 (bZ (gD _ _ s1)))))
       refine wpQuiet_nil ?_;intro _ hw';obtain⟨nx,rfl⟩:=hw';go_wp2;exact⟨⟨k+1,by omega,by go_num,hide (aJ (aF HB.out _) nx.below),HG2⟩,by simp[intOf];omega⟩
   ·have hk':¬ (k:Int)<(l.length:Int):=by omega
    have HA:Hid (bE (F5 l) l.length=true):=hide (by
     have h1:=HG.out;rw[show k=l.length by omega] at h1;exact h1)
    have HE:Hid (dN l=ut l):=hide (by
     rw[Ai h60 HA.out,ut,decide_eq_true (show (l.length:Int)<=60 by omega)];rfl)
    go_wp2_with fail;refine(xA a l cap wr h60 HS.out (LZ HA.out) (HC.below HB.out)).mono ?_;rintro e w2⟨hb2,m,β,rfl,hsh⟩;have HB2:=hide (aJ HB.out hb2);have HSH:=hide hsh;have HDL:Hid (iN l<=1000000000):=hide (by
     have:=Ld (l:=l) (by omega) (fun f hf=>(HS.out f hf).2) l.length;rw[List.take_length] at this;omega)
    clear hb2 hsh;go_wp2_with fail;refine(vI _ _ _ l β w2 HDL.out HSH.out).mono ?_;rintro e w3⟨rfl,hb3⟩;have HB3:=hide (aJ HB2.out hb3);clear hb3;go_wp2;go_ret;exact⟨by rw[HE.out];rfl,HB3.out⟩
 ·have HR:Hid (dN l=false):=hide (by simp[dN,h60]);have a2:(60:Int)<(l.length:Int):=by omega
  go_enter func49,ntmps49;go_wp2;go_ret;exact⟨by rw[HR.out];rfl,Below.refl _ _⟩
def O0(l:List Fl):List (List UInt8):=l.map (fun f=>f.nm.data.toList)
theorem sj(s:ByteArray):s.toList=s.data.toList:=Lib.toList_data s
theorem keys_perm{w:World}{m n:Nat}{l:List Fl}{D:DataW Unit}(ho:w.ownsMap prog 9 jo m n D)(hs:mr l){β:ByteArray->Bd}(hat:∀f∈l,∀z,D.atKey (kn f.nm) z=(β f.nm).D)(honly:∀kl,Maps.has D kl=true->∃f∈l,kl=kn f.nm):(O0 l).Perm (strKeys D):=by
 obtain⟨es,rfl,hp,_⟩:=ho.entries qP;obtain⟨es',e,hk⟩:=World.ownsMap.keysOf ho;cases e;refine perm_strKeys hp (fun p hp'=>?_) ?_ (fun x=>?_)
 ·have:=honly p.1 (by
   rw[has_eq,List.any_eq_true];exact⟨p,hp',WideAt.sameKey_self (by
    obtain⟨es2,e2,_,h2⟩:=ho.entries qP;cases e2;exact h2 p hp')⟩)
  obtain⟨f,_,e⟩:=this;exact⟨_,e⟩
 ·unfold O0;refine List.pairwise_map.2 (hs.imp fun{a b} h e=>?_);rw[sj,sj,e] at h;exact List.lt_irrefl _ h
 ·unfold O0;rw[List.mem_map];constructor
  ·rintro⟨f,hf,rfl⟩;exact has_true_of_atKey (hat f hf)
  ·intro h;obtain⟨f,hf,e⟩:=honly _ h;exact⟨f,hf,by simp only[kn,Lit.string.injEq] at e;exact e.symm⟩
theorem GY{l:List Fl}(hs:mr l){ss:List (List UInt8)}(h:(O0 l).Perm ss):ss.mergeSort (fun x y=>decide (x<=y))=O0 l:=by
 have tr:∀a b c:List UInt8,leB a b=true->leB b c=true->leB a c=true:=fun a b c h1 h2=>by simp only[leB,decide_eq_true_eq] at *;exact List.le_trans h1 h2
 have tot:∀a b:List UInt8,(leB a b||leB b a)=true:=fun a b=>by simp only[leB,Bool.or_eq_true,decide_eq_true_eq];exact List.le_total a b
 refine List.Perm.eq_of_pairwise (le:=fun a b=>leB a b=true) (fun a b _ _ h1 h2=>?_) (List.pairwise_mergeSort tr tot ss) ?_ ((List.mergeSort_perm ss leB).trans h.symm)
 ·simp only[leB,decide_eq_true_eq] at h1 h2;exact List.le_antisymm h1 h2
 ·unfold O0;refine List.pairwise_map.2 (hs.imp fun{a b} h=>?_);simp only[leB,decide_eq_true_eq];rw[sj,sj] at h;exact List.le_of_lt h
def uQ(f:Fl):List Value:=[ag f.nm]
theorem O1(f:Fl):(uQ f).length=1:=rfl
theorem QM(l:List Fl):(O0 l).map encStr=l.flatMap uQ:=by
 induction l with
 | nil=>rfl
 | cons f l ih =>
  have e:encStr f.nm.data.toList=ag f.nm:=by simp[encStr]
  show encStr f.nm.data.toList::(O0 l).map encStr=uQ f++l.flatMap uQ;rw[ih,e];rfl
theorem QL{w:World}{a:Option Addr}{l:List Fl}(h:bu 1 uQ w a l)(i:Nat)(hi:i<l.length):∃b off,a=some ⟨b,off,none⟩/\b<w.heap.size/\w.cell? ⟨b,off+i,none⟩=some (ag l[i].nm):=by
 obtain⟨b,off,e,hb,hc⟩:=h i hi;exact⟨b,off,e,hb,by simpa using hc 0 _ rfl⟩
theorem Cr(ps:List ByteArray):(ik ps).data.toList=(ps.map (·.data.toList)).flatten:=by
 induction ps with
 | nil=>rfl
 | cons x xs ih=>simp[ik,ih]
theorem Jk(xs:List (List UInt8)):Lib.join xs []=xs.flatten:=by
 cases xs with
 | nil=>rfl
 | cons x r=>rw[Lib.join_cons,Lib.joinTail];simp
theorem Ph(ps:List ByteArray):(⟨(Lib.join (ps.map (·.data.toList)) (ByteArray.mk #[]).data.toList).toArray⟩:ByteArray)=ik ps:=by
 apply ByteArray.ext;apply Array.toList_inj.1;rw[Cr];show (Lib.join (ps.map (·.data.toList)) []).toArray.toList=_;rw[Jk]
theorem M8(base:Nat)(b:Bd)(w:World)(hp:b.ps.length<=1000000)(hz:(ik b.ps).size<=1000000000)(h:w.ownsRow base 9 1 b.v b.ps.length (strs b.ps)) :
  Calls prog 88 #[af (uy b.a) b.ps.length b.c,ag ⟨#[]⟩] w fun e w'=>e=.returned (ag (ik b.ps))/\Below w.heap.size w w':=by
 have h':=h;obtain⟨_,⟨h0,h1⟩|⟨g,cap,cur,h1,hbg,hg,hn,hc,hsz,ht⟩⟩:=h
 ·have hps:b.ps=[]:=List.eq_nil_of_length_eq_zero h1;rw[hps];exact(strings_Join_none (uy b.a) b.c ⟨#[]⟩ w).mono (fun e w' ⟨he,hw⟩=>⟨by rw[he];rfl,by rw[hw];exact Below.refl _ _⟩)
 ·have e1:af (uy b.a) b.ps.length b.c=af (some ⟨g,0,none⟩) b.ps.length cap:=h1;rw[e1];have hlen:(Lib.join (b.ps.map (·.data.toList)) (ByteArray.mk #[]).data.toList).length<=140737488355328:=by
   show (Lib.join (b.ps.map (·.data.toList)) []).length<=_;rw[Jk,<-Cr,Array.length_toList];show (ik b.ps).size<=_;omega
  have hcell:∀(j:Nat) x,b.ps[j]?=some x->w.cell? ⟨g,0+j,none⟩=some (ag x):=fun j x hj=>by
   have hj2:(strs b.ps)[j]?=some (ag x):=by simp[strs,hj]
   rw[<-ht] at hj2;have h4:cur.toList[j]?=some (ag x):=by
    rw[List.getElem?_take] at hj2;split at hj2
    ·exact hj2
    ·cases hj2
   simp only[World.cell?,hg,Nat.zero_add];simpa using h4
  refine(strings_Join g 0 cap b.ps ⟨#[]⟩ w hcell (Array.getElem?_eq_some_iff.1 hg).1 (by omega) hn hlen).mono (fun e w' ⟨he,hw⟩=>⟨?_,hw⟩);rw[he,Ph]
theorem Q0(v0 v1:Value)(w:World):(Instr.field 136 (aj #[v0,v1]) 0).run prog w=.ok v0 w:=by kernel_rfl
theorem KT(base m N:Nat)(l:List Fl)(β:ByteArray->Bd)(w:World)(hl:l.length<=1000)(hN:N<=1000000)(hd:iN l<=1000000000)(h:Shelf base m l β N w) :
  Calls prog 53 #[.map (some m)] w fun e w'=>Br l w e w':=by
 have HH:=hide h;obtain⟨D,n,hn,hown,hat,honly,hsz⟩:=h.map;have HK:=hide (keys_perm hown h.srt hat honly);have HKM:Hid (Calls prog 87 #[.map (some m)] w fun e w'=>e=.returned (.func (.func 106) #[] #[ai (some ⟨w.heap.size,0,none⟩)])/\w'=w.alloc (.cells #[.map (some m)] 97)):=hide (callsIn_wide.1 (Da (some m) w));have HSO:=hide (callsIn_wide.1 (oI m n D jo w hown (by rw[hsz];unfold maxLen;omega) (by rw[hsz];omega)));have HSR:=hide h.srt;clear hown hat honly hsz h;obtain⟨i0,hi0,hz0,hz1,hz2⟩:=info_parts Fb;have hu:=Tn;go_enter func53,ntmps53;go_wp2_with fail;refine HKM.mono ?_;rintro e w1⟨rfl,hw1⟩;have hw1':=hw1.symm;subst hw1';go_wp2_with fail;refine HSO.mono ?_;rintro e w2⟨v2,ss,rfl,hperm,hrow2,_,hb2⟩;have hml:=GY HSR.out (HK.trans hperm.symm);have hsl:ss.length=l.length:=by rw[hperm.length_eq,<-HK.length_eq];simp[O0]
 rw[hml,QM,hsl] at hrow2;obtain⟨g2,a2,c2,_,rfl,ho2⟩:=ll O1 hrow2;have HB2:Hid (Below w.heap.size w w2):=hide (aJ (aF (Below.refl _ _) _) hb2);have HR2:=hide ho2.rows;clear hperm hrow2 hb2 hml hsl ho2;go_wp2;go_loopw [3,10] (fun v i wr=>∃k:Nat,k<=l.length/\i=ae au (k:Int)/\Hid (Below w2.heap.size w2 wr)/\Hid (wr.ownsRow w2.heap.size 93 2 v k ((l.take k).flatMap aW))) (fun v i wr=>l.length-(intOf i).toNat)
 case atStart=>exact⟨0,Nat.zero_le _,rfl,hide (Below.refl _ _),hide ⟨by simp,.inl ⟨rfl,rfl⟩⟩⟩
 case round =>
  obtain⟨k,hk,rfl,HX,HO⟩:=hrel;obtain⟨va,vc,rfl⟩:=bv HO.out;by_cases hlt:k<l.length
  ·have hlt':(k:Int)<(l.length:Int):=by omega
   obtain⟨b,off,rfl,hb,c0⟩:=QL (HR2.below HX.out) k hlt;have hmem:l[k]∈l:=List.getElem_mem hlt;have HHr:=hide (HH.below (aJ HB2.out HX.out));have hlk:(Instr.lookup 97 (.map (some m)) (ag (l[k]).nm) false).run prog wr=.ok (if false then .tuple #[if gN l (l[k]).nm then (β (l[k]).nm).V else b0.V,.bool (gN l (l[k]).nm)] else if gN l (l[k]).nm then (β (l[k]).nm).V else b0.V) wr:=HHr.look (HHr.nms _ hmem) false 0;rw[nH.2 ⟨l[k],hmem,rfl⟩] at hlk;simp only[Bool.false_eq_true,if_false,if_true,Bd.V] at hlk;have HCA:Hid (ik (β (l[k]).nm).ps=(l[k]).da):=hide (HHr.cat _ hmem);have HJ:Hid (Calls prog 88 #[af (uy (β (l[k]).nm).a) (β (l[k]).nm).ps.length (β (l[k]).nm).c,ag ⟨#[]⟩] wr fun e w'=>e=.returned (ag (l[k]).da)/\Below wr.heap.size wr w'):=hide (by
    rw[<-HCA.out];refine M8 base _ wr (Nat.le_trans (HHr.pcs _ hmem) hN) ?_ (HHr.rows _ hmem);rw[HCA.out];exact Nat.le_trans (Aq hmem) hd)
   have HNX:=hide (dX l k hlt);have hfd:=Q0 (af (uy (β (l[k]).nm).a) (β (l[k]).nm).ps.length (β (l[k]).nm).c) (ae au ((ik (β (l[k]).nm).ps).size:Int)) wr;go_wp2_with fail;refine HJ.mono ?_;rintro e w4⟨rfl,hb4⟩;have HX4:=hide (aJ HX.out hb4);have HO4:=hide (fT HO.out hb4);clear hb4 HX HO hlk hfd;go_wp2_with (first|(at_builtin;refine bI.mk ?_)|fail);refine bI.mk' ?_;refine wpList_append_own_at _ rfl _ _ 34 rfl w2.heap.size 93 i0 _ 2 32 hu hi0 hz0 hz1 hz2 rfl (by decide) (af va k vc) k ((l.take k).flatMap aW) rfl ?own ⟨w4.heap.size,0,none⟩ 1 1 [ag l[k].nm,ag l[k].da] rfl rfl ?news (by simp[Value.oneCell']) (by unfold maxLen;omega) (by omega) ?base ?_
   case own=>exact fT HO4.out (aF (Below.refl _ _) _)
   case news=>exact xJ (World.cell?_alloc_at _ _ _ _ rfl) (World.cell?_alloc_at _ _ _ _ rfl)
   case base=>have:=HX4.size;simp;omega
   intro v6 w6 ho6 hg6 _ _;have HO6:Hid (w6.ownsRow w2.heap.size 93 2 v6 (k+1) ((l.take (k+1)).flatMap aW)):=hide (by
    rw[HNX.out,List.flatMap_append];simpa[aW] using ho6)
   have HX6:Hid (Below w2.heap.size w2 w6):=hide ((aF HX4.out _).grown hg6 (by have:=HX4.size;simp;omega) (fun j hj=>jY HO4.out j hj));clear HO4 ho6 hg6 HX4;go_wp2;exact⟨⟨k+1,by omega,by go_num,HX6,HO6⟩,by simp[intOf];omega⟩
  ·have hlt':¬ (k:Int)<(l.length:Int):=by omega
   have HE:Hid (Br l w (.returned (af va k vc)) wr):=hide (yK (aJ HB2.out HX.out) (by
    have:=HO.out;rw[List.take_of_length_le (by omega)] at this;have hkl:k=l.length:=by omega
    rw[hkl] at this⊢;obtain⟨hl',h0|⟨g,cap,cur,h1,hg,r⟩⟩:=this
    ·exact⟨hl',.inl h0⟩
    ·exact⟨hl',.inr ⟨g,cap,cur,h1,Nat.le_trans HB2.size hg,r⟩⟩))
   go_wp2;go_ret;exact HE.out
end Go.Proofs.YtdbmmdecclalgaaGreatDoor
