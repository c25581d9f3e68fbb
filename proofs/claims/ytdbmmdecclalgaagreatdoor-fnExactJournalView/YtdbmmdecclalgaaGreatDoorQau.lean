import Derived.Test.YtdbmmdecclalgaaGreatDoorQaa
import Derived.Test.YtdbmmdecclalgaaGreatDoorQat
import Derived.Test.YtdbmmdecclalgaaGreatDoorQam
namespace Go.Proofs.YtdbmmdecclalgaaGreatDoor
open Go renaming undef → ak
open Go.Value renaming int → ae, slice → af, string → ag, pointer → ai, agg → aj
open Go.IntKind renaming i64 → au
open Go.ChangeShapes Go.WideShapes Go.ChangeAt Go.RowKit Go.Proofs.Tryz Go.Lib
set_option linter.unusedVariables false
set_option maxRecDepth 100000
set_option maxHeartbeats 8000000
def upd{A:Type}(f:Nat->A)(i:Nat)(v:A):Nat->A:=fun j=>cond (Nat.beq j i) v (f j)
theorem upd_same{A:Type}(f:Nat->A)(i:Nat)(v:A):upd f i v i=v:=by simp[upd]
theorem upd_ne{A:Type}(f:Nat->A){i j:Nat}(v:A)(h:j≠i):upd f i v j=f j:=by
 have e:Nat.beq j i=false:=by
  cases hb:Nat.beq j i
  ·rfl
  ·exact absurd (Nat.eq_of_beq_eq_true hb) h
 simp[upd,e]
def fl(n:Nat)(T:Nat->Bool):Array Bool:=(Array.range n).map T
theorem Jq(n:Nat)(T:Nat->Bool):(fl n T).size=n:=by simp[fl]
theorem NG{n k:Nat}(T:Nat->Bool)(d:Bool)(h:k<n):(fl n T).getD k d=T k:=by simp[fl,h]
theorem QX{n i:Nat}(T:Nat->Bool):(fl n T).setIfInBounds i true=fl n (upd T i true):=by
 refine Array.ext (by simp[fl]) fun j h1 h2=>?_
 rw[Array.getElem_setIfInBounds (by simpa[fl] using h2)];simp only[fl,Array.getElem_map,Array.getElem_range];by_cases e:i=j
 ·rw[if_pos e,<-e,upd_same]
 ·rw[if_neg e,upd_ne _ _ (fun z=>e z.symm)]
def Su(ops:Array Oper)(i k:Nat):Bool:=((ops[i]?).map fun o=>o.after.any fun e=>Region.binds .any e&&e.on==k)==some true
theorem jk{P:Program}{ops:Array Oper}{Q:Exit->Act->World->Prop}{id:Nat}{a:Act}{w:World}(hm:P.follows .mixedOrders=true)(fr:(Nat->Value)->Array Value)(S:(Nat->Bool)->(Nat->Value)->World->Prop)
  (h0:a={tmps:=fr (fun k=>a.tmps.getD k ak),defers:=[]}) (hS:S (fun _=>false) (fun k=>a.tmps.getD k ak) w.drew)
  (ha:∀i (hi:i<ops.size),∀e∈ops[i].after,Region.binds .any e=true->e.on<i)
  (hst:∀T U x i,S T U x->i<ops.size->T i=false->(∀(k:Nat)(hk:Su ops i k=true:=by kernel_rfl),T k=true)->∀K:Act->World->Prop,(∀a' U' x',a'={tmps:=fr U',defers:=[]}->S (upd T i true) U' x'->K a' x')->wpOp P ops Q i K {tmps:=fr U,defers:=[]} x)
  (hen:∀U x,S (fun k=>Nat.blt k ops.size) U x->Q .normal {tmps:=fr U,defers:=[]} x):(Code.region id ops true).wp P Q a w:=by
 refine dw hm (fun L b x=>∃T U,L=fl ops.size T/\(∀k,ops.size<=k->T k=false)/\b={tmps:=fr U,defers:=[]}/\S T U x) ?_ ?_ ?_
 ·rintro L b x i⟨T,U,rfl,hz,rfl,h⟩ hi K hK;have hi':i<ops.size:=by
   obtain⟨_,o,ho,_⟩:=mem_ready.1 hi;exact(Array.getElem?_eq_some_iff.1 ho).1
  refine hst T U x i h hi' ?_ ?_ K (fun a' U' x' e s=>hK _ _ ⟨upd T i true,U',QX T,fun k hk=>?_,e,s⟩)
  ·have:=(mem_ready.1 hi).1;rwa [NG T _ hi'] at this
  ·intro k hk;have hk':=aC hi k (by simpa[Su] using hk);rcases Nat.lt_or_ge k ops.size with q|q
   ·rwa [NG T _ q] at hk'
   ·rw[Array.getD_eq_getD_getElem?,Array.getElem?_eq_none (by rw[Jq];exact q)] at hk';cases hk'
  ·rw[upd_ne _ _ (by omega)];exact hz k hk
 ·rintro L b x⟨T,U,rfl,hz,rfl,h⟩ hr;have hall:=eZ hr (Jq _ _) ha;have e:T=fun k=>Nat.blt k ops.size:=by
   funext k;rcases Nat.lt_or_ge k ops.size with q|q
   ·have:=hall k q;rw[NG T _ q] at this;rw[this];exact(Nat.ble_eq_true_of_le q:Nat.ble (k+1) ops.size=true).symm
   ·rw[hz k q];cases hb:Nat.blt k ops.size
    ·rfl
    ·exact absurd (Nat.le_of_ble_eq_true hb:k+1<=ops.size) (by omega)
  rw[e] at h;exact hen U x h
 ·refine⟨fun _=>false,_,?_,fun _ _=>rfl,h0,hS⟩;refine Array.ext (by simp[fl]) fun j h1 h2=>?_
  simp[fl]
structure TK(s:List UInt8)(D:bM)(p:LP)(b:Bool):Prop where
 yes:b=true->ny D=s/\df D=true
 no:b=false->(∀L,df L=true->ny L≠s)/\D=cZ/\p=dH
 w:og D
 pl:jr p D
 sz:D.aI.length<=1048576/\D.az.length<=1048576/\D.aH.length<=1048576
def SL(s:List UInt8)(w:World)(e:Ending)(w':World):Prop :=
 ∃D p b,TK s D p b/\e=.returned (.tuple #[eD p D,.bool b])/\Pool [] w [bC p D] w'
structure Oy(s q:List UInt8)(L:bM):Prop where
 n:∃n,q.length<=n/\BK s.length s cZ=BK n q L
 sz:L.aI.length+L.az.length+L.aH.length+q.length<=s.length
 w:og L
theorem fG(l:List UInt8):∀x∈bG l,x.length<=l.length:=by
 induction l with
 | nil=>intro x hx;simp[bG] at hx;subst hx;simp
 | cons c r ih =>
  intro x hx;rw[bG] at hx;split at hx
  ·rcases List.mem_cons.1 hx with rfl|h
   ·simp
   ·have:=ih x h;simp;omega
  ·split at hx
   ·simp at hx;subst hx;simp
   ·rename_i a t e;rw[e] at ih;rcases List.mem_cons.1 hx with rfl|h
    ·have:=ih a (by simp);simp;omega
    ·have:=ih x (by simp[h]);simp;omega
theorem si(l:List UInt8):sQ (bL l):=by
 unfold bL;split
 ·rename_i h;unfold gM;rw[if_pos h];simp only[iI,ko,Bool.and_eq_true,decide_eq_true_eq] at h;have:=iJ (kU l) h.1.1.2;split<;>exact⟨by omega,by omega⟩
 ·exact⟨by omega,by omega⟩
theorem Oy.line{s q ln r:List UInt8}{L L':bM}(h:Oy s q L)(hq:q=ln++10::r)(hn:∀b∈ln,b≠10)(e:rE L (bG ln)=L')(hz:L'.aI.length+L'.az.length+L'.aH.length<=L.aI.length+L.az.length+L.aH.length+1)(hw:og L'):Oy s r L':=by
 obtain⟨n,h1,h2⟩:=h.n;have h3:=h.sz;rw[hq] at h1 h2 h3;obtain⟨m,h4,h5⟩:=rF hn n L h1;rw[List.length_append,List.length_cons] at h3;exact⟨⟨m,h4,by rw[h2,h5,e]⟩,by omega,hw⟩
def LC(g:Nat)(vs:List Value):Rs:=⟨[g],fun x=>g<x.heap.size/\∀j u,vs[j]?=some u->x.cell? ⟨g,j,none⟩=some u,fun x y e h=>by
 have e:=e g (by simp);have hlt:g<y.heap.size:=by
  rcases Nat.lt_or_ge g y.heap.size with q|q
  ·exact q
  ·rw[Array.getElem?_eq_none q,Array.getElem?_eq_getElem h.1] at e;cases e
 exact⟨hlt,fun j v hj=>(World.cell?_of_block (a:=⟨g,j,none⟩) e).trans (h.2 j v hj)⟩⟩
theorem Aw(g:Nat)(vs:List Value):(LC g vs).fp=[g]:=rfl
theorem Star.MO{g:Nat}{vs:List Value}{x:World}(h:g<x.heap.size)(hc:∀j u,vs[j]?=some u->x.cell? ⟨g,j,none⟩=some u):Star [LC g vs] x:=Star.one (show (LC g vs).P x from ⟨h,hc⟩) (by simp[Aw]) (fun c hc=>by simp only[Aw,List.mem_singleton] at hc;subst hc;exact h)
theorem Pool.tQ{F:List Nat}{w x:World}{S:List (List Rs)}(h:Pool F w S x){i g:Nat}{vs:List Value}(hi:S[i]?=some [LC g vs]):∀j u,vs[j]?=some u->x.cell? ⟨g,j,none⟩=some u:=((h.get hi).get (r:=LC g vs) (by simp):(LC g vs).P x).2
theorem Iq{ws xs:List (List UInt8)}{w:World}{g:Nat}(h:∀(j:Nat) x,ws[j]?=some x->w.cell? ⟨g,j,none⟩=some (ag (bs x)))(e:ws=xs):∀j u,(xs.map (fun x=>ag (bs x)))[j]?=some u->w.cell? ⟨g,j,none⟩=some u:=by
 subst e;intro j u hu;rw[List.getElem?_map,Option.map_eq_some_iff] at hu;obtain⟨x,hx,rfl⟩:=hu;exact h j x hx
theorem qQ(l:List UInt8):(bs l).toList=l:=by rw[Lib.toList_data,bS]
theorem EN{L:bM}(h:df L=true):(ny L).length<=10000:=by
 unfold ny;rw[if_pos h];exact Nat.le_trans (vP h _ _ _) (by decide)
def jM:Value->Nat
 | ag b=>b.size
 | _=>0
structure SY(w:World)(C G g cap:Nat)(L:bM)(a0:Option Addr)(c0:Nat)(a1:Option Addr)(c1:Nat)(a2:Option Addr)(c2:Nat)(x0 x1 x2 x3 x4:List UInt8)(l17 l18 l20:Bool)(T:Nat->Bool)(U:Nat->Value)(x:World):Prop where
 aT:Pool [] w [[blk C [af none 0 0,af none 0 0,af none 0 0]],cond l20 [blk G [(U 60),af a1 L.az.length c1,af a2 L.aH.length c2]] [blk G [af a0 L.aI.length c0,af a1 L.az.length c1,af a2 L.aH.length c2]],cond l18 [row 106 4 (U 60) (L.aI.length+1) (L.aI.flatMap aL++aL (⟨bs x1,bs x2,bL x3,bL x4⟩:bF))] [row 106 4 (af a0 L.aI.length c0) L.aI.length (L.aI.flatMap aL)],[row 109 4 (af a1 L.az.length c1) L.az.length (L.az.flatMap aG)],[row 112 2 (af a2 L.aH.length c2) L.aH.length (L.aH.flatMap aM)],cond l17 [blk (jP (tJ (U 59))) (aL (⟨bs x1,bs x2,bL x3,bL x4⟩:bF))] [],[LC g [ag (bs x0),ag (bs x1),ag (bs x2),ag (bs x3),ag (bs x4)]]] x
 q17:l17=true->(U 59)=af (some ⟨jP (tJ (U 59)),0,none⟩) 1 1
 dA:l18=true->l17=true
 dL:l18=true->(T 1)=true
 dS:l20=true->l18=true
 p42:(T 0)=true->(U 42)=ai (some ⟨G,0,none⟩)
 p43:(T 1)=true->(U 43)=af a0 L.aI.length c0
 p44:(T 2)=true->(U 44)=af (some ⟨g,0,none⟩) 5 cap
 p45:(T 3)=true->(U 45)=ai (some ⟨g,1,none⟩)
 p46:(T 4)=true->(U 46)=ag (bs x1)
 p47:(T 5)=true->(U 47)=af (some ⟨g,0,none⟩) 5 cap
 p48:(T 6)=true->(U 48)=ai (some ⟨g,2,none⟩)
 p49:(T 7)=true->(U 49)=ag (bs x2)
 p50:(T 8)=true->(U 50)=af (some ⟨g,0,none⟩) 5 cap
 p51:(T 9)=true->(U 51)=ai (some ⟨g,3,none⟩)
 p52:(T 10)=true->(U 52)=ag (bs x3)
 p53:(T 11)=true->(U 53)=ae au (bL x3)
 p54:(T 12)=true->(U 54)=af (some ⟨g,0,none⟩) 5 cap
 p55:(T 13)=true->(U 55)=ai (some ⟨g,4,none⟩)
 p56:(T 14)=true->(U 56)=ag (bs x4)
 p57:(T 15)=true->(U 57)=ae au (bL x4)
 p58:(T 16)=true->(U 58)=aj #[ag (bs x1),ag (bs x2),ae au (bL x3),ae au (bL x4)]
 p61:(T 19)=true->(U 61)=ai (some ⟨G,0,none⟩)
structure SX(w:World)(C G g cap:Nat)(L:bM)(a0:Option Addr)(c0:Nat)(a1:Option Addr)(c1:Nat)(a2:Option Addr)(c2:Nat)(x0 x1 x2 x3 x4:List UInt8)(l17 l18 l20:Bool)(T:Nat->Bool)(U:Nat->Value)(x:World):Prop where
 aT:Pool [] w [[blk C [af none 0 0,af none 0 0,af none 0 0]],cond l20 [blk G [af a0 L.aI.length c0,(U 90),af a2 L.aH.length c2]] [blk G [af a0 L.aI.length c0,af a1 L.az.length c1,af a2 L.aH.length c2]],[row 106 4 (af a0 L.aI.length c0) L.aI.length (L.aI.flatMap aL)],cond l18 [row 109 4 (U 90) (L.az.length+1) (L.az.flatMap aG++aG (⟨bL x1,bs x2,bs x3,bL x4⟩:bP))] [row 109 4 (af a1 L.az.length c1) L.az.length (L.az.flatMap aG)],[row 112 2 (af a2 L.aH.length c2) L.aH.length (L.aH.flatMap aM)],cond l17 [blk (jP (tJ (U 89))) (aG (⟨bL x1,bs x2,bs x3,bL x4⟩:bP))] [],[LC g [ag (bs x0),ag (bs x1),ag (bs x2),ag (bs x3),ag (bs x4)]]] x
 q17:l17=true->(U 89)=af (some ⟨jP (tJ (U 89)),0,none⟩) 1 1
 dA:l18=true->l17=true
 dL:l18=true->(T 1)=true
 dS:l20=true->l18=true
 p72:(T 0)=true->(U 72)=ai (some ⟨G,1,none⟩)
 p73:(T 1)=true->(U 73)=af a1 L.az.length c1
 p74:(T 2)=true->(U 74)=af (some ⟨g,0,none⟩) 5 cap
 p75:(T 3)=true->(U 75)=ai (some ⟨g,1,none⟩)
 p76:(T 4)=true->(U 76)=ag (bs x1)
 p77:(T 5)=true->(U 77)=ae au (bL x1)
 p78:(T 6)=true->(U 78)=af (some ⟨g,0,none⟩) 5 cap
 p79:(T 7)=true->(U 79)=ai (some ⟨g,2,none⟩)
 p80:(T 8)=true->(U 80)=ag (bs x2)
 p81:(T 9)=true->(U 81)=af (some ⟨g,0,none⟩) 5 cap
 p82:(T 10)=true->(U 82)=ai (some ⟨g,3,none⟩)
 p83:(T 11)=true->(U 83)=ag (bs x3)
 p84:(T 12)=true->(U 84)=af (some ⟨g,0,none⟩) 5 cap
 p85:(T 13)=true->(U 85)=ai (some ⟨g,4,none⟩)
 p86:(T 14)=true->(U 86)=ag (bs x4)
 p87:(T 15)=true->(U 87)=ae au (bL x4)
 p88:(T 16)=true->(U 88)=aj #[ae au (bL x1),ag (bs x2),ag (bs x3),ae au (bL x4)]
 p91:(T 19)=true->(U 91)=ai (some ⟨G,1,none⟩)
structure SV(w:World)(C G g cap:Nat)(L:bM)(a0:Option Addr)(c0:Nat)(a1:Option Addr)(c1:Nat)(a2:Option Addr)(c2:Nat)(x0 x1 x2:List UInt8)(l11 l12 l14:Bool)(T:Nat->Bool)(U:Nat->Value)(x:World):Prop where
 aT:Pool [] w [[blk C [af none 0 0,af none 0 0,af none 0 0]],cond l14 [blk G [af a0 L.aI.length c0,af a1 L.az.length c1,(U 114)]] [blk G [af a0 L.aI.length c0,af a1 L.az.length c1,af a2 L.aH.length c2]],[row 106 4 (af a0 L.aI.length c0) L.aI.length (L.aI.flatMap aL)],[row 109 4 (af a1 L.az.length c1) L.az.length (L.az.flatMap aG)],cond l12 [row 112 2 (U 114) (L.aH.length+1) (L.aH.flatMap aM++aM (⟨bL x1,bL x2⟩:Sn))] [row 112 2 (af a2 L.aH.length c2) L.aH.length (L.aH.flatMap aM)],cond l11 [blk (jP (tJ (U 113))) (aM (⟨bL x1,bL x2⟩:Sn))] [],[LC g [ag (bs x0),ag (bs x1),ag (bs x2)]]] x
 q11:l11=true->(U 113)=af (some ⟨jP (tJ (U 113)),0,none⟩) 1 1
 dA:l12=true->l11=true
 dL:l12=true->(T 1)=true
 dS:l14=true->l12=true
 p102:(T 0)=true->(U 102)=ai (some ⟨G,2,none⟩)
 p103:(T 1)=true->(U 103)=af a2 L.aH.length c2
 p104:(T 2)=true->(U 104)=af (some ⟨g,0,none⟩) 3 cap
 p105:(T 3)=true->(U 105)=ai (some ⟨g,1,none⟩)
 p106:(T 4)=true->(U 106)=ag (bs x1)
 p107:(T 5)=true->(U 107)=ae au (bL x1)
 p108:(T 6)=true->(U 108)=af (some ⟨g,0,none⟩) 3 cap
 p109:(T 7)=true->(U 109)=ai (some ⟨g,2,none⟩)
 p110:(T 8)=true->(U 110)=ag (bs x2)
 p111:(T 9)=true->(U 111)=ae au (bL x2)
 p112:(T 10)=true->(U 112)=aj #[ae au (bL x1),ae au (bL x2)]
 p115:(T 13)=true->(U 115)=ai (some ⟨G,2,none⟩)
theorem tZ(s:List UInt8)(w:World)(hs:s.length<=1048576) :
  Calls prog 44 #[ag (bs s)] w fun e w'=>SL s w e w':=by
 obtain⟨i0,hi0,hz0,hy0,hx0⟩:=info_parts vk;obtain⟨i1,hi1,hz1,hy1,hx1⟩:=info_parts kM;obtain⟨i2,hi2,hz2,hy2,hx2⟩:=info_parts um;have HP0:Hid (Pool [] w [[],[],[],[],[],[],[]] w):=hide (Pool.start w [[],[],[],[],[],[],[]] rfl);have hsz:(bs s).size=s.length:=bD s;go_enter func44,ntmps44;go_upto_region 2 with fail
 refine bg (fun W1 hW1=>?_);obtain⟨C,hC⟩:∃C,C=w.heap.size:=⟨_,rfl⟩;obtain⟨G,hG⟩:∃G,G=w.heap.size+1:=⟨_,rfl⟩;have HP1:Hid (Pool [] w [[blk C [af none 0 0,af none 0 0,af none 0 0]],[blk G [af none 0 0,af none 0 0,af none 0 0]],[row 106 4 (af none 0 0) ([]:List bF).length (([]:List bF).flatMap aL)],[row 109 4 (af none 0 0) ([]:List bP).length (([]:List bP).flatMap aG)],[row 112 2 (af none 0 0) ([]:List Sn).length (([]:List Sn).flatMap aM)],[],[]] W1):=hide (by
  have p1:=HP0.aY (i:=0) rfl [af none 0 0,af none 0 0,af none 0 0] 31;have s1:(w.alloc (.cells ([af none 0 0,af none 0 0,af none 0 0]:List Value).toArray 31)).heap.size=w.heap.size+1:=by simp
  have p2:=p1.aY (i:=1) rfl [af none 0 0,af none 0 0,af none 0 0] 31;rw[s1] at p2;rw[<-hG,<-hC] at p2;rw[hW1];exact((p2.rA (i:=2) rfl 106 4).rA (i:=3) rfl 109 4).rA (i:=4) rfl 112 2)
 rw[<-hG,<-hC];clear hW1 HP0 hC hG;go_wp2_with fail;go_loopw [5] (fun v wr=>∃(q:List UInt8)(L:bM)(a0:Option Addr)(c0:Nat)(a1:Option Addr)(c1:Nat)(a2:Option Addr)(c2:Nat),v=ag (bs q)/\Hid (Oy s q L)/\Hid (Pool [] w [[blk C [af none 0 0,af none 0 0,af none 0 0]],[blk G [af a0 L.aI.length c0,af a1 L.az.length c1,af a2 L.aH.length c2]],[row 106 4 (af a0 L.aI.length c0) L.aI.length (L.aI.flatMap aL)],[row 109 4 (af a1 L.az.length c1) L.az.length (L.az.flatMap aG)],[row 112 2 (af a2 L.aH.length c2) L.aH.length (L.aH.flatMap aM)],[],[]] wr)) (fun v wr=>jM v)
 case atStart=>exact⟨s,cZ,none,0,none,0,none,0,rfl,hide ⟨⟨_,Nat.le_refl _,rfl⟩,by simp[cZ],wC⟩,HP1⟩
 case round =>
  obtain⟨q,L,a0,c0,a1,c1,a2,c2,rfl,HI,HPr⟩:=hrel;clear HP1;have hq:=HI.sz;by_cases hbig:s.length<=10000
  ·have hb':(s.length:Int)<=10000:=by omega
   cases hqe:q.isEmpty
   ·have hqe':(bs q).toList.isEmpty=false:=by rw[gY];exact hqe
    have HQE:Hid (q≠[]):=hide (fun z=>by rw[z] at hqe;cases hqe);go_wp2_with fail;refine(wI (bs q) 10 _ (by rw[bD];unfold maxLen;omega)).mono ?_;rintro e w2⟨hk,⟨ln,x,r,e1,ex,hno,rfl⟩|⟨hno,rfl⟩⟩
    ·obtain rfl:x=10:=UInt8.toNat_inj.1 (by have:=ex;simp;omega);have HQ:Hid (q=ln++10::r):=hide (by rw[<-bS q];exact e1);have HNl:Hid (∀b∈ln,b≠10):=hide (fun b hb z=>hno b hb (by rw[z];rfl));have hlen:ln.length+r.length+1=q.length:=by rw[HQ.out];simp;omega
     have HP2:=hide (HPr.keep hk.below);clear hk HPr e1 ex hno hqe hqe';go_wp2_with fail;refine(ow ln _ (by omega)).mono ?_;rintro e w3⟨hb,g,cap,rfl,hg,hc⟩;have HB3:=hide hb;have HG3:=hide hg;have HW:Hid (∀(j:Nat) x,(bG ln)[j]?=some x->w3.cell? ⟨g,j,none⟩=some (ag (bs x))):=hide hc;have hpos:=yT ln;clear hb hc hg;obtain⟨h0,hh0⟩:∃h0,h0=(bG ln).getD 0 []:=⟨_,rfl⟩;have w0:w3.cell? ⟨g,0,none⟩=some (ag (bs h0)):=HW.out 0 h0 (by rw[hh0,List.getD_eq_getElem?_getD,List.getElem?_eq_getElem hpos];simp);obtain⟨m,hm⟩:∃m,m=(bG ln).length:=⟨_,rfl⟩;rw[<-hm] at hpos;rw[<-hm];have HM:Hid ((bG ln).length=m):=hide hm.symm;have HH:Hid (h0=(bG ln).getD 0 []):=hide hh0;clear hm hh0;by_cases hA:h0=AV
     ·have HA:=hide hA;have k0:(bs h0).toList=[97,99,99,111,117,110,116]:=by rw[qQ,hA];rfl
      have k1:¬ (bs h0).toList=[104,111,108,100]:=by rw[qQ,hA];decide
      have k2:¬ (bs h0).toList=[115,101,101,110]:=by rw[qQ,hA];decide
      clear hA;by_cases h5:m=5
      ·subst h5;have e5:(bG ln).length=5:=by rw[HM.out]
       obtain⟨x0,x1,x2,x3,x4,hx⟩:∃x0 x1 x2 x3 x4,bG ln=[x0,x1,x2,x3,x4]:=by
        match bG ln,e5 with
        | [y0,y1,y2,y3,y4],_=>exact⟨_,_,_,_,_,rfl⟩
       have m0:x0.length<=1048576:=by have:=fG ln x0 (by rw[hx];simp);omega
       have m1:x1.length<=1048576:=by have:=fG ln x1 (by rw[hx];simp);omega
       have m2:x2.length<=1048576:=by have:=fG ln x2 (by rw[hx];simp);omega
       have m3:x3.length<=1048576:=by have:=fG ln x3 (by rw[hx];simp);omega
       have m4:x4.length<=1048576:=by have:=fG ln x4 (by rw[hx];simp);omega
       have HP3:Hid (Pool [] w [[blk C [af none 0 0,af none 0 0,af none 0 0]],[blk G [af a0 L.aI.length c0,af a1 L.az.length c1,af a2 L.aH.length c2]],[row 106 4 (af a0 L.aI.length c0) L.aI.length (L.aI.flatMap aL)],[row 109 4 (af a1 L.az.length c1) L.az.length (L.az.flatMap aG)],[row 112 2 (af a2 L.aH.length c2) L.aH.length (L.aH.flatMap aM)],[],[LC g [ag (bs x0),ag (bs x1),ag (bs x2),ag (bs x3),ag (bs x4)]]] w3):=hide (HP2.new (i:=6) rfl HB3.out (Star.MO (dO (HW.out 0 x0 (by rw[hx];rfl))) (Iq HW.out hx)) (fun c hc=>by simp only[fC,Aw,List.mem_singleton] at hc;have:=HG3.out;omega));have HX:Hid (bG ln=_):=hide hx;clear hx e5;go_upto_region 10 with fail
       refine jk (by kernel_rfl) (fun U=>#[ag (bs s),ak,ai (some ⟨C,0,none⟩),u3,ai (some ⟨G,0,none⟩),ag (bs r),ag (bs ln),ag (bs r),Value.bool true,af (some ⟨g,0,none⟩) 5 cap,aj #[af none 0 0,af none 0 0,af none 0 0],ag (bs s),ag (bs q),Value.bool true,Value.bool true,ag (bs s),ae au ↑s.length,Value.bool true,Value.bool true,Value.tuple #[ag (bs ln),ag (bs r),Value.bool true],ag (bs q),Value.tuple #[ag (bs ln),ag (bs r),Value.bool true],ag (bs ln),ag (bs r),Value.bool true,ag (bs r),ag (bs ln),af (some ⟨g,0,none⟩) 5 cap,Value.bool false,Value.bool true,Value.bool false,u31,Value.bool true,af (some ⟨g,0,none⟩) 5 cap,ai (some ⟨g,0,none⟩),ag (bs h0),Value.bool true,Value.bool true,af (some ⟨g,0,none⟩) 5 cap,ae au 5,Value.bool true,Value.bool true,U 42,U 43,U 44,U 45,U 46,U 47,U 48,U 49,U 50,U 51,U 52,U 53,U 54,U 55,U 56,U 57,U 58,U 59,U 60,U 61,u62,u63,u64,u65,u66,u67,u68,u69,u70,u71,u72,u73,u74,u75,u76,u77,u78,u79,u80,u81,u82,u83,u84,u85,u86,u87,u88,u89,u90,u91,u92,u93,u94,u95,u96,u97,u98,u99,u100,u101,u102,u103,u104,u105,u106,u107,u108,u109,u110,u111,u112,u113,u114,u115,ak,ak,ak,ak,ak,ak,ak,ak,ak,ak]) (fun T U x=>SY w C G g cap L a0 c0 a1 c1 a2 c2 x0 x1 x2 x3 x4 (T 17) (T 18) (T 20) T U x) rfl {aT:=HP3.drew,q17:=nofun,dA:=nofun,dL:=nofun,dS:=nofun,p42:=nofun,p43:=nofun,p44:=nofun,p45:=nofun,p46:=nofun,p47:=nofun,p48:=nofun,p49:=nofun,p50:=nofun,p51:=nofun,p52:=nofun,p53:=nofun,p54:=nofun,p55:=nofun,p56:=nofun,p57:=nofun,p58:=nofun,p61:=nofun} (by decide) ?_ ?_
       ·rintro T U x i h hi hf hd K hK;obtain rfl|rfl|rfl|rfl|rfl|rfl|rfl|rfl|rfl|rfl|rfl|rfl|rfl|rfl|rfl|rfl|rfl|rfl|rfl|rfl|rfl:=(by have:i<21:=hi;omega:i=0\/i=1\/i=2\/i=3\/i=4\/i=5\/i=6\/i=7\/i=8\/i=9\/i=10\/i=11\/i=12\/i=13\/i=14\/i=15\/i=16\/i=17\/i=18\/i=19\/i=20)
        ·refine aK (v:=ai (some ⟨G,0,none⟩)) (w':=x) ?_ (hK _ (upd U 42 _) _ rfl {h with p42:=fun _=>rfl});go_simp
        ·have d0:=hd 0;have z18:=nf h.dL hf;have z20:=nf h.dS z18;have cc:=h.aT;rw[z18,z20] at cc;replace cc:=(cc.aB (i:=1) rfl).c 0 _ rfl;refine aK (v:=af a0 L.aI.length c0) (w':=x) ?_ (hK _ (upd U 43 _) _ rfl {h with p43:=fun _=>rfl,dL:=fun _=>rfl});rw[h.p42 d0];go_simp
        ·refine aK (v:=af (some ⟨g,0,none⟩) 5 cap) (w':=x) ?_ (hK _ (upd U 44 _) _ rfl {h with p44:=fun _=>rfl});go_simp
        ·have d2:=hd 2;refine aK (v:=ai (some ⟨g,1,none⟩)) (w':=x) ?_ (hK _ (upd U 45 _) _ rfl {h with p45:=fun _=>rfl});rw[h.p44 d2];go_simp
        ·have d3:=hd 3;have cc:=h.aT.tQ (i:=6) rfl 1 _ rfl;refine aK (v:=ag (bs x1)) (w':=x) ?_ (hK _ (upd U 46 _) _ rfl {h with p46:=fun _=>rfl});rw[h.p45 d3];go_simp
        ·refine aK (v:=af (some ⟨g,0,none⟩) 5 cap) (w':=x) ?_ (hK _ (upd U 47 _) _ rfl {h with p47:=fun _=>rfl});go_simp
        ·have d5:=hd 5;refine aK (v:=ai (some ⟨g,2,none⟩)) (w':=x) ?_ (hK _ (upd U 48 _) _ rfl {h with p48:=fun _=>rfl});rw[h.p47 d5];go_simp
        ·have d6:=hd 6;have cc:=h.aT.tQ (i:=6) rfl 2 _ rfl;refine aK (v:=ag (bs x2)) (w':=x) ?_ (hK _ (upd U 49 _) _ rfl {h with p49:=fun _=>rfl});rw[h.p48 d6];go_simp
        ·refine aK (v:=af (some ⟨g,0,none⟩) 5 cap) (w':=x) ?_ (hK _ (upd U 50 _) _ rfl {h with p50:=fun _=>rfl});go_simp
        ·have d8:=hd 8;refine aK (v:=ai (some ⟨g,3,none⟩)) (w':=x) ?_ (hK _ (upd U 51 _) _ rfl {h with p51:=fun _=>rfl});rw[h.p50 d8];go_simp
        ·have d9:=hd 9;have cc:=h.aT.tQ (i:=6) rfl 3 _ rfl;refine aK (v:=ag (bs x3)) (w':=x) ?_ (hK _ (upd U 52 _) _ rfl {h with p52:=fun _=>rfl});rw[h.p51 d9];go_simp
        ·have d10:=hd 10;refine gF ?_ (jK (bs x3) _ (by rw[bD];unfold maxLen;omega)) ?_
         ·rw[h.p52 d10];go_simp
         ·rintro e w'⟨rfl,rfl⟩;exact⟨_,rfl,hK _ (upd U 53 _) _ rfl {h with p53:=fun _=>rfl}⟩
        ·refine aK (v:=af (some ⟨g,0,none⟩) 5 cap) (w':=x) ?_ (hK _ (upd U 54 _) _ rfl {h with p54:=fun _=>rfl});go_simp
        ·have d12:=hd 12;refine aK (v:=ai (some ⟨g,4,none⟩)) (w':=x) ?_ (hK _ (upd U 55 _) _ rfl {h with p55:=fun _=>rfl});rw[h.p54 d12];go_simp
        ·have d13:=hd 13;have cc:=h.aT.tQ (i:=6) rfl 4 _ rfl;refine aK (v:=ag (bs x4)) (w':=x) ?_ (hK _ (upd U 56 _) _ rfl {h with p56:=fun _=>rfl});rw[h.p55 d13];go_simp
        ·have d14:=hd 14;refine gF ?_ (jK (bs x4) _ (by rw[bD];unfold maxLen;omega)) ?_
         ·rw[h.p56 d14];go_simp
         ·rintro e w'⟨rfl,rfl⟩;exact⟨_,rfl,hK _ (upd U 57 _) _ rfl {h with p57:=fun _=>rfl}⟩
        ·have d4:=hd 4;have d7:=hd 7;have d11:=hd 11;have d15:=hd 15;refine aK (v:=aj #[ag (bs x1),ag (bs x2),ae au (bL x3),ae au (bL x4)]) (w':=x) ?_ (hK _ (upd U 58 _) _ rfl {h with p58:=fun _=>rfl});rw[h.p46 d4,h.p49 d7,h.p53 d11,h.p57 d15];go_simp
        ·have d16:=hd 16;have z18:T 18=false:=nf h.dA hf;have z20:T 20=false:=nf h.dS z18;rw[hf,z18,z20] at h;refine aK (v:=af (some ⟨x.heap.size,0,none⟩) 1 1) (w':=x.alloc (.cells #[ag (bs x1),ag (bs x2),ae au (bL x3),ae au (bL x4)] 106)) ?_ (hK _ (upd U 59 (af (some ⟨x.heap.size,0,none⟩) 1 1)) _ rfl (by show SY _ _ _ _ _ _ _ _ _ _ _ _ _ _ _ _ _ true (T 18) (T 20) _ _ _;rw[z18,z20];exact {h with q17:=(fun _=>rfl),aT:=(h.aT.aY (i:=5) rfl (aL (⟨bs x1,bs x2,bL x3,bL x4⟩:bF)) 106) ,dA:=nofun,dS:=nofun,dL:=nofun}));rw[h.p58 d16];go_simp
        ·have d1:=hd 1;have d17:=hd 17;have z20:T 20=false:=nf h.dS hf;rw[d17,hf,z20] at h;obtain⟨v',z,hr,hp⟩:=h.aT.append (P:=prog) (i0:=2) rfl 27 27 i0 _ 48 underlying27 hi0 hz0 hy0 hx0 rfl (by decide) (some ⟨jP (tJ (U 59)),0,none⟩) 1 1 (aL (⟨bs x1,bs x2,bL x3,bL x4⟩:bF)) rfl (fun e=>by cases e) (gJ (h.aT.aB (i:=5) rfl)) (TW (⟨bs x1,bs x2,bL x3,bL x4⟩:bF)) (by unfold maxLen;omega) (by omega);refine aK (v:=v') (w':=z) ?_ (hK _ (upd U 60 (v')) _ rfl (by show SY _ _ _ _ _ _ _ _ _ _ _ _ _ _ _ _ _ (T 17) true (T 20) _ _ _;rw[d17,z20];exact {h with aT:=(hp) ,dA:=fun _=>rfl,dL:=fun _=>d1,dS:=nofun}));exact eQ rfl (h.p43 d1) (h.q17 rfl) hr
        ·refine aK (v:=ai (some ⟨G,0,none⟩)) (w':=x) ?_ (hK _ (upd U 61 _) _ rfl {h with p61:=fun _=>rfl});go_simp
        ·have d17:=hd 17;have d18:=hd 18;have d19:=hd 19;rw[d17,d18,hf] at h;obtain⟨a6,k6,e6⟩:=bv (h.aT.rowAt (i:=2) rfl);have A6:=h.aT.aB (i:=1) rfl;have t1:=A6.c 0 _ rfl;have f1:=A6.f 0;refine eB (w':=x.setCell ⟨G,0,none⟩ (U 60)) ?_ (hK _ U _ rfl (by show SY _ _ _ _ _ _ _ _ _ _ _ _ _ _ _ _ _ (T 17) (T 18) true _ _ _;rw[d17,d18];exact {h with aT:=(h.aT.aQ (i:=1) rfl 0 (U 60) (by simp)),dS:=fun _=>rfl}));rw[h.p61 d19,e6];go_simp
       ·rintro U x h;replace h:SY w C G g cap L a0 c0 a1 c1 a2 c2 x0 x1 x2 x3 x4 true true true _ U x:=h;obtain⟨a6,k6,e6⟩:=bv (h.aT.rowAt (i:=2) rfl);have HPn:Hid (Pool [] w [[blk C [af none 0 0,af none 0 0,af none 0 0]],[blk G [af a6 (L.aI++[(⟨bs x1,bs x2,bL x3,bL x4⟩:bF)]).length k6,af a1 L.az.length c1,af a2 L.aH.length c2]],[row 106 4 (af a6 (L.aI++[(⟨bs x1,bs x2,bL x3,bL x4⟩:bF)]).length k6) (L.aI++[(⟨bs x1,bs x2,bL x3,bL x4⟩:bF)]).length ((L.aI++[(⟨bs x1,bs x2,bL x3,bL x4⟩:bF)]).flatMap aL)],[row 109 4 (af a1 L.az.length c1) L.az.length (L.az.flatMap aG)],[row 112 2 (af a2 L.aH.length c2) L.aH.length (L.aH.flatMap aM)],[],[]] x):=hide (by
         have z:=(h.aT.drop (i:=5) rfl).drop (i:=6) rfl;rw[e6] at z;have e2:L.aI.flatMap aL++aL (⟨bs x1,bs x2,bL x3,bL x4⟩:bF)=(L.aI++[(⟨bs x1,bs x2,bL x3,bL x4⟩:bF)]).flatMap aL:=by simp
         have e3:L.aI.length+1=(L.aI++[(⟨bs x1,bs x2,bL x3,bL x4⟩:bF)]).length:=by simp
         rw[e2,e3] at z;exact z)
        have HIn:Hid (Oy s r ⟨L.aI++[⟨bs x1,bs x2,bL x3,bL x4⟩],L.az,L.aH⟩):=hide (HI.line HQ.out HNl.out (by rw[HX.out];have z:=HH.out;rw[HX.out,HA.out] at z;simp only[List.getD_cons_zero] at z;rw[<-z];rfl) (by simp;omega) ⟨fun z hz=>(by rcases List.mem_append.1 hz with q|q;exact HI.w.aI z q;rw[List.mem_singleton.1 q];exact⟨oh m1,oh m2,si _,si _⟩),HI.w.az,HI.w.aH⟩);have hsr:jM (ag (bs r))<jM (ag (bs q)):=by simp only[jM,bD];omega
        clear h e6;go_wp2;exact⟨⟨r,⟨L.aI++[⟨bs x1,bs x2,bL x3,bL x4⟩],L.az,L.aH⟩,a6,k6,a1,c1,a2,c2,rfl,HIn,HPn⟩,hsr⟩
      ·have h5':¬ (m:Int)=5:=by omega
       have HP3:=hide (HP2.keep HB3.out);have HIn:Hid (Oy s r L):=hide (HI.line HQ.out HNl.out (by rw[rE,<-HH.out,HM.out,HA.out];simp[h5,AV,Bh,A7]) (by omega) HI.w);have hsr:jM (ag (bs r))<jM (ag (bs q)):=by simp only[jM,bD];omega
       go_wp2_with fail;exact⟨⟨r,L,a0,c0,a1,c1,a2,c2,rfl,HIn,HP3⟩,hsr⟩
     ·have n0:=hA;clear hA;by_cases hA:h0=Bh
      ·have HA:=hide hA;have k0:¬ (bs h0).toList=[97,99,99,111,117,110,116]:=by rw[qQ,hA];decide
       have k1:(bs h0).toList=[104,111,108,100]:=by rw[qQ,hA];rfl
       have k2:¬ (bs h0).toList=[115,101,101,110]:=by rw[qQ,hA];decide
       clear hA n0;by_cases h5:m=5
       ·subst h5;have e5:(bG ln).length=5:=by rw[HM.out]
        obtain⟨x0,x1,x2,x3,x4,hx⟩:∃x0 x1 x2 x3 x4,bG ln=[x0,x1,x2,x3,x4]:=by
         match bG ln,e5 with
         | [y0,y1,y2,y3,y4],_=>exact⟨_,_,_,_,_,rfl⟩
        have m0:x0.length<=1048576:=by have:=fG ln x0 (by rw[hx];simp);omega
        have m1:x1.length<=1048576:=by have:=fG ln x1 (by rw[hx];simp);omega
        have m2:x2.length<=1048576:=by have:=fG ln x2 (by rw[hx];simp);omega
        have m3:x3.length<=1048576:=by have:=fG ln x3 (by rw[hx];simp);omega
        have m4:x4.length<=1048576:=by have:=fG ln x4 (by rw[hx];simp);omega
        have HP3:Hid (Pool [] w [[blk C [af none 0 0,af none 0 0,af none 0 0]],[blk G [af a0 L.aI.length c0,af a1 L.az.length c1,af a2 L.aH.length c2]],[row 106 4 (af a0 L.aI.length c0) L.aI.length (L.aI.flatMap aL)],[row 109 4 (af a1 L.az.length c1) L.az.length (L.az.flatMap aG)],[row 112 2 (af a2 L.aH.length c2) L.aH.length (L.aH.flatMap aM)],[],[LC g [ag (bs x0),ag (bs x1),ag (bs x2),ag (bs x3),ag (bs x4)]]] w3):=hide (HP2.new (i:=6) rfl HB3.out (Star.MO (dO (HW.out 0 x0 (by rw[hx];rfl))) (Iq HW.out hx)) (fun c hc=>by simp only[fC,Aw,List.mem_singleton] at hc;have:=HG3.out;omega));have HX:Hid (bG ln=_):=hide hx;clear hx e5;go_upto_region 12 with fail
        refine jk (by kernel_rfl) (fun U=>#[ag (bs s),ak,ai (some ⟨C,0,none⟩),u3,ai (some ⟨G,0,none⟩),ag (bs r),ag (bs ln),ag (bs r),Value.bool true,af (some ⟨g,0,none⟩) 5 cap,aj #[af none 0 0,af none 0 0,af none 0 0],ag (bs s),ag (bs q),Value.bool true,Value.bool true,ag (bs s),ae au ↑s.length,Value.bool true,Value.bool true,Value.tuple #[ag (bs ln),ag (bs r),Value.bool true],ag (bs q),Value.tuple #[ag (bs ln),ag (bs r),Value.bool true],ag (bs ln),ag (bs r),Value.bool true,ag (bs r),ag (bs ln),af (some ⟨g,0,none⟩) 5 cap,Value.bool false,Value.bool true,Value.bool false,u31,Value.bool false,af (some ⟨g,0,none⟩) 5 cap,ai (some ⟨g,0,none⟩),ag (bs h0),Value.bool false,Value.bool false,ak,ak,ak,Value.bool false,u42,u43,u44,u45,u46,u47,u48,u49,u50,u51,u52,u53,u54,u55,u56,u57,u58,u59,u60,u61,Value.bool true,af (some ⟨g,0,none⟩) 5 cap,ai (some ⟨g,0,none⟩),ag (bs h0),Value.bool true,Value.bool true,af (some ⟨g,0,none⟩) 5 cap,ae au 5,Value.bool true,Value.bool true,U 72,U 73,U 74,U 75,U 76,U 77,U 78,U 79,U 80,U 81,U 82,U 83,U 84,U 85,U 86,U 87,U 88,U 89,U 90,U 91,u92,u93,u94,u95,u96,u97,u98,u99,u100,u101,u102,u103,u104,u105,u106,u107,u108,u109,u110,u111,u112,u113,u114,u115,ak,ak,ak,ak,ak,ak,ak,ak,ak,ak]) (fun T U x=>SX w C G g cap L a0 c0 a1 c1 a2 c2 x0 x1 x2 x3 x4 (T 17) (T 18) (T 20) T U x) rfl {aT:=HP3.drew,q17:=nofun,dA:=nofun,dL:=nofun,dS:=nofun,p72:=nofun,p73:=nofun,p74:=nofun,p75:=nofun,p76:=nofun,p77:=nofun,p78:=nofun,p79:=nofun,p80:=nofun,p81:=nofun,p82:=nofun,p83:=nofun,p84:=nofun,p85:=nofun,p86:=nofun,p87:=nofun,p88:=nofun,p91:=nofun} (by decide) ?_ ?_
        ·rintro T U x i h hi hf hd K hK;obtain rfl|rfl|rfl|rfl|rfl|rfl|rfl|rfl|rfl|rfl|rfl|rfl|rfl|rfl|rfl|rfl|rfl|rfl|rfl|rfl|rfl:=(by have:i<21:=hi;omega:i=0\/i=1\/i=2\/i=3\/i=4\/i=5\/i=6\/i=7\/i=8\/i=9\/i=10\/i=11\/i=12\/i=13\/i=14\/i=15\/i=16\/i=17\/i=18\/i=19\/i=20)
         ·refine aK (v:=ai (some ⟨G,1,none⟩)) (w':=x) ?_ (hK _ (upd U 72 _) _ rfl {h with p72:=fun _=>rfl});go_simp
         ·have d0:=hd 0;have z18:=nf h.dL hf;have z20:=nf h.dS z18;have cc:=h.aT;rw[z18,z20] at cc;replace cc:=(cc.aB (i:=1) rfl).c 1 _ rfl;refine aK (v:=af a1 L.az.length c1) (w':=x) ?_ (hK _ (upd U 73 _) _ rfl {h with p73:=fun _=>rfl,dL:=fun _=>rfl});rw[h.p72 d0];go_simp
         ·refine aK (v:=af (some ⟨g,0,none⟩) 5 cap) (w':=x) ?_ (hK _ (upd U 74 _) _ rfl {h with p74:=fun _=>rfl});go_simp
         ·have d2:=hd 2;refine aK (v:=ai (some ⟨g,1,none⟩)) (w':=x) ?_ (hK _ (upd U 75 _) _ rfl {h with p75:=fun _=>rfl});rw[h.p74 d2];go_simp
         ·have d3:=hd 3;have cc:=h.aT.tQ (i:=6) rfl 1 _ rfl;refine aK (v:=ag (bs x1)) (w':=x) ?_ (hK _ (upd U 76 _) _ rfl {h with p76:=fun _=>rfl});rw[h.p75 d3];go_simp
         ·have d4:=hd 4;refine gF ?_ (jK (bs x1) _ (by rw[bD];unfold maxLen;omega)) ?_
          ·rw[h.p76 d4];go_simp
          ·rintro e w'⟨rfl,rfl⟩;exact⟨_,rfl,hK _ (upd U 77 _) _ rfl {h with p77:=fun _=>rfl}⟩
         ·refine aK (v:=af (some ⟨g,0,none⟩) 5 cap) (w':=x) ?_ (hK _ (upd U 78 _) _ rfl {h with p78:=fun _=>rfl});go_simp
         ·have d6:=hd 6;refine aK (v:=ai (some ⟨g,2,none⟩)) (w':=x) ?_ (hK _ (upd U 79 _) _ rfl {h with p79:=fun _=>rfl});rw[h.p78 d6];go_simp
         ·have d7:=hd 7;have cc:=h.aT.tQ (i:=6) rfl 2 _ rfl;refine aK (v:=ag (bs x2)) (w':=x) ?_ (hK _ (upd U 80 _) _ rfl {h with p80:=fun _=>rfl});rw[h.p79 d7];go_simp
         ·refine aK (v:=af (some ⟨g,0,none⟩) 5 cap) (w':=x) ?_ (hK _ (upd U 81 _) _ rfl {h with p81:=fun _=>rfl});go_simp
         ·have d9:=hd 9;refine aK (v:=ai (some ⟨g,3,none⟩)) (w':=x) ?_ (hK _ (upd U 82 _) _ rfl {h with p82:=fun _=>rfl});rw[h.p81 d9];go_simp
         ·have d10:=hd 10;have cc:=h.aT.tQ (i:=6) rfl 3 _ rfl;refine aK (v:=ag (bs x3)) (w':=x) ?_ (hK _ (upd U 83 _) _ rfl {h with p83:=fun _=>rfl});rw[h.p82 d10];go_simp
         ·refine aK (v:=af (some ⟨g,0,none⟩) 5 cap) (w':=x) ?_ (hK _ (upd U 84 _) _ rfl {h with p84:=fun _=>rfl});go_simp
         ·have d12:=hd 12;refine aK (v:=ai (some ⟨g,4,none⟩)) (w':=x) ?_ (hK _ (upd U 85 _) _ rfl {h with p85:=fun _=>rfl});rw[h.p84 d12];go_simp
         ·have d13:=hd 13;have cc:=h.aT.tQ (i:=6) rfl 4 _ rfl;refine aK (v:=ag (bs x4)) (w':=x) ?_ (hK _ (upd U 86 _) _ rfl {h with p86:=fun _=>rfl});rw[h.p85 d13];go_simp
         ·have d14:=hd 14;refine gF ?_ (jK (bs x4) _ (by rw[bD];unfold maxLen;omega)) ?_
          ·rw[h.p86 d14];go_simp
          ·rintro e w'⟨rfl,rfl⟩;exact⟨_,rfl,hK _ (upd U 87 _) _ rfl {h with p87:=fun _=>rfl}⟩
         ·have d5:=hd 5;have d8:=hd 8;have d11:=hd 11;have d15:=hd 15;refine aK (v:=aj #[ae au (bL x1),ag (bs x2),ag (bs x3),ae au (bL x4)]) (w':=x) ?_ (hK _ (upd U 88 _) _ rfl {h with p88:=fun _=>rfl});rw[h.p77 d5,h.p80 d8,h.p83 d11,h.p87 d15];go_simp
         ·have d16:=hd 16;have z18:T 18=false:=nf h.dA hf;have z20:T 20=false:=nf h.dS z18;rw[hf,z18,z20] at h;refine aK (v:=af (some ⟨x.heap.size,0,none⟩) 1 1) (w':=x.alloc (.cells #[ae au (bL x1),ag (bs x2),ag (bs x3),ae au (bL x4)] 109)) ?_ (hK _ (upd U 89 (af (some ⟨x.heap.size,0,none⟩) 1 1)) _ rfl (by show SX _ _ _ _ _ _ _ _ _ _ _ _ _ _ _ _ _ true (T 18) (T 20) _ _ _;rw[z18,z20];exact {h with q17:=(fun _=>rfl),aT:=(h.aT.aY (i:=5) rfl (aG (⟨bL x1,bs x2,bs x3,bL x4⟩:bP)) 109) ,dA:=nofun,dS:=nofun,dL:=nofun}));rw[h.p88 d16];go_simp
         ·have d1:=hd 1;have d17:=hd 17;have z20:T 20=false:=nf h.dS hf;rw[d17,hf,z20] at h;obtain⟨v',z,hr,hp⟩:=h.aT.append (P:=prog) (i0:=3) rfl 28 28 i1 _ 48 underlying28 hi1 hz1 hy1 hx1 rfl (by decide) (some ⟨jP (tJ (U 89)),0,none⟩) 1 1 (aG (⟨bL x1,bs x2,bs x3,bL x4⟩:bP)) rfl (fun e=>by cases e) (gJ (h.aT.aB (i:=5) rfl)) (ho1 (⟨bL x1,bs x2,bs x3,bL x4⟩:bP)) (by unfold maxLen;omega) (by omega);refine aK (v:=v') (w':=z) ?_ (hK _ (upd U 90 (v')) _ rfl (by show SX _ _ _ _ _ _ _ _ _ _ _ _ _ _ _ _ _ (T 17) true (T 20) _ _ _;rw[d17,z20];exact {h with aT:=(hp) ,dA:=fun _=>rfl,dL:=fun _=>d1,dS:=nofun}));exact eQ rfl (h.p73 d1) (h.q17 rfl) hr
         ·refine aK (v:=ai (some ⟨G,1,none⟩)) (w':=x) ?_ (hK _ (upd U 91 _) _ rfl {h with p91:=fun _=>rfl});go_simp
         ·have d17:=hd 17;have d18:=hd 18;have d19:=hd 19;rw[d17,d18,hf] at h;obtain⟨a6,k6,e6⟩:=bv (h.aT.rowAt (i:=3) rfl);have A6:=h.aT.aB (i:=1) rfl;have t1:=A6.c 1 _ rfl;have f1:=A6.f 1;refine eB (w':=x.setCell ⟨G,1,none⟩ (U 90)) ?_ (hK _ U _ rfl (by show SX _ _ _ _ _ _ _ _ _ _ _ _ _ _ _ _ _ (T 17) (T 18) true _ _ _;rw[d17,d18];exact {h with aT:=(h.aT.aQ (i:=1) rfl 1 (U 90) (by simp)),dS:=fun _=>rfl}));rw[h.p91 d19,e6];go_simp
        ·rintro U x h;replace h:SX w C G g cap L a0 c0 a1 c1 a2 c2 x0 x1 x2 x3 x4 true true true _ U x:=h;obtain⟨a6,k6,e6⟩:=bv (h.aT.rowAt (i:=3) rfl);have HPn:Hid (Pool [] w [[blk C [af none 0 0,af none 0 0,af none 0 0]],[blk G [af a0 L.aI.length c0,af a6 (L.az++[(⟨bL x1,bs x2,bs x3,bL x4⟩:bP)]).length k6,af a2 L.aH.length c2]],[row 106 4 (af a0 L.aI.length c0) L.aI.length (L.aI.flatMap aL)],[row 109 4 (af a6 (L.az++[(⟨bL x1,bs x2,bs x3,bL x4⟩:bP)]).length k6) (L.az++[(⟨bL x1,bs x2,bs x3,bL x4⟩:bP)]).length ((L.az++[(⟨bL x1,bs x2,bs x3,bL x4⟩:bP)]).flatMap aG)],[row 112 2 (af a2 L.aH.length c2) L.aH.length (L.aH.flatMap aM)],[],[]] x):=hide (by
          have z:=(h.aT.drop (i:=5) rfl).drop (i:=6) rfl;rw[e6] at z;have e2:L.az.flatMap aG++aG (⟨bL x1,bs x2,bs x3,bL x4⟩:bP)=(L.az++[(⟨bL x1,bs x2,bs x3,bL x4⟩:bP)]).flatMap aG:=by simp
          have e3:L.az.length+1=(L.az++[(⟨bL x1,bs x2,bs x3,bL x4⟩:bP)]).length:=by simp
          rw[e2,e3] at z;exact z)
         have HIn:Hid (Oy s r ⟨L.aI,L.az++[⟨bL x1,bs x2,bs x3,bL x4⟩],L.aH⟩):=hide (HI.line HQ.out HNl.out (by rw[HX.out];have z:=HH.out;rw[HX.out,HA.out] at z;simp only[List.getD_cons_zero] at z;rw[<-z];rfl) (by simp;omega) ⟨HI.w.aI,fun z hz=>(by rcases List.mem_append.1 hz with q|q;exact HI.w.az z q;rw[List.mem_singleton.1 q];exact⟨oh m2,oh m3,si _,si _⟩),HI.w.aH⟩);have hsr:jM (ag (bs r))<jM (ag (bs q)):=by simp only[jM,bD];omega
         clear h e6;go_wp2;exact⟨⟨r,⟨L.aI,L.az++[⟨bL x1,bs x2,bs x3,bL x4⟩],L.aH⟩,a0,c0,a6,k6,a2,c2,rfl,HIn,HPn⟩,hsr⟩
       ·have h5':¬ (m:Int)=5:=by omega
        have HP3:=hide (HP2.keep HB3.out);have HIn:Hid (Oy s r L):=hide (HI.line HQ.out HNl.out (by rw[rE,<-HH.out,HM.out,HA.out];simp[h5,AV,Bh,A7]) (by omega) HI.w);have hsr:jM (ag (bs r))<jM (ag (bs q)):=by simp only[jM,bD];omega
        go_wp2_with fail;exact⟨⟨r,L,a0,c0,a1,c1,a2,c2,rfl,HIn,HP3⟩,hsr⟩
      ·have n1:=hA;clear hA;by_cases hA:h0=A7
       ·have HA:=hide hA;have k0:¬ (bs h0).toList=[97,99,99,111,117,110,116]:=by rw[qQ,hA];decide
        have k1:¬ (bs h0).toList=[104,111,108,100]:=by rw[qQ,hA];decide
        have k2:(bs h0).toList=[115,101,101,110]:=by rw[qQ,hA];rfl
        clear hA n0 n1;by_cases h5:m=3
        ·subst h5;have e3:(bG ln).length=3:=by rw[HM.out]
         obtain⟨x0,x1,x2,hx⟩:∃x0 x1 x2,bG ln=[x0,x1,x2]:=by
          match bG ln,e3 with
          | [y0,y1,y2],_=>exact⟨_,_,_,rfl⟩
         have m0:x0.length<=1048576:=by have:=fG ln x0 (by rw[hx];simp);omega
         have m1:x1.length<=1048576:=by have:=fG ln x1 (by rw[hx];simp);omega
         have m2:x2.length<=1048576:=by have:=fG ln x2 (by rw[hx];simp);omega
         have HP3:Hid (Pool [] w [[blk C [af none 0 0,af none 0 0,af none 0 0]],[blk G [af a0 L.aI.length c0,af a1 L.az.length c1,af a2 L.aH.length c2]],[row 106 4 (af a0 L.aI.length c0) L.aI.length (L.aI.flatMap aL)],[row 109 4 (af a1 L.az.length c1) L.az.length (L.az.flatMap aG)],[row 112 2 (af a2 L.aH.length c2) L.aH.length (L.aH.flatMap aM)],[],[LC g [ag (bs x0),ag (bs x1),ag (bs x2)]]] w3):=hide (HP2.new (i:=6) rfl HB3.out (Star.MO (dO (HW.out 0 x0 (by rw[hx];rfl))) (Iq HW.out hx)) (fun c hc=>by simp only[fC,Aw,List.mem_singleton] at hc;have:=HG3.out;omega));have HX:Hid (bG ln=_):=hide hx;clear hx e3;go_upto_region 14 with fail
         refine jk (by kernel_rfl) (fun U=>#[ag (bs s),ak,ai (some ⟨C,0,none⟩),u3,ai (some ⟨G,0,none⟩),ag (bs r),ag (bs ln),ag (bs r),Value.bool true,af (some ⟨g,0,none⟩) 3 cap,aj #[af none 0 0,af none 0 0,af none 0 0],ag (bs s),ag (bs q),Value.bool true,Value.bool true,ag (bs s),ae au ↑s.length,Value.bool true,Value.bool true,Value.tuple #[ag (bs ln),ag (bs r),Value.bool true],ag (bs q),Value.tuple #[ag (bs ln),ag (bs r),Value.bool true],ag (bs ln),ag (bs r),Value.bool true,ag (bs r),ag (bs ln),af (some ⟨g,0,none⟩) 3 cap,Value.bool false,Value.bool true,Value.bool false,u31,Value.bool false,af (some ⟨g,0,none⟩) 3 cap,ai (some ⟨g,0,none⟩),ag (bs h0),Value.bool false,Value.bool false,ak,ak,ak,Value.bool false,u42,u43,u44,u45,u46,u47,u48,u49,u50,u51,u52,u53,u54,u55,u56,u57,u58,u59,u60,u61,Value.bool false,af (some ⟨g,0,none⟩) 3 cap,ai (some ⟨g,0,none⟩),ag (bs h0),Value.bool false,Value.bool false,ak,ak,ak,Value.bool false,u72,u73,u74,u75,u76,u77,u78,u79,u80,u81,u82,u83,u84,u85,u86,u87,u88,u89,u90,u91,Value.bool true,af (some ⟨g,0,none⟩) 3 cap,ai (some ⟨g,0,none⟩),ag (bs h0),Value.bool true,Value.bool true,af (some ⟨g,0,none⟩) 3 cap,ae au 3,Value.bool true,Value.bool true,U 102,U 103,U 104,U 105,U 106,U 107,U 108,U 109,U 110,U 111,U 112,U 113,U 114,U 115,ak,ak,ak,ak,ak,ak,ak,ak,ak,ak]) (fun T U x=>SV w C G g cap L a0 c0 a1 c1 a2 c2 x0 x1 x2 (T 11) (T 12) (T 14) T U x) rfl {aT:=HP3.drew,q11:=nofun,dA:=nofun,dL:=nofun,dS:=nofun,p102:=nofun,p103:=nofun,p104:=nofun,p105:=nofun,p106:=nofun,p107:=nofun,p108:=nofun,p109:=nofun,p110:=nofun,p111:=nofun,p112:=nofun,p115:=nofun} (by decide) ?_ ?_
         ·rintro T U x i h hi hf hd K hK;obtain rfl|rfl|rfl|rfl|rfl|rfl|rfl|rfl|rfl|rfl|rfl|rfl|rfl|rfl|rfl:=(by have:i<15:=hi;omega:i=0\/i=1\/i=2\/i=3\/i=4\/i=5\/i=6\/i=7\/i=8\/i=9\/i=10\/i=11\/i=12\/i=13\/i=14)
          ·refine aK (v:=ai (some ⟨G,2,none⟩)) (w':=x) ?_ (hK _ (upd U 102 _) _ rfl {h with p102:=fun _=>rfl});go_simp
          ·have d0:=hd 0;have z12:=nf h.dL hf;have z14:=nf h.dS z12;have cc:=h.aT;rw[z12,z14] at cc;replace cc:=(cc.aB (i:=1) rfl).c 2 _ rfl;refine aK (v:=af a2 L.aH.length c2) (w':=x) ?_ (hK _ (upd U 103 _) _ rfl {h with p103:=fun _=>rfl,dL:=fun _=>rfl});rw[h.p102 d0];go_simp
          ·refine aK (v:=af (some ⟨g,0,none⟩) 3 cap) (w':=x) ?_ (hK _ (upd U 104 _) _ rfl {h with p104:=fun _=>rfl});go_simp
          ·have d2:=hd 2;refine aK (v:=ai (some ⟨g,1,none⟩)) (w':=x) ?_ (hK _ (upd U 105 _) _ rfl {h with p105:=fun _=>rfl});rw[h.p104 d2];go_simp
          ·have d3:=hd 3;have cc:=h.aT.tQ (i:=6) rfl 1 _ rfl;refine aK (v:=ag (bs x1)) (w':=x) ?_ (hK _ (upd U 106 _) _ rfl {h with p106:=fun _=>rfl});rw[h.p105 d3];go_simp
          ·have d4:=hd 4;refine gF ?_ (jK (bs x1) _ (by rw[bD];unfold maxLen;omega)) ?_
           ·rw[h.p106 d4];go_simp
           ·rintro e w'⟨rfl,rfl⟩;exact⟨_,rfl,hK _ (upd U 107 _) _ rfl {h with p107:=fun _=>rfl}⟩
          ·refine aK (v:=af (some ⟨g,0,none⟩) 3 cap) (w':=x) ?_ (hK _ (upd U 108 _) _ rfl {h with p108:=fun _=>rfl});go_simp
          ·have d6:=hd 6;refine aK (v:=ai (some ⟨g,2,none⟩)) (w':=x) ?_ (hK _ (upd U 109 _) _ rfl {h with p109:=fun _=>rfl});rw[h.p108 d6];go_simp
          ·have d7:=hd 7;have cc:=h.aT.tQ (i:=6) rfl 2 _ rfl;refine aK (v:=ag (bs x2)) (w':=x) ?_ (hK _ (upd U 110 _) _ rfl {h with p110:=fun _=>rfl});rw[h.p109 d7];go_simp
          ·have d8:=hd 8;refine gF ?_ (jK (bs x2) _ (by rw[bD];unfold maxLen;omega)) ?_
           ·rw[h.p110 d8];go_simp
           ·rintro e w'⟨rfl,rfl⟩;exact⟨_,rfl,hK _ (upd U 111 _) _ rfl {h with p111:=fun _=>rfl}⟩
          ·have d5:=hd 5;have d9:=hd 9;refine aK (v:=aj #[ae au (bL x1),ae au (bL x2)]) (w':=x) ?_ (hK _ (upd U 112 _) _ rfl {h with p112:=fun _=>rfl});rw[h.p107 d5,h.p111 d9];go_simp
          ·have d10:=hd 10;have z12:T 12=false:=nf h.dA hf;have z14:T 14=false:=nf h.dS z12;rw[hf,z12,z14] at h;refine aK (v:=af (some ⟨x.heap.size,0,none⟩) 1 1) (w':=x.alloc (.cells #[ae au (bL x1),ae au (bL x2)] 112)) ?_ (hK _ (upd U 113 (af (some ⟨x.heap.size,0,none⟩) 1 1)) _ rfl (by show SV _ _ _ _ _ _ _ _ _ _ _ _ _ _ _ true (T 12) (T 14) _ _ _;rw[z12,z14];exact {h with q11:=(fun _=>rfl),aT:=(h.aT.aY (i:=5) rfl (aM (⟨bL x1,bL x2⟩:Sn)) 112) ,dA:=nofun,dS:=nofun,dL:=nofun}));rw[h.p112 d10];go_simp
          ·have d1:=hd 1;have d11:=hd 11;have z14:T 14=false:=nf h.dS hf;rw[d11,hf,z14] at h;obtain⟨v',z,hr,hp⟩:=h.aT.append (P:=prog) (i0:=4) rfl 29 29 i2 _ 16 underlying29 hi2 hz2 hy2 hx2 rfl (by decide) (some ⟨jP (tJ (U 113)),0,none⟩) 1 1 (aM (⟨bL x1,bL x2⟩:Sn)) rfl (fun e=>by cases e) (gJ (h.aT.aB (i:=5) rfl)) (TR (⟨bL x1,bL x2⟩:Sn)) (by unfold maxLen;omega) (by omega);refine aK (v:=v') (w':=z) ?_ (hK _ (upd U 114 (v')) _ rfl (by show SV _ _ _ _ _ _ _ _ _ _ _ _ _ _ _ (T 11) true (T 14) _ _ _;rw[d11,z14];exact {h with aT:=(hp) ,dA:=fun _=>rfl,dL:=fun _=>d1,dS:=nofun}));exact eQ rfl (h.p103 d1) (h.q11 rfl) hr
          ·refine aK (v:=ai (some ⟨G,2,none⟩)) (w':=x) ?_ (hK _ (upd U 115 _) _ rfl {h with p115:=fun _=>rfl});go_simp
          ·have d11:=hd 11;have d12:=hd 12;have d13:=hd 13;rw[d11,d12,hf] at h;obtain⟨a6,k6,e6⟩:=bv (h.aT.rowAt (i:=4) rfl);have A6:=h.aT.aB (i:=1) rfl;have t1:=A6.c 2 _ rfl;have f1:=A6.f 2;refine eB (w':=x.setCell ⟨G,2,none⟩ (U 114)) ?_ (hK _ U _ rfl (by show SV _ _ _ _ _ _ _ _ _ _ _ _ _ _ _ (T 11) (T 12) true _ _ _;rw[d11,d12];exact {h with aT:=(h.aT.aQ (i:=1) rfl 2 (U 114) (by simp)),dS:=fun _=>rfl}));rw[h.p115 d13,e6];go_simp
         ·rintro U x h;replace h:SV w C G g cap L a0 c0 a1 c1 a2 c2 x0 x1 x2 true true true _ U x:=h;obtain⟨a6,k6,e6⟩:=bv (h.aT.rowAt (i:=4) rfl);have HPn:Hid (Pool [] w [[blk C [af none 0 0,af none 0 0,af none 0 0]],[blk G [af a0 L.aI.length c0,af a1 L.az.length c1,af a6 (L.aH++[(⟨bL x1,bL x2⟩:Sn)]).length k6]],[row 106 4 (af a0 L.aI.length c0) L.aI.length (L.aI.flatMap aL)],[row 109 4 (af a1 L.az.length c1) L.az.length (L.az.flatMap aG)],[row 112 2 (af a6 (L.aH++[(⟨bL x1,bL x2⟩:Sn)]).length k6) (L.aH++[(⟨bL x1,bL x2⟩:Sn)]).length ((L.aH++[(⟨bL x1,bL x2⟩:Sn)]).flatMap aM)],[],[]] x):=hide (by
           have z:=(h.aT.drop (i:=5) rfl).drop (i:=6) rfl;rw[e6] at z;have e2:L.aH.flatMap aM++aM (⟨bL x1,bL x2⟩:Sn)=(L.aH++[(⟨bL x1,bL x2⟩:Sn)]).flatMap aM:=by simp
           have e3:L.aH.length+1=(L.aH++[(⟨bL x1,bL x2⟩:Sn)]).length:=by simp
           rw[e2,e3] at z;exact z)
          have HIn:Hid (Oy s r ⟨L.aI,L.az,L.aH++[⟨bL x1,bL x2⟩]⟩):=hide (HI.line HQ.out HNl.out (by rw[HX.out];have z:=HH.out;rw[HX.out,HA.out] at z;simp only[List.getD_cons_zero] at z;rw[<-z];rfl) (by simp;omega) ⟨HI.w.aI,HI.w.az,fun z hz=>(by rcases List.mem_append.1 hz with q|q;exact HI.w.aH z q;rw[List.mem_singleton.1 q];exact⟨si _,si _⟩)⟩);have hsr:jM (ag (bs r))<jM (ag (bs q)):=by simp only[jM,bD];omega
          clear h e6;go_wp2;exact⟨⟨r,⟨L.aI,L.az,L.aH++[⟨bL x1,bL x2⟩]⟩,a0,c0,a1,c1,a6,k6,rfl,HIn,HPn⟩,hsr⟩
        ·have h5':¬ (m:Int)=3:=by omega
         have HP3:=hide (HP2.keep HB3.out);have HIn:Hid (Oy s r L):=hide (HI.line HQ.out HNl.out (by rw[rE,<-HH.out,HM.out,HA.out];simp[h5,AV,Bh,A7]) (by omega) HI.w);have hsr:jM (ag (bs r))<jM (ag (bs q)):=by simp only[jM,bD];omega
         go_wp2_with fail;exact⟨⟨r,L,a0,c0,a1,c1,a2,c2,rfl,HIn,HP3⟩,hsr⟩
       ·have n2:=hA;clear hA;have k0:¬ (bs h0).toList=[97,99,99,111,117,110,116]:=by rw[qQ];exact n0
        have k1:¬ (bs h0).toList=[104,111,108,100]:=by rw[qQ];exact n1
        have k2:¬ (bs h0).toList=[115,101,101,110]:=by rw[qQ];exact n2
        have HP3:=hide (HP2.keep HB3.out);have HIn:Hid (Oy s r L):=hide (HI.line HQ.out HNl.out (by rw[rE,<-HH.out];simp[n0,n1,n2]) (by omega) HI.w);have hsr:jM (ag (bs r))<jM (ag (bs q)):=by simp only[jM,bD];omega
        go_wp2_with fail;exact⟨⟨r,L,a0,c0,a1,c1,a2,c2,rfl,HIn,HP3⟩,hsr⟩
    ·have HNb:Hid (∀b∈q,b≠10):=hide (fun b hb z=>hno b (by rw[bS];exact hb) (by rw[z];rfl));have HP2:=hide (HPr.keep hk.below);clear hk HPr hno hqe hqe';go_wp2_with fail;refine(ow q _ (by omega)).mono ?_;rintro e w3⟨hb,g,cap,rfl,hg,hc⟩;have HP3:=hide (HP2.keep hb);clear hb hc HP2 hg;obtain⟨⟨z0,z1,z2⟩,y0,y1,y2⟩:=HP3.cells3 (i:=0) rfl;have p1:=HP3.qM (i:=0) rfl (af none 0 0) (af none 0 0) (af none 0 0);obtain⟨⟨x0,x1,x2⟩,_⟩:=p1.cells3 (i:=0) rfl;have HB:Hid (Pool [] w [bC dH cZ] _):=hide ((((((((p1.drop (i:=0) rfl).drop (i:=1) rfl).drop (i:=2) rfl).drop (i:=3) rfl).drop (i:=4) rfl).drop (i:=5) rfl).lq (i:=0) rfl).cast (by simp));clear p1;go_wp2_with fail;refine bodyPost_ret (v:=.tuple #[eD dH cZ,.bool false]) (by simp[results,results44,go_sem,x0,x1,x2,eD,dH,cZ]) rfl ⟨cZ,dH,false,⟨nofun,fun _=>⟨fun D hD e=>?_,rfl,rfl⟩,wC,ib,by simp[cZ]⟩,rfl,HB.out⟩;have h1:=EJ hD s.length (by rw[e];exact Nat.le_refl _);obtain⟨n,hn,en⟩:=HI.n;rw[e,en,O5 HNb.out HQE.out n L hn] at h1;cases h1
   ·have hqe':(bs q).toList.isEmpty=true:=by rw[gY];exact hqe
    have HQE:Hid (q=[]):=hide (by simpa using hqe);obtain⟨b0,k0,e0,s0,p0⟩:=Pool.iT mq HPr.out (i:=2) rfl;obtain⟨b1,k1,e1,s1,p1⟩:=Pool.iT gH p0 (i:=3) rfl;obtain⟨b2,k2,e2,s2,p2⟩:=Pool.iT kC p1 (i:=4) rfl;simp only[Value.slice.injEq,true_and] at e0 e1 e2;obtain⟨rfl,rfl⟩:=e0;obtain⟨rfl,rfl⟩:=e1;obtain⟨rfl,rfl⟩:=e2;have HPK:Hid (jr ⟨a0,c0,a1,c1,a2,c2⟩ L):=hide ⟨s0,s1,s2⟩;have HP6:Hid (Pool [] w [[blk C [af none 0 0,af none 0 0,af none 0 0]],[blk G [af a0 L.aI.length c0,af a1 L.az.length c1,af a2 L.aH.length c2]],bC ⟨a0,c0,a1,c1,a2,c2⟩ L] wr):=hide (p2.cast (by simp[bC]));clear HPr s0 s1 s2 p0 p1 p2;have HLd:Hid (iO wr a0 a1 a2 L):=hide (by
     have st:=HP6.get (i:=2) rfl;exact⟨(st.get (r:=bA 4 aL a0 c0 L.aI) (by simp[bC])).2.rows.aI HI.w.aI,(st.get (r:=bA 4 aG a1 c1 L.az) (by simp[bC])).2.rows.az HI.w.az,(st.get (r:=bA 2 aM a2 c2 L.aH) (by simp[bC])).2.rows.ans HI.w.aH⟩)
    have g0:=(HP6.aB (i:=1) rfl).c 0 _ rfl;have g1:=(HP6.aB (i:=1) rfl).c 1 _ rfl;have g2:=(HP6.aB (i:=1) rfl).c 2 _ rfl;cases hse:s.isEmpty
    ·have hse':(bs s).toList.isEmpty=false:=by rw[gY];exact hse
     have HSE:Hid (s≠[]):=hide (fun z=>by rw[z] at hse;cases hse);go_wp2_with fail;refine(qL a0 a1 a2 L c0 c1 c2 _ HLd.out (by omega) (by omega) (by omega)).mono ?_;rintro e w4⟨rfl,hb⟩;have HP7:=hide (HP6.keep hb);clear hb HP6 HLd g0 g1 g2;cases hcmp:((bs (ny L)).toList==(bs s).toList)
     ·have HNe:Hid (ny L≠s):=hide (fun z=>by rw[z] at hcmp;simp at hcmp);obtain⟨⟨z0,z1,z2⟩,y0,y1,y2⟩:=HP7.cells3 (i:=0) rfl;have p1:=HP7.qM (i:=0) rfl (af none 0 0) (af none 0 0) (af none 0 0);obtain⟨⟨x0,x1,x2⟩,_⟩:=p1.cells3 (i:=0) rfl;have HB:Hid (Pool [] w [bC dH cZ] _):=hide (((((p1.drop (i:=0) rfl).drop (i:=1) rfl).drop (i:=2) rfl).lq (i:=0) rfl).cast (by simp));clear p1;go_wp2_with fail;refine bodyPost_ret (v:=.tuple #[eD dH cZ,.bool false]) (by simp[results,results44,go_sem,x0,x1,x2,eD,dH,cZ]) rfl ⟨cZ,dH,false,⟨nofun,fun _=>⟨fun D hD e=>?_,rfl,rfl⟩,wC,ib,by simp[cZ]⟩,rfl,HB.out⟩;have h1:=EJ hD s.length (by rw[e];exact Nat.le_refl _);obtain⟨n,hn,en⟩:=HI.n;rw[e,en,HQE.out,I6] at h1;cases h1;exact HNe.out e
     ·have HEq:Hid (ny L=s):=hide (by rw[mi] at hcmp;simpa using hcmp);have g0:=(HP7.aB (i:=1) rfl).c 0 _ rfl;have g1:=(HP7.aB (i:=1) rfl).c 1 _ rfl;have g2:=(HP7.aB (i:=1) rfl).c 2 _ rfl;obtain⟨⟨z0,z1,z2⟩,y0,y1,y2⟩:=HP7.cells3 (i:=0) rfl;have p1:=HP7.qM (i:=0) rfl (af a0 L.aI.length c0) (af a1 L.az.length c1) (af a2 L.aH.length c2);obtain⟨⟨x0,x1,x2⟩,_⟩:=p1.cells3 (i:=0) rfl;have HB:Hid (Pool [] w [bC ⟨a0,c0,a1,c1,a2,c2⟩ L] _):=hide (((p1.drop (i:=0) rfl).drop (i:=1) rfl).cast (by simp));clear p1;go_wp2_with fail;refine bodyPost_ret (v:=.tuple #[eD ⟨a0,c0,a1,c1,a2,c2⟩ L,.bool true]) (by simp[results,results44,go_sem,x0,x1,x2,eD]) rfl ⟨L,⟨a0,c0,a1,c1,a2,c2⟩,true,⟨fun _=>⟨HEq.out,?_⟩,nofun,HI.w,HPK.out,⟨by omega,by omega,by omega⟩⟩,rfl,HB.out⟩;cases hl:df L
      ·exact absurd (by rw[<-HEq.out];simp[ny,hl]) HSE.out
      ·rfl
    ·have hse':(bs s).toList.isEmpty=true:=by rw[gY];exact hse
     have HSE:Hid (s=[]):=hide (by simpa using hse);obtain⟨⟨z0,z1,z2⟩,y0,y1,y2⟩:=HP6.cells3 (i:=0) rfl;have p1:=HP6.qM (i:=0) rfl (af none 0 0) (af none 0 0) (af none 0 0);obtain⟨⟨x0,x1,x2⟩,_⟩:=p1.cells3 (i:=0) rfl;have HB:Hid (Pool [] w [bC dH cZ] _):=hide (((((p1.drop (i:=0) rfl).drop (i:=1) rfl).drop (i:=2) rfl).lq (i:=0) rfl).cast (by simp));clear p1;go_wp2_with fail;refine bodyPost_ret (v:=.tuple #[eD dH cZ,.bool false]) (by simp[results,results44,go_sem,x0,x1,x2,eD,dH,cZ]) rfl ⟨cZ,dH,false,⟨nofun,fun _=>⟨fun D hD e=>?_,rfl,rfl⟩,wC,ib,by simp[cZ]⟩,rfl,HB.out⟩;rw[yL hD,HSE.out] at e;simp[OE] at e
  ·have hb':¬ (s.length:Int)<=10000:=by omega
   cases hqe:q.isEmpty;have hqe':(bs q).toList.isEmpty=false:=by rw[gY];exact hqe
   rotate_left
   have hqe':(bs q).toList.isEmpty=true:=by rw[gY];exact hqe
   all_goals
    obtain⟨b0,k0,e0,s0,p0⟩:=Pool.iT mq HPr.out (i:=2) rfl;obtain⟨b1,k1,e1,s1,p1⟩:=Pool.iT gH p0 (i:=3) rfl;obtain⟨b2,k2,e2,s2,p2⟩:=Pool.iT kC p1 (i:=4) rfl;simp only[Value.slice.injEq,true_and] at e0 e1 e2;obtain⟨rfl,rfl⟩:=e0;obtain⟨rfl,rfl⟩:=e1;obtain⟨rfl,rfl⟩:=e2;have HPK:Hid (jr ⟨a0,c0,a1,c1,a2,c2⟩ L):=hide ⟨s0,s1,s2⟩;have HP6:Hid (Pool [] w [[blk C [af none 0 0,af none 0 0,af none 0 0]],[blk G [af a0 L.aI.length c0,af a1 L.az.length c1,af a2 L.aH.length c2]],bC ⟨a0,c0,a1,c1,a2,c2⟩ L] wr):=hide (p2.cast (by simp[bC]));clear HPr s0 s1 s2 p0 p1 p2;have HLd:Hid (iO wr a0 a1 a2 L):=hide (by
     have st:=HP6.get (i:=2) rfl;exact⟨(st.get (r:=bA 4 aL a0 c0 L.aI) (by simp[bC])).2.rows.aI HI.w.aI,(st.get (r:=bA 4 aG a1 c1 L.az) (by simp[bC])).2.rows.az HI.w.az,(st.get (r:=bA 2 aM a2 c2 L.aH) (by simp[bC])).2.rows.ans HI.w.aH⟩)
    have g0:=(HP6.aB (i:=1) rfl).c 0 _ rfl;have g1:=(HP6.aB (i:=1) rfl).c 1 _ rfl;have g2:=(HP6.aB (i:=1) rfl).c 2 _ rfl;have hse':(bs s).toList.isEmpty=false:=by rw[gY];cases hz:s.isEmpty;rfl;exact absurd (by rw[List.isEmpty_iff.1 hz];simp:s.length<=10000) hbig
    have HSE:Hid (s≠[]):=hide (fun z=>by rw[z] at hbig;exact hbig (by simp));go_wp2_with fail;refine(qL a0 a1 a2 L c0 c1 c2 _ HLd.out (by omega) (by omega) (by omega)).mono ?_;rintro e w4⟨rfl,hb⟩;have HP7:=hide (HP6.keep hb);clear hb HP6 HLd g0 g1 g2;cases hcmp:((bs (ny L)).toList==(bs s).toList)
    ·have HNe:Hid (ny L≠s):=hide (fun z=>by rw[z] at hcmp;simp at hcmp);obtain⟨⟨z0,z1,z2⟩,y0,y1,y2⟩:=HP7.cells3 (i:=0) rfl;have p1:=HP7.qM (i:=0) rfl (af none 0 0) (af none 0 0) (af none 0 0);obtain⟨⟨x0,x1,x2⟩,_⟩:=p1.cells3 (i:=0) rfl;have HB:Hid (Pool [] w [bC dH cZ] _):=hide (((((p1.drop (i:=0) rfl).drop (i:=1) rfl).drop (i:=2) rfl).lq (i:=0) rfl).cast (by simp));clear p1;go_wp2_with fail;refine bodyPost_ret (v:=.tuple #[eD dH cZ,.bool false]) (by simp[results,results44,go_sem,x0,x1,x2,eD,dH,cZ]) rfl ⟨cZ,dH,false,⟨nofun,fun _=>⟨fun D hD e=>?_,rfl,rfl⟩,wC,ib,by simp[cZ]⟩,rfl,HB.out⟩;exact hbig (by rw[<-e];exact EN hD)
    ·have q:ny L=s:=by rw[mi] at hcmp;simpa using hcmp
     cases hl:df L
     ·exact absurd (by rw[<-q];simp[ny,hl]) HSE.out
     ·exact absurd (by rw[<-q];exact EN hl) hbig
end Go.Proofs.YtdbmmdecclalgaaGreatDoor
