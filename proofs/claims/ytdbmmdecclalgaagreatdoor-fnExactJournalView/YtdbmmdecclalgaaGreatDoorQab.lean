import Derived.Test.YtdbmmdecclalgaaGreatDoorQaa
import Derived.Below
import Derived.Lib.ItoaNum
import Derived.Laws.BytesArg
namespace Go.Proofs.YtdbmmdecclalgaaGreatDoor
open Go.Value renaming int → ae, slice → af, string → ag, agg → aj
open Go.IntKind renaming i64 → au
open Go.Proofs.Tryz Go.ChangeShapes Go.WideShapes Go.ChangeAt Go.RowKit
set_option linter.unusedVariables false
set_option maxRecDepth 100000
set_option maxHeartbeats 2000000
def dg(n:Nat):UInt8:=UInt8.ofNat (48+n%10)
def nZ:Nat->Nat->List UInt8->List UInt8
 | 0,_,aI=>aI
 | f+1,n,aI=>if n<10 then dg n::aI else nZ f (n/10) (dg n::aI)
def dec(n:Nat):List UInt8:=nZ 20 n []
def Ls(n:Int):List UInt8 :=
 if -1000000000000<=n/\n<=1000000000000 then
  (if n<0 then [45] else [])++(dec (n.natAbs/100)++[46,dg (n.natAbs/10),dg n.natAbs])
 else []
theorem pR(n:Nat):(dg n).toNat=48+n%10:=by
 unfold dg;rw[UInt8.toNat_ofNat'];omega
theorem gI(f n:Nat)(aI:List UInt8)(h:n<10):nZ (f+1) n aI=dg n::aI:=by
 simp[nZ,h]
theorem lT(f n:Nat)(aI:List UInt8)(h:10<=n):nZ (f+1) n aI=nZ f (n/10) (dg n::aI):=by
 simp[nZ,show ¬ n<10 by omega]
def cO:List UInt8->Int->Int
 | [],a=>a
 | c::cs,a=>if c.toNat=46 then cO cs a else cO cs (10*a+c.toNat-48)
theorem vB(xs ys:List UInt8)(a:Int):cO (xs++ys) a=cO ys (cO xs a):=by
 induction xs generalizing a with
 | nil=>rfl
 | cons c cs ih=>simp only[List.cons_append,cO];split<;>exact ih _
theorem zX(n:Nat)(cs:List UInt8)(a:Int):cO (dg n::cs) a=cO cs (10*a+(n%10:Nat)):=by
 simp only[cO,pR];rw[if_neg (by omega)];congr 1;omega
theorem Hl(f n:Nat)(aI:List UInt8)(h:n<10 ^ (f+1)):cO (nZ (f+1) n aI) 0=cO aI n:=by
 induction f generalizing n aI with
 | zero=>rw[gI _ _ _ (by simpa using h),zX];congr 1;simp at h;omega
 | succ f ih =>
  by_cases hn:n<10
  ·rw[gI _ _ _ hn,zX];congr 1;omega
  ·rw[lT _ _ _ (by omega),ih _ _ (by rw[Nat.pow_succ] at h;omega),zX];congr 1;omega
theorem wL(n:Nat)(h:n<10 ^ 20):cO (dec n) 0=n:=by
 unfold dec;rw[Hl 19 n [] h];rfl
theorem Ih(f n:Nat)(aI:List UInt8)(hacc:∀c∈aI,48<=c.toNat/\c.toNat<=57):∀c∈nZ f n aI,48<=c.toNat/\c.toNat<=57:=by
 induction f generalizing n aI with
 | zero=>exact hacc
 | succ f ih =>
  have h':∀c∈dg n::aI,48<=c.toNat/\c.toNat<=57:=by
   intro c hc;rcases List.mem_cons.1 hc with rfl|hc
   ·rw[pR];omega
   ·exact hacc c hc
  simp only[nZ];split
  ·exact h'
  ·exact ih _ _ h'
theorem mW(n:Nat):∀c∈dec n,48<=c.toNat/\c.toNat<=57:=Ih 20 n [] (by simp)
theorem NT(f k n:Nat)(aI:List UInt8)(h:n<10 ^ (k+1))(hk:k<=f):(nZ (f+1) n aI).length<=k+1+aI.length:=by
 induction k generalizing n aI f with
 | zero=>rw[gI _ _ _ (by simpa using h)];simp;omega
 | succ k ih =>
  by_cases hn:n<10
  ·rw[gI _ _ _ hn];simp;omega
  ·obtain⟨f,rfl⟩:∃g,f=g+1:=⟨f-1,by omega⟩;rw[lT _ _ _ (by omega)];have:=ih f (n/10) (dg n::aI) (by rw[Nat.pow_succ] at h;omega) (by omega);simp at this;omega
theorem vK(k n:Nat)(h:n<10 ^ (k+1))(hk:k<=19):(dec n).length<=k+1:=by
 have:=NT 19 k n [] h hk;simpa[dec] using this
def bs(l:List UInt8):ByteArray:=⟨l.toArray⟩
theorem bD(l:List UInt8):(bs l).size=l.length:=by simp[bs,ByteArray.size]
theorem bS(l:List UInt8):(bs l).data.toList=l:=by simp[bs]
theorem gQ{r:ByteArray}{l:List UInt8}(h:r.data.toList=l):r=bs l:=by subst h;simp[bs]
theorem uZ(c:UInt8)(b:ByteArray):(({data:=#[c]}:ByteArray)++b).data.toList=c::b.data.toList:=by simp
theorem EF(c:UInt8)(b:ByteArray):(({data:=#[c]}:ByteArray)++b).size=b.size+1:=by
 rw[ByteArray.size_append];show 1+b.size=_;omega
theorem Al(n:Nat)(h:n<10):UInt8.ofNat (48+n)=dg n:=by unfold dg;rw[Nat.mod_eq_of_lt h]
theorem PG(f k:Nat)(b:ByteArray)(l:List UInt8)(h:nZ (f+1) k b.data.toList=l)(hk:k<10):({data:=#[UInt8.ofNat (48+k)]}:ByteArray)++b=bs l:=by
 apply gQ;rw[uZ,Al k hk,<-gI f k _ hk];exact h
theorem NS(f k:Nat)(b:ByteArray)(l:List UInt8)(h:nZ (f+2) k b.data.toList=l)(hk:10<=k):nZ (f+1) (k/10) (({data:=#[UInt8.ofNat (48+k%10)]}:ByteArray)++b).data.toList=l:=by
 rw[uZ];rw[lT _ _ _ hk] at h;exact h
structure Kept(w w':World):Prop where
 grown:Grown w w'
 below:Below w.heap.size w w'
theorem Kept.refl(w:World):Kept w w:=⟨Grown.refl _,Below.refl _ _⟩
theorem Kept.trans{a b c:World}(h:Kept a b)(k:Kept b c):Kept a c :=
 ⟨⟨World.keptBut_trans h.grown.1 k.grown.1,fun x=>(k.grown.2.1 x).trans (h.grown.2.1 x),Nat.le_trans h.grown.2.2 k.grown.2.2⟩,h.below.trans (k.below.mono h.below.size)⟩
theorem Kept.alloc{a w:World}(h:Kept a w)(c:Array Value)(t:TypeId):Kept a (w.alloc (.cells c t)):=⟨h.grown.alloc c t,h.below.alloc h.below.size _⟩
theorem Kept.setCell{a w:World}(h:Kept a w){p:Addr}(hp:a.heap.size<=p.block)(v:Value):Kept a (w.setCell p v):=⟨h.grown.setCell hp v,h.below.setCell hp v⟩
theorem Kept.drew{a w:World}(h:Kept a w):Kept a w.drew:=⟨h.grown.drew,h.below.drew⟩
theorem Qm(w:World)(a:Int):(convert 160 9 (af (some ⟨w.heap.size,0,none⟩) 1 1)).run prog (w.alloc (.cells #[.int .u8 a] 5))=.ok (ag ⟨#[UInt8.ofNat a.toNat]⟩) (w.alloc (.cells #[.int .u8 a] 5)):=by
 have h:=run_convert_bytes_arg (P:=prog) (w.alloc (.cells #[.int .u8 a] 5)) 160 5 underlying160 underlying5 w.heap.size 0 1 1 [a] rfl (fun i hi=>by
  obtain rfl:i=0:=by omega
  simp) 9 underlying9
 rw[h];rfl
theorem BQ(n:Int)(w:World)(h0:0<=n)(h1:n<=1000000000000000) :
  Calls prog 96 #[ae au n] w fun e w'=>e=.returned (ag (bs (dec n.toNat)))/\Kept w w':=by
 have a1:¬ n<0:=by omega
 go_enter func96,ntmps96;go_wp2;go_loopw [0,3] (fun i s w'=>∃(k:Int)(f:Nat),0<=k/\k<=n/\i=ae au k/\∃b:ByteArray,s=ag b/\Kept w w'/\b.size+f<=19/\Hid (k.toNat<10 ^ (f+1))/\Hid (nZ (f+1) k.toNat b.data.toList=dec n.toNat)) (fun i s w=>(intOf i).toNat)
 case atStart=>exact⟨n,19,h0,by omega,rfl,_,rfl,Kept.refl _,by decide,hide (by omega),hide rfl⟩
 case round =>
  obtain⟨k,f,hk,hk2,rfl,b,rfl,HK,hb,HP,HD⟩:=hrel;have hc:=Qm;by_cases h:10<=k
  ·have HD2:Hid (∃g,f=g+1/\(k/10).toNat<10 ^ (g+1)/\nZ (g+1) (k/10).toNat (({data:=#[UInt8.ofNat (48+k%10).toNat]}:ByteArray)++b).data.toList=dec n.toNat):=hide (by
    have hp:=HP.out;have hd:=HD.out;obtain⟨g,rfl⟩:∃g,f=g+1:=by
     rcases f with _|g
     ·simp at hp;omega
     ·exact⟨g,rfl⟩
    refine⟨g,rfl,by rw[Nat.pow_succ] at hp;omega,?_⟩;have:=NS g k.toNat b _ hd (by omega);rw[show (k/10).toNat=k.toNat/10 by omega,show (48+k%10).toNat=48+k.toNat%10 by omega];exact this)
   clear HP HD;go_wp2;obtain⟨g,rfl,hp,hd⟩:=HD2.out;exact⟨⟨k/10,g,by omega,by omega,rfl,_,rfl,HK.alloc _ _,by rw[EF];omega,hide hp,hide hd⟩,by simp[intOf];omega⟩
  ·have HD2:Hid (({data:=#[UInt8.ofNat (48+k).toNat]}:ByteArray)++b=bs (dec n.toNat)):=hide (by
    have:=PG f k.toNat b _ HD.out (by omega);rw[show (48+k).toNat=48+k.toNat by omega];exact this)
   clear HP HD;go_wp2;go_ret;exact⟨by rw[<-HD2.out];rfl,HK.alloc _ _⟩
theorem bH(n lo hi:Int)(w:World) :
  Calls prog 103 #[ae au n,ae au lo,ae au hi] w fun e w'=>e=.returned (.bool (eu lo hi n))/\w'=w:=by
 by_cases h1:lo<=n
 ·by_cases h2:n<=hi
  ·have HR:Hid (eu lo hi n=true):=hide (by simp[eu,h1,h2]);go_enter func103,ntmps103;go_wp2;go_ret;exact⟨by rw[HR.out];rfl,rfl⟩
  ·have HR:Hid (eu lo hi n=false):=hide (by simp[eu,h1,h2]);go_enter func103,ntmps103;go_wp2;go_ret;exact⟨by rw[HR.out];rfl,rfl⟩
 ·have HR:Hid (eu lo hi n=false):=hide (by simp[eu,h1]);go_enter func103,ntmps103;go_wp2;go_ret;exact⟨by rw[HR.out];rfl,rfl⟩
theorem bz(n lo hi:Int)(w:World) :
  Calls prog 66 #[ae au n,ae au lo,ae au hi] w fun e w'=>e=.returned (.bool (eu lo hi n))/\w'=w:=by
 by_cases h1:lo<=n
 ·by_cases h2:n<=hi
  ·have HR:Hid (eu lo hi n=true):=hide (by simp[eu,h1,h2]);go_enter func66,ntmps66;go_wp2;go_ret;exact⟨by rw[HR.out];rfl,rfl⟩
  ·have HR:Hid (eu lo hi n=false):=hide (by simp[eu,h1,h2]);go_enter func66,ntmps66;go_wp2;go_ret;exact⟨by rw[HR.out];rfl,rfl⟩
 ·have HR:Hid (eu lo hi n=false):=hide (by simp[eu,h1]);go_enter func66,ntmps66;go_wp2;go_ret;exact⟨by rw[HR.out];rfl,rfl⟩
theorem Ao:∀(f n:Nat)(aI:List UInt8),n<10 ^ (f+1)->nZ (f+1) n aI=Lib.decDigits n++aI
 | 0,n,aI,h=>by
  have h':n<10:=by simpa using h
  rw[gI _ _ _ h',Lib.decDigits,dif_pos h',Al n h'];rfl
 | f+1,n,aI,h=>by
  by_cases hn:n<10
  ·rw[gI _ _ _ hn,Lib.decDigits,dif_pos hn,Al n hn];rfl
  ·rw[lT _ _ _ (by omega),Ao f (n/10) _ (by rw[Nat.pow_succ] at h;omega)];conv=>rhs;rw[Lib.decDigits,dif_neg hn]
   simp[dg]
theorem Jt{n:Nat}(h:n<10 ^ 20):dec n=Lib.decDigits n:=by
 unfold dec;rw[Ao 19 n [] h,List.append_nil]
theorem pF{n:Int}(h:0<=n)(h1:n<=1000000000000000):dec n.toNat=Lib.itoa n:=by
 rw[Jt (by omega),Lib.itoa,if_neg (by omega)]
theorem itoa_neg{n:Int}(h:n<0)(h1:-1000000000000000<=n):45::dec (-n).toNat=Lib.itoa n:=by
 rw[Jt (by omega),Lib.itoa,if_pos h,show n.natAbs=(-n).toNat by omega]
theorem iY(n:Int)(w:World)(h0:-1000000000000000<=n)(h1:n<=1000000000000000) :
  Calls prog 96 #[ae au n] w fun e w'=>e=.returned (ag (bs (Lib.itoa n)))/\Below w.heap.size w w':=by
 by_cases h:n<0
 ·have HR:Hid (({data:=#[45]}:ByteArray)++bs (dec (-n).toNat)=bs (Lib.itoa n)):=hide (by apply gQ;rw[uZ,bS,itoa_neg h h0]);go_enter func96,ntmps96;go_wp2_with fail;refine(BQ (-n) w (by omega) (by omega)).mono ?_;rintro e w1⟨rfl,hk⟩;have HB:=hide hk.below;have hsz:(bs (dec (-n).toNat)).size<=30:=by rw[bD];have:=vK 15 (-n).toNat (by omega) (by omega);omega
  clear hk;go_wp2;go_ret;exact⟨by rw[<-HR.out];rfl,HB.out⟩
 ·refine(BQ n w (by omega) h1).mono ?_;rintro e w1⟨rfl,hk⟩;exact⟨by rw[pF (by omega) h1],hk.below⟩
theorem bQ(n:Int)(w:World) :
  Calls prog 156 #[ae au n] w fun e w'=>e=.returned (.bool (eu 1 1000000000 n))/\w'=w:=by
 go_enter func156,ntmps156;go_wp2_with fail;refine(bH _ _ _ _).mono ?_;rintro e w'⟨rfl,rfl⟩;go_wp2;go_ret;exact⟨rfl,rfl⟩
def dK(id kind:Int)(f t:ByteArray)(am ref:Int):Bool :=
 eu 1 1000000000 id &&
  (if kind=1 then dW f&&jU t&&eu (-1) 1000000000000 am&&(ref==0)
   else if kind=2\/kind=3 then dW f&&dW t&&!(f.toList==t.toList)&&eu 1 1000000000000 am&&(ref==0)
   else if kind=4\/kind=5 then f.toList.isEmpty&&t.toList.isEmpty&&(am==0)&&eu 1 1000000000 ref
   else false)
theorem yg(id:Int)(f t:ByteArray)(am ref:Int)(w:World)(hf:f.size<=maxLen)(ht:t.size<=maxLen)(hid:eu 1 1000000000 id=true) :
  Calls prog 75 #[aj #[ae au id,ae au 1,ag f,ag t,ae au am,ae au ref]] w fun e w'=>e=.returned (.bool (dK id 1 f t am ref))/\Kept w w':=by
 cases c1:dW f
 rotate_left
 cases c2:jU t
 rotate_left
 cases c3:eu (-1) 1000000000000 am
 rotate_left
 cases c4:(ref==0)
 all_goals
  cases HB:dK id 1 f t am ref<;>first|(exfalso;simp[dK, *] at HB;done)|skip
  go_enter func75,ntmps75;go_wp2_with (first|(go_at_call 97;refine(dE _ _ (by first|exact hf|exact ht)).mono ?_;rintro e w'⟨rfl,rfl⟩)|(go_at_call 98;refine(dP _ _ ht).mono ?_;rintro e w'⟨rfl,rfl⟩)|(go_at_call 66;refine(bz _ _ _ _).mono ?_;rintro e w'⟨rfl,rfl⟩));go_ret;exact⟨rfl,(Kept.refl _).alloc _ _⟩
theorem yf(id:Int)(f t:ByteArray)(am ref:Int)(w:World)(hf:f.size<=maxLen)(ht:t.size<=maxLen)(hid:eu 1 1000000000 id=true) :
  Calls prog 75 #[aj #[ae au id,ae au 2,ag f,ag t,ae au am,ae au ref]] w fun e w'=>e=.returned (.bool (dK id 2 f t am ref))/\Kept w w':=by
 cases c1:dW f
 rotate_left
 cases c2:dW t
 rotate_left
 cases c3:(f.toList==t.toList);cases c4:eu 1 1000000000000 am
 rotate_left
 cases c5:(ref==0)
 all_goals
  cases HB:dK id 2 f t am ref<;>first|(exfalso;simp[dK, *] at HB;done)|skip
  go_enter func75,ntmps75;go_wp2_with (first|(go_at_call 97;refine(dE _ _ (by first|exact hf|exact ht)).mono ?_;rintro e w'⟨rfl,rfl⟩)|(go_at_call 98;refine(dP _ _ ht).mono ?_;rintro e w'⟨rfl,rfl⟩)|(go_at_call 66;refine(bz _ _ _ _).mono ?_;rintro e w'⟨rfl,rfl⟩));go_ret;exact⟨rfl,(Kept.refl _).alloc _ _⟩
theorem yc(id:Int)(f t:ByteArray)(am ref:Int)(w:World)(hf:f.size<=maxLen)(ht:t.size<=maxLen)(hid:eu 1 1000000000 id=true) :
  Calls prog 75 #[aj #[ae au id,ae au 3,ag f,ag t,ae au am,ae au ref]] w fun e w'=>e=.returned (.bool (dK id 3 f t am ref))/\Kept w w':=by
 cases c1:dW f
 rotate_left
 cases c2:dW t
 rotate_left
 cases c3:(f.toList==t.toList);cases c4:eu 1 1000000000000 am
 rotate_left
 cases c5:(ref==0)
 all_goals
  cases HB:dK id 3 f t am ref<;>first|(exfalso;simp[dK, *] at HB;done)|skip
  go_enter func75,ntmps75;go_wp2_with (first|(go_at_call 97;refine(dE _ _ (by first|exact hf|exact ht)).mono ?_;rintro e w'⟨rfl,rfl⟩)|(go_at_call 98;refine(dP _ _ ht).mono ?_;rintro e w'⟨rfl,rfl⟩)|(go_at_call 66;refine(bz _ _ _ _).mono ?_;rintro e w'⟨rfl,rfl⟩));go_ret;exact⟨rfl,(Kept.refl _).alloc _ _⟩
theorem x8(id:Int)(f t:ByteArray)(am ref:Int)(w:World)(hf:f.size<=maxLen)(ht:t.size<=maxLen)(hid:eu 1 1000000000 id=true) :
  Calls prog 75 #[aj #[ae au id,ae au 4,ag f,ag t,ae au am,ae au ref]] w fun e w'=>e=.returned (.bool (dK id 4 f t am ref))/\Kept w w':=by
 cases c1:f.toList.isEmpty
 rotate_left
 cases c2:t.toList.isEmpty
 rotate_left
 cases c3:(am==0)
 rotate_left
 cases c4:eu 1 1000000000 ref
 all_goals
  cases HB:dK id 4 f t am ref<;>first|(exfalso;simp[dK, *] at HB;done)|skip
  go_enter func75,ntmps75;go_wp2_with (first|(go_at_call 97;refine(dE _ _ (by first|exact hf|exact ht)).mono ?_;rintro e w'⟨rfl,rfl⟩)|(go_at_call 98;refine(dP _ _ ht).mono ?_;rintro e w'⟨rfl,rfl⟩)|(go_at_call 66;refine(bz _ _ _ _).mono ?_;rintro e w'⟨rfl,rfl⟩));go_ret;exact⟨rfl,(Kept.refl _).alloc _ _⟩
theorem xZ(id:Int)(f t:ByteArray)(am ref:Int)(w:World)(hf:f.size<=maxLen)(ht:t.size<=maxLen)(hid:eu 1 1000000000 id=true) :
  Calls prog 75 #[aj #[ae au id,ae au 5,ag f,ag t,ae au am,ae au ref]] w fun e w'=>e=.returned (.bool (dK id 5 f t am ref))/\Kept w w':=by
 cases c1:f.toList.isEmpty
 rotate_left
 cases c2:t.toList.isEmpty
 rotate_left
 cases c3:(am==0)
 rotate_left
 cases c4:eu 1 1000000000 ref
 all_goals
  cases HB:dK id 5 f t am ref<;>first|(exfalso;simp[dK, *] at HB;done)|skip
  go_enter func75,ntmps75;go_wp2_with (first|(go_at_call 97;refine(dE _ _ (by first|exact hf|exact ht)).mono ?_;rintro e w'⟨rfl,rfl⟩)|(go_at_call 98;refine(dP _ _ ht).mono ?_;rintro e w'⟨rfl,rfl⟩)|(go_at_call 66;refine(bz _ _ _ _).mono ?_;rintro e w'⟨rfl,rfl⟩));go_ret;exact⟨rfl,(Kept.refl _).alloc _ _⟩
theorem wo(id kind:Int)(f t:ByteArray)(am ref:Int)(w:World)(hid:eu 1 1000000000 id=false) :
  Calls prog 75 #[aj #[ae au id,ae au kind,ag f,ag t,ae au am,ae au ref]] w fun e w'=>e=.returned (.bool (dK id kind f t am ref))/\Kept w w':=by
 have HR:Hid (dK id kind f t am ref=false):=hide (by simp[dK,hid]);go_enter func75,ntmps75;go_wp2_with fail;refine(bz _ _ _ _).mono ?_;rintro e w'⟨rfl,rfl⟩;go_wp2_with fail;go_ret;exact⟨by rw[HR.out];rfl,(Kept.refl _).alloc _ _⟩
theorem sZ(id kind:Int)(f t:ByteArray)(am ref:Int)(w:World)(hid:eu 1 1000000000 id=true)(k1:(kind==1)=false)(k2:(kind==2)=false)(k3:(kind==3)=false)(k4:(kind==4)=false)(k5:(kind==5)=false) :
  Calls prog 75 #[aj #[ae au id,ae au kind,ag f,ag t,ae au am,ae au ref]] w fun e w'=>e=.returned (.bool (dK id kind f t am ref))/\Kept w w':=by
 have HR:Hid (dK id kind f t am ref=false):=hide (by
  simp only[beq_eq_false_iff_ne] at k1 k2 k3 k4 k5;unfold dK;rw[if_neg k1,if_neg (by omega),if_neg (by omega)];simp)
 go_enter func75,ntmps75;go_wp2_with fail;refine(bz _ _ _ _).mono ?_;rintro e w'⟨rfl,rfl⟩;go_wp2_with fail;go_ret;exact⟨by rw[HR.out];rfl,(Kept.refl _).alloc _ _⟩
theorem fH(id kind:Int)(f t:ByteArray)(am ref:Int)(w:World)(hf:f.size<=maxLen)(ht:t.size<=maxLen) :
  Calls prog 75 #[aj #[ae au id,ae au kind,ag f,ag t,ae au am,ae au ref]] w fun e w'=>e=.returned (.bool (dK id kind f t am ref))/\Kept w w':=by
 cases hid:eu 1 1000000000 id
 ·exact wo id kind f t am ref w hid
 ·by_cases k1:kind=1
  ·subst k1;exact yg id f t am ref w hf ht hid
  ·by_cases k2:kind=2
   ·subst k2;exact yf id f t am ref w hf ht hid
   ·by_cases k3:kind=3
    ·subst k3;exact yc id f t am ref w hf ht hid
    ·by_cases k4:kind=4
     ·subst k4;exact x8 id f t am ref w hf ht hid
     ·by_cases k5:kind=5
      ·subst k5;exact xZ id f t am ref w hf ht hid
      ·exact sZ id kind f t am ref w hid (by simpa using k1) (by simpa using k2) (by simpa using k3) (by simpa using k4) (by simpa using k5)
end Go.Proofs.YtdbmmdecclalgaaGreatDoor
