import Derived.Test.YtdbmmdecclalgaaGreatDoorQab
import Derived.Test.YtdbmmdecclalgaaGreatDoorQac
import Derived.Below
import Derived.Lib.Strings
import Derived.Deep.QuietTactic
import Derived.BigQuiet
import Derived.BigRegion
import Derived.Deep.RegionWith
namespace Go.Proofs.YtdbmmdecclalgaaGreatDoor
open Go.Value renaming int → ae, string → ag, agg → aj, slice → af
open Go.IntKind renaming i64 → au
open Go.Proofs.Tryz Go.ChangeShapes Go.WideShapes Go.ChangeAt Go.RowKit
set_option linter.unusedVariables false
set_option maxRecDepth 100000
set_option maxHeartbeats 2000000
theorem yt(id:Int)(f t:ByteArray)(am ref:Int)(w:World)(hf:f.size<=maxLen)(ht:t.size<=maxLen)(hid:eu 1 1000000000 id=true) :
  Calls prog 129 #[aj #[ae au id,ae au 1,ag f,ag t,ae au am,ae au ref]] w fun e w'=>e=.returned (.bool (dK id 1 f t am ref))/\Kept w w':=by
 cases c1:dW f
 rotate_left
 cases c2:jU t
 rotate_left
 cases c3:eu (-1) 1000000000000 am
 rotate_left
 cases c4:(ref==0)
 all_goals
  cases HB:dK id 1 f t am ref<;>first|(exfalso;simp[dK, *] at HB;done)|skip
  go_enter func129,ntmps129;go_wp2_with (first|(go_at_call 157;refine(dz _ _ (by first|exact hf|exact ht)).mono ?_;rintro e w'⟨rfl,rfl⟩)|(go_at_call 158;refine(dI _ _ ht).mono ?_;rintro e w'⟨rfl,rfl⟩)|(go_at_call 103;refine(bH _ _ _ _).mono ?_;rintro e w'⟨rfl,rfl⟩)|(go_at_call 156;refine(bQ _ _).mono ?_;rintro e w'⟨rfl,rfl⟩));go_ret;exact⟨rfl,(Kept.refl _).alloc _ _⟩
theorem yo(id:Int)(f t:ByteArray)(am ref:Int)(w:World)(hf:f.size<=maxLen)(ht:t.size<=maxLen)(hid:eu 1 1000000000 id=true) :
  Calls prog 129 #[aj #[ae au id,ae au 2,ag f,ag t,ae au am,ae au ref]] w fun e w'=>e=.returned (.bool (dK id 2 f t am ref))/\Kept w w':=by
 cases c1:dW f
 rotate_left
 cases c2:dW t
 rotate_left
 cases c3:(f.toList==t.toList);cases c4:eu 1 1000000000000 am
 rotate_left
 cases c5:(ref==0)
 all_goals
  cases HB:dK id 2 f t am ref<;>first|(exfalso;simp[dK, *] at HB;done)|skip
  go_enter func129,ntmps129;go_wp2_with (first|(go_at_call 157;refine(dz _ _ (by first|exact hf|exact ht)).mono ?_;rintro e w'⟨rfl,rfl⟩)|(go_at_call 158;refine(dI _ _ ht).mono ?_;rintro e w'⟨rfl,rfl⟩)|(go_at_call 103;refine(bH _ _ _ _).mono ?_;rintro e w'⟨rfl,rfl⟩)|(go_at_call 156;refine(bQ _ _).mono ?_;rintro e w'⟨rfl,rfl⟩));go_ret;exact⟨rfl,(Kept.refl _).alloc _ _⟩
theorem yn(id:Int)(f t:ByteArray)(am ref:Int)(w:World)(hf:f.size<=maxLen)(ht:t.size<=maxLen)(hid:eu 1 1000000000 id=true) :
  Calls prog 129 #[aj #[ae au id,ae au 3,ag f,ag t,ae au am,ae au ref]] w fun e w'=>e=.returned (.bool (dK id 3 f t am ref))/\Kept w w':=by
 cases c1:dW f
 rotate_left
 cases c2:dW t
 rotate_left
 cases c3:(f.toList==t.toList);cases c4:eu 1 1000000000000 am
 rotate_left
 cases c5:(ref==0)
 all_goals
  cases HB:dK id 3 f t am ref<;>first|(exfalso;simp[dK, *] at HB;done)|skip
  go_enter func129,ntmps129;go_wp2_with (first|(go_at_call 157;refine(dz _ _ (by first|exact hf|exact ht)).mono ?_;rintro e w'⟨rfl,rfl⟩)|(go_at_call 158;refine(dI _ _ ht).mono ?_;rintro e w'⟨rfl,rfl⟩)|(go_at_call 103;refine(bH _ _ _ _).mono ?_;rintro e w'⟨rfl,rfl⟩)|(go_at_call 156;refine(bQ _ _).mono ?_;rintro e w'⟨rfl,rfl⟩));go_ret;exact⟨rfl,(Kept.refl _).alloc _ _⟩
theorem ym(id:Int)(f t:ByteArray)(am ref:Int)(w:World)(hf:f.size<=maxLen)(ht:t.size<=maxLen)(hid:eu 1 1000000000 id=true) :
  Calls prog 129 #[aj #[ae au id,ae au 4,ag f,ag t,ae au am,ae au ref]] w fun e w'=>e=.returned (.bool (dK id 4 f t am ref))/\Kept w w':=by
 cases c1:f.toList.isEmpty
 rotate_left
 cases c2:t.toList.isEmpty
 rotate_left
 cases c3:(am==0)
 rotate_left
 cases c4:eu 1 1000000000 ref
 all_goals
  cases HB:dK id 4 f t am ref<;>first|(exfalso;simp[dK, *] at HB;done)|skip
  go_enter func129,ntmps129;go_wp2_with (first|(go_at_call 157;refine(dz _ _ (by first|exact hf|exact ht)).mono ?_;rintro e w'⟨rfl,rfl⟩)|(go_at_call 158;refine(dI _ _ ht).mono ?_;rintro e w'⟨rfl,rfl⟩)|(go_at_call 103;refine(bH _ _ _ _).mono ?_;rintro e w'⟨rfl,rfl⟩)|(go_at_call 156;refine(bQ _ _).mono ?_;rintro e w'⟨rfl,rfl⟩));go_ret;exact⟨rfl,(Kept.refl _).alloc _ _⟩
theorem yl(id:Int)(f t:ByteArray)(am ref:Int)(w:World)(hf:f.size<=maxLen)(ht:t.size<=maxLen)(hid:eu 1 1000000000 id=true) :
  Calls prog 129 #[aj #[ae au id,ae au 5,ag f,ag t,ae au am,ae au ref]] w fun e w'=>e=.returned (.bool (dK id 5 f t am ref))/\Kept w w':=by
 cases c1:f.toList.isEmpty
 rotate_left
 cases c2:t.toList.isEmpty
 rotate_left
 cases c3:(am==0)
 rotate_left
 cases c4:eu 1 1000000000 ref
 all_goals
  cases HB:dK id 5 f t am ref<;>first|(exfalso;simp[dK, *] at HB;done)|skip
  go_enter func129,ntmps129;go_wp2_with (first|(go_at_call 157;refine(dz _ _ (by first|exact hf|exact ht)).mono ?_;rintro e w'⟨rfl,rfl⟩)|(go_at_call 158;refine(dI _ _ ht).mono ?_;rintro e w'⟨rfl,rfl⟩)|(go_at_call 103;refine(bH _ _ _ _).mono ?_;rintro e w'⟨rfl,rfl⟩)|(go_at_call 156;refine(bQ _ _).mono ?_;rintro e w'⟨rfl,rfl⟩));go_ret;exact⟨rfl,(Kept.refl _).alloc _ _⟩
theorem wK(id kind:Int)(f t:ByteArray)(am ref:Int)(w:World)(hid:eu 1 1000000000 id=false) :
  Calls prog 129 #[aj #[ae au id,ae au kind,ag f,ag t,ae au am,ae au ref]] w fun e w'=>e=.returned (.bool (dK id kind f t am ref))/\Kept w w':=by
 have HR:Hid (dK id kind f t am ref=false):=hide (by simp[dK,hid]);go_enter func129,ntmps129;go_wp2_with fail;refine(bQ _ _).mono ?_;rintro e w'⟨rfl,rfl⟩;go_wp2_with fail;go_ret;exact⟨by rw[HR.out];rfl,(Kept.refl _).alloc _ _⟩
theorem tC(id kind:Int)(f t:ByteArray)(am ref:Int)(w:World)(hid:eu 1 1000000000 id=true)(k1:(kind==1)=false)(k2:(kind==2)=false)(k3:(kind==3)=false)(k4:(kind==4)=false)(k5:(kind==5)=false) :
  Calls prog 129 #[aj #[ae au id,ae au kind,ag f,ag t,ae au am,ae au ref]] w fun e w'=>e=.returned (.bool (dK id kind f t am ref))/\Kept w w':=by
 have HR:Hid (dK id kind f t am ref=false):=hide (by
  simp only[beq_eq_false_iff_ne] at k1 k2 k3 k4 k5;unfold dK;rw[if_neg k1,if_neg (by omega),if_neg (by omega)];simp)
 go_enter func129,ntmps129;go_wp2_with fail;refine(bQ _ _).mono ?_;rintro e w'⟨rfl,rfl⟩;go_wp2_with fail;go_ret;exact⟨by rw[HR.out];rfl,(Kept.refl _).alloc _ _⟩
theorem kN(id kind:Int)(f t:ByteArray)(am ref:Int)(w:World)(hf:f.size<=maxLen)(ht:t.size<=maxLen) :
  Calls prog 129 #[aj #[ae au id,ae au kind,ag f,ag t,ae au am,ae au ref]] w fun e w'=>e=.returned (.bool (dK id kind f t am ref))/\Kept w w':=by
 cases hid:eu 1 1000000000 id
 ·exact wK id kind f t am ref w hid
 ·by_cases k1:kind=1
  ·subst k1;exact yt id f t am ref w hf ht hid
  ·by_cases k2:kind=2
   ·subst k2;exact yo id f t am ref w hf ht hid
   ·by_cases k3:kind=3
    ·subst k3;exact yn id f t am ref w hf ht hid
    ·by_cases k4:kind=4
     ·subst k4;exact ym id f t am ref w hf ht hid
     ·by_cases k5:kind=5
      ·subst k5;exact yl id f t am ref w hf ht hid
      ·exact tC id kind f t am ref w hid (by simpa using k1) (by simpa using k2) (by simpa using k3) (by simpa using k4) (by simpa using k5)

structure bF where
 name:ByteArray
 cur:ByteArray
 bB:Int
 aS:Int
structure bP where
 id:Int
 fr:ByteArray
 to:ByteArray
 aV:Int
structure Sn where
 id:Int
 code:Int
structure bM where
 aI:List bF
 az:List bP
 aH:List Sn
def sQ(n:Int):Prop:=-9223372036854775808<=n/\n<=9223372036854775807
def lY(w:World)(a:Option Addr)(l:List bF):Prop :=
 ∀i (h:i<l.length),∃b off,a=some ⟨b,off,none⟩/\b<w.heap.size/\w.cell? ⟨b,off+i*4,none⟩=some (ag l[i].name)/\w.cell? ⟨b,off+i*4+1,none⟩=some (ag l[i].cur) /\
  w.cell? ⟨b,off+i*4+2,none⟩=some (ae au l[i].bB)/\w.cell? ⟨b,off+i*4+3,none⟩=some (ae au l[i].aS)/\l[i].name.size<=maxLen/\l[i].cur.size<=maxLen/\sQ l[i].bB/\sQ l[i].aS
def fM(w:World)(a:Option Addr)(l:List bP):Prop :=
 ∀i (h:i<l.length),∃b off,a=some ⟨b,off,none⟩/\b<w.heap.size/\w.cell? ⟨b,off+i*4,none⟩=some (ae au l[i].id)/\w.cell? ⟨b,off+i*4+1,none⟩=some (ag l[i].fr) /\
  w.cell? ⟨b,off+i*4+2,none⟩=some (ag l[i].to)/\w.cell? ⟨b,off+i*4+3,none⟩=some (ae au l[i].aV)/\l[i].fr.size<=maxLen/\l[i].to.size<=maxLen/\sQ l[i].id/\sQ l[i].aV
def ji(w:World)(a:Option Addr)(l:List Sn):Prop :=
 ∀i (h:i<l.length),∃b off,a=some ⟨b,off,none⟩/\b<w.heap.size/\w.cell? ⟨b,off+i*2,none⟩=some (ae au l[i].id)/\w.cell? ⟨b,off+i*2+1,none⟩=some (ae au l[i].code)/\sQ l[i].id/\sQ l[i].code
theorem lY.below{w w':World}{a:Option Addr}{l:List bF}(h:lY w a l)(k:Below w.heap.size w w'):lY w' a l:=fun i hi=>by
 obtain⟨b,off,e,hb,h0,h1,h2,h3,r⟩:=h i hi;have:=k.size;exact⟨b,off,e,by omega,by rw[k.cell (by exact hb)];exact h0,by rw[k.cell (by exact hb)];exact h1,by rw[k.cell (by exact hb)];exact h2,by rw[k.cell (by exact hb)];exact h3,r⟩
theorem fM.below{w w':World}{a:Option Addr}{l:List bP}(h:fM w a l)(k:Below w.heap.size w w'):fM w' a l:=fun i hi=>by
 obtain⟨b,off,e,hb,h0,h1,h2,h3,r⟩:=h i hi;have:=k.size;exact⟨b,off,e,by omega,by rw[k.cell (by exact hb)];exact h0,by rw[k.cell (by exact hb)];exact h1,by rw[k.cell (by exact hb)];exact h2,by rw[k.cell (by exact hb)];exact h3,r⟩
theorem ji.below{w w':World}{a:Option Addr}{l:List Sn}(h:ji w a l)(k:Below w.heap.size w w'):ji w' a l:=fun i hi=>by
 obtain⟨b,off,e,hb,h0,h1,r⟩:=h i hi;have:=k.size;exact⟨b,off,e,by omega,by rw[k.cell (by exact hb)];exact h0,by rw[k.cell (by exact hb)];exact h1,r⟩
theorem bW{lo hi n:Int}:eu lo hi n=true ↔ lo<=n/\n<=hi:=by simp[eu]
theorem jI(s:ByteArray):s.data.toList.length=s.size:=by simp
theorem bT{a b:ByteArray}:(a.toList==b.toList)=true ↔ a=b:=by
 rw[Lib.toList_data,Lib.toList_data,beq_iff_eq];exact⟨fun e=>ByteArray.ext (Array.toList_inj.1 e),fun e=>by rw[e]⟩
def jC(a b:ByteArray):Bool:=a.toList==b.toList
theorem eX{a b:ByteArray}:jC a b=true ↔ a=b:=bT
def JH(l:List bF)(nm:ByteArray)(w:World)(e:Ending)(w':World):Prop :=
 Below w.heap.size w w'/\((∃i,∃h:i<l.length,l[i].name=nm/\(∀j (hj:j<i),l[j].name≠nm)/\e=.returned (ae au (i:Int)))\/((∀i (h:i<l.length),l[i].name≠nm)/\e=.returned (ae au (-1))))
theorem lF(a:Option Addr)(l:List bF)(cap:Nat)(vh vs:Value)(nm:ByteArray)(w:World)(hl:l.length<=1048576)(h:lY w a l) :
  Calls prog 99 #[aj #[af a l.length cap,vh,vs],ag nm] w fun e w'=>JH l nm w e w':=by
 have HC:=hide h;clear h;go_enter func99,ntmps99;go_wp2;go_loop [5] (fun i=>∃k:Nat,k<=l.length/\i=ae au (k:Int)/\Hid (∀j (hj:j<l.length),j<k->l[j].name≠nm)) (fun i=>l.length-(intOf i).toNat)
 case atStart=>exact⟨0,Nat.zero_le _,rfl,hide (fun j _ hj=>by omega)⟩
 case round =>
  obtain⟨k,hk,rfl,HN⟩:=hrel;by_cases hlt:k<l.length
  ·obtain⟨b,off,rfl,hb,c0,_,_,_,_⟩:=HC.out k hlt;cases hq:((l[k]).name.toList==nm.toList)
   ·have HS:Hid (∀j (hj:j<l.length),j<k+1->l[j].name≠nm):=hide (fun j hj hjk=>by
     rcases Nat.lt_or_ge j k with h|h
     ·exact HN.out j hj h
     ·obtain rfl:j=k:=by omega
      intro e;rw[bT.2 e] at hq;cases hq)
    go_wp2;exact⟨⟨k+1,by omega,by go_num,HS⟩,by simp[intOf];omega⟩
   ·have HE:=hide (bT.1 hq);go_wp2;go_ret;exact⟨aF (Below.refl _ _) _,.inl ⟨k,hlt,HE.out,fun j hj=>HN.out j (by omega) hj,rfl⟩⟩
  ·go_wp2;go_ret;exact⟨aF (Below.refl _ _) _,.inr ⟨fun i hi=>HN.out i hi (by omega),rfl⟩⟩
def bf(nm:ByteArray):List bP->Int
 | []=>0
 | x::xs=>(if x.fr=nm then x.aV else 0)+bf nm xs
def fe(cur:ByteArray):List bF->Int
 | []=>0
 | x::xs=>(if x.cur=cur then x.aS else 0)+fe cur xs
theorem vD(nm:ByteArray)(a b:List bP):bf nm (a++b)=bf nm a+bf nm b:=by
 induction a with
 | nil=>simp[bf]
 | cons x xs ih=>simp only[List.cons_append,bf,ih];omega
theorem Ed(cur:ByteArray)(a b:List bF):fe cur (a++b)=fe cur a+fe cur b:=by
 induction a with
 | nil=>simp[fe]
 | cons x xs ih=>simp only[List.cons_append,fe,ih];omega
theorem Nz(nm:ByteArray)(l:List bP)(h:∀x∈l,0<=x.aV/\x.aV<=1000000000000):0<=bf nm l/\bf nm l<=1000000000000*l.length:=by
 induction l with
 | nil=>simp[bf]
 | cons x xs ih =>
  have h1:=h x (by simp);have h2:=ih (fun y hy=>h y (by simp[hy]));simp only[bf,List.length_cons];split<;>omega
theorem OM(cur:ByteArray)(l:List bF)(h:∀x∈l,-1000000000000<=x.aS/\x.aS<=1000000000000):-(1000000000000*l.length:Int)<=fe cur l/\fe cur l<=1000000000000*l.length:=by
 induction l with
 | nil=>simp[fe]
 | cons x xs ih =>
  have h1:=h x (by simp);have h2:=ih (fun y hy=>h y (by simp[hy]));simp only[fe,List.length_cons];split<;>omega
def jq(l:List bP):Prop:=l.length<=10/\∀x∈l,0<=x.aV/\x.aV<=1000000000000
def nV(l:List bF):Prop:=l.length<=12/\∀x∈l,-1000000000000<=x.aS/\x.aS<=1000000000000
theorem pJ(nm:ByteArray)(l:List bP)(k:Nat)(h:jq l):0<=bf nm (l.take k)/\bf nm (l.take k)<=10000000000000:=by
 have h1:=Nz nm (l.take k) (fun x hx=>h.2 x (List.mem_of_mem_take hx));have h2:(l.take k).length<=10:=by rw[List.length_take];have:=h.1;omega
 omega
theorem LJ(cur:ByteArray)(l:List bF)(k:Nat)(h:nV l):-12000000000000<=fe cur (l.take k)/\fe cur (l.take k)<=12000000000000:=by
 have h1:=OM cur (l.take k) (fun x hx=>h.2 x (List.mem_of_mem_take hx));have h2:(l.take k).length<=12:=by rw[List.length_take];have:=h.1;omega
 omega
theorem zN(a:Option Addr)(l:List bP)(cap:Nat)(va vs:Value)(nm:ByteArray)(w:World)(hs:jq l)(h:fM w a l) :
  Calls prog 101 #[aj #[va,af a l.length cap,vs],ag nm] w fun e w'=>e=.returned (ae au (bf nm l))/\Below w.heap.size w w':=by
 have HC:=hide h;have HS:=hide hs;have hl:l.length<=10:=hs.1;clear h hs;go_enter func101,ntmps101;go_wp2;go_loop [5,6] (fun s i=>∃k:Nat,k<=l.length/\i=ae au (k:Int)/\s=ae au (bf nm (l.take k))) (fun s i=>l.length-(intOf i).toNat)
 case atStart=>exact⟨0,Nat.zero_le _,rfl,rfl⟩
 case round =>
  obtain⟨k,hk,rfl,rfl⟩:=hrel;by_cases hlt:k<l.length
  ·obtain⟨b,off,rfl,hb,_,c1,_,c3,_⟩:=HC.out k hlt;have hbd:=pJ nm l k HS.out;have ham:=HS.2 (l[k]) (List.getElem_mem hlt);obtain⟨b0,b1⟩:=hbd;obtain⟨m0,m1⟩:=ham;have hst:bf nm (l.take (k+1))=bf nm (l.take k)+(if (l[k]).fr=nm then (l[k]).aV else 0):=by
    rw[dX l k hlt,vD];simp[bf]
   cases hq:((l[k]).fr.toList==nm.toList)
   ·have hne:¬ (l[k]).fr=nm:=fun e=>by rw[bT.2 e] at hq;cases hq
    have HT:Hid (bf nm (l.take (k+1))=bf nm (l.take k)):=hide (by rw[hst,if_neg hne];omega);clear hst hne;generalize bf nm (l.take k)=x at *;go_wp2;exact⟨⟨k+1,by omega,by go_num,by rw[HT.out]⟩,by simp[intOf];omega⟩
   ·have HT:Hid (bf nm (l.take (k+1))=bf nm (l.take k)+(l[k]).aV):=hide (by rw[hst,if_pos (bT.1 hq)]);clear hst;generalize bf nm (l.take k)=x at *;go_wp2;exact⟨⟨k+1,by omega,by go_num,by rw[HT.out]⟩,by simp[intOf];omega⟩
  ·have HE:Hid (l.take k=l):=hide (by rw[List.take_of_length_le (by omega)]);go_wp2;go_ret;exact⟨by show Ending.returned (Value.int _ (bf nm (l.take k)))=_;rw[HE.out],aF (Below.refl _ _) _⟩
theorem kD(a:Option Addr)(l:List bF)(cap:Nat)(vh vs:Value)(cur:ByteArray)(w:World)(hs:nV l)(h:lY w a l) :
  Calls prog 137 #[aj #[af a l.length cap,vh,vs],ag cur] w fun e w'=>e=.returned (ae au (fe cur l))/\Below w.heap.size w w':=by
 have HC:=hide h;have HS:=hide hs;have hl:l.length<=12:=hs.1;clear h hs;go_enter func137,ntmps137;go_wp2;go_loop [5,6] (fun s i=>∃k:Nat,k<=l.length/\i=ae au (k:Int)/\s=ae au (fe cur (l.take k))) (fun s i=>l.length-(intOf i).toNat)
 case atStart=>exact⟨0,Nat.zero_le _,rfl,rfl⟩
 case round =>
  obtain⟨k,hk,rfl,rfl⟩:=hrel;by_cases hlt:k<l.length
  ·obtain⟨b,off,rfl,hb,_,c1,_,c3,_⟩:=HC.out k hlt;have hbd:=LJ cur l k HS.out;have ham:=HS.2 (l[k]) (List.getElem_mem hlt);obtain⟨b0,b1⟩:=hbd;obtain⟨m0,m1⟩:=ham;have hst:fe cur (l.take (k+1))=fe cur (l.take k)+(if (l[k]).cur=cur then (l[k]).aS else 0):=by
    rw[dX l k hlt,Ed];simp[fe]
   cases hq:((l[k]).cur.toList==cur.toList)
   ·have hne:¬ (l[k]).cur=cur:=fun e=>by rw[bT.2 e] at hq;cases hq
    have HT:Hid (fe cur (l.take (k+1))=fe cur (l.take k)):=hide (by rw[hst,if_neg hne];omega);clear hst hne;generalize fe cur (l.take k)=x at *;go_wp2;exact⟨⟨k+1,by omega,by go_num,by rw[HT.out]⟩,by simp[intOf];omega⟩
   ·have HT:Hid (fe cur (l.take (k+1))=fe cur (l.take k)+(l[k]).aS):=hide (by rw[hst,if_pos (bT.1 hq)]);clear hst;generalize fe cur (l.take k)=x at *;go_wp2;exact⟨⟨k+1,by omega,by go_num,by rw[HT.out]⟩,by simp[intOf];omega⟩
  ·have HE:Hid (l.take k=l):=hide (by rw[List.take_of_length_le (by omega)]);go_wp2;go_ret;exact⟨by show Ending.returned (Value.int _ (fe cur (l.take k)))=_;rw[HE.out],aF (Below.refl _ _) _⟩
def dD(x:bF)(held:Int):Bool:=eu (-1000000000000) 1000000000000 x.aS&&decide (held<=1000000000000)&&(decide (x.bB<0)||decide (-x.bB<=x.aS-held))
theorem Dk(ah:Option Addr)(l:List bF)(lh:List bP)(cap caph:Nat)(vs:Value)(k:Nat)(w:World)(hk:k<l.length)(hl:l.length<=12)(x:bF)(b off:Nat)(hb:b<w.heap.size)
  (c0:w.cell? ⟨b,off+k*4,none⟩=some (ag x.name)) (c1:w.cell? ⟨b,off+k*4+1,none⟩=some (ag x.cur)) (c2:w.cell? ⟨b,off+k*4+2,none⟩=some (ae au x.bB)) (c3:w.cell? ⟨b,off+k*4+3,none⟩=some (ae au x.aS))
  (hs:jq lh) (hh:fM w ah lh) (hlim:-1<=x.bB/\x.bB<=1000000000000) :
  Calls prog 102 #[aj #[af (some ⟨b,off,none⟩) l.length cap,af ah lh.length caph,vs],ae au (k:Int)] w fun e w'=>e=.returned (.bool (dD x (bf x.name lh)))/\Below w.heap.size w w':=by
 have HH:=hide hh;have HSm:=hide hs;have hbd:=pJ x.name lh lh.length hs;rw[List.take_length] at hbd;obtain⟨b0,b1⟩:=hbd;obtain⟨m0,m1⟩:=hlim;clear hh hs;have hk':(k:Int)<(l.length:Int):=by omega
 go_enter func102,ntmps102;go_wp2_with fail;have HH2:=hide (HH.below (aF (aF (Below.refl w.heap.size w) (.cells #[af (some ⟨b,off,none⟩) l.length cap,af ah lh.length caph,vs] 31)) (.cells #[ag x.name,ag x.cur,ae au x.bB,ae au x.aS] 106)));refine(zN _ _ _ _ _ _ _ HSm.out HH2.out).mono ?_;rintro e w2⟨rfl,HB⟩;have d2:w2.cell? ⟨w.heap.size+1,2,none⟩=some (ae au x.bB):=by rw[HB.cell (by simp)];simp
 have d3:w2.cell? ⟨w.heap.size+1,3,none⟩=some (ae au x.aS):=by rw[HB.cell (by simp)];simp
 have HB2:Below w.heap.size w w2:=aJ (aF (aF (Below.refl _ _) _) _) HB;clear HH2 HB HH HSm c0 c1 c2 c3;cases h1:eu (-1000000000000) 1000000000000 x.aS
 ·have HR:Hid (dD x (bf x.name lh)=false):=hide (by simp[dD,h1]);go_wp2_with fail;refine(bz _ _ _ _).mono ?_;rintro e w'⟨rfl,rfl⟩;go_wp2;go_ret;exact⟨by rw[HR.out];rfl,HB2⟩
 ·have hp:-1000000000000<=x.aS/\x.aS<=1000000000000:=by simpa[eu] using h1
  obtain⟨p0,p1⟩:=hp;by_cases h2:bf x.name lh<=1000000000000
  ·by_cases h3:x.bB<0
   ·have HR:Hid (dD x (bf x.name lh)=true):=hide (by simp[dD,h1,h2,h3]);go_wp2_with fail;refine(bz _ _ _ _).mono ?_;rintro e w'⟨rfl,rfl⟩;go_wp2;go_ret;exact⟨by rw[HR.out];rfl,HB2⟩
   ·by_cases h4:-x.bB<=x.aS-bf x.name lh
    ·have HR:Hid (dD x (bf x.name lh)=true):=hide (by simp[dD,h1,h2,h3,h4]);go_wp2_with fail;refine(bz _ _ _ _).mono ?_;rintro e w'⟨rfl,rfl⟩;go_wp2;go_ret;exact⟨by rw[HR.out];rfl,HB2⟩
    ·have HR:Hid (dD x (bf x.name lh)=false):=hide (by simp[dD,h1,h2,h3,h4]);have e3:decide (x.bB<0)=false:=by simpa using h3
     have e4:decide (-x.bB<=x.aS-bf x.name lh)=false:=by simpa using h4
     go_wp2_with fail;refine(bz _ _ _ _).mono ?_;rintro e w'⟨rfl,rfl⟩;go_wp2;go_ret;exact⟨by rw[HR.out];rfl,HB2⟩
  ·have HR:Hid (dD x (bf x.name lh)=false):=hide (by simp[dD,h1,h2]);go_wp2_with fail;refine(bz _ _ _ _).mono ?_;rintro e w'⟨rfl,rfl⟩;go_wp2;go_ret;exact⟨by rw[HR.out];rfl,HB2⟩
theorem iA(a ah:Option Addr)(l:List bF)(lh:List bP)(cap caph:Nat)(vs:Value)(k:Nat)(w:World)(hk:k<l.length)(hl:l.length<=12)(hs:jq lh)(h:lY w a l)(hh:fM w ah lh)(hlim:-1<=(l[k]).bB/\(l[k]).bB<=1000000000000) :
  Calls prog 102 #[aj #[af a l.length cap,af ah lh.length caph,vs],ae au (k:Int)] w fun e w'=>e=.returned (.bool (dD (l[k]) (bf (l[k]).name lh)))/\Below w.heap.size w w':=by
 obtain⟨b,off,rfl,hb,c0,c1,c2,c3,_⟩:=h k hk;exact Dk ah l lh cap caph vs k w hk hl (l[k]) b off hb c0 c1 c2 c3 hs hh hlim
structure iO(w:World)(a h s:Option Addr)(L:bM):Prop where
 aI:lY w a L.aI
 az:fM w h L.az
 aH:ji w s L.aH
theorem iO.below{w w':World}{a h s:Option Addr}{L:bM}(k:iO w a h s L)(b:Below w.heap.size w w'):iO w' a h s L:=⟨k.aI.below b,k.az.below b,k.aH.below b⟩
def dZ(l:List bF)(nm:ByteArray):Option Nat:=l.findIdx? (fun x=>jC x.name nm)
theorem sI{l:List bF}{nm:ByteArray}{i:Nat}(h:i<l.length)(h1:l[i].name=nm)(h2:∀j (hj:j<i),l[j].name≠nm):dZ l nm=some i:=by
 rw[dZ,List.findIdx?_eq_some_iff_getElem];exact⟨h,eX.2 h1,fun j hj=>by rw[Bool.not_eq_true,Bool.eq_false_iff];intro e;exact h2 j hj (eX.1 e)⟩
theorem pI{l:List bF}{nm:ByteArray}(h:∀i (h:i<l.length),l[i].name≠nm):dZ l nm=none:=by
 rw[dZ,List.findIdx?_eq_none_iff];intro x hx;obtain⟨i,hi,rfl⟩:=List.getElem_of_mem hx;rw[Bool.eq_false_iff];intro e;exact h i hi (eX.1 e)
theorem fq{l:List bF}{nm:ByteArray}{i:Nat}(h:dZ l nm=some i):∃hi:i<l.length,l[i].name=nm/\∀j (hj:j<i),l[j].name≠nm:=by
 rw[dZ,List.findIdx?_eq_some_iff_getElem] at h;obtain⟨h1,h2,h3⟩:=h;exact⟨h1,eX.1 h2,fun j hj e=>by have:=h3 j hj;rw[eX.2 e] at this;simp at this⟩
def fD(l:List Int)(k:Nat):Bool:=match k with
 | 0=>true
 | m+1=>decide (l.getD m 0<l.getD (m+1) 0)
def nT(L:bM)(k:Nat):Bool:=match L.aH[k]? with
 | none=>true
 | some x=>eu 1 1000000000 x.id&&fD (L.aH.map Sn.id) k&&(decide (x.code=0)||eu 4 9 x.code)
def pu(L:bM)(x:bP):Bool:=match dZ L.aI x.fr,dZ L.aI x.to with
 | some i,some j=>decide (i≠j)&&(match L.aI[i]?,L.aI[j]? with
  | some p,some q=>jC p.cur q.cur
  | _,_=>false)&&eu 1 1000000000000 x.aV
 | _,_=>false
def holdB(L:bM)(k:Nat):Bool:=match L.az[k]? with
 | none=>true
 | some x=>eu 1 1000000000 x.id&&fD (L.az.map bP.id) k&&pu L x
theorem oo{L:bM}{x:bP}(h:dZ L.aI x.fr=none):pu L x=false:=by simp[pu,h]
theorem om{L:bM}{x:bP}(h:dZ L.aI x.to=none):pu L x=false:=by
 unfold pu;rw[h];cases dZ L.aI x.fr<;>rfl
theorem qm{L:bM}{x:bP}{i j:Nat}(h1:dZ L.aI x.fr=some i)(h2:dZ L.aI x.to=some j)(hi:i<L.aI.length)(hj:j<L.aI.length):pu L x=(decide (i≠j)&&jC (L.aI[i]).cur (L.aI[j]).cur&&eu 1 1000000000000 x.aV):=by
 simp[pu,h1,h2,List.getElem?_eq_getElem hi,List.getElem?_eq_getElem hj]
def gT(L:bM)(k:Nat):Bool:=match k with
 | 0=>true
 | m+1=>match L.aI[m]?,L.aI[m+1]? with
  | some p,some q=>Op.bytesLess p.name.toList q.name.toList
  | _,_=>true
def tF(L:bM)(k:Nat):Bool:=match L.aI[k]? with
 | none=>true
 | some x=>dW x.name&&jU x.cur&&eu (-1) 1000000000000 x.bB&&gT L k&&dD x (bf x.name L.az)&&decide (fe x.cur L.aI=0)
def xG(L:bM)(k:Nat):Bool:=match L.aI[k]? with
 | none=>true
 | some x=>eu (-1000000000000) 1000000000000 x.aS
def bE(f:Nat->Bool):Nat->Bool
 | 0=>true
 | n+1=>bE f n&&f n
theorem aZ{f:Nat->Bool}{n k:Nat}(h:k<n)(hf:f k=false):bE f n=false:=by
 induction n with
 | zero=>omega
 | succ n ih =>
  simp only[bE];rcases Nat.lt_or_ge k n with h1|h1
  ·rw[ih h1];rfl
  ·obtain rfl:k=n:=by omega
   rw[hf];simp
theorem dQ{f:Nat->Bool}{k:Nat}(h:bE f k=true)(hf:f k=true):bE f (k+1)=true:=by simp[bE,h,hf]
theorem dU{f:Nat->Bool}{n k:Nat}(h:bE f n=true)(hk:k<n):f k=true:=by
 induction n with
 | zero=>omega
 | succ n ih =>
  simp only[bE,Bool.and_eq_true] at h;rcases Nat.lt_or_ge k n with h1|h1
  ·exact ih h.1 h1
  ·obtain rfl:k=n:=by omega
   exact h.2
def df(L:bM):Bool :=
 decide (L.aI.length<=12)&&decide (L.az.length<=10)&&decide (L.aH.length<=40)&&bE (xG L) L.aI.length&&bE (holdB L) L.az.length&&bE (tF L) L.aI.length&&bE (nT L) L.aH.length
theorem jf{L:bM}{k:Nat}(h:k<L.aH.length):nT L k=(eu 1 1000000000 (L.aH[k]).id&&fD (L.aH.map Sn.id) k&&(decide ((L.aH[k]).code=0)||eu 4 9 (L.aH[k]).code)):=by
 simp[nT,List.getElem?_eq_getElem h]
theorem fI{L:bM}{k:Nat}(h:k<L.az.length):holdB L k=(eu 1 1000000000 (L.az[k]).id&&fD (L.az.map bP.id) k&&pu L (L.az[k])):=by
 simp[holdB,List.getElem?_eq_getElem h]
def Ru(l:List bF)(nm:ByteArray)(r:Int):Prop:=(∃i,∃h:i<l.length,dZ l nm=some i/\r=(i:Int))\/(dZ l nm=none/\r=-1)
theorem pO{l:List bF}{nm:ByteArray}{w w':World}{e:Ending}(h:JH l nm w e w'):Below w.heap.size w w'/\∃r,e=.returned (ae au r)/\Ru l nm r:=by
 obtain⟨hb,⟨i,hi,h1,h2,he⟩|⟨h1,he⟩⟩:=h
 ·exact⟨hb,_,he,.inl ⟨i,hi,sI hi h1 h2,rfl⟩⟩
 ·exact⟨hb,_,he,.inr ⟨pI h1,rfl⟩⟩
theorem ru{L:bM}{k:Nat}(h:k<L.aI.length):xG L k=eu (-1000000000000) 1000000000000 (L.aI[k]).aS:=by
 simp[xG,List.getElem?_eq_getElem h]
theorem BF{L:bM}{m:Nat}(h:m+1<L.aH.length):fD (L.aH.map Sn.id) (m+1)=decide ((L.aH[m]).id<(L.aH[m+1]).id):=by
 simp[fD,List.getElem?_eq_getElem h,List.getElem?_eq_getElem (show m<L.aH.length by omega)]
theorem zi{L:bM}{m:Nat}(h:m+1<L.az.length):fD (L.az.map bP.id) (m+1)=decide ((L.az[m]).id<(L.az[m+1]).id):=by
 simp[fD,List.getElem?_eq_getElem h,List.getElem?_eq_getElem (show m<L.az.length by omega)]
theorem CU{L:bM}{x:bP}(h:pu L x=true):1<=x.aV/\x.aV<=1000000000000:=by
 unfold pu at h;split at h
 ·simp only[Bool.and_eq_true] at h;exact bW.1 h.2
 ·cases h
theorem BA{L:bM}(g:L.az.length<=10)(h:bE (holdB L) L.az.length=true):jq L.az:=by
 refine⟨g,fun x hx=>?_⟩;obtain⟨i,hi,rfl⟩:=List.getElem_of_mem hx;have h1:=dU h hi;rw[fI hi] at h1;simp only[Bool.and_eq_true] at h1;have:=CU h1.2;omega
theorem BB{L:bM}(g:L.aI.length<=12)(h:bE (xG L) L.aI.length=true):nV L.aI:=by
 refine⟨g,fun x hx=>?_⟩;obtain⟨i,hi,rfl⟩:=List.getElem_of_mem hx;have h1:=dU h hi;rw[ru hi] at h1;exact bW.1 h1
theorem iE{L:bM}{k:Nat}(h:k<L.aI.length):tF L k=(dW (L.aI[k]).name&&jU (L.aI[k]).cur&&eu (-1) 1000000000000 (L.aI[k]).bB&&gT L k&&dD (L.aI[k]) (bf (L.aI[k]).name L.az)&&decide (fe (L.aI[k]).cur L.aI=0)):=by
 simp[tF,List.getElem?_eq_getElem h]
theorem kZ{L:bM}{m:Nat}(h:m+1<L.aI.length):gT L (m+1)=Op.bytesLess (L.aI[m]).name.toList (L.aI[m+1]).name.toList:=by
 simp[gT,List.getElem?_eq_getElem h,List.getElem?_eq_getElem (show m<L.aI.length by omega)]
theorem Kq{w wr:World}{va vh vs:Value}(o:Obj)(hsz:w.heap.size<wr.heap.size)(e0:wr.cell? ⟨w.heap.size,0,none⟩=some va)(e1:wr.cell? ⟨w.heap.size,1,none⟩=some vh)(e2:wr.cell? ⟨w.heap.size,2,none⟩=some vs) :
  (∀x:Later (wr.alloc o),x.w.cell? ⟨w.heap.size,0,none⟩=some va)/\(∀x:Later (wr.alloc o),x.w.cell? ⟨w.heap.size,1,none⟩=some vh)/\(∀x:Later (wr.alloc o),x.w.cell? ⟨w.heap.size,2,none⟩=some vs):=by
 have h0:w.heap.size<(wr.alloc o).heap.size:=by simp;omega
 exact⟨fun x=>(x.below.cell h0).trans ((World.cell?_alloc_past _ _ _ hsz).trans e0),fun x=>(x.below.cell h0).trans ((World.cell?_alloc_past _ _ _ hsz).trans e1),fun x=>(x.below.cell h0).trans ((World.cell?_alloc_past _ _ _ hsz).trans e2)⟩
theorem Ko{wr:World}{v0 v1 v2 v3:Value}{T:TypeId} :
  (∀x:Later (wr.alloc (.cells #[v0,v1,v2,v3] T)),x.w.cell? ⟨wr.heap.size,0,none⟩=some v0)/\(∀x:Later (wr.alloc (.cells #[v0,v1,v2,v3] T)),x.w.cell? ⟨wr.heap.size,1,none⟩=some v1)/\(∀x:Later (wr.alloc (.cells #[v0,v1,v2,v3] T)),x.w.cell? ⟨wr.heap.size,2,none⟩=some v2):=by
 have h1:wr.heap.size<(wr.alloc (.cells #[v0,v1,v2,v3] T)).heap.size:=by simp
 exact⟨fun x=>(x.below.cell h1).trans (World.cell?_alloc_at _ _ _ _ rfl),fun x=>(x.below.cell h1).trans (World.cell?_alloc_at _ _ _ _ rfl),fun x=>(x.below.cell h1).trans (World.cell?_alloc_at _ _ _ _ rfl)⟩
theorem BM{wr:World}{o:Obj}{b f:Nat}{v:Value}(hb:b<wr.heap.size)(h:wr.cell? ⟨b,f,none⟩=some v):∀x:Later (wr.alloc o),x.w.cell? ⟨b,f,none⟩=some v :=
 fun x=>(x.below.cell (by simp;omega)).trans ((World.cell?_alloc_past _ _ _ hb).trans h)
def Qs(b:Bool)(w:World)(e:Ending)(w':World):Prop:=e=.returned (.bool b)/\Below w.heap.size w w'
theorem bn{w wr:World}{o:Obj}(h:Below (w.heap.size+1) (w.alloc o) wr):Below w.heap.size w wr :=
 (aF (Below.refl _ _) o).trans (h.mono (by omega))
theorem fo{w a b:World}{o:Obj}(h:Below (w.heap.size+1) (w.alloc o) a)(k:Below a.heap.size a b):Below (w.heap.size+1) (w.alloc o) b :=
 h.trans (k.mono (by have:=h.size;simpa using this))
end Go.Proofs.YtdbmmdecclalgaaGreatDoor
