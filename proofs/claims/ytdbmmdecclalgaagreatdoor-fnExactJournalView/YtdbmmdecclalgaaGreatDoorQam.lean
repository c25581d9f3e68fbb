import Derived.Test.YtdbmmdecclalgaaGreatDoorQak
import Derived.Test.YtdbmmdecclalgaaGreatDoorQad
import Derived.Test.YtdbmmdecclalgaaGreatDoorQaa
import Derived.Lib.AppendIntMem
import Derived.Laws.RangeAny
import Derived.WalkMore
import Derived.Lib.OthersKept
import Derived.Deep.LoopGhost
import Derived.Lib.ParseIntB
import Derived.Lib.AtoiErrMem
import Derived.Lib.ParseIntBTie
import Derived.Maps.AppendAt
import Derived.OwnWalk
import Derived.Shelf.Strings.BuilderK
import Derived.Test.YtdbmmdecclalgaaGreatDoorQaj
import Derived.Test.YtdbmmdecclalgaaGreatDoorQal
namespace Go.Proofs.YtdbmmdecclalgaaGreatDoor
open Go.Value renaming int → ae, string → ag, pointer → ai, agg → aj, slice → af
open Go.IntKind renaming i64 → au
open Go.Proofs.Tryz Go.ChangeShapes Go.WideShapes Go.ChangeAt Go.RowKit Go.Lib
set_option linter.unusedVariables false
set_option maxRecDepth 100000
set_option maxHeartbeats 8000000
def SF(w:World):Prop:=Lib.TabIs prog w "internal/strconv.uint64pow10" .u64 Lib.pow10Tab
theorem SF.below{w w':World}(h:SF w)(b:Below w.heap.size w w'):SF w':=(Lib.tabBelow_of_tabIs h) w' b
theorem Ho(w:World)(k:Nat)(os:Array Obj):Below w.heap.size w (Sort.grow (w.drewN k) os):=by
 have h:=below_drewN (Below.refl w.heap.size w) k;refine⟨h.os,h.tape,h.output,?_,fun j hj=>?_⟩
 ·have:=h.size;simp only[Sort.grow,Array.size_append];omega
 ·have hj':j<(w.drewN k).heap.size:=Nat.lt_of_lt_of_le hj h.size;rw[<-h.block j hj];simp only[Sort.grow];exact Array.getElem?_append_left hj'
theorem ry(n:Int)(w:World)(h0:-9223372036854775808<=n)(h1:n<=9223372036854775807)(ht:SF w) :
  Calls prog 147 #[ae au n] w fun e w'=>e=.returned (ag (bs (Lib.itoa n)))/\Below w.heap.size w w':=by
 go_enter func147,ntmps147;go_wp2_with fail;refine(strconv_FormatInt_10 n h0 h1 w ht).mono ?_;rintro e w1⟨rfl,k,os,rfl⟩;have HB:=hide (Ho w k os);generalize Sort.grow (w.drewN k) os=w1 at *;go_wp2;go_ret;exact⟨rfl,HB.out⟩
def jX(k:Int):ByteArray:=bs (dm k)
def Words(w:World):Prop:=w.cell? ⟨2,1,none⟩=some (ag (jX 1))/\w.cell? ⟨2,2,none⟩=some (ag (jX 2))/\w.cell? ⟨2,3,none⟩=some (ag (jX 3))/\w.cell? ⟨2,4,none⟩=some (ag (jX 4))/\w.cell? ⟨2,5,none⟩=some (ag (jX 5))
theorem Words.below{w w':World}(h:Words w)(b:Below w.heap.size w w'):Words w':=⟨aN b _ _ h.1,aN b _ _ h.2.1,aN b _ _ h.2.2.1,aN b _ _ h.2.2.2.1,aN b _ _ h.2.2.2.2⟩
structure Env(t:TypeId)(v:Value)(w:World):Prop where
 tab:SF w
 words:Words w
 gave:w.cell? ⟨1,0,none⟩=some (.iface t v)
 syn:∃a b,w.cell? ⟨6,0,none⟩=some (.iface a b)
 rng:∃a b,w.cell? ⟨7,0,none⟩=some (.iface a b)
theorem Env.below{t:TypeId}{v:Value}{w w':World}(h:Env t v w)(b:Below w.heap.size w w'):Env t v w' :=
 ⟨h.tab.below b,h.words.below b,aN b _ _ h.gave,by obtain⟨x,y,z⟩:=h.syn;exact⟨x,y,aN b _ _ z⟩,by obtain⟨x,y,z⟩:=h.rng;exact⟨x,y,aN b _ _ z⟩⟩
def dx(t:TypeId)(v:Value):Ending:=.panicked [{v:=.iface t v,recovered:=false}]
theorem fA(p:Value)(w:World):Calls prog 116 #[p,.bool true] w fun e w'=>e=.returned (.tuple #[])/\w'=w:=by
 go_enter func116,ntmps116;go_wp2;go_end0;exact⟨rfl,rfl⟩
theorem gK(p:Value)(t:TypeId)(v:Value)(w:World)(h:Env t v w):Calls prog 116 #[p,.bool false] w fun e w'=>e=dx t v/\w'=w:=by
 have hg:=h.gave;go_enter func116,ntmps116;go_wp2;exact⟨rfl,rfl,rfl⟩
structure Rg(w0:World)(B:Nat)(l:List UInt8)(x:World):Prop where
 b:Below w0.heap.size w0 x
 hB:w0.heap.size<=B
 r:jb B [ag (bs l)] x
def jE(B:Nat)(l:List UInt8)(x y:World):Prop:=jb B [ag (bs l)] y/\Fr [B] x y
theorem Rg.mV{w0:World}{B:Nat}{l l':List UInt8}{x y:World}(h:Rg w0 B l x)(k:jE B l' x y):Rg w0 B l' y:=by
 refine⟨?_,h.hB,k.1⟩;have hs:=h.b.size;have f:=k.2;refine⟨f.os.trans h.b.os,f.tape.trans h.b.tape,f.output.trans h.b.output,Nat.le_trans hs f.size,fun i hi=>?_⟩;rw[f.block i (by omega) (by have:=h.hB;simp;omega)];exact h.b.block i hi
theorem jE.trans{B:Nat}{l l':List UInt8}{x y z:World}(h:jE B l x y)(k:jE B l' y z):jE B l' x z:=⟨k.1,h.2.trans k.2 (fun b hb=>.inl hb)⟩
theorem jE.below{B:Nat}{l:List UInt8}{x y z:World}(h:jE B l x y)(k:Below y.heap.size y z):jE B l x z:=⟨h.1.below k,h.2.trans (G:=[]) (Fr.below k) (fun b hb=>by cases hb)⟩
theorem jE.start{B:Nat}{l:List UInt8}{x y:World}(h:jb B [ag (bs l)] x)(k:Below x.heap.size x y):jE B l x y:=⟨h.below k,Fr.below k⟩
theorem jE.set{B:Nat}{l l':List UInt8}{x y:World}(h:jE B l x y):jE B l' x (y.setCell ⟨B,0,none⟩ (ag (bs l'))):=⟨h.1.set 0 _ (by simp),h.2.set (.inl (by simp))⟩
theorem Rg.env{t:TypeId}{v:Value}{w0:World}{B:Nat}{l:List UInt8}{x:World}(h:Rg w0 B l x)(E:Env t v w0):Env t v x:=E.below h.b
theorem OL(a b:List UInt8):(⟨(Lib.trimPrefix a b).toArray⟩:ByteArray)=bs (Lib.trimPrefix a b):=rfl
theorem gZ(B:Nat)(l hd:List UInt8)(w:World)(h:jb B [ag (bs l)] w) :
  Calls prog 117 #[ai (some ⟨B,0,none⟩),ag (bs hd)] w fun e w'=>e=.returned (.bool (Lib.hasPrefix l hd))/\jE B (Lib.trimPrefix l hd) w w':=by
 have c0:=h.c 0 _ rfl;have f0:=h.f 0;have HB:=hide h;clear h;go_enter func117,ntmps117;go_wp2_with fail;refine(strings_CutPrefix (bs l) (bs hd) w).mono ?_;rintro e w1⟨rfl,hw⟩;rw[hw];clear hw;rw[bS,bS,OL];go_wp2;go_ret;exact⟨rfl,(jE.start HB.out (Below.refl _ _)).set⟩
theorem NB(s:ByteArray)(i:Nat)(h:i<s.size):s.get! i=s[i]'h:=by
 simp[ByteArray.get!,getElem!_pos,h];rfl
theorem FI(s:ByteArray)(pos:Nat)(h:pos<s.size)(ha:128<=(s[pos]'h).toNat) :
  pos+(Utf8.decode s pos).2<=s.size/\∀j,j<(Utf8.decode s pos).2->128<=(s.get! (pos+j)).toNat:=by
 have hn:¬ (s[pos]'h).toNat<128:=by omega
 have e0:128<=(s.get! (pos+0)).toNat:=by rw[get_at s pos h];exact ha
 simp only[Utf8.decode,get_at s pos h,hn,if_false];have one:∀j,j<1->128<=(s.get! (pos+j)).toNat:=fun j hj=>by
  obtain rfl:j=0:=by omega
  exact e0
 split
 ·rename_i q;simp only[Bool.and_eq_true,decide_eq_true_eq,beq_iff_eq] at q;split
  ·refine⟨by simp only;omega,fun j hj=>?_⟩;simp only at hj
   match j,hj with
   | 0,_=>exact e0
   | 1,_=>omega
  ·exact⟨by simp only;omega,one⟩
 ·split
  ·rename_i q;simp only[Bool.and_eq_true,decide_eq_true_eq,beq_iff_eq] at q;split
   ·refine⟨by simp only;omega,fun j hj=>?_⟩;simp only at hj
    match j,hj with
    | 0,_=>exact e0
    | 1,_=>omega
    | 2,_=>omega
   ·exact⟨by simp only;omega,one⟩
  ·split
   ·rename_i q;simp only[Bool.and_eq_true,decide_eq_true_eq,beq_iff_eq] at q;split
    ·refine⟨by simp only;omega,fun j hj=>?_⟩;simp only at hj
     match j,hj with
     | 0,_=>exact e0
     | 1,_=>omega
     | 2,_=>omega
     | 3,_=>omega
    ·exact⟨by simp only;omega,one⟩
   ·exact⟨by simp only;omega,one⟩
theorem encode_len{r:Int}(h0:128<=r)(hv:Utf8.valid r=true):(∃a b:UInt8,Utf8.encode r=⟨#[a,b]⟩/\128<=b.toNat)\/3<=(Utf8.encode r).size/\(Utf8.encode r).size<=4:=by
 unfold Utf8.encode;simp only[hv,if_true];rw[if_neg (by omega)];split
 ·refine .inl ⟨_,_,rfl,?_⟩;simp only[UInt8.toNat_ofNat'];omega
 ·split
  ·exact .inr ⟨by simp[ByteArray.size],by simp[ByteArray.size]⟩
  ·exact .inr ⟨by simp[ByteArray.size],by simp[ByteArray.size]⟩
def ma:ByteArray:=⟨#[32,10]⟩
def AR(w:World)(e:Ending)(w':World):Prop:=e=.returned (ae au (-1))/\Below w.heap.size w w'
theorem zS(w:World)(s:ByteArray)(p:Nat):Below w.heap.size w (w.iter s p):=aF (Below.refl _ _) _
theorem GK(w:World):Calls prog 193 #[ag ma,.int .i32 65533] w fun e w'=>AR w e w':=by
 have n0:=fun ty=>run_next_ascii (P:=prog) w ma 0 ty (by decide) (by decide)
 have n1:=fun ty=>run_next_ascii (P:=prog) w ma 1 ty (by decide) (by decide)
 have n2:=fun ty=>run_next_end (P:=prog) w ma 2 ty (by decide)
 go_enter func193,ntmps193;go_wp2;go_loopg [5,6] 2 (fun g _ _ wx=>∃i:Nat,i+g=2/\wx=w.iter ma i)
 case atStart=>exact⟨0,by omega,rfl⟩
 case round =>
  obtain⟨i,hig,rfl⟩:=hrel
  match gk,hig with
  | 0,hig =>
   obtain rfl:i=2:=by omega
   go_wp2;go_ret;exact⟨rfl,zS _ _ _⟩
  | 1,hig =>
   obtain rfl:i=1:=by omega
   go_wp2;go_roundg 0
   case measure=>omega
   case rel=>exact⟨2,by omega,rfl⟩
  | 2,hig =>
   obtain rfl:i=0:=by omega
   go_wp2;go_roundg 1
   case measure=>omega
   case rel=>exact⟨1,by omega,rfl⟩
theorem Mc(r:Int)(w:World)(h0:128<=r)(h1:r<=2147483647)(he:r≠65533)(hv:Lib.validRune r=false):Calls prog 193 #[ag ma,.int .i32 r] w fun e w'=>AR w e w':=by
 have g0:¬ r<128:=by omega
 have ge:(r==65533)=false:=by simpa using he
 go_enter func193,ntmps193;go_wp2_with (first|(go_at_call 231;refine(utf8_ValidRune r _).mono ?_;rintro e w1⟨rfl,hw⟩;rw[hw,hv];clear hw));go_ret;exact⟨rfl,Below.refl _ _⟩
theorem L9(r:Int)(a b:UInt8)(w:World)(h0:128<=r)(h1:r<=2147483647)(he:r≠65533)(hv:Lib.validRune r=true)(hen:Utf8.encode r=⟨#[a,b]⟩)(hb:128<=b.toNat):Calls prog 193 #[ag ma,.int .i32 r] w fun e w'=>AR w e w':=by
 have g0:¬ r<128:=by omega
 have ge:(r==65533)=false:=by simpa using he
 go_enter func193,ntmps193;go_wp2_with (first|(go_at_call 231;refine(utf8_ValidRune r _).mono ?_;rintro e w1⟨rfl,hw⟩;rw[hw,hv];clear hw));go_step3;have i1:∀w,(Instr.index 9 (ag ma) (ae au 1)).run prog w=.ok (.int .u8 10) w:=fun w=>by kernel_rfl
 have i2:∀w,(Instr.index 9 (ag ⟨#[a,b]⟩) (ae au 1)).run prog w=.ok (.int .u8 b.toNat) w:=fun w=>by kernel_rfl
 have i3:∀w,(Instr.slice 9 (ag ma) (some (ae au 2)) none none).run prog w=.ok (ag ⟨#[]⟩) w:=fun w=>by kernel_rfl
 have i4:∀w,(Instr.slice 9 (ag ma) (some (ae au (IntKind.i64.wrap 2))) none none).run prog w=.ok (ag ⟨#[]⟩) w:=fun w=>by kernel_rfl
 have hw2:IntKind.i64.wrap 2=2:=by decide
 have hne:((10:Int)==(b.toNat:Int))=false:=by simp;omega
 have hlt:(1:Int)<(ma.size:Int):=by decide
 go_wp2;go_loop [9] (fun i=>i=ae au 1) (fun i=>0)
 case atStart=>rfl
 case round =>
  subst hrel;go_wp2;go_step3;go_wp2;go_quiet (fail);go_wp2;have hb2:Below w.heap.size w (w.drewN nq):=below_drewN (Below.refl _ _) nq;have HB2:=hide hb2;clear hb2;generalize w.drewN nq=W at *;have hne2:Nonempty (Later W):=bO _;refine aU W (by kernel_rfl) (by kernel_rfl) ((Below.refl _ _).drew) ?_
  repeat (go_big_quiet_step (first|(go_at_call 230;exact bZ (strings_IndexByte _ _ _))))
  refine wpQuiet_nil ?_;intro _ hw';obtain⟨nx,rfl⟩:=hw';have h9:(Lib.indexByte ({data:=#[]}:ByteArray).data.toList (b.toNat:Int).toNat.toUInt8)=-1:=rfl;go_wp2;rw[Exit.noGoto_ret];go_ret;exact⟨rfl,aJ HB2.out nx.below⟩
theorem JW(r:Int)(s:ByteArray)(w:World)(h0:128<=r)(h1:r<=2147483647)(he:r≠65533)(hv:Lib.validRune r=true)(hen:Utf8.encode r=s)(hs3:3<=s.size)(hs4:s.size<=4):Calls prog 193 #[ag ma,.int .i32 r] w fun e w'=>AR w e w':=by
 have g0:¬ r<128:=by omega
 have ge:(r==65533)=false:=by simpa using he
 go_enter func193,ntmps193;go_wp2_with (first|(go_at_call 231;refine(utf8_ValidRune r _).mono ?_;rintro e w1⟨rfl,hw⟩;rw[hw,hv];clear hw));go_step3;have hss:ma.size=2:=rfl;go_wp2;go_loop [9] (fun i=>i=ae au ((s.size:Int)-1)) (fun i=>0)
 case atStart=>rfl
 case round =>
  subst hrel;have hlt:¬ ((s.size:Int)-1<(ma.size:Int)):=by rw[hss];omega
  have hlt2:¬ ((s.size:Int)-1<2):=by omega
  go_wp2;go_ret;exact⟨rfl,Below.refl _ _⟩
theorem Ma(r:Int)(w:World)(h0:128<=r)(h1:r<=2147483647):Calls prog 193 #[ag ma,.int .i32 r] w fun e w'=>AR w e w':=by
 by_cases he:r=65533
 ·subst he;exact GK w
 ·cases hv:Lib.validRune r
  ·exact Mc r w h0 h1 he hv
  ·have hv2:Utf8.valid r=true:=by
    simp only[Lib.validRune,decide_eq_true_eq] at hv;simp only[Utf8.valid,Bool.or_eq_true,Bool.and_eq_true,decide_eq_true_eq];omega
   rcases encode_len h0 hv2 with ⟨a,b,e,hb⟩|⟨h3,h4⟩
   ·exact L9 r a b w h0 h1 he hv e hb
   ·exact JW r _ w h0 h1 he hv rfl h3 h4
theorem ve{w x:World}{s:ByteArray}{p:Nat}(h:Below w.heap.size w x):Below w.heap.size w (x.iterAt w.heap.size s p) :=
 ⟨h.os,h.tape,h.output,by have:=h.size;simpa[World.iterAt] using this,fun k hk=>by
  rw[<-h.block k hk];simp only[World.iterAt];exact Array.getElem?_setIfInBounds_ne (by omega)⟩
theorem GX{s:ByteArray}{i k:Nat}(h:Lib.NoAny s.data.toList [32,10] i)(hk:i+k<=s.size)(hs:∀j,j<k->128<=(s.get! (i+j)).toNat):Lib.NoAny s.data.toList [32,10] (i+k):=fun j b hj hb=>by
 rcases Nat.lt_or_ge j i with q|q
 ·exact h j b q hb
 ·have hz:=hs (j-i) (by omega);rw[show i+(j-i)=j by omega,NB s j (by omega)] at hz;have e:s.data.toList[j]?=some (s[j]'(by omega)):=Lib.data_getElem? s j (by omega);rw[e] at hb;cases hb;simp only[List.contains_cons,List.contains_nil,Bool.or_false,Bool.or_eq_false_iff,beq_eq_false_iff_ne,ne_eq];constructor<;>(intro z;rw[z] at hz;revert hz;decide)
theorem zU(s:ByteArray)(w:World)(h8:s.size<=8) :
  Calls prog 148 #[ag s,ag ma] w fun e w'=>e=.returned (ae au (Lib.indexAny s.data.toList [32,10]))/\Below w.heap.size w w':=by
 have h8z:decide ((8:Int)<(s.size:Int))=false:=decide_eq_false (by omega);have hemp:ma.toList.isEmpty=false:=by rw[Lib.toList_data];rfl
 have hn1:((ma.size:Int)==1)=false:=by decide
 go_enter func148,ntmps148;go_wp2_with (first|(go_at_call 194;refine(strings_shouldUseASCIISet _ _).mono ?_;rintro e w'⟨rfl,hw⟩;rw[hw,h8z];clear hw));go_loopg [9,10] s.size (fun g _ _ wx=>∃i:Nat,i+g=s.size/\wx.heap[w.heap.size]?=some (.stringIter s i)/\Hid (Below w.heap.size w wx)/\Hid (Lib.NoAny s.data.toList [32,10] i))
 case atStart=>exact⟨0,by omega,World.iter_heap w s 0,hide (zS _ _ _),hide (Lib.NoAny.zero _ _)⟩
 case round =>
  obtain⟨i,hig,hit,HB,HN⟩:=hrel;rename World=>wx
  cases gk with
  | zero =>
   obtain rfl:i=s.size:=by omega
   have hnx:=fun ty=>run_next_end_at (P:=prog) wx w.heap.size s s.size ty hit (Nat.lt_irrefl _)
   go_wp2;go_ret;exact⟨by rw[Lib.indexAny_none (by rw[<-Lib.size_eq];exact HN.out)];rfl,HB.out⟩
  | succ g =>
   have hi:i<s.size:=by omega
   obtain⟨x,hx⟩:∃x:UInt8,s[i]'hi=x:=⟨_,rfl⟩;have hxl:s.data.toList[i]?=some x:=by rw[<-hx];exact Lib.data_getElem? s i hi
   have Hx:Hid (s.data.toList[i]?=some x):=hide hxl;by_cases hx128:x.toNat<128
   ·have hnx:=fun ty=>run_next_ascii_at (P:=prog) wx w.heap.size s i ty hit hi (by rw[hx];exact hx128)
    rw[hx] at hnx;have HI:=hide (iterAt_heap wx w.heap.size s i (i+1) hit);have HB2:=hide (ve (s:=s) (p:=i+1) HB.out);clear hxl hx hit;have hcon:=Lib.contains_iff_indexByte [32,10] x;have hback:((x.toNat:Int)).toNat.toUInt8=x:=by simp
    cases hin:[32,10].contains x
    ·rw[hin] at hcon;have hlt:¬ ((0:Int)<=Lib.indexByte [32,10] x):=of_decide_eq_false hcon.symm;clear hcon;go_wp2_with (go_at_call 193;refine(strings_IndexRune_ascii ma _ _ (by omega) (by omega)).mono ?_;rintro e w'⟨rfl,hw⟩;rw[hw,hback,show ma.data.toList=[32,10] from rfl];clear hw);go_roundg g
     case measure=>omega
     case rel=>exact⟨i+1,by omega,HI.out,HB2,hide (HN.succ Hx.out hin)⟩
    ·rw[hin] at hcon;have hge:(0:Int)<=Lib.indexByte [32,10] x:=of_decide_eq_true hcon.symm;clear hcon;go_wp2_with (go_at_call 193;refine(strings_IndexRune_ascii ma _ _ (by omega) (by omega)).mono ?_;rintro e w'⟨rfl,hw⟩;rw[hw,hback,show ma.data.toList=[32,10] from rfl];clear hw);go_ret;exact⟨by rw[Lib.indexAny_hit HN.out Hx.out hin];rfl,HB2.out⟩
   ·have hd:=decode_high s i hi (by rw[hx];omega);have hk:=FI s i hi (by rw[hx];omega);have hle:=decode_le s i;have hnx:=fun ty=>run_next_any_at (P:=prog) wx w.heap.size s i ty hit hi
    obtain⟨r,hr⟩:∃r,(Utf8.decode s i).1=r:=⟨_,rfl⟩;obtain⟨k,hkk⟩:∃k,(Utf8.decode s i).2=k:=⟨_,rfl⟩;rw[hr,hkk] at hnx;rw[hr,hkk] at hd;rw[hkk] at hk;rw[hr] at hle;have HI:=hide (iterAt_heap wx w.heap.size s i (i+k) hit);have HB2:=hide (ve (s:=s) (p:=i+k) HB.out);have HN2:=hide (GX HN.out hk.1 hk.2);obtain⟨hd1,hd2⟩:=hd;have hk1:=hk.1;clear hxl hx hit hr hkk hk;go_wp2_with (go_at_call 193;refine(Ma (r:Int) _ (by omega) (by omega)).mono ?_;rintro e w2⟨rfl,hb2⟩;have HB3:=hide hb2;clear hb2);go_roundg (s.size-(i+k))
    case measure=>omega
    case rel=>exact⟨i+k,by omega,(HB3.block w.heap.size (Array.getElem?_eq_some_iff.1 HI.out).1).trans HI.out,hide (aJ HB2.out HB3.out),HN2⟩
theorem OJ(w:World):(zeroValue 264).run prog w=.ok (aj (Array.replicate 256 (.bool false))) w:=by
 have e:t264.zero=some (aj (Array.replicate 256 (.bool false))):=by kernel_rfl
 simp[zeroValue,e]
theorem Dr(l:List UInt8)(w:World)(hl:l.length<=1048576) :
  Calls prog 148 #[ag (bs l),ag ma] w fun e w'=>e=.returned (ae au (Lib.indexAny l [32,10]))/\Below w.heap.size w w':=by
 by_cases h8:l.length<=8
 ·have:=zU (bs l) w (by rw[bD];exact h8);rw[bS] at this;exact this
 ·refine(strings_IndexAny_long OJ (bs l) ma w (by decide) (by rw[bD];omega) (by rw[bD];omega) (by decide) (fun j b hb=>?_)).mono ?_
  ·have e:ma.data.toList=[32,10]:=rfl;rw[e] at hb
   match j,hb with
   | 0,hb=>simp at hb;subst hb;decide
   | 1,hb=>simp at hb;subst hb;decide
  ·rintro e w'⟨rfl,rfl⟩;exact⟨by rw[bS];rfl,aF (aF (Below.refl _ _) _) _⟩
theorem Qz(c:UInt8):[32,10].contains c=jy c:=by
 rw[Bool.eq_iff_iff];simp[jy]
theorem Nk(l:List UInt8):Lib.indexAny l [32,10]=if bK l=[] then -1 else ((aX l).length:Int):=by
 induction l with
 | nil=>rfl
 | cons c r ih =>
  rw[Lib.indexAny,Qz];cases h:jy c
  ·have e1:aX (c::r)=c::aX r:=by simp[aX,h]
   have e2:bK (c::r)=bK r:=by simp[bK,h]
   rw[e1,e2,ih];by_cases q:bK r=[]
   ·simp[q]
   ·rw[if_neg q,if_neg q];simp only[Bool.false_eq_true,if_false,List.length_cons];rw[if_neg (by first|(simp;done)|(simp;omega))];omega
  ·have e1:aX (c::r)=[]:=by simp[aX,h]
   have e2:bK (c::r)=c::r:=by simp[bK,h]
   rw[e1,e2];simp
theorem iQ(l:List UInt8):(aX l).length<=l.length:=by
 have:=congrArg List.length (fZ l);simp only[List.length_append] at this;omega
theorem jG(l:List UInt8):(bK l).length<=l.length:=by
 have:=congrArg List.length (fZ l);simp only[List.length_append] at this;omega
theorem DV(l:List UInt8)(k:Nat):(bs l).extract 0 k=bs (l.take k):=gQ (by rw[Lib.extract_data,bS];simp)
theorem Jy(l:List UInt8)(k:Nat):(bs l).extract k l.length=bs (l.drop k):=gQ (by rw[Lib.extract_data,bS];exact List.take_of_length_le (by simp))
theorem JL(l:List UInt8):l.take (aX l).length=aX l:=by
 have h:=fZ l;generalize aX l=a at h⊢;rw[<-h];simp
theorem JM(l:List UInt8):l.drop (aX l).length=bK l:=by
 have h:=fZ l;generalize aX l=a at h⊢;generalize bK l=r at h⊢;rw[<-h];simp
theorem rY(B:Nat)(l:List UInt8)(w:World)(h:jb B [ag (bs l)] w)(hl:l.length<=1048576) :
  Calls prog 115 #[ai (some ⟨B,0,none⟩)] w fun e w'=>e=.returned (ag (bs (aX l)))/\jE B (bK l) w w':=by
 have c0:=h.c 0 _ rfl;have HB:=hide h;have hsz:(bs l).size=l.length:=bD l;have HT:Hid ((bs l).extract 0 (aX l).length=bs (aX l)):=hide (by rw[DV,JL]);have HD:Hid ((bs l).extract (aX l).length (bs l).size=bs (bK l)):=hide (by rw[bD,Jy,JM]);have hws:=iQ l;have hix:=Nk l;clear h;go_enter func115,ntmps115;go_wp2_with fail;refine(Dr l w hl).mono ?_;rintro e w1⟨rfl,hb1⟩;have HR:=hide (jE.start HB.out hb1);have c1:=HR.1.c 0 _ rfl;have f1:=HR.1.f 0;clear hb1 c0;rw[hix];by_cases q:bK l=[]
 ·rw[if_pos q];have e1:aX l=l:=by have:=fZ l;rw[q] at this;simpa using this
  have Q:=hide q;have E1:=hide e1;clear hix q e1 hws;have HE:Hid ((bs l).extract 0 (bs l).size=bs l):=hide (by rw[bD,DV];simp);have HE2:Hid ((bs l).extract (bs l).size (bs l).size=bs []):=hide (by rw[bD,Jy];simp);go_wp2;go_ret;refine⟨by rw[E1.out,DV,List.take_length];rfl,?_⟩;rw[Q.out];exact HR.set
 ·rw[if_neg q];clear hix q;obtain⟨k,hk⟩:∃k,k=(aX l).length:=⟨_,rfl⟩;rw[<-hk] at HT HD hws⊢;have HK:=hide hk;clear hk;have k0:¬ (k:Int)<0:=by omega
  go_wp2;go_ret;have hd:=HD.out;rw[bD] at hd;refine⟨by rw[HT.out];rfl,?_⟩;rw[hd];exact HR.set
theorem Hg(l:List UInt8)(hd:∀c∈l,48<=c.toNat/\c.toNat<=57)(a:Int)(ha:0<=a):a<=cO l a:=by
 induction l generalizing a with
 | nil=>simp[cO]
 | cons c r ih =>
  have h:=hd c (List.mem_cons_self ..);have:=ih (fun x hx=>hd x (List.mem_cons_of_mem _ hx)) (10*a+c.toNat-48) (by omega);simp only[cO];rw[if_neg (by omega)];omega
theorem CS(l:List UInt8)(hd:∀c∈l,48<=c.toNat/\c.toNat<=57)(aI:Nat)(hb:cO l aI<=100000000000000):parseUintM (2 ^ 64-1) aI l=.ok (cO l aI).toNat:=by
 induction l generalizing aI with
 | nil=>simp[parseUintM,cO]
 | cons c r ih =>
  have h:=hd c (List.mem_cons_self ..);have hr:=fun x hx=>hd x (List.mem_cons_of_mem _ hx)
  have e:cO (c::r) aI=cO r ((aI*10+(c.toNat-48):Nat):Int):=by
   simp only[cO];rw[if_neg (by omega)];congr 1;omega
  rw[e] at hb⊢;have hm:=Hg r hr ((aI*10+(c.toNat-48):Nat):Int) (by omega);rw[parseUintM,if_pos h,if_neg (by omega),if_neg (by omega)];exact ih hr _ hb
theorem BG{m:Nat}(h:m<=99999999999999):parseUintB 64 (dec m)=.ok m:=by
 unfold parseUintB;rw[if_neg (qE m)];have e:=wL m (by omega);have:=CS (dec m) (mW m) 0 (by rw[show ((0:Nat):Int)=0 from rfl,e];omega);rw[this,show ((0:Nat):Int)=0 from rfl,e];rfl
theorem GR{n:Int}(h0:-99999999999999<=n)(h1:n<=99999999999999):parseIntB 64 (itoa n)=.ok n:=by
 by_cases h:n<0
 ·rw[<-itoa_neg h (by omega)];have hp:=BG (m:=(-n).toNat) (by omega);have e45:(45:UInt8).toNat=45:=rfl;simp only[parseIntB,show (45:UInt8).toNat=45 from rfl,or_true,if_true,hp,not_true_eq_false,false_and,if_false,true_and];rw[if_neg (by omega)];congr 1;omega
 ·rw[<-pF (by omega) (by omega)];have hp:=BG (m:=n.toNat) (by omega)
  cases hd:dec n.toNat with
  | nil=>exact absurd hd (qE _)
  | cons c r =>
   have hc:=mW n.toNat c (by rw[hd];simp);rw[hd] at hp;unfold parseIntB;simp only;rw[if_neg (by omega),hp];simp only;rw[if_neg (by omega),if_neg (by omega),if_neg (by omega)];congr 1;omega
def jF(l:List UInt8)(n:Int):Prop:=(-99999999999999<=n/\n<=99999999999999)/\itoa n=l
theorem mi(a b:List UInt8):((bs a).toList==(bs b).toList)=(a==b):=by
 rw[Lib.toList_data,Lib.toList_data,bS,bS]
theorem qo(p:Value)(l:List UInt8)(n:Int)(t:TypeId)(v:Value)(w:World)(E:Env t v w)(h:jF l n) :
  Calls prog 114 #[p,ag (bs l)] w fun e w'=>e=.returned (ae au n)/\Below w.heap.size w w':=by
 obtain⟨⟨h0,h1⟩,e⟩:=h;have hb:eu (-99999999999999) 99999999999999 n=true:=by simp[eu];omega
 have hq:((bs (itoa n)).toList==(bs l).toList)=true:=by rw[e];simp
 have HE:=hide E;have hl:(itoa n).length<=17:=eF (by omega) (by omega);have HP:=hide (strconv_ParseInt_10_at64_ok (bs l) (by rw[bD,<-e];omega) n (by rw[bS,<-e];exact GR h0 h1) w);clear E e;go_enter func114,ntmps114;go_wp2_with fail;refine HP.mono ?_;rintro e w1⟨rfl,hw1⟩;have hb1:Below w.heap.size w w1:=by
  rcases hw1 with rfl|⟨t',rfl⟩
  ·exact Below.refl _ _
  ·exact Lib.bytesWorld_below _ _ _
 have HB1:=hide hb1;clear hw1 hb1 HP;go_wp2_with fail;refine(bH _ _ _ _).mono ?_;rintro e w2⟨rfl,hw⟩;rw[hw,hb];clear hw;go_wp2_with fail;refine(fA p _).mono ?_;rintro e w2⟨rfl,hw⟩;rw[hw];clear hw;go_wp2_with fail;refine(ry n _ (by omega) (by omega) (HE.below HB1.out).tab).mono ?_;rintro e w3⟨rfl,hb3⟩;have HB3:=hide (aJ HB1.out hb3);clear hb3;go_wp2_with fail;refine(fA p _).mono ?_;rintro e w4⟨rfl,hw⟩;rw[hw];clear hw;go_wp2_with fail;go_ret;exact⟨rfl,HB3.out⟩
def Tf(t:TypeId)(v:Value)(w:World)(e:Ending)(w':World):Prop:=e=dx t v/\Below w.heap.size w w'
theorem r9(p:Value)(l:List UInt8)(t:TypeId)(v:Value)(w:World)(E:Env t v w)(hl:l.length<=1048576)(h:∀n,¬ jF l n) :
  Calls prog 114 #[p,ag (bs l)] w fun e w'=>Tf t v w e w':=by
 have HE:=hide E;have HN:=hide h
 cases hp:parseIntB 64 l with
 | ok n =>
  have hbd:=Lib.parseIntB_bounds hp;have HP:=hide (strconv_ParseInt_10_at64_ok (bs l) (by rw[bD];omega) n (by rw[bS];exact hp) w);clear E h hp;go_enter func114,ntmps114;go_wp2_with fail;refine HP.mono ?_;rintro e w1⟨rfl,hw1⟩;have hb1:Below w.heap.size w w1:=by
   rcases hw1 with rfl|⟨t',rfl⟩
   ·exact Below.refl _ _
   ·exact Lib.bytesWorld_below _ _ _
  have HB1:=hide hb1;clear hw1 hb1 HP;go_wp2_with fail;refine(bH _ _ _ _).mono ?_;rintro e w2⟨rfl,hw⟩;rw[hw];clear hw;cases hb:eu (-99999999999999) 99999999999999 n
  ·go_wp2_with fail;refine(gK p t v _ (HE.below HB1.out)).mono ?_;rintro e w2⟨rfl,hw⟩;rw[hw];clear hw;unfold dx;go_wp2_with fail;exact⟨rfl,rfl,HB1.out⟩
  ·go_wp2_with fail;refine(fA p _).mono ?_;rintro e w2⟨rfl,hw⟩;rw[hw];clear hw;have hb':-99999999999999<=n/\n<=99999999999999:=by simpa[eu] using hb
   have hq:((bs (itoa n)).toList==(bs l).toList)=false:=by
    rw[mi];cases q:(itoa n==l)
    ·rfl
    ·exact absurd ⟨hb',beq_iff_eq.1 q⟩ (HN.out n)
   go_wp2_with fail;refine(ry n _ (by omega) (by omega) (HE.below HB1.out).tab).mono ?_;rintro e w3⟨rfl,hb3⟩;have HB3:=hide (aJ HB1.out hb3);clear hb3;go_wp2_with fail;refine(gK p t v _ (HE.below HB3.out)).mono ?_;rintro e w4⟨rfl,hw⟩;rw[hw];clear hw;unfold dx;go_wp2_with fail;exact⟨rfl,rfl,HB3.out⟩
 | «syntax» =>
  obtain⟨ta,va,hs⟩:=E.syn;have HP:=hide (strconv_ParseInt_10_at64_syntax (bs l) (by rw[bD];omega) (by rw[bS];exact hp) (.iface ta va) w hs (.inr ⟨ta,va,rfl⟩));clear E h hp hs;go_enter func114,ntmps114;go_wp2_with fail;refine HP.mono ?_;rintro e w1⟨N,rfl,_,_,hb1⟩;have HB1:=hide hb1;clear hb1 HP;go_wp2_with fail;refine(gK p t v _ (HE.below HB1.out)).mono ?_;rintro e w2⟨rfl,hw⟩;rw[hw];clear hw;unfold dx;go_wp2_with fail;exact⟨rfl,rfl,HB1.out⟩
 | range =>
  obtain⟨ta,va,hs⟩:=E.rng;have HP:=hide (strconv_ParseInt_10_at64_range (bs l) (by rw[bD];omega) (by rw[bS];exact hp) (.iface ta va) w hs (.inr ⟨ta,va,rfl⟩));clear E h hp hs;go_enter func114,ntmps114;go_wp2_with fail;refine HP.mono ?_;rintro e w1⟨N,rfl,_,_,hb1⟩;have HB1:=hide hb1;clear hb1 HP;go_wp2_with fail;refine(gK p t v _ (HE.below HB1.out)).mono ?_;rintro e w2⟨rfl,hw⟩;rw[hw];clear hw;unfold dx;go_wp2_with fail;exact⟨rfl,rfl,HB1.out⟩
theorem Nq(r:List UInt8):Lib.hasPrefix (32::r) [32]=true/\Lib.trimPrefix (32::r) [32]=r:=by
 have h:Lib.hasPrefix (32::r) [32]=true:=by simp[Lib.hasPrefix]
 exact⟨h,by unfold Lib.trimPrefix;rw[if_pos h];rfl⟩
theorem Sj{l:List UInt8}(hn:l.head?≠some 32):Lib.hasPrefix l [32]=false/\Lib.trimPrefix l [32]=l:=by
 have h:Lib.hasPrefix l [32]=false:=by
  cases l with
  | nil=>rfl
  | cons c r =>
   simp only[List.head?_cons,ne_eq,Option.some.injEq] at hn;simp[Lib.hasPrefix,List.isPrefixOf];exact fun e=>hn e.symm
 exact⟨h,by unfold Lib.trimPrefix;rw[h];rfl⟩
theorem uR(B:Nat)(r:List UInt8)(w:World)(h:jb B [ag (bs (32::r))] w)(hl:r.length<=1048576) :
  Calls prog 125 #[ai (some ⟨B,0,none⟩)] w fun e w'=>e=.returned (ag (bs (aX r)))/\jE B (bK r) w w':=by
 have HB:=hide (gZ B (32::r) [32] w h);clear h;go_enter func125,ntmps125;go_wp2_with fail;refine HB.mono ?_;rintro e w1⟨rfl,hr1⟩;rw[(Nq r).2] at hr1;rw[(Nq r).1];have HR:=hide hr1;clear hr1 HB;go_wp2_with fail;refine(fA _ _).mono ?_;rintro e w2⟨rfl,hw⟩;rw[hw];clear hw;go_wp2_with fail;refine(rY B r _ HR.1 hl).mono ?_;rintro e w3⟨rfl,hr3⟩;have HR3:=hide (HR.trans hr3);clear hr3;go_wp2_with fail;go_ret;exact⟨rfl,HR3.out⟩
def xm(B:Nat)(t:TypeId)(v:Value)(w:World)(e:Ending)(w':World):Prop:=e=dx t v/\∃l,jE B l w w'
theorem CW(B:Nat)(l:List UInt8)(t:TypeId)(v:Value)(w0 w:World)(E:Env t v w0)(h:Rg w0 B l w)(hn:l.head?≠some 32) :
  Calls prog 125 #[ai (some ⟨B,0,none⟩)] w fun e w'=>xm B t v w e w':=by
 have HB:=hide (gZ B l [32] w h.r);have HE:=hide E;have HG:=hide h;have HN:=hide (Sj hn);clear h E hn;go_enter func125,ntmps125;go_wp2_with fail;refine HB.mono ?_;rintro e w1⟨rfl,hr1⟩;rw[HN.2] at hr1;rw[HN.1];have HR:=hide hr1;clear hr1 HB;go_wp2_with fail;refine(gK _ t v _ ((HG.mV HR.out).env HE.out)).mono ?_;rintro e w2⟨rfl,hw⟩;rw[hw];clear hw;unfold dx;go_wp2_with fail;exact⟨rfl,rfl,_,HR.out⟩
def FY(B k:Nat)(v0 v1 u:Value)(W0 x:World):Prop:=x.cell? ⟨B,0,none⟩=some v0/\x.cell? ⟨B,1,none⟩=some v1/\x.cell? ⟨2,k,none⟩=some u/\Hid (Below W0.heap.size W0 x)
theorem FY.of{B k:Nat}{v0 v1 u:Value}{W0 x:World}(h0:W0.cell? ⟨B,0,none⟩=some v0)(h1:W0.cell? ⟨B,1,none⟩=some v1)(hu:W0.cell? ⟨2,k,none⟩=some u)(b:Below W0.heap.size W0 x):FY B k v0 v1 u W0 x:=⟨aN b _ _ h0,aN b _ _ h1,aN b _ _ hu,hide b⟩
theorem FY.on{B k:Nat}{v0 v1 u:Value}{W0 x y:World}(h:FY B k v0 v1 u W0 x)(b:Below x.heap.size x y):FY B k v0 v1 u W0 y:=⟨aN b _ _ h.1,aN b _ _ h.2.1,aN b _ _ h.2.2.1,hide (aJ h.2.2.2.out b)⟩
def FX(B A:Nat)(v2 v3 v4 s0 s1:Value)(W0 x:World):Prop:=x.cell? ⟨B,2,none⟩=some v2/\x.cell? ⟨B,3,none⟩=some v3/\x.cell? ⟨B,4,none⟩=some v4/\x.cell? ⟨A,0,none⟩=some s0/\x.cell? ⟨A,1,none⟩=some s1/\Hid (Below W0.heap.size W0 x)
theorem FX.of{B A:Nat}{v2 v3 v4 s0 s1:Value}{W0 x:World}(h2:W0.cell? ⟨B,2,none⟩=some v2)(h3:W0.cell? ⟨B,3,none⟩=some v3)(h4:W0.cell? ⟨B,4,none⟩=some v4)(k0:W0.cell? ⟨A,0,none⟩=some s0)(k1:W0.cell? ⟨A,1,none⟩=some s1)(b:Below W0.heap.size W0 x):FX B A v2 v3 v4 s0 s1 W0 x :=
 ⟨aN b _ _ h2,aN b _ _ h3,aN b _ _ h4,aN b _ _ k0,aN b _ _ k1,hide b⟩
theorem FX.on{B A:Nat}{v2 v3 v4 s0 s1:Value}{W0 x y:World}(h:FX B A v2 v3 v4 s0 s1 W0 x)(b:Below x.heap.size x y):FX B A v2 v3 v4 s0 s1 W0 y :=
 ⟨aN b _ _ h.1,aN b _ _ h.2.1,aN b _ _ h.2.2.1,aN b _ _ h.2.2.2.1,aN b _ _ h.2.2.2.2.1,hide (aJ h.2.2.2.2.2.out b)⟩
def TQ(B b:Nat)(l:List UInt8)(w:World):Prop:=Lib.IsBuilderF 179 5 B b (Lib.byteCells l) w
theorem Oi{B b:Nat}{p:Value}{bs:List Value}{w w':World}(h:Lib.BuilderAtF 179 5 B b p bs w)(k:Below w.heap.size w w'):Lib.BuilderAtF 179 5 B b p bs w':=by
 obtain⟨hB,v,hb,hown,hne⟩:=h;have hlt:b<w.heap.size:=(Array.getElem?_eq_some_iff.1 hb).1;refine⟨hB,v,(k.block b hlt).trans hb,?_,hne⟩;exact hown.kept (row:=none) ⟨k.os,k.tape,k.output,k.size,fun i hi _=>k.block i hi⟩ (by cases h:v.ownBlock with|none=>exact .inl rfl|some x=>exact .inr (by simp))
theorem TQ.kept{B b:Nat}{l:List UInt8}{w w':World}(h:TQ B b l w)(k:Below w.heap.size w w'):TQ B b l w':=h.elim (fun x=>.inl (Oi x k)) (fun x=>.inr (Oi x k))
def qO(ws:List (List UInt8)):List UInt8:=Lib.join ws [32]++[10]
def Ot(x:bF):List (List UInt8):=[[97,99,99,111,117,110,116],x.name.data.toList,x.cur.data.toList,Lib.itoa x.bB,Lib.itoa x.aS]
def Nw(x:bP):List (List UInt8):=[[104,111,108,100],Lib.itoa x.id,x.fr.data.toList,x.to.data.toList,Lib.itoa x.aV]
def Om(x:Sn):List (List UInt8):=[[115,101,101,110],Lib.itoa x.id,Lib.itoa x.code]
def lX(x:bF):List UInt8:=qO (Ot x)
def kQ(x:bP):List UInt8:=qO (Nw x)
def jQ(x:Sn):List UInt8:=qO (Om x)
def body(L:bM)(a h s:Nat):List UInt8:=[108,101,100,103,101,114,10]++((L.aI.take a).flatMap lX++((L.az.take h).flatMap kQ++(L.aH.take s).flatMap jQ))
def ny(L:bM):List UInt8:=if df L=true then body L L.aI.length L.az.length L.aH.length else []
theorem Ob{L:bM}{k:Nat}(h:k<L.aI.length):body L (k+1) 0 0=body L k 0 0++lX L.aI[k]:=by
 simp only[body,dX _ _ h,List.flatMap_append,List.flatMap_singleton,List.take_zero,List.flatMap_nil,List.append_nil,List.append_assoc]
theorem Ll{L:bM}{n k:Nat}(h:k<L.az.length):body L n (k+1) 0=body L n k 0++kQ L.az[k]:=by
 simp only[body,dX _ _ h,List.flatMap_append,List.flatMap_singleton,List.take_zero,List.flatMap_nil,List.append_nil,List.append_assoc]
theorem Lj{L:bM}{n m k:Nat}(h:k<L.aH.length):body L n m (k+1)=body L n m k++jQ L.aH[k]:=by
 simp only[body,dX _ _ h,List.flatMap_append,List.flatMap_singleton,List.append_assoc]
theorem lC{L:bM}(h:df L=true):(L.aI.length<=12/\L.az.length<=10/\L.aH.length<=40)/\bE (nU L) L.aI.length=true/\bE (nT L) L.aH.length=true/\bE (nY L) L.az.length=true:=by
 rw[<-rG] at h;simp only[G5,Bool.and_eq_true,decide_eq_true_eq] at h;obtain⟨⟨⟨⟨⟨⟨g1,g2⟩,g3⟩,ha⟩,hs⟩,hh⟩,hb⟩:=h;exact⟨⟨g1,g2,g3⟩,ha,hs,hh⟩
theorem AL{L:bM}(h:df L=true){k:Nat}(hk:k<L.aI.length):L.aI[k].name.size<=12/\L.aI[k].cur.size<=12/\(-1<=L.aI[k].bB/\L.aI[k].bB<=1000000000000)/\(-1000000000000<=L.aI[k].aS/\L.aI[k].aS<=1000000000000):=by
 have h1:=dU (lC h).2.1 hk;rw[gP hk] at h1;simp only[Bool.and_eq_true] at h1;exact⟨lw h1.1.1.1.2,Ck h1.1.1.2,bW.1 h1.1.2,bW.1 h1.2⟩
theorem DX{L:bM}(h:df L=true){k:Nat}(hk:k<L.aH.length):(1<=L.aH[k].id/\L.aH[k].id<=1000000000)/\(0<=L.aH[k].code/\L.aH[k].code<=9):=by
 have h1:=dU (lC h).2.2.1 hk;rw[jf hk] at h1;simp only[Bool.and_eq_true,Bool.or_eq_true,decide_eq_true_eq] at h1;refine⟨bW.1 h1.1.1,?_⟩;rcases h1.2 with h2|h2
 ·omega
 ·have:=bW.1 h2;omega
theorem Ff{L:bM}(h:df L=true){nm:ByteArray}{i:Nat}(hi:dZ L.aI nm=some i):nm.size<=12:=by
 obtain⟨hl,e,_⟩:=fq hi;rw[<-e];exact(AL h hl).1
theorem Dv{L:bM}(h:df L=true){k:Nat}(hk:k<L.az.length):L.az[k].fr.size<=12/\L.az[k].to.size<=12/\(1<=L.az[k].id/\L.az[k].id<=1000000000)/\(1<=L.az[k].aV/\L.az[k].aV<=1000000000000):=by
 have h1:=dU (lC h).2.2.2 hk;rw[jv hk] at h1;simp only[Bool.and_eq_true] at h1;have hp:=h1.2;unfold mD at hp
 cases e1:dZ L.aI L.az[k].fr with
 | none=>rw[e1] at hp;simp at hp
 | some i =>
  cases e2:dZ L.aI L.az[k].to with
  | none=>rw[e1,e2] at hp;simp at hp
  | some j=>exact⟨Ff h e1,Ff h e2,bW.1 h1.1.1.1.2,bW.1 h1.1.1.2⟩
theorem BU(a b c d e:List UInt8):(Lib.join [a,b,c,d,e] [32]).length=a.length+b.length+c.length+d.length+e.length+4:=by
 simp[Lib.join,List.intercalate];omega
theorem KF(a b c:List UInt8):(Lib.join [a,b,c] [32]).length=a.length+b.length+c.length+2:=by
 simp[Lib.join,List.intercalate];omega
theorem Ou{L:bM}(h:df L=true){k:Nat}(hk:k<L.aI.length):(Lib.join (Ot L.aI[k]) [32]).length<=90:=by
 obtain⟨h1,h2,h3,h4⟩:=AL h hk;rw[Ot,BU];have:=eF (n:=L.aI[k].bB) (by omega) (by omega);have:=eF (n:=L.aI[k].aS) (by omega) (by omega);have e1:L.aI[k].name.data.toList.length=L.aI[k].name.size:=by simp
 have e2:L.aI[k].cur.data.toList.length=L.aI[k].cur.size:=by simp
 simp only[List.length_cons,List.length_nil];omega
theorem Ny{L:bM}(h:df L=true){k:Nat}(hk:k<L.az.length):(Lib.join (Nw L.az[k]) [32]).length<=90:=by
 obtain⟨h1,h2,h3,h4⟩:=Dv h hk;rw[Nw,BU];have:=eF (n:=L.az[k].id) (by omega) (by omega);have:=eF (n:=L.az[k].aV) (by omega) (by omega);have e1:L.az[k].fr.data.toList.length=L.az[k].fr.size:=by simp
 have e2:L.az[k].to.data.toList.length=L.az[k].to.size:=by simp
 simp only[List.length_cons,List.length_nil];omega
theorem Oo{L:bM}(h:df L=true){k:Nat}(hk:k<L.aH.length):(Lib.join (Om L.aH[k]) [32]).length<=90:=by
 obtain⟨h1,h2⟩:=DX h hk;rw[Om,KF];have:=eF (n:=L.aH[k].id) (by omega) (by omega);have:=eF (n:=L.aH[k].code) (by omega) (by omega);simp only[List.length_cons,List.length_nil];omega
theorem DD{A:Type}(f:A->List UInt8)(l:List A)(h:∀x∈l,(f x).length<=91):(l.flatMap f).length<=91*l.length:=by
 induction l with
 | nil=>simp
 | cons x xs ih =>
  have h1:=h x (by simp);have h2:=ih (fun y hy=>h y (by simp[hy]));simp only[List.flatMap_cons,List.length_append,List.length_cons];omega
theorem yY{A:Type}{l:List A}{k:Nat}{x:A}(h:x∈l.take k):∃i,∃hi:i<l.length,l[i]=x:=by
 obtain⟨i,hi,e⟩:=List.getElem_of_mem (List.mem_of_mem_take h);exact⟨i,hi,e⟩
theorem vP{L:bM}(h:df L=true)(a b c:Nat):(body L a b c).length<=6000:=by
 obtain⟨g1,g2,g3⟩:=(lC h).1;have h1:=DD lX (L.aI.take a) (fun x hx=>by obtain⟨i,hi,rfl⟩:=yY hx;have:=Ou h hi;simp only[lX,qO,List.length_append,List.length_cons,List.length_nil];omega);have h2:=DD kQ (L.az.take b) (fun x hx=>by obtain⟨i,hi,rfl⟩:=yY hx;have:=Ny h hi;simp only[kQ,qO,List.length_append,List.length_cons,List.length_nil];omega);have h3:=DD jQ (L.aH.take c) (fun x hx=>by obtain⟨i,hi,rfl⟩:=yY hx;have:=Oo h hi;simp only[jQ,qO,List.length_append,List.length_cons,List.length_nil];omega);have e1:(L.aI.take a).length<=12:=by rw[List.length_take];omega
 have e2:(L.az.take b).length<=10:=by rw[List.length_take];omega
 have e3:(L.aH.take c).length<=40:=by rw[List.length_take];omega
 simp only[body,List.length_append,List.length_cons,List.length_nil];omega
theorem vN{l:List UInt8}{n:Nat}(h:l.length<=n):(bs l).size<=n:=by rw[bD];exact h
theorem Oa{w x:World}{va vh vs:Value}(h:Below (w.heap.size+1) (w.alloc (.cells #[va,vh,vs] 31)) x):x.cell? ⟨w.heap.size,0,none⟩=some va/\x.cell? ⟨w.heap.size,1,none⟩=some vh/\x.cell? ⟨w.heap.size,2,none⟩=some vs :=
 ⟨by rw[h.cell (by simp)];simp,by rw[h.cell (by simp)];simp,by rw[h.cell (by simp)];simp⟩
set_option maxRecDepth 100000 in
theorem qL(a h s:Option Addr)(L:bM)(ca ch cs:Nat)(w:World)(hl:iO w a h s L)(n1:L.aI.length<=1048576)(n2:L.az.length<=1048576)(n3:L.aH.length<=1048576) :
  Calls prog 72 #[aj #[af a L.aI.length ca,af h L.az.length ch,af s L.aH.length cs]] w fun e w'=>rV (ny L) w e w':=by
 have HL:=hide hl;clear hl;have HX0:Hid (Below (w.heap.size+1) (w.alloc (.cells #[af a L.aI.length ca,af h L.az.length ch,af s L.aH.length cs] 31)) (w.alloc (.cells #[af a L.aI.length ca,af h L.az.length ch,af s L.aH.length cs] 31))):=hide (Below.refl _ _);cases q:df L
 ·have HR:Hid (ny L=[]):=hide (by simp[ny,q]);go_enter func72,ntmps72;go_wp2_with (first|(go_at_call 95;refine(o5 _ _ _ L _ _ _ _ (HL.below (bn HX0.out)) n1 n2 n3).mono ?_;rintro e w1⟨rfl,hb1⟩;have HX1:=hide (fo HX0.out hb1);clear hb1));go_ret;exact⟨by rw[HR.out];rfl,bn HX1.out⟩
 ·have HQ:Hid (df L=true):=hide q;have HR:Hid (ny L=body L L.aI.length L.az.length L.aH.length):=hide (by rw[ny,if_pos q]);go_enter func72,ntmps72;go_wp2_with (first|(go_at_call 95;refine(o5 _ _ _ L _ _ _ _ (HL.below (bn HX0.out)) n1 n2 n3).mono ?_;rintro e w1⟨rfl,hb1⟩;have HX1:=hide (fo HX0.out hb1);clear hb1));clear q;obtain⟨⟨g1,g2,g3⟩,_⟩:=lC HQ.out;go_wp2;go_loopw [3,4] (fun t i wr=>∃k:Nat,k<=L.aI.length/\i=ae au (k:Int)/\t=ag (bs (body L k 0 0))/\Hid (Below (w.heap.size+1) (w.alloc (.cells #[af a L.aI.length ca,af h L.az.length ch,af s L.aH.length cs] 31)) wr)) (fun t i wr=>L.aI.length-(RowKit.intOf i).toNat)
  case atStart=>exact⟨0,Nat.zero_le _,rfl,rfl,HX1⟩
  case round =>
   obtain⟨k,hk,rfl,rfl,HX⟩:=hrel;obtain⟨x0,x1,x2⟩:=Oa HX.out;have hbl:(bs (body L k 0 0)).size<=6000:=vN (vP HQ.out _ _ _);by_cases hlt:k<L.aI.length
   ·obtain⟨b,off,rfl,hb,d0,d1,d2,d3,_⟩:=(HL.aI.below (bn HX.out)) k hlt;have hlt':(k:Int)<(L.aI.length:Int):=by omega
    obtain⟨s1,s2,⟨b1,b2⟩,b3,b4⟩:=AL HQ.out hlt;have l0:(bs (Lib.itoa (L.aI[k]).bB)).size<=17:=vN (eF (by omega) (by omega));have l1:(bs (Lib.itoa (L.aI[k]).aS)).size<=17:=vN (eF (by omega) (by omega));have HS:Hid (bs (body L k 0 0)++{data:=#[97,99,99,111,117,110,116,32]}++(L.aI[k]).name++{data:=#[32]}++(L.aI[k]).cur++{data:=#[32]}++bs (Lib.itoa (L.aI[k]).bB)++{data:=#[32]}++bs (Lib.itoa (L.aI[k]).aS)++{data:=#[10]}=bs (body L (k+1) 0 0)):=hide (by apply gQ;rw[Ob hlt];simp[bS,lX,qO,Ot,Lib.join,List.intercalate]);have k0:∀y:Later (wr.alloc (.cells #[ag (L.aI[k]).name,ag (L.aI[k]).cur,ae au (L.aI[k]).bB,ae au (L.aI[k]).aS] 106)),y.w.cell? ⟨wr.heap.size,0,none⟩=some (ag (L.aI[k]).name):=fun y=>aN y.below _ _ (by simp)
    have k1:∀y:Later (wr.alloc (.cells #[ag (L.aI[k]).name,ag (L.aI[k]).cur,ae au (L.aI[k]).bB,ae au (L.aI[k]).aS] 106)),y.w.cell? ⟨wr.heap.size,1,none⟩=some (ag (L.aI[k]).cur):=fun y=>aN y.below _ _ (by simp)
    have k2:∀y:Later (wr.alloc (.cells #[ag (L.aI[k]).name,ag (L.aI[k]).cur,ae au (L.aI[k]).bB,ae au (L.aI[k]).aS] 106)),y.w.cell? ⟨wr.heap.size,2,none⟩=some (ae au (L.aI[k]).bB):=fun y=>aN y.below _ _ (by simp)
    have k3:∀y:Later (wr.alloc (.cells #[ag (L.aI[k]).name,ag (L.aI[k]).cur,ae au (L.aI[k]).bB,ae au (L.aI[k]).aS] 106)),y.w.cell? ⟨wr.heap.size,3,none⟩=some (ae au (L.aI[k]).aS):=fun y=>aN y.below _ _ (by simp)
    have hne:Nonempty (Later (wr.alloc (.cells #[ag (L.aI[k]).name,ag (L.aI[k]).cur,ae au (L.aI[k]).bB,ae au (L.aI[k]).aS] 106))):=bO _;have HW:Hid (Below (w.heap.size+1) (w.alloc (.cells #[af (some ⟨b,off,none⟩) L.aI.length ca,af h L.az.length ch,af s L.aH.length cs] 31)) (wr.alloc (.cells #[ag (L.aI[k]).name,ag (L.aI[k]).cur,ae au (L.aI[k]).bB,ae au (L.aI[k]).aS] 106))):=hide (fo HX.out (aF (Below.refl _ _) _));go_wp2_with fail;refine aU (wr.alloc (.cells #[ag (L.aI[k]).name,ag (L.aI[k]).cur,ae au (L.aI[k]).bB,ae au (L.aI[k]).aS] 106)) (by kernel_rfl) (by kernel_rfl) ((Below.refl _ _).drew) ?_
    repeat (go_big_quiet_step (first|(go_at_call 96;exact dh (iY _ _ (by omega) (by omega)))))
    refine wpQuiet_nil ?_;intro _ hw';obtain⟨nx,rfl⟩:=hw';go_wp2;exact⟨⟨k+1,by omega,by go_num,by rw[<-HS.out],hide (fo HW.out nx.below)⟩,by simp[RowKit.intOf];omega⟩
   ·have hk':¬ (k:Int)<(L.aI.length:Int):=by omega
    obtain rfl:k=L.aI.length:=by omega
    go_wp2;clear x0 x1 x2 hbl;obtain⟨w2,rfl⟩:∃w2:World,w2=wr:=⟨_,rfl⟩;go_loopw [3,6] (fun t i wr=>∃k:Nat,k<=L.az.length/\i=ae au (k:Int)/\t=ag (bs (body L L.aI.length k 0))/\Hid (Below (w.heap.size+1) (w.alloc (.cells #[af a L.aI.length ca,af h L.az.length ch,af s L.aH.length cs] 31)) wr)) (fun t i wr=>L.az.length-(RowKit.intOf i).toNat)
    case atStart=>exact⟨0,Nat.zero_le _,rfl,(by show ag (bs (body L L.aI.length 0 0))=_;rfl),HX⟩
    case round =>
     obtain⟨k,hk,rfl,rfl,HX⟩:=hrel;obtain⟨x0,x1,x2⟩:=Oa HX.out;have hbl:(bs (body L L.aI.length k 0)).size<=6000:=vN (vP HQ.out _ _ _);by_cases hlt:k<L.az.length
     ·obtain⟨b,off,rfl,hb,d0,d1,d2,d3,_⟩:=(HL.az.below (bn HX.out)) k hlt;have hlt':(k:Int)<(L.az.length:Int):=by omega
      obtain⟨s1,s2,⟨b1,b2⟩,b3,b4⟩:=Dv HQ.out hlt;have l0:(bs (Lib.itoa (L.az[k]).id)).size<=17:=vN (eF (by omega) (by omega));have l1:(bs (Lib.itoa (L.az[k]).aV)).size<=17:=vN (eF (by omega) (by omega));have HS:Hid (bs (body L L.aI.length k 0)++{data:=#[104,111,108,100,32]}++bs (Lib.itoa (L.az[k]).id)++{data:=#[32]}++(L.az[k]).fr++{data:=#[32]}++(L.az[k]).to++{data:=#[32]}++bs (Lib.itoa (L.az[k]).aV)++{data:=#[10]}=bs (body L L.aI.length (k+1) 0)):=hide (by apply gQ;rw[Ll hlt];simp[bS,kQ,qO,Nw,Lib.join,List.intercalate]);have k0:∀y:Later (wr.alloc (.cells #[ae au (L.az[k]).id,ag (L.az[k]).fr,ag (L.az[k]).to,ae au (L.az[k]).aV] 109)),y.w.cell? ⟨wr.heap.size,0,none⟩=some (ae au (L.az[k]).id):=fun y=>aN y.below _ _ (by simp)
      have k1:∀y:Later (wr.alloc (.cells #[ae au (L.az[k]).id,ag (L.az[k]).fr,ag (L.az[k]).to,ae au (L.az[k]).aV] 109)),y.w.cell? ⟨wr.heap.size,1,none⟩=some (ag (L.az[k]).fr):=fun y=>aN y.below _ _ (by simp)
      have k2:∀y:Later (wr.alloc (.cells #[ae au (L.az[k]).id,ag (L.az[k]).fr,ag (L.az[k]).to,ae au (L.az[k]).aV] 109)),y.w.cell? ⟨wr.heap.size,2,none⟩=some (ag (L.az[k]).to):=fun y=>aN y.below _ _ (by simp)
      have k3:∀y:Later (wr.alloc (.cells #[ae au (L.az[k]).id,ag (L.az[k]).fr,ag (L.az[k]).to,ae au (L.az[k]).aV] 109)),y.w.cell? ⟨wr.heap.size,3,none⟩=some (ae au (L.az[k]).aV):=fun y=>aN y.below _ _ (by simp)
      have hne:Nonempty (Later (wr.alloc (.cells #[ae au (L.az[k]).id,ag (L.az[k]).fr,ag (L.az[k]).to,ae au (L.az[k]).aV] 109))):=bO _;have HW:Hid (Below (w.heap.size+1) (w.alloc (.cells #[af a L.aI.length ca,af (some ⟨b,off,none⟩) L.az.length ch,af s L.aH.length cs] 31)) (wr.alloc (.cells #[ae au (L.az[k]).id,ag (L.az[k]).fr,ag (L.az[k]).to,ae au (L.az[k]).aV] 109))):=hide (fo HX.out (aF (Below.refl _ _) _));go_wp2_with fail;refine aU (wr.alloc (.cells #[ae au (L.az[k]).id,ag (L.az[k]).fr,ag (L.az[k]).to,ae au (L.az[k]).aV] 109)) (by kernel_rfl) (by kernel_rfl) ((Below.refl _ _).drew) ?_
      repeat (go_big_quiet_step (first|(go_at_call 96;exact dh (iY _ _ (by omega) (by omega)))))
      refine wpQuiet_nil ?_;intro _ hw';obtain⟨nx,rfl⟩:=hw';go_wp2;exact⟨⟨k+1,by omega,by go_num,by rw[<-HS.out],hide (fo HW.out nx.below)⟩,by simp[RowKit.intOf];omega⟩
     ·have hk':¬ (k:Int)<(L.az.length:Int):=by omega
      obtain rfl:k=L.az.length:=by omega
      go_wp2;clear x0 x1 x2 hbl;obtain⟨w3,rfl⟩:∃w3:World,w3=wr:=⟨_,rfl⟩;go_loopw [3,8] (fun t i wr=>∃k:Nat,k<=L.aH.length/\i=ae au (k:Int)/\t=ag (bs (body L L.aI.length L.az.length k))/\Hid (Below (w.heap.size+1) (w.alloc (.cells #[af a L.aI.length ca,af h L.az.length ch,af s L.aH.length cs] 31)) wr)) (fun t i wr=>L.aH.length-(RowKit.intOf i).toNat)
      case atStart=>exact⟨0,Nat.zero_le _,rfl,(by show ag (bs (body L L.aI.length L.az.length 0))=_;rfl),HX⟩
      case round =>
       obtain⟨k,hk,rfl,rfl,HX⟩:=hrel;obtain⟨x0,x1,x2⟩:=Oa HX.out;have hbl:(bs (body L L.aI.length L.az.length k)).size<=6000:=vN (vP HQ.out _ _ _);by_cases hlt:k<L.aH.length
       ·obtain⟨b,off,rfl,hb,d0,d1,_,_⟩:=(HL.aH.below (bn HX.out)) k hlt;have hlt':(k:Int)<(L.aH.length:Int):=by omega
        obtain⟨⟨b1,b2⟩,b3,b4⟩:=DX HQ.out hlt;have l0:(bs (Lib.itoa (L.aH[k]).id)).size<=17:=vN (eF (by omega) (by omega));have l1:(bs (Lib.itoa (L.aH[k]).code)).size<=17:=vN (eF (by omega) (by omega));have HS:Hid (bs (body L L.aI.length L.az.length k)++{data:=#[115,101,101,110,32]}++bs (Lib.itoa (L.aH[k]).id)++{data:=#[32]}++bs (Lib.itoa (L.aH[k]).code)++{data:=#[10]}=bs (body L L.aI.length L.az.length (k+1))):=hide (by apply gQ;rw[Lj hlt];simp[bS,jQ,qO,Om,Lib.join,List.intercalate]);have k0:∀y:Later wr,y.w.cell? ⟨b,off+k*2,none⟩=some (ae au (L.aH[k]).id):=fun y=>aN y.below _ _ d0
        have k1:∀y:Later wr,y.w.cell? ⟨b,off+k*2+1,none⟩=some (ae au (L.aH[k]).code):=fun y=>aN y.below _ _ d1
        have k2:∀y:Later wr,y.w.cell? ⟨w.heap.size,2,none⟩=some (af (some ⟨b,off,none⟩) L.aH.length cs):=fun y=>aN y.below _ _ x2
        have hne:Nonempty (Later wr):=bO _;have HW:=HX;go_wp2_with fail;refine aU wr (by kernel_rfl) (by kernel_rfl) ((Below.refl _ _).drew) ?_
        repeat (go_big_quiet_step (first|(go_at_call 96;exact dh (iY _ _ (by omega) (by omega)))))
        refine wpQuiet_nil ?_;intro _ hw';obtain⟨nx,rfl⟩:=hw';go_wp2;exact⟨⟨k+1,by omega,by go_num,by rw[<-HS.out],hide (fo HW.out nx.below)⟩,by simp[RowKit.intOf];omega⟩
       ·have hk':¬ (k:Int)<(L.aH.length:Int):=by omega
        obtain rfl:k=L.aH.length:=by omega
        go_wp2;go_ret;exact⟨by rw[HR.out];rfl,bn HX.out⟩
end Go.Proofs.YtdbmmdecclalgaaGreatDoor
