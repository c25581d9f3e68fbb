import Derived.Test.YtdbmmdecclalgaaGreatDoorQbw
import Derived.Test.YtdbmmdecclalgaaGreatDoorQbh
import Derived.Test.YtdbmmdecclalgaaGreatDoorCards
import Derived.Test.YtdbmmdecclalgaaGreatDoorTie
import Derived.SevenTiedAt
import Derived.ChangeSame
import Derived.ChangeVars
import Derived.JoinedOf
import Derived.RowKit
import Derived.RowKitTokens
import Derived.LaidLaws
import Derived.LaidMore
import Derived.LaidHandle
import Derived.Stop.LaidErr
import Derived.Stop.LaidTwo
import Derived.Stop.Joined
import Derived.Lib.LaidTab
import Derived.ProofKit
import Derived.OpenShut
import Derived.ShutString
namespace Go.Proofs.YtdbmmdecclalgaaGreatDoor.fnExactJournalView
open Go.ChangeShapes Go.WideShapes Go.ChangeAt Go.RowKit
set_option linter.unusedVariables false
set_option maxRecDepth 100000
theorem P7{A:Type}(l:List A)(h:l.length=6):∃a b c d e f,l=[a,b,c,d,e,f]:=by
 match l,h with
 | [a,b,c,d,e,f],_=>exact⟨a,b,c,d,e,f,rfl⟩
theorem Fq:Tryz.prog.globalNamed "loop.example/g00280/impl.kindWords"=some 2:=by kernel_rfl
theorem LV:(Tryz.prog.globals[2]?).map (·.type)=some 217:=by kernel_rfl
theorem TB:Tryz.prog.globalNamed "internal/strconv.uint64pow10"=some 8:=by kernel_rfl
theorem Tu:(Tryz.prog.globals[8]?).map (·.type)=some 351:=by kernel_rfl
theorem Fs:Tryz.prog.globalNamed "loop.example/g00280/impl.errGaveUp"=some 1:=by kernel_rfl
theorem LW:(Tryz.prog.globals[1]?).map (·.type)=some 182:=by kernel_rfl
theorem Sm:Tryz.prog.globalNamed "strconv.ErrSyntax"=some 6:=by kernel_rfl
theorem Tv:(Tryz.prog.globals[6]?).map (·.type)=some 182:=by kernel_rfl
theorem Sq:Tryz.prog.globalNamed "strconv.ErrRange"=some 7:=by kernel_rfl
theorem Tw:(Tryz.prog.globals[7]?).map (·.type)=some 182:=by kernel_rfl
theorem N9:Tryz.prog.cellsOf 351=20:=by kernel_rfl
theorem cellsE:Tryz.prog.cellsOf 253=1:=by kernel_rfl
theorem yQ:Tryz.prog.cellsOf 349=1:=by kernel_rfl
theorem PW: "*" ++ "errors.errorString" = "*errors.errorString" := by decide
theorem I1(u:TypeId)(h:Tryz.prog.typeName? 3 u=some "*errors.errorString"):u=347 :=
 typeName_ptr_named (nm := "errors.errorString") (by rw[PW];kernel_rfl) (by kernel_rfl) (by decide) u (by rw[PW];exact h)
theorem tabData:(Rows.laid_internal_strconv_uint64pow10:DataW Unit)=Lib.tabData .u64 Lib.pow10Tab:=by kernel_rfl
theorem NC:Tryz.prog.globalNamed "loop.example/g00280/impl.errDenied"=some 5:=by kernel_rfl
theorem Qw:(Tryz.prog.globals[5]?).map (·.type)=some 182:=by kernel_rfl
theorem Sr:Tryz.prog.globalNamed "loop.example/g00280/impl.errAside"=some 0:=by kernel_rfl
theorem Tx:(Tryz.prog.globals[0]?).map (·.type)=some 182:=by kernel_rfl
theorem Ua:Tryz.prog.globalNamed "errors.errorType"=some 3:=by kernel_rfl
theorem rtype:(Tryz.prog.cutTypes.find? (·.1 == "internal/reflectlite.rtype")).map (·.2)=some 288:=by kernel_rfl
theorem QJ:((List.range 389).filter fun t=>Tryz.prog.rowNamed t [101,114,114,111,114])=[182]:=by kernel_rfl
theorem RN:Tryz.prog.types.size=389:=by kernel_rfl
theorem met{W:World}(h:laidMetH Tryz.prog Rows.fnExactJournalViewRow.laid W):∃a aA aD:Addr,Env 347 (.pointer (some a)) W/\qG aA aD W/\W.var? Tryz.prog "loop.example/g00280/impl.errGaveUp"=some #[.iface 347 (.pointer (some a))]/\W.var? Tryz.prog "loop.example/g00280/impl.errDenied"=some #[.iface 347 (.pointer (some aD))]/\W.var? Tryz.prog "loop.example/g00280/impl.errAside"=some #[.iface 347 (.pointer (some aA))]:=by
 have h':laidMet Tryz.prog [("math/bits.deBruijn32tab",Rows.laid_math_bits_deBruijn32tab),("math/bits.deBruijn64tab",Rows.laid_math_bits_deBruijn64tab),("internal/strconv.uint64pow10",Rows.laid_internal_strconv_uint64pow10),("strconv.ErrRange",Rows.laid_strconv_ErrRange),("strconv.ErrSyntax",Rows.laid_strconv_ErrSyntax),("loop.example/g00280/impl.errAside",Rows.laid_loop_example_g00280_impl_errAside),("loop.example/g00280/impl.errDenied",Rows.laid_loop_example_g00280_impl_errDenied),("loop.example/g00280/impl.kindWords",Rows.laid_loop_example_g00280_impl_kindWords),("loop.example/g00280/impl.errGaveUp",Rows.laid_loop_example_g00280_impl_errGaveUp)] W/\handlesMet Tryz.prog [("errors.errorType",Rows.laid_errors_errorType)] W:=h;obtain⟨name,u,ty,e1,e2,e3,e4,e5⟩:=h'.2 _ (List.mem_singleton.2 rfl);have en:name=[101,114,114,111,114]:=(Option.some.inj e1).symm;subst en;obtain rfl:=Option.some.inj (rtype.symm.trans e2);have hm:ty∈(List.range 389).filter fun t=>Tryz.prog.rowNamed t [101,114,114,111,114]:=List.mem_filter.2 ⟨List.mem_range.2 (by rw[<-RN];exact e3),e4⟩
 rw[QJ] at hm;obtain rfl:=List.mem_singleton.1 hm;have hh:typeHandle Tryz.prog 182=.pointer (some ⟨11,182,none⟩):=by kernel_rfl
 rw[hh] at e5;have h2:=laidMet.tail (laidMet.tail h'.1);have h3:=laidMet.tail h2;have h4:=laidMet.tail h3;have hs:=laidMet.tail h4;have h5:=laidMet.tail (laidMet.tail hs);have h6:=laidMet.tail h5;obtain⟨a3,s3,v3,_⟩:=laid_sentinel h3 Sq Tw Tryz.underlying182 I1 Tryz.underlying347 Tryz.underlying349 rfl rfl Tryz.underlying9 yQ Uy;obtain⟨a4,s4,v4,_⟩:=laid_sentinel h4 Sm Tv Tryz.underlying182 I1 Tryz.underlying347 Tryz.underlying349 rfl rfl Tryz.underlying9 yQ Uy;obtain⟨a6,s6,v6,_⟩:=laid_sentinel h6 Fs LW Tryz.underlying182 I1 Tryz.underlying347 Tryz.underlying349 rfl rfl Tryz.underlying9 yQ Uy;obtain⟨a0,a1,s0,s1,c0,c1,t0,t1,hv0,hv1,_,_,_,_,_,_,hne,hb0,hb1⟩:=laid_sentinels2 hs Sr Tx NC Qw Tryz.underlying182 I1 Tryz.underlying347 Tryz.underlying349 rfl rfl Tryz.underlying9 yQ Uy;refine⟨a6,a0,a1,⟨?_,?_,by simpa using World.var?_cell Fs v6 0,⟨_,_,by simpa using World.var?_cell Sm v4 0⟩,⟨_,_,by simpa using World.var?_cell Sq v3 0⟩⟩,⟨by simpa using World.var?_cell Sr hv0 0,by simpa using World.var?_cell NC hv1 0,by simpa using World.var?_cell Ua e5 0,fun e=>hne e.symm,⟨_,_,hb0⟩,⟨_,_,hb1⟩⟩,v6,hv1,hv0⟩
 ·rw[tabData] at h2;exact Lib.tabIs_of_head TB Tu Tryz.underlying351 Tryz.underlying253 cellsE N9 h2
 ·obtain⟨ps,⟨g',t',cs,fuel,p,q,hg',ht',hvar,hd,_,_⟩,_⟩:=h5;obtain rfl:=Option.some.inj (Fq.symm.trans hg');obtain rfl:=Option.some.inj (LV.symm.trans ht');obtain⟨xs,m1,rfl,hx1,hlen,hn6,hel⟩:=DataW.trod_array Tryz.underlying217 hd;have c46:Tryz.prog.cellsOf 217=6:=by kernel_rfl
  rw[c46] at hlen;obtain⟨y0,y1,y2,y3,y4,y5,rfl⟩:=P7 xs hn6;obtain⟨l⟩:=cs;obtain⟨v0,v1,v2,v3',v4',v5,rfl⟩:=P7 l hlen;simp only[Prod.mk.injEq,Rows.laid_loop_example_g00280_impl_kindWords,DataW.agg.injEq,List.map_cons,List.map_nil,List.cons.injEq,and_true] at hx1;have hone:∀i v y,i<6->([v0,v1,v2,v3',v4',v5].drop (i*1)).take 1=[v]->[y0,y1,y2,y3,y4,y5][i]?=some y->∀bytes,y.1=.lit (.string bytes)->v=.string (bs bytes):=fun i v y hi e1 e2 bytes e3=>by
   have:=hel i hi;rw[Uy,e1,e2] at this;obtain⟨s,es,ey,_⟩:=DataW.trod_string Tryz.underlying9 this;simp only[List.cons.injEq,and_true] at es;subst es;rw[ey] at e3;simp only[DataW.lit.injEq,Lit.string.injEq] at e3;rw[gQ e3]
  have cell:∀i,W.cell? ⟨2,i,none⟩=[v0,v1,v2,v3',v4',v5][i]?:=fun i=>by simpa using World.var?_cell Fq hvar i
  refine⟨?_,?_,?_,?_,?_⟩
  ·rw[cell];rw[hone 1 v1 y1 (by decide) rfl rfl _ hx1.1.2.1.symm];rfl
  ·rw[cell];rw[hone 2 v2 y2 (by decide) rfl rfl _ hx1.1.2.2.1.symm];rfl
  ·rw[cell];rw[hone 3 v3' y3 (by decide) rfl rfl _ hx1.1.2.2.2.1.symm];rfl
  ·rw[cell];rw[hone 4 v4' y4 (by decide) rfl rfl _ hx1.1.2.2.2.2.1.symm];rfl
  ·rw[cell];rw[hone 5 v5 y5 (by decide) rfl rfl _ hx1.1.2.2.2.2.2.symm];rfl
theorem uC{W W':World}{n:String}{g:Nat}{cs:Array Value}(hg:Tryz.prog.globalNamed n=some g)(h:W.var? Tryz.prog n=some cs)(hlt:g<W.heap.size)(b:Below W.heap.size W W'):W'.var? Tryz.prog n=some cs:=by
 unfold World.var? at h⊢;rw[hg] at h⊢;simp only[Option.bind_some] at h⊢;rw[b.block g hlt];exact h
theorem NM(os:Os)(args:Array Value):laidMetH Tryz.prog Rows.fnExactJournalViewRow.laid ((World.doorLaid Tryz.prog 4000 os).forCall (fun _ _=>0) ⟨#[],args,[]⟩).memory :=
 laidMetH_of_parts (laidMet_of_run' 8 (by kernel_rfl) (by kernel_rfl)) (by kernel_rfl)
theorem lifted(os:Os)(started:os.Started)(H:Type)(enc:TypeId×Value->H) :
  ReturnsInHanded {} Tryz.checked os 3 .any (fun w args=>(Rows.fnExactJournalViewSpec.pre enc Tryz.prog Tryz.f3 [] false w args/\laidMetH Tryz.prog Rows.fnExactJournalViewRow.laid w)/\sizedMet enc Tryz.prog Tryz.f3 (OpenSpec.ofChange Rows.fnExactJournalViewSpec) false w args)
   (Rows.fnExactJournalViewSpec.post enc Tryz.prog Tryz.f3 false true false false):=by
 refine returnsInHanded_of_change_and (C:=Tryz.checked) (X:=fun w _=>laidMetH Tryz.prog Rows.fnExactJournalViewRow.laid w) (fun _ _ _ hh h=>h.of_heap hh) own started (by kernel_rfl) Tryz.func3
  (ChangeSpec.witness_shaped (enc:=enc) (C:=Tryz.checked) (os:=os) (X:=fun w _=>laidMetH Tryz.prog Rows.fnExactJournalViewRow.laid w) false (World.doorLaid Tryz.prog 4000 os) #[.agg #[.slice none 0 0,.slice none 0 0,.slice none 0 0]] 8 rfl (World.shaped_of_RefB (by kernel_rfl) (by kernel_rfl)) (by kernel_rfl) (by kernel_rfl) (by kernel_rfl) (NM os _)) ?_
 intro W base args ds gs before hval0 hW _ _ hL _;have hval:∀(j:Nat) t v,Tryz.f3.params[j]?=some t->args[j]?=some v->Value.okWide Tryz.prog W .any base t v:=hval0;have hW':=hW;obtain⟨p,q,hA0,hV0,rfl,hfz,hnd⟩:=hW;have hA:DataW.TrodAll enc Tryz.prog W 0 (fun _=>true) true Tryz.f3.params.toList args.toList ds p:=hA0;have hV:DataW.TrodVars enc Tryz.prog W (fun _=>true) ["loop.example/g00280/impl.errGaveUp", "loop.example/g00280/impl.errDenied", "loop.example/g00280/impl.kindWords", "loop.example/g00280/impl.errAside"] gs q:=hV0;rw[Tryz.params3] at hA hval;obtain⟨v0,vs0,d0,ds0,p0,q0,hargs,rfl,rfl,h0,r0⟩:=trodAll_cons hA;obtain⟨rfl,rfl,rfl⟩:=trodAll_nil r0;obtain rfl:args=#[v0]:=by cases args;simp_all
 have k0:=h0;have lt0:∀x∈p0,x.block<W.heap.size:=by obtain⟨m,hm⟩:=k0;exact DataW.trod_lt m _ _ _ hm
 obtain⟨la,sa,oa,lc,sc,oc,aO,aR,ops,rfl,hat,hlim⟩:=J5 (hval 0 25 v0 rfl rfl) h0;obtain⟨a,aA,aD,hE,hvs,hvG,hvD,hvA⟩:=met hL;have lG:1<W.heap.size:=dO hE.gave;have lD:5<W.heap.size:=dO hvs.d;have lA:0<W.heap.size:=dO hvs.a;have lW:2<W.heap.size:=dO hE.words.1;clear hA0 hV0 hval0
 match gs,hV with
 | [e1,e2,e3,e4],hV =>
  obtain⟨g1,ty1,cs1,f1,pv1,qv1,hg1,ht1,hvar1,hd1,hr1,hp1⟩:=hV;obtain rfl:=Option.some.inj (Fs.symm.trans hg1);obtain rfl:=Option.some.inj (LW.symm.trans ht1);obtain⟨g2,ty2,cs2,f2,pv2,qv2,hg2,ht2,hvar2,hd2,hr2,hp2⟩:=hr1;obtain rfl:=Option.some.inj (NC.symm.trans hg2);obtain rfl:=Option.some.inj (Qw.symm.trans ht2);obtain⟨g3,ty3,cs3,f3,pv3,qv3,hg3,ht3,hvar3,hd3,hr3,hp3⟩:=hr2;obtain rfl:=Option.some.inj (Fq.symm.trans hg3);obtain rfl:=Option.some.inj (LV.symm.trans ht3);obtain⟨g4,ty4,cs4,f4,pv4,qv4,hg4,ht4,hvar4,hd4,hr4,hp4⟩:=hr3;obtain rfl:=Option.some.inj (Sr.symm.trans hg4);obtain rfl:=Option.some.inj (Tx.symm.trans ht4);have hr4':qv4=[]:=hr4;subst hr4';obtain rfl:=Option.some.inj (hvG.symm.trans hvar1);obtain rfl:=Option.some.inj (hvD.symm.trans hvar2);obtain rfl:=Option.some.inj (hvA.symm.trans hvar4);have kv1:DataW.Trod enc Tryz.prog W 0 (fun _=>true) true 182 (.iface 347 (.pointer (some a))) e1 pv1:=⟨f1,hd1⟩;have kv2:DataW.Trod enc Tryz.prog W 0 (fun _=>true) true 182 (.iface 347 (.pointer (some aD))) e2 pv2:=⟨f2,hd2⟩;have kv3:DataW.Trod enc Tryz.prog W 0 (fun _=>true) true 217 (.agg cs3) e3 pv3:=⟨f3,hd3⟩;have kv4:DataW.Trod enc Tryz.prog W 0 (fun _=>true) true 182 (.iface 347 (.pointer (some aA))) e4 pv4:=⟨f4,hd4⟩;refine(xY la sa oa lc sc oc aO aR ops _ _ _ _ aA aD W hE hvs.d hvs hlim hat).mono fun e W' ⟨he,bel⟩=>?_
  subst he;refine⟨_,rfl,_,_,_,[],_,q,hW',trodAll_mk1 (shut_bool Tryz.underlying4 _),(trodAll_cons_mk (Below.trod laidOut (by kernel_rfl) (of_decide_eq_true (by kernel_rfl)) k0 bel lt0) trodAll_mk0),?_,bel.frame _,fun h=>by cases h⟩;obtain⟨n1,b1⟩:=Below.trod laidOut (by kernel_rfl) (of_decide_eq_true (by kernel_rfl)) kv1 bel (DataW.trod_lt f1 _ _ _ hd1);obtain⟨n2,b2⟩:=Below.trod laidOut (by kernel_rfl) (of_decide_eq_true (by kernel_rfl)) kv2 bel (DataW.trod_lt f2 _ _ _ hd2);obtain⟨n3,b3⟩:=Below.trod laidOut (by kernel_rfl) (of_decide_eq_true (by kernel_rfl)) kv3 bel (DataW.trod_lt f3 _ _ _ hd3);obtain⟨n4,b4⟩:=Below.trod laidOut (by kernel_rfl) (of_decide_eq_true (by kernel_rfl)) kv4 bel (DataW.trod_lt f4 _ _ _ hd4);exact⟨1,182,_,n1,pv1,_,Fs,LW,uC Fs hvG lG bel,b1,⟨5,182,_,n2,pv2,_,NC,Qw,uC NC hvD lD bel,b2,⟨2,217,cs3,n3,pv3,_,Fq,LV,uC Fq hvar3 lW bel,b3,⟨0,182,_,n4,pv4,[],Sr,Tx,uC Sr hvA lA bel,b4,rfl,hp4⟩,hp3⟩,hp2⟩,hp1⟩
end Go.Proofs.YtdbmmdecclalgaaGreatDoor.fnExactJournalView
