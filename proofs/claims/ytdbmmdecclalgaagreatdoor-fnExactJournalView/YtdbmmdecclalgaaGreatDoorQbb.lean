import Derived.Test.YtdbmmdecclalgaaGreatDoorQaa
import Derived.WalkKit
import Derived.LaidEql
import Derived.Stop.Asserts
import Derived.RowKitTokens
namespace Go.Proofs.YtdbmmdecclalgaaGreatDoor
open Go.Value renaming pointer → ai, agg → aj
open Go.Proofs.Tryz Go.RowKit Go.Extern.Stop Go.Stop Go.Extern
set_option maxRecDepth 100000
set_option maxHeartbeats 4000000
theorem EY(v:Value)(w:World):(Extern.ReflectliteType.typeOf #[.iface 347 v]).run prog w=.ok (.iface 288 (aj #[ai (some ⟨11,347,none⟩)])) w:=by kernel_rfl
theorem vg(w:World):(callFunc 327 #[aj #[ai (some ⟨11,347,none⟩)]]).run prog w=.ok (.value (.bool true)) w:=by
 rw[run_callFunc_extern func327 (by kernel_rfl) (by kernel_rfl) (by kernel_rfl) (e:=Extern.ReflectliteType.method fun t=>do Extern.Rtype.noPackHeld "Comparable" t;pure (.bool (<-typeInfo t).comparable)) (by kernel_rfl)];kernel_rfl
theorem nA(v:Value)(w:World):(Go.method 489 288 v "Comparable").run prog w=.ok (327,v) w:=by kernel_rfl
theorem Nc:(prog.info? 347).map (·.comparable)=some true:=by kernel_rfl
theorem Na:(prog.info? 349).map (·.size)=some 1:=by kernel_rfl
theorem PZ(v:Value)(xT:TypeId)(w:World):(Instr.typeAssert (.iface 347 v) xT 290 true).run prog w=.ok (.tuple #[.nilIface,.bool false]) w:=run_typeAssert_lacksB underlying290 (by kernel_rfl) (by kernel_rfl) v xT w
theorem BJ(v:Value)(xT:TypeId)(w:World):(Instr.typeAssert (.iface 347 v) xT 293 true).run prog w=.ok (.tuple #[.nilIface,.bool false]) w:=run_typeAssert_lacksB underlying293 (by kernel_rfl) (by kernel_rfl) v xT w
theorem zz(v:Value)(xT:TypeId)(w:World):(Instr.typeAssert (.iface 347 v) xT 295 true).run prog w=.ok (.tuple #[.nilIface,.bool false]) w:=run_typeAssert_lacksB underlying295 (by kernel_rfl) (by kernel_rfl) v xT w
theorem PY(v:Value)(xT:TypeId)(w:World):(Instr.typeAssert (.iface 229 v) xT 290 true).run prog w=.ok (.tuple #[.nilIface,.bool false]) w:=run_typeAssert_lacksB underlying290 (by kernel_rfl) (by kernel_rfl) v xT w
theorem Ab(v:Value)(xT:TypeId)(w:World):(Instr.typeAssert (.iface 229 v) xT 293 true).run prog w=.ok (.tuple #[.iface 229 v,.bool true]) w:=run_typeAssert_hasB underlying293 (by kernel_rfl) v xT w
theorem uU(v:Value)(w:World):(Go.method 489 229 v "Unwrap").run prog w=.ok (321,v) w:=by kernel_rfl
theorem QQ(b:Addr)(w:World) :
  Calls prog 134 #[.nilIface,.iface 347 (ai (some b))] w fun e w'=>e=.returned (.bool false)/\w'=w:=by
 have hn:=run_eql_iface_nil_left (P:=prog) w 347 (ai (some b)) underlying182;go_enter func134,ntmps134;go_wp2;go_ret;exact⟨rfl,rfl⟩
theorem Dm(pb:Nat)(b:Addr)(w:World)(h1:w.cell? ⟨pb,1,none⟩=some (.iface 347 (ai (some b)))) :
  Calls prog 134 #[.iface 229 (ai (some ⟨pb,0,none⟩)),.iface 347 (ai (some b))] w fun e w'=>e=.returned (.bool true)/\w'=w:=by
 obtain⟨i,hi,hcmp⟩:=Option.map_eq_some_iff.1 Nc;obtain⟨j,hj,hjs⟩:=Option.map_eq_some_iff.1 Na;have h8:=@run_callFunc_extern prog 170 _ Extern.ReflectliteType.typeOf func170 (by kernel_rfl) (by kernel_rfl) (by kernel_rfl) (by kernel_rfl);have tT:=EY;have cT:=vg;have mR:=nA;have nE:=PZ;have uE:=BJ;have vE:=zz;have nW:=PY;have uW:=Ab;have mU:=uU;have heq:=run_eql_iface_ptr_same (P:=prog) w b underlying182 underlying347 hi hcmp hj;have hty:=run_eql_iface_types (P:=prog) 229 347 (ai (some ⟨pb,0,none⟩)) (ai (some b)) underlying182 (by decide) w;go_enter func134,ntmps134;go_wp2;refine wp_loop_rounds 2 ?_;rw[rounds_succ];go_wp2;rw[rounds_succ];go_wp2;go_ret;exact⟨rfl,rfl⟩
theorem Bg(pb:Nat)(b a:Addr)(ca cb:Array Value)(ta tb:TypeId)(w:World)(h1:w.cell? ⟨pb,1,none⟩=some (.iface 347 (ai (some a))))(hne:a≠b)(ha:w.heap[a.block]?=some (.cells ca ta (0,0)))(hb:w.heap[b.block]?=some (.cells cb tb (0,0))) :
  Calls prog 134 #[.iface 229 (ai (some ⟨pb,0,none⟩)),.iface 347 (ai (some b))] w fun e w'=>e=.returned (.bool false)/\w'=w:=by
 obtain⟨i,hi,hcmp⟩:=Option.map_eq_some_iff.1 Nc;obtain⟨j,hj,hjs⟩:=Option.map_eq_some_iff.1 Na;have h8:=@run_callFunc_extern prog 170 _ Extern.ReflectliteType.typeOf func170 (by kernel_rfl) (by kernel_rfl) (by kernel_rfl) (by kernel_rfl);have tT:=EY;have cT:=vg;have mR:=nA;have nE:=PZ;have uE:=BJ;have vE:=zz;have nW:=PY;have uW:=Ab;have mU:=uU;have heq:=run_eql_iface_ptr_other (P:=prog) w underlying182 underlying347 hi hcmp hj (by rw[hjs];decide) hne ha hb;have hty:=run_eql_iface_types (P:=prog) 229 347 (ai (some ⟨pb,0,none⟩)) (ai (some b)) underlying182 (by decide) w;go_enter func134,ntmps134;go_wp2;refine wp_loop_rounds 2 ?_;rw[rounds_succ];go_wp2;rw[rounds_succ];go_wp2;go_ret;exact⟨rfl,rfl⟩
theorem Rj(t:Value)(w:World) :
  Calls prog 169 #[.nilIface,t] w fun e w'=>e=.returned (.bool false)/\w'=w:=by
 go_enter func169,ntmps169;go_wp2;go_ret;exact⟨rfl,rfl⟩
theorem AX(t:Addr)(w:World):(ReflectliteValue.unpack (.iface 231 (ai (some t)))).run prog w
  =.ok (aj #[ai (some ⟨11,231,none⟩),ai (some ⟨w.heap.size,0,none⟩),.int .u64 150]) (w.alloc (.cells #[ai (some t)] 231)):=by kernel_rfl
theorem Gd(a:Addr)(w:World):(ReflectliteValue.methodAny (ReflectliteValue.valueError "reflectlite.Value.Type" 0) (fun t _ _ _=>ReflectliteType.toType t) #[aj #[ai (some ⟨11,231,none⟩),ai (some a),.int .u64 150]]).run prog w
  =.ok (.iface 288 (aj #[ai (some ⟨11,231,none⟩)])) w:=by kernel_rfl
theorem yU(h:Value)(w:World):(Go.method 489 288 (aj #[h]) "Kind").run prog w=.ok (300,h) w:=by kernel_rfl
theorem Gf(w:World):((ReflectliteType.abiMethod fun t=>(fun a:Nat=>Value.int IntKind.u8 (a:Int)) <$> Rtype.kind t) #[ai (some ⟨11,231,none⟩)]).run prog w=.ok (.int .u8 22) w:=by kernel_rfl
theorem Gg(w:World):((ReflectliteType.abiMethod fun t=>(fun a:Nat=>Value.int IntKind.u8 (a:Int)) <$> Rtype.kind t) #[ai (some ⟨11,229,none⟩)]).run prog w=.ok (.int .u8 22) w:=by kernel_rfl
theorem TS(z:Sem Value)(f:TypeId->Addr->Nat->Nat->Sem Value)(v:Value) :
  ReflectliteValue.method z f #[v]=(do match <-ReflectliteValue.parts v with|none=>z|some (t,a,fl)=>f t a fl (fl%32)):=rfl
theorem xy(a:Addr)(w:World):(ReflectliteValue.parts (aj #[ai (some ⟨11,231,none⟩),ai (some a),.int .u64 150])).run prog w=.ok (some (231,a,150)) w:=by kernel_rfl
theorem Eg(a p:Addr)(W:World)(ha:W.cell? a=some (ai (some p))) :
  (ReflectliteValue.method (ReflectliteValue.valueError "reflectlite.Value.IsNil" 0) ReflectliteValue.isNil #[aj #[ai (some ⟨11,231,none⟩),ai (some a),.int .u64 150]]).run prog W=.ok (.bool false) W:=by
 rw[TS];simp only[Sem.run_bind,xy,Result.andThen];simp[ReflectliteValue.isNil,loadVar,isAgg,underlying,underlying231,ha,Result.andThen]
theorem yV(h:Value)(w:World):(Go.method 489 288 (aj #[h]) "Elem").run prog w=.ok (328,aj #[h]) w:=by kernel_rfl
theorem qX(h:Value)(w:World):(Go.method 489 288 (aj #[h]) "Implements").run prog w=.ok (329,aj #[h]) w:=by kernel_rfl
theorem pX(h:Value)(w:World):(Go.method 489 288 (aj #[h]) "AssignableTo").run prog w=.ok (326,aj #[h]) w:=by kernel_rfl
theorem Gh(w:World):(ReflectliteType.method ReflectliteType.elem #[aj #[ai (some ⟨11,231,none⟩)]]).run prog w=.ok (.iface 288 (aj #[ai (some ⟨11,229,none⟩)])) w:=by kernel_rfl
theorem vY(w:World):(ReflectliteType.relation "Implements" ReflectliteType.implements_ #[aj #[ai (some ⟨11,229,none⟩)],.iface 288 (aj #[ai (some ⟨11,182,none⟩)])]).run prog w=.ok (.bool true) w:=by kernel_rfl
theorem Cv(v:Value)(w:World):(ReflectliteType.typeOf #[.iface 229 v]).run prog w=.ok (.iface 288 (aj #[ai (some ⟨11,229,none⟩)])) w:=by kernel_rfl
theorem vZ(w:World):(ReflectliteType.relation "AssignableTo" ReflectliteType.assignableTo #[aj #[ai (some ⟨11,229,none⟩)],.iface 288 (aj #[ai (some ⟨11,229,none⟩)])]).run prog w=.ok (.bool true) w:=by kernel_rfl
theorem AY(e:Addr)(w:World):(ReflectliteValue.unpack (.iface 229 (ai (some e)))).run prog w
  =.ok (aj #[ai (some ⟨11,229,none⟩),ai (some ⟨w.heap.size,0,none⟩),.int .u64 150]) (w.alloc (.cells #[ai (some e)] 229)):=by kernel_rfl
theorem Cx(w:World):(Rtype.elem? 231).run prog w=.ok (some 229) w:=by kernel_rfl
theorem LQ(p:Addr)(w:World):(ReflectliteValue.mk 229 p ReflectliteValue.flagAddr).run prog w=.ok (aj #[ai (some ⟨11,229,none⟩),ai (some p),.int .u64 406]) w:=by kernel_rfl
theorem Eh(a p:Addr)(W:World)(ha:W.cell? a=some (ai (some p))) :
  (ReflectliteValue.method (ReflectliteValue.valueError "reflectlite.Value.Elem" 0) ReflectliteValue.elem #[aj #[ai (some ⟨11,231,none⟩),ai (some a),.int .u64 150]]).run prog W
   =.ok (aj #[ai (some ⟨11,229,none⟩),ai (some p),.int .u64 406]) W:=by
 rw[TS];simp only[Sem.run_bind,xy,Result.andThen];simp[ReflectliteValue.elem,loadVar,isAgg,underlying,underlying231,ha,Result.andThen,Cx,LQ]
theorem TY(v x:Value):ReflectliteValue.set #[v,x]=(do
  let (some (dst,a,fl),some (src,b,_)):=(<-ReflectliteValue.parts v,<-ReflectliteValue.parts x)
   | unsupported (.noEntry "extern/(internal/reflectlite.Value).Set.zeroValue")
  if fl/ReflectliteValue.flagAddr%2==0 then unsupported (.noEntry "extern/(internal/reflectlite.Value).Set.unaddressable")
  let val <-loadVar src b
  if <-Rtype.directlyAssignable dst src then storeVar dst a val
  else if <-Rtype.implements dst src then
   if (<-Rtype.kind src)==20 then
    match val with
    | .nilIface=>unsupported (.noEntry "extern/reflectlite: a nil value of one interface type handed on as a value of another")
    | _=>storeVar dst a val
   else storeVar dst a (.iface src val)
  else panicString ("reflectlite.Set: value of type " ++ (<-Rtype.spelt src) ++ " is not assignable to type " ++ (<-Rtype.spelt dst))
  pure (.tuple #[])):=rfl
theorem Cw(a:Addr)(w:World):(ReflectliteValue.parts (aj #[ai (some ⟨11,229,none⟩),ai (some a),.int .u64 406])).run prog w=.ok (some (229,a,406)) w:=by kernel_rfl
theorem Ef(a:Addr)(w:World):(ReflectliteValue.parts (aj #[ai (some ⟨11,229,none⟩),ai (some a),.int .u64 150])).run prog w=.ok (some (229,a,150)) w:=by kernel_rfl
theorem Cy(w:World):(Rtype.directlyAssignable 229 229).run prog w=.ok true w:=by kernel_rfl
theorem JS(ta b e:Addr)(old:Value)(W:World)(hb:W.cell? b=some (ai (some e)))(ht:W.cell? ta=some old)(hf:W.frozen? ta=false) :
  (ReflectliteValue.set #[aj #[ai (some ⟨11,229,none⟩),ai (some ta),.int .u64 406],aj #[ai (some ⟨11,229,none⟩),ai (some b),.int .u64 150]]).run prog W
   =.ok (.tuple #[]) (W.setCell ta (ai (some e))):=by
 rw[TY];simp only[Sem.run_bind,Cw,Ef,Result.andThen];simp[ReflectliteValue.flagAddr,loadVar,isAgg,underlying,underlying229,hb,Result.andThen,Cy,storeVar,Value.cells,storeCells,Addr.add];rw[run_store prog W ta _ _ (by rfl)];simp[ht,hf]
theorem Rk(e t:Addr)(old:Value)(w:World)(hg:w.cell? ⟨3,0,none⟩=some (.iface 288 (aj #[ai (some ⟨11,182,none⟩)])))(ht0:w.cell? t=some old)(hf0:w.frozen? t=false) :
  Calls prog 169 #[.iface 229 (ai (some e)),.iface 231 (ai (some t))] w fun ev w'=>ev=.returned (.bool true)/\w'=((((w.alloc (.cells #[ai (some t)] 231)).alloc (.cells #[ai (some ⟨11,231,none⟩),ai (some ⟨w.heap.size,0,none⟩),.int .u64 150] 280)).alloc (.cells #[ai (some ⟨11,231,none⟩),ai (some ⟨w.heap.size,0,none⟩),.int .u64 150] 280)).alloc (.cells #[ai (some e)] 229)).setCell t (ai (some e)):=by
 have h6:=@run_callFunc_extern prog 211 _ (fun args=>ReflectliteValue.unpack (args.getD 0 (.tuple #[]))) func211 (by kernel_rfl) (by kernel_rfl) (by kernel_rfl) (by kernel_rfl);have h7:=@run_callFunc_extern prog 212 _ (ReflectliteValue.methodAny (ReflectliteValue.valueError "reflectlite.Value.Type" 0) (fun t _ _ _=>ReflectliteType.toType t)) func212 (by kernel_rfl) (by kernel_rfl) (by kernel_rfl) (by kernel_rfl);have h8:=@run_callFunc_extern prog 213 _ (ReflectliteValue.method (ReflectliteValue.valueError "reflectlite.Value.IsNil" 0) ReflectliteValue.isNil) func213 (by kernel_rfl) (by kernel_rfl) (by kernel_rfl) (by kernel_rfl);have h27:=@run_callFunc_extern prog 300 _ (ReflectliteType.abiMethod fun t=>do pure (.int .u8 (<-Rtype.kind t))) func300 (by kernel_rfl) (by kernel_rfl) (by kernel_rfl) (by kernel_rfl);have h37:=@run_callFunc_extern prog 328 _ (ReflectliteType.method ReflectliteType.elem) func328 (by kernel_rfl) (by kernel_rfl) (by kernel_rfl) (by kernel_rfl);have h38:=@run_callFunc_extern prog 329 _ (ReflectliteType.relation "Implements" ReflectliteType.implements_) func329 (by kernel_rfl) (by kernel_rfl) (by kernel_rfl) (by kernel_rfl);have h10:=@run_callFunc_extern prog 170 _ ReflectliteType.typeOf func170 (by kernel_rfl) (by kernel_rfl) (by kernel_rfl) (by kernel_rfl);have h35:=@run_callFunc_extern prog 326 _ (ReflectliteType.relation "AssignableTo" ReflectliteType.assignableTo) func326 (by kernel_rfl) (by kernel_rfl) (by kernel_rfl) (by kernel_rfl);have h11:=@run_callFunc_extern prog 240 _ (ReflectliteValue.method (ReflectliteValue.valueError "reflectlite.Value.Elem" 0) ReflectliteValue.elem) func240 (by kernel_rfl) (by kernel_rfl) (by kernel_rfl) (by kernel_rfl);have h12:=@run_callFunc_extern prog 241 _ ReflectliteValue.set func241 (by kernel_rfl) (by kernel_rfl) (by kernel_rfl) (by kernel_rfl);have tO:=Cv;have mA:=pX;have a25:=vZ;have v25:=AY;have f6:=AX;have f7:=Gd;have mK:=yU;have mE:=yV;have mI:=qX;have k27:=Gf;have k25:=Gg;have e27:=Gh;have i25:=vY;have n8:=Eg ⟨w.heap.size,0,none⟩ t ((w.alloc (.cells #[ai (some t)] 231)).alloc (.cells #[ai (some ⟨11,231,none⟩),ai (some ⟨w.heap.size,0,none⟩),.int .u64 150] 280)) (by simp);have hlt:3<w.heap.size:=dO hg;have hg2:((w.alloc (.cells #[ai (some t)] 231)).alloc (.cells #[ai (some ⟨11,231,none⟩),ai (some ⟨w.heap.size,0,none⟩),.int .u64 150] 280)).cell? ⟨3,0,none⟩=some (.iface 288 (aj #[ai (some ⟨11,182,none⟩)])):=by
  rw[World.cell?_alloc_lt _ _ ⟨3,0,none⟩ (by simp;omega),World.cell?_alloc_lt _ _ ⟨3,0,none⟩ hlt];exact hg
 have htl:t.block<w.heap.size:=by
  rcases Nat.lt_or_ge t.block w.heap.size with h|h
  ·exact h
  ·simp[World.cell?,Array.getElem?_eq_none h] at ht0
 have el:=Eh ⟨w.heap.size,0,none⟩ t (((w.alloc (.cells #[ai (some t)] 231)).alloc (.cells #[ai (some ⟨11,231,none⟩),ai (some ⟨w.heap.size,0,none⟩),.int .u64 150] 280)).alloc (.cells #[ai (some ⟨11,231,none⟩),ai (some ⟨w.heap.size,0,none⟩),.int .u64 150] 280)) (by rw[World.cell?_alloc_lt _ _ ⟨w.heap.size,0,none⟩ (by simp;omega)];simp);have st:=JS t ⟨w.heap.size+1+1+1,0,none⟩ e old ((((w.alloc (.cells #[ai (some t)] 231)).alloc (.cells #[ai (some ⟨11,231,none⟩),ai (some ⟨w.heap.size,0,none⟩),.int .u64 150] 280)).alloc (.cells #[ai (some ⟨11,231,none⟩),ai (some ⟨w.heap.size,0,none⟩),.int .u64 150] 280)).alloc (.cells #[ai (some e)] 229))
  (by rw[World.cell?_alloc_at _ _ _ _ (by simp)];rfl)
  (by rw[World.cell?_alloc_lt _ _ t (by simp;omega),World.cell?_alloc_lt _ _ t (by simp;omega),World.cell?_alloc_lt _ _ t (by simp;omega),World.cell?_alloc_lt _ _ t htl];exact ht0)
  (by rw[World.frozen?_alloc_old _ _ t (by simp;omega),World.frozen?_alloc_old _ _ t (by simp;omega),World.frozen?_alloc_old _ _ t (by simp;omega),World.frozen?_alloc_old _ _ t (Nat.ne_of_lt htl)];exact hf0)
 go_enter func169,ntmps169;go_wp2;refine wp_loop_rounds 1 ?_;rw[rounds_succ];go_wp2;go_ret;exact⟨rfl,rfl⟩
end Go.Proofs.YtdbmmdecclalgaaGreatDoor
