import Derived.LaidEql
import Derived.Stop.Asserts
import Derived.RowKitTokens
import Derived.Test.YtignbeibcakgpaaGreatDoorQ09
namespace Go.Proofs.YtignbeibcakgpaaGreatDoor
set_option maxRecDepth 20000
set_option maxHeartbeats 16000000
open Go.RowKit Go.Extern.Stop Go.Stop Go.Extern
set_option linter.unusedVariables false
theorem as_nil(t:Value)(w:World):Calls Tryz.prog 74 #[.nilIface,t] w fun e w'=>e=.returned (.bool false)∧w'=w:=by
 go_enter Tryz.func74,Tryz.ntmps74
 go_wp2
 go_ret
 exact⟨rfl,rfl⟩
theorem as_valueT(t:Addr)(w:World):(ReflectliteValue.unpack (.iface 165 (.pointer (some t)))).run Tryz.prog w
  =.ok (.agg #[.pointer (some ⟨2,165,none⟩),.pointer (some ⟨w.heap.size,0,none⟩),.int .u64 150]) (w.alloc (.cells #[.pointer (some t)] 165)):=by kernel_rfl
theorem as_typeT(a:Addr)(w:World):(ReflectliteValue.methodAny (ReflectliteValue.valueError "reflectlite.Value.Type" 0) (fun t _ _ _=>ReflectliteType.toType t) #[.agg #[.pointer (some ⟨2,165,none⟩),.pointer (some a),.int .u64 150]]).run Tryz.prog w
  =.ok (.iface 240 (.agg #[.pointer (some ⟨2,165,none⟩)])) w:=by kernel_rfl
theorem as_mKind(h:Value)(w:World):(Go.method 411 240 (.agg #[h]) "Kind").run Tryz.prog w=.ok (189,h) w:=by kernel_rfl
theorem as_mElem(h:Value)(w:World):(Go.method 411 240 (.agg #[h]) "Elem").run Tryz.prog w=.ok (201,.agg #[h]) w:=by kernel_rfl
theorem as_mImpl(h:Value)(w:World):(Go.method 411 240 (.agg #[h]) "Implements").run Tryz.prog w=.ok (202,.agg #[h]) w:=by kernel_rfl
theorem as_mAssign(h:Value)(w:World):(Go.method 411 240 (.agg #[h]) "AssignableTo").run Tryz.prog w=.ok (199,.agg #[h]) w:=by kernel_rfl
theorem as_kindT(w:World):((ReflectliteType.abiMethod fun t=>(fun a:Nat=>Value.int IntKind.u8 (a:Int))<$>Rtype.kind t) #[.pointer (some ⟨2,165,none⟩)]).run Tryz.prog w=.ok (.int .u8 22) w:=by kernel_rfl
theorem as_kindE(w:World):((ReflectliteType.abiMethod fun t=>(fun a:Nat=>Value.int IntKind.u8 (a:Int))<$>Rtype.kind t) #[.pointer (some ⟨2,163,none⟩)]).run Tryz.prog w=.ok (.int .u8 25) w:=by kernel_rfl
theorem as_elemT(w:World):(ReflectliteType.method ReflectliteType.elem #[.agg #[.pointer (some ⟨2,165,none⟩)]]).run Tryz.prog w=.ok (.iface 240 (.agg #[.pointer (some ⟨2,163,none⟩)])) w:=by kernel_rfl
theorem as_implE(w:World):(ReflectliteType.relation "Implements" ReflectliteType.implements_ #[.agg #[.pointer (some ⟨2,163,none⟩)],.iface 240 (.agg #[.pointer (some ⟨2,134,none⟩)])]).run Tryz.prog w=.ok (.bool true) w:=by kernel_rfl
theorem as_typeOfE(v:Value)(w:World):(ReflectliteType.typeOf #[.iface 163 v]).run Tryz.prog w=.ok (.iface 240 (.agg #[.pointer (some ⟨2,163,none⟩)])) w:=by kernel_rfl
theorem as_assignE(w:World):(ReflectliteType.relation "AssignableTo" ReflectliteType.assignableTo #[.agg #[.pointer (some ⟨2,163,none⟩)],.iface 240 (.agg #[.pointer (some ⟨2,163,none⟩)])]).run Tryz.prog w=.ok (.bool true) w:=by kernel_rfl
theorem as_valueE(c:Int)(w:World):(ReflectliteValue.unpack (.iface 163 (.agg #[.int .i64 c]))).run Tryz.prog w
  =.ok (.agg #[.pointer (some ⟨2,163,none⟩),.pointer (some ⟨w.heap.size,0,none⟩),.int .u64 153]) (w.alloc (.cells #[.int .i64 c] 163)):=by kernel_rfl
theorem as_rlm(z:Sem Value)(f:TypeId→Addr→Nat→Nat→Sem Value)(v:Value):
  ReflectliteValue.method z f #[v]=(do match ←ReflectliteValue.parts v with|none=>z|some (t,a,fl)=>f t a fl (fl%32)):=rfl
theorem as_partsT(a:Addr)(w:World):(ReflectliteValue.parts (.agg #[.pointer (some ⟨2,165,none⟩),.pointer (some a),.int .u64 150])).run Tryz.prog w=.ok (some (165,a,150)) w:=by kernel_rfl
theorem as_isNilT(a p:Addr)(W:World)(ha:W.cell? a=some (.pointer (some p))):
  (ReflectliteValue.method (ReflectliteValue.valueError "reflectlite.Value.IsNil" 0) ReflectliteValue.isNil #[.agg #[.pointer (some ⟨2,165,none⟩),.pointer (some a),.int .u64 150]]).run Tryz.prog W=.ok (.bool false) W:=by
 rw[as_rlm]
 simp only[Sem.run_bind,as_partsT,Result.andThen]
 simp[ReflectliteValue.isNil,loadVar,isAgg,underlying,Tryz.underlying165,ha,Result.andThen]
theorem as_elemOfT(w:World):(Rtype.elem? 165).run Tryz.prog w=.ok (some 163) w:=by kernel_rfl
theorem as_mkE(p:Addr)(w:World):(ReflectliteValue.mk 163 p ReflectliteValue.flagAddr).run Tryz.prog w=.ok (.agg #[.pointer (some ⟨2,163,none⟩),.pointer (some p),.int .u64 409]) w:=by kernel_rfl
theorem as_elemV(a p:Addr)(W:World)(ha:W.cell? a=some (.pointer (some p))):
  (ReflectliteValue.method (ReflectliteValue.valueError "reflectlite.Value.Elem" 0) ReflectliteValue.elem #[.agg #[.pointer (some ⟨2,165,none⟩),.pointer (some a),.int .u64 150]]).run Tryz.prog W
   =.ok (.agg #[.pointer (some ⟨2,163,none⟩),.pointer (some p),.int .u64 409]) W:=by
 rw[as_rlm]
 simp only[Sem.run_bind,as_partsT,Result.andThen]
 simp[ReflectliteValue.elem,loadVar,isAgg,underlying,Tryz.underlying165,ha,Result.andThen,as_elemOfT,as_mkE]
theorem as_rls(v x:Value):ReflectliteValue.set #[v,x]=(do
  let (some (dst,a,fl),some (src,b,_)):=(←ReflectliteValue.parts v,←ReflectliteValue.parts x)
   |unsupported (.noEntry "extern/(internal/reflectlite.Value).Set.zeroValue")
  if fl/ReflectliteValue.flagAddr%2==0 then unsupported (.noEntry "extern/(internal/reflectlite.Value).Set.unaddressable")
  let val ←loadVar src b
  if ←Rtype.directlyAssignable dst src then storeVar dst a val
  else if ←Rtype.implements dst src then
   if(←Rtype.kind src)==20 then
    match val with
    | .nilIface=>unsupported (.noEntry "extern/reflectlite: a nil value of one interface type handed on as a value of another")
    |_=>storeVar dst a val
   else storeVar dst a (.iface src val)
  else panicString ("reflectlite.Set: value of type " ++(←Rtype.spelt src)++ " is not assignable to type " ++(←Rtype.spelt dst))
  pure (.tuple #[])):=rfl
theorem as_partsEa(a:Addr)(w:World):(ReflectliteValue.parts (.agg #[.pointer (some ⟨2,163,none⟩),.pointer (some a),.int .u64 409])).run Tryz.prog w=.ok (some (163,a,409)) w:=by kernel_rfl
theorem as_partsE(a:Addr)(w:World):(ReflectliteValue.parts (.agg #[.pointer (some ⟨2,163,none⟩),.pointer (some a),.int .u64 153])).run Tryz.prog w=.ok (some (163,a,153)) w:=by kernel_rfl
theorem as_direct(w:World):(Rtype.directlyAssignable 163 163).run Tryz.prog w=.ok true w:=by kernel_rfl
theorem as_loadE(b:Addr)(c:Int)(W:World)(hb:W.cell? b=some (.int .i64 c)):(loadVar 163 b).run Tryz.prog W=.ok (.agg #[.int .i64 c]) W:=by
 have e:b.add 0=b:=by cases b;rfl
 simp[loadVar,isAgg,underlying,Tryz.underlying163,Result.andThen,loadCells,loadCellsFrom,e,hb]
theorem as_setE(ta b:Addr)(c:Int)(old:Value)(W:World)(hb:W.cell? b=some (.int .i64 c))(ht:W.cell? ta=some old)(hf:W.frozen? ta=false):
  (ReflectliteValue.set #[.agg #[.pointer (some ⟨2,163,none⟩),.pointer (some ta),.int .u64 409],.agg #[.pointer (some ⟨2,163,none⟩),.pointer (some b),.int .u64 153]]).run Tryz.prog W
   =.ok (.tuple #[]) (W.setCell ta (.int .i64 c)):=by
 have e:ta.add 0=ta:=by cases ta;rfl
 rw[as_rls]
 simp only[Sem.run_bind,as_partsEa,as_partsE,Result.andThen]
 simp[ReflectliteValue.flagAddr,as_loadE b c W hb,Result.andThen,as_direct,storeVar,Value.cells,storeCells,e]
 rw[run_store Tryz.prog W ta _ _ (by rfl)]
 simp[ht,hf]
theorem as_hit(c:Int)(t:Addr)(old:Value)(w:World)(hg:w.cell? ⟨0,0,none⟩=some (.iface 240 (.agg #[.pointer (some ⟨2,134,none⟩)])))(ht0:w.cell? t=some old)(hf0:w.frozen? t=false):
  Calls Tryz.prog 74 #[.iface 163 (.agg #[.int .i64 c]),.iface 165 (.pointer (some t))] w fun ev w'=>ev=.returned (.bool true)∧∃w1,Below w.heap.size w w1∧w'=w1.setCell t (.int .i64 c):=by
 have h6:= @run_callFunc_extern Tryz.prog 101 _ (fun args=>ReflectliteValue.unpack (args.getD 0 (.tuple #[]))) Tryz.func101 (by kernel_rfl) (by kernel_rfl) (by kernel_rfl) (by kernel_rfl)
 have h7:= @run_callFunc_extern Tryz.prog 102 _ (ReflectliteValue.methodAny (ReflectliteValue.valueError "reflectlite.Value.Type" 0) (fun t _ _ _=>ReflectliteType.toType t)) Tryz.func102 (by kernel_rfl) (by kernel_rfl) (by kernel_rfl) (by kernel_rfl)
 have h8:= @run_callFunc_extern Tryz.prog 103 _ (ReflectliteValue.method (ReflectliteValue.valueError "reflectlite.Value.IsNil" 0) ReflectliteValue.isNil) Tryz.func103 (by kernel_rfl) (by kernel_rfl) (by kernel_rfl) (by kernel_rfl)
 have h27:= @run_callFunc_extern Tryz.prog 189 _ (ReflectliteType.abiMethod fun t=>do pure (.int .u8 (←Rtype.kind t))) Tryz.func189 (by kernel_rfl) (by kernel_rfl) (by kernel_rfl) (by kernel_rfl)
 have h37:= @run_callFunc_extern Tryz.prog 201 _ (ReflectliteType.method ReflectliteType.elem) Tryz.func201 (by kernel_rfl) (by kernel_rfl) (by kernel_rfl) (by kernel_rfl)
 have h38:= @run_callFunc_extern Tryz.prog 202 _ (ReflectliteType.relation "Implements" ReflectliteType.implements_) Tryz.func202 (by kernel_rfl) (by kernel_rfl) (by kernel_rfl) (by kernel_rfl)
 have h10:= @run_callFunc_extern Tryz.prog 131 _ ReflectliteType.typeOf Tryz.func131 (by kernel_rfl) (by kernel_rfl) (by kernel_rfl) (by kernel_rfl)
 have h35:= @run_callFunc_extern Tryz.prog 199 _ (ReflectliteType.relation "AssignableTo" ReflectliteType.assignableTo) Tryz.func199 (by kernel_rfl) (by kernel_rfl) (by kernel_rfl) (by kernel_rfl)
 have h11:= @run_callFunc_extern Tryz.prog 132 _ (ReflectliteValue.method (ReflectliteValue.valueError "reflectlite.Value.Elem" 0) ReflectliteValue.elem) Tryz.func132 (by kernel_rfl) (by kernel_rfl) (by kernel_rfl) (by kernel_rfl)
 have h12:= @run_callFunc_extern Tryz.prog 133 _ ReflectliteValue.set Tryz.func133 (by kernel_rfl) (by kernel_rfl) (by kernel_rfl) (by kernel_rfl)
 have tO:=as_typeOfE
 have mA:=as_mAssign
 have aE:=as_assignE
 have vE:=as_valueE
 have f6:=as_valueT
 have f7:=as_typeT
 have mK:=as_mKind
 have mE:=as_mElem
 have mI:=as_mImpl
 have kT:=as_kindT
 have kE:=as_kindE
 have eT:=as_elemT
 have iE:=as_implE
 have hlt:0<w.heap.size:=block_of_cell hg
 have htl:t.block<w.heap.size:=block_of_cell ht0
 have n8:=as_isNilT ⟨w.heap.size,0,none⟩ t ((w.alloc (.cells #[.pointer (some t)] 165)).alloc (.cells #[.pointer (some ⟨2,165,none⟩),.pointer (some ⟨w.heap.size,0,none⟩),.int .u64 150] 195)) (by simp)
 have hg2:((w.alloc (.cells #[.pointer (some t)] 165)).alloc (.cells #[.pointer (some ⟨2,165,none⟩),.pointer (some ⟨w.heap.size,0,none⟩),.int .u64 150] 195)).cell? ⟨0,0,none⟩=some (.iface 240 (.agg #[.pointer (some ⟨2,134,none⟩)])):=cell_push _ (cell_push _ hg)
 have el:=as_elemV ⟨w.heap.size,0,none⟩ t (((w.alloc (.cells #[.pointer (some t)] 165)).alloc (.cells #[.pointer (some ⟨2,165,none⟩),.pointer (some ⟨w.heap.size,0,none⟩),.int .u64 150] 195)).alloc (.cells #[.pointer (some ⟨2,165,none⟩),.pointer (some ⟨w.heap.size,0,none⟩),.int .u64 150] 195)) (by rw[World.cell?_alloc_lt _ _ ⟨w.heap.size,0,none⟩ (by simp;omega)];simp)
 have st:=as_setE t ⟨w.heap.size+1+1+1,0,none⟩ c old ((((w.alloc (.cells #[.pointer (some t)] 165)).alloc (.cells #[.pointer (some ⟨2,165,none⟩),.pointer (some ⟨w.heap.size,0,none⟩),.int .u64 150] 195)).alloc (.cells #[.pointer (some ⟨2,165,none⟩),.pointer (some ⟨w.heap.size,0,none⟩),.int .u64 150] 195)).alloc (.cells #[.int .i64 c] 163))
  (by rw[World.cell?_alloc_at _ _ _ _ (by simp)];rfl)
  (cell_push _ (cell_push _ (cell_push _ (cell_push _ ht0))))
  (by rw[World.frozen?_alloc_old _ _ t (by simp;omega),World.frozen?_alloc_old _ _ t (by simp;omega),World.frozen?_alloc_old _ _ t (by simp;omega),World.frozen?_alloc_old _ _ t (Nat.ne_of_lt htl)];exact hf0)
 go_enter Tryz.func74,Tryz.ntmps74
 go_wp2
 refine wp_loop_rounds 1 ?_
 rw[rounds_succ]
 go_wp2
 go_ret
 exact⟨rfl,_,al (al (al (al (Below.refl _ _) _) _) _) _,rfl⟩
end Go.Proofs.YtignbeibcakgpaaGreatDoor
