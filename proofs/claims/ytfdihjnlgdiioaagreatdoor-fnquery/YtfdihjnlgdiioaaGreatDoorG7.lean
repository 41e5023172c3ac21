import Derived.Test.YtfdihjnlgdiioaaGreatDoorG0
import Derived.WalkKit
import Derived.LaidEql
import Derived.Stop.Asserts
import Derived.RowKitTokens
namespace Go.Proofs.YtfdihjnlgdiioaaGreatDoor.dB
open Go.RowKit Go.Extern.Stop Go.Stop Go.Extern
set_option linter.unusedVariables false
set_option linter.unusedSimpArgs false
def hnd (t:Nat):Value:=.pointer (some ⟨9,t,none⟩)
theorem Ky (t:Value) (w:World) :
  Calls Tryz.prog 34 #[.nilIface,t] w fun e w'=>e=.returned (.bool false)∧w'=w:=by
 go_enter Tryz.func34,Tryz.ntmps34
 go_wp2
 go_ret
 exact⟨rfl,rfl⟩
theorem QE (t:Addr) (w:World):(ReflectliteValue.unpack (.iface 78 (.pointer (some t)))).run Tryz.prog w
  = .ok (.agg #[.pointer (some ⟨9,78,none⟩),.pointer (some ⟨w.heap.size,0,none⟩),.int .u64 150]) (w.alloc (.cells #[.pointer (some t)] 78)):=by kernel_rfl
theorem abh (a:Addr) (w:World):(ReflectliteValue.methodAny (ReflectliteValue.valueError "reflectlite.Value.Type" 0) (fun t _ _ _=>ReflectliteType.toType t) #[.agg #[.pointer (some ⟨9,78,none⟩),.pointer (some a),.int .u64 150]]).run Tryz.prog w
  = .ok (.iface 141 (.agg #[.pointer (some ⟨9,78,none⟩)])) w:=by kernel_rfl
theorem abj (w:World):((ReflectliteType.abiMethod fun t=>(fun a:Nat=>Value.int IntKind.u8 (a:Int)) <$> Rtype.kind t) #[.pointer (some ⟨9,78,none⟩)]).run Tryz.prog w=.ok (.int .u8 22) w:=by kernel_rfl
theorem abk (w:World):((ReflectliteType.abiMethod fun t=>(fun a:Nat=>Value.int IntKind.u8 (a:Int)) <$> Rtype.kind t) #[.pointer (some ⟨9,76,none⟩)]).run Tryz.prog w=.ok (.int .u8 25) w:=by kernel_rfl
theorem rlm (z:Sem Value) (f:TypeId→Addr→Nat→Nat→Sem Value) (v:Value) :
  ReflectliteValue.method z f #[v]=(do match ←ReflectliteValue.parts v with|none=>z|some (t,a,fl)=>f t a fl (fl % 32)):=rfl
theorem QF (a:Addr) (w:World):(ReflectliteValue.parts (.agg #[.pointer (some ⟨9,78,none⟩),.pointer (some a),.int .u64 150])).run Tryz.prog w=.ok (some (78,a,150)) w:=by kernel_rfl
theorem Yx (a p:Addr) (W:World) (ha:W.cell? a=some (.pointer (some p))) :
  (ReflectliteValue.method (ReflectliteValue.valueError "reflectlite.Value.IsNil" 0) ReflectliteValue.isNil #[.agg #[.pointer (some ⟨9,78,none⟩),.pointer (some a),.int .u64 150]]).run Tryz.prog W=.ok (.bool false) W:=by
 rw[rlm]
 simp only[Sem.run_bind,QF,Result.andThen]
 simp[ReflectliteValue.isNil,loadVar,isAgg,underlying,Tryz.underlying78,ha,Result.andThen]
theorem abl (w:World):(ReflectliteType.method ReflectliteType.elem #[.agg #[.pointer (some ⟨9,78,none⟩)]]).run Tryz.prog w=.ok (.iface 141 (.agg #[.pointer (some ⟨9,76,none⟩)])) w:=by kernel_rfl
theorem H9 (w:World):(ReflectliteType.relation "Implements" ReflectliteType.implements_ #[.agg #[.pointer (some ⟨9,76,none⟩)],.iface 141 (.agg #[.pointer (some ⟨9,72,none⟩)])]).run Tryz.prog w=.ok (.bool true) w:=by kernel_rfl
theorem UY (v:Value) (w:World):(ReflectliteType.typeOf #[.iface 76 v]).run Tryz.prog w=.ok (.iface 141 (.agg #[.pointer (some ⟨9,76,none⟩)])) w:=by kernel_rfl
theorem Ia (w:World):(ReflectliteType.relation "AssignableTo" ReflectliteType.assignableTo #[.agg #[.pointer (some ⟨9,76,none⟩)],.iface 141 (.agg #[.pointer (some ⟨9,76,none⟩)])]).run Tryz.prog w=.ok (.bool true) w:=by kernel_rfl
theorem QG (c:Int) (w:World):(ReflectliteValue.unpack (.iface 76 (.agg #[.int .i64 c]))).run Tryz.prog w
  = .ok (.agg #[.pointer (some ⟨9,76,none⟩),.pointer (some ⟨w.heap.size,0,none⟩),.int .u64 153]) (w.alloc (.cells #[.int .i64 c] 76)):=by kernel_rfl
theorem UZ (w:World):(Rtype.elem? 78).run Tryz.prog w=.ok (some 76) w:=by kernel_rfl
theorem mkM (p:Addr) (w:World):(ReflectliteValue.mk 76 p ReflectliteValue.flagAddr).run Tryz.prog w=.ok (.agg #[.pointer (some ⟨9,76,none⟩),.pointer (some p),.int .u64 409]) w:=by kernel_rfl
theorem Yy (a p:Addr) (W:World) (ha:W.cell? a=some (.pointer (some p))) :
  (ReflectliteValue.method (ReflectliteValue.valueError "reflectlite.Value.Elem" 0) ReflectliteValue.elem #[.agg #[.pointer (some ⟨9,78,none⟩),.pointer (some a),.int .u64 150]]).run Tryz.prog W
   = .ok (.agg #[.pointer (some ⟨9,76,none⟩),.pointer (some p),.int .u64 409]) W:=by
 rw[rlm]
 simp only[Sem.run_bind,QF,Result.andThen]
 simp[ReflectliteValue.elem,loadVar,isAgg,underlying,Tryz.underlying78,ha,Result.andThen,UZ,mkM]
theorem rls (v x:Value):ReflectliteValue.set #[v,x]=(do
  let (some (dst,a,fl),some (src,b,_)):=(←ReflectliteValue.parts v,←ReflectliteValue.parts x)
   | unsupported (.noEntry "extern/(internal/reflectlite.Value).Set.zeroValue")
  if fl / ReflectliteValue.flagAddr % 2 == 0 then unsupported (.noEntry "extern/(internal/reflectlite.Value).Set.unaddressable")
  let val ←loadVar src b
  if ←Rtype.directlyAssignable dst src then storeVar dst a val
  else if ←Rtype.implements dst src then
   if (←Rtype.kind src) == 20 then
    match val with
    | .nilIface=>unsupported (.noEntry "extern/reflectlite: a nil value of one interface type handed on as a value of another")
    | _=>storeVar dst a val
   else storeVar dst a (.iface src val)
  else panicString ("reflectlite.Set: value of type "++(←Rtype.spelt src)++ " is not assignable to type "++(←Rtype.spelt dst))
  pure (.tuple #[])):=rfl
theorem U1 (a:Addr) (w:World):(ReflectliteValue.parts (.agg #[.pointer (some ⟨9,76,none⟩),.pointer (some a),.int .u64 409])).run Tryz.prog w=.ok (some (76,a,409)) w:=by kernel_rfl
theorem Yz (a:Addr) (w:World):(ReflectliteValue.parts (.agg #[.pointer (some ⟨9,76,none⟩),.pointer (some a),.int .u64 153])).run Tryz.prog w=.ok (some (76,a,153)) w:=by kernel_rfl
theorem U3 (w:World):(Rtype.directlyAssignable 76 76).run Tryz.prog w=.ok true w:=by kernel_rfl
theorem aed (ta b:Addr) (c:Int) (old:Value) (W:World) (hb:W.cell? b=some (.int .i64 c)) (ht:W.cell? ta=some old) (hf:W.frozen? ta=false) :
  (ReflectliteValue.set #[.agg #[.pointer (some ⟨9,76,none⟩),.pointer (some ta),.int .u64 409],.agg #[.pointer (some ⟨9,76,none⟩),.pointer (some b),.int .u64 153]]).run Tryz.prog W
   = .ok (.tuple #[]) (W.setCell ta (.int .i64 c)):=by
 have hl:(loadCells b 1).run Tryz.prog W=.ok #[.int .i64 c] W:=by
  have h:=run_loadCells_list (P:=Tryz.prog) (w:=W) b [.int .i64 c] (fun j v hj=>by
   cases j with
   | zero =>
    simp at hj
    subst hj
    rw[show b.add 0=b from by cases b;rfl]
    exact hb
   | succ j=>simp at hj)
  simpa using h
 have hs:(storeCells ta [.int .i64 c]).run Tryz.prog W=.ok () (W.setCell ta (.int .i64 c)):=by
  simp only[storeCells,Sem.run_bind]
  rw[show ta.add 0=ta from by cases ta;rfl,run_store Tryz.prog W ta _ _ (by rfl)]
  simp[ht,hf,Result.andThen]
 rw[rls]
 simp only[Sem.run_bind,U1,Yz,Result.andThen]
 simp[ReflectliteValue.flagAddr,loadVar,isAgg,underlying,Tryz.underlying76,Result.andThen,U3,storeVar,Value.cells,hl,hs]
theorem Kz (h:Value) (w:World):(Go.method 350 141 (.agg #[h]) "Kind").run Tryz.prog w=.ok (186,h) w:=by kernel_rfl
theorem KA (h:Value) (w:World):(Go.method 350 141 (.agg #[h]) "Elem").run Tryz.prog w=.ok (216,.agg #[h]) w:=by kernel_rfl
theorem yT (h:Value) (w:World):(Go.method 350 141 (.agg #[h]) "Implements").run Tryz.prog w=.ok (217,.agg #[h]) w:=by kernel_rfl
theorem wE (h:Value) (w:World):(Go.method 350 141 (.agg #[h]) "AssignableTo").run Tryz.prog w=.ok (214,.agg #[h]) w:=by kernel_rfl
end Go.Proofs.YtfdihjnlgdiioaaGreatDoor.dB
