import Derived.Test.YtiganlkabilblaaGreatDoorVL07
import Derived.LaidEql
import Derived.Stop.Asserts
import Derived.RowKitTokens
set_option linter.all false
set_option maxHeartbeats 64000000
set_option maxRecDepth 100000
namespace Go.Proofs.YtiganlkabilblaaGreatDoor
open Go.RowKit Go.Extern.Stop Go.Stop Go.Extern
theorem zdP (t:Value) (w:World) :
  Calls Tryz.prog 63 #[.nilIface,t] w fun e w'=>e = .returned (.bool false)∧w'=w:=by
 go_enter Tryz.func63,Tryz.ntmps63
 go_wp2
 go_ret
 exact⟨rfl,rfl⟩
theorem Tryz.valueOfP (t:Addr) (w:World):(ReflectliteValue.unpack (.iface 130 (.pointer (some t)))).run Tryz.prog w
  = .ok (.agg #[.pointer (some ⟨2,130,none⟩),.pointer (some ⟨w.heap.size,0,none⟩),.int .u64 150]) (w.alloc (.cells #[.pointer (some t)] 130)):=by kernel_rfl
theorem Tryz.typeP (a:Addr) (w:World):(ReflectliteValue.methodAny (ReflectliteValue.valueError "reflectlite.Value.Type" 0) (fun t _ _ _=>ReflectliteType.toType t) #[.agg #[.pointer (some ⟨2,130,none⟩),.pointer (some a),.int .u64 150]]).run Tryz.prog w
  = .ok (.iface 259 (.agg #[.pointer (some ⟨2,130,none⟩)])) w:=by kernel_rfl
theorem Tryz.kindP (w:World):((ReflectliteType.abiMethod fun t=>(fun a:Nat=>Value.int IntKind.u8 (a:Int)) <$> Rtype.kind t) #[.pointer (some ⟨2,130,none⟩)]).run Tryz.prog w = .ok (.int .u8 22) w:=by kernel_rfl
theorem Tryz.kindF (w:World):((ReflectliteType.abiMethod fun t=>(fun a:Nat=>Value.int IntKind.u8 (a:Int)) <$> Rtype.kind t) #[.pointer (some ⟨2,128,none⟩)]).run Tryz.prog w = .ok (.int .u8 25) w:=by kernel_rfl
theorem Tryz.elemP (w:World):(ReflectliteType.method ReflectliteType.elem #[.agg #[.pointer (some ⟨2,130,none⟩)]]).run Tryz.prog w = .ok (.iface 259 (.agg #[.pointer (some ⟨2,128,none⟩)])) w:=by kernel_rfl
theorem Tryz.implF (w:World):(ReflectliteType.relation "Implements" ReflectliteType.implements_ #[.agg #[.pointer (some ⟨2,128,none⟩)],.iface 259 (.agg #[.pointer (some ⟨2,78,none⟩)])]).run Tryz.prog w = .ok (.bool true) w:=by kernel_rfl
theorem Tryz.typeOfF (v:Value) (w:World):(ReflectliteType.typeOf #[.iface 128 v]).run Tryz.prog w = .ok (.iface 259 (.agg #[.pointer (some ⟨2,128,none⟩)])) w:=by kernel_rfl
theorem Tryz.assignF (w:World):(ReflectliteType.relation "AssignableTo" ReflectliteType.assignableTo #[.agg #[.pointer (some ⟨2,128,none⟩)],.iface 259 (.agg #[.pointer (some ⟨2,128,none⟩)])]).run Tryz.prog w = .ok (.bool true) w:=by kernel_rfl
theorem Tryz.valueOfF (a b:Int) (w:World):(ReflectliteValue.unpack (.iface 128 (.agg #[.int .i64 a,.int .i64 b]))).run Tryz.prog w
  = .ok (.agg #[.pointer (some ⟨2,128,none⟩),.pointer (some ⟨w.heap.size,0,none⟩),.int .u64 153]) (w.alloc (.cells #[.int .i64 a,.int .i64 b] 128)):=by kernel_rfl
theorem Tryz.elemOfP (w:World):(Rtype.elem? 130).run Tryz.prog w = .ok (some 128) w:=by kernel_rfl
theorem Tryz.mkF (p:Addr) (w:World):(ReflectliteValue.mk 128 p ReflectliteValue.flagAddr).run Tryz.prog w = .ok (.agg #[.pointer (some ⟨2,128,none⟩),.pointer (some p),.int .u64 409]) w:=by kernel_rfl
theorem Tryz.isAggF (w:World):(isAgg 128).run Tryz.prog w = .ok true w:=by kernel_rfl
theorem Tryz.sizeF (w:World):(sizeOf 128).run Tryz.prog w = .ok 2 w:=by kernel_rfl
end Go.Proofs.YtiganlkabilblaaGreatDoor
