import Derived.Test.YtiganlkabilblaaDoorV07
import Derived.LaidEql
import Derived.Stop.Asserts
import Derived.RowKitTokens
set_option linter.all false
set_option maxHeartbeats 64000000
set_option maxRecDepth 100000
namespace Go.Proofs.YtiganlkabilblaaDoor
open Go.RowKit Go.Extern.Stop Go.Stop Go.Extern
theorem zdP (t:Value) (w:World) :
  Calls Tryd.prog 16 #[.nilIface,t] w fun e w'=>e = .returned (.bool false)∧w'=w:=by
 go_enter Tryd.func16,Tryd.ntmps16
 go_wp2
 go_ret
 exact⟨rfl,rfl⟩
theorem Tryd.valueOfP (t:Addr) (w:World):(ReflectliteValue.unpack (.iface 56 (.pointer (some t)))).run Tryd.prog w
  = .ok (.agg #[.pointer (some ⟨2,56,none⟩),.pointer (some ⟨w.heap.size,0,none⟩),.int .u64 150]) (w.alloc (.cells #[.pointer (some t)] 56)):=by kernel_rfl
theorem Tryd.typeP (a:Addr) (w:World):(ReflectliteValue.methodAny (ReflectliteValue.valueError "reflectlite.Value.Type" 0) (fun t _ _ _=>ReflectliteType.toType t) #[.agg #[.pointer (some ⟨2,56,none⟩),.pointer (some a),.int .u64 150]]).run Tryd.prog w
  = .ok (.iface 110 (.agg #[.pointer (some ⟨2,56,none⟩)])) w:=by kernel_rfl
theorem Tryd.kindP (w:World):((ReflectliteType.abiMethod fun t=>(fun a:Nat=>Value.int IntKind.u8 (a:Int)) <$> Rtype.kind t) #[.pointer (some ⟨2,56,none⟩)]).run Tryd.prog w = .ok (.int .u8 22) w:=by kernel_rfl
theorem Tryd.kindF (w:World):((ReflectliteType.abiMethod fun t=>(fun a:Nat=>Value.int IntKind.u8 (a:Int)) <$> Rtype.kind t) #[.pointer (some ⟨2,54,none⟩)]).run Tryd.prog w = .ok (.int .u8 25) w:=by kernel_rfl
theorem Tryd.elemP (w:World):(ReflectliteType.method ReflectliteType.elem #[.agg #[.pointer (some ⟨2,56,none⟩)]]).run Tryd.prog w = .ok (.iface 110 (.agg #[.pointer (some ⟨2,54,none⟩)])) w:=by kernel_rfl
theorem Tryd.implF (w:World):(ReflectliteType.relation "Implements" ReflectliteType.implements_ #[.agg #[.pointer (some ⟨2,54,none⟩)],.iface 110 (.agg #[.pointer (some ⟨2,44,none⟩)])]).run Tryd.prog w = .ok (.bool true) w:=by kernel_rfl
theorem Tryd.typeOfF (v:Value) (w:World):(ReflectliteType.typeOf #[.iface 54 v]).run Tryd.prog w = .ok (.iface 110 (.agg #[.pointer (some ⟨2,54,none⟩)])) w:=by kernel_rfl
theorem Tryd.assignF (w:World):(ReflectliteType.relation "AssignableTo" ReflectliteType.assignableTo #[.agg #[.pointer (some ⟨2,54,none⟩)],.iface 110 (.agg #[.pointer (some ⟨2,54,none⟩)])]).run Tryd.prog w = .ok (.bool true) w:=by kernel_rfl
theorem Tryd.valueOfF (a b:Int) (w:World):(ReflectliteValue.unpack (.iface 54 (.agg #[.int .i64 a,.int .i64 b]))).run Tryd.prog w
  = .ok (.agg #[.pointer (some ⟨2,54,none⟩),.pointer (some ⟨w.heap.size,0,none⟩),.int .u64 153]) (w.alloc (.cells #[.int .i64 a,.int .i64 b] 54)):=by kernel_rfl
theorem Tryd.elemOfP (w:World):(Rtype.elem? 56).run Tryd.prog w = .ok (some 54) w:=by kernel_rfl
theorem Tryd.mkF (p:Addr) (w:World):(ReflectliteValue.mk 54 p ReflectliteValue.flagAddr).run Tryd.prog w = .ok (.agg #[.pointer (some ⟨2,54,none⟩),.pointer (some p),.int .u64 409]) w:=by kernel_rfl
theorem Tryd.isAggF (w:World):(isAgg 54).run Tryd.prog w = .ok true w:=by kernel_rfl
theorem Tryd.sizeF (w:World):(sizeOf 54).run Tryd.prog w = .ok 2 w:=by kernel_rfl
end Go.Proofs.YtiganlkabilblaaDoor
