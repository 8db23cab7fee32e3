import Derived.Test.YtiganlkabilblaaGreatDoorV06
import Derived.LaidEql
import Derived.Stop.Asserts
import Derived.RowKitTokens
set_option linter.all false
set_option maxHeartbeats 64000000
set_option maxRecDepth 100000
namespace Go.Proofs.YtiganlkabilblaaGreatDoor
open Tryz
open Tryz renaming prog->P
open Option renaming some->S,none->N
open Value renaming int->I
open IntKind renaming i64->J
section
open Go.RowKit Go.Extern.Stop Go.Stop Go.Extern
theorem zdP(t:Value)(w:World):Calls P 63 #[.nilIface,t] w λe a=>e=.returned (.bool false)/\a=w:=by go_enter func63,ntmps63;go_wp2;go_ret;exact⟨rfl,rfl⟩
theorem valueOfP(t:Addr)(w:World):(ReflectliteValue.unpack (.iface 130 (.pointer (S t)))).run P w=.ok (.agg #[.pointer (S ⟨2,130,N⟩),.pointer (S ⟨w.heap.size,0,N⟩),.int .u64 150]) (w.alloc (.cells #[.pointer (S t)] 130)):=by kernel_rfl
theorem typeP(a:Addr)(w:World):(ReflectliteValue.methodAny (ReflectliteValue.valueError "reflectlite.Value.Type" 0) (λt _ _ _=>ReflectliteType.toType t) #[.agg #[.pointer (S ⟨2,130,N⟩),.pointer (S a),.int .u64 150]]).run P w=.ok (.iface 259 (.agg #[.pointer (S ⟨2,130,N⟩)])) w:=by kernel_rfl
theorem kindP(w:World):((ReflectliteType.abiMethod λt=>(λa:Nat=>Value.int IntKind.u8 (a:Int))<$>Rtype.kind t) #[.pointer (S ⟨2,130,N⟩)]).run P w=.ok (I .u8 22) w:=by kernel_rfl
theorem kindF(w:World):((ReflectliteType.abiMethod λt=>(λa:Nat=>Value.int IntKind.u8 (a:Int))<$>Rtype.kind t) #[.pointer (S ⟨2,128,N⟩)]).run P w=.ok (I .u8 25) w:=by kernel_rfl
theorem elemP(w:World):(ReflectliteType.method ReflectliteType.elem #[.agg #[.pointer (S ⟨2,130,N⟩)]]).run P w=.ok (.iface 259 (.agg #[.pointer (S ⟨2,128,N⟩)])) w:=by kernel_rfl
theorem implF(w:World):(ReflectliteType.relation "Implements" ReflectliteType.implements_ #[.agg #[.pointer (S ⟨2,128,N⟩)],.iface 259 (.agg #[.pointer (S ⟨2,78,N⟩)])]).run P w=.ok (.bool true) w:=by kernel_rfl
theorem typeOfF(v:Value)(w:World):(ReflectliteType.typeOf #[.iface 128 v]).run P w=.ok (.iface 259 (.agg #[.pointer (S ⟨2,128,N⟩)])) w:=by kernel_rfl
theorem assignF(w:World):(ReflectliteType.relation "AssignableTo" ReflectliteType.assignableTo #[.agg #[.pointer (S ⟨2,128,N⟩)],.iface 259 (.agg #[.pointer (S ⟨2,128,N⟩)])]).run P w=.ok (.bool true) w:=by kernel_rfl
theorem valueOfF(a b:Int)(w:World):(ReflectliteValue.unpack (.iface 128 (.agg #[I J a,I J b]))).run P w=.ok (.agg #[.pointer (S ⟨2,128,N⟩),.pointer (S ⟨w.heap.size,0,N⟩),.int .u64 153]) (w.alloc (.cells #[I J a,I J b] 128)):=by kernel_rfl
theorem elemOfP(w:World):(Rtype.elem? 130).run P w=.ok (S 128) w:=by kernel_rfl
theorem mkF(p:Addr)(w:World):(ReflectliteValue.mk 128 p ReflectliteValue.flagAddr).run P w=.ok (.agg #[.pointer (S ⟨2,128,N⟩),.pointer (S p),.int .u64 409]) w:=by kernel_rfl
theorem isAggF(w:World):(isAgg 128).run P w=.ok true w:=by kernel_rfl
theorem sizeF(w:World):(sizeOf 128).run P w=.ok 2 w:=by kernel_rfl
end
end Go.Proofs.YtiganlkabilblaaGreatDoor
