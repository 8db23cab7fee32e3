import Derived.Test.YtiganlkabilblaaGreatDoorV42
import Derived.Deep.RegionHeldLaw
import Derived.Deep.CutRange
import Derived.Deep.AppendLies
set_option linter.all false
set_option maxHeartbeats 64000000
set_option maxRecDepth 100000
namespace Go.Proofs.YtiganlkabilblaaGreatDoor
open Tryz
open Tryz renaming prog->P
open Option renaming some->S,none->N
open Value renaming int->I
open IntKind renaming i64->J
section
open Go.RowKit
attribute [local go_sem ↓] Go.wp_at_zero Go.wp_at_succ
theorem infoTrees:(prog.info? 163).map (λi=>(i.zero,i.size,i.bytes))=S (S (.slice N 0 0),1,24):=by kernel_rfl
theorem Vw(w:World):w.drew.heap=w.heap:=rfl
abbrev plO(c a b:Value):Obj:=.cells #[c,a,b] 36 (0,0)
abbrev Jy(a:Nat):Value:=.slice (S ⟨a,0,N⟩) 4 4
end
end Go.Proofs.YtiganlkabilblaaGreatDoor
