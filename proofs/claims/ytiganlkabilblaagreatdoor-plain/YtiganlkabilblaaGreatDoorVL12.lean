import Derived.Test.YtiganlkabilblaaGreatDoorVL10
import Derived.Test.YtiganlkabilblaaGreatDoorVL11
import Derived.Deep.RegionHeldLaw
import Derived.Deep.RegionLaw
import Derived.Deep.DrawnRows
set_option linter.all false
set_option maxHeartbeats 64000000
set_option maxRecDepth 100000
namespace Go.Proofs.YtiganlkabilblaaGreatDoor
open Go.RowKit
attribute [local go_sem ↓] Go.wp_at_zero Go.wp_at_succ
theorem z6 {p:Prop} (h:p):Hid p:=h
end Go.Proofs.YtiganlkabilblaaGreatDoor
