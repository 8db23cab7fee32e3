import Derived.Test.YtiganlkabilblaaGreatDoorVL27
import Derived.Test.YtiganlkabilblaaGreatDoorVL28
import Derived.Test.YtiganlkabilblaaGreatDoorVL14
import Derived.Test.YtiganlkabilblaaGreatDoorVL13
import Derived.Laws.AppendOwnNone
import Derived.Deep.Upon
import Derived.Test.YtiganlkabilblaaGreatDoorVL12
import Derived.Test.YtiganlkabilblaaGreatDoorVL10
import Derived.Test.YtiganlkabilblaaGreatDoorVL11
import Derived.Deep.RegionHeldLaw
import Derived.Deep.RegionLaw
import Derived.Deep.DrawnRows
import Derived.Test.YtiganlkabilblaaGreatDoorVL09
import Derived.Deep.CutRange
set_option linter.all false
set_option maxHeartbeats 64000000
set_option maxRecDepth 100000
namespace Go.Proofs.YtiganlkabilblaaGreatDoor
open Go.RowKit
attribute [local go_sem ↓] Go.wp_at_zero Go.wp_at_succ
theorem KpM.below {rbs:List Nat} {B:Nat} {w w':World} (h:KpM rbs w.heap.size w w') (hr:∀ b ∈ rbs,B≤b) (hB:B≤w.heap.size):Below B w w':=⟨h.os,h.tape,h.output,h.size,fun k hk=>h.block k (by omega) (fun hb=>by have:=hr k hb;omega)⟩
end Go.Proofs.YtiganlkabilblaaGreatDoor
