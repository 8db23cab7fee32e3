import Derived.Test.YtiganlkabilblaaGreatDoorVL01
import Derived.Test.YtiganlkabilblaaGreatDoorVL03
import Derived.Deep.AppendLies
import Derived.Deep.LoopGhost
set_option linter.all false
set_option maxHeartbeats 64000000
set_option maxRecDepth 100000
namespace Go.Proofs.YtiganlkabilblaaGreatDoor
open Go.RowKit
theorem za {w:World} {b:Nat} {o:Obj} (h:w.heap[b]? = some o):b<w.heap.size:=by
 rcases Nat.lt_or_ge b w.heap.size with h' | h'
 ·exact h'
 ·rw[Array.getElem?_eq_none h'] at h;cases h
end Go.Proofs.YtiganlkabilblaaGreatDoor
