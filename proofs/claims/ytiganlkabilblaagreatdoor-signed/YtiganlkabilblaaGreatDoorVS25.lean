import Derived.Test.YtiganlkabilblaaGreatDoorVS24
import Derived.Test.YtiganlkabilblaaGreatDoorVS14
import Derived.Test.YtiganlkabilblaaGreatDoorVS13
set_option linter.all false
set_option maxHeartbeats 64000000
set_option maxRecDepth 100000
namespace Go.Proofs.YtiganlkabilblaaGreatDoor
open Go.RowKit Thk
attribute [local go_sem ↓] Go.wp_at_zero Go.wp_at_succ
section
variable {w0 : World} {B gb tb eb ec H : Nat} {vx vr : Value} {ps : List (RE × Value × Value)} {rs : List (z7 × Nat)} {s : ByteArray} {rbs : List Nat}
theorem Stt.low {w w':World} (h:Stt w0 tb eb ec vx vr ps rs s rbs w) (tlt:tb<H) (elt:eb<H) (rlt:∀ b ∈ rbs,b<H) (wle:w0.heap.size≤H) (hs:w.heap.size≤w'.heap.size) (hb:∀ b,b<H→w'.heap[b]? = w.heap[b]?):Stt w0 tb eb ec vx vr ps rs s rbs w':=by
 obtain⟨M,h1,h2⟩:=h
 refine⟨M,⟨Nat.le_trans h1.size hs,fun b hb'=>by rw[hb b (by omega)];exact h1.old b hb',by rw[hb _ tlt];exact h1.blk,Nat.lt_of_lt_of_le h1.elt hs,fun i hi=>?_,fun i hi=>?_,h1.nodup,h1.rge,h1.tn,h1.en⟩,h2⟩
 ·rw[World.cell?_of_block (a:=⟨eb,i,none⟩) (hb eb elt)];exact h1.ends i hi
 ·rw[hb _ (rlt _ (List.getElem_mem hi))];exact h1.row i hi
end
end Go.Proofs.YtiganlkabilblaaGreatDoor
