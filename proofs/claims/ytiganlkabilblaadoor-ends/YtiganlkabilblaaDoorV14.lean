import Derived.Test.YtiganlkabilblaaDoorV13
import Derived.Test.YtiganlkabilblaaDoorTie
import Derived.Test.YtiganlkabilblaaDoorCards
import Derived.SevenTiedAt
set_option linter.all false
set_option maxHeartbeats 64000000
set_option maxRecDepth 100000
namespace Go.Proofs.YtiganlkabilblaaDoor
open Go
theorem zru:Rows.endsRow.laidByTextAt .later Tryd.pinned [.handle] true:=
 OpenClaim.laidByTextAt_later rfl rfl tie (by kernel_rfl)
theorem ends_card:Rows.EndsCardSaid:=
 Claim7.holds_tied_plain_at .later [] [.handle] true (true,Rows.endsCard.stood.harness.2) true
  zrr (fun _ h=>by cases h) (by kernel_rfl) (fun _ h=>by cases h) zru rfl ⟨rfl,rfl⟩ (by kernel_rfl) rfl
  (fun f fn hf hfn=>by
   obtain rfl:f=3:=Option.some.inj ((show Tryd.prog.funcNamed Rows.endsRow.func=some 3 by kernel_rfl).symm.trans hf) |>.symm
   obtain rfl:fn=Tryd.f3:=(Option.some.inj (Tryd.func3.symm.trans hfn)).symm
   exact⟨by kernel_rfl,fun j t ht=>by
    rw[Tryd.params3] at ht
    have h3:t=22∨t=3:=by
     rcases j with _ | _ | _ | j
     ·left;simpa using ht.symm
     ·right;simpa using ht.symm
     ·right;simpa using ht.symm
     ·simp at ht
    rcases h3 with rfl | rfl
    ·exact (show Tryd.prog.wantsStandIn 22=false by kernel_rfl)
    ·exact (show Tryd.prog.wantsStandIn 3=false by kernel_rfl)⟩)
  (by kernel_rfl)
#print axioms ends_card
end Go.Proofs.YtiganlkabilblaaDoor
