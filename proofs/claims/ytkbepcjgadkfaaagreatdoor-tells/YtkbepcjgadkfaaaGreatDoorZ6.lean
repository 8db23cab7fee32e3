import Derived.Test.YtkbepcjgadkfaaaGreatDoorZ5
import Derived.Test.YtkbepcjgadkfaaaGreatDoorTie
import Derived.Test.YtkbepcjgadkfaaaGreatDoorCards
import Derived.SevenTiedAt
set_option linter.all false
namespace Go.Proofs.YtkbepcjgadkfaaaGreatDoor
open Go

/-- The row's tie, out of the program's. -/
theorem tells_tie : Rows.tellsRow.laidByTextAt .later Tryz.pinned [.handle] true :=
  OpenClaim.laidByTextAt_later rfl rfl tie (by kernel_rfl)

/-- The tied card. -/
theorem tells_card : Rows.TellsCardSaid :=
  Claim7.holds_tied_plain_at .later [] [.handle] true (true, Rows.tellsCard.stood.harness.2) true
    tells_holds (fun _ h => by cases h) (by kernel_rfl) (fun _ h => by cases h) tells_tie rfl ⟨rfl, rfl⟩ (by kernel_rfl) rfl
    (fun f fn hf hfn => by
      obtain rfl : f = 5 := Option.some.inj ((show Tryz.prog.funcNamed Rows.tellsRow.func = some 5 by kernel_rfl).symm.trans hf) |>.symm
      obtain rfl : fn = Tryz.f5 := (Option.some.inj (Tryz.func5.symm.trans hfn)).symm
      exact ⟨by kernel_rfl, fun j t ht => by
        rw [Tryz.params5] at ht
        have h3 : t = 9 := by
          rcases j with _ | j
          · simpa using ht.symm
          · simp at ht
        subst h3
        exact (show Tryz.prog.wantsStandIn 9 = false by kernel_rfl)⟩)
    (by kernel_rfl)
#print axioms tells_card
end Go.Proofs.YtkbepcjgadkfaaaGreatDoor
