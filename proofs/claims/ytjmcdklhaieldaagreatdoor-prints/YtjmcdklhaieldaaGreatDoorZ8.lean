import Derived.Test.YtjmcdklhaieldaaGreatDoorZ7
import Derived.Test.YtjmcdklhaieldaaGreatDoorTie
import Derived.Test.YtjmcdklhaieldaaGreatDoorCards
import Derived.SevenTiedAt
set_option linter.all false
namespace Go.Proofs.YtjmcdklhaieldaaGreatDoor
open Go

/-- The row's tie, out of the program's. -/
theorem prints_tie : Rows.printsRow.laidByTextAt .later Tryz.pinned [.handle] true :=
  OpenClaim.laidByTextAt_later rfl rfl tie (by kernel_rfl)

/-- The tied card. -/
theorem prints_card : Rows.PrintsCardSaid :=
  Claim7.holds_tied_plain_at .later [] [.handle] true (true, Rows.printsCard.stood.harness.2) true
    prints_holds (fun _ h => by cases h) (by kernel_rfl) (fun _ h => by cases h) prints_tie rfl ⟨rfl, rfl⟩ (by kernel_rfl) rfl
    (fun f fn hf hfn => by
      obtain rfl : f = 4 := Option.some.inj ((show Tryz.prog.funcNamed Rows.printsRow.func = some 4 by kernel_rfl).symm.trans hf) |>.symm
      obtain rfl : fn = Tryz.f4 := (Option.some.inj (Tryz.func4.symm.trans hfn)).symm
      exact ⟨by kernel_rfl, fun j t ht => by
        rw [Tryz.params4] at ht
        have h3 : t = 9 := by
          rcases j with _ | j
          · simpa using ht.symm
          · simp at ht
        subst h3
        exact (show Tryz.prog.wantsStandIn 9 = false by kernel_rfl)⟩)
    (by kernel_rfl)
#print axioms prints_card
end Go.Proofs.YtjmcdklhaieldaaGreatDoor
