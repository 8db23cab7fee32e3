import Derived.Test.YtgfejacimdmkpaaDoorW6
set_option linter.all false
namespace Go.Proofs.YtgfejacimdmkpaaDoor
open Go.RowKit

/-- Which of n things a number speaks of. -/
def pickN (c : Int) (n : Nat) : Nat := (if c < 0 then -(c + 1) else c).toNat % n

theorem pickN_lt (c : Int) {n : Nat} (h : 0 < n) : pickN c n < n := Nat.mod_lt _ h

def i64 (c : Int) : Prop := -9223372036854775808 ≤ c ∧ c < 9223372036854775808

theorem tmod_nat (k : Int) (n : Nat) (hk : 0 ≤ k) : k.tmod n = ↑(k.toNat % n) := by
  obtain ⟨m, rfl⟩ := Int.eq_ofNat_of_zero_le hk
  rw [← Int.ofNat_tmod]; rfl

theorem pick_neg (c : Int) (n : Nat) (h : c < 0) : -(c + 1).tmod n = ↑(pickN c n) := by
  rw [← Int.neg_tmod, tmod_nat _ _ (by omega)]; simp only [pickN, h, if_true]

theorem pick_pos (c : Int) (n : Nat) (h : 0 ≤ c) : c % n = ↑(pickN c n) := by
  rw [← Int.tmod_eq_emod_of_nonneg h, tmod_nat _ _ h]; simp only [pickN, show ¬ c < 0 by omega, if_false]

theorem pick_any (c : Int) (n : Nat) (w : World) (hc : i64 c) (h0 : 0 < n) (hn : n ≤ 1099511627776) :
    Calls Tryd.prog 6 #[.int .i64 c, .int .i64 n] w fun e w' => e = .returned (.int .i64 ↑(pickN c n)) ∧ w' = w := by
  obtain ⟨h1, h2⟩ := hc
  have hne : (n : Int) ≠ 0 := by omega
  go_enter Tryd.func6, Tryd.ntmps6
  go_wp2
  all_goals go_ret
  · exact ⟨by rw [← pick_neg c n (by assumption)]; rfl, rfl⟩
  · exact ⟨by rw [← pick_pos c n (by assumption)]; rfl, rfl⟩

theorem krules_any (w : World) : Calls Tryd.prog 7 #[] w fun e w' => e = .returned (.string ⟨#[32, 110, 117, 109, 32, 60, 45, 32, 91, 48, 45, 57, 93, 32, 110, 117, 109, 63, 32, 119, 111, 114, 100, 32, 60, 45, 32, 39, 97, 39, 32, 119, 111, 114, 100, 32, 39, 98, 39, 32, 47, 32, 39, 99, 39, 32, 39, 97, 39, 63]⟩) ∧ w' = w := by
  go_enter Tryd.func7, Tryd.ntmps7
  go_wp2
  go_ret
  exact ⟨rfl, rfl⟩
end Go.Proofs.YtgfejacimdmkpaaDoor
