import Derived.Test.YtgfejacimdmkpaaDoorE2
set_option linter.all false
namespace Go.Proofs.YtgfejacimdmkpaaDoor
open Go.RowKit

/-- What errors.As reads of the package errors. -/
def ErrLaid (w : World) : Prop := w.cell? ⟨0, 0, none⟩ = some (.iface 110 (.agg #[.pointer (some ⟨2, 44, none⟩)]))

theorem ErrLaid.lt {w : World} (h : ErrLaid w) : 0 < w.heap.size := by
  rcases Nat.lt_or_ge 0 w.heap.size with h' | h'
  · exact h'
  · unfold ErrLaid at h; simp [World.cell?, Array.getElem?_eq_none h'] at h
theorem ErrLaid.below {w w' : World} (h : ErrLaid w) (hb : Below w.heap.size w w') : ErrLaid w' := by
  have := hb.cell (p := ⟨0, 0, none⟩) h.lt
  unfold ErrLaid at h ⊢; rw [this]; exact h

set_option maxHeartbeats 4000000 in
theorem told_nil (w : World) : Calls Tryd.prog 12 #[.nilIface] w fun e w' => e = .returned (.tuple #[.int .i64 0, .int .i64 0]) ∧ Below w.heap.size w w' := by
  go_enter Tryd.func12, Tryd.ntmps12
  go_wp2_with (first | (go_at_call 16; refine (as_nil _ _).mono ?_; rintro e w' ⟨rfl, rfl⟩))
  go_ret2
  exact ⟨rfl, below_alloc _ _⟩

set_option maxHeartbeats 4000000 in
theorem told_fault (er p : Nat) (w : World) (hg : ErrLaid w) : Calls Tryd.prog 12 #[faultV er p] w fun e w' => e = .returned (.tuple #[.int .i64 er, .int .i64 p]) ∧ Below w.heap.size w w' := by
  have hB : Below w.heap.size w (w.alloc (.cells #[.int .i64 0, .int .i64 0] 54)) := below_alloc _ _
  have hl := hg.lt
  have ha := as_hit er p 0 0 w.heap.size (w.alloc (.cells #[.int .i64 0, .int .i64 0] 54)) (hg.below hB) (heap_alloc_same _ _)
  simp only [faultV]
  clear hg
  go_enter Tryd.func12, Tryd.ntmps12
  go_wp2_with fail
  refine ha.mono ?_
  rintro e w1 ⟨rfl, h1, hK⟩
  have c0 := cell_of_block h1 0
  have c1 := cell_of_block h1 1
  have HB : Hid (Below w.heap.size w w1) := hB.trans (Kp.below (hK.mono (by simp)) (Nat.le_refl _))
  clear ha hK h1 hB
  go_wp2_with fail
  go_quiet (fail)
  go_wp2_with fail
  go_ret2
  exact ⟨rfl, below_drewN HB.out _⟩
end Go.Proofs.YtgfejacimdmkpaaDoor
