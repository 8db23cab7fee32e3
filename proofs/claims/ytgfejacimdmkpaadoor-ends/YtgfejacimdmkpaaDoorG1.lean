import Derived.Test.YtgfejacimdmkpaaDoorW9
import Derived.Deep.QuietTactic
import Derived.BigQuiet
import Derived.RegionTactic
import Derived.BigRegion
set_option linter.all false
namespace Go.Proofs.YtgfejacimdmkpaaDoor
open Go.RowKit

/-- The reader: its block, the tokens' row, the place, the depth. -/
def Rd (w : World) (rb tb tc : Nat) (ps : List (Thk.Tok × Value)) (n d : Nat) : Prop :=
  w.heap[rb]? = some (.cells #[.slice (some ⟨tb, 0, none⟩) ps.length tc, .int .i64 n, .int .i64 d] 61 (0, 0)) ∧
  Toks w 0 (.slice (some ⟨tb, 0, none⟩) ps.length tc) ps ∧ ps.length ≤ 2001 ∧ ∀ p ∈ ps, p.1.text.length ≤ 2000

theorem cell_of_block {w : World} {b : Nat} {cs : Array Value} {e : TypeId} {fr : Nat × Nat} (h : w.heap[b]? = some (.cells cs e fr)) (o : Nat) : w.cell? ⟨b, o, none⟩ = cs[o]? := by
  simp [World.cell?, h]
theorem frozen_of_block {w : World} {b : Nat} {cs : Array Value} {e : TypeId} (h : w.heap[b]? = some (.cells cs e (0, 0))) (o : Nat) : w.frozen? ⟨b, o, none⟩ = false := by
  simp [World.frozen?, h]

theorem flatMap_get (ps : List (Thk.Tok × Value)) (i j : Nat) (hi : i < ps.length) (hj : j < 4) : (ps.flatMap tokC)[i * 4 + j]? = (tokC ps[i])[j]? := by
  induction ps generalizing i with
  | nil => simp at hi
  | cons p ps ih =>
    have hl : (tokC p).length = 4 := rfl
    cases i with
    | zero =>
      simp only [List.flatMap_cons, Nat.zero_mul, Nat.zero_add, List.getElem_cons_zero]
      rw [List.getElem?_append_left (by omega)]
    | succ i =>
      simp only [List.flatMap_cons, List.getElem_cons_succ]
      rw [List.getElem?_append_right (by omega), hl, show (i + 1) * 4 + j - 4 = i * 4 + j from by omega]
      exact ih i (by simpa using hi)

theorem Rd.tok {w : World} {rb tb tc : Nat} {ps : List (Thk.Tok × Value)} {n d : Nat} (h : Rd w rb tb tc ps n d) (i j : Nat) (hi : i < ps.length) (hj : j < 4) :
    w.cell? ⟨tb, i * 4 + j, none⟩ = (tokC ps[i])[j]? := by
  rw [h.2.1.1.cellAt (i * 4 + j) (by omega)]
  exact flatMap_get ps i j hi hj

theorem Rd.tok' {w : World} {rb tb tc : Nat} {ps : List (Thk.Tok × Value)} {n d : Nat} (h : Rd w rb tb tc ps n d) (i : Nat) (hi : i < ps.length) :
    w.cell? ⟨tb, i * 4, none⟩ = some (.int .u8 (kindI ps[i].1.kind)) ∧ w.cell? ⟨tb, i * 4 + 1, none⟩ = some (.int .i64 ps[i].1.place) ∧
    w.cell? ⟨tb, i * 4 + 2, none⟩ = some (.string ⟨ps[i].1.text.toArray⟩) ∧ w.cell? ⟨tb, i * 4 + 3, none⟩ = some ps[i].2 :=
  ⟨h.tok i 0 hi (by decide), h.tok i 1 hi (by decide), h.tok i 2 hi (by decide), h.tok i 3 hi (by decide)⟩

theorem Rd.cells {w : World} {rb tb tc : Nat} {ps : List (Thk.Tok × Value)} {n d : Nat} (h : Rd w rb tb tc ps n d) :
    w.cell? ⟨rb, 0, none⟩ = some (.slice (some ⟨tb, 0, none⟩) ps.length tc) ∧ w.cell? ⟨rb, 1, none⟩ = some (.int .i64 n) ∧ w.cell? ⟨rb, 2, none⟩ = some (.int .i64 d) ∧ ∀ o, w.frozen? ⟨rb, o, none⟩ = false :=
  ⟨cell_of_block h.1 0, cell_of_block h.1 1, cell_of_block h.1 2, frozen_of_block h.1⟩

set_option maxHeartbeats 1000000 in
theorem kind_any (w : World) (rb tb tc : Nat) (ps : List (Thk.Tok × Value)) (n d : Nat) (h : Rd w rb tb tc ps n d) (hn : n < ps.length) :
    Calls Tryd.prog 32 #[.pointer (some ⟨rb, 0, none⟩)] w fun e w' => e = .returned (.int .u8 (kindI ps[n].1.kind)) ∧ ∃ q, w' = w.drewN q := by
  obtain ⟨c0, c1, c2, fz⟩ := h.cells
  obtain ⟨k0, k1, k2, k3⟩ := h.tok' n hn
  have hl := h.2.2.1
  have hn' : (n : Int) < (ps.length : Int) := by omega
  clear h k1 k2 k3 c2 fz
  go_enter Tryd.func32, Tryd.ntmps32
  go_wp2_with fail
  go_quiet (fail)
  go_wp2_with fail
  go_ret
  exact ⟨rfl, _, rfl⟩

set_option maxHeartbeats 1000000 in
theorem refuse_any (w : World) (rb tb tc : Nat) (ps : List (Thk.Tok × Value)) (n d : Nat) (h : Rd w rb tb tc ps n d) (hn : n < ps.length) (er : Int) :
    Calls Tryd.prog 53 #[.pointer (some ⟨rb, 0, none⟩), .int .i64 er] w fun e w' => e = .returned (.iface 54 (.agg #[.int .i64 er, .int .i64 ps[n].1.place])) ∧ ∃ q, w' = w.drewN q := by
  obtain ⟨c0, c1, c2, fz⟩ := h.cells
  obtain ⟨k0, k1, k2, k3⟩ := h.tok' n hn
  have hl := h.2.2.1
  have hn' : (n : Int) < (ps.length : Int) := by omega
  clear h k0 k2 k3 c2 fz
  go_enter Tryd.func53, Tryd.ntmps53
  go_wp2_with fail
  go_quiet (fail)
  go_wp2_with fail
  go_ret
  exact ⟨rfl, _, rfl⟩
end Go.Proofs.YtgfejacimdmkpaaDoor
