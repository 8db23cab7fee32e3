import Derived.Test.YtgfejacimdmkpaaDoorG15
import Derived.Test.YtgfejacimdmkpaaDoorPA
import Derived.Maps.Own
import Derived.Maps.OwnOps
import Derived.Maps.OwnSet
import Derived.Maps.Views
set_option linter.all false
namespace Go.Proofs.YtgfejacimdmkpaaDoor
open Go.RowKit Go.WideMaps Go.Maps

theorem keyLaw : Keyed Tryd.prog 9 := string_keyed Tryd.underlying9
theorem zeroInt (w : World) : (zeroValue 3).run Tryd.prog w = .ok (.int .i64 0) w := by kernel_rfl

def idx0 (names : List Thk.Bytes) (b : Thk.Bytes) : Nat := if names.contains b then names.idxOf b else 0

theorem idx0_lt {names : List Thk.Bytes} (b : Thk.Bytes) (h : 0 < names.length) : idx0 names b < names.length := by
  unfold idx0; split
  · rename_i hc; exact List.idxOf_lt_length_iff.2 (by simpa using hc)
  · exact h

/-- Block mb is the map of these names to their numbers. -/
def MapIs (w : World) (mb : Nat) (names : List Thk.Bytes) : Prop :=
  ∃ D : DataW Unit, w.ownsMap Tryd.prog 9 (plainElem Tryd.prog 3) mb names.length D ∧
    ∀ b, D.atKey (.string b) (.lit (.int .i64 0)) = .lit (.int .i64 (idx0 names b)) ∧ Maps.has D (.string b) = names.contains b

theorem key_of (b : Thk.Bytes) (hb : b.length ≤ 2000) : keyOf Tryd.prog 9 (.string ⟨b.toArray⟩) = some (.string b) := by
  have := keyOf_string_mk (s := ⟨b.toArray⟩) Tryd.underlying9 (by show b.toArray.size ≤ maxLen; unfold maxLen; simp; omega)
  simpa using this

theorem MapIs.look {w : World} {mb : Nat} {names : List Thk.Bytes} (h : MapIs w mb names) (b : Thk.Bytes) (hb : b.length ≤ 2000) :
    (Instr.lookup 39 (.map (some mb)) (.string ⟨b.toArray⟩) false).run Tryd.prog w = .ok (.int .i64 (idx0 names b)) w := by
  obtain ⟨D, ho, hD⟩ := h
  obtain ⟨c, hrun, hat, _⟩ := ho.lookup_int keyLaw Tryd.underlying39 Tryd.underlying3 (zeroInt _) (key_of b hb)
  rw [(hD b).1] at hat
  simp at hat
  rw [hrun, ← hat]

theorem MapIs.lookOk {w : World} {mb : Nat} {names : List Thk.Bytes} (h : MapIs w mb names) (b : Thk.Bytes) (hb : b.length ≤ 2000) :
    (Instr.lookup 39 (.map (some mb)) (.string ⟨b.toArray⟩) true).run Tryd.prog w = .ok (.tuple #[.int .i64 (idx0 names b), .bool (names.contains b)]) w := by
  obtain ⟨D, ho, hD⟩ := h
  obtain ⟨v, ps, hrun, hv⟩ := ho.look_ok keyLaw Tryd.underlying39 (zeroInt _) (plainElem_int Tryd.underlying3 (by decide)) (key_of b hb)
  rw [(hD b).1] at hv
  obtain ⟨a, rfl, ha, _⟩ := plainElem_int_inv Tryd.underlying3 hv
  simp at ha
  rw [hrun, (hD b).2, ← ha.1]

theorem MapIs.same {w w' : World} {mb : Nat} {names : List Thk.Bytes} (h : MapIs w mb names) (hb : w'.heap[mb]? = w.heap[mb]?) : MapIs w' mb names := by
  obtain ⟨D, ⟨es, clock, h1, h2⟩, hD⟩ := h
  exact ⟨D, ⟨es, clock, by rw [hb]; exact h1, h2⟩, hD⟩

theorem MapIs.lt {w : World} {mb : Nat} {names : List Thk.Bytes} (h : MapIs w mb names) : mb < w.heap.size := by
  obtain ⟨D, ho, _⟩ := h; exact ho.lt

theorem MapIs.below {w w' : World} {mb : Nat} {names : List Thk.Bytes} (h : MapIs w mb names) (hb : Below w.heap.size w w') : MapIs w' mb names := h.same (hb.block _ h.lt)

theorem isKeyLit (b : Thk.Bytes) : WideAt.IsKeyLit (.string b) := by
  simp [WideAt.IsKeyLit]

theorem MapIs.put {w : World} {mb : Nat} {names : List Thk.Bytes} {b : Thk.Bytes} {D : DataW Unit} {w' : World} (hD : ∀ b, D.atKey (.string b) (.lit (.int .i64 0)) = .lit (.int .i64 (idx0 names b)) ∧ Maps.has D (.string b) = names.contains b) (hm : IsMap D)
    (hb : names.contains b = false) (ho : w'.ownsMap Tryd.prog 9 (plainElem Tryd.prog 3) mb (names.length + 1) (D.put (.string b) (.lit (.int .i64 names.length)))) (hl : b.length ≤ 2000) : MapIs w' mb (names ++ [b]) := by
  refine ⟨_, by simpa using ho, ?_⟩
  intro c
  by_cases hc : c = b
  · subst hc
    have hn : c ∉ names := by simpa using hb
    rw [atKey_put_same hm (isKeyLit c), has_put_same hm (isKeyLit c)]
    constructor
    · congr 3
      unfold idx0
      rw [if_pos (by simp)]
      rw [List.idxOf_append, if_neg hn]
      simp
    · simp
  · have hne : (Lit.string c) ≠ (Lit.string b) := by simpa using hc
    rw [atKey_put_other hne, has_put_other hne, (hD c).1, (hD c).2]
    have hcc : (names ++ [b]).contains c = names.contains c := by
      rw [Bool.eq_iff_iff]; simp [hc]
    constructor
    · congr 3
      unfold idx0
      rw [hcc]
      split
      · rename_i h1
        rw [List.idxOf_append, if_pos (by simpa using h1)]
      · rfl
    · exact hcc.symm
end Go.Proofs.YtgfejacimdmkpaaDoor
