import Derived.Test.YtgfejacimdmkpaaDoorG11
set_option linter.all false
namespace Go.Proofs.YtgfejacimdmkpaaDoor
open Go.RowKit

def RuleEnd (w : World) (rb tb tc : Nat) (ps : List (Thk.Tok × Value)) (n : Nat) (e : Ending) (w' : World) : Thk.Res Thk.Rule → Prop
  | .ok r rest => ∃ n' a l cp, rest = tsOf ps n' ∧ n < n' ∧ n' < ps.length ∧ e = .returned (.tuple #[.agg #[.string ⟨r.name.toArray⟩, .slice a l cp], .nilIface]) ∧ RChoice w' (w.heap.size ≤ ·) r.choice (.slice a l cp) ∧ Rd w' rb tb tc ps n' 0 ∧ r.name.length ≤ 2000
  | .err er p => ∃ z, e = .returned (.tuple #[.agg #[.string z, .slice none 0 0], faultV er p]) ∧ ∃ n', Rd w' rb tb tc ps n' 0

def RulePost (w : World) (rb tb tc : Nat) (ps : List (Thk.Tok × Value)) (m n : Nat) (e : Ending) (w' : World) : Prop :=
  ∃ res, Thk.PRule m (tsOf ps n) res ∧ Kp rb w.heap.size w w' ∧ RuleEnd w rb tb tc ps n e w' res

abbrev zRuleO : Obj := .cells #[.string ⟨#[]⟩, .slice none 0 0] 90

theorem kindI_name {k : Thk.TK} (hk : okKind k) : (k = .name ∧ kindI k = 2) ∨ (k ≠ .name ∧ kindI k ≠ 2) := by
  cases k with
  | name => left; exact ⟨rfl, rfl⟩
  | sign c => right; have := signB_ge hk; refine ⟨by simp, ?_⟩; simp only [kindI]; omega
  | _ => right; simp [kindI]
theorem kindI_arrow' {k : Thk.TK} (hk : okKind k) : (k = .arrow ∧ kindI k = 3) ∨ (k ≠ .arrow ∧ kindI k ≠ 3) := by
  cases k with
  | arrow => left; exact ⟨rfl, rfl⟩
  | sign c => right; have := signB_ge hk; refine ⟨by simp, ?_⟩; simp only [kindI]; omega
  | _ => right; simp [kindI]

theorem kp_block {rb : Nat} {W w1 : World} (hb : Kp rb W.heap.size W w1) {b : Nat} (h1 : b < W.heap.size) (h2 : b ≠ rb) : w1.heap[b]? = W.heap[b]? := hb.block b h1 h2

set_option maxHeartbeats 4000000 in
set_option maxRecDepth 100000 in
/-- No name stands there. -/
theorem rule_noName (w : World) (rb tb tc : Nat) (ps : List (Thk.Tok × Value)) (m n : Nat) (h : Rd w rb tb tc ps n 0) (hn : n < ps.length) (hk : ps[n].1.kind ≠ .name) (hki : kindI ps[n].1.kind ≠ 2) :
    Calls Tryd.prog 31 #[.pointer (some ⟨rb, 0, none⟩), .int .i64 m] w fun e w' => RulePost w rb tb tc ps m n e w' := by
  have hrl := h.lt
  have hex := expect_no (w.alloc zRuleO) rb tb tc ps n 0 (h.below (below_alloc _ _)) hn 2 hki
  obtain ⟨a0, b0, e0⟩ := own_form (h.2.1.2 ps[n] (List.getElem_mem hn))
  simp only [tokV, e0] at hex
  clear e0 h hki
  go_enter Tryd.func31, Tryd.ntmps31
  go_wp2_with fail
  refine hex.mono ?_
  rintro e w1 ⟨rfl, hR1, hK1⟩
  have hsz1 := hK1.size
  simp at hsz1
  have hrc1 : w1.heap[w.heap.size]? = some zRuleO := by rw [kp_block hK1 (by simp) (by omega)]; exact heap_alloc_same _ _
  have q1 := cell_of_block hrc1
  have f1 := frozen_of_block hrc1
  have hlt1 : w.heap.size < w1.heap.size := by omega
  have H1 : Hid (Rd w1 rb tb tc ps n 0) := hR1
  have HK1 : Hid (Kp rb w.heap.size w w1) := (Kp.of (below_alloc _ _)).trans (hK1.mono (by simp))
  have HRC : Hid (w1.heap[w.heap.size]? = some zRuleO) := hrc1
  clear hex hR1 hK1 hrc1
  go_wp2_with fail
  refine bodyPost_ret (v := .tuple #[.agg #[.string ⟨#[]⟩, .slice none 0 0], faultV 2 ps[n].1.place]) (by simp [results, Tryd.results31, go_sem, faultV, q1, hlt1]) rfl ?_
  refine ⟨.err 2 ps[n].1.place, ?_, ?_, _, rfl, n, ?_⟩
  · rw [← hd_tsOf hn]; exact .noName (by rw [hd_tsOf hn]; exact hk)
  · exact ((HK1.out.setCell (Nat.le_refl _) _).setCell (Nat.le_refl _) _).alloc (by simp; omega) _
  · refine (H1.out.other (b := w.heap.size) (fun g hg _ => ?_) HRC.out (by decide) (by decide) (by decide)).below (below_alloc _ _)
    rw [Below.heap_setCell _ _ _ _ hg, Below.heap_setCell _ _ _ _ hg]
end Go.Proofs.YtgfejacimdmkpaaDoor
