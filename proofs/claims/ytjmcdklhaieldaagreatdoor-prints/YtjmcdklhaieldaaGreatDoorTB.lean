import Derived.Test.YtjmcdklhaieldaaGreatDoorTA
import Derived.Test.YtjmcdklhaieldaaGreatDoorR12
import Derived.Test.YtjmcdklhaieldaaGreatDoorNA
set_option linter.all false
namespace Go.Proofs.YtjmcdklhaieldaaGreatDoor
open Go.RowKit
attribute [local go_sem ↓] Go.wp_at_zero Go.wp_at_succ

/-- A row of numbers, whether it is nil or not. -/
theorem Ints.gen {w : World} {B : Nat} {v : Value} {ns : List Nat} (h : Ints w B v ns) : ∃ pa pc, v = .slice pa ns.length pc ∧ ns.length ≤ 9223372036854775807 ∧ ∀ j (hj : j < ns.length), ∃ pg, pa = some ⟨pg, 0, none⟩ ∧ pg < w.heap.size ∧ w.cell? ⟨pg, j, none⟩ = some (.int .i64 ns[j]) := by
  have h' := h
  rcases h'.2 with ⟨rfl, h0⟩ | ⟨g, cap, cur, rfl, _, hg, h1, h2, _⟩
  · exact ⟨none, 0, by rw [h0], by omega, fun j hj => by omega⟩
  · refine ⟨_, cap, rfl, by unfold maxLen at h2; omega, fun j hj => ⟨g, rfl, heap_lt' hg, ?_⟩⟩
    have := h.cellAt (g := g) j (by omega)
    rw [this]; simp [hj, intV]

theorem rfE_name {names : List Thk.Bytes} {e : Thk.RE} (hk : e.kind = 4) : rfE names e 0 = if names.contains e.text then ((names.idxOf e.text : Nat) : Int) else -1 := by
  unfold rfE rf; rw [if_pos hk]; simp

/-- What is asked of the grammar's numbers. -/
structure Fits (ps : List (Thk.RE × Value × Value)) (rs : List (Thk.Bytes × Nat)) : Prop where
  ex : ∀ p ∈ ps, p.1.Fit ps.length
  ru : ∀ r ∈ rs, r.2 < ps.length

abbrev xsOf (ps : List (Thk.RE × Value × Value)) : List Thk.RE := ps.map (·.1)
abbrev nmOf (rs : List (Thk.Bytes × Nat)) : List Thk.Bytes := rs.map (·.1)
abbrev bdOf (rs : List (Thk.Bytes × Nat)) : List Nat := rs.map (·.2)

/-- An expression of the grammar, its cells. -/
theorem GM.exp {w : World} {B gb : Nat} {vx vr : Value} {ps : List (Thk.RE × Value × Value)} {rs : List (Thk.Bytes × Nat)} {names : List Thk.Bytes} (h : GM w B gb vx vr (ps.map (ruled names)) rs) {i : Nat} (hi : i < ps.length) :
    ∃ (p : Thk.RE × Value × Value) (xg xc : Nat) (ia : Option Addr) (ic : Nat) (pa : Option Addr) (pc : Nat), ps[i]? = some p ∧ p ∈ ps ∧ vx = .slice (some ⟨xg, 0, none⟩) ps.length xc ∧ xg < w.heap.size ∧ w.cell? ⟨xg, i * 5, none⟩ = some (.int .i64 p.1.kind) ∧ w.cell? ⟨xg, i * 5 + 1, none⟩ = some (.slice ia p.1.items.length ic) ∧ w.cell? ⟨xg, i * 5 + 2, none⟩ = some (.string ⟨p.1.text.toArray⟩) ∧ w.cell? ⟨xg, i * 5 + 3, none⟩ = some (.int .i64 (rfE names p.1 0)) ∧ w.cell? ⟨xg, i * 5 + 4, none⟩ = some (.slice pa p.1.parts.length pc) ∧
      ps.length ≤ 9223372036854775807 ∧ p.1.parts.length ≤ 9223372036854775807 ∧ ∀ j (hj : j < p.1.parts.length), ∃ pg, pa = some ⟨pg, 0, none⟩ ∧ pg < w.heap.size ∧ w.cell? ⟨pg, j, none⟩ = some (.int .i64 p.1.parts[j]) := by
  obtain ⟨xg, xc, rfl, hxB, hxl, hmx⟩ := h.exAt (by simp; omega)
  have hi' : i < (ps.map (ruled names)).length := by simpa using hi
  obtain ⟨c0, c1, c2, c3, c4⟩ := h.exCells.2 i hi'
  have hpm : ps[i] ∈ ps := List.getElem_mem hi
  have hrd : (ps.map (ruled names))[i]'hi' = ruled names ps[i] := by rw [List.getElem_map]
  rw [hrd] at c0 c1 c2 c3 c4
  have hmem : ruled names ps[i] ∈ ps.map (ruled names) := List.mem_map_of_mem hpm
  obtain ⟨ia, ic, hvi⟩ := own_form (h.items _ hmem)
  obtain ⟨pa, pc, hvp, hpn, hpc⟩ := (h.parts _ hmem).gen
  rw [hvi] at c1
  rw [hvp] at c4
  refine ⟨ps[i], xg, xc, ia, ic, pa, pc, List.getElem?_eq_getElem hi, hpm, by rw [List.length_map], hxl, c0, c1, c2, c3, c4, by unfold maxLen at hmx; simp at hmx; omega, hpn, hpc⟩

theorem bools_cell {w : World} {lb : Nat} {l : List Bool} (h : w.heap[lb]? = some (boolsO l)) (j : Nat) (hj : j < l.length) : w.cell? ⟨lb, j, none⟩ = some (.bool (l.getD j false)) := by
  rw [cell_of_block h]
  simp [hj, List.getD_eq_getElem?_getD]
end Go.Proofs.YtjmcdklhaieldaaGreatDoor
namespace Go.Proofs.YtjmcdklhaieldaaGreatDoor
open Go.RowKit
attribute [local go_sem ↓] Go.wp_at_zero Go.wp_at_succ

theorem kinds8 (k : Nat) : (k = 1 ∨ k = 2 ∨ k = 3) ∨ k = 4 ∨ k = 5 ∨ k = 6 ∨ k = 9 ∨ (k ≠ 1 ∧ k ≠ 2 ∧ k ≠ 3 ∧ k ≠ 4 ∧ k ≠ 5 ∧ k ≠ 6 ∧ k ≠ 9) := by omega

abbrev exO (k : Nat) (iv : Value) (t : Thk.Bytes) (r : Int) (pv : Value) : Obj := .cells #[.int .i64 k, iv, .string ⟨t.toArray⟩, .int .i64 r, pv] 126

set_option maxHeartbeats 16000000 in
set_option maxRecDepth 100000 in
theorem rempty_any (w : World) (B gb lb : Nat) (vx vr : Value) (ps : List (Thk.RE × Value × Value)) (rs : List (Thk.Bytes × Nat)) (l : List Bool) (i : Nat) (h : GM w B gb vx vr (ps.map (ruled (nmOf rs))) rs) (hF : Fits ps rs) (hL : w.heap[lb]? = some (boolsO l)) (hll : l.length = ps.length) (hi : i < ps.length) (hr0 : 0 < rs.length) :
    Calls Tryz.prog 85 #[.pointer (some ⟨gb, 0, none⟩), .int .i64 i, .slice (some ⟨lb, 0, none⟩) ps.length ps.length] w fun e w' => e = .returned (.bool (emptyX (xsOf ps) (nmOf rs) (bdOf rs) l i)) ∧ Below w.heap.size w w' := by
  obtain ⟨p, xg, xc, ia, ic, pa, pc, hp, hpm, rfl, hxl, c0, c1, c2, c3, c4, hpl, hpn, hpc⟩ := h.exp hi
  obtain ⟨rg, rc, rfl, hrB, hrl⟩ := h.ruAt hr0
  have hlb := heap_lt' hL
  have hgl := h.lt
  have q := cell_of_block h.blk
  have hru := h.ruCells
  have hx : (xsOf ps)[i]? = some p.1 := by rw [List.getElem?_map, hp]; rfl
  have hfit := hF.ex p hpm
  have hil : (i : Int) < ps.length := by omega
  have HX := hideP hx
  have HFIT := hideP hfit
  have HF := hideP hF
  have HL := hideP hL
  clear hpm hx hfit hF hL h hp
  have hB0 := hideP (below_alloc w (exO p.1.kind (.slice ia p.1.items.length ic) p.1.text (rfE (nmOf rs) p.1 0) (.slice pa p.1.parts.length pc)))
  rcases kinds8 p.1.kind with hk | hk | hk | hk | hk | hk
  · have hX : emptyX (xsOf ps) (nmOf rs) (bdOf rs) l i = false := by simp only [emptyX, HX.out]; rw [if_pos hk]
    rw [hX]
    rcases hk with hk | hk | hk
    all_goals
      rw [hk] at c0
      go_enter Tryz.func85, Tryz.ntmps85
      go_wp2_with fail
      go_ret
      exact ⟨rfl, by rw [hk] at hB0; exact hB0.out⟩
  · rw [hk] at c0 hB0
    have hrf := rfE_name (names := nmOf rs) hk
    by_cases hn : (nmOf rs).contains p.1.text = true
    · rw [if_pos hn] at hrf
      have hix : (nmOf rs).idxOf p.1.text < rs.length := by
        have := List.idxOf_lt_length_iff.2 (show p.1.text ∈ nmOf rs by simpa using hn)
        simpa using this
      obtain ⟨x, hx⟩ : ∃ x, x = (nmOf rs).idxOf p.1.text := ⟨_, rfl⟩
      rw [← hx] at hrf hix
      obtain ⟨d0, d1⟩ := hru x hix
      have hbl := HF.out.ru rs[x] (List.getElem_mem hix)
      have hlc := bools_cell HL.out rs[x].2 (by omega)
      have hX : emptyX (xsOf ps) (nmOf rs) (bdOf rs) l i = l.getD rs[x].2 false := by
        simp only [emptyX, HX.out, hk, hn, ← hx]
        simp [hix]
      rw [hX]
      rw [hrf] at c3 hB0
      have hx0 : (0 : Int) ≤ x := by omega
      have hxr : (x : Int) < rs.length := by omega
      have hbl' : (rs[x].2 : Int) < ps.length := by omega
      obtain ⟨b, hb⟩ : ∃ b, b = l.getD rs[x].2 false := ⟨_, rfl⟩
      rw [← hb] at hlc ⊢
      clear hX hx hn hrf hru d0 hb
      go_enter Tryz.func85, Tryz.ntmps85
      go_wp2_with fail
      go_quiet (fail)
      go_wp2_with fail
      go_ret
      exact ⟨rfl, below_drewN hB0.out _⟩
    · have hX : emptyX (xsOf ps) (nmOf rs) (bdOf rs) l i = false := by
        simp only [emptyX, HX.out, hk]
        simp at hn
        simp [hn]
      rw [if_neg hn] at hrf
      rw [hX]
      rw [hrf] at c3 hB0
      clear hX hn hrf hru
      go_enter Tryz.func85, Tryz.ntmps85
      go_wp2_with fail
      go_quiet (fail)
      go_wp2_with fail
      go_ret
      exact ⟨rfl, below_drewN hB0.out _⟩
  · rw [hk] at c0 hB0
    have hX : emptyX (xsOf ps) (nmOf rs) (bdOf rs) l i = p.1.parts.all (fun k => l.getD k false) := by
      simp only [emptyX, HX.out, hk]; simp
    have HXX := hideP hX
    clear hX hru
    go_enter Tryz.func85, Tryz.ntmps85
    go_wp2_with fail
    go_loopg [8] p.1.parts.length (fun m v wr => ∃ k : Nat, m = p.1.parts.length - k ∧ v = .int .i64 k ∧ k ≤ p.1.parts.length ∧ wr = w.alloc (exO 5 (.slice ia p.1.items.length ic) p.1.text (rfE (nmOf rs) p.1 0) (.slice pa p.1.parts.length pc)) ∧ Hid (∀ j (h : j < p.1.parts.length), j < k → l.getD p.1.parts[j] false = true))
    case atStart => exact ⟨0, by omega, rfl, by omega, rfl, fun j h h' => by omega⟩
    case round =>
      obtain ⟨k, rfl, rfl, hkl, rfl, HA⟩ := hrel
      by_cases hlt : k < p.1.parts.length
      · have hlt' : (k : Int) < p.1.parts.length := by omega
        obtain ⟨pg, rfl, hpg, hpcell⟩ := hpc k hlt
        have hfl := HFIT.out.1 p.1.parts[k] (List.getElem_mem hlt)
        have hfl' : (p.1.parts[k] : Int) < ps.length := by omega
        have hlc := bools_cell HL.out p.1.parts[k] (by omega)
        by_cases hb : l.getD p.1.parts[k] false = true
        · rw [hb] at hlc
          have HA2 : Hid (∀ j (h : j < p.1.parts.length), j < k + 1 → l.getD p.1.parts[j] false = true) := by
            intro j h hj
            by_cases hjk : j = k
            · subst hjk; exact hb
            · exact HA.out j h (by omega)
          go_wp2_with fail
          go_roundg (p.1.parts.length - (k + 1))
          case measure => omega
          case rel => exact ⟨k + 1, rfl, by go_num, by omega, rfl, HA2⟩
        · have hb' : l.getD p.1.parts[k] false = false := by simpa using hb
          rw [hb'] at hlc
          have hX : emptyX (xsOf ps) (nmOf rs) (bdOf rs) l i = false := by
            rw [HXX.out, List.all_eq_false]
            exact ⟨_, List.getElem_mem hlt, by rw [hb']; simp⟩
          go_wp2_with fail
          go_ret
          first | exact ⟨rfl, hB0.out⟩ | exact ⟨congrArg (fun b => Ending.returned (Value.bool b)) hX.symm, hB0.out⟩
      · have hlt' : ¬ (k : Int) < p.1.parts.length := by omega
        have hX : emptyX (xsOf ps) (nmOf rs) (bdOf rs) l i = true := by
          rw [HXX.out, List.all_eq_true]
          intro x hx
          obtain ⟨j, hj, rfl⟩ := List.getElem_of_mem hx
          exact HA.out j hj (by omega)
        go_wp2_with fail
        go_ret
        first | exact ⟨rfl, hB0.out⟩ | exact ⟨congrArg (fun b => Ending.returned (Value.bool b)) hX.symm, hB0.out⟩
  · rw [hk] at c0 hB0
    have hX : emptyX (xsOf ps) (nmOf rs) (bdOf rs) l i = p.1.parts.any (fun k => l.getD k false) := by
      simp only [emptyX, HX.out, hk]; simp
    have HXX := hideP hX
    clear hX hru
    go_enter Tryz.func85, Tryz.ntmps85
    go_wp2_with fail
    go_loopg [9] p.1.parts.length (fun m v wr => ∃ k : Nat, m = p.1.parts.length - k ∧ v = .int .i64 k ∧ k ≤ p.1.parts.length ∧ wr = w.alloc (exO 6 (.slice ia p.1.items.length ic) p.1.text (rfE (nmOf rs) p.1 0) (.slice pa p.1.parts.length pc)) ∧ Hid (∀ j (h : j < p.1.parts.length), j < k → l.getD p.1.parts[j] false = false))
    case atStart => exact ⟨0, by omega, rfl, by omega, rfl, fun j h h' => by omega⟩
    case round =>
      obtain ⟨k, rfl, rfl, hkl, rfl, HA⟩ := hrel
      by_cases hlt : k < p.1.parts.length
      · have hlt' : (k : Int) < p.1.parts.length := by omega
        obtain ⟨pg, rfl, hpg, hpcell⟩ := hpc k hlt
        have hfl := HFIT.out.1 p.1.parts[k] (List.getElem_mem hlt)
        have hfl' : (p.1.parts[k] : Int) < ps.length := by omega
        have hlc := bools_cell HL.out p.1.parts[k] (by omega)
        by_cases hb : l.getD p.1.parts[k] false = true
        · rw [hb] at hlc
          have hX : emptyX (xsOf ps) (nmOf rs) (bdOf rs) l i = true := by
            rw [HXX.out, List.any_eq_true]
            exact ⟨_, List.getElem_mem hlt, hb⟩
          go_wp2_with fail
          go_ret
          first | exact ⟨rfl, hB0.out⟩ | exact ⟨congrArg (fun b => Ending.returned (Value.bool b)) hX.symm, hB0.out⟩
        · have hb' : l.getD p.1.parts[k] false = false := by simpa using hb
          rw [hb'] at hlc
          have HA2 : Hid (∀ j (h : j < p.1.parts.length), j < k + 1 → l.getD p.1.parts[j] false = false) := by
            intro j h hj
            by_cases hjk : j = k
            · subst hjk; exact hb'
            · exact HA.out j h (by omega)
          go_wp2_with fail
          go_roundg (p.1.parts.length - (k + 1))
          case measure => omega
          case rel => exact ⟨k + 1, rfl, by go_num, by omega, rfl, HA2⟩
      · have hlt' : ¬ (k : Int) < p.1.parts.length := by omega
        have hX : emptyX (xsOf ps) (nmOf rs) (bdOf rs) l i = false := by
          rw [HXX.out, List.any_eq_false]
          intro x hx
          obtain ⟨j, hj, rfl⟩ := List.getElem_of_mem hx
          rw [HA.out j hj (by omega)]; simp
        go_wp2_with fail
        go_ret
        first | exact ⟨rfl, hB0.out⟩ | exact ⟨congrArg (fun b => Ending.returned (Value.bool b)) hX.symm, hB0.out⟩
  · obtain ⟨a, ha⟩ := HFIT.out.2.1 (by omega)
    have hal := HFIT.out.1 a (by rw [ha]; simp)
    have hX : emptyX (xsOf ps) (nmOf rs) (bdOf rs) l i = l.getD a false := by
      simp only [emptyX, HX.out, hk, ha]; simp
    obtain ⟨pg, rfl, hpg, hpcell⟩ := hpc 0 (by rw [ha]; simp)
    simp only [ha, List.getElem_cons_zero] at hpcell
    have hlc := bools_cell HL.out a (by omega)
    rw [hX]
    obtain ⟨b, hb⟩ : ∃ b, b = l.getD a false := ⟨_, rfl⟩
    rw [← hb] at hlc ⊢
    rw [hk] at c0 hB0
    simp only [ha, List.length_singleton] at c4 hB0
    have hal' : (a : Int) < ps.length := by omega
    clear hX hru hb hpc
    go_enter Tryz.func85, Tryz.ntmps85
    go_wp2_with fail
    go_ret
    exact ⟨rfl, hB0.out⟩
  · have hX : emptyX (xsOf ps) (nmOf rs) (bdOf rs) l i = true := by
      simp only [emptyX, HX.out]
      simp [hk]
    rw [hX]
    have g1 : ¬ (p.1.kind : Int) = 1 := by omega
    have g2 : ¬ (p.1.kind : Int) = 2 := by omega
    have g3 : ¬ (p.1.kind : Int) = 3 := by omega
    have g4 : ¬ (p.1.kind : Int) = 4 := by omega
    have g5 : ¬ (p.1.kind : Int) = 5 := by omega
    have g6 : ¬ (p.1.kind : Int) = 6 := by omega
    have g9 : ¬ (p.1.kind : Int) = 9 := by omega
    go_enter Tryz.func85, Tryz.ntmps85
    go_wp2_with fail
    go_ret
    exact ⟨rfl, hB0.out⟩
end Go.Proofs.YtjmcdklhaieldaaGreatDoor
