import Derived.Test.YtjmcdklhaieldaaGreatDoorPB
set_option linter.all false
namespace Go.Proofs.YtjmcdklhaieldaaGreatDoor
open Go.RowKit
attribute [local go_sem ↓] Go.wp_at_zero Go.wp_at_succ

/-- The sign of a kind. -/
def sgnK (k : Nat) : Thk.Bytes := if k = 7 then [63] else if k = 8 then [42] else if k = 9 then [43] else if k = 10 then [38] else if k = 11 then [33] else []

theorem rsignOf_any (k : Nat) (w : World) : Calls Tryz.prog 90 #[.int .i64 k] w fun e w' => e = .returned (.string ⟨(sgnK k).toArray⟩) ∧ w' = w := by
  by_cases h7 : k = 7
  · subst h7
    go_enter Tryz.func90, Tryz.ntmps90
    go_wp2_with fail
    go_ret
    exact ⟨rfl, rfl⟩
  by_cases h8 : k = 8
  · subst h8
    go_enter Tryz.func90, Tryz.ntmps90
    go_wp2_with fail
    go_ret
    exact ⟨rfl, rfl⟩
  by_cases h9 : k = 9
  · subst h9
    go_enter Tryz.func90, Tryz.ntmps90
    go_wp2_with fail
    go_ret
    exact ⟨rfl, rfl⟩
  by_cases h10 : k = 10
  · subst h10
    go_enter Tryz.func90, Tryz.ntmps90
    go_wp2_with fail
    go_ret
    exact ⟨rfl, rfl⟩
  by_cases h11 : k = 11
  · subst h11
    go_enter Tryz.func90, Tryz.ntmps90
    go_wp2_with fail
    go_ret
    exact ⟨rfl, rfl⟩
  have e : sgnK k = [] := by simp [sgnK, h7, h8, h9, h10, h11]
  rw [e]
  have g7 : ¬ (k : Int) = 7 := by omega
  have g8 : ¬ (k : Int) = 8 := by omega
  have g9 : ¬ (k : Int) = 9 := by omega
  have g10 : ¬ (k : Int) = 10 := by omega
  have g11 : ¬ (k : Int) = 11 := by omega
  clear h7 h8 h9 h10 h11 e
  go_enter Tryz.func90, Tryz.ntmps90
  go_wp2_with fail
  go_ret
  exact ⟨rfl, rfl⟩

def RetI (B gb : Nat) (vx vr : Value) (ps : List (Thk.RE × Value × Value)) (rs : List (Thk.Bytes × Nat)) (k : Nat) (sg : Bool) (s : Thk.Bytes) : Prop :=
  ∀ w, GM w B gb vx vr (ps.map (ruled (nmOf rs))) rs → Calls Tryz.prog 91 #[.pointer (some ⟨gb, 0, none⟩), .int .i64 k, .bool sg] w fun e w' => e = .returned (.string ⟨s.toArray⟩) ∧ Below w.heap.size w w'
def RetP (B gb : Nat) (vx vr : Value) (ps : List (Thk.RE × Value × Value)) (rs : List (Thk.Bytes × Nat)) (k : Nat) (sg : Bool) (s : Thk.Bytes) : Prop :=
  ∀ w, GM w B gb vx vr (ps.map (ruled (nmOf rs))) rs → Calls Tryz.prog 125 #[.pointer (some ⟨gb, 0, none⟩), .int .i64 k, .bool sg] w fun e w' => e = .returned (.string ⟨s.toArray⟩) ∧ Below w.heap.size w w'
def RetT (B gb : Nat) (vx vr : Value) (ps : List (Thk.RE × Value × Value)) (rs : List (Thk.Bytes × Nat)) (k : Nat) (s : Thk.Bytes) : Prop :=
  ∀ w, GM w B gb vx vr (ps.map (ruled (nmOf rs))) rs → Calls Tryz.prog 58 #[.pointer (some ⟨gb, 0, none⟩), .int .i64 k] w fun e w' => e = .returned (.string ⟨s.toArray⟩) ∧ Below w.heap.size w w'
def RetC (B gb : Nat) (vx vr : Value) (ps : List (Thk.RE × Value × Value)) (rs : List (Thk.Bytes × Nat)) (k : Nat) (s : Thk.Bytes) : Prop :=
  ∀ w, GM w B gb vx vr (ps.map (ruled (nmOf rs))) rs → Calls Tryz.prog 31 #[.pointer (some ⟨gb, 0, none⟩), .int .i64 k] w fun e w' => e = .returned (.string ⟨s.toArray⟩) ∧ Below w.heap.size w w'
end Go.Proofs.YtjmcdklhaieldaaGreatDoor
namespace Go.Proofs.YtjmcdklhaieldaaGreatDoor
open Go.RowKit
attribute [local go_sem ↓] Go.wp_at_zero Go.wp_at_succ

/-- An expression of the grammar, its cells and its items. -/
theorem GM.exq {w : World} {B gb : Nat} {vx vr : Value} {ps : List (Thk.RE × Value × Value)} {rs : List (Thk.Bytes × Nat)} {names : List Thk.Bytes} (h : GM w B gb vx vr (ps.map (ruled names)) rs) {k : Nat} {e : Thk.RE} (hx : (xsOf ps)[k]? = some e) :
    ∃ (xg xc : Nat) (ia : Option Addr) (ic : Nat) (pa : Option Addr) (pc : Nat), k < ps.length ∧ vx = .slice (some ⟨xg, 0, none⟩) ps.length xc ∧ xg < w.heap.size ∧ w.cell? ⟨xg, k * 5, none⟩ = some (.int .i64 e.kind) ∧ w.cell? ⟨xg, k * 5 + 1, none⟩ = some (.slice ia e.items.length ic) ∧ w.cell? ⟨xg, k * 5 + 2, none⟩ = some (.string ⟨e.text.toArray⟩) ∧ w.cell? ⟨xg, k * 5 + 3, none⟩ = some (.int .i64 (rfE names e 0)) ∧ w.cell? ⟨xg, k * 5 + 4, none⟩ = some (.slice pa e.parts.length pc) ∧
      ps.length ≤ 9223372036854775807 ∧ e.parts.length ≤ 9223372036854775807 ∧ (∀ j (hj : j < e.parts.length), ∃ pg, pa = some ⟨pg, 0, none⟩ ∧ pg < w.heap.size ∧ w.cell? ⟨pg, j, none⟩ = some (.int .i64 e.parts[j])) ∧ Items w B (.slice ia e.items.length ic) e.items := by
  have hi : k < ps.length := by
    have := (List.getElem?_eq_some_iff.1 hx).1
    simpa using this
  have hep : e = ps[k].1 := by
    rw [List.getElem?_map, List.getElem?_eq_getElem hi] at hx
    simpa using hx.symm
  subst hep
  obtain ⟨xg, xc, rfl, hxB, hxl, hmx⟩ := h.exAt (by simp; omega)
  have hi' : k < (ps.map (ruled names)).length := by simpa using hi
  obtain ⟨c0, c1, c2, c3, c4⟩ := h.exCells.2 k hi'
  have hpm : ps[k] ∈ ps := List.getElem_mem hi
  have hrd : (ps.map (ruled names))[k]'hi' = ruled names ps[k] := by rw [List.getElem_map]
  rw [hrd] at c0 c1 c2 c3 c4
  have hmem : ruled names ps[k] ∈ ps.map (ruled names) := List.mem_map_of_mem hpm
  obtain ⟨ia, ic, hvi⟩ := own_form (h.items _ hmem)
  obtain ⟨pa, pc, hvp, hpn, hpc⟩ := (h.parts _ hmem).gen
  have hit := h.items _ hmem
  rw [hvi] at c1 hit
  rw [hvp] at c4
  exact ⟨xg, xc, ia, ic, pa, pc, hi, by rw [List.length_map], hxl, c0, c1, c2, c3, c4, by unfold maxLen at hmx; simp at hmx; omega, hpn, hpc, hit⟩

theorem Items.below {w w' : World} {B : Nat} {v : Value} {rs : List Thk.Span} (h : Items w B v rs) (hb : Below w.heap.size w w') : Items w' B v rs := own_below h hb

theorem lit_same (b : Thk.Bytes) : (b.map (fun c => (c, c))).flatMap (Thk.spanB [39]) = b.flatMap (Thk.escB [39]) := by
  induction b with
  | nil => rfl
  | cons c b ih => simp [Thk.spanB, ih]

set_option maxHeartbeats 4000000 in
set_option maxRecDepth 100000 in
theorem ppiece_name (B gb : Nat) (vx vr : Value) (ps : List (Thk.RE × Value × Value)) (rs : List (Thk.Bytes × Nat)) (k : Nat) (b : Thk.Bytes) (sg : Bool) (hx : (xsOf ps)[k]? = some ⟨4, [], b, 0, []⟩) : RetP B gb vx vr ps rs k sg b := by
  intro w h
  obtain ⟨xg, xc, ia, ic, pa, pc, hi, rfl, hxl, c0, c1, c2, c3, c4, hpl, hpn, hpc, hit⟩ := h.exq hx
  have hgl := h.lt
  have q := cell_of_block h.blk
  have hkl : (k : Int) < ps.length := by omega
  simp only [List.length_nil] at c0 c1 c2 c3 c4
  have c0' : w.cell? ⟨xg, k * 5, none⟩ = some (.int .i64 4) := c0
  clear hx h hit hpc c0
  go_enter Tryz.func125, Tryz.ntmps125
  go_wp2_with fail
  go_ret
  exact ⟨rfl, below_alloc _ _⟩

set_option maxHeartbeats 4000000 in
set_option maxRecDepth 100000 in
theorem ppiece_any (B gb : Nat) (vx vr : Value) (ps : List (Thk.RE × Value × Value)) (rs : List (Thk.Bytes × Nat)) (k : Nat) (sg : Bool) (hx : (xsOf ps)[k]? = some ⟨3, [], [], 0, []⟩) : RetP B gb vx vr ps rs k sg [46] := by
  intro w h
  obtain ⟨xg, xc, ia, ic, pa, pc, hi, rfl, hxl, c0, c1, c2, c3, c4, hpl, hpn, hpc, hit⟩ := h.exq hx
  have hgl := h.lt
  have q := cell_of_block h.blk
  have hkl : (k : Int) < ps.length := by omega
  simp only [List.length_nil] at c0 c1 c2 c3 c4
  have c0' : w.cell? ⟨xg, k * 5, none⟩ = some (.int .i64 3) := c0
  clear hx h hit hpc c0
  go_enter Tryz.func125, Tryz.ntmps125
  go_wp2_with fail
  go_ret
  exact ⟨rfl, below_alloc _ _⟩

set_option maxHeartbeats 4000000 in
set_option maxRecDepth 100000 in
theorem ppiece_lit (B gb : Nat) (vx vr : Value) (ps : List (Thk.RE × Value × Value)) (rs : List (Thk.Bytes × Nat)) (k : Nat) (b : Thk.Bytes) (sg : Bool) (hx : (xsOf ps)[k]? = some ⟨1, b.map (fun c => (c, c)), [], 0, []⟩) (hb : b.length ≤ 250000) : RetP B gb vx vr ps rs k sg (Thk.litB b) := by
  intro w h
  obtain ⟨xg, xc, ia, ic, pa, pc, hi, rfl, hxl, c0, c1, c2, c3, c4, hpl, hpn, hpc, hit⟩ := h.exq hx
  have hgl := h.lt
  have q := cell_of_block h.blk
  have hkl : (k : Int) < ps.length := by omega
  simp only [List.length_nil] at c0 c1 c2 c3 c4 hit
  have c0' : w.cell? ⟨xg, k * 5, none⟩ = some (.int .i64 1) := c0
  have hls := fun O => rlisted_any (w.alloc O) B _ _ ⟨#[39]⟩ (hit.below (below_alloc w O)) (by decide) (by simpa using hb)
  simp only [show (ByteArray.mk #[39]).data.toList = [39] from rfl, lit_same] at hls
  have hsz : (ByteArray.mk (b.flatMap (Thk.escB [39])).toArray).size ≤ 1250000 := by
    have := Thk.lit_len b
    unfold Thk.litB at this
    rw [List.length_cons, List.length_append, List.length_singleton] at this
    show (b.flatMap (Thk.escB [39])).toArray.size ≤ _
    simp only [List.size_toArray]
    omega
  have hsz1 : (ByteArray.mk #[39]).size = 1 := rfl
  have hsz2 : (ByteArray.mk #[39] ++ ByteArray.mk (b.flatMap (Thk.escB [39])).toArray).size ≤ 1250001 := by rw [ByteArray.size_append, hsz1]; omega
  have HEQ : Hid ((ByteArray.mk #[39] ++ ByteArray.mk (b.flatMap (Thk.escB [39])).toArray) ++ ByteArray.mk #[39] = ByteArray.mk (Thk.litB b).toArray) := by
    show _ = _
    rw [show (ByteArray.mk #[39]) = ByteArray.mk ([39] : Thk.Bytes).toArray from rfl, bs_app, bs_app]
    rfl
  generalize (b.map (fun c => (c, c))).length = n at *
  clear hx h hit hpc c0
  go_enter Tryz.func125, Tryz.ntmps125
  go_wp2_with fail
  refine (hls _).mono ?_
  rintro _ w1 ⟨rfl, hb1⟩
  have HB1 := hideP ((below_alloc w _).trans (hb1.mono (by simp)))
  clear hls hb1
  go_wp2_with fail
  go_ret
  exact ⟨congrArg (fun b => Ending.returned (Value.string b)) HEQ.out, HB1.out⟩

set_option maxHeartbeats 4000000 in
set_option maxRecDepth 100000 in
theorem ppiece_cls (B gb : Nat) (vx vr : Value) (ps : List (Thk.RE × Value × Value)) (rs : List (Thk.Bytes × Nat)) (k : Nat) (l : List Thk.Span) (sg : Bool) (hx : (xsOf ps)[k]? = some ⟨2, l, [], 0, []⟩) (hb : l.length ≤ 100000) : RetP B gb vx vr ps rs k sg (Thk.clsB l) := by
  intro w h
  obtain ⟨xg, xc, ia, ic, pa, pc, hi, rfl, hxl, c0, c1, c2, c3, c4, hpl, hpn, hpc, hit⟩ := h.exq hx
  have hgl := h.lt
  have q := cell_of_block h.blk
  have hkl : (k : Int) < ps.length := by omega
  simp only [List.length_nil] at c0 c1 c2 c3 c4 hit
  have c0' : w.cell? ⟨xg, k * 5, none⟩ = some (.int .i64 2) := c0
  have hls := fun O => rlisted_any (w.alloc O) B _ _ ⟨#[93, 45]⟩ (hit.below (below_alloc w O)) (by decide) (by omega)
  simp only [show (ByteArray.mk #[93, 45]).data.toList = [93, 45] from rfl] at hls
  have hsz : (ByteArray.mk (l.flatMap (Thk.spanB [93, 45])).toArray).size ≤ 1250000 := by
    have := spans_len [93, 45] l
    show (l.flatMap (Thk.spanB [93, 45])).toArray.size ≤ _
    simp only [List.size_toArray]
    omega
  have hsz1 : (ByteArray.mk #[91]).size = 1 := rfl
  have hsz3 : (ByteArray.mk #[93]).size = 1 := rfl
  have hsz2 : (ByteArray.mk #[91] ++ ByteArray.mk (l.flatMap (Thk.spanB [93, 45])).toArray).size ≤ 1250001 := by rw [ByteArray.size_append, hsz1]; omega
  have HEQ : Hid ((ByteArray.mk #[91] ++ ByteArray.mk (l.flatMap (Thk.spanB [93, 45])).toArray) ++ ByteArray.mk #[93] = ByteArray.mk (Thk.clsB l).toArray) := by
    show _ = _
    rw [show (ByteArray.mk #[91]) = ByteArray.mk ([91] : Thk.Bytes).toArray from rfl, show (ByteArray.mk #[93]) = ByteArray.mk ([93] : Thk.Bytes).toArray from rfl, bs_app, bs_app]
    rfl
  generalize l.length = n at *
  clear hx h hit hpc c0
  go_enter Tryz.func125, Tryz.ntmps125
  go_wp2_with fail
  refine (hls _).mono ?_
  rintro _ w1 ⟨rfl, hb1⟩
  have HB1 := hideP ((below_alloc w _).trans (hb1.mono (by simp)))
  clear hls hb1
  go_wp2_with fail
  go_ret
  exact ⟨congrArg (fun b => Ending.returned (Value.string b)) HEQ.out, HB1.out⟩
end Go.Proofs.YtjmcdklhaieldaaGreatDoor
