import Derived.Test.YtkbepcjgadkfaaaGreatDoorU6
set_option linter.all false
namespace Go.Proofs.YtkbepcjgadkfaaaGreatDoor
open Go.RowKit
attribute [local go_sem ↓] Go.wp_at_zero Go.wp_at_succ

theorem Told.lst {w : World} {B0 B yb : Nat} {v : Value} {L : List (Thk.Bytes × Bool)} (h : Told w B0 v L) (hB : B ≤ B0) (hy : yb < B0) : ∃ ao b off cap olds, v = .slice ao L.length cap ∧ Lst w B (fun x => x = yb) ao b off L.length cap olds := by
  have h' := h
  rcases h'.2 with ⟨rfl, h0⟩ | ⟨g, cap, cur, rfl, hg0, hg, h1, h2, h3, h4⟩
  · refine ⟨none, 0, 0, 0, [], by rw [h0], ⟨⟨by omega, fun h => absurd h (by omega), fun h => absurd h (by omega), by simp [h0], fun j u hu => by simp at hu, fun j hj => by simp at hj⟩, fun h => absurd h (by omega), by omega, fun j hj => by omega⟩⟩
  · refine ⟨_, g, 0, cap, L.flatMap aruC, rfl, ⟨⟨h1, fun _ => rfl, fun _ => heap_lt' hg, h.1, ?_, ?_⟩, fun _ => ⟨by omega, by omega⟩, h2, fun j hj => frozen_of_block hg _⟩⟩
    · intro j u hu
      have hj : j < L.length * 2 := by
        have := (List.getElem?_eq_some_iff.1 hu).1
        rw [h.1] at this; exact this
      have := h.cellAt (g := g) j hj
      rw [Nat.zero_add, this]; exact hu
    · intro j hj
      refine ⟨?_, frozen_of_block hg _⟩
      rw [cell_of_block hg]
      have : 0 + L.length * 2 + j < cur.size := by omega
      rw [Array.getElem?_eq_getElem this]; rfl

theorem PRead.of {l : List UInt8} {res : Except (Nat × Nat) (List Thk.Rule × List Bool)} (h : PAll l res) : ∃ r, PRead l r := by
  cases h with
  | text h => exact ⟨_, h⟩
  | rules h _ => exact ⟨_, h⟩
  | ok h _ => exact ⟨_, h⟩

theorem PAll.len {l : List UInt8} {g : List Thk.Rule} {E : List Bool} (h : PAll l (.ok (g, E))) : (tellL (namesOf g) E).length ≤ 20 := by
  cases h with
  | ok h _ =>
    obtain ⟨_, S', _, hok⟩ := read_ok h
    have := hok.le
    simp [tellL, namesOf]
    omega

set_option maxHeartbeats 16000000 in
set_option maxRecDepth 100000 in
theorem told_any (s : ByteArray) (w : World) (yb : Nat) (hs : s.size ≤ maxLen) (hg : ErrLaid w) (hy : w.heap[yb]? = some playO) :
    Calls Tryz.prog 14 #[.pointer (some ⟨yb, 0, none⟩), .string s] w fun e w' => e = .returned (.bool true) ∧ Below yb w w' := by
  have hpr := prules_any s w hs hg
  have hyl := heap_lt' hy
  have HY := hideP hy
  clear hg hy
  go_enter Tryz.func14, Tryz.ntmps14
  go_wp2_with fail
  refine hpr.mono ?_
  rintro e w1 ⟨hb1, res, hP, hE⟩
  obtain ⟨r, hr⟩ := PRead.of hP
  have hrr := rrules_any s w1 hs r hr
  have hz1 := hb1.size
  have HB1 := hideP hb1
  have HP := hideP hP
  clear hpr hb1 hP hr
  obtain ⟨L, v, er, hLl, hEv, hLv⟩ : ∃ (L : List (Thk.Bytes × Bool)) (v : Value) (er : Nat), L.length ≤ 20 ∧ e = .returned (.tuple #[v, .int .i64 er]) ∧ (Told w1 w.heap.size v L ∧ ∀ (e2 : Ending) (w2 : World), (Below w1.heap.size w1 w2 ∧ ∃ res, PAll s.data.toList res ∧ match res with
      | .ok (g, E) => ∃ v, e2 = .returned (.tuple #[v, .int .i64 0]) ∧ Told w2 w1.heap.size v (tellL (namesOf g) E)
      | .error (er, _) => er ≠ 0 ∧ e2 = .returned (.tuple #[.slice none 0 0, .int .i64 er])) → ∃ v2, e2 = .returned (.tuple #[v2, .int .i64 er]) ∧ Told w2 w1.heap.size v2 L) := by
    cases res with
    | error x =>
      obtain ⟨er, p⟩ := x
      refine ⟨[], .slice none 0 0, er, by simp, hE.2, World.ownsRow_nil _ _ _ _, ?_⟩
      rintro e2 w2 ⟨_, res2, hP2, hE2⟩
      have := HP.out.det hP2
      subst this
      exact ⟨_, hE2.2, World.ownsRow_nil _ _ _ _⟩
    | ok x =>
      obtain ⟨g, E⟩ := x
      obtain ⟨v, hv, ht⟩ := hE
      refine ⟨_, v, 0, HP.out.len, hv, ht, ?_⟩
      rintro e2 w2 ⟨_, res2, hP2, hE2⟩
      have := HP.out.det hP2
      subst this
      exact hE2
  subst hEv
  obtain ⟨hT1, hsec⟩ := hLv
  obtain ⟨pa, pc, rfl, _, _⟩ := hT1.gen
  have HT1 := hideP hT1
  have HSEC := hideP hsec
  clear hE hT1 hsec
  go_wp2_with fail
  refine hrr.mono ?_
  rintro e2 w2 hR2
  obtain ⟨v2, rfl, hT2⟩ := HSEC.out e2 w2 hR2
  have hb2 := hR2.1
  obtain ⟨pa2, pc2, rfl, _, _⟩ := hT2.gen
  have hT1' : Told w2 w.heap.size (.slice pa L.length pc) L := own_below HT1.out hb2
  have hsm := sameRules_any w2 _ _ _ _ L hT1' hT2
  have HT1' := hideP hT1'
  have HB2 : Hid (Below w.heap.size w w2) := HB1.out.trans (hb2.mono hz1)
  clear hrr hR2 hT2 hb2 hT1' HSEC
  go_wp2_with fail
  refine hsm.mono ?_
  rintro _ w3 ⟨rfl, hb3⟩
  have HB3 : Hid (Below w.heap.size w w3) := HB2.out.trans (hb3.mono HB2.out.size)
  obtain ⟨ao, b, off, cap, olds, hv3, hL3⟩ := (show Told w3 w.heap.size (.slice pa L.length pc) L from own_below HT1'.out hb3).lst (B := yb) (yb := yb) (by omega) hyl
  cases hv3
  have hy3 : w3.heap[yb]? = some playO := by rw [HB3.out.block yb hyl]; exact HY.out
  have hbr := brules_any w3 yb yb pa b off L.length pc olds hy3 hL3 (Nat.le_refl _) hLl
  have hy3l := heap_lt' hy3
  clear hsm hb3 hL3 hy3
  go_wp2_with fail
  refine hbr.mono ?_
  rintro _ w4 ⟨rfl, hb4⟩
  have HB4 : Hid (Below yb w w4) := (HB3.out.mono (by omega)).trans hb4
  clear hbr hb4
  go_wp2_with fail
  go_ret
  exact ⟨by simp, HB4.out⟩

theorem tells_any (s : ByteArray) (w : World) (hs : s.size ≤ maxLen) (hg : ErrLaid w) : Calls Tryz.prog 5 #[.string s] w fun e w' => e = .returned (.bool true) ∧ Below w.heap.size w w' := by
  have hB0 := below_alloc w playO
  have hkn := known_any (w.alloc playO) (hg.below hB0)
  have HG := hideP hg
  have HB0 := hideP hB0
  clear hg hB0
  go_enter Tryz.func5, Tryz.ntmps5
  go_wp2_with fail
  refine hkn.mono ?_
  rintro _ w1 ⟨rfl, hb1⟩
  have HB1 : Hid (Below w.heap.size w w1) := HB0.out.trans (hb1.mono (by simp))
  have hy : w1.heap[w.heap.size]? = some playO := by rw [hb1.block _ (by simp)]; exact heap_alloc_same _ _
  have htd := told_any s w1 w.heap.size hs (HG.out.below HB1.out) hy
  clear hkn hb1 hy
  go_wp2_with fail
  refine htd.mono ?_
  rintro _ w2 ⟨rfl, hb2⟩
  have HB2 : Hid (Below w.heap.size w w2) := HB1.out.trans hb2
  clear htd hb2
  go_wp2_with fail
  go_ret
  exact ⟨rfl, HB2.out⟩
end Go.Proofs.YtkbepcjgadkfaaaGreatDoor
