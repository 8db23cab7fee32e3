import Derived.Test.YtjmcdklhaieldaaGreatDoorPC
import Derived.Deep.QuietTactic
import Derived.BigQuiet
import Derived.RegionTactic
import Derived.BigRegion
set_option linter.all false
namespace Go.Proofs.YtjmcdklhaieldaaGreatDoor
open Go.RowKit
attribute [local go_sem ↓] Go.wp_at_zero Go.wp_at_succ

set_option maxHeartbeats 16000000 in
set_option maxRecDepth 100000 in
theorem ppiece_unit (B gb : Nat) (vx vr : Value) (ps : List (Thk.RE × Value × Value)) (rs : List (Thk.Bytes × Nat)) (k q : Nat) (sg : Bool) (hx : (xsOf ps)[k]? = some ⟨6, [], [], 0, [q]⟩) (hs : (xsOf ps)[q]? = some ⟨5, [], [], 0, []⟩) : RetP B gb vx vr ps rs k sg [40, 41] := by
  intro w h
  obtain ⟨xg, xc, ia, ic, pa, pc, hi, rfl, hxl, c0, c1, c2, c3, c4, hpl, hpn, hpc, hit⟩ := h.exq hx
  obtain ⟨xg', xc', ia', ic', pa', pc', hi', hv, hxl', d0, d1, d2, d3, d4, hpl', hpn', hpc', hit'⟩ := h.exq hs
  cases hv
  have hgl := h.lt
  have qq := cell_of_block h.blk
  have hkl : (k : Int) < ps.length := by omega
  have hql : (q : Int) < ps.length := by omega
  obtain ⟨pg, rfl, hpg, hpcell⟩ := hpc 0 (by simp)
  simp only [List.length_nil, List.length_singleton, List.getElem_cons_zero] at c0 c1 c2 c3 c4 d0 d1 d2 d3 d4 hpcell
  have c0' : w.cell? ⟨xg, k * 5, none⟩ = some (.int .i64 6) := c0
  have d0' : w.cell? ⟨xg, q * 5, none⟩ = some (.int .i64 5) := d0
  generalize rfE (nmOf rs) _ 0 = z1 at c3
  generalize rfE (nmOf rs) _ 0 = z2 at d3
  clear hx hs h hit hit' hpc hpc' c0 d0 hxl' hpl' hpn'
  go_enter Tryz.func125, Tryz.ntmps125
  go_wp2_with fail
  go_region
  all_goals go_wp2_with fail
  all_goals
    go_ret
    exact ⟨rfl, by repeat (first | exact Below.refl _ _ | refine Below.drew ?_ | refine Below.alloc ?_ (by simp; try omega) _)⟩

theorem brk_eq (s : Thk.Bytes) : (ByteArray.mk #[40] ++ ByteArray.mk s.toArray) ++ ByteArray.mk #[41] = ByteArray.mk (40 :: (s ++ [41])).toArray := by
  rw [show (ByteArray.mk #[40]) = ByteArray.mk ([40] : Thk.Bytes).toArray from rfl, show (ByteArray.mk #[41]) = ByteArray.mk ([41] : Thk.Bytes).toArray from rfl, bs_app, bs_app]
  rfl

theorem brk_sz {s : Thk.Bytes} (hl : s.length ≤ 600000) : (ByteArray.mk s.toArray).size ≤ 600000 ∧ (ByteArray.mk #[40] ++ ByteArray.mk s.toArray).size ≤ 600001 := by
  have h1 : (ByteArray.mk s.toArray).size ≤ 600000 := by show s.toArray.size ≤ _; simpa using hl
  exact ⟨h1, by rw [ByteArray.size_append, show (ByteArray.mk #[40]).size = 1 from rfl]; omega⟩

set_option maxHeartbeats 16000000 in
set_option maxRecDepth 100000 in
theorem ppiece_brk (B gb : Nat) (vx vr : Value) (ps : List (Thk.RE × Value × Value)) (rs : List (Thk.Bytes × Nat)) (k q : Nat) (qs ks : List Nat) (sg : Bool) (s : Thk.Bytes) (hx : (xsOf ps)[k]? = some ⟨6, [], [], 0, q :: qs⟩) (hs : (xsOf ps)[q]? = some ⟨5, [], [], 0, ks⟩) (hm : qs ≠ [] ∨ 1 < ks.length) (hl : s.length ≤ 600000) (hC : RetC B gb vx vr ps rs k s) : RetP B gb vx vr ps rs k sg (40 :: (s ++ [41])) := by
  intro w h
  obtain ⟨xg, xc, ia, ic, pa, pc, hi, rfl, hxl, c0, c1, c2, c3, c4, hpl, hpn, hpc, hit⟩ := h.exq hx
  obtain ⟨xg', xc', ia', ic', pa', pc', hi', hv, hxl', d0, d1, d2, d3, d4, hpl', hpn', hpc', hit'⟩ := h.exq hs
  cases hv
  have hgl := h.lt
  have qq := cell_of_block h.blk
  have hkl : (k : Int) < ps.length := by omega
  have hql : (q : Int) < ps.length := by omega
  obtain ⟨pg, rfl, hpg, hpcell⟩ := hpc 0 (by simp)
  simp only [List.length_nil, List.length_cons, List.getElem_cons_zero] at c0 c1 c2 c3 c4 d0 d1 d2 d3 d4 hpcell hpn
  have c0' : w.cell? ⟨xg, k * 5, none⟩ = some (.int .i64 6) := c0
  have d0' : w.cell? ⟨xg, q * 5, none⟩ = some (.int .i64 5) := d0
  generalize rfE (nmOf rs) _ 0 = z1 at c3
  generalize rfE (nmOf rs) _ 0 = z2 at d3
  have hch := fun W hb => hC W (h.below hb)
  have hm' : 1 < qs.length + 1 ∨ (qs.length + 1 = 1 ∧ 1 < ks.length) := by
    rcases hm with hm | hm
    · exact .inl (by have := List.length_pos_iff.2 hm; omega)
    · by_cases h0 : qs.length = 0
      · exact .inr ⟨by omega, hm⟩
      · exact .inl (by omega)
  obtain ⟨hz1, hz2⟩ := brk_sz hl
  have hz3 : (ByteArray.mk #[40]).size = 1 := rfl
  have hz4 : (ByteArray.mk #[41]).size = 1 := rfl
  have HEQ := hideP (brk_eq s)
  have hpm : ks.length ≤ 9223372036854775807 := hpn'
  clear hx hs hit hit' hpc hpc' c0 d0 hxl' hpl' hpn' hC hm hl
  generalize qs.length + 1 = N at *
  generalize ks.length = M at *
  have HCH := hideP hch
  clear h hch
  rcases hm' with hN | ⟨rfl, hM⟩
  · have hN' : (1 : Int) < N := by omega
    have hN0 : (0 : Int) < N := by omega
    have hN1 : 0 < N := by omega
    go_enter Tryz.func125, Tryz.ntmps125
    go_wp2_with fail
    go_region
    all_goals go_wp2_with fail
    all_goals
      refine (HCH.out _ (by repeat (first | exact Below.refl _ _ | refine Below.drew ?_ | refine Below.alloc ?_ (by simp; try omega) _))).mono ?_
      rintro _ w1 ⟨rfl, hb1⟩
      have HB1 := hideP ((show Below w.heap.size w _ by repeat (first | exact Below.refl _ _ | refine Below.drew ?_ | refine Below.alloc ?_ (by simp; try omega) _)).trans (hb1.mono (by simp; omega)))
      clear hb1
      go_wp2_with fail
      go_ret
      exact ⟨congrArg (fun b => Ending.returned (Value.string b)) HEQ.out, HB1.out⟩
  · have hM' : (1 : Int) < M := by omega
    go_enter Tryz.func125, Tryz.ntmps125
    go_wp2_with fail
    go_region
    all_goals go_wp2_with fail
    all_goals
      refine (HCH.out _ (by repeat (first | exact Below.refl _ _ | refine Below.drew ?_ | refine Below.alloc ?_ (by simp; try omega) _))).mono ?_
      rintro _ w1 ⟨rfl, hb1⟩
      have HB1 := hideP ((show Below w.heap.size w _ by repeat (first | exact Below.refl _ _ | refine Below.drew ?_ | refine Below.alloc ?_ (by simp; try omega) _)).trans (hb1.mono (by simp; omega)))
      clear hb1
      go_wp2_with fail
      go_ret
      exact ⟨congrArg (fun b => Ending.returned (Value.string b)) HEQ.out, HB1.out⟩
end Go.Proofs.YtjmcdklhaieldaaGreatDoor
