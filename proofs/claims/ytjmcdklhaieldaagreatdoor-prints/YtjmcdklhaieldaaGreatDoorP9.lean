import Derived.Test.YtjmcdklhaieldaaGreatDoorP8
set_option linter.all false
namespace Go.Proofs.YtjmcdklhaieldaaGreatDoor
open Go.RowKit
attribute [local go_sem ↓] Go.wp_at_zero Go.wp_at_succ

theorem sgnK_none {k : Nat} (h : ¬ (7 ≤ k ∧ k ≤ 11)) : sgnK k = [] := by
  unfold sgnK
  rw [if_neg (by omega), if_neg (by omega), if_neg (by omega), if_neg (by omega), if_neg (by omega)]
theorem sgnK_some {k : Nat} (h1 : 7 ≤ k) (h2 : k ≤ 11) : ∃ c, sgnK k = [c] := by
  unfold sgnK
  repeat' split
  all_goals first | exact ⟨_, rfl⟩ | omega

set_option maxHeartbeats 16000000 in
set_option maxRecDepth 100000 in
theorem ppiece_thru (B gb : Nat) (vx vr : Value) (ps : List (Thk.RE × Value × Value)) (rs : List (Thk.Bytes × Nat)) (k q t : Nat) (e : Thk.RE) (sg : Bool) (s : Thk.Bytes) (hx : (xsOf ps)[k]? = some ⟨6, [], [], 0, [q]⟩) (hs : (xsOf ps)[q]? = some ⟨5, [], [], 0, [t]⟩) (ht : (xsOf ps)[t]? = some e) (he : ¬ (7 ≤ e.kind ∧ e.kind ≤ 11)) (hP : RetP B gb vx vr ps rs t sg s) : RetP B gb vx vr ps rs k sg s := by
  intro w h
  obtain ⟨xg, xc, ia, ic, pa, pc, hi, rfl, hxl, c0, c1, c2, c3, c4, hpl, hpn, hpc, hit⟩ := h.exq hx
  obtain ⟨xg', xc', ia', ic', pa', pc', hi', hv, hxl', d0, d1, d2, d3, d4, hpl', hpn', hpc', hit'⟩ := h.exq hs
  cases hv
  obtain ⟨xg', xc', ia2, ic2, pa2, pc2, hi2, hv, hxl2, e0, e1, e2, e3, e4, _, _, _, _⟩ := h.exq ht
  cases hv
  have hgl := h.lt
  have qq := cell_of_block h.blk
  have hkl : (k : Int) < ps.length := by omega
  have hql : (q : Int) < ps.length := by omega
  have htl : (t : Int) < ps.length := by omega
  obtain ⟨pg, rfl, hpg, hpcell⟩ := hpc 0 (by simp)
  obtain ⟨pg2, rfl, hpg2, hpcell2⟩ := hpc' 0 (by simp)
  simp only [List.length_nil, List.length_singleton, List.getElem_cons_zero] at c0 c1 c2 c3 c4 d0 d1 d2 d3 d4 hpcell hpcell2
  have c0' : w.cell? ⟨xg, k * 5, none⟩ = some (.int .i64 6) := c0
  have d0' : w.cell? ⟨xg, q * 5, none⟩ = some (.int .i64 5) := d0
  generalize rfE (nmOf rs) _ 0 = z1 at c3
  generalize rfE (nmOf rs) _ 0 = z2 at d3
  have hch := fun W hb => hP W (h.below hb)
  have hso : ∀ W, Calls Tryz.prog 90 #[.int .i64 e.kind] W fun e w' => e = .returned (.string ⟨#[]⟩) ∧ w' = W := by
    intro W
    have := rsignOf_any e.kind W
    rw [sgnK_none he] at this
    exact this
  have HSO := hideP hso
  have HCH := hideP hch
  generalize e.kind = K at *
  clear hx hs ht h hit hit' hpc hpc' c0 d0 hxl' hpl' hpn' hP hch hso he e1 e2 e3 e4
  go_enter Tryz.func125, Tryz.ntmps125
  go_wp2_with fail
  go_region
  all_goals go_wp2_with fail
  all_goals
    refine (HSO.out _).mono ?_
    rintro _ w1 ⟨rfl, hw⟩
    replace hw := hw.symm
    subst hw
    go_wp2_with fail
    refine (HCH.out _ (by repeat (first | exact Below.refl _ _ | refine Below.drew ?_ | refine Below.alloc ?_ (by simp; try omega) _))).mono ?_
    rintro _ w1 ⟨rfl, hb1⟩
    have HB1 := hideP ((show Below w.heap.size w _ by repeat (first | exact Below.refl _ _ | refine Below.drew ?_ | refine Below.alloc ?_ (by simp; try omega) _)).trans (hb1.mono (by simp; omega)))
    clear hb1
    go_wp2_with fail
    go_ret
    exact ⟨rfl, HB1.out⟩

set_option maxHeartbeats 16000000 in
set_option maxRecDepth 100000 in
theorem ppiece_sgn (B gb : Nat) (vx vr : Value) (ps : List (Thk.RE × Value × Value)) (rs : List (Thk.Bytes × Nat)) (k q t : Nat) (e : Thk.RE) (sg : Bool) (s : Thk.Bytes) (hx : (xsOf ps)[k]? = some ⟨6, [], [], 0, [q]⟩) (hs : (xsOf ps)[q]? = some ⟨5, [], [], 0, [t]⟩) (ht : (xsOf ps)[t]? = some e) (he1 : 7 ≤ e.kind) (he2 : e.kind ≤ 11) (hl : s.length ≤ 600000) (hP : RetT B gb vx vr ps rs t s) : RetP B gb vx vr ps rs k sg (if sg then 40 :: (s ++ [41]) else s) := by
  intro w h
  obtain ⟨xg, xc, ia, ic, pa, pc, hi, rfl, hxl, c0, c1, c2, c3, c4, hpl, hpn, hpc, hit⟩ := h.exq hx
  obtain ⟨xg', xc', ia', ic', pa', pc', hi', hv, hxl', d0, d1, d2, d3, d4, hpl', hpn', hpc', hit'⟩ := h.exq hs
  cases hv
  obtain ⟨xg', xc', ia2, ic2, pa2, pc2, hi2, hv, hxl2, e0, e1, e2, e3, e4, _, _, _, _⟩ := h.exq ht
  cases hv
  have hgl := h.lt
  have qq := cell_of_block h.blk
  have hkl : (k : Int) < ps.length := by omega
  have hql : (q : Int) < ps.length := by omega
  have htl : (t : Int) < ps.length := by omega
  obtain ⟨pg, rfl, hpg, hpcell⟩ := hpc 0 (by simp)
  obtain ⟨pg2, rfl, hpg2, hpcell2⟩ := hpc' 0 (by simp)
  simp only [List.length_nil, List.length_singleton, List.getElem_cons_zero] at c0 c1 c2 c3 c4 d0 d1 d2 d3 d4 hpcell hpcell2
  have c0' : w.cell? ⟨xg, k * 5, none⟩ = some (.int .i64 6) := c0
  have d0' : w.cell? ⟨xg, q * 5, none⟩ = some (.int .i64 5) := d0
  generalize rfE (nmOf rs) _ 0 = z1 at c3
  generalize rfE (nmOf rs) _ 0 = z2 at d3
  have hch := fun W hb => hP W (h.below hb)
  obtain ⟨c, hc⟩ := sgnK_some he1 he2
  have hso : ∀ W, Calls Tryz.prog 90 #[.int .i64 e.kind] W fun e w' => e = .returned (.string ⟨#[c]⟩) ∧ w' = W := by
    intro W
    have := rsignOf_any e.kind W
    rw [hc] at this
    exact this
  have htl0 : (ByteArray.mk #[c]).toList = [c] := by rw [ByteArray.toList_eq]
  have hne : ((ByteArray.mk #[c]).toList == (ByteArray.mk #[]).toList) = false := by rw [htl0, ByteArray.toList_eq]; rfl
  obtain ⟨hz1, hz2⟩ := brk_sz hl
  have hz3 : (ByteArray.mk #[40]).size = 1 := rfl
  have hz4 : (ByteArray.mk #[41]).size = 1 := rfl
  have HEQ := hideP (brk_eq s)
  have HSO := hideP hso
  have HCH := hideP hch
  generalize e.kind = K at *
  clear hx hs ht h hit hit' hpc hpc' c0 d0 hxl' hpl' hpn' hP hch hso e1 e2 e3 e4 hc hl
  cases sg with
  | true =>
    go_enter Tryz.func125, Tryz.ntmps125
    go_wp2_with fail
    go_region
    all_goals go_wp2_with fail
    all_goals
      refine (HSO.out _).mono ?_
      rintro _ w1 ⟨rfl, hw⟩
      replace hw := hw.symm
      subst hw
      go_wp2_with fail
      refine (HCH.out _ (by repeat (first | exact Below.refl _ _ | refine Below.drew ?_ | refine Below.alloc ?_ (by simp; try omega) _))).mono ?_
      rintro _ w1 ⟨rfl, hb1⟩
      have HB1 := hideP ((show Below w.heap.size w _ by repeat (first | exact Below.refl _ _ | refine Below.drew ?_ | refine Below.alloc ?_ (by simp; try omega) _)).trans (hb1.mono (by simp; omega)))
      clear hb1
      go_wp2_with fail
      go_ret
      exact ⟨congrArg (fun b => Ending.returned (Value.string b)) HEQ.out, HB1.out⟩
  | false =>
    go_enter Tryz.func125, Tryz.ntmps125
    go_wp2_with fail
    go_region
    all_goals go_wp2_with fail
    all_goals
      refine (HSO.out _).mono ?_
      rintro _ w1 ⟨rfl, hw⟩
      replace hw := hw.symm
      subst hw
      go_wp2_with fail
      refine (HCH.out _ (by repeat (first | exact Below.refl _ _ | refine Below.drew ?_ | refine Below.alloc ?_ (by simp; try omega) _))).mono ?_
      rintro _ w1 ⟨rfl, hb1⟩
      have HB1 := hideP ((show Below w.heap.size w _ by repeat (first | exact Below.refl _ _ | refine Below.drew ?_ | refine Below.alloc ?_ (by simp; try omega) _)).trans (hb1.mono (by simp; omega)))
      clear hb1
      go_wp2_with fail
      go_ret
      exact ⟨rfl, HB1.out⟩
end Go.Proofs.YtjmcdklhaieldaaGreatDoor
