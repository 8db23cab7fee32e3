import Derived.Test.YtjmcdklhaieldaaGreatDoorPC
import Derived.Deep.RegionHeld
set_option linter.all false
namespace Go.Proofs.YtjmcdklhaieldaaGreatDoor
open Go.RowKit
attribute [local go_sem ↓] Go.wp_at_zero Go.wp_at_succ

set_option maxHeartbeats 16000000 in
set_option maxRecDepth 100000 in
theorem pterm_plain (B gb : Nat) (vx vr : Value) (ps : List (Thk.RE × Value × Value)) (rs : List (Thk.Bytes × Nat)) (k : Nat) (e : Thk.RE) (s : Thk.Bytes) (hx : (xsOf ps)[k]? = some e) (hk : ¬ (e.kind = 10 ∨ e.kind = 11)) (hi : RetI B gb vx vr ps rs k false s) : RetT B gb vx vr ps rs k s := by
  intro w h
  obtain ⟨xg, xc, ia, ic, pa, pc, hkl0, rfl, hxl, c0, c1, c2, c3, c4, hpl, hpn, hpc, hit⟩ := h.exq hx
  have hgl := h.lt
  have q := cell_of_block h.blk
  have hkl : (k : Int) < ps.length := by omega
  have hitm := fun W hb => hi W (h.below hb)
  have HIT := hideP hitm
  generalize e.kind = K at *
  have g10 : ¬ (K : Int) = 10 := by omega
  have g11 : ¬ (K : Int) = 11 := by omega
  have b10 : ((K : Int) == 10) = false := by simpa using g10
  have b11 : ((K : Int) == 11) = false := by simpa using g11
  clear hx h hi hitm hk hit hpc
  go_enter Tryz.func58, Tryz.ntmps58
  go_wp2_with fail
  refine (HIT.out _ (below_alloc _ _)).mono ?_
  rintro _ w1 ⟨rfl, hb1⟩
  have HB1 := hideP ((below_alloc w _).trans (hb1.mono (by simp)))
  clear hb1
  go_wp2_with fail
  go_ret
  exact ⟨rfl, HB1.out⟩

set_option maxHeartbeats 16000000 in
set_option maxRecDepth 100000 in
theorem pitem_plain (B gb : Nat) (vx vr : Value) (ps : List (Thk.RE × Value × Value)) (rs : List (Thk.Bytes × Nat)) (k : Nat) (e : Thk.RE) (sg : Bool) (s : Thk.Bytes) (hx : (xsOf ps)[k]? = some e) (hk : ¬ (7 ≤ e.kind ∧ e.kind ≤ 9)) (hi : RetP B gb vx vr ps rs k sg s) : RetI B gb vx vr ps rs k sg s := by
  intro w h
  obtain ⟨xg, xc, ia, ic, pa, pc, hkl0, rfl, hxl, c0, c1, c2, c3, c4, hpl, hpn, hpc, hit⟩ := h.exq hx
  have hgl := h.lt
  have q := cell_of_block h.blk
  have hkl : (k : Int) < ps.length := by omega
  have hitm := fun W hb => hi W (h.below hb)
  have HIT := hideP hitm
  generalize e.kind = K at *
  have g7 : ¬ (K : Int) = 7 := by omega
  have g8 : ¬ (K : Int) = 8 := by omega
  have g9 : ¬ (K : Int) = 9 := by omega
  have b7 : ((K : Int) == 7) = false := by simpa using g7
  have b8 : ((K : Int) == 8) = false := by simpa using g8
  have b9 : ((K : Int) == 9) = false := by simpa using g9
  clear hx h hi hitm hk hit hpc
  go_enter Tryz.func91, Tryz.ntmps91
  go_wp2_with fail
  refine (HIT.out _ (below_alloc _ _)).mono ?_
  rintro _ w1 ⟨rfl, hb1⟩
  have HB1 := hideP ((below_alloc w _).trans (hb1.mono (by simp)))
  clear hb1
  go_wp2_with fail
  go_ret
  exact ⟨rfl, HB1.out⟩

theorem cat_sz {a b : Thk.Bytes} (ha : a.length ≤ 600000) (hb : b.length ≤ 600000) : (ByteArray.mk a.toArray).size ≤ 600000 ∧ (ByteArray.mk b.toArray).size ≤ 600000 := ⟨by show a.toArray.size ≤ _; simpa using ha, by show b.toArray.size ≤ _; simpa using hb⟩

set_option maxHeartbeats 16000000 in
set_option maxRecDepth 100000 in
theorem pterm_sign (B gb : Nat) (vx vr : Value) (ps : List (Thk.RE × Value × Value)) (rs : List (Thk.Bytes × Nat)) (k i : Nat) (a : UInt8) (s : Thk.Bytes) (hx : (xsOf ps)[k]? = some (Thk.wrapE (Thk.sgnKind [a]) i)) (hkd : a = 38 ∨ a = 33) (hl : s.length ≤ 600000) (hi : RetI B gb vx vr ps rs i true s) : RetT B gb vx vr ps rs k (a :: s) := by
  intro w h
  obtain ⟨xg, xc, ia, ic, pa, pc, hkl0, rfl, hxl, c0, c1, c2, c3, c4, hpl, hpn, hpc, hit⟩ := h.exq hx
  have hgl := h.lt
  have q := cell_of_block h.blk
  have hkl : (k : Int) < ps.length := by omega
  obtain ⟨pg, rfl, hpg, hpcell⟩ := hpc 0 (by simp [Thk.wrapE])
  simp only [Thk.wrapE, List.length_nil, List.length_singleton, List.getElem_cons_zero] at c0 c1 c2 c3 c4 hpcell
  generalize rfE (nmOf rs) _ 0 = z1 at c3
  have hitm := fun W hb => hi W (h.below hb)
  obtain ⟨hz1, _⟩ := cat_sz hl hl
  have hzc : (ByteArray.mk #[a]).size = 1 := rfl
  have hadd : ∀ W : World, (Op.stringOp .add ⟨#[a]⟩ ⟨s.toArray⟩).run Tryz.prog W = .ok (.string ⟨(a :: s).toArray⟩) W := by
    intro W
    rw [run_string_add_sum W _ _ (by omega)]
    exact congrArg (fun b => Result.ok (Value.string b) W) (bs_app [a] s)
  have HIT := hideP hitm
  have hK : (Thk.sgnKind [a] = 10 ∨ Thk.sgnKind [a] = 11) ∧ sgnK (Thk.sgnKind [a]) = [a] := by rcases hkd with rfl | rfl <;> decide
  have hso : ∀ W, Calls Tryz.prog 90 #[.int .i64 (Thk.sgnKind [a])] W fun e w' => e = .returned (.string ⟨#[a]⟩) ∧ w' = W := by
    intro W
    have := rsignOf_any (Thk.sgnKind [a]) W
    rw [hK.2] at this
    exact this
  have HSO := hideP hso
  have hK1 := hK.1
  clear hx h hi hitm hit hpc hkd hso hK hl
  generalize Thk.sgnKind [a] = K at *
  have hdec : ((K : Int) == 10 || (K : Int) == 11) = true := by rcases hK1 with rfl | rfl <;> rfl
  rcases hK1 with rfl | rfl
  · go_enter Tryz.func58, Tryz.ntmps58
    go_wp2_with fail
    obtain ⟨X, hX⟩ : ∃ X, X = w.alloc (.cells #[.int .i64 10, .slice ia 0 ic, .string ⟨#[]⟩, .int .i64 z1, .slice (some ⟨pg, 0, none⟩) 1 pc] 126) := ⟨_, rfl⟩
    rw [← hX]
    have hBX : Below w.heap.size w X := by rw [hX]; exact below_alloc _ _
    have hXb : X.heap[w.heap.size]? = some (.cells #[.int .i64 10, .slice ia 0 ic, .string ⟨#[]⟩, .int .i64 z1, .slice (some ⟨pg, 0, none⟩) 1 pc] 126 (0, 0)) := by rw [hX]; exact heap_alloc_same _ _
    have hXs : X.heap.size = w.heap.size + 1 := by rw [hX]; simp
    have x0 : X.cell? ⟨w.heap.size, 0, none⟩ = some (.int .i64 10) := cell_of_block hXb 0
    have x4 : X.cell? ⟨w.heap.size, 4, none⟩ = some (.slice (some ⟨pg, 0, none⟩) 1 pc) := cell_of_block hXb 4
    have xp : X.cell? ⟨pg, 0, none⟩ = some (.int .i64 i) := by rw [World.cell?_of_block (a := ⟨pg, 0, none⟩) (hBX.block pg hpg)]; exact hpcell
    have hwX : w.heap.size < X.heap.size := by omega
    have hpX : pg < X.heap.size := by omega
    have HBX := hideP hBX
    have HX0 := hideP x0
    have HX4 := hideP x4
    have HXP := hideP xp
    have HWX := hideP (And.intro hwX hpX)
    clear hX hBX hXb hXs
    go_region_held (fun w' => w'.cell? ⟨w.heap.size, 0, none⟩ = some (.int .i64 10) ∧ w'.cell? ⟨w.heap.size, 4, none⟩ = some (.slice (some ⟨pg, 0, none⟩) 1 pc) ∧ w'.cell? ⟨pg, 0, none⟩ = some (.int .i64 i)) (go_keep)
      (first
        | (go_at_call 90; refine (HSO.out _).mono ?_; rintro _ w' ⟨rfl, hw⟩; replace hw := hw.symm; subst hw)
        | (go_at_call 91; refine (HIT.out X.drew HBX.out.drew).mono ?_; rintro _ w5 ⟨rfl, hb5⟩; have s1 := (hb5.cell (p := ⟨w.heap.size, 0, none⟩) HWX.out.1).trans HX0.out; have s2 := (hb5.cell (p := ⟨w.heap.size, 4, none⟩) HWX.out.1).trans HX4.out; have s3 := (hb5.cell (p := ⟨pg, 0, none⟩) HWX.out.2).trans HXP.out; have HB5 := hideP (HBX.out.drew.trans (hb5.mono (show w.heap.size ≤ X.heap.size from Nat.le_of_lt HWX.out.1))); clear hb5))
    all_goals go_wp2_with fail
    all_goals
      go_ret
      exact ⟨rfl, HB5.out⟩
  · go_enter Tryz.func58, Tryz.ntmps58
    go_wp2_with fail
    obtain ⟨X, hX⟩ : ∃ X, X = w.alloc (.cells #[.int .i64 11, .slice ia 0 ic, .string ⟨#[]⟩, .int .i64 z1, .slice (some ⟨pg, 0, none⟩) 1 pc] 126) := ⟨_, rfl⟩
    rw [← hX]
    have hBX : Below w.heap.size w X := by rw [hX]; exact below_alloc _ _
    have hXb : X.heap[w.heap.size]? = some (.cells #[.int .i64 11, .slice ia 0 ic, .string ⟨#[]⟩, .int .i64 z1, .slice (some ⟨pg, 0, none⟩) 1 pc] 126 (0, 0)) := by rw [hX]; exact heap_alloc_same _ _
    have hXs : X.heap.size = w.heap.size + 1 := by rw [hX]; simp
    have x0 : X.cell? ⟨w.heap.size, 0, none⟩ = some (.int .i64 11) := cell_of_block hXb 0
    have x4 : X.cell? ⟨w.heap.size, 4, none⟩ = some (.slice (some ⟨pg, 0, none⟩) 1 pc) := cell_of_block hXb 4
    have xp : X.cell? ⟨pg, 0, none⟩ = some (.int .i64 i) := by rw [World.cell?_of_block (a := ⟨pg, 0, none⟩) (hBX.block pg hpg)]; exact hpcell
    have hwX : w.heap.size < X.heap.size := by omega
    have hpX : pg < X.heap.size := by omega
    have HBX := hideP hBX
    have HX0 := hideP x0
    have HX4 := hideP x4
    have HXP := hideP xp
    have HWX := hideP (And.intro hwX hpX)
    clear hX hBX hXb hXs
    go_region_held (fun w' => w'.cell? ⟨w.heap.size, 0, none⟩ = some (.int .i64 11) ∧ w'.cell? ⟨w.heap.size, 4, none⟩ = some (.slice (some ⟨pg, 0, none⟩) 1 pc) ∧ w'.cell? ⟨pg, 0, none⟩ = some (.int .i64 i)) (go_keep)
      (first
        | (go_at_call 90; refine (HSO.out _).mono ?_; rintro _ w' ⟨rfl, hw⟩; replace hw := hw.symm; subst hw)
        | (go_at_call 91; refine (HIT.out X.drew HBX.out.drew).mono ?_; rintro _ w5 ⟨rfl, hb5⟩; have s1 := (hb5.cell (p := ⟨w.heap.size, 0, none⟩) HWX.out.1).trans HX0.out; have s2 := (hb5.cell (p := ⟨w.heap.size, 4, none⟩) HWX.out.1).trans HX4.out; have s3 := (hb5.cell (p := ⟨pg, 0, none⟩) HWX.out.2).trans HXP.out; have HB5 := hideP (HBX.out.drew.trans (hb5.mono (show w.heap.size ≤ X.heap.size from Nat.le_of_lt HWX.out.1))); clear hb5))
    all_goals go_wp2_with fail
    all_goals
      go_ret
      exact ⟨rfl, HB5.out⟩
end Go.Proofs.YtjmcdklhaieldaaGreatDoor
namespace Go.Proofs.YtjmcdklhaieldaaGreatDoor
open Go.RowKit
attribute [local go_sem ↓] Go.wp_at_zero Go.wp_at_succ

set_option maxHeartbeats 16000000 in
set_option maxRecDepth 100000 in
theorem pitem_sign (B gb : Nat) (vx vr : Value) (ps : List (Thk.RE × Value × Value)) (rs : List (Thk.Bytes × Nat)) (k i : Nat) (a : UInt8) (sg : Bool) (s : Thk.Bytes) (hx : (xsOf ps)[k]? = some (Thk.wrapE (Thk.sgnKind [a]) i)) (hkd : a = 63 ∨ a = 42 ∨ a = 43) (hl : s.length ≤ 600000) (hi : RetP B gb vx vr ps rs i true s) : RetI B gb vx vr ps rs k sg (s ++ [a]) := by
  intro w h
  obtain ⟨xg, xc, ia, ic, pa, pc, hkl0, rfl, hxl, c0, c1, c2, c3, c4, hpl, hpn, hpc, hit⟩ := h.exq hx
  have hgl := h.lt
  have q := cell_of_block h.blk
  have hkl : (k : Int) < ps.length := by omega
  obtain ⟨pg, rfl, hpg, hpcell⟩ := hpc 0 (by simp [Thk.wrapE])
  simp only [Thk.wrapE, List.length_nil, List.length_singleton, List.getElem_cons_zero] at c0 c1 c2 c3 c4 hpcell
  generalize rfE (nmOf rs) _ 0 = z1 at c3
  have hitm := fun W hb => hi W (h.below hb)
  obtain ⟨hz1, _⟩ := cat_sz hl hl
  have hzc : (ByteArray.mk #[a]).size = 1 := rfl
  have hadd : ∀ W : World, (Op.stringOp .add ⟨s.toArray⟩ ⟨#[a]⟩).run Tryz.prog W = .ok (.string ⟨(s ++ [a]).toArray⟩) W := by
    intro W
    rw [run_string_add_sum W _ _ (by omega)]
    exact congrArg (fun b => Result.ok (Value.string b) W) (bs_app s [a])
  have HIT := hideP hitm
  have hK : (Thk.sgnKind [a] = 7 ∨ Thk.sgnKind [a] = 8 ∨ Thk.sgnKind [a] = 9) ∧ sgnK (Thk.sgnKind [a]) = [a] := by rcases hkd with rfl | rfl | rfl <;> decide
  have hso : ∀ W, Calls Tryz.prog 90 #[.int .i64 (Thk.sgnKind [a])] W fun e w' => e = .returned (.string ⟨#[a]⟩) ∧ w' = W := by
    intro W
    have := rsignOf_any (Thk.sgnKind [a]) W
    rw [hK.2] at this
    exact this
  have HSO := hideP hso
  have hK1 := hK.1
  clear hx h hi hitm hit hpc hkd hso hK hl
  generalize Thk.sgnKind [a] = K at *
  rcases hK1 with rfl | rfl | rfl
  · go_enter Tryz.func91, Tryz.ntmps91
    go_wp2_with fail
    obtain ⟨X, hX⟩ : ∃ X, X = w.alloc (.cells #[.int .i64 7, .slice ia 0 ic, .string ⟨#[]⟩, .int .i64 z1, .slice (some ⟨pg, 0, none⟩) 1 pc] 126) := ⟨_, rfl⟩
    rw [← hX]
    have hBX : Below w.heap.size w X := by rw [hX]; exact below_alloc _ _
    have hXb : X.heap[w.heap.size]? = some (.cells #[.int .i64 7, .slice ia 0 ic, .string ⟨#[]⟩, .int .i64 z1, .slice (some ⟨pg, 0, none⟩) 1 pc] 126 (0, 0)) := by rw [hX]; exact heap_alloc_same _ _
    have hXs : X.heap.size = w.heap.size + 1 := by rw [hX]; simp
    have x0 : X.cell? ⟨w.heap.size, 0, none⟩ = some (.int .i64 7) := cell_of_block hXb 0
    have x4 : X.cell? ⟨w.heap.size, 4, none⟩ = some (.slice (some ⟨pg, 0, none⟩) 1 pc) := cell_of_block hXb 4
    have xp : X.cell? ⟨pg, 0, none⟩ = some (.int .i64 i) := by rw [World.cell?_of_block (a := ⟨pg, 0, none⟩) (hBX.block pg hpg)]; exact hpcell
    have hwX : w.heap.size < X.heap.size := by omega
    have hpX : pg < X.heap.size := by omega
    have HBX := hideP hBX
    have HX0 := hideP x0
    have HX4 := hideP x4
    have HXP := hideP xp
    have HWX := hideP (And.intro hwX hpX)
    clear hX hBX hXb hXs
    go_region_held (fun w' => w'.cell? ⟨w.heap.size, 0, none⟩ = some (.int .i64 7) ∧ w'.cell? ⟨w.heap.size, 4, none⟩ = some (.slice (some ⟨pg, 0, none⟩) 1 pc) ∧ w'.cell? ⟨pg, 0, none⟩ = some (.int .i64 i)) (go_keep)
      (first
        | (go_at_call 90; refine (HSO.out _).mono ?_; rintro _ w' ⟨rfl, hw⟩; replace hw := hw.symm; subst hw)
        | (go_at_call 125; refine (HIT.out X.drew HBX.out.drew).mono ?_; rintro _ w5 ⟨rfl, hb5⟩; have s1 := (hb5.cell (p := ⟨w.heap.size, 0, none⟩) HWX.out.1).trans HX0.out; have s2 := (hb5.cell (p := ⟨w.heap.size, 4, none⟩) HWX.out.1).trans HX4.out; have s3 := (hb5.cell (p := ⟨pg, 0, none⟩) HWX.out.2).trans HXP.out; have HB5 := hideP (HBX.out.drew.trans (hb5.mono (show w.heap.size ≤ X.heap.size from Nat.le_of_lt HWX.out.1))); clear hb5))
    all_goals go_wp2_with fail
    all_goals
      go_ret
      exact ⟨rfl, HB5.out⟩
  · go_enter Tryz.func91, Tryz.ntmps91
    go_wp2_with fail
    obtain ⟨X, hX⟩ : ∃ X, X = w.alloc (.cells #[.int .i64 8, .slice ia 0 ic, .string ⟨#[]⟩, .int .i64 z1, .slice (some ⟨pg, 0, none⟩) 1 pc] 126) := ⟨_, rfl⟩
    rw [← hX]
    have hBX : Below w.heap.size w X := by rw [hX]; exact below_alloc _ _
    have hXb : X.heap[w.heap.size]? = some (.cells #[.int .i64 8, .slice ia 0 ic, .string ⟨#[]⟩, .int .i64 z1, .slice (some ⟨pg, 0, none⟩) 1 pc] 126 (0, 0)) := by rw [hX]; exact heap_alloc_same _ _
    have hXs : X.heap.size = w.heap.size + 1 := by rw [hX]; simp
    have x0 : X.cell? ⟨w.heap.size, 0, none⟩ = some (.int .i64 8) := cell_of_block hXb 0
    have x4 : X.cell? ⟨w.heap.size, 4, none⟩ = some (.slice (some ⟨pg, 0, none⟩) 1 pc) := cell_of_block hXb 4
    have xp : X.cell? ⟨pg, 0, none⟩ = some (.int .i64 i) := by rw [World.cell?_of_block (a := ⟨pg, 0, none⟩) (hBX.block pg hpg)]; exact hpcell
    have hwX : w.heap.size < X.heap.size := by omega
    have hpX : pg < X.heap.size := by omega
    have HBX := hideP hBX
    have HX0 := hideP x0
    have HX4 := hideP x4
    have HXP := hideP xp
    have HWX := hideP (And.intro hwX hpX)
    clear hX hBX hXb hXs
    go_region_held (fun w' => w'.cell? ⟨w.heap.size, 0, none⟩ = some (.int .i64 8) ∧ w'.cell? ⟨w.heap.size, 4, none⟩ = some (.slice (some ⟨pg, 0, none⟩) 1 pc) ∧ w'.cell? ⟨pg, 0, none⟩ = some (.int .i64 i)) (go_keep)
      (first
        | (go_at_call 90; refine (HSO.out _).mono ?_; rintro _ w' ⟨rfl, hw⟩; replace hw := hw.symm; subst hw)
        | (go_at_call 125; refine (HIT.out X.drew HBX.out.drew).mono ?_; rintro _ w5 ⟨rfl, hb5⟩; have s1 := (hb5.cell (p := ⟨w.heap.size, 0, none⟩) HWX.out.1).trans HX0.out; have s2 := (hb5.cell (p := ⟨w.heap.size, 4, none⟩) HWX.out.1).trans HX4.out; have s3 := (hb5.cell (p := ⟨pg, 0, none⟩) HWX.out.2).trans HXP.out; have HB5 := hideP (HBX.out.drew.trans (hb5.mono (show w.heap.size ≤ X.heap.size from Nat.le_of_lt HWX.out.1))); clear hb5))
    all_goals go_wp2_with fail
    all_goals
      go_ret
      exact ⟨rfl, HB5.out⟩
  · go_enter Tryz.func91, Tryz.ntmps91
    go_wp2_with fail
    obtain ⟨X, hX⟩ : ∃ X, X = w.alloc (.cells #[.int .i64 9, .slice ia 0 ic, .string ⟨#[]⟩, .int .i64 z1, .slice (some ⟨pg, 0, none⟩) 1 pc] 126) := ⟨_, rfl⟩
    rw [← hX]
    have hBX : Below w.heap.size w X := by rw [hX]; exact below_alloc _ _
    have hXb : X.heap[w.heap.size]? = some (.cells #[.int .i64 9, .slice ia 0 ic, .string ⟨#[]⟩, .int .i64 z1, .slice (some ⟨pg, 0, none⟩) 1 pc] 126 (0, 0)) := by rw [hX]; exact heap_alloc_same _ _
    have hXs : X.heap.size = w.heap.size + 1 := by rw [hX]; simp
    have x0 : X.cell? ⟨w.heap.size, 0, none⟩ = some (.int .i64 9) := cell_of_block hXb 0
    have x4 : X.cell? ⟨w.heap.size, 4, none⟩ = some (.slice (some ⟨pg, 0, none⟩) 1 pc) := cell_of_block hXb 4
    have xp : X.cell? ⟨pg, 0, none⟩ = some (.int .i64 i) := by rw [World.cell?_of_block (a := ⟨pg, 0, none⟩) (hBX.block pg hpg)]; exact hpcell
    have hwX : w.heap.size < X.heap.size := by omega
    have hpX : pg < X.heap.size := by omega
    have HBX := hideP hBX
    have HX0 := hideP x0
    have HX4 := hideP x4
    have HXP := hideP xp
    have HWX := hideP (And.intro hwX hpX)
    clear hX hBX hXb hXs
    go_region_held (fun w' => w'.cell? ⟨w.heap.size, 0, none⟩ = some (.int .i64 9) ∧ w'.cell? ⟨w.heap.size, 4, none⟩ = some (.slice (some ⟨pg, 0, none⟩) 1 pc) ∧ w'.cell? ⟨pg, 0, none⟩ = some (.int .i64 i)) (go_keep)
      (first
        | (go_at_call 90; refine (HSO.out _).mono ?_; rintro _ w' ⟨rfl, hw⟩; replace hw := hw.symm; subst hw)
        | (go_at_call 125; refine (HIT.out X.drew HBX.out.drew).mono ?_; rintro _ w5 ⟨rfl, hb5⟩; have s1 := (hb5.cell (p := ⟨w.heap.size, 0, none⟩) HWX.out.1).trans HX0.out; have s2 := (hb5.cell (p := ⟨w.heap.size, 4, none⟩) HWX.out.1).trans HX4.out; have s3 := (hb5.cell (p := ⟨pg, 0, none⟩) HWX.out.2).trans HXP.out; have HB5 := hideP (HBX.out.drew.trans (hb5.mono (show w.heap.size ≤ X.heap.size from Nat.le_of_lt HWX.out.1))); clear hb5))
    all_goals go_wp2_with fail
    all_goals
      go_ret
      exact ⟨rfl, HB5.out⟩
end Go.Proofs.YtjmcdklhaieldaaGreatDoor
