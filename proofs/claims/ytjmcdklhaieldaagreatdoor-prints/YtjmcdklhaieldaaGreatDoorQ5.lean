import Derived.Test.YtjmcdklhaieldaaGreatDoorQB
set_option linter.all false
namespace Go.Proofs.YtjmcdklhaieldaaGreatDoor
open Go.RowKit
attribute [local go_sem ↓] Go.wp_at_zero Go.wp_at_succ

theorem brk_cat (s : Thk.Bytes) (hl : s.length ≤ 600000) : (∀ W : World, (Op.stringOp .add ⟨#[40]⟩ ⟨s.toArray⟩).run Tryz.prog W = .ok (.string ⟨(40 :: s).toArray⟩) W) ∧ ∀ W : World, (Op.stringOp .add ⟨(40 :: s).toArray⟩ ⟨#[41]⟩).run Tryz.prog W = .ok (.string ⟨(40 :: (s ++ [41])).toArray⟩) W :=
  ⟨fun W => bcat [40] s (by simp; omega) W, fun W => bcat (40 :: s) [41] (by simp; omega) W⟩

set_option maxHeartbeats 16000000 in
set_option maxRecDepth 100000 in
theorem groupText_step (k : Nat) (hP : PlP k) (hT : PlT k) (hC : PlC k) : PlG k := by
  intro w A c u sg hc hk hw
  obtain ⟨us, ⟨hrow, hA⟩, hsq⟩ := hc
  obtain ⟨ua, uc, rfl⟩ := own_form hrow
  have hch := hC w A c (.slice ua c.length uc) ⟨us, ⟨hrow, hA⟩, hsq⟩ hk hw
  have hlc := Thk.prC_len c
  obtain ⟨b1, b2⟩ := brk_cat (Thk.prC c) (by omega)
  rcases c with _ | ⟨s0, _ | ⟨s1, c'⟩⟩
  · simp only [Thk.wtC] at hw; omega
  · simp only [RSeqs] at hsq
    obtain ⟨u0, us', rfl, ⟨vs, ⟨hr0, hA0⟩, hts⟩, rfl⟩ := hsq
    obtain ⟨ta, tc, rfl⟩ := own_form hr0
    obtain ⟨g, rfl, hcs, hgl⟩ := own_at hrow (by simp)
    have c0 : w.cell? ⟨g, 0, none⟩ = some (.slice ta s0.length tc) := by rw [hcs 0 (by simp)]; rfl
    simp only [List.length_singleton] at hch ⊢
    rcases s0 with _ | ⟨⟨a, p, b⟩, _ | ⟨t2, s'⟩⟩
    · simp only [Thk.prP, List.length_nil] at c0 ⊢
      clear hrow hk hw hlc hA hC hP hT hcs hch b1 b2 hr0 hts
      go_enter Tryz.func166, Tryz.ntmps166
      go_wp2_with fail
      go_ret
      exact ⟨rfl, Below.refl _ _⟩
    · simp only [RTerms] at hts
      obtain ⟨v, vs', rfl, ht, rfl⟩ := hts
      have htm := ht
      simp only [RTerm] at ht
      obtain ⟨vt, vx, rfl⟩ := RPiece.oneCell ht
      simp only [List.length_singleton] at hr0 c0
      obtain ⟨g2, rfl, hcs2, hgl2⟩ := own_at hr0 (by decide)
      have e0 : w.cell? ⟨g2, 0, none⟩ = some (.int .u8 a.toNat) := by rw [hcs2 0 (by decide)]; rfl
      have e1 : w.cell? ⟨g2, 1, none⟩ = some (.iface vt vx) := by rw [hcs2 1 (by decide)]; rfl
      have e2 : w.cell? ⟨g2, 2, none⟩ = some (.int .u8 b.toNat) := by rw [hcs2 2 (by decide)]; rfl
      have hdp : depP p ≤ k := by
        simp only [depC, depS, depT] at hk
        omega
      have hwp : Thk.wtP p + 2 ≤ 500000 := by
        simp only [Thk.wtC, Thk.wtS, Thk.wtT] at hw
        omega
      have hpc := fun (W : World) (hb : Below w.heap.size w W) => hP W A p (.iface vt vx) sg (RPiece.kept (sm_below hb) p _ ht) hdp (by omega)
      have htt := fun (W : World) (hb : Below w.heap.size w W) => hT W A (.mk a p b) (.iface vt vx) (RTerm.kept (sm_below hb) _ _ htm) (by simp only [depT]; exact hdp) (by simp only [Thk.wtT]; omega)
      simp only [termV, Thk.Term.ahead, Thk.Term.behind] at htt
      have hlt := Thk.prT_len (.mk a p b)
      simp only [Thk.wtT] at hlt
      obtain ⟨d1, d2⟩ := brk_cat (Thk.prT (.mk a p b)) (by omega)
      have hsd := fun W => signed_any a b vt vx W
      simp only [Thk.prP]
      generalize Thk.prT (.mk a p b) = R at *
      generalize 40 :: R = R1 at *
      generalize Thk.prP p sg = Z at *
      have HPC := hideP hpc
      have HTT := hideP htt
      clear hrow hk hw hlc hA hC hP hT hcs hr0 hA0 hch b1 b2 hcs2 hdp hwp ht htm hlt hpc htt
      by_cases h0 : a = 0 ∧ b = 0
      · have hz : (a != 0 || b != 0) = false := by rw [h0.1, h0.2]; rfl
        rw [hz] at hsd
        have HSD := hideP hsd
        rw [if_pos h0]
        clear h0 hz hsd
        go_enter Tryz.func166, Tryz.ntmps166
        go_wp2_with fail
        refine (HSD.out _).mono ?_
        rintro _ w1 ⟨rfl, hb⟩
        have x1 : w1.cell? ⟨w.heap.size, 1, none⟩ = some (.iface vt vx) := by
          rw [hb.cell (p := ⟨w.heap.size, 1, none⟩) (by simp)]
          exact cell_of_block (heap_alloc_same w _) 1
        have hz1 := hb.size
        simp at hz1
        have hl1 : w.heap.size < w1.heap.size := by omega
        have HB1 := hideP ((below_alloc w _).trans (hb.mono (by simp)))
        clear hb
        go_wp2_with fail
        refine (HPC.out _ HB1.out).mono ?_
        rintro _ w2 ⟨rfl, hb2⟩
        have HB2 := hideP (HB1.out.trans (hb2.mono (by omega)))
        clear hb2
        go_wp2_with fail
        go_ret
        exact ⟨rfl, HB2.out⟩
      · have hz : (a != 0 || b != 0) = true := by
          by_cases ha : a = 0
          · have : b ≠ 0 := fun e => h0 ⟨ha, e⟩
            simp [this]
          · simp [ha]
        rw [hz] at hsd
        have HSD := hideP hsd
        rw [if_neg h0]
        clear h0 hz hsd
        cases sg with
        | true =>
          go_enter Tryz.func166, Tryz.ntmps166
          go_wp2_with fail
          refine (HSD.out _).mono ?_
          rintro _ w1 ⟨rfl, hb⟩
          have x0 : w1.cell? ⟨w.heap.size, 0, none⟩ = some (.int .u8 a.toNat) := by
            rw [hb.cell (p := ⟨w.heap.size, 0, none⟩) (by simp)]
            exact cell_of_block (heap_alloc_same w _) 0
          have x1 : w1.cell? ⟨w.heap.size, 1, none⟩ = some (.iface vt vx) := by
            rw [hb.cell (p := ⟨w.heap.size, 1, none⟩) (by simp)]
            exact cell_of_block (heap_alloc_same w _) 1
          have x2 : w1.cell? ⟨w.heap.size, 2, none⟩ = some (.int .u8 b.toNat) := by
            rw [hb.cell (p := ⟨w.heap.size, 2, none⟩) (by simp)]
            exact cell_of_block (heap_alloc_same w _) 2
          have hz1 := hb.size
          simp at hz1
          have hl1 : w.heap.size < w1.heap.size := by omega
          have HB1 := hideP ((below_alloc w _).trans (hb.mono (by simp)))
          clear hb
          go_wp2_with fail
          refine (HTT.out _ HB1.out).mono ?_
          rintro _ w2 ⟨rfl, hb2⟩
          have HB2 := hideP (HB1.out.trans (hb2.mono (by omega)))
          clear hb2
          go_wp2_with fail
          go_ret
          exact ⟨rfl, HB2.out⟩
        | false =>
          go_enter Tryz.func166, Tryz.ntmps166
          go_wp2_with fail
          refine (HSD.out _).mono ?_
          rintro _ w1 ⟨rfl, hb⟩
          have x0 : w1.cell? ⟨w.heap.size, 0, none⟩ = some (.int .u8 a.toNat) := by
            rw [hb.cell (p := ⟨w.heap.size, 0, none⟩) (by simp)]
            exact cell_of_block (heap_alloc_same w _) 0
          have x1 : w1.cell? ⟨w.heap.size, 1, none⟩ = some (.iface vt vx) := by
            rw [hb.cell (p := ⟨w.heap.size, 1, none⟩) (by simp)]
            exact cell_of_block (heap_alloc_same w _) 1
          have x2 : w1.cell? ⟨w.heap.size, 2, none⟩ = some (.int .u8 b.toNat) := by
            rw [hb.cell (p := ⟨w.heap.size, 2, none⟩) (by simp)]
            exact cell_of_block (heap_alloc_same w _) 2
          have hz1 := hb.size
          simp at hz1
          have hl1 : w.heap.size < w1.heap.size := by omega
          have HB1 := hideP ((below_alloc w _).trans (hb.mono (by simp)))
          clear hb
          go_wp2_with fail
          refine (HTT.out _ HB1.out).mono ?_
          rintro _ w2 ⟨rfl, hb2⟩
          have HB2 := hideP (HB1.out.trans (hb2.mono (by omega)))
          clear hb2
          go_wp2_with fail
          go_ret
          exact ⟨rfl, HB2.out⟩
    · rw [Thk.prP_brk _ _ (by simp) (by simp)]
      have hM : 1 < (.mk a p b :: t2 :: s').length := by simp
      have hmx : (.mk a p b :: t2 :: s').length ≤ 9223372036854775807 := by
        rcases hr0.2 with ⟨_, h2⟩ | ⟨g, cap, cur, hv, _, _, h1, h2, _⟩
        · omega
        · unfold maxLen at h2; omega
      generalize Thk.prC [.mk a p b :: t2 :: s'] = R at *
      generalize 40 :: R = R1 at *
      generalize (.mk a p b :: t2 :: s').length = M at *
      have hM' : (1 : Int) < M := by omega
      clear hrow hk hw hlc hA hC hP hT hcs hr0 hts hA0
      go_enter Tryz.func166, Tryz.ntmps166
      go_wp2_with fail
      refine hch.mono ?_
      rintro _ w1 ⟨rfl, hb⟩
      clear hch
      go_wp2_with fail
      go_ret
      exact ⟨rfl, hb⟩
  · rw [Thk.prP_brk _ _ (by simp) (by simp)]
    have hN : 1 < (s0 :: s1 :: c').length := by simp
    have hmx : (s0 :: s1 :: c').length ≤ 9223372036854775807 := by
      rcases hrow.2 with ⟨_, h2⟩ | ⟨g, cap, cur, hv, _, _, h1, h2, _⟩
      · omega
      · unfold maxLen at h2; omega
    obtain ⟨g, rfl, hcs, hgl⟩ := own_at hrow (by omega)
    generalize Thk.prC (s0 :: s1 :: c') = R at *
    generalize 40 :: R = R1 at *
    generalize (s0 :: s1 :: c').length = N at *
    have hN' : (1 : Int) < N := by omega
    clear hrow hsq hk hw hlc hA hC hP hT hcs
    go_enter Tryz.func166, Tryz.ntmps166
    go_wp2_with fail
    refine hch.mono ?_
    rintro _ w1 ⟨rfl, hb⟩
    clear hch
    go_wp2_with fail
    go_ret
    exact ⟨rfl, hb⟩
end Go.Proofs.YtjmcdklhaieldaaGreatDoor
