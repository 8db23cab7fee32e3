import Derived.Test.YtgfejacimdmkpaaDoorL2
import Derived.Test.YtgfejacimdmkpaaDoorKA
import Derived.Test.YtgfejacimdmkpaaDoorG9
set_option linter.all false
namespace Go.Proofs.YtgfejacimdmkpaaDoor
open Go.RowKit

theorem hal_at (w : World) (o : Obj) (b : Nat) (hb : b = w.heap.size) : (w.alloc o).heap[b]? = some o := by rw [hb]; exact heap_alloc_same _ _

theorem blankOf_mem (style : Int) : blankOf style ∈ blanksK := by
  have h4 := pickN_lt style (n := 4) (by decide)
  have hk : pickN style 4 = 0 ∨ pickN style 4 = 1 ∨ pickN style 4 = 2 ∨ pickN style 4 = 3 := by omega
  unfold blankOf
  rcases hk with hk | hk | hk | hk <;> rw [hk] <;> decide

theorem blanksK_len {b : List UInt8} (h : b ∈ blanksK) : b.length ≤ 6 := by
  simp only [blanksK, List.mem_cons, List.not_mem_nil, or_false] at h
  rcases h with rfl | rfl | rfl | rfl <;> decide

theorem brackets_brk (t : List UInt8) (e : Bool) (d : Nat) (style : Int) (w : World) (hs : i64 style) (ht : t.length ≤ 100000) (hd : d ≤ 1000) :
    Calls Tryd.prog 13 #[.agg #[.string (bs t), .bool e, .int .i64 d], .int .i64 style] w fun e' w' => e' = .returned (.agg #[.string (bs (brk (blankOf style) t)), .bool e, .int .i64 ↑(d + 1)]) ∧ Below w.heap.size w w' := brackets_any t e d style w hs ht hd

theorem i64_div {c : Int} (h : i64 c) : i64 (c.tdiv 4) := by
  obtain ⟨h1, h2⟩ := h
  rcases Int.lt_or_le c 0 with hc | hc
  · have e : c.tdiv 4 = -((-c).tdiv 4) := by rw [Int.neg_tdiv]; omega
    rw [e, Int.tdiv_eq_ediv_of_nonneg (by omega)]
    constructor <;> omega
  · rw [Int.tdiv_eq_ediv_of_nonneg hc]
    constructor <;> omega

theorem below_set3 {B b : Nat} {w w' : World} (h : Below B w w') (hb : B ≤ b) (hs : B ≤ w'.heap.size) (x y z : Value) (O : Obj) : Below B w ((((w'.setCell ⟨b, 0, none⟩ x).setCell ⟨b, 1, none⟩ y).setCell ⟨b, 2, none⟩ z).alloc O) :=
  (((h.setCell hb _).setCell hb _).setCell hb _).alloc (by simpa using hs) _

def twoText (ch : Bool) (x y : List UInt8) : List UInt8 := x ++ [if ch then 47 else 32] ++ y

set_option maxHeartbeats 1000000 in
set_option maxRecDepth 100000 in
theorem two_any (t1 : List UInt8) (e1 : Bool) (d1 : Nat) (t2 : List UInt8) (e2 : Bool) (d2 : Nat) (ch : Bool) (style : Int) (w : World) (hs : i64 style) (ht1 : t1.length ≤ 100000) (hd1 : d1 ≤ 1000) (ht2 : t2.length ≤ 100000) (hd2 : d2 ≤ 1000) :
    Calls Tryd.prog 8 #[mdV t1 e1 d1, mdV t2 e2 d2, .bool ch, .int .i64 style] w fun e' w' => e' = .returned (mdV (twoText ch (brk (blankOf style) t1) (brk (blankOf (style.tdiv 4)) t2)) (if ch then e1 || e2 else e1 && e2) (max (d1 + 1) (d2 + 1))) ∧ Below w.heap.size w w' := by
  obtain ⟨hs1, hs2⟩ := hs
  have hq : i64 (style.tdiv 4) := i64_div ⟨hs1, hs2⟩
  have h1 := fun w => brackets_brk t1 e1 d1 style w ⟨hs1, hs2⟩ ht1 hd1
  have h2 := fun w => brackets_brk t2 e2 d2 (style.tdiv 4) w hq ht2 hd2
  have l1 := blanksK_len (blankOf_mem style)
  have l2 := blanksK_len (blankOf_mem (style.tdiv 4))
  have z1 : (brk (blankOf style) t1).length ≤ 200000 := by rw [brk_len]; omega
  have z2 : (brk (blankOf (style.tdiv 4)) t2).length ≤ 200000 := by rw [brk_len]; omega
  generalize brk (blankOf style) t1 = x1 at *
  generalize brk (blankOf (style.tdiv 4)) t2 = x2 at *
  have y1 := bs_size x1
  have y2 := bs_size x2
  clear l1 l2 hq
  generalize hM : max (d1 + 1) (d2 + 1) = M
  go_enter Tryd.func8, Tryd.ntmps8
  go_wp2_with fail
  refine (h1 _).mono ?_
  rintro e w1 ⟨rfl, hb1⟩
  have hz := hb1.size
  simp at hz
  have A0 : w1.heap[w.heap.size]? = some (mdO t1 e1 d1) := by
    rw [hb1.block _ (by simp; omega), heap_alloc_old _ _ (by simp; omega), heap_alloc_old _ _ (by simp)]; exact heap_alloc_same _ _
  have A1 : w1.heap[w.heap.size + 1]? = some (mdO t2 e2 d2) := by
    rw [hb1.block _ (by simp), heap_alloc_old _ _ (by simp)]; exact hal_at _ _ _ (by simp)
  have A2 : w1.heap[w.heap.size + 1 + 1]? = some (mdO [] false 0) := by
    rw [hb1.block _ (by simp)]; exact hal_at _ _ _ (by simp)
  have hB1 : Below w.heap.size w w1 := (((below_alloc w _).alloc (by simp) _).alloc (by simp; omega) _).trans (hb1.mono (by simp; omega))
  have HB1 : Hid (Below w.heap.size w w1) := hB1
  have a1 := cell_of_block A1
  have f1 := frozen_of_block A1
  have n0 : w.heap.size < w1.heap.size := by omega
  have n1 : w.heap.size + 1 < w1.heap.size := by omega
  have n2 : w.heap.size + 1 + 1 < w1.heap.size := by omega
  have HA0 : Hid _ := A0
  have HA1 : Hid _ := A1
  have HA2 : Hid _ := A2
  clear hb1 A0 A1 A2 hB1 h1
  go_wp2_with fail
  refine (h2 _).mono ?_
  rintro e w2 ⟨rfl, hb2⟩
  have hz2 := hb2.size
  simp at hz2
  have A0 : w2.heap[w.heap.size]? = some (mdO t1 e1 d1) := by
    rw [hb2.block _ (by simp; omega), heap_alloc_old _ _ (by omega)]; exact HA0.out
  have A1 : w2.heap[w.heap.size + 1]? = some (mdO t2 e2 d2) := by
    rw [hb2.block _ (by simp; omega), heap_alloc_old _ _ (by omega)]; exact HA1.out
  have A2 : w2.heap[w.heap.size + 1 + 1]? = some (mdO [] false 0) := by
    rw [hb2.block _ (by simp; omega), heap_alloc_old _ _ (by omega)]; exact HA2.out
  have A3 : w2.heap[w1.heap.size]? = some (.cells #[.string (bs x1), .bool e1, .int .i64 (↑d1 + 1)] 24) := by
    rw [hb2.block _ (by simp)]; exact heap_alloc_same _ _
  have HB2 : Hid (Below w.heap.size w w2) := (HB1.out.alloc (by omega) _).trans (hb2.mono (by simp; omega))
  have q0 := cell_of_block A0
  have q1 := cell_of_block A1
  have q2 := cell_of_block A2
  have q3 := cell_of_block A3
  have g2 := frozen_of_block A2
  have m0 : w.heap.size < w2.heap.size := by omega
  have m1 : w.heap.size + 1 < w2.heap.size := by omega
  have m2 : w.heap.size + 1 + 1 < w2.heap.size := by omega
  have m3 : w1.heap.size < w2.heap.size := by omega
  have hne : ¬ w.heap.size + 1 + 1 = w2.heap.size := by omega
  clear hb2 A0 A1 A2 A3 h2 HA0 HA1 HA2 HB1 a1 f1 n0 n1 n2 hz hz2
  rcases Nat.lt_or_ge d1 d2 with hdd | hdd
  · obtain rfl : M = d2 + 1 := by omega
    clear hM
    cases ch with
    | true =>
      cases e1 with
      | true =>
        go_wp2_with fail
        refine bodyPost_ret (v := mdV (twoText true x1 x2) true (d2 + 1)) (by simp [results, Tryd.results8, go_sem, bs_app, twoText, q0, q1, q2, q3, m0, m1, m2, m3]; done) rfl ⟨rfl, ?_⟩
        exact below_set3 HB2.out (by omega) (by omega) _ _ _ _
      | false =>
        go_wp2_with fail
        refine bodyPost_ret (v := mdV (twoText true x1 x2) e2 (d2 + 1)) (by simp [results, Tryd.results8, go_sem, bs_app, twoText, q0, q1, q2, q3, m0, m1, m2, m3]; done) rfl ⟨rfl, ?_⟩
        exact below_set3 HB2.out (by omega) (by omega) _ _ _ _
    | false =>
      cases e1 with
      | true =>
        go_wp2_with fail
        refine bodyPost_ret (v := mdV (twoText false x1 x2) e2 (d2 + 1)) (by simp [results, Tryd.results8, go_sem, bs_app, twoText, q0, q1, q2, q3, m0, m1, m2, m3]; done) rfl ⟨rfl, ?_⟩
        exact below_set3 HB2.out (by omega) (by omega) _ _ _ _
      | false =>
        go_wp2_with fail
        refine bodyPost_ret (v := mdV (twoText false x1 x2) false (d2 + 1)) (by simp [results, Tryd.results8, go_sem, bs_app, twoText, q0, q1, q2, q3, m0, m1, m2, m3]; done) rfl ⟨rfl, ?_⟩
        exact below_set3 HB2.out (by omega) (by omega) _ _ _ _
  · obtain rfl : M = d1 + 1 := by omega
    clear hM
    cases ch with
    | true =>
      cases e1 with
      | true =>
        go_wp2_with fail
        refine bodyPost_ret (v := mdV (twoText true x1 x2) true (d1 + 1)) (by simp [results, Tryd.results8, go_sem, bs_app, twoText, q0, q1, q2, q3, m0, m1, m2, m3]; done) rfl ⟨rfl, ?_⟩
        exact below_set3 HB2.out (by omega) (by omega) _ _ _ _
      | false =>
        go_wp2_with fail
        refine bodyPost_ret (v := mdV (twoText true x1 x2) e2 (d1 + 1)) (by simp [results, Tryd.results8, go_sem, bs_app, twoText, q0, q1, q2, q3, m0, m1, m2, m3]; done) rfl ⟨rfl, ?_⟩
        exact below_set3 HB2.out (by omega) (by omega) _ _ _ _
    | false =>
      cases e1 with
      | true =>
        go_wp2_with fail
        refine bodyPost_ret (v := mdV (twoText false x1 x2) e2 (d1 + 1)) (by simp [results, Tryd.results8, go_sem, bs_app, twoText, q0, q1, q2, q3, m0, m1, m2, m3]; done) rfl ⟨rfl, ?_⟩
        exact below_set3 HB2.out (by omega) (by omega) _ _ _ _
      | false =>
        go_wp2_with fail
        refine bodyPost_ret (v := mdV (twoText false x1 x2) false (d1 + 1)) (by simp [results, Tryd.results8, go_sem, bs_app, twoText, q0, q1, q2, q3, m0, m1, m2, m3]; done) rfl ⟨rfl, ?_⟩
        exact below_set3 HB2.out (by omega) (by omega) _ _ _ _
end Go.Proofs.YtgfejacimdmkpaaDoor
