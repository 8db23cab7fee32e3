import Derived.Test.YtgfejacimdmkpaaDoorL3
set_option linter.all false
namespace Go.Proofs.YtgfejacimdmkpaaDoor
open Go.RowKit

/-- A sign behind or ahead of brackets. -/
def SgPost (t : List UInt8) (e : Bool) (b : List UInt8) (t' : List UInt8) (e' : Bool) : Prop :=
  (∃ k : UInt8, (k = 63 ∨ k = 42 ∨ k = 43) ∧ t' = brk b t ++ [k] ∧ e' = (k != 43) ∧ (e = true → k = 63)) ∨ (∃ k : UInt8, (k = 38 ∨ k = 33) ∧ t' = k :: brk b t ∧ e' = true)

def SgEnd (w : World) (t : List UInt8) (e : Bool) (d : Nat) (b : List UInt8) (en : Ending) (w' : World) : Prop :=
  ∃ t' e', en = .returned (mdV t' e' (d + 1)) ∧ SgPost t e b t' e' ∧ Below w.heap.size w w'

set_option maxHeartbeats 1000000 in
set_option maxRecDepth 100000 in
theorem signed_any (t : List UInt8) (e : Bool) (d : Nat) (sign style : Int) (w : World) (hg : i64 sign) (hs : i64 style) (ht : t.length ≤ 100000) (hd : d ≤ 1000) :
    Calls Tryd.prog 9 #[mdV t e d, .int .i64 sign, .int .i64 style] w fun e' w' => SgEnd w t e d (blankOf style) e' w' := by
  have h1 := fun w => brackets_brk t e d style w hs ht hd
  have hp := fun w => pick_any sign 5 w hg (by decide) (by decide)
  have h5 := pickN_lt sign (n := 5) (by decide)
  have l1 := blanksK_len (blankOf_mem style)
  have hL := brk_len (blankOf style) t
  have z1 : (brk (blankOf style) t).length ≤ 200000 := by omega
  obtain ⟨x1, hx⟩ : ∃ x, x = brk (blankOf style) t := ⟨_, rfl⟩
  rw [← hx] at h1 z1
  have HX : Hid (x1 = brk (blankOf style) t) := hx
  have y1 := bs_size x1
  clear l1 hL hs hg hx
  go_enter Tryd.func9, Tryd.ntmps9
  go_wp2_with fail
  refine (h1 _).mono ?_
  rintro _ w1 ⟨rfl, hb1⟩
  have hz := hb1.size
  simp at hz
  have A0 : w1.heap[w.heap.size]? = some (mdO t e d) := by
    rw [hb1.block _ (by simp; omega), heap_alloc_old _ _ (by simp)]; exact heap_alloc_same _ _
  have A1 : w1.heap[w.heap.size + 1]? = some (mdO [] false 0) := by
    rw [hb1.block _ (by simp)]; exact hal_at _ _ _ (by simp)
  have HB1 : Hid (Below w.heap.size w w1) := ((below_alloc w _).alloc (by simp) _).trans (hb1.mono (by simp; omega))
  have q0 := cell_of_block A0
  have q1 := cell_of_block A1
  have g1 := frozen_of_block A1
  have n0 : w.heap.size < w1.heap.size := by omega
  have n1 : w.heap.size + 1 < w1.heap.size := by omega
  have hk : pickN sign 5 = 0 ∨ pickN sign 5 = 1 ∨ pickN sign 5 = 2 ∨ pickN sign 5 = 3 ∨ pickN sign 5 = 4 := by omega
  clear hb1 A0 A1 hz h1 h5
  rcases hk with hk | hk | hk | hk | hk
  · rw [hk] at hp
    clear hk
    cases e with
    | true =>
      go_wp2_with (first | (go_at_call 6; refine (hp _).mono ?_; rintro _ _ ⟨rfl, rfl⟩))
      refine bodyPost_ret (v := mdV (x1 ++ [63]) true (d + 1)) (by simp [results, Tryd.results9, go_sem, bs_app, q0, q1, n0, n1]; done) rfl ⟨x1 ++ [63], true, rfl, .inl ⟨63, .inl rfl, by rw [HX.out], rfl, fun _ => rfl⟩, below_set3 HB1.out (by omega) (by omega) _ _ _ _⟩
    | false =>
      go_wp2_with (first | (go_at_call 6; refine (hp _).mono ?_; rintro _ _ ⟨rfl, rfl⟩))
      refine bodyPost_ret (v := mdV (x1 ++ [63]) true (d + 1)) (by simp [results, Tryd.results9, go_sem, bs_app, q0, q1, n0, n1]; done) rfl ⟨x1 ++ [63], true, rfl, .inl ⟨63, .inl rfl, by rw [HX.out], rfl, fun _ => rfl⟩, below_set3 HB1.out (by omega) (by omega) _ _ _ _⟩
  · rw [hk] at hp
    clear hk
    cases e with
    | true =>
      go_wp2_with (first | (go_at_call 6; refine (hp _).mono ?_; rintro _ _ ⟨rfl, rfl⟩))
      refine bodyPost_ret (v := mdV (x1 ++ [63]) true (d + 1)) (by simp [results, Tryd.results9, go_sem, bs_app, q0, q1, n0, n1]; done) rfl ⟨x1 ++ [63], true, rfl, .inl ⟨63, .inl rfl, by rw [HX.out], rfl, fun _ => rfl⟩, below_set3 HB1.out (by omega) (by omega) _ _ _ _⟩
    | false =>
      go_wp2_with (first | (go_at_call 6; refine (hp _).mono ?_; rintro _ _ ⟨rfl, rfl⟩))
      refine bodyPost_ret (v := mdV (x1 ++ [42]) true (d + 1)) (by simp [results, Tryd.results9, go_sem, bs_app, q0, q1, n0, n1]; done) rfl ⟨x1 ++ [42], true, rfl, .inl ⟨42, .inr (.inl rfl), by rw [HX.out], rfl, fun h => by cases h⟩, below_set3 HB1.out (by omega) (by omega) _ _ _ _⟩
  · rw [hk] at hp
    clear hk
    cases e with
    | true =>
      go_wp2_with (first | (go_at_call 6; refine (hp _).mono ?_; rintro _ _ ⟨rfl, rfl⟩))
      refine bodyPost_ret (v := mdV (x1 ++ [63]) true (d + 1)) (by simp [results, Tryd.results9, go_sem, bs_app, q0, q1, n0, n1]; done) rfl ⟨x1 ++ [63], true, rfl, .inl ⟨63, .inl rfl, by rw [HX.out], rfl, fun _ => rfl⟩, below_set3 HB1.out (by omega) (by omega) _ _ _ _⟩
    | false =>
      go_wp2_with (first | (go_at_call 6; refine (hp _).mono ?_; rintro _ _ ⟨rfl, rfl⟩))
      refine bodyPost_ret (v := mdV (x1 ++ [43]) false (d + 1)) (by simp [results, Tryd.results9, go_sem, bs_app, q0, q1, n0, n1]; done) rfl ⟨x1 ++ [43], false, rfl, .inl ⟨43, .inr (.inr rfl), by rw [HX.out], rfl, fun h => by cases h⟩, below_set3 HB1.out (by omega) (by omega) _ _ _ _⟩
  · rw [hk] at hp
    clear hk
    cases e with
    | true =>
      go_wp2_with (first | (go_at_call 6; refine (hp _).mono ?_; rintro _ _ ⟨rfl, rfl⟩))
      refine bodyPost_ret (v := mdV (38 :: x1) true (d + 1)) (by simp [results, Tryd.results9, go_sem, bs_app, q0, q1, n0, n1]; done) rfl ⟨38 :: x1, true, rfl, .inr ⟨38, .inl rfl, by rw [HX.out], rfl⟩, below_set3 HB1.out (by omega) (by omega) _ _ _ _⟩
    | false =>
      go_wp2_with (first | (go_at_call 6; refine (hp _).mono ?_; rintro _ _ ⟨rfl, rfl⟩))
      refine bodyPost_ret (v := mdV (38 :: x1) true (d + 1)) (by simp [results, Tryd.results9, go_sem, bs_app, q0, q1, n0, n1]; done) rfl ⟨38 :: x1, true, rfl, .inr ⟨38, .inl rfl, by rw [HX.out], rfl⟩, below_set3 HB1.out (by omega) (by omega) _ _ _ _⟩
  · rw [hk] at hp
    clear hk
    cases e with
    | true =>
      go_wp2_with (first | (go_at_call 6; refine (hp _).mono ?_; rintro _ _ ⟨rfl, rfl⟩))
      refine bodyPost_ret (v := mdV (33 :: x1) true (d + 1)) (by simp [results, Tryd.results9, go_sem, bs_app, q0, q1, n0, n1]; done) rfl ⟨33 :: x1, true, rfl, .inr ⟨33, .inr rfl, by rw [HX.out], rfl⟩, below_set3 HB1.out (by omega) (by omega) _ _ _ _⟩
    | false =>
      go_wp2_with (first | (go_at_call 6; refine (hp _).mono ?_; rintro _ _ ⟨rfl, rfl⟩))
      refine bodyPost_ret (v := mdV (33 :: x1) true (d + 1)) (by simp [results, Tryd.results9, go_sem, bs_app, q0, q1, n0, n1]; done) rfl ⟨33 :: x1, true, rfl, .inr ⟨33, .inr rfl, by rw [HX.out], rfl⟩, below_set3 HB1.out (by omega) (by omega) _ _ _ _⟩
end Go.Proofs.YtgfejacimdmkpaaDoor
