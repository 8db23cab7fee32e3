import Derived.Test.YtgfejacimdmkpaaDoorW5
set_option linter.all false
namespace Go.Proofs.YtgfejacimdmkpaaDoor
open Go.RowKit

def spv : Option (Thk.Span × Nat) → Value
  | none => .tuple #[.agg #[.int .u8 0, .int .u8 0], .int .i64 0]
  | some (p, n) => .tuple #[.agg #[.int .u8 p.1.toNat, .int .u8 p.2.toNat], .int .i64 n]

theorem below_alloc (w : World) (o : Obj) : Below w.heap.size w (w.alloc o) := (Below.refl _ _).alloc (Nat.le_refl _) _

set_option maxHeartbeats 1000000 in
set_option maxRecDepth 100000 in
theorem spanAt_any (s : ByteArray) (k : Nat) (w : World) (hs : s.size ≤ 2000) (hk : k ≤ s.size) :
    Calls Tryd.prog 61 #[.string s, .int .i64 k] w fun e w' => e = .returned (spv (Thk.spanL (s.data.toList.drop k))) ∧ Below w.heap.size w w' := by
  unfold Thk.spanL
  cases hc : Thk.charL [93, 45] (s.data.toList.drop k) with
  | none =>
    have hcall := fun w => charAt_of s ⟨#[93, 45]⟩ k w hk hs hc
    rw [chv_none] at hcall
    clear hc
    go_enter Tryd.func61, Tryd.ntmps61
    go_wp2_with (go_at_call 59; refine (hcall _).mono ?_; rintro e w' ⟨rfl, rfl⟩)
    refine bodyPost_ret (v := spv none) (by simp [results, Tryd.results61, go_sem, spv]) rfl ⟨rfl, below_alloc _ _⟩
  | some p =>
    obtain ⟨lo, n⟩ := p
    have hcall := fun w => charAt_of s ⟨#[93, 45]⟩ k w hk hs hc
    rw [chv_some] at hcall
    have hle := charL_le hc
    rw [List.length_drop, show s.data.toList.length = s.size from rfl] at hle
    obtain ⟨hn1, hn2⟩ := hle
    have ht : ((n : Int) == 0) = false := beq_eq_false_iff_ne.2 (by omega)
    clear hc
    simp only []
    by_cases h1 : k + n < s.size
    · rw [getElem?_drop' s k n h1]
      have t1 : ((k : Int) + n == s.size) = false := beq_eq_false_iff_ne.2 (by omega)
      by_cases h2 : s[k + n] = 45
      · rw [if_pos (by rw [h2])]
        have t2 : ((s[k + n].toNat : Int) != 45) = false := by rw [h2]; rfl
        clear h2
        rw [List.drop_drop]
        cases hc : Thk.charL [93, 45] (s.data.toList.drop (k + (n + 1))) with
        | none =>
          have hcall2 := fun w => charAt_of s ⟨#[93, 45]⟩ (k + (n + 1)) w (by omega) hs hc
          rw [chv_none] at hcall2
          simp only [show ((k + (n + 1) : Nat) : Int) = (k : Int) + n + 1 from by omega] at hcall2
          clear hc
          go_enter Tryd.func61, Tryd.ntmps61
          go_wp2_with fail
          refine (hcall _).mono ?_
          rintro e w' ⟨rfl, rfl⟩
          go_wp2_with fail
          refine (hcall2 _).mono ?_
          rintro e w' ⟨rfl, rfl⟩
          go_wp2_with fail
          refine bodyPost_ret (v := spv none) (by simp [results, Tryd.results61, go_sem, spv]) rfl ⟨rfl, below_alloc _ _⟩
        | some p =>
          obtain ⟨hi, m⟩ := p
          have hcall2 := fun w => charAt_of s ⟨#[93, 45]⟩ (k + (n + 1)) w (by omega) hs hc
          rw [chv_some] at hcall2
          have hle := charL_le hc
          rw [List.length_drop, show s.data.toList.length = s.size from rfl] at hle
          obtain ⟨hm1, hm2⟩ := hle
          simp only [show ((k + (n + 1) : Nat) : Int) = (k : Int) + n + 1 from by omega] at hcall2
          clear hc
          have t3 : ((m : Int) == 0) = false := beq_eq_false_iff_ne.2 (by omega)
          simp only []
          by_cases h4 : lo ≤ hi
          · rw [if_pos h4]
            have t4 : (lo.toNat : Int) ≤ hi.toNat := by rw [UInt8.le_iff_toNat_le] at h4; omega
            clear h4
            go_enter Tryd.func61, Tryd.ntmps61
            go_wp2_with fail
            refine (hcall _).mono ?_
            rintro e w' ⟨rfl, rfl⟩
            go_wp2_with fail
            refine (hcall2 _).mono ?_
            rintro e w' ⟨rfl, rfl⟩
            go_wp2_with fail
            refine bodyPost_ret (v := spv (some ((lo, hi), n + 1 + m))) (by simp [results, Tryd.results61, go_sem, spv]) rfl ⟨rfl, below_alloc _ _⟩
          · rw [if_neg h4]
            have t4 : ¬ (lo.toNat : Int) ≤ hi.toNat := by rw [UInt8.le_iff_toNat_le] at h4; omega
            clear h4
            go_enter Tryd.func61, Tryd.ntmps61
            go_wp2_with fail
            refine (hcall _).mono ?_
            rintro e w' ⟨rfl, rfl⟩
            go_wp2_with fail
            refine (hcall2 _).mono ?_
            rintro e w' ⟨rfl, rfl⟩
            go_wp2_with fail
            refine bodyPost_ret (v := spv none) (by simp [results, Tryd.results61, go_sem, spv]) rfl ⟨rfl, below_alloc _ _⟩
      · rw [if_neg (by simpa using h2)]
        have t2 : ((s[k + n].toNat : Int) != 45) = true := by rw [bne_iff_ne]; intro e; apply h2; apply UInt8.toNat_inj.1; rw [show (45 : UInt8).toNat = 45 from rfl]; omega
        clear h2
        go_enter Tryd.func61, Tryd.ntmps61
        go_wp2_with (go_at_call 59; refine (hcall _).mono ?_; rintro e w' ⟨rfl, rfl⟩)
        refine bodyPost_ret (v := spv (some ((lo, lo), n))) (by simp [results, Tryd.results61, go_sem, spv]) rfl ⟨rfl, below_alloc _ _⟩
    · rw [getElem?_drop_end s k n (by omega)]
      have t1 : ((k : Int) + n == s.size) = true := beq_iff_eq.2 (by omega)
      rw [if_neg (by simp)]
      go_enter Tryd.func61, Tryd.ntmps61
      go_wp2_with (go_at_call 59; refine (hcall _).mono ?_; rintro e w' ⟨rfl, rfl⟩)
      refine bodyPost_ret (v := spv (some ((lo, lo), n))) (by simp [results, Tryd.results61, go_sem, spv]) rfl ⟨rfl, below_alloc _ _⟩
end Go.Proofs.YtgfejacimdmkpaaDoor
