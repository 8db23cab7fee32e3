import Derived.Test.YtjmcdklhaieldaaGreatDoorWA
set_option linter.all false
namespace Go.Proofs.YtjmcdklhaieldaaGreatDoor
open Go.RowKit

theorem chv_some {c : UInt8} {n : Nat} : chv (some (c, n)) = .tuple #[.int .u8 c.toNat, .int .i64 n] := rfl
theorem chv_none : chv none = .tuple #[.int .u8 0, .int .i64 0] := rfl
theorem charAt_of (s mk : ByteArray) (k : Nat) (w : World) (hk : k ≤ s.size) (hs : s.size ≤ 2000) {o : Option (UInt8 × Nat)} (h : Thk.charL mk.data.toList (s.data.toList.drop k) = o) :
    Calls Tryz.prog 159 #[.string s, .int .i64 k, .string mk] w fun e w' => e = .returned (chv o) ∧ w' = w := h ▸ characterAt_any s mk k w hk hs

theorem conv_nil (w : World) : (convert 113 9 (.slice none 0 0)).run Tryz.prog w = .ok (.string ⟨#[]⟩) w := by kernel_rfl

theorem own_form {w : World} {B : Nat} {e : TypeId} {sz : Nat} {v : Value} {n : Nat} {xs : List Value} (h : w.ownsRow B e sz v n xs) : ∃ a c, v = .slice a n c := by
  rcases h.2 with ⟨rfl, rfl⟩ | ⟨g, cap, cur, rfl, _⟩
  · exact ⟨_, _, rfl⟩
  · exact ⟨_, _, rfl⟩

set_option maxHeartbeats 1000000 in
set_option maxRecDepth 100000 in
theorem literalAt_any (s : ByteArray) (k : Nat) (w : World) (hs : s.size ≤ 2000) (hk : k < s.size) :
    Calls Tryz.prog 135 #[.string s, .int .i64 k] w fun e w' =>
      e = .returned (.tuple #[tokV (Thk.litT (s.data.toList.drop (k + 1))) (.slice none 0 0), .int .i64 (Thk.litT (s.data.toList.drop (k + 1))).size]) ∧ Below w.heap.size w w' := by
  obtain ⟨X, hX⟩ : ∃ X, X = Thk.charsL [39] (s.data.toList.drop (k + 1)) := ⟨_, rfl⟩
  obtain ⟨T, hT⟩ : ∃ T, T = Thk.litT (s.data.toList.drop (k + 1)) := ⟨_, rfl⟩
  obtain ⟨C, hC⟩ : ∃ C, C = Thk.closesL (s.data.toList.drop (k + 1)) X.2 39 X.1.length := ⟨_, rfl⟩
  rw [← hT]
  have HT : Hid (T = if C then ⟨.lit, 0, X.2 + 2, X.1, []⟩ else Thk.badT) := by rw [hC, hX]; exact hT
  have HX : Hid (X = Thk.charsL [39] (s.data.toList.drop (k + 1))) := hX
  have HC : Hid (C = Thk.closesL (s.data.toList.drop (k + 1)) X.2 39 X.1.length) := hC
  clear hX hT hC
  obtain ⟨i0, hi, hz0, hz1, hz2⟩ := info_parts Tryz.infoU8
  go_enter Tryz.func135, Tryz.ntmps135
  go_wp2_with fail
  go_loopw [6, 7] (fun v i wr => ∃ (j : Nat) (xs : List UInt8), i = .int .i64 ↑(k + 1 + j) ∧ LitRel s (k + 1) X (w.heap.size + 1) (w.alloc (.cells #[.int .u8 0, .int .i64 0, .string ⟨#[]⟩, .slice none 0 0] 207)) j xs v wr) (fun _ i _ => s.size - (intOf i).toNat)
  case atStart =>
    refine ⟨0, [], by go_num, by omega, by simp, World.ownsRow_nil _ _ _ _, Below.refl _ _, by simp, ?_⟩
    rw [HX.out]; simp
  case round =>
    obtain ⟨j, xs, rfl, hR⟩ := hrel
    have hR1 := hR.1
    cases hc : Thk.charL [39] (s.data.toList.drop (k + 1 + j)) with
    | some p =>
      obtain ⟨c, n⟩ := p
      have HCC : Hid (Thk.charL [39] (s.data.toList.drop (k + 1 + j)) = some (c, n)) := hc
      have hcall := charAt_of s ⟨#[39]⟩ (k + 1 + j) wr (by omega) hs hc
      rw [chv_some] at hcall
      clear hc
      have hpos := (charL_le HCC.out).1
      have hle := (charL_le HCC.out).2
      rw [List.length_drop, show s.data.toList.length = s.size from rfl] at hle
      have ht : ((n : Int) == 0) = false := beq_eq_false_iff_ne.2 (by omega)
      have hown := hR.2.2.1
      have hxl := hR.2.1
      have hB := hR.2.2.2.2.1
      go_wp2_with (first | (go_at_call 159; refine hcall.mono ?_; rintro e w' ⟨rfl, rfl⟩) | (at_builtin; refine wpList_append_own _ rfl _ _ 113 rfl (w.heap.size + 1) 5 i0 (.int .u8 0) 1 1 Tryz.underlying113 hi hz0 hz1 hz2 rfl (by decide) _ _ _ rfl (hown.alloc _) ⟨w'.heap.size, 0, none⟩ 1 1 [byteV c] rfl rfl ?c1 ?c2 ?c3 ?c4 ?c5 ?_))
      case c1 => exact cell_one_new _ _ _
      case c2 => intro u hu; simp at hu; subst hu; rfl
      case c3 => unfold maxLen; omega
      case c4 => omega
      case c5 => simp; omega
      intro v' w1 hown' hgrow _
      have hN := hR.next HCC.out hown' hgrow
      clear hown' hgrow hown hB hxl hR hcall
      go_wp2
      go_roundw
      case rel => exact ⟨j + n, xs ++ [c], by go_num, hN⟩
      case measure => simp [intOf]; omega
    | none =>
      have hcall := charAt_of s ⟨#[39]⟩ (k + 1 + j) wr (by omega) hs hc
      rw [chv_none] at hcall
      have hD := hR.done hc
      clear hc
      subst hD
      have hown := hR.2.2.1
      have hxl := hR.2.1
      have hB := hR.2.2.2.2.1
      have hBl := hR.2.2.2.1
      have hcl := closes_any s (k + 1) j xs.length 39 wr hs (by omega) hR1
      rw [← HC.out] at hcl
      obtain ⟨a0, cp, hv⟩ := own_form hown
      subst hv
      obtain ⟨hc0, hf0⟩ := bcell (W := w.alloc (.cells #[.int .u8 0, .int .i64 0, .string ⟨#[]⟩, .slice none 0 0] 207)) (w1 := wr) (hBl.mono (by simp))
      have hlt : w.heap.size < wr.heap.size := by omega
      cases hCC : C with
      | true =>
        subst hCC
        simp only [if_true] at HT
        have e1 := HT.out
        subst e1
        clear HT HX
        have hconv : (convert 113 9 (.slice a0 xs.length cp)).run Tryz.prog wr = .ok (.string ⟨xs.toArray⟩) wr := by
          rcases hown.2 with ⟨hv, hn⟩ | ⟨g, cap, cur, hv, _⟩
          · have : xs = [] := List.length_eq_zero_iff.1 hn
            subst this
            simp only [Value.slice.injEq] at hv
            obtain ⟨rfl, _, rfl⟩ := hv
            exact conv_nil _
          · simp only [Value.slice.injEq] at hv
            obtain ⟨rfl, _, rfl⟩ := hv
            refine run_convert_bytes_back wr _ _ 5 _ _ xs Tryz.underlying113 Tryz.underlying5 Tryz.underlying9 ?_
            intro t ht
            exact hown.cells rfl t _ (by simp [byteV, List.getElem?_eq_getElem ht])
        clear hR hown
        go_wp2_with (first | (go_at_call 159; refine hcall.mono ?_; rintro e w' ⟨rfl, rfl⟩) | (go_at_call 160; refine hcl.mono ?_; rintro e w' ⟨rfl, rfl⟩))
        refine bodyPost_ret (v := .tuple #[.agg #[.int .u8 4, .int .i64 0, .string ⟨xs.toArray⟩, .slice none 0 0], .int .i64 (↑k + 1 + ↑j + 1 - ↑k)]) (by simp [results, Tryz.results135, go_sem, hc0, hlt]) rfl ⟨by rw [show ((k : Int) + 1 + j + 1 - k) = ((j + 2 : Nat) : Int) from by omega]; rfl, ?_⟩
        exact ((((((Below.refl _ _).alloc (Nat.le_refl _) _).trans (hBl.mono (by simp))).setCell (Nat.le_refl _) _).setCell (Nat.le_refl _) _).setCell (Nat.le_refl _) _).setCell (Nat.le_refl _) _
      | false =>
        subst hCC
        have e1 := HT.out
        simp at e1
        subst e1
        clear HT HX hown hR
        go_wp2_with (first | (go_at_call 159; refine hcall.mono ?_; rintro e w' ⟨rfl, rfl⟩) | (go_at_call 160; refine hcl.mono ?_; rintro e w' ⟨rfl, rfl⟩) | (go_at_call 138; refine (bad_any _).mono ?_; rintro e w1 ⟨rfl, hb⟩; obtain ⟨hc1, hf1⟩ := bcell hb; have hz := hb.size; simp only [tokV, Thk.badT, kindI]))
        refine bodyPost_ret (v := .tuple #[tokV Thk.badT (.slice none 0 0), .int .i64 0]) (by simp [results, Tryz.results135, go_sem, tokV, kindI, Thk.badT, hc1, hc0, hlt, show w.heap.size < w1.heap.size from by omega]) rfl ⟨rfl, ?_⟩
        exact ((((((((Below.refl _ _).alloc (Nat.le_refl _) _).trans (hBl.mono (by simp))).trans (hb.mono (by omega)))).setCell (Nat.le_refl _) _).setCell (Nat.le_refl _) _).setCell (Nat.le_refl _) _).setCell (Nat.le_refl _) _
end Go.Proofs.YtjmcdklhaieldaaGreatDoor
namespace Go.Proofs.YtjmcdklhaieldaaGreatDoor
open Go.RowKit

def spv : Option (Thk.Span × Nat) → Value
  | none => .tuple #[.agg #[.int .u8 0, .int .u8 0], .int .i64 0]
  | some (p, n) => .tuple #[.agg #[.int .u8 p.1.toNat, .int .u8 p.2.toNat], .int .i64 n]

theorem below_alloc (w : World) (o : Obj) : Below w.heap.size w (w.alloc o) := (Below.refl _ _).alloc (Nat.le_refl _) _

set_option maxHeartbeats 1000000 in
set_option maxRecDepth 100000 in
theorem spanAt_any (s : ByteArray) (k : Nat) (w : World) (hs : s.size ≤ 2000) (hk : k ≤ s.size) :
    Calls Tryz.prog 161 #[.string s, .int .i64 k] w fun e w' => e = .returned (spv (Thk.spanL (s.data.toList.drop k))) ∧ Below w.heap.size w w' := by
  unfold Thk.spanL
  cases hc : Thk.charL [93, 45] (s.data.toList.drop k) with
  | none =>
    have hcall := fun w => charAt_of s ⟨#[93, 45]⟩ k w hk hs hc
    rw [chv_none] at hcall
    clear hc
    go_enter Tryz.func161, Tryz.ntmps161
    go_wp2_with (go_at_call 159; refine (hcall _).mono ?_; rintro e w' ⟨rfl, rfl⟩)
    refine bodyPost_ret (v := spv none) (by simp [results, Tryz.results161, go_sem, spv]) rfl ⟨rfl, below_alloc _ _⟩
  | some p =>
    obtain ⟨lo, n⟩ := p
    have hcall := fun w => charAt_of s ⟨#[93, 45]⟩ k w hk hs hc
    rw [chv_some] at hcall
    have hle := charL_le hc
    rw [List.length_drop, show s.data.toList.length = s.size from rfl] at hle
    obtain ⟨hn1, hn2⟩ := hle
    have ht : ((n : Int) == 0) = false := beq_eq_false_iff_ne.2 (by omega)
    clear hc
    simp only []
    by_cases h1 : k + n < s.size
    · rw [getElem?_drop' s k n h1]
      have t1 : ((k : Int) + n == s.size) = false := beq_eq_false_iff_ne.2 (by omega)
      by_cases h2 : s[k + n] = 45
      · rw [if_pos (by rw [h2])]
        have t2 : ((s[k + n].toNat : Int) != 45) = false := by rw [h2]; rfl
        clear h2
        rw [List.drop_drop]
        cases hc : Thk.charL [93, 45] (s.data.toList.drop (k + (n + 1))) with
        | none =>
          have hcall2 := fun w => charAt_of s ⟨#[93, 45]⟩ (k + (n + 1)) w (by omega) hs hc
          rw [chv_none] at hcall2
          simp only [show ((k + (n + 1) : Nat) : Int) = (k : Int) + n + 1 from by omega] at hcall2
          clear hc
          go_enter Tryz.func161, Tryz.ntmps161
          go_wp2_with fail
          refine (hcall _).mono ?_
          rintro e w' ⟨rfl, rfl⟩
          go_wp2_with fail
          refine (hcall2 _).mono ?_
          rintro e w' ⟨rfl, rfl⟩
          go_wp2_with fail
          refine bodyPost_ret (v := spv none) (by simp [results, Tryz.results161, go_sem, spv]) rfl ⟨rfl, below_alloc _ _⟩
        | some p =>
          obtain ⟨hi, m⟩ := p
          have hcall2 := fun w => charAt_of s ⟨#[93, 45]⟩ (k + (n + 1)) w (by omega) hs hc
          rw [chv_some] at hcall2
          have hle := charL_le hc
          rw [List.length_drop, show s.data.toList.length = s.size from rfl] at hle
          obtain ⟨hm1, hm2⟩ := hle
          simp only [show ((k + (n + 1) : Nat) : Int) = (k : Int) + n + 1 from by omega] at hcall2
          clear hc
          have t3 : ((m : Int) == 0) = false := beq_eq_false_iff_ne.2 (by omega)
          simp only []
          by_cases h4 : lo ≤ hi
          · rw [if_pos h4]
            have t4 : (lo.toNat : Int) ≤ hi.toNat := by rw [UInt8.le_iff_toNat_le] at h4; omega
            clear h4
            go_enter Tryz.func161, Tryz.ntmps161
            go_wp2_with fail
            refine (hcall _).mono ?_
            rintro e w' ⟨rfl, rfl⟩
            go_wp2_with fail
            refine (hcall2 _).mono ?_
            rintro e w' ⟨rfl, rfl⟩
            go_wp2_with fail
            refine bodyPost_ret (v := spv (some ((lo, hi), n + 1 + m))) (by simp [results, Tryz.results161, go_sem, spv]) rfl ⟨rfl, below_alloc _ _⟩
          · rw [if_neg h4]
            have t4 : ¬ (lo.toNat : Int) ≤ hi.toNat := by rw [UInt8.le_iff_toNat_le] at h4; omega
            clear h4
            go_enter Tryz.func161, Tryz.ntmps161
            go_wp2_with fail
            refine (hcall _).mono ?_
            rintro e w' ⟨rfl, rfl⟩
            go_wp2_with fail
            refine (hcall2 _).mono ?_
            rintro e w' ⟨rfl, rfl⟩
            go_wp2_with fail
            refine bodyPost_ret (v := spv none) (by simp [results, Tryz.results161, go_sem, spv]) rfl ⟨rfl, below_alloc _ _⟩
      · rw [if_neg (by simpa using h2)]
        have t2 : ((s[k + n].toNat : Int) != 45) = true := by rw [bne_iff_ne]; intro e; apply h2; apply UInt8.toNat_inj.1; rw [show (45 : UInt8).toNat = 45 from rfl]; omega
        clear h2
        go_enter Tryz.func161, Tryz.ntmps161
        go_wp2_with (go_at_call 159; refine (hcall _).mono ?_; rintro e w' ⟨rfl, rfl⟩)
        refine bodyPost_ret (v := spv (some ((lo, lo), n))) (by simp [results, Tryz.results161, go_sem, spv]) rfl ⟨rfl, below_alloc _ _⟩
    · rw [getElem?_drop_end s k n (by omega)]
      have t1 : ((k : Int) + n == s.size) = true := beq_iff_eq.2 (by omega)
      rw [if_neg (by simp)]
      go_enter Tryz.func161, Tryz.ntmps161
      go_wp2_with (go_at_call 159; refine (hcall _).mono ?_; rintro e w' ⟨rfl, rfl⟩)
      refine bodyPost_ret (v := spv (some ((lo, lo), n))) (by simp [results, Tryz.results161, go_sem, spv]) rfl ⟨rfl, below_alloc _ _⟩
end Go.Proofs.YtjmcdklhaieldaaGreatDoor
