import Derived.Test.YtjmcdklhaieldaaGreatDoorWC
set_option linter.all false
namespace Go.Proofs.YtjmcdklhaieldaaGreatDoor
open Go.RowKit

theorem contains_drop {s : ByteArray} {j : Nat} {c : UInt8} (hj : j < s.size) : (s.data.toList.drop j).contains c = (s[j] == c || (s.data.toList.drop (j + 1)).contains c) := by
  rw [drop_cons s j hj, List.contains_cons]
  congr 1
  exact Bool.eq_iff_iff.2 ⟨fun h => by rw [beq_iff_eq] at h ⊢; exact h.symm, fun h => by rw [beq_iff_eq] at h ⊢; exact h.symm⟩

set_option maxHeartbeats 400000 in
theorem rhas_of (s : ByteArray) (c : UInt8) (r : Bool) (w : World) (hs : s.size ≤ 2000) (hr : s.data.toList.contains c = r) :
    Calls Tryz.prog 115 #[.string s, .int .u8 c.toNat] w fun e w' => e = .returned (.bool r) ∧ w' = w := by
  have HR : Hid ((s.data.toList.drop 0).contains c = r) := show (s.data.toList.drop 0).contains c = r from hr
  clear hr
  go_enter Tryz.func115, Tryz.ntmps115
  go_wp2_with fail
  go_loop [5] (fun i => ∃ j : Nat, j ≤ s.size ∧ i = .int .i64 j ∧ Hid ((s.data.toList.drop j).contains c = r)) (fun i => s.size - (intOf i).toNat)
  case atStart => exact ⟨0, Nat.zero_le _, rfl, HR⟩
  case round =>
    obtain ⟨j, hj, rfl, hH⟩ := hrel
    by_cases hlt : j < s.size
    · by_cases hc : s[j] = c
      · have t : ((s[j].toNat : Int) == (c.toNat : Int)) = true := by rw [hc]; simp
        have h : r = true := by have := hH.out; rw [contains_drop hlt] at this; rw [← this, hc]; simp
        clear hc
        subst h
        go_wp2_with fail
        go_ret
        exact ⟨rfl, rfl⟩
      · have t : ((s[j].toNat : Int) == (c.toNat : Int)) = false := by rw [beq_eq_false_iff_ne]; intro e; apply hc; apply UInt8.toNat_inj.1; omega
        have h : Hid ((s.data.toList.drop (j + 1)).contains c = r) := by show _ = _; have := hH.out; rw [contains_drop hlt, beq_eq_false_iff_ne.2 hc, Bool.false_or] at this; exact this
        clear hc
        go_wp2_with fail
        go_round
        case rel => exact ⟨j + 1, by omega, by go_num, h⟩
        case measure => simp [intOf]; omega
    · have h : r = false := by have := hH.out; rw [drop_end s j (by omega)] at this; simpa using this.symm
      subst h
      go_wp2_with fail
      go_ret
      exact ⟨rfl, rfl⟩

theorem lineN_cons {s : ByteArray} {j : Nat} (hj : j < s.size) (h : s[j] ≠ 10) : Thk.lineN (s.data.toList.drop j) = Thk.lineN (s.data.toList.drop (j + 1)) + 1 := by
  rw [drop_cons s j hj]; simp [Thk.lineN, h]
theorem lineN_stop {s : ByteArray} {j : Nat} (hj : j < s.size) (h : s[j] = 10) : Thk.lineN (s.data.toList.drop j) = 0 := by
  rw [drop_cons s j hj]; simp [Thk.lineN, h]
theorem lineN_end {s : ByteArray} {j : Nat} (hj : s.size ≤ j) : Thk.lineN (s.data.toList.drop j) = 0 := by
  rw [drop_end s j hj]; rfl

set_option maxHeartbeats 1000000 in
theorem rblanks_of (s : ByteArray) (k r : Nat) (w : World) (hk : k ≤ s.size) (hs : s.size ≤ 2000) (hr : Hid (k + Thk.blk false (s.data.toList.drop k) = r)) :
    Calls Tryz.prog 114 #[.string s, .int .i64 k] w fun e w' => e = .returned (.int .i64 r) ∧ w' = w := by
  go_enter Tryz.func114, Tryz.ntmps114
  go_wp2_with fail
  go_loop [1] (fun i => ∃ j : Nat, j ≤ s.size ∧ i = .int .i64 j ∧ Hid (j + Thk.blk false (s.data.toList.drop j) = r)) (fun i => s.size - (intOf i).toNat)
  case atStart => exact ⟨k, hk, rfl, hr⟩
  case round =>
    obtain ⟨j, hj, rfl, hH⟩ := hrel
    by_cases hlt : j < s.size
    · by_cases hb : Thk.isBlank s[j] = true
      · have h := blk_blank hlt hb hH
        have hq : ((s[j].toNat : Int) == 32) = true ∨ (((s[j].toNat : Int) == 32) = false ∧ ((s[j].toNat : Int) == 9) = true) ∨ (((s[j].toNat : Int) == 32) = false ∧ ((s[j].toNat : Int) == 9) = false ∧ ((s[j].toNat : Int) == 10) = true) ∨ (((s[j].toNat : Int) == 32) = false ∧ ((s[j].toNat : Int) == 9) = false ∧ ((s[j].toNat : Int) == 10) = false ∧ ((s[j].toNat : Int) == 13) = true) := by
          simp only [Thk.isBlank, Bool.or_eq_true, beq_iff_eq] at hb
          rcases hb with ((h | h) | h) | h <;> rw [h] <;> decide
        clear hb
        rcases hq with q1 | ⟨q1, q2⟩ | ⟨q1, q2, q3⟩ | ⟨q1, q2, q3, q4⟩
        all_goals
          go_wp2_with fail
          go_round
          case rel => exact ⟨j + 1, by omega, by go_num, h⟩
          case measure => simp [intOf]; omega
      · have hb : Thk.isBlank s[j] = false := by simpa using hb
        have hq : ((s[j].toNat : Int) == 32) = false ∧ ((s[j].toNat : Int) == 9) = false ∧ ((s[j].toNat : Int) == 10) = false ∧ ((s[j].toNat : Int) == 13) = false := by
          simp only [Thk.isBlank, Bool.or_eq_false_iff, beq_eq_false_iff_ne] at hb
          obtain ⟨⟨⟨h1, h2⟩, h3⟩, h4⟩ := hb
          exact ⟨u8_beq_false h1 32 rfl, u8_beq_false h2 9 rfl, u8_beq_false h3 10 rfl, u8_beq_false h4 13 rfl⟩
        obtain ⟨q1, q2, q3, q4⟩ := hq
        by_cases hc : s[j] = 35
        · have q5 := u8_beq_true hc 35 rfl
          have h := blk_comment hlt hc hH
          obtain ⟨h1, h2, h3⟩ := h
          obtain ⟨L, hL⟩ : ∃ L, L = Thk.lineN (s.data.toList.drop j) := ⟨_, rfl⟩
          rw [← hL] at h1 h2 h3
          have HL : Hid (j + L = j + Thk.lineN (s.data.toList.drop j)) := by rw [hL]; rfl
          clear hL hc hb
          go_wp2_with fail
          go_loop [1] (fun i => ∃ m : Nat, j ≤ m ∧ m ≤ j + L ∧ i = .int .i64 m ∧ Hid (j + L = m + Thk.lineN (s.data.toList.drop m))) (fun i => s.size - (intOf i).toNat)
          case atStart => exact ⟨j, Nat.le_refl _, by omega, rfl, HL⟩
          case round =>
            obtain ⟨m, hm0, hm, rfl, hM⟩ := hrel
            by_cases hltm : m < s.size
            · by_cases hn : s[m] = 10
              · have t : ((s[m].toNat : Int) != 10) = false := by rw [hn]; rfl
                have e : m = j + L := by have := hM.out; rw [lineN_stop hltm hn] at this; omega
                have HE : Hid (m = j + L) := e
                clear hn e
                go_wp2_with fail
                go_round
                case rel => exact ⟨j + L, h1, by rw [HE.out], h3⟩
                case measure => have := HE.out; simp [intOf]; omega
              · have t : ((s[m].toNat : Int) != 10) = true := by rw [bne_iff_ne]; intro e; apply hn; apply UInt8.toNat_inj.1; rw [show (10 : UInt8).toNat = 10 from rfl]; omega
                have e : Hid (j + L = (m + 1) + Thk.lineN (s.data.toList.drop (m + 1))) := by have := hM.out; rw [lineN_cons hltm hn] at this; show _ = _; omega
                clear hn
                go_wp2_with fail
                go_round
                case rel => exact ⟨m + 1, by omega, by have := e.out; omega, by go_num, e⟩
                case measure => simp [intOf]; omega
            · have e : m = j + L := by have := hM.out; rw [lineN_end (by omega)] at this; omega
              have HE : Hid (m = j + L) := e
              clear e
              go_wp2_with fail
              go_round
              case rel => exact ⟨j + L, h1, by rw [HE.out], h3⟩
              case measure => have := HE.out; simp [intOf]; omega
        · have q5 := u8_beq_false hc 35 rfl
          have h := blk_none hlt hb hc hH
          clear hc hb
          subst h
          go_wp2_with fail
          go_ret
          exact ⟨rfl, rfl⟩
    · have h : j = r := by have := hH.out; rw [drop_end s j (by omega)] at this; simpa [Thk.blk] using this
      subst h
      go_wp2_with fail
      go_ret
      exact ⟨rfl, rfl⟩
end Go.Proofs.YtjmcdklhaieldaaGreatDoor
namespace Go.Proofs.YtjmcdklhaieldaaGreatDoor
open Go.RowKit

set_option maxHeartbeats 1000000 in
theorem rchar_any (s mk es : ByteArray) (k : Nat) (w : World) (hk : k ≤ s.size) (hs : s.size ≤ 2000) (he : es.data.toList = 110 :: 116 :: 92 :: mk.data.toList) (hm : mk.size ≤ 10) (hes : es.size ≤ 20) :
    Calls Tryz.prog 145 #[.string s, .int .i64 k, .string mk, .string es] w fun e w' => e = .returned (chv (Thk.charL mk.data.toList (s.data.toList.drop k))) ∧ w' = w := by
  by_cases hlt : k < s.size
  · rw [drop_cons s k hlt]
    simp only [Thk.charL]
    by_cases h1 : s[k] = 92
    · rw [if_pos h1]
      have t0 : ((s[k].toNat : Int) == 10) = false := by rw [h1]; rfl
      have t1 : ((s[k].toNat : Int) != 92) = false := by rw [h1]; rfl
      clear h1
      by_cases hlt2 : k + 1 < s.size
      · rw [drop_cons s (k + 1) hlt2]
        simp only [Thk.escL]
        have hcon : es.data.toList.contains s[k + 1] = (s[k + 1] == 110 || (s[k + 1] == 116 || (s[k + 1] == 92 || mk.data.toList.contains s[k + 1]))) := by rw [he]; simp only [List.contains_cons]
        by_cases h2 : s[k + 1] = 110
        · rw [if_pos h2]
          have t2 := u8_beq_true h2 110 rfl
          have hc := fun w => rhas_of es s[k + 1] true w (by omega) (by rw [hcon, h2]; simp)
          clear h2 hcon
          go_enter Tryz.func145, Tryz.ntmps145
          go_wp2_with (go_at_call 115; refine (hc _).mono ?_; rintro e w' ⟨rfl, rfl⟩)
          go_ret2
          exact ⟨rfl, rfl⟩
        · rw [if_neg h2]
          have t2 := u8_beq_false h2 110 rfl
          by_cases h3 : s[k + 1] = 116
          · rw [if_pos h3]
            have t3 := u8_beq_true h3 116 rfl
            have hc := fun w => rhas_of es s[k + 1] true w (by omega) (by rw [hcon, h3]; simp)
            clear h2 h3 hcon
            go_enter Tryz.func145, Tryz.ntmps145
            go_wp2_with (go_at_call 115; refine (hc _).mono ?_; rintro e w' ⟨rfl, rfl⟩)
            go_ret2
            exact ⟨rfl, rfl⟩
          · rw [if_neg h3]
            have t3 := u8_beq_false h3 116 rfl
            have hcon' : es.data.toList.contains s[k + 1] = (s[k + 1] == 92 || mk.data.toList.contains s[k + 1]) := by rw [hcon, beq_eq_false_iff_ne.2 h2, beq_eq_false_iff_ne.2 h3, Bool.false_or, Bool.false_or]
            obtain ⟨r, hr⟩ : ∃ r, r = (s[k + 1] == 92 || mk.data.toList.contains s[k + 1]) := ⟨_, rfl⟩
            have hc := fun w => rhas_of es s[k + 1] r w (by omega) (by rw [hcon', hr])
            have hif : (s[k + 1] = 92 || mk.data.toList.contains s[k + 1]) = r := by rw [hr]; congr 1
            clear h2 h3 hcon hcon' hr
            rw [hif]
            clear hif
            cases r with
            | true =>
              rw [if_pos rfl]
              go_enter Tryz.func145, Tryz.ntmps145
              go_wp2_with (go_at_call 115; refine (hc _).mono ?_; rintro e w' ⟨rfl, rfl⟩)
              go_ret2
              exact ⟨rfl, rfl⟩
            | false =>
              rw [if_neg (by simp)]
              go_enter Tryz.func145, Tryz.ntmps145
              go_wp2_with (go_at_call 115; refine (hc _).mono ?_; rintro e w' ⟨rfl, rfl⟩)
              go_ret2
              exact ⟨rfl, rfl⟩
      · rw [drop_end s (k + 1) (by omega)]
        go_enter Tryz.func145, Tryz.ntmps145
        go_wp2_with fail
        go_ret2
        exact ⟨rfl, rfl⟩
    · rw [if_neg h1]
      have t1 : ((s[k].toNat : Int) != 92) = true := by rw [bne_iff_ne]; intro e; apply h1; apply UInt8.toNat_inj.1; rw [show (92 : UInt8).toNat = 92 from rfl]; omega
      clear h1
      by_cases h2 : s[k] = 10
      · have t2 := u8_beq_true h2 10 rfl
        rw [if_pos (by rw [h2]; simp)]
        clear h2
        go_enter Tryz.func145, Tryz.ntmps145
        go_wp2_with fail
        go_ret2
        exact ⟨rfl, rfl⟩
      · have t2 := u8_beq_false h2 10 rfl
        obtain ⟨r, hr⟩ : ∃ r, r = mk.data.toList.contains s[k] := ⟨_, rfl⟩
        have hc := fun w => rhas_of mk s[k] r w (by omega) hr.symm
        have hif : (decide (s[k] = 10) || mk.data.toList.contains s[k]) = r := by rw [hr]; simp [h2]
        rw [hif]
        clear hif hr h2
        cases r with
        | true =>
          rw [if_pos rfl]
          go_enter Tryz.func145, Tryz.ntmps145
          go_wp2_with (go_at_call 115; refine (hc _).mono ?_; rintro e w' ⟨rfl, rfl⟩)
          go_ret2
          exact ⟨rfl, rfl⟩
        | false =>
          rw [if_neg (by simp)]
          go_enter Tryz.func145, Tryz.ntmps145
          go_wp2_with (go_at_call 115; refine (hc _).mono ?_; rintro e w' ⟨rfl, rfl⟩)
          go_ret2
          exact ⟨rfl, rfl⟩
  · rw [drop_end s k (by omega)]
    go_enter Tryz.func145, Tryz.ntmps145
    go_wp2_with fail
    go_ret2
    exact ⟨rfl, rfl⟩

theorem rchar_of (s mk es : ByteArray) (k : Nat) (w : World) (hk : k ≤ s.size) (hs : s.size ≤ 2000) (he : es.data.toList = 110 :: 116 :: 92 :: mk.data.toList) (hm : mk.size ≤ 10) (hes : es.size ≤ 20) {o : Option (UInt8 × Nat)} (h : Thk.charL mk.data.toList (s.data.toList.drop k) = o) :
    Calls Tryz.prog 145 #[.string s, .int .i64 k, .string mk, .string es] w fun e w' => e = .returned (chv o) ∧ w' = w := h ▸ rchar_any s mk es k w hk hs he hm hes
end Go.Proofs.YtjmcdklhaieldaaGreatDoor
