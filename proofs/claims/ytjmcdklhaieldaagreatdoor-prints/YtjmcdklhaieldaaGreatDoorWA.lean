import Derived.Test.YtjmcdklhaieldaaGreatDoorProg
import Derived.Test.YtjmcdklhaieldaaGreatDoorPA
import Derived.WalkKit
import Derived.WalkLawsBesides
import Derived.WalkSpells
import Derived.Lib.Bytealg
import Derived.Maps.AppendAt
set_option linter.all false
namespace Go.Proofs.YtjmcdklhaieldaaGreatDoor
open Go.RowKit

theorem isLet_eq (c : UInt8) : Thk.isLet c = (decide ((97 : Int) ≤ c.toNat) && decide ((c.toNat : Int) ≤ 122)) := by
  unfold Thk.isLet
  rw [Bool.eq_iff_iff]
  simp [UInt8.le_iff_toNat_le]
  omega

theorem isLetter_any (c : UInt8) (w : World) :
    Calls Tryz.prog 132 #[.int .u8 c.toNat] w fun e w' => e = .returned (.bool (Thk.isLet c)) ∧ w' = w := by
  rw [isLet_eq]
  go_enter Tryz.func132, Tryz.ntmps132
  go_wp2
  all_goals go_ret
  · have h : (97 : Int) ≤ c.toNat := by assumption
    exact ⟨by simp [h], rfl⟩
  · have h : ¬ (97 : Int) ≤ c.toNat := by omega
    exact ⟨by simp [h], rfl⟩

theorem indexByte_any (s : ByteArray) (c : Int) (w : World) :
    Calls Tryz.prog 137 #[.string s, .int .u8 c] w fun e w' => e = .returned (.int .i64 (Lib.indexByte s.data.toList c.toNat.toUInt8)) ∧ w' = w := by
  have h6 := @run_callFunc_extern Tryz.prog 173 _ Extern.BytealgIndexByte.indexByte Tryz.func173 (by kernel_rfl) (by kernel_rfl) (by kernel_rfl) (by kernel_rfl)
  have h7 := @Lib.run_indexByteString Tryz.prog
  go_enter Tryz.func137, Tryz.ntmps137
  go_wp2
  go_ret
  exact ⟨rfl, rfl⟩

theorem indexByte_of (s : ByteArray) (c : Int) (w : World) (j : Int) (h : Lib.indexByte s.data.toList c.toNat.toUInt8 = j) :
    Calls Tryz.prog 137 #[.string s, .int .u8 c] w fun e w' => e = .returned (.int .i64 j) ∧ w' = w := h ▸ indexByte_any s c w

theorem indexByte_line (l : List UInt8) : (Lib.indexByte l 10 = -1 ∧ Thk.lineN l = l.length) ∨ (Lib.indexByte l 10 = Thk.lineN l ∧ Thk.lineN l < l.length) := by
  induction l with
  | nil => left; simp [Lib.indexByte, Thk.lineN]
  | cons b l ih =>
    by_cases hb : b = 10
    · right; simp [Lib.indexByte, Thk.lineN, hb]
    · rcases ih with ⟨h1, h2⟩ | ⟨h1, h2⟩
      · left; simp [Lib.indexByte, Thk.lineN, hb, h1, h2]
      · right
        have : ¬ ((Thk.lineN l : Int) = -1) := by omega
        simp [Lib.indexByte, Thk.lineN, hb, h1, h2, this]

theorem extract_drop (s : ByteArray) (k : Nat) : (s.extract k s.size).data.toList = s.data.toList.drop k := by
  rw [ByteArray.data_extract, Array.toList_extract, List.extract_eq_take_drop]
  exact List.take_of_length_le (by rw [List.length_drop]; exact Nat.le_refl _)

theorem lineEnd_any (s : ByteArray) (k : Nat) (w : World) (hk : k ≤ s.size) (hs : s.size ≤ 2000) :
    Calls Tryz.prog 131 #[.string s, .int .i64 k] w fun e w' => e = .returned (.int .i64 ↑(k + Thk.lineN (s.data.toList.drop k))) ∧ w' = w := by
  have hx := extract_drop s k
  have hl : (s.data.toList.drop k).length = s.size - k := List.length_drop
  rcases indexByte_line (s.data.toList.drop k) with ⟨h1, h2⟩ | ⟨h1, h2⟩
  · rw [hl] at h2
    have hc := indexByte_of (s.extract k s.size) 10 w (-1) (by rw [hx]; exact h1)
    have he : ((k + Thk.lineN (s.data.toList.drop k) : Nat) : Int) = s.size := by omega
    rw [he]
    clear hx hl h1 h2 he
    go_enter Tryz.func131, Tryz.ntmps131
    go_wp2_with (go_at_call 137; refine hc.mono ?_; rintro e w' ⟨rfl, rfl⟩)
    go_ret
    exact ⟨rfl, rfl⟩
  · rw [hl] at h2
    generalize Thk.lineN (s.data.toList.drop k) = n at *
    have hc := indexByte_of (s.extract k s.size) 10 w n (by rw [hx]; exact h1)
    clear hx hl h1
    go_enter Tryz.func131, Tryz.ntmps131
    go_wp2_with (go_at_call 137; refine hc.mono ?_; rintro e w' ⟨rfl, rfl⟩)
    go_ret
    exact ⟨by simp, rfl⟩

theorem drop_cons (s : ByteArray) (k : Nat) (h : k < s.size) : s.data.toList.drop k = s[k] :: s.data.toList.drop (k + 1) := by
  have hl : k < s.data.toList.length := h
  rw [List.drop_eq_getElem_cons hl]
  rfl

theorem drop_end (s : ByteArray) (k : Nat) (h : s.size ≤ k) : s.data.toList.drop k = [] := List.drop_of_length_le h

theorem blk_line (l : List UInt8) : Thk.blk true l = Thk.lineN l + Thk.blk false (l.drop (Thk.lineN l)) := by
  induction l with
  | nil => simp [Thk.blk, Thk.lineN]
  | cons c t ih =>
    by_cases hc : c = 10
    · simp [Thk.blk, Thk.lineN, hc, Thk.isBlank]
    · simp [Thk.blk, Thk.lineN, hc, ih]; omega

theorem lineN_le (l : List UInt8) : Thk.lineN l ≤ l.length := by
  induction l with
  | nil => simp [Thk.lineN]
  | cons c t ih => simp only [Thk.lineN, List.length_cons]; split <;> omega

theorem blk_le (b : Bool) (l : List UInt8) : Thk.blk b l ≤ l.length := by
  induction l generalizing b with
  | nil => cases b <;> simp [Thk.blk]
  | cons c t ih =>
    cases b <;> simp only [Thk.blk, List.length_cons]
    · have h1 := ih false; have h2 := ih true
      split
      · omega
      · split <;> omega
    · have h1 := ih false; have h2 := ih true
      split <;> omega

theorem u8_eq (c : UInt8) (n : Nat) (hn : n < 256) : ((c.toNat : Int) == (n : Int)) = (c == UInt8.ofNat n) := by
  rw [Bool.eq_iff_iff]
  simp only [beq_iff_eq]
  constructor
  · intro h; apply UInt8.toNat_inj.1; simp; omega
  · intro h; subst h; simp; omega

theorem u8_true {c : UInt8} {n : Int} (h : ((c.toNat : Int) == n) = true) : c = UInt8.ofNat n.toNat := by
  have h := beq_iff_eq.1 h
  apply UInt8.toNat_inj.1
  have := c.toNat_lt
  rw [← h]
  simp

theorem u8_false {c : UInt8} {n : Int} (m : UInt8) (hm : (m.toNat : Int) = n) (h : ((c.toNat : Int) == n) = false) : c ≠ m := by
  intro e; subst e; rw [hm] at h; simp at h

theorem blk_blank {s : ByteArray} {j r : Nat} (hj : j < s.size) (hb : Thk.isBlank s[j] = true) (H : Hid (j + Thk.blk false (s.data.toList.drop j) = r)) :
    Hid ((j + 1) + Thk.blk false (s.data.toList.drop (j + 1)) = r) := by
  have H := H.out
  rw [drop_cons s j hj] at H
  simp only [Thk.blk, hb, if_true] at H
  show _ = _
  omega

theorem blk_comment {s : ByteArray} {j r : Nat} (hj : j < s.size) (hb : s[j] = 35) (H : Hid (j + Thk.blk false (s.data.toList.drop j) = r)) :
    j + Thk.lineN (s.data.toList.drop j) ≤ s.size ∧ 0 < Thk.lineN (s.data.toList.drop j) ∧
    Hid ((j + Thk.lineN (s.data.toList.drop j)) + Thk.blk false (s.data.toList.drop (j + Thk.lineN (s.data.toList.drop j))) = r) := by
  have H := H.out
  have hle := lineN_le (s.data.toList.drop j)
  rw [List.length_drop] at hle
  have hlen : s.data.toList.length = s.size := rfl
  rw [drop_cons s j hj] at H hle ⊢
  have e1 : Thk.lineN (s[j] :: s.data.toList.drop (j + 1)) = Thk.lineN (s.data.toList.drop (j + 1)) + 1 := by rw [hb]; simp [Thk.lineN]
  have e2 : Thk.blk false (s[j] :: s.data.toList.drop (j + 1)) = Thk.blk true (s.data.toList.drop (j + 1)) + 1 := by rw [hb]; simp [Thk.blk, Thk.isBlank]
  rw [e1] at hle ⊢
  rw [e2, blk_line, List.drop_drop] at H
  refine ⟨by omega, by omega, ?_⟩
  show _ = _
  rw [show j + (Thk.lineN (s.data.toList.drop (j + 1)) + 1) = (j + 1) + Thk.lineN (s.data.toList.drop (j + 1)) from by omega]
  omega

theorem blk_none {s : ByteArray} {j r : Nat} (hj : j < s.size) (hb : Thk.isBlank s[j] = false) (hc : s[j] ≠ 35) (H : Hid (j + Thk.blk false (s.data.toList.drop j) = r)) : j = r := by
  have H := H.out
  rw [drop_cons s j hj] at H
  simp [Thk.blk, hb, hc] at H
  exact H

theorem blank_false {c : UInt8} (h1 : ((c.toNat : Int) == 32) = false) (h2 : ((c.toNat : Int) == 9) = false) (h3 : ((c.toNat : Int) == 10) = false) (h4 : ((c.toNat : Int) == 13) = false) : Thk.isBlank c = false := by
  simp [Thk.isBlank, u8_false 32 rfl h1, u8_false 9 rfl h2, u8_false 10 rfl h3, u8_false 13 rfl h4]

set_option maxHeartbeats 400000 in
theorem skipBlanks_of (s : ByteArray) (k r : Nat) (w : World) (hk : k ≤ s.size) (hs : s.size ≤ 2000) (hr : Hid (k + Thk.blk false (s.data.toList.drop k) = r)) :
    Calls Tryz.prog 99 #[.string s, .int .i64 k] w fun e w' => e = .returned (.int .i64 r) ∧ w' = w := by
  go_enter Tryz.func99, Tryz.ntmps99
  go_wp2
  go_loop [1] (fun i => ∃ j : Nat, j ≤ s.size ∧ i = .int .i64 j ∧ Hid (j + Thk.blk false (s.data.toList.drop j) = r)) (fun i => s.size - (intOf i).toNat)
  case atStart => exact ⟨k, hk, rfl, hr⟩
  case round =>
    obtain ⟨j, hj, rfl, hH⟩ := hrel
    by_cases hlt : j < s.size
    · go_wp2_with (go_at_call 131; refine (lineEnd_any _ _ _ (by omega) (by omega)).mono ?_; rintro e w' ⟨rfl, rfl⟩)
      · have h := blk_blank hlt (by rw [u8_true ‹((s[j].toNat : Int) == 32) = true›]; rfl) hH
        go_round
        case rel => exact ⟨j + 1, by omega, by go_num, h⟩
        case measure => simp [intOf]; omega
      · have h := blk_blank hlt (by rw [u8_true ‹((s[j].toNat : Int) == 9) = true›]; rfl) hH
        go_round
        case rel => exact ⟨j + 1, by omega, by go_num, h⟩
        case measure => simp [intOf]; omega
      · have h := blk_blank hlt (by rw [u8_true ‹((s[j].toNat : Int) == 10) = true›]; rfl) hH
        go_round
        case rel => exact ⟨j + 1, by omega, by go_num, h⟩
        case measure => simp [intOf]; omega
      · have h := blk_blank hlt (by rw [u8_true ‹((s[j].toNat : Int) == 13) = true›]; rfl) hH
        go_round
        case rel => exact ⟨j + 1, by omega, by go_num, h⟩
        case measure => simp [intOf]; omega
      · have h := blk_comment hlt (u8_true ‹((s[j].toNat : Int) == 35) = true›) hH
        go_round
        case rel => exact ⟨j + Thk.lineN (s.data.toList.drop j), h.1, by go_num, h.2.2⟩
        case measure => simp [intOf]; omega
      · go_ret
        have h := blk_none hlt (blank_false (by assumption) (by assumption) (by assumption) (by assumption)) (u8_false 35 rfl (by assumption)) hH
        exact ⟨by rw [← h]; rfl, rfl⟩
    · have h : j = r := by have := hH.out; rw [drop_end s j (by omega)] at this; simpa [Thk.blk] using this
      have hh : Hid (j = r) := h
      clear h
      go_wp2
      go_ret
      exact ⟨by rw [← hh.out]; rfl, rfl⟩
end Go.Proofs.YtjmcdklhaieldaaGreatDoor
namespace Go.Proofs.YtjmcdklhaieldaaGreatDoor
open Go.RowKit

def chv : Option (UInt8 × Nat) → Value
  | none => .tuple #[.int .u8 0, .int .i64 0]
  | some (c, n) => .tuple #[.int .u8 c.toNat, .int .i64 n]

theorem toU8 (c : UInt8) : (c.toNat : Int).toNat.toUInt8 = c := by simp

theorem indexByte_mem (l : List UInt8) (c : UInt8) : (l.contains c = true ∧ 0 ≤ Lib.indexByte l c) ∨ (l.contains c = false ∧ Lib.indexByte l c = -1) := by
  induction l with
  | nil => right; simp [Lib.indexByte]
  | cons b l ih =>
    by_cases hb : b = c
    · left; simp [Lib.indexByte, hb]
    · have hb' : ¬ c = b := fun h => hb h.symm
      rcases ih with ⟨h1, h2⟩ | ⟨h1, h2⟩
      · left
        have : ¬ Lib.indexByte l c = -1 := by omega
        simp only [List.contains_eq_mem, List.mem_cons, decide_eq_true_eq] at h1 ⊢
        refine ⟨Or.inr h1, ?_⟩
        simp [Lib.indexByte, hb, this]; omega
      · right
        simp only [List.contains_eq_mem, List.mem_cons, decide_eq_false_iff_not] at h1 ⊢
        simp [Lib.indexByte, hb, hb', h1, h2]

theorem indexByte_yes (m : ByteArray) (c : UInt8) (w : World) (h : m.data.toList.contains c = true) :
    Calls Tryz.prog 137 #[.string m, .int .u8 c.toNat] w fun e w' => ∃ j : Int, 0 ≤ j ∧ e = .returned (.int .i64 j) ∧ w' = w := by
  refine (indexByte_any m c.toNat w).mono ?_
  rintro e w' ⟨rfl, rfl⟩
  rw [toU8]
  rcases indexByte_mem m.data.toList c with ⟨_, h2⟩ | ⟨h1, _⟩
  · exact ⟨_, h2, rfl, rfl⟩
  · rw [h] at h1; cases h1

theorem indexByte_no (m : ByteArray) (c : UInt8) (w : World) (h : m.data.toList.contains c = false) :
    Calls Tryz.prog 137 #[.string m, .int .u8 c.toNat] w fun e w' => e = .returned (.int .i64 (-1)) ∧ w' = w := by
  refine (indexByte_any m c.toNat w).mono ?_
  rintro e w' ⟨rfl, rfl⟩
  rw [toU8]
  rcases indexByte_mem m.data.toList c with ⟨h1, _⟩ | ⟨_, h2⟩
  · rw [h] at h1; cases h1
  · exact ⟨by rw [h2], rfl⟩

theorem u8_beq_false {c m : UInt8} (h : c ≠ m) (n : Int) (hn : (m.toNat : Int) = n) : ((c.toNat : Int) == n) = false := by
  rw [beq_eq_false_iff_ne]; intro e; apply h; apply UInt8.toNat_inj.1; omega
theorem u8_beq_true {c m : UInt8} (h : c = m) (n : Int) (hn : (m.toNat : Int) = n) : ((c.toNat : Int) == n) = true := by
  subst h; rw [hn]; simp

set_option maxHeartbeats 1000000 in
theorem escapedAt_any (s mk : ByteArray) (k : Nat) (w : World) (hk : k ≤ s.size) (hs : s.size ≤ 2000) :
    Calls Tryz.prog 172 #[.string s, .int .i64 k, .string mk] w fun e w' => e = .returned (chv (Thk.escL mk.data.toList (s.data.toList.drop k))) ∧ w' = w := by
  by_cases hlt : k < s.size
  · rw [drop_cons s k hlt]
    simp only [Thk.escL]
    by_cases h1 : s[k] = 110
    · have t1 := u8_beq_true h1 110 rfl
      rw [if_pos h1]
      clear h1
      go_enter Tryz.func172, Tryz.ntmps172
      go_wp2
      go_ret2
      exact ⟨rfl, rfl⟩
    rw [if_neg h1]
    have t1 := u8_beq_false h1 110 rfl
    clear h1
    by_cases h2 : s[k] = 116
    · have t2 := u8_beq_true h2 116 rfl
      rw [if_pos h2]
      clear h2
      go_enter Tryz.func172, Tryz.ntmps172
      go_wp2
      go_ret2
      exact ⟨rfl, rfl⟩
    rw [if_neg h2]
    have t2 := u8_beq_false h2 116 rfl
    clear h2
    by_cases h3 : s[k] = 92
    · have t3 := u8_beq_true h3 92 rfl
      rw [if_pos (by simp [h3])]
      clear h3
      go_enter Tryz.func172, Tryz.ntmps172
      go_wp2
      go_ret2
      exact ⟨rfl, rfl⟩
    have t3 := u8_beq_false h3 92 rfl
    by_cases h4 : mk.data.toList.contains s[k] = true
    · rw [if_pos (by simp only [h4, Bool.or_true])]
      clear h3
      have hc := indexByte_yes mk s[k] w h4
      clear h4
      go_enter Tryz.func172, Tryz.ntmps172
      go_wp2_with (go_at_call 137; refine hc.mono ?_; rintro e w' ⟨j, hj, rfl, rfl⟩)
      go_ret2
      exact ⟨rfl, rfl⟩
    · rw [if_neg (by simp only [h3, h4]; simp)]
      clear h3
      have h4 : mk.data.toList.contains s[k] = false := by simpa using h4
      have hc := indexByte_no mk s[k] w h4
      clear h4
      go_enter Tryz.func172, Tryz.ntmps172
      go_wp2_with (go_at_call 137; refine hc.mono ?_; rintro e w' ⟨rfl, rfl⟩)
      go_ret2
      exact ⟨rfl, rfl⟩
  · rw [drop_end s k (by omega)]
    go_enter Tryz.func172, Tryz.ntmps172
    go_wp2
    go_ret2
    exact ⟨rfl, rfl⟩

theorem chv_form (o : Option (UInt8 × Nat)) : ∃ (c : UInt8) (n : Nat), chv o = .tuple #[.int .u8 c.toNat, .int .i64 n] := by
  cases o with
  | none => exact ⟨0, 0, rfl⟩
  | some p => exact ⟨p.1, p.2, rfl⟩

set_option maxHeartbeats 1000000 in
theorem characterAt_any (s mk : ByteArray) (k : Nat) (w : World) (hk : k ≤ s.size) (hs : s.size ≤ 2000) :
    Calls Tryz.prog 159 #[.string s, .int .i64 k, .string mk] w fun e w' => e = .returned (chv (Thk.charL mk.data.toList (s.data.toList.drop k))) ∧ w' = w := by
  by_cases hlt : k < s.size
  · rw [drop_cons s k hlt]
    simp only [Thk.charL]
    by_cases h1 : s[k] = 92
    · have t1 := u8_beq_true h1 92 rfl
      rw [if_pos h1]
      clear h1
      have he := escapedAt_any s mk (k + 1) w (by omega) hs
      obtain ⟨c, n, hcn⟩ := chv_form (Thk.escL mk.data.toList (s.data.toList.drop (k + 1)))
      rw [hcn] at he ⊢
      clear hcn
      go_enter Tryz.func159, Tryz.ntmps159
      go_wp2_with (go_at_call 172; refine he.mono ?_; rintro e w' ⟨rfl, rfl⟩)
      go_ret2
      exact ⟨rfl, rfl⟩
    rw [if_neg h1]
    have t1 := u8_beq_false h1 92 rfl
    clear h1
    by_cases h3 : s[k] = 10
    · have t3 := u8_beq_true h3 10 rfl
      rw [if_pos (by simp [h3])]
      clear h3
      go_enter Tryz.func159, Tryz.ntmps159
      go_wp2
      go_ret2
      exact ⟨rfl, rfl⟩
    have t3 := u8_beq_false h3 10 rfl
    by_cases h4 : mk.data.toList.contains s[k] = true
    · rw [if_pos (by simp only [h4, Bool.or_true])]
      clear h3
      have hc := indexByte_yes mk s[k] w h4
      clear h4
      go_enter Tryz.func159, Tryz.ntmps159
      go_wp2_with (go_at_call 137; refine hc.mono ?_; rintro e w' ⟨j, hj, rfl, rfl⟩)
      go_ret2
      exact ⟨rfl, rfl⟩
    · rw [if_neg (by simp only [h3, h4]; simp)]
      clear h3
      have h4 : mk.data.toList.contains s[k] = false := by simpa using h4
      have hc := indexByte_no mk s[k] w h4
      clear h4
      go_enter Tryz.func159, Tryz.ntmps159
      go_wp2_with (go_at_call 137; refine hc.mono ?_; rintro e w' ⟨rfl, rfl⟩)
      go_ret2
      exact ⟨rfl, rfl⟩
  · rw [drop_end s k (by omega)]
    go_enter Tryz.func159, Tryz.ntmps159
    go_wp2
    go_ret2
    exact ⟨rfl, rfl⟩
end Go.Proofs.YtjmcdklhaieldaaGreatDoor
namespace Go.Proofs.YtjmcdklhaieldaaGreatDoor
open Go.RowKit

def kindI : Thk.TK → Int
  | .fin => 0
  | .bad => 1
  | .name => 2
  | .arrow => 3
  | .lit => 4
  | .cls => 5
  | .sign c => c.toNat

/-- A token's cells: its spans' slice is v. -/
def tokV (t : Thk.Tok) (v : Value) : Value := .agg #[.int .u8 (kindI t.kind), .int .i64 t.place, .string ⟨t.text.toArray⟩, v]

theorem bcell {W w1 : World} (hb : Below W.heap.size W w1) : (∀ b o, b < W.heap.size → w1.cell? ⟨b, o, none⟩ = W.cell? ⟨b, o, none⟩) ∧ (∀ b o, b < W.heap.size → w1.frozen? ⟨b, o, none⟩ = W.frozen? ⟨b, o, none⟩) :=
  ⟨fun b o h => hb.cell (p := ⟨b, o, none⟩) h, fun b o h => hb.frozen (p := ⟨b, o, none⟩) h⟩

set_option maxHeartbeats 400000 in
theorem bad_any (w : World) :
    Calls Tryz.prog 138 #[] w fun e w' => e = .returned (.tuple #[tokV Thk.badT (.slice none 0 0), .int .i64 0]) ∧ Below w.heap.size w w' := by
  go_enter Tryz.func138, Tryz.ntmps138
  go_wp2
  refine bodyPost_ret (v := .tuple #[tokV Thk.badT (.slice none 0 0), .int .i64 0]) (by simp [results, Tryz.results138, go_sem, tokV, kindI, Thk.badT]) rfl ⟨rfl, ?_⟩
  exact (Below.refl _ _).alloc (Nat.le_refl _) _

theorem getElem?_drop' (s : ByteArray) (k n : Nat) (h : k + n < s.size) : (s.data.toList.drop k)[n]? = some s[k + n] := by
  rw [List.getElem?_drop]
  have hl : k + n < s.data.toList.length := h
  rw [List.getElem?_eq_getElem hl]
  rfl
theorem getElem?_drop_end (s : ByteArray) (k n : Nat) (h : s.size ≤ k + n) : (s.data.toList.drop k)[n]? = none := by
  rw [List.getElem?_drop]
  exact List.getElem?_eq_none h

set_option maxHeartbeats 1000000 in
theorem closes_any (s : ByteArray) (k n m : Nat) (mark : UInt8) (w : World) (hs : s.size ≤ 2000) (hm : m ≤ 2000) (hk : k + n ≤ s.size) :
    Calls Tryz.prog 160 #[.string s, .int .i64 ↑(k + n), .int .u8 mark.toNat, .int .i64 m] w fun e w' =>
      e = .returned (.bool (Thk.closesL (s.data.toList.drop k) n mark m)) ∧ w' = w := by
  unfold Thk.closesL
  by_cases h1 : k + n < s.size
  · rw [getElem?_drop' s k n h1]
    generalize k + n = j at *
    by_cases h2 : s[j] = mark
    · have t2 : ((s[j].toNat : Int) == (mark.toNat : Int)) = true := by rw [h2]; simp
      rw [show (some s[j] == some mark) = true from by rw [h2]; simp]
      clear h2
      by_cases h3 : 1 ≤ m
      · rw [decide_eq_true h3]
        go_enter Tryz.func160, Tryz.ntmps160
        go_wp2
        go_ret
        refine ⟨?_, rfl⟩
        simp
        omega
      · rw [decide_eq_false h3]
        go_enter Tryz.func160, Tryz.ntmps160
        go_wp2
        go_ret
        exact ⟨rfl, rfl⟩
    · have t2 : ((s[j].toNat : Int) == (mark.toNat : Int)) = false := by
        rw [beq_eq_false_iff_ne]; intro e; apply h2; apply UInt8.toNat_inj.1; omega
      rw [show (some s[j] == some mark) = false from by simp [h2]]
      clear h2
      go_enter Tryz.func160, Tryz.ntmps160
      go_wp2
      go_ret
      exact ⟨rfl, rfl⟩
  · rw [getElem?_drop_end s k n (by omega)]
    generalize k + n = j at *
    go_enter Tryz.func160, Tryz.ntmps160
    go_wp2
    go_ret
    exact ⟨rfl, rfl⟩

theorem letN_le (l : List UInt8) : Thk.letN l ≤ l.length := by
  induction l with
  | nil => simp [Thk.letN]
  | cons c t ih => simp only [Thk.letN, List.length_cons]; split <;> omega

theorem extract_take (s : ByteArray) (k n : Nat) : s.extract k (k + n) = ⟨((s.data.toList.drop k).take n).toArray⟩ := by
  apply ByteArray.ext
  rw [ByteArray.data_extract]
  apply Array.toList_inj.1
  rw [Array.toList_extract, List.extract_eq_take_drop]
  simp

set_option maxHeartbeats 1000000 in
theorem nameAt_any (s : ByteArray) (k : Nat) (w : World) (hs : s.size ≤ 2000) (hk : k ≤ s.size) :
    Calls Tryz.prog 133 #[.string s, .int .i64 k] w fun e w' =>
      e = .returned (.tuple #[tokV (Thk.nameT (s.data.toList.drop k)) (.slice none 0 0), .int .i64 (Thk.nameT (s.data.toList.drop k)).size]) ∧ Below w.heap.size w w' := by
  have hle := letN_le (s.data.toList.drop k)
  have hx := extract_take s k (Thk.letN (s.data.toList.drop k))
  rw [List.length_drop, show s.data.toList.length = s.size from rfl] at hle
  obtain ⟨N, hN⟩ : ∃ N, N = Thk.letN (s.data.toList.drop k) := ⟨_, rfl⟩
  obtain ⟨T, hT⟩ : ∃ T, T = Thk.nameT (s.data.toList.drop k) := ⟨_, rfl⟩
  rw [← hT]
  have hT1 : 12 < N → T = Thk.badT := by intro h; rw [hT]; unfold Thk.nameT; rw [← hN, if_pos h]
  have hT2 : N ≤ 12 → T = ⟨.name, 0, N, (s.data.toList.drop k).take N, []⟩ := by intro h; rw [hT]; unfold Thk.nameT; rw [← hN, if_neg (by omega)]
  rw [← hN] at hle hx
  have HT1 : Hid (12 < N → T = Thk.badT) := hT1
  have HT2 : Hid (N ≤ 12 → T = ⟨.name, 0, N, (s.data.toList.drop k).take N, []⟩) := hT2
  have HN : Hid (N = Thk.letN (s.data.toList.drop k)) := hN
  have HX : Hid (s.extract k (k + N) = ⟨((s.data.toList.drop k).take N).toArray⟩) := hx
  clear hN hx hT hT1 hT2
  go_enter Tryz.func133, Tryz.ntmps133
  go_wp2
  go_loop [6] (fun i => ∃ j : Nat, j ≤ N ∧ i = .int .i64 j ∧ Hid (N = j + Thk.letN (s.data.toList.drop (k + j)))) (fun i => N - (intOf i).toNat)
  case atStart => exact ⟨0, Nat.zero_le _, rfl, by rw [Nat.zero_add, Nat.add_zero]; exact HN⟩
  case round =>
    obtain ⟨j, hj, rfl, hH⟩ := hrel
    by_cases hc : ∃ hlt : k + j < s.size, Thk.isLet s[k + j] = true
    · obtain ⟨hlt, hc⟩ := hc
      have h1 : j + 1 ≤ N ∧ Hid (N = (j + 1) + Thk.letN (s.data.toList.drop (k + (j + 1)))) := by
          have h := hH.out
          rw [drop_cons s (k + j) hlt] at h
          simp only [Thk.letN, hc, if_true] at h
          exact ⟨by omega, show _ = _ by rw [show k + (j + 1) = k + j + 1 from rfl]; omega⟩
      go_wp2_with (go_at_call 132; refine (isLetter_any _ _).mono ?_; rintro e w' ⟨rfl, rfl⟩; rw [hc])
      go_round
      case rel => exact ⟨j + 1, h1.1, by go_num, h1.2⟩
      case measure => simp [intOf]; omega
    · have h1 : j = N := by
        have h := hH.out
        by_cases hlt : k + j < s.size
        · have hc' : Thk.isLet s[k + j] = false := by
            cases hx : Thk.isLet s[k + j] with
            | false => rfl
            | true => exact absurd ⟨hlt, hx⟩ hc
          rw [drop_cons s (k + j) hlt] at h
          simp [Thk.letN, hc'] at h
          exact h.symm
        · rw [drop_end s (k + j) (by omega)] at h
          simpa [Thk.letN] using h.symm
      have hc' : ∀ hlt : k + j < s.size, Thk.isLet s[k + j] = false := by
        intro hlt
        cases hx : Thk.isLet s[k + j] with
        | false => rfl
        | true => exact absurd ⟨hlt, hx⟩ hc
      clear hc hH
      subst h1
      by_cases h12 : 12 < j
      · have e1 := HT1.out h12
        subst e1
        clear HT1 HT2 HX HN
        by_cases hlt : k + j < s.size
        · have hc' := hc' hlt
          go_wp2_with (first | (go_at_call 132; refine (isLetter_any _ _).mono ?_; rintro e w' ⟨rfl, rfl⟩; rw [hc']) | (go_at_call 138; refine (bad_any _).mono ?_; rintro e w1 ⟨rfl, hb⟩; obtain ⟨hc1, hf1⟩ := bcell hb; have hz : w.heap.size < w1.heap.size := (by have := hb.size; simp at this; omega); simp only [tokV, Thk.badT, kindI]))
          refine bodyPost_ret (v := .tuple #[tokV Thk.badT (.slice none 0 0), .int .i64 0]) (by simp [results, Tryz.results133, go_sem, tokV, kindI, Thk.badT, hc1, hz]) rfl ⟨rfl, ?_⟩
          exact ((((((Below.refl _ _).alloc (Nat.le_refl _) _).trans (hb.mono (by simp))).setCell (Nat.le_refl _) _).setCell (Nat.le_refl _) _).setCell (Nat.le_refl _) _).setCell (Nat.le_refl _) _
        · clear hc'
          go_wp2_with (first | (go_at_call 138; refine (bad_any _).mono ?_; rintro e w1 ⟨rfl, hb⟩; obtain ⟨hc1, hf1⟩ := bcell hb; have hz : w.heap.size < w1.heap.size := (by have := hb.size; simp at this; omega); simp only [tokV, Thk.badT, kindI]))
          refine bodyPost_ret (v := .tuple #[tokV Thk.badT (.slice none 0 0), .int .i64 0]) (by simp [results, Tryz.results133, go_sem, tokV, kindI, Thk.badT, hc1, hz]) rfl ⟨rfl, ?_⟩
          exact ((((((Below.refl _ _).alloc (Nat.le_refl _) _).trans (hb.mono (by simp))).setCell (Nat.le_refl _) _).setCell (Nat.le_refl _) _).setCell (Nat.le_refl _) _).setCell (Nat.le_refl _) _
      · have e1 := HT2.out (by omega)
        subst e1
        have hkj : k + j ≤ s.size := by omega
        by_cases hlt : k + j < s.size
        · have hc' := hc' hlt
          go_wp2_with (first | (go_at_call 132; refine (isLetter_any _ _).mono ?_; rintro e w' ⟨rfl, rfl⟩; rw [hc']))
          refine bodyPost_ret (v := .tuple #[.agg #[.int .u8 2, .int .i64 0, .string (s.extract k (k + j)), .slice none 0 0], .int .i64 j]) (by simp [results, Tryz.results133, go_sem]) rfl ⟨by rw [HX.out]; rfl, ?_⟩
          exact (Below.refl _ _).alloc (Nat.le_refl _) _
        · clear hc'
          go_wp2_with fail
          refine bodyPost_ret (v := .tuple #[.agg #[.int .u8 2, .int .i64 0, .string (s.extract k (k + j)), .slice none 0 0], .int .i64 j]) (by simp [results, Tryz.results133, go_sem]) rfl ⟨by rw [HX.out]; rfl, ?_⟩
          exact (Below.refl _ _).alloc (Nat.le_refl _) _
end Go.Proofs.YtjmcdklhaieldaaGreatDoor
namespace Go.Proofs.YtjmcdklhaieldaaGreatDoor
open Go.RowKit

theorem Tryz.infoU8 : (Tryz.prog.info? 5).map (fun i => (i.zero, i.size, i.bytes)) = some (some (.int .u8 0), 1, 1) := by kernel_rfl

theorem escL_le {m l : List UInt8} {c : UInt8} {n : Nat} (h : Thk.escL m l = some (c, n)) : n = 2 ∧ 1 ≤ l.length := by
  cases l with
  | nil => simp [Thk.escL] at h
  | cons d t =>
    refine ⟨?_, by simp⟩
    simp only [Thk.escL] at h
    split at h
    · simp at h; omega
    · split at h
      · simp at h; omega
      · split at h
        · simp at h; omega
        · cases h

theorem charL_le {m l : List UInt8} {c : UInt8} {n : Nat} (h : Thk.charL m l = some (c, n)) : 1 ≤ n ∧ n ≤ l.length := by
  cases l with
  | nil => simp [Thk.charL] at h
  | cons d t =>
    simp only [Thk.charL] at h
    split at h
    · have := escL_le h; simp; omega
    · split at h
      · cases h
      · simp at h; simp; omega

theorem charsF_more (m : List UInt8) : ∀ (f g : Nat) (l : List UInt8), l.length ≤ f → l.length ≤ g → Thk.charsF m f l = Thk.charsF m g l
  | 0, 0, _, _, _ => rfl
  | 0, g + 1, l, hf, _ => by
    have : l = [] := List.length_eq_zero_iff.1 (by omega)
    subst this; simp [Thk.charsF, Thk.charL]
  | f + 1, 0, l, _, hg => by
    have : l = [] := List.length_eq_zero_iff.1 (by omega)
    subst this; simp [Thk.charsF, Thk.charL]
  | f + 1, g + 1, l, hf, hg => by
    simp only [Thk.charsF]
    cases hc : Thk.charL m l with
    | none => rfl
    | some p =>
      obtain ⟨c, n⟩ := p
      have := charL_le hc
      have hd : (l.drop n).length = l.length - n := List.length_drop
      simp only []
      rw [charsF_more m f g (l.drop n) (by omega) (by omega)]

theorem charsL_none {m l : List UInt8} (h : Thk.charL m l = none) : Thk.charsL m l = ([], 0) := by
  unfold Thk.charsL
  cases hl : l.length with
  | zero => rfl
  | succ f => simp [Thk.charsF, h]

theorem charsL_some {m l : List UInt8} {c : UInt8} {n : Nat} (h : Thk.charL m l = some (c, n)) :
    Thk.charsL m l = (c :: (Thk.charsL m (l.drop n)).1, n + (Thk.charsL m (l.drop n)).2) := by
  have hle := charL_le h
  unfold Thk.charsL
  cases hl : l.length with
  | zero => omega
  | succ f =>
    have hd : (l.drop n).length = l.length - n := List.length_drop
    rw [hd, hl]
    simp only [Thk.charsF, h]
    rw [charsF_more m f (f + 1 - n) (l.drop n) (by omega) (by omega)]

theorem charsL_le (m l : List UInt8) : (Thk.charsL m l).2 ≤ l.length ∧ (Thk.charsL m l).1.length ≤ (Thk.charsL m l).2 := by
  generalize hn : l.length = N
  induction N using Nat.strongRecOn generalizing l with
  | ind N ih =>
    cases hc : Thk.charL m l with
    | none => rw [charsL_none hc]; simp
    | some p =>
      obtain ⟨c, n⟩ := p
      have := charL_le hc
      rw [charsL_some hc]
      have hd : (l.drop n).length = l.length - n := List.length_drop
      have := ih (N - n) (by omega) (l.drop n) (by omega)
      simp
      omega

def byteV (c : UInt8) : Value := .int .u8 c.toNat

/-- What the loop of literalAt keeps. -/
def LitRel (s : ByteArray) (k0 : Nat) (X : Thk.Bytes × Nat) (B : Nat) (w0 : World) (j : Nat) (xs : List UInt8) (v : Value) (wr : World) : Prop :=
  k0 + j ≤ s.size ∧ xs.length ≤ j ∧ wr.ownsRow B 5 1 v xs.length (xs.map byteV) ∧ Below B w0 wr ∧ B ≤ wr.heap.size ∧
  X = (xs ++ (Thk.charsL [39] (s.data.toList.drop (k0 + j))).1, j + (Thk.charsL [39] (s.data.toList.drop (k0 + j))).2)

theorem LitRel.next {s : ByteArray} {k0 : Nat} {X : Thk.Bytes × Nat} {B : Nat} {w0 : World} {j : Nat} {xs : List UInt8} {v : Value} {wr : World} (h : LitRel s k0 X B w0 j xs v wr)
    {c : UInt8} {n : Nat} (hc : Thk.charL [39] (s.data.toList.drop (k0 + j)) = some (c, n)) {v' : Value} {w' : World} {O : Obj}
    (ho : w'.ownsRow B 5 1 v' (xs.length + 1) (xs.map byteV ++ [byteV c])) (hg : (wr.alloc O).grownBy w' v.ownBlock) : LitRel s k0 X B w0 (j + n) (xs ++ [c]) v' w' := by
  obtain ⟨h1, h2, h3, h4, h5, h6⟩ := h
  have hle := charL_le hc
  rw [List.length_drop, show s.data.toList.length = s.size from rfl] at hle
  have hs := hg.size
  rw [show (wr.alloc O).heap.size = wr.heap.size + 1 from by simp] at hs
  refine ⟨by omega, by simp; omega, by simpa using ho, ?_, by omega, ?_⟩
  · exact (h4.alloc h5 O).grown hg (by simp; omega) (fun g hg' => (h3.lt g hg').1)
  · rw [h6, charsL_some hc, List.drop_drop, show k0 + j + n = k0 + (j + n) from by omega]
    simp
    omega

theorem LitRel.done {s : ByteArray} {k0 : Nat} {X : Thk.Bytes × Nat} {B : Nat} {w0 : World} {j : Nat} {xs : List UInt8} {v : Value} {wr : World} (h : LitRel s k0 X B w0 j xs v wr)
    (hc : Thk.charL [39] (s.data.toList.drop (k0 + j)) = none) : X = (xs, j) := by
  obtain ⟨_, _, _, _, _, h6⟩ := h
  rw [h6, charsL_none hc]
  simp

end Go.Proofs.YtjmcdklhaieldaaGreatDoor
