import Derived.Test.YtkbepcjgadkfaaaGreatDoorW7
set_option linter.all false
namespace Go.Proofs.YtkbepcjgadkfaaaGreatDoor
open Go.RowKit

set_option maxHeartbeats 400000 in
theorem prefix_any (s : ByteArray) (w : World) (hs : s.size ≤ 2000) :
    Calls Tryz.prog 124 #[.string s, .string ⟨#[60, 45]⟩] w fun e w' => e = .returned (.bool (s.data.toList.take 2 == [60, 45])) ∧ w' = w := by
  by_cases h : 2 ≤ s.size
  · go_enter Tryz.func124, Tryz.ntmps124
    go_wp2
    go_ret
    refine ⟨?_, rfl⟩
    have e1 : (s.extract 0 2).toList = s.data.toList.take 2 := by
      rw [show (2 : Nat) = 0 + 2 from rfl, extract_take]; simp
    show Ending.returned (Value.bool ((s.extract 0 2).toList == [60, 45])) = _
    rw [e1]
  · have e1 : (s.data.toList.take 2 == [60, 45]) = false := by
      rw [beq_eq_false_iff_ne]; intro hh
      have := congrArg List.length hh
      have hl : s.data.toList.length = s.size := rfl
      simp [hl] at this
      omega
    rw [e1]
    have hd : ¬ (2 : Int) ≤ s.size := by omega
    go_enter Tryz.func124, Tryz.ntmps124
    go_wp2
    go_ret
    exact ⟨rfl, rfl⟩

theorem zeroTok : ∀ (w : World), True := fun _ => trivial

/-- What a call that hands back a token leaves. -/
def TokPost (w : World) (t : Thk.Tok) (e : Ending) (w' : World) : Prop :=
  ∃ v, e = .returned (.tuple #[tokV t v, .int .i64 t.size]) ∧ Below w.heap.size w w' ∧ Spans w' w.heap.size v t.spans

theorem nameT_spans (l : List UInt8) : (Thk.nameT l).spans = [] := by unfold Thk.nameT; split <;> rfl
theorem litT_spans (l : List UInt8) : (Thk.litT l).spans = [] := by unfold Thk.litT; split <;> rfl

theorem nameAt_tok (s : ByteArray) (k : Nat) (w : World) (hs : s.size ≤ 2000) (hk : k ≤ s.size) :
    Calls Tryz.prog 123 #[.string s, .int .i64 k] w (TokPost w (Thk.nameT (s.data.toList.drop k))) := by
  refine (nameAt_any s k w hs hk).mono ?_
  rintro e w' ⟨rfl, hb⟩
  exact ⟨_, rfl, hb, by rw [nameT_spans]; exact World.ownsRow_nil _ _ _ _⟩
theorem literalAt_tok (s : ByteArray) (k : Nat) (w : World) (hs : s.size ≤ 2000) (hk : k < s.size) :
    Calls Tryz.prog 125 #[.string s, .int .i64 k] w (TokPost w (Thk.litT (s.data.toList.drop (k + 1)))) := by
  refine (literalAt_any s k w hs hk).mono ?_
  rintro e w' ⟨rfl, hb⟩
  exact ⟨_, rfl, hb, by rw [litT_spans]; exact World.ownsRow_nil _ _ _ _⟩
theorem classAt_tok (s : ByteArray) (k : Nat) (w : World) (hs : s.size ≤ 2000) (hk : k < s.size) :
    Calls Tryz.prog 126 #[.string s, .int .i64 k] w (TokPost w (Thk.clsT (s.data.toList.drop (k + 1)))) := classAt_any s k w hs hk
theorem bad_tok (w : World) : Calls Tryz.prog 128 #[] w (TokPost w Thk.badT) := by
  refine (bad_any w).mono ?_
  rintro e w' ⟨rfl, hb⟩
  exact ⟨_, rfl, hb, World.ownsRow_nil _ _ _ _⟩

abbrev zTok : Obj := .cells #[.int .u8 0, .int .i64 0, .string ⟨#[]⟩, .slice none 0 0] 191

/-- Behind a call, the token's cells are stored into the result's block: what is left is what is asked. -/
theorem tok_end {w w1 : World} {v : Value} {xs : List Thk.Span} (a b c d : Value) (hb : Below (w.alloc zTok).heap.size (w.alloc zTok) w1) (hv : Spans w1 (w.alloc zTok).heap.size v xs) :
    Below w.heap.size w ((((w1.setCell ⟨w.heap.size, 0, none⟩ a).setCell ⟨w.heap.size, 1, none⟩ b).setCell ⟨w.heap.size, 2, none⟩ c).setCell ⟨w.heap.size, 3, none⟩ d) ∧
    Spans ((((w1.setCell ⟨w.heap.size, 0, none⟩ a).setCell ⟨w.heap.size, 1, none⟩ b).setCell ⟨w.heap.size, 2, none⟩ c).setCell ⟨w.heap.size, 3, none⟩ d) w.heap.size v xs := by
  refine ⟨((((((Below.refl _ _).alloc (Nat.le_refl _) _).trans (hb.mono (by simp))).setCell (Nat.le_refl _) _).setCell (Nat.le_refl _) _).setCell (Nat.le_refl _) _).setCell (Nat.le_refl _) _, ?_⟩
  rw [show (w.alloc zTok).heap.size = w.heap.size + 1 from by simp] at hv
  exact own_mono (ownsRow_setCell_below (ownsRow_setCell_below (ownsRow_setCell_below (ownsRow_setCell_below hv (Nat.lt_succ_self _) _) (Nat.lt_succ_self _) _) (Nat.lt_succ_self _) _) (Nat.lt_succ_self _) _) (Nat.le_succ _)

theorem tok_cells {w w1 : World} (hb : Below (w.alloc zTok).heap.size (w.alloc zTok) w1) :
    (∀ o, w1.cell? ⟨w.heap.size, o, none⟩ = (#[.int .u8 0, .int .i64 0, .string ⟨#[]⟩, .slice none 0 0] : Array Value)[o]?) ∧ (∀ o, w1.frozen? ⟨w.heap.size, o, none⟩ = false) ∧ w.heap.size < w1.heap.size := by
  obtain ⟨h1, h2⟩ := bcell hb
  refine ⟨fun o => ?_, fun o => ?_, ?_⟩
  · rw [h1 _ _ (by simp)]; simp
  · rw [h2 _ _ (by simp)]; simp
  · have := hb.size; simp at this; omega

theorem take2 (s : ByteArray) (k : Nat) (h : k < s.size) : ((s.extract k s.size).data.toList.take 2 == [60, 45]) = decide (s[k] = 60 ∧ (s.data.toList.drop (k + 1)).head? = some 45) := by
  rw [extract_drop, drop_cons s k h]
  rw [Bool.eq_iff_iff]
  cases s.data.toList.drop (k + 1) with
  | nil => simp
  | cons d t => simp

theorem size_extract' (s : ByteArray) (k : Nat) : (s.extract k s.size).size ≤ s.size := by
  have : (s.extract k s.size).data.toList.length = s.data.toList.length - k := by rw [extract_drop, List.length_drop]
  have e1 : (s.extract k s.size).data.toList.length = (s.extract k s.size).size := rfl
  have e2 : s.data.toList.length = s.size := rfl
  omega

set_option maxHeartbeats 2000000 in
set_option maxRecDepth 100000 in
theorem tokenAt_any (s : ByteArray) (k : Nat) (w : World) (hs : s.size ≤ 2000) (hk : k ≤ s.size) :
    Calls Tryz.prog 90 #[.string s, .int .i64 k] w fun e w' => TokPost w (Thk.tokL (s.data.toList.drop k)) e w' := by
  by_cases hlt : k < s.size
  · have t0 : ((k : Int) == s.size) = false := beq_eq_false_iff_ne.2 (by omega)
    have hn := fun w => nameAt_tok s k w hs hk
    have hl := fun w => literalAt_tok s k w hs hlt
    have hcl := fun w => classAt_tok s k w hs hlt
    have hp := fun w => prefix_any (s.extract k s.size) w (by have := size_extract' s k; omega)
    rw [take2 s k hlt] at hp
    rw [drop_cons s k hlt] at hn ⊢
    simp only [Thk.tokL]
    by_cases h1 : Thk.isLet s[k] = true
    · rw [if_pos h1]
      generalize Thk.nameT (s[k] :: s.data.toList.drop (k + 1)) = T at *
      clear hl hcl hp
      go_enter Tryz.func90, Tryz.ntmps90
      go_wp2_with (first | (go_at_call 122; refine (isLetter_any _ _).mono ?_; rintro e w' ⟨rfl, rfl⟩; rw [h1]) | (go_at_call 123; refine (hn _).mono ?_; rintro e w1 ⟨v, rfl, hb, hv⟩; obtain ⟨a0, c0, rfl⟩ := own_form hv; obtain ⟨q1, q2, q3⟩ := tok_cells hb; simp only [tokV]))
      refine bodyPost_ret (v := .tuple #[tokV T (.slice a0 T.spans.length c0), .int .i64 T.size]) (by simp [results, Tryz.results90, go_sem, tokV, q1]) rfl ⟨_, rfl, ?_⟩
      exact tok_end _ _ _ _ hb hv
    rw [if_neg h1]
    have h1' : Thk.isLet s[k] = false := by simpa using h1
    clear h1 hn
    by_cases h2 : s[k] = 60 ∧ (s.data.toList.drop (k + 1)).head? = some 45
    · rw [decide_eq_true h2] at hp
      rw [if_pos h2]
      clear h2 hl hcl
      go_enter Tryz.func90, Tryz.ntmps90
      go_wp2_with (first | (go_at_call 122; refine (isLetter_any _ _).mono ?_; rintro e w' ⟨rfl, rfl⟩; rw [h1']) | (go_at_call 124; refine (hp _).mono ?_; rintro e w' ⟨rfl, rfl⟩))
      refine bodyPost_ret (v := .tuple #[tokV ⟨.arrow, 0, 2, [], []⟩ (.slice none 0 0), .int .i64 2]) (by simp [results, Tryz.results90, go_sem, tokV, kindI]) rfl ⟨_, rfl, below_alloc _ _, World.ownsRow_nil _ _ _ _⟩
    rw [decide_eq_false h2] at hp
    rw [if_neg h2]
    clear h2
    by_cases h3 : s[k] = 39
    · rw [if_pos h3]
      have t3 := u8_beq_true h3 39 rfl
      clear h3 hcl
      generalize Thk.litT (s.data.toList.drop (k + 1)) = T at *
      go_enter Tryz.func90, Tryz.ntmps90
      go_wp2_with (first | (go_at_call 122; refine (isLetter_any _ _).mono ?_; rintro e w' ⟨rfl, rfl⟩; rw [h1']) | (go_at_call 124; refine (hp _).mono ?_; rintro e w' ⟨rfl, rfl⟩) | (go_at_call 125; refine (hl _).mono ?_; rintro e w1 ⟨v, rfl, hb, hv⟩; obtain ⟨a0, c0, rfl⟩ := own_form hv; obtain ⟨q1, q2, q3⟩ := tok_cells hb; simp only [tokV]))
      refine bodyPost_ret (v := .tuple #[tokV T (.slice a0 T.spans.length c0), .int .i64 T.size]) (by simp [results, Tryz.results90, go_sem, tokV, q1]) rfl ⟨_, rfl, ?_⟩
      exact tok_end _ _ _ _ hb hv
    rw [if_neg h3]
    have t3 := u8_beq_false h3 39 rfl
    clear h3 hl
    by_cases h4 : s[k] = 91
    · rw [if_pos h4]
      have t4 := u8_beq_true h4 91 rfl
      clear h4
      generalize Thk.clsT (s.data.toList.drop (k + 1)) = T at *
      go_enter Tryz.func90, Tryz.ntmps90
      go_wp2_with (first | (go_at_call 122; refine (isLetter_any _ _).mono ?_; rintro e w' ⟨rfl, rfl⟩; rw [h1']) | (go_at_call 124; refine (hp _).mono ?_; rintro e w' ⟨rfl, rfl⟩) | (go_at_call 126; refine (hcl _).mono ?_; rintro e w1 ⟨v, rfl, hb, hv⟩; obtain ⟨a0, c0, rfl⟩ := own_form hv; obtain ⟨q1, q2, q3⟩ := tok_cells hb; simp only [tokV]))
      refine bodyPost_ret (v := .tuple #[tokV T (.slice a0 T.spans.length c0), .int .i64 T.size]) (by simp [results, Tryz.results90, go_sem, tokV, q1]) rfl ⟨_, rfl, ?_⟩
      exact tok_end _ _ _ _ hb hv
    rw [if_neg h4]
    have t4 := u8_beq_false h4 91 rfl
    clear h4 hcl
    by_cases h5 : Thk.signB s[k] = true
    · rw [if_pos h5]
      have hi := fun w => indexByte_yes ⟨#[47, 38, 33, 63, 42, 43, 40, 41, 46]⟩ s[k] w h5
      clear h5
      go_enter Tryz.func90, Tryz.ntmps90
      go_wp2_with (first | (go_at_call 122; refine (isLetter_any _ _).mono ?_; rintro e w' ⟨rfl, rfl⟩; rw [h1']) | (go_at_call 124; refine (hp _).mono ?_; rintro e w' ⟨rfl, rfl⟩) | (go_at_call 127; refine (hi _).mono ?_; rintro e w' ⟨j, hj, rfl, rfl⟩))
      refine bodyPost_ret (v := .tuple #[tokV ⟨.sign s[k], 0, 1, [], []⟩ (.slice none 0 0), .int .i64 1]) (by simp [results, Tryz.results90, go_sem, tokV, kindI]) rfl ⟨_, rfl, below_alloc _ _, World.ownsRow_nil _ _ _ _⟩
    rw [if_neg h5]
    have hi := fun w => indexByte_no ⟨#[47, 38, 33, 63, 42, 43, 40, 41, 46]⟩ s[k] w (by simpa [Thk.signB] using h5)
    clear h5
    go_enter Tryz.func90, Tryz.ntmps90
    go_wp2_with (first | (go_at_call 122; refine (isLetter_any _ _).mono ?_; rintro e w' ⟨rfl, rfl⟩; rw [h1']) | (go_at_call 124; refine (hp _).mono ?_; rintro e w' ⟨rfl, rfl⟩) | (go_at_call 127; refine (hi _).mono ?_; rintro e w' ⟨rfl, rfl⟩) | (go_at_call 128; refine (bad_tok _).mono ?_; rintro e w1 ⟨v, rfl, hb, hv⟩; obtain ⟨a0, c0, rfl⟩ := own_form hv; obtain ⟨q1, q2, q3⟩ := tok_cells hb; simp only [tokV]))
    refine bodyPost_ret (v := .tuple #[tokV Thk.badT (.slice a0 Thk.badT.spans.length c0), .int .i64 Thk.badT.size]) (by simp [results, Tryz.results90, go_sem, tokV, q1]) rfl ⟨_, rfl, ?_⟩
    exact tok_end _ _ _ _ hb hv
  · have t0 : ((k : Int) == s.size) = true := beq_iff_eq.2 (by omega)
    rw [drop_end s k (by omega)]
    go_enter Tryz.func90, Tryz.ntmps90
    go_wp2_with fail
    refine bodyPost_ret (v := .tuple #[tokV ⟨.fin, 0, 0, [], []⟩ (.slice none 0 0), .int .i64 0]) (by simp [results, Tryz.results90, go_sem, tokV, kindI]) rfl ⟨_, rfl, below_alloc _ _, World.ownsRow_nil _ _ _ _⟩
end Go.Proofs.YtkbepcjgadkfaaaGreatDoor
