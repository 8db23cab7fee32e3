import Derived.Test.YtjmcdklhaieldaaGreatDoorWB
set_option linter.all false
namespace Go.Proofs.YtjmcdklhaieldaaGreatDoor
open Go.RowKit

theorem Tryz.infoSpan : (Tryz.prog.info? 286).map (fun i => (i.zero, i.size, i.bytes)) = some (some (.agg #[.int .u8 0, .int .u8 0]), 2, 2) := by kernel_rfl

theorem spanL_le {l : List UInt8} {c : Thk.Span} {n : Nat} (h : Thk.spanL l = some (c, n)) : 1 ≤ n ∧ n ≤ l.length := by
  unfold Thk.spanL at h
  cases hc : Thk.charL [93, 45] l with
  | none => rw [hc] at h; cases h
  | some p =>
    obtain ⟨lo, m⟩ := p
    have h1 := charL_le hc
    rw [hc] at h
    simp only [] at h
    split at h
    · cases hd : Thk.charL [93, 45] (l.drop (m + 1)) with
      | none => rw [hd] at h; cases h
      | some q =>
        obtain ⟨hi, r⟩ := q
        have h2 := charL_le hd
        rw [hd] at h
        simp only [] at h
        have hl : (l.drop (m + 1)).length = l.length - (m + 1) := List.length_drop
        split at h
        · simp at h; omega
        · cases h
    · simp at h; omega

theorem spansF_more : ∀ (f g : Nat) (l : List UInt8), l.length ≤ f → l.length ≤ g → Thk.spansF f l = Thk.spansF g l
  | 0, 0, _, _, _ => rfl
  | 0, g + 1, l, hf, _ => by
    have : l = [] := List.length_eq_zero_iff.1 (by omega)
    subst this; simp [Thk.spansF, Thk.spanL, Thk.charL]
  | f + 1, 0, l, _, hg => by
    have : l = [] := List.length_eq_zero_iff.1 (by omega)
    subst this; simp [Thk.spansF, Thk.spanL, Thk.charL]
  | f + 1, g + 1, l, hf, hg => by
    simp only [Thk.spansF]
    cases hc : Thk.spanL l with
    | none => rfl
    | some p =>
      obtain ⟨c, n⟩ := p
      have := spanL_le hc
      have hd : (l.drop n).length = l.length - n := List.length_drop
      simp only []
      rw [spansF_more f g (l.drop n) (by omega) (by omega)]

theorem spansL_none {l : List UInt8} (h : Thk.spanL l = none) : Thk.spansL l = ([], 0) := by
  unfold Thk.spansL
  cases hl : l.length with
  | zero => rfl
  | succ f => simp [Thk.spansF, h]

theorem spansL_some {l : List UInt8} {c : Thk.Span} {n : Nat} (h : Thk.spanL l = some (c, n)) :
    Thk.spansL l = (c :: (Thk.spansL (l.drop n)).1, n + (Thk.spansL (l.drop n)).2) := by
  have hle := spanL_le h
  unfold Thk.spansL
  cases hl : l.length with
  | zero => omega
  | succ f =>
    have hd : (l.drop n).length = l.length - n := List.length_drop
    rw [hd, hl]
    simp only [Thk.spansF, h]
    rw [spansF_more f (f + 1 - n) (l.drop n) (by omega) (by omega)]

def spanC (p : Thk.Span) : List Value := [.int .u8 p.1.toNat, .int .u8 p.2.toNat]

theorem spanC_len (xs : List Thk.Span) : (xs.flatMap spanC).length = xs.length * 2 := by
  induction xs with
  | nil => rfl
  | cons x xs ih => simp [spanC, ih] at *; omega

/-- The slice v holds the spans. -/
def Spans (w : World) (B : Nat) (v : Value) (xs : List Thk.Span) : Prop := w.ownsRow B 286 2 v xs.length (xs.flatMap spanC)

/-- What the loop of classAt keeps. -/
def ClsRel (s : ByteArray) (k0 : Nat) (X : List Thk.Span × Nat) (B : Nat) (w0 : World) (j : Nat) (xs : List Thk.Span) (v : Value) (wr : World) : Prop :=
  k0 + j ≤ s.size ∧ xs.length ≤ j ∧ Spans wr B v xs ∧ Below B w0 wr ∧ B ≤ wr.heap.size ∧
  X = (xs ++ (Thk.spansL (s.data.toList.drop (k0 + j))).1, j + (Thk.spansL (s.data.toList.drop (k0 + j))).2)

/-- A row that is owned stays so behind what leaves all old blocks as they are. -/
theorem own_below {w w' : World} {base : Nat} {e : TypeId} {size : Nat} {v : Value} {n : Nat} {xs : List Value} (h : w.ownsRow base e size v n xs) (hb : Below w.heap.size w w') : w'.ownsRow base e size v n xs := by
  obtain ⟨h1, h2⟩ := h
  refine ⟨h1, ?_⟩
  rcases h2 with h2 | ⟨g, cap, cur, hv, hg, hh, r⟩
  · exact Or.inl h2
  · refine Or.inr ⟨g, cap, cur, hv, hg, ?_, r⟩
    rw [hb.block g ?_]; exact hh
    rcases Nat.lt_or_ge g w.heap.size with h | h
    · exact h
    · rw [Array.getElem?_eq_none h] at hh; cases hh

theorem own_mono {w : World} {base base' : Nat} {e : TypeId} {size : Nat} {v : Value} {n : Nat} {xs : List Value} (h : w.ownsRow base e size v n xs) (hb : base' ≤ base) : w.ownsRow base' e size v n xs := by
  obtain ⟨h1, h2⟩ := h
  refine ⟨h1, ?_⟩
  rcases h2 with h2 | ⟨g, cap, cur, hv, hg, r⟩
  · exact Or.inl h2
  · exact Or.inr ⟨g, cap, cur, hv, Nat.le_trans hb hg, r⟩

theorem ClsRel.next {s : ByteArray} {k0 : Nat} {X : List Thk.Span × Nat} {B : Nat} {w0 : World} {j : Nat} {xs : List Thk.Span} {v : Value} {wr : World} (h : ClsRel s k0 X B w0 j xs v wr)
    {c : Thk.Span} {n : Nat} (hc : Thk.spanL (s.data.toList.drop (k0 + j)) = some (c, n)) {v' : Value} {w1 w' : World} (hb : Below wr.heap.size wr w1)
    (ho : w'.ownsRow B 286 2 v' (xs.length + 1) (xs.flatMap spanC ++ spanC c)) (hg : w1.grownBy w' v.ownBlock) : ClsRel s k0 X B w0 (j + n) (xs ++ [c]) v' w' := by
  obtain ⟨h1, h2, h3, h4, h5, h6⟩ := h
  have hle := spanL_le hc
  rw [List.length_drop, show s.data.toList.length = s.size from rfl] at hle
  have hs := hg.size
  have hs1 := hb.size
  refine ⟨by omega, by simp; omega, by simpa [Spans] using ho, ?_, by omega, ?_⟩
  · exact (h4.trans (hb.mono h5)).grown hg (by omega) (fun g hg' => (h3.lt g hg').1)
  · rw [h6, spansL_some hc, List.drop_drop, show k0 + j + n = k0 + (j + n) from by omega]
    simp
    omega

theorem ClsRel.done {s : ByteArray} {k0 : Nat} {X : List Thk.Span × Nat} {B : Nat} {w0 : World} {j : Nat} {xs : List Thk.Span} {v : Value} {wr : World} (h : ClsRel s k0 X B w0 j xs v wr)
    (hc : Thk.spanL (s.data.toList.drop (k0 + j)) = none) : X = (xs, j) := by
  obtain ⟨_, _, _, _, _, h6⟩ := h
  rw [h6, spansL_none hc]
  simp

theorem spanAt_of (s : ByteArray) (k : Nat) (w : World) (hs : s.size ≤ 2000) (hk : k ≤ s.size) {o : Option (Thk.Span × Nat)} (h : Thk.spanL (s.data.toList.drop k) = o) :
    Calls Tryz.prog 161 #[.string s, .int .i64 k] w fun e w' => e = .returned (spv o) ∧ Below w.heap.size w w' := h ▸ spanAt_any s k w hs hk

theorem cell_two_new' (w : World) (x y : Value) (t : TypeId) : ∀ j u, [x, y][j]? = some u → (w.alloc (.cells #[x, y] t)).cell? ((⟨w.heap.size, 0, none⟩ : Addr).add j) = some u := by
  intro j u hj
  match j, hj with
  | 0, hj => simp at hj; subst hj; simp [Addr.add]
  | 1, hj => simp at hj; subst hj; simp [Addr.add]

set_option maxHeartbeats 1000000 in
set_option maxRecDepth 100000 in
theorem classAt_any (s : ByteArray) (k : Nat) (w : World) (hs : s.size ≤ 2000) (hk : k < s.size) :
    Calls Tryz.prog 136 #[.string s, .int .i64 k] w fun e w' => ∃ v,
      e = .returned (.tuple #[tokV (Thk.clsT (s.data.toList.drop (k + 1))) v, .int .i64 (Thk.clsT (s.data.toList.drop (k + 1))).size]) ∧ Below w.heap.size w w' ∧ Spans w' w.heap.size v (Thk.clsT (s.data.toList.drop (k + 1))).spans := by
  obtain ⟨X, hX⟩ : ∃ X, X = Thk.spansL (s.data.toList.drop (k + 1)) := ⟨_, rfl⟩
  obtain ⟨T, hT⟩ : ∃ T, T = Thk.clsT (s.data.toList.drop (k + 1)) := ⟨_, rfl⟩
  obtain ⟨C, hC⟩ : ∃ C, C = Thk.closesL (s.data.toList.drop (k + 1)) X.2 93 X.1.length := ⟨_, rfl⟩
  rw [← hT]
  have HT : Hid (T = if C then ⟨.cls, 0, X.2 + 2, [], X.1⟩ else Thk.badT) := by rw [hC, hX]; exact hT
  have HX : Hid (X = Thk.spansL (s.data.toList.drop (k + 1))) := hX
  have HC : Hid (C = Thk.closesL (s.data.toList.drop (k + 1)) X.2 93 X.1.length) := hC
  clear hX hT hC
  obtain ⟨i0, hi, hz0, hz1, hz2⟩ := info_parts Tryz.infoSpan
  go_enter Tryz.func136, Tryz.ntmps136
  go_wp2_with fail
  go_loopw [6, 7] (fun v i wr => ∃ (j : Nat) (xs : List Thk.Span), i = .int .i64 ↑(k + 1 + j) ∧ ClsRel s (k + 1) X (w.heap.size + 1) (w.alloc (.cells #[.int .u8 0, .int .i64 0, .string ⟨#[]⟩, .slice none 0 0] 207)) j xs v wr) (fun _ i _ => s.size - (intOf i).toNat)
  case atStart =>
    refine ⟨0, [], by go_num, by omega, by simp, World.ownsRow_nil _ _ _ _, Below.refl _ _, by simp, ?_⟩
    rw [HX.out]; simp
  case round =>
    obtain ⟨j, xs, rfl, hR⟩ := hrel
    have hR1 := hR.1
    cases hc : Thk.spanL (s.data.toList.drop (k + 1 + j)) with
    | some p =>
      obtain ⟨c, n⟩ := p
      have HCC : Hid (Thk.spanL (s.data.toList.drop (k + 1 + j)) = some (c, n)) := hc
      have hcall := spanAt_of s (k + 1 + j) wr hs (by omega) hc
      simp only [spv] at hcall
      clear hc
      have hpos := (spanL_le HCC.out).1
      have hle := (spanL_le HCC.out).2
      rw [List.length_drop, show s.data.toList.length = s.size from rfl] at hle
      have ht : ((n : Int) == 0) = false := beq_eq_false_iff_ne.2 (by omega)
      have hown : wr.ownsRow (w.heap.size + 1) 286 2 u6 xs.length (xs.flatMap spanC) := hR.2.2.1
      have hxl := hR.2.1
      have hB := hR.2.2.2.2.1
      go_wp2_with (first | (go_at_call 161; refine hcall.mono ?_; rintro e w1 ⟨rfl, hb1⟩; have hown1 := own_below hown hb1; have hsz1 := hb1.size) | (at_builtin; refine wpList_append_own _ rfl _ _ 205 rfl (w.heap.size + 1) 286 i0 _ 2 2 Tryz.underlying205 hi hz0 hz1 hz2 rfl (by decide) _ _ _ rfl ((hown1.alloc _).alloc _) ⟨w1.heap.size + 1, 0, none⟩ 1 1 (spanC c) rfl rfl ?c1 ?c2 ?c3 ?c4 ?c5 ?_))
      case c1 => rw [← World.size_alloc w1 (Obj.cells #[Value.int IntKind.u8 ↑c.fst.toNat, Value.int IntKind.u8 ↑c.snd.toNat] 286)]; exact cell_two_new' _ _ _ _
      case c2 => intro u hu; simp [spanC] at hu; rcases hu with rfl | rfl <;> rfl
      case c3 => unfold maxLen; omega
      case c4 => omega
      case c5 => simp; omega
      intro v' w2 hown' hgrow _
      have hN := hR.next HCC.out ((hb1.alloc hsz1 _).alloc (by simp; omega) _) hown' hgrow
      clear hown' hgrow hown hB hxl hR hcall hown1 hb1
      go_wp2
      go_roundw
      case rel => exact ⟨j + n, xs ++ [c], by go_num, hN⟩
      case measure => simp [intOf]; omega
    | none =>
      have hcall := spanAt_of s (k + 1 + j) wr hs (by omega) hc
      simp only [spv] at hcall
      have hD := hR.done hc
      clear hc
      subst hD
      have hown : wr.ownsRow (w.heap.size + 1) 286 2 u6 xs.length (xs.flatMap spanC) := hR.2.2.1
      have hxl := hR.2.1
      have hB := hR.2.2.2.2.1
      have hBl := hR.2.2.2.1
      have hcl := fun w => closes_any s (k + 1) j xs.length 93 w hs (by omega) hR1
      simp only [← HC.out] at hcl
      obtain ⟨a0, cp, hv⟩ := own_form hown
      subst hv
      have hlt : w.heap.size < wr.heap.size := by omega
      cases hCC : C with
      | true =>
        subst hCC
        simp only [if_true] at HT
        have e1 := HT.out
        subst e1
        clear HT HX
        have HOWN : Hid (wr.ownsRow (w.heap.size + 1) 286 2 (.slice a0 xs.length cp) xs.length (xs.flatMap spanC)) := hown
        clear hR hown
        go_wp2_with (first | (go_at_call 161; refine hcall.mono ?_; rintro e w1 ⟨rfl, hb1⟩; obtain ⟨hc0, hf0⟩ := bcell ((Below.mono (B' := (w.alloc (.cells #[.int .u8 0, .int .i64 0, .string ⟨#[]⟩, .slice none 0 0] 207)).heap.size) hBl (by simp)).trans (hb1.mono (by simp; omega))); have hsz1 := hb1.size; have hlt1 : w.heap.size < w1.heap.size := (by omega)) | (go_at_call 160; refine (hcl _).mono ?_; rintro e w' ⟨rfl, rfl⟩))
        refine bodyPost_ret (v := .tuple #[.agg #[.int .u8 5, .int .i64 0, .string ⟨#[]⟩, .slice a0 xs.length cp], .int .i64 (↑k + 1 + ↑j + 1 - ↑k)]) (by simp [results, Tryz.results136, go_sem, hc0, hlt1]) rfl ⟨.slice a0 xs.length cp, by rw [show ((k : Int) + 1 + j + 1 - k) = ((j + 2 : Nat) : Int) from by omega]; rfl, ?_, ?_⟩
        · exact (((((((((Below.refl _ _).alloc (Nat.le_refl _) _).trans (hBl.mono (by simp))).trans (hb1.mono (by omega)))).setCell (Nat.le_refl _) _).setCell (Nat.le_refl _) _).setCell (Nat.le_refl _) _).setCell (Nat.le_refl _) _).alloc (by simp; omega) _
        · exact own_mono ((ownsRow_setCell_below (ownsRow_setCell_below (ownsRow_setCell_below (ownsRow_setCell_below (own_below HOWN.out hb1) (Nat.lt_succ_self _) _) (Nat.lt_succ_self _) _) (Nat.lt_succ_self _) _) (Nat.lt_succ_self _) _).alloc _) (Nat.le_succ _)
      | false =>
        subst hCC
        have e1 := HT.out
        simp at e1
        subst e1
        clear HT HX hown hR
        go_wp2_with (first | (go_at_call 161; refine hcall.mono ?_; rintro e w1 ⟨rfl, hb1⟩; obtain ⟨hc0, hf0⟩ := bcell ((Below.mono (B' := (w.alloc (.cells #[.int .u8 0, .int .i64 0, .string ⟨#[]⟩, .slice none 0 0] 207)).heap.size) hBl (by simp)).trans (hb1.mono (by simp; omega))); have hsz1 := hb1.size; have hlt1 : w.heap.size < w1.heap.size := (by omega)) | (go_at_call 160; refine (hcl _).mono ?_; rintro e w' ⟨rfl, rfl⟩) | (go_at_call 138; refine (bad_any _).mono ?_; rintro e w2 ⟨rfl, hb⟩; obtain ⟨hc1, hf1⟩ := bcell hb; have hz := hb.size; simp only [tokV, Thk.badT, kindI]))
        have q : ∀ o, w2.cell? ⟨w.heap.size, o, none⟩ = (#[.int .u8 0, .int .i64 0, .string ⟨#[]⟩, .slice none 0 0] : Array Value)[o]? := fun o => by
          rw [hc1 _ _ (by simp; omega), World.cell?_alloc_lt _ _ _ hlt1, hc0 _ _ (by simp)]; simp
        clear hc1 hc0
        refine bodyPost_ret (v := .tuple #[tokV Thk.badT (.slice none 0 0), .int .i64 0]) (by simp [results, Tryz.results136, go_sem, tokV, kindI, Thk.badT, q]) rfl ⟨_, rfl, ?_, World.ownsRow_nil _ _ _ _⟩
        exact ((((((((((Below.refl _ _).alloc (Nat.le_refl _) _).trans (hBl.mono (by simp))).trans (hb1.mono (by omega))).alloc (by omega) _).trans (hb.mono (by simp; omega)))).setCell (Nat.le_refl _) _).setCell (Nat.le_refl _) _).setCell (Nat.le_refl _) _).setCell (Nat.le_refl _) _
end Go.Proofs.YtjmcdklhaieldaaGreatDoor
namespace Go.Proofs.YtjmcdklhaieldaaGreatDoor
open Go.RowKit

set_option maxHeartbeats 400000 in
theorem prefix_any (s : ByteArray) (w : World) (hs : s.size ≤ 2000) :
    Calls Tryz.prog 134 #[.string s, .string ⟨#[60, 45]⟩] w fun e w' => e = .returned (.bool (s.data.toList.take 2 == [60, 45])) ∧ w' = w := by
  by_cases h : 2 ≤ s.size
  · go_enter Tryz.func134, Tryz.ntmps134
    go_wp2
    go_ret
    refine ⟨?_, rfl⟩
    have e1 : (s.extract 0 2).toList = s.data.toList.take 2 := by
      rw [show (2 : Nat) = 0 + 2 from rfl, extract_take]; simp
    show Ending.returned (Value.bool ((s.extract 0 2).toList == [60, 45])) = _
    rw [e1]
  · have e1 : (s.data.toList.take 2 == [60, 45]) = false := by
      rw [beq_eq_false_iff_ne]; intro hh
      have := congrArg List.length hh
      have hl : s.data.toList.length = s.size := rfl
      simp [hl] at this
      omega
    rw [e1]
    have hd : ¬ (2 : Int) ≤ s.size := by omega
    go_enter Tryz.func134, Tryz.ntmps134
    go_wp2
    go_ret
    exact ⟨rfl, rfl⟩

theorem zeroTok : ∀ (w : World), True := fun _ => trivial

/-- What a call that hands back a token leaves. -/
def TokPost (w : World) (t : Thk.Tok) (e : Ending) (w' : World) : Prop :=
  ∃ v, e = .returned (.tuple #[tokV t v, .int .i64 t.size]) ∧ Below w.heap.size w w' ∧ Spans w' w.heap.size v t.spans

theorem nameT_spans (l : List UInt8) : (Thk.nameT l).spans = [] := by unfold Thk.nameT; split <;> rfl
theorem litT_spans (l : List UInt8) : (Thk.litT l).spans = [] := by unfold Thk.litT; split <;> rfl

theorem nameAt_tok (s : ByteArray) (k : Nat) (w : World) (hs : s.size ≤ 2000) (hk : k ≤ s.size) :
    Calls Tryz.prog 133 #[.string s, .int .i64 k] w (TokPost w (Thk.nameT (s.data.toList.drop k))) := by
  refine (nameAt_any s k w hs hk).mono ?_
  rintro e w' ⟨rfl, hb⟩
  exact ⟨_, rfl, hb, by rw [nameT_spans]; exact World.ownsRow_nil _ _ _ _⟩
theorem literalAt_tok (s : ByteArray) (k : Nat) (w : World) (hs : s.size ≤ 2000) (hk : k < s.size) :
    Calls Tryz.prog 135 #[.string s, .int .i64 k] w (TokPost w (Thk.litT (s.data.toList.drop (k + 1)))) := by
  refine (literalAt_any s k w hs hk).mono ?_
  rintro e w' ⟨rfl, hb⟩
  exact ⟨_, rfl, hb, by rw [litT_spans]; exact World.ownsRow_nil _ _ _ _⟩
theorem classAt_tok (s : ByteArray) (k : Nat) (w : World) (hs : s.size ≤ 2000) (hk : k < s.size) :
    Calls Tryz.prog 136 #[.string s, .int .i64 k] w (TokPost w (Thk.clsT (s.data.toList.drop (k + 1)))) := classAt_any s k w hs hk
theorem bad_tok (w : World) : Calls Tryz.prog 138 #[] w (TokPost w Thk.badT) := by
  refine (bad_any w).mono ?_
  rintro e w' ⟨rfl, hb⟩
  exact ⟨_, rfl, hb, World.ownsRow_nil _ _ _ _⟩

abbrev zTok : Obj := .cells #[.int .u8 0, .int .i64 0, .string ⟨#[]⟩, .slice none 0 0] 207

/-- Behind a call, the token's cells are stored into the result's block: what is left is what is asked. -/
theorem tok_end {w w1 : World} {v : Value} {xs : List Thk.Span} (a b c d : Value) (hb : Below (w.alloc zTok).heap.size (w.alloc zTok) w1) (hv : Spans w1 (w.alloc zTok).heap.size v xs) :
    Below w.heap.size w ((((w1.setCell ⟨w.heap.size, 0, none⟩ a).setCell ⟨w.heap.size, 1, none⟩ b).setCell ⟨w.heap.size, 2, none⟩ c).setCell ⟨w.heap.size, 3, none⟩ d) ∧
    Spans ((((w1.setCell ⟨w.heap.size, 0, none⟩ a).setCell ⟨w.heap.size, 1, none⟩ b).setCell ⟨w.heap.size, 2, none⟩ c).setCell ⟨w.heap.size, 3, none⟩ d) w.heap.size v xs := by
  refine ⟨((((((Below.refl _ _).alloc (Nat.le_refl _) _).trans (hb.mono (by simp))).setCell (Nat.le_refl _) _).setCell (Nat.le_refl _) _).setCell (Nat.le_refl _) _).setCell (Nat.le_refl _) _, ?_⟩
  rw [show (w.alloc zTok).heap.size = w.heap.size + 1 from by simp] at hv
  exact own_mono (ownsRow_setCell_below (ownsRow_setCell_below (ownsRow_setCell_below (ownsRow_setCell_below hv (Nat.lt_succ_self _) _) (Nat.lt_succ_self _) _) (Nat.lt_succ_self _) _) (Nat.lt_succ_self _) _) (Nat.le_succ _)

theorem tok_cells {w w1 : World} (hb : Below (w.alloc zTok).heap.size (w.alloc zTok) w1) :
    (∀ o, w1.cell? ⟨w.heap.size, o, none⟩ = (#[.int .u8 0, .int .i64 0, .string ⟨#[]⟩, .slice none 0 0] : Array Value)[o]?) ∧ (∀ o, w1.frozen? ⟨w.heap.size, o, none⟩ = false) ∧ w.heap.size < w1.heap.size := by
  obtain ⟨h1, h2⟩ := bcell hb
  refine ⟨fun o => ?_, fun o => ?_, ?_⟩
  · rw [h1 _ _ (by simp)]; simp
  · rw [h2 _ _ (by simp)]; simp
  · have := hb.size; simp at this; omega

theorem take2 (s : ByteArray) (k : Nat) (h : k < s.size) : ((s.extract k s.size).data.toList.take 2 == [60, 45]) = decide (s[k] = 60 ∧ (s.data.toList.drop (k + 1)).head? = some 45) := by
  rw [extract_drop, drop_cons s k h]
  rw [Bool.eq_iff_iff]
  cases s.data.toList.drop (k + 1) with
  | nil => simp
  | cons d t => simp

theorem size_extract' (s : ByteArray) (k : Nat) : (s.extract k s.size).size ≤ s.size := by
  have : (s.extract k s.size).data.toList.length = s.data.toList.length - k := by rw [extract_drop, List.length_drop]
  have e1 : (s.extract k s.size).data.toList.length = (s.extract k s.size).size := rfl
  have e2 : s.data.toList.length = s.size := rfl
  omega

set_option maxHeartbeats 2000000 in
set_option maxRecDepth 100000 in
theorem tokenAt_any (s : ByteArray) (k : Nat) (w : World) (hs : s.size ≤ 2000) (hk : k ≤ s.size) :
    Calls Tryz.prog 100 #[.string s, .int .i64 k] w fun e w' => TokPost w (Thk.tokL (s.data.toList.drop k)) e w' := by
  by_cases hlt : k < s.size
  · have t0 : ((k : Int) == s.size) = false := beq_eq_false_iff_ne.2 (by omega)
    have hn := fun w => nameAt_tok s k w hs hk
    have hl := fun w => literalAt_tok s k w hs hlt
    have hcl := fun w => classAt_tok s k w hs hlt
    have hp := fun w => prefix_any (s.extract k s.size) w (by have := size_extract' s k; omega)
    rw [take2 s k hlt] at hp
    rw [drop_cons s k hlt] at hn ⊢
    simp only [Thk.tokL]
    by_cases h1 : Thk.isLet s[k] = true
    · rw [if_pos h1]
      generalize Thk.nameT (s[k] :: s.data.toList.drop (k + 1)) = T at *
      clear hl hcl hp
      go_enter Tryz.func100, Tryz.ntmps100
      go_wp2_with (first | (go_at_call 132; refine (isLetter_any _ _).mono ?_; rintro e w' ⟨rfl, rfl⟩; rw [h1]) | (go_at_call 133; refine (hn _).mono ?_; rintro e w1 ⟨v, rfl, hb, hv⟩; obtain ⟨a0, c0, rfl⟩ := own_form hv; obtain ⟨q1, q2, q3⟩ := tok_cells hb; simp only [tokV]))
      refine bodyPost_ret (v := .tuple #[tokV T (.slice a0 T.spans.length c0), .int .i64 T.size]) (by simp [results, Tryz.results100, go_sem, tokV, q1]) rfl ⟨_, rfl, ?_⟩
      exact tok_end _ _ _ _ hb hv
    rw [if_neg h1]
    have h1' : Thk.isLet s[k] = false := by simpa using h1
    clear h1 hn
    by_cases h2 : s[k] = 60 ∧ (s.data.toList.drop (k + 1)).head? = some 45
    · rw [decide_eq_true h2] at hp
      rw [if_pos h2]
      clear h2 hl hcl
      go_enter Tryz.func100, Tryz.ntmps100
      go_wp2_with (first | (go_at_call 132; refine (isLetter_any _ _).mono ?_; rintro e w' ⟨rfl, rfl⟩; rw [h1']) | (go_at_call 134; refine (hp _).mono ?_; rintro e w' ⟨rfl, rfl⟩))
      refine bodyPost_ret (v := .tuple #[tokV ⟨.arrow, 0, 2, [], []⟩ (.slice none 0 0), .int .i64 2]) (by simp [results, Tryz.results100, go_sem, tokV, kindI]) rfl ⟨_, rfl, below_alloc _ _, World.ownsRow_nil _ _ _ _⟩
    rw [decide_eq_false h2] at hp
    rw [if_neg h2]
    clear h2
    by_cases h3 : s[k] = 39
    · rw [if_pos h3]
      have t3 := u8_beq_true h3 39 rfl
      clear h3 hcl
      generalize Thk.litT (s.data.toList.drop (k + 1)) = T at *
      go_enter Tryz.func100, Tryz.ntmps100
      go_wp2_with (first | (go_at_call 132; refine (isLetter_any _ _).mono ?_; rintro e w' ⟨rfl, rfl⟩; rw [h1']) | (go_at_call 134; refine (hp _).mono ?_; rintro e w' ⟨rfl, rfl⟩) | (go_at_call 135; refine (hl _).mono ?_; rintro e w1 ⟨v, rfl, hb, hv⟩; obtain ⟨a0, c0, rfl⟩ := own_form hv; obtain ⟨q1, q2, q3⟩ := tok_cells hb; simp only [tokV]))
      refine bodyPost_ret (v := .tuple #[tokV T (.slice a0 T.spans.length c0), .int .i64 T.size]) (by simp [results, Tryz.results100, go_sem, tokV, q1]) rfl ⟨_, rfl, ?_⟩
      exact tok_end _ _ _ _ hb hv
    rw [if_neg h3]
    have t3 := u8_beq_false h3 39 rfl
    clear h3 hl
    by_cases h4 : s[k] = 91
    · rw [if_pos h4]
      have t4 := u8_beq_true h4 91 rfl
      clear h4
      generalize Thk.clsT (s.data.toList.drop (k + 1)) = T at *
      go_enter Tryz.func100, Tryz.ntmps100
      go_wp2_with (first | (go_at_call 132; refine (isLetter_any _ _).mono ?_; rintro e w' ⟨rfl, rfl⟩; rw [h1']) | (go_at_call 134; refine (hp _).mono ?_; rintro e w' ⟨rfl, rfl⟩) | (go_at_call 136; refine (hcl _).mono ?_; rintro e w1 ⟨v, rfl, hb, hv⟩; obtain ⟨a0, c0, rfl⟩ := own_form hv; obtain ⟨q1, q2, q3⟩ := tok_cells hb; simp only [tokV]))
      refine bodyPost_ret (v := .tuple #[tokV T (.slice a0 T.spans.length c0), .int .i64 T.size]) (by simp [results, Tryz.results100, go_sem, tokV, q1]) rfl ⟨_, rfl, ?_⟩
      exact tok_end _ _ _ _ hb hv
    rw [if_neg h4]
    have t4 := u8_beq_false h4 91 rfl
    clear h4 hcl
    by_cases h5 : Thk.signB s[k] = true
    · rw [if_pos h5]
      have hi := fun w => indexByte_yes ⟨#[47, 38, 33, 63, 42, 43, 40, 41, 46]⟩ s[k] w h5
      clear h5
      go_enter Tryz.func100, Tryz.ntmps100
      go_wp2_with (first | (go_at_call 132; refine (isLetter_any _ _).mono ?_; rintro e w' ⟨rfl, rfl⟩; rw [h1']) | (go_at_call 134; refine (hp _).mono ?_; rintro e w' ⟨rfl, rfl⟩) | (go_at_call 137; refine (hi _).mono ?_; rintro e w' ⟨j, hj, rfl, rfl⟩))
      refine bodyPost_ret (v := .tuple #[tokV ⟨.sign s[k], 0, 1, [], []⟩ (.slice none 0 0), .int .i64 1]) (by simp [results, Tryz.results100, go_sem, tokV, kindI]) rfl ⟨_, rfl, below_alloc _ _, World.ownsRow_nil _ _ _ _⟩
    rw [if_neg h5]
    have hi := fun w => indexByte_no ⟨#[47, 38, 33, 63, 42, 43, 40, 41, 46]⟩ s[k] w (by simpa [Thk.signB] using h5)
    clear h5
    go_enter Tryz.func100, Tryz.ntmps100
    go_wp2_with (first | (go_at_call 132; refine (isLetter_any _ _).mono ?_; rintro e w' ⟨rfl, rfl⟩; rw [h1']) | (go_at_call 134; refine (hp _).mono ?_; rintro e w' ⟨rfl, rfl⟩) | (go_at_call 137; refine (hi _).mono ?_; rintro e w' ⟨rfl, rfl⟩) | (go_at_call 138; refine (bad_tok _).mono ?_; rintro e w1 ⟨v, rfl, hb, hv⟩; obtain ⟨a0, c0, rfl⟩ := own_form hv; obtain ⟨q1, q2, q3⟩ := tok_cells hb; simp only [tokV]))
    refine bodyPost_ret (v := .tuple #[tokV Thk.badT (.slice a0 Thk.badT.spans.length c0), .int .i64 Thk.badT.size]) (by simp [results, Tryz.results100, go_sem, tokV, q1]) rfl ⟨_, rfl, ?_⟩
    exact tok_end _ _ _ _ hb hv
  · have t0 : ((k : Int) == s.size) = true := beq_iff_eq.2 (by omega)
    rw [drop_end s k (by omega)]
    go_enter Tryz.func100, Tryz.ntmps100
    go_wp2_with fail
    refine bodyPost_ret (v := .tuple #[tokV ⟨.fin, 0, 0, [], []⟩ (.slice none 0 0), .int .i64 0]) (by simp [results, Tryz.results100, go_sem, tokV, kindI]) rfl ⟨_, rfl, below_alloc _ _, World.ownsRow_nil _ _ _ _⟩
end Go.Proofs.YtjmcdklhaieldaaGreatDoor
namespace Go.Proofs.YtjmcdklhaieldaaGreatDoor
open Go.RowKit

theorem Tryz.infoTok : (Tryz.prog.info? 207).map (fun i => (i.zero, i.size, i.bytes)) = some (some (.agg #[.int .u8 0, .int .i64 0, .string ⟨#[]⟩, .slice none 0 0]), 4, 56) := by kernel_rfl

theorem spansL_le (l : List UInt8) : (Thk.spansL l).2 ≤ l.length := by
  generalize hn : l.length = N
  induction N using Nat.strongRecOn generalizing l with
  | ind N ih =>
    cases hc : Thk.spanL l with
    | none => rw [spansL_none hc]; simp
    | some p =>
      obtain ⟨c, n⟩ := p
      have := spanL_le hc
      rw [spansL_some hc]
      have hd : (l.drop n).length = l.length - n := List.length_drop
      have := ih (N - n) (by omega) (l.drop n) (by omega)
      simp
      omega

theorem closesL_lt {l : List UInt8} {n : Nat} {m : UInt8} {k : Nat} (h : Thk.closesL l n m k = true) : n < l.length := by
  unfold Thk.closesL at h
  simp only [Bool.and_eq_true, beq_iff_eq] at h
  exact (List.getElem?_eq_some_iff.1 h.1.1).1

theorem tokL_size (l : List UInt8) (h : (Thk.tokL l).kind.last = false) : 1 ≤ (Thk.tokL l).size ∧ (Thk.tokL l).size ≤ l.length := by
  cases l with
  | nil => simp [Thk.tokL, Thk.TK.last] at h
  | cons c t =>
    simp only [Thk.tokL] at h ⊢
    split
    · rename_i h1
      rw [if_pos h1] at h
      unfold Thk.nameT at h ⊢
      split
      · rename_i h2; rw [if_pos h2] at h; cases h
      · have := letN_le (c :: t)
        have : Thk.letN (c :: t) = Thk.letN t + 1 := by simp [Thk.letN, h1]
        simp only []; omega
    · rename_i h1
      rw [if_neg h1] at h
      split
      · rename_i h2
        simp only [List.length_cons]
        cases t with
        | nil => simp at h2
        | cons d t => simp
      · rename_i h2
        rw [if_neg h2] at h
        split
        · rename_i h3
          rw [if_pos h3] at h
          unfold Thk.litT at h ⊢
          split
          · rename_i h4
            have := closesL_lt h4
            simp only [List.length_cons]; omega
          · rename_i h4; rw [if_neg h4] at h; cases h
        · rename_i h3
          rw [if_neg h3] at h
          split
          · rename_i h4
            rw [if_pos h4] at h
            unfold Thk.clsT at h ⊢
            split
            · rename_i h5
              have := closesL_lt h5
              simp only [List.length_cons]; omega
            · rename_i h5; rw [if_neg h5] at h; cases h
          · rename_i h4
            rw [if_neg h4] at h
            split
            · simp
            · rename_i h5; rw [if_neg h5] at h; cases h

/-- The token behind the blanks, with its place. -/
def tokAt (pos : Nat) (l : List UInt8) : Thk.Tok := { Thk.tokL (l.drop (Thk.blk false l)) with place := pos + Thk.blk false l }

theorem toksF_succ (f pos : Nat) (l : List UInt8) : Thk.toksF (f + 1) pos l = tokAt pos l ::
    (if (tokAt pos l).kind.last then [] else Thk.toksF f ((tokAt pos l).place + (tokAt pos l).size) (l.drop (Thk.blk false l + (tokAt pos l).size))) := by
  simp only [Thk.toksF, tokAt, List.drop_drop]
  rfl

theorem toksF_more : ∀ (f g pos : Nat) (l : List UInt8), l.length < f → l.length < g → Thk.toksF f pos l = Thk.toksF g pos l
  | 0, _, _, _, h, _ => by omega
  | _ + 1, 0, _, _, _, h => by omega
  | f + 1, g + 1, pos, l, hf, hg => by
    rw [toksF_succ, toksF_succ]
    cases hk : (tokAt pos l).kind.last with
    | true => rfl
    | false =>
      have hs := tokL_size (l.drop (Thk.blk false l)) hk
      have hb := blk_le false l
      rw [List.length_drop] at hs
      have hd : (l.drop (Thk.blk false l + (tokAt pos l).size)).length = l.length - (Thk.blk false l + (tokAt pos l).size) := List.length_drop
      have e : (tokAt pos l).size = (Thk.tokL (l.drop (Thk.blk false l))).size := rfl
      simp only [Bool.false_eq_true, if_false]
      rw [toksF_more f g _ _ (by omega) (by omega)]

def TL (pos : Nat) (l : List UInt8) : List Thk.Tok := Thk.toksF (l.length + 1) pos l

theorem TL_eq (pos : Nat) (l : List UInt8) : TL pos l = tokAt pos l :: (if (tokAt pos l).kind.last then [] else TL ((tokAt pos l).place + (tokAt pos l).size) (l.drop (Thk.blk false l + (tokAt pos l).size))) := by
  unfold TL
  rw [toksF_succ]
  cases hk : (tokAt pos l).kind.last with
  | true => rfl
  | false =>
    have hs := tokL_size (l.drop (Thk.blk false l)) hk
    have hb := blk_le false l
    rw [List.length_drop] at hs
    have hd : (l.drop (Thk.blk false l + (tokAt pos l).size)).length = l.length - (Thk.blk false l + (tokAt pos l).size) := List.length_drop
    have e : (tokAt pos l).size = (Thk.tokL (l.drop (Thk.blk false l))).size := rfl
    simp only [Bool.false_eq_true, if_false]
    rw [toksF_more l.length _ _ _ (by omega) (Nat.lt_succ_self _)]

theorem toks_TL (l : List UInt8) : Thk.toks l = TL 0 l := rfl

def tokC (p : Thk.Tok × Value) : List Value := [.int .u8 (kindI p.1.kind), .int .i64 p.1.place, .string ⟨p.1.text.toArray⟩, p.2]

theorem tokC_len (ps : List (Thk.Tok × Value)) : (ps.flatMap tokC).length = ps.length * 4 := by
  induction ps with
  | nil => rfl
  | cons x xs ih => simp [tokC, ih] at *; omega

/-- The slice v holds the tokens (each with its spans' slice). -/
def Toks (w : World) (B : Nat) (v : Value) (ps : List (Thk.Tok × Value)) : Prop :=
  w.ownsRow B 207 4 v ps.length (ps.flatMap tokC) ∧ ∀ p ∈ ps, Spans w B p.2 p.1.spans

theorem Toks.below {w w' : World} {B : Nat} {v : Value} {ps : List (Thk.Tok × Value)} (h : Toks w B v ps) (hb : Below w.heap.size w w') : Toks w' B v ps :=
  ⟨own_below h.1 hb, fun p hp => own_below (h.2 p hp) hb⟩

/-- What the loop of Cut keeps. -/
def CutRel (s : ByteArray) (B : Nat) (w0 : World) (j : Nat) (ps : List (Thk.Tok × Value)) (v : Value) (wr : World) : Prop :=
  j ≤ s.size ∧ ps.length ≤ j ∧ Toks wr B v ps ∧ Below B w0 wr ∧ B ≤ wr.heap.size ∧ (∀ p ∈ ps, p.1.kind.last = false) ∧
  Thk.toks s.data.toList = ps.map (·.1) ++ TL j (s.data.toList.drop j)


theorem tokAt_drop (s : ByteArray) (j : Nat) : tokAt j (s.data.toList.drop j) = { Thk.tokL (s.data.toList.drop (j + Thk.blk false (s.data.toList.drop j))) with place := j + Thk.blk false (s.data.toList.drop j) } := by
  unfold tokAt; rw [List.drop_drop]

theorem cell_four_new (w : World) (x y z u : Value) (t : TypeId) : ∀ j q, [x, y, z, u][j]? = some q → (w.alloc (.cells #[x, y, z, u] t)).cell? ((⟨w.heap.size, 0, none⟩ : Addr).add j) = some q := by
  intro j q hj
  match j, hj with
  | 0, hj => simp at hj; subst hj; simp [Addr.add]
  | 1, hj => simp at hj; subst hj; simp [Addr.add]
  | 2, hj => simp at hj; subst hj; simp [Addr.add]
  | 3, hj => simp at hj; subst hj; simp [Addr.add]

theorem nameT_kind (l : List UInt8) : (Thk.nameT l).kind = .bad ∨ (Thk.nameT l).kind = .name := by unfold Thk.nameT; split <;> simp [Thk.badT]
theorem litT_kind (l : List UInt8) : (Thk.litT l).kind = .bad ∨ (Thk.litT l).kind = .lit := by unfold Thk.litT; split <;> simp [Thk.badT]
theorem clsT_kind (l : List UInt8) : (Thk.clsT l).kind = .bad ∨ (Thk.clsT l).kind = .cls := by unfold Thk.clsT; split <;> simp [Thk.badT]

/-- A sign that a token may be. -/
def okKind : Thk.TK → Prop
  | .sign c => Thk.signB c = true
  | _ => True

theorem tokL_ok (l : List UInt8) : okKind (Thk.tokL l).kind := by
  cases l with
  | nil => simp [Thk.tokL, okKind]
  | cons c t =>
    simp only [Thk.tokL]
    split
    · rcases nameT_kind (c :: t) with h | h <;> simp [h, okKind]
    · split
      · simp [okKind]
      · split
        · rcases litT_kind t with h | h <;> simp [h, okKind]
        · split
          · rcases clsT_kind t with h | h <;> simp [h, okKind]
          · split
            · assumption
            · simp [Thk.badT, okKind]

theorem signB_ge {c : UInt8} (h : Thk.signB c = true) : 33 ≤ c.toNat := by
  simp [Thk.signB] at h
  rcases h with rfl | rfl | rfl | rfl | rfl | rfl | rfl | rfl | rfl <;> decide

theorem kindI_last {k : Thk.TK} (hk : okKind k) : (k.last = true ∧ (kindI k = 0 ∨ kindI k = 1)) ∨ (k.last = false ∧ (kindI k == 0) = false ∧ (kindI k == 1) = false) := by
  cases k with
  | fin => left; simp [Thk.TK.last, kindI]
  | bad => left; simp [Thk.TK.last, kindI]
  | sign c =>
    right
    have := signB_ge hk
    refine ⟨rfl, beq_eq_false_iff_ne.2 ?_, beq_eq_false_iff_ne.2 ?_⟩ <;> simp only [kindI] <;> omega
  | _ => right; simp [Thk.TK.last, kindI]

/-- One token more. -/
theorem CutRel.push {s : ByteArray} {B : Nat} {w0 : World} {j : Nat} {ps : List (Thk.Tok × Value)} {v : Value} {wr : World} (h : CutRel s B w0 j ps v wr)
    {T : Thk.Tok} {sv : Value} {w1 w2 : World} {v' : Value} (hb : Below wr.heap.size wr w1) (hsv : Spans w1 wr.heap.size sv T.spans) {O1 O2 : Obj}
    (ho : w2.ownsRow B 207 4 v' (ps.length + 1) (ps.flatMap tokC ++ tokC (T, sv))) (hg : ((w1.alloc O1).alloc O2).grownBy w2 v.ownBlock) :
    Toks w2 B v' (ps ++ [(T, sv)]) ∧ Below B w0 w2 ∧ B ≤ w2.heap.size := by
  obtain ⟨h1, h2, h3, h4, h5, h6⟩ := h
  have hs := hg.size
  have hs1 := hb.size
  simp at hs
  have hK : ∀ {e : TypeId} {sz : Nat} {u : Value} {n : Nat} {xs : List Value}, w1.ownsRow B e sz u n xs → e ≠ 207 → w2.ownsRow B e sz u n xs := by
    intro e sz u n xs hu he
    refine ((hu.alloc O1).alloc O2).kept hg ?_
    rcases hu.2 with ⟨rfl, _⟩ | ⟨g, cap, cur, rfl, _, hc, _⟩
    · left; rfl
    · right
      intro hx
      rcases (own_below h3.1 hb).2 with ⟨rfl, _⟩ | ⟨g', cap', cur', rfl, _, hc', _⟩
      · simp [Value.ownBlock] at hx
      · simp [Value.ownBlock] at hx
        subst hx
        rw [hc] at hc'
        simp at hc'
        exact he hc'.2
  refine ⟨⟨by simpa using ho, ?_⟩, ?_, by omega⟩
  · intro p hp
    rcases List.mem_append.1 hp with hp | hp
    · exact hK (own_below (h3.2 p hp) hb) (by decide)
    · simp at hp; subst hp
      exact hK (own_mono hsv h5) (by decide)
  · exact (((h4.trans (hb.mono h5)).alloc (by omega) O1).alloc (by simp; omega) O2).grown hg (by simp; omega) (fun g hg' => (h3.1.lt g hg').1)

set_option maxHeartbeats 2000000 in
set_option maxRecDepth 100000 in
theorem cut_any (s : ByteArray) (w : World) (hs : s.size ≤ 2000) :
    Calls Tryz.prog 67 #[.string s] w fun e w' => ∃ a c ps, e = .returned (.slice (some a) (Thk.toks s.data.toList).length c) ∧ Below w.heap.size w w' ∧
      ps.map (·.1) = Thk.toks s.data.toList ∧ Toks w' w.heap.size (.slice (some a) (Thk.toks s.data.toList).length c) ps := by
  obtain ⟨i0, hi, hz0, hz1, hz2⟩ := info_parts Tryz.infoTok
  go_enter Tryz.func67, Tryz.ntmps67
  go_wp2_with fail
  go_loopw [3, 4] (fun v i wr => ∃ (j : Nat) (ps : List (Thk.Tok × Value)), i = .int .i64 j ∧ CutRel s w.heap.size w j ps v wr) (fun _ i _ => s.size - (intOf i).toNat)
  case atStart =>
    refine ⟨0, [], rfl, by omega, by simp, ⟨World.ownsRow_nil _ _ _ _, by simp⟩, Below.refl _ _, Nat.le_refl _, by simp, ?_⟩
    rw [toks_TL]; simp
  case round =>
    obtain ⟨j, ps, rfl, hR⟩ := hrel
    have hj := hR.1
    have hbl := blk_le false (s.data.toList.drop j)
    rw [List.length_drop, show s.data.toList.length = s.size from rfl] at hbl
    obtain ⟨T, hT⟩ : ∃ T, T = Thk.tokL (s.data.toList.drop (j + Thk.blk false (s.data.toList.drop j))) := ⟨_, rfl⟩
    obtain ⟨r, hr⟩ : ∃ r, r = j + Thk.blk false (s.data.toList.drop j) := ⟨_, rfl⟩
    have hrs : r ≤ s.size := by omega
    have hsk := fun w => skipBlanks_of s j r w hj hs hr.symm
    have htk := fun w => tokenAt_any s r w hs hrs
    rw [← hr] at hT
    rw [← hT] at htk
    have HT : Hid (tokAt j (s.data.toList.drop j) = { T with place := r }) := by rw [tokAt_drop, ← hr, ← hT]; rfl
    have HR : Hid (r = j + Thk.blk false (s.data.toList.drop j)) := hr
    have HTT : Hid (T = Thk.tokL (s.data.toList.drop r)) := hT
    clear hr hT hbl
    have hown := hR.2.2.1.1
    have hxl := hR.2.1
    have hB := hR.2.2.2.2.1
    go_wp2_with (first | (go_at_call 99; refine (hsk _).mono ?_; rintro e w' ⟨rfl, rfl⟩) | (go_at_call 100; refine (htk _).mono ?_; rintro e w1 ⟨v, rfl, hb1, hv⟩; obtain ⟨a0, c0, rfl⟩ := own_form hv; have hown1 := own_below hown hb1; have hsz1 := hb1.size; simp only [tokV]) | (at_builtin; refine wpList_append_own _ rfl _ _ 151 rfl (w.heap.size) 207 i0 _ 4 56 Tryz.underlying151 hi hz0 hz1 hz2 rfl (by decide) _ _ _ rfl ((hown1.alloc _).alloc _) ⟨w1.heap.size + 1, 0, none⟩ 1 1 (tokC ({ T with place := r }, .slice a0 T.spans.length c0)) rfl rfl ?c1 ?c2 ?c3 ?c4 ?c5 ?_))
    case c1 => rw [← World.size_alloc w1 (Obj.cells #[Value.int IntKind.u8 (kindI T.kind), Value.int IntKind.i64 ↑r, Value.string ⟨List.toArray T.text⟩, Value.slice a0 T.spans.length c0] 207)]; exact cell_four_new _ _ _ _ _ _
    case c2 => intro u hu; simp [tokC] at hu; rcases hu with rfl | rfl | rfl | rfl <;> rfl
    case c3 => unfold maxLen; omega
    case c4 => omega
    case c5 => simp; omega
    intro v' w2 hown' hgrow hnn
    have hP := hR.push (T := { T with place := r }) (sv := .slice a0 T.spans.length c0) hb1 hv hown' hgrow
    have hcell : w2.cell? ⟨w1.heap.size, 0, none⟩ = some (.int .u8 (kindI T.kind)) := by
      refine hgrow.cell ?_ ?_
      · rw [World.cell?_alloc_lt _ _ _ (by simp)]; simp
      · intro hx
        have := (hown1.lt _ hx.symm)
        simp at this
    have hTok : okKind T.kind := by rw [HTT.out]; exact tokL_ok _
    have hTL := TL_eq j (s.data.toList.drop j)
    rw [HT.out] at hTL
    have HTL : Hid (TL j (s.data.toList.drop j) = _) := hTL
    have hall := hR.2.2.2.2.2.2
    have hpl := hR.2.2.2.2.2.1
    have HALL : Hid (Thk.toks s.data.toList = ps.map (·.1) ++ TL j (s.data.toList.drop j)) := hall
    clear hTL hall hR hown hown1 hown' hgrow hv hb1 hsk htk
    rcases kindI_last hTok with ⟨hl, hk⟩ | ⟨hl, hk0, hk1⟩
    · have hD : ps.map (·.1) ++ [{ T with place := r }] = Thk.toks s.data.toList := by
        rw [HALL.out, HTL.out, if_pos hl]
      have hLen : (Thk.toks s.data.toList).length = ps.length + 1 := by rw [← hD]; simp
      obtain ⟨hP1, hP2, hP3⟩ := hP
      have hvf : ∃ a c, v' = .slice (some a) (ps.length + 1) c := by
        rcases hP1.1.2 with ⟨h, _⟩ | ⟨g, cap, cur, h, _⟩
        · exact absurd h hnn
        · exact ⟨_, _, by simpa using h⟩
      obtain ⟨a, c, rfl⟩ := hvf
      have hfin : ∃ a1 c1 ps1, Ending.returned (.slice (some a) (ps.length + 1) c) = .returned (.slice (some a1) (Thk.toks s.data.toList).length c1) ∧ Below w.heap.size w w2 ∧
          ps1.map (·.1) = Thk.toks s.data.toList ∧ Toks w2 w.heap.size (.slice (some a1) (Thk.toks s.data.toList).length c1) ps1 :=
        ⟨a, c, ps ++ [({ T with place := r }, .slice a0 T.spans.length c0)], by rw [hLen], hP2, by rw [← hD]; simp, by rw [hLen]; exact hP1⟩
      have HF : Hid _ := hfin
      clear hfin hP1 hP2 hP3 hLen hD HALL HTL HT HTT
      have hk' : (kindI T.kind == 0) = true ∨ ((kindI T.kind == 0) = false ∧ (kindI T.kind == 1) = true) := by
        rcases hk with h | h <;> rw [h]
        · left; rfl
        · right; exact ⟨rfl, rfl⟩
      rcases hk' with hk0 | ⟨hk0, hk1⟩
      · go_wp2
        go_ret
        exact HF.out
      · go_wp2
        go_ret
        exact HF.out
    · have hs1 := tokL_size (s.data.toList.drop r) (by rw [← HTT.out]; exact hl)
      rw [← HTT.out, List.length_drop, show s.data.toList.length = s.size from rfl] at hs1
      obtain ⟨hs1, hs2⟩ := hs1
      have hN : CutRel s w.heap.size w (r + T.size) (ps ++ [({ T with place := r }, .slice a0 T.spans.length c0)]) v' w2 := by
        refine ⟨by omega, by have := HR.out; simp; omega, hP.1, hP.2.1, hP.2.2, ?_, ?_⟩
        · intro p hp
          rcases List.mem_append.1 hp with hp | hp
          · exact hpl p hp
          · simp at hp; subst hp; exact hl
        · rw [HALL.out, HTL.out, if_neg (by simp [hl])]
          have e : j + (Thk.blk false (s.data.toList.drop j) + T.size) = r + T.size := by have := HR.out; omega
          simp only [List.drop_drop, e, List.map_append, List.map_cons, List.map_nil, List.append_assoc, List.cons_append, List.nil_append]
      clear hP hpl HALL HTL HT
      go_wp2
      go_roundw
      case rel => exact ⟨r + T.size, _, by go_num, hN⟩
      case measure => have := HR.out; simp [intOf]; omega
end Go.Proofs.YtjmcdklhaieldaaGreatDoor
