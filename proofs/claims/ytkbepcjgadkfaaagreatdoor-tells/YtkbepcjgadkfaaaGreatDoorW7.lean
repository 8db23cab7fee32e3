import Derived.Test.YtkbepcjgadkfaaaGreatDoorWB
set_option linter.all false
namespace Go.Proofs.YtkbepcjgadkfaaaGreatDoor
open Go.RowKit

theorem Tryz.infoSpan : (Tryz.prog.info? 267).map (fun i => (i.zero, i.size, i.bytes)) = some (some (.agg #[.int .u8 0, .int .u8 0]), 2, 2) := by kernel_rfl

theorem spanL_le {l : List UInt8} {c : Thk.Span} {n : Nat} (h : Thk.spanL l = some (c, n)) : 1 ≤ n ∧ n ≤ l.length := by
  unfold Thk.spanL at h
  cases hc : Thk.charL [93, 45] l with
  | none => rw [hc] at h; cases h
  | some p =>
    obtain ⟨lo, m⟩ := p
    have h1 := charL_le hc
    rw [hc] at h
    simp only [] at h
    split at h
    · cases hd : Thk.charL [93, 45] (l.drop (m + 1)) with
      | none => rw [hd] at h; cases h
      | some q =>
        obtain ⟨hi, r⟩ := q
        have h2 := charL_le hd
        rw [hd] at h
        simp only [] at h
        have hl : (l.drop (m + 1)).length = l.length - (m + 1) := List.length_drop
        split at h
        · simp at h; omega
        · cases h
    · simp at h; omega

theorem spansF_more : ∀ (f g : Nat) (l : List UInt8), l.length ≤ f → l.length ≤ g → Thk.spansF f l = Thk.spansF g l
  | 0, 0, _, _, _ => rfl
  | 0, g + 1, l, hf, _ => by
    have : l = [] := List.length_eq_zero_iff.1 (by omega)
    subst this; simp [Thk.spansF, Thk.spanL, Thk.charL]
  | f + 1, 0, l, _, hg => by
    have : l = [] := List.length_eq_zero_iff.1 (by omega)
    subst this; simp [Thk.spansF, Thk.spanL, Thk.charL]
  | f + 1, g + 1, l, hf, hg => by
    simp only [Thk.spansF]
    cases hc : Thk.spanL l with
    | none => rfl
    | some p =>
      obtain ⟨c, n⟩ := p
      have := spanL_le hc
      have hd : (l.drop n).length = l.length - n := List.length_drop
      simp only []
      rw [spansF_more f g (l.drop n) (by omega) (by omega)]

theorem spansL_none {l : List UInt8} (h : Thk.spanL l = none) : Thk.spansL l = ([], 0) := by
  unfold Thk.spansL
  cases hl : l.length with
  | zero => rfl
  | succ f => simp [Thk.spansF, h]

theorem spansL_some {l : List UInt8} {c : Thk.Span} {n : Nat} (h : Thk.spanL l = some (c, n)) :
    Thk.spansL l = (c :: (Thk.spansL (l.drop n)).1, n + (Thk.spansL (l.drop n)).2) := by
  have hle := spanL_le h
  unfold Thk.spansL
  cases hl : l.length with
  | zero => omega
  | succ f =>
    have hd : (l.drop n).length = l.length - n := List.length_drop
    rw [hd, hl]
    simp only [Thk.spansF, h]
    rw [spansF_more f (f + 1 - n) (l.drop n) (by omega) (by omega)]

def spanC (p : Thk.Span) : List Value := [.int .u8 p.1.toNat, .int .u8 p.2.toNat]

theorem spanC_len (xs : List Thk.Span) : (xs.flatMap spanC).length = xs.length * 2 := by
  induction xs with
  | nil => rfl
  | cons x xs ih => simp [spanC, ih] at *; omega

/-- The slice v holds the spans. -/
def Spans (w : World) (B : Nat) (v : Value) (xs : List Thk.Span) : Prop := w.ownsRow B 267 2 v xs.length (xs.flatMap spanC)

/-- What the loop of classAt keeps. -/
def ClsRel (s : ByteArray) (k0 : Nat) (X : List Thk.Span × Nat) (B : Nat) (w0 : World) (j : Nat) (xs : List Thk.Span) (v : Value) (wr : World) : Prop :=
  k0 + j ≤ s.size ∧ xs.length ≤ j ∧ Spans wr B v xs ∧ Below B w0 wr ∧ B ≤ wr.heap.size ∧
  X = (xs ++ (Thk.spansL (s.data.toList.drop (k0 + j))).1, j + (Thk.spansL (s.data.toList.drop (k0 + j))).2)

/-- A row that is owned stays so behind what leaves all old blocks as they are. -/
theorem own_below {w w' : World} {base : Nat} {e : TypeId} {size : Nat} {v : Value} {n : Nat} {xs : List Value} (h : w.ownsRow base e size v n xs) (hb : Below w.heap.size w w') : w'.ownsRow base e size v n xs := by
  obtain ⟨h1, h2⟩ := h
  refine ⟨h1, ?_⟩
  rcases h2 with h2 | ⟨g, cap, cur, hv, hg, hh, r⟩
  · exact Or.inl h2
  · refine Or.inr ⟨g, cap, cur, hv, hg, ?_, r⟩
    rw [hb.block g ?_]; exact hh
    rcases Nat.lt_or_ge g w.heap.size with h | h
    · exact h
    · rw [Array.getElem?_eq_none h] at hh; cases hh

theorem own_mono {w : World} {base base' : Nat} {e : TypeId} {size : Nat} {v : Value} {n : Nat} {xs : List Value} (h : w.ownsRow base e size v n xs) (hb : base' ≤ base) : w.ownsRow base' e size v n xs := by
  obtain ⟨h1, h2⟩ := h
  refine ⟨h1, ?_⟩
  rcases h2 with h2 | ⟨g, cap, cur, hv, hg, r⟩
  · exact Or.inl h2
  · exact Or.inr ⟨g, cap, cur, hv, Nat.le_trans hb hg, r⟩

theorem ClsRel.next {s : ByteArray} {k0 : Nat} {X : List Thk.Span × Nat} {B : Nat} {w0 : World} {j : Nat} {xs : List Thk.Span} {v : Value} {wr : World} (h : ClsRel s k0 X B w0 j xs v wr)
    {c : Thk.Span} {n : Nat} (hc : Thk.spanL (s.data.toList.drop (k0 + j)) = some (c, n)) {v' : Value} {w1 w' : World} (hb : Below wr.heap.size wr w1)
    (ho : w'.ownsRow B 267 2 v' (xs.length + 1) (xs.flatMap spanC ++ spanC c)) (hg : w1.grownBy w' v.ownBlock) : ClsRel s k0 X B w0 (j + n) (xs ++ [c]) v' w' := by
  obtain ⟨h1, h2, h3, h4, h5, h6⟩ := h
  have hle := spanL_le hc
  rw [List.length_drop, show s.data.toList.length = s.size from rfl] at hle
  have hs := hg.size
  have hs1 := hb.size
  refine ⟨by omega, by simp; omega, by simpa [Spans] using ho, ?_, by omega, ?_⟩
  · exact (h4.trans (hb.mono h5)).grown hg (by omega) (fun g hg' => (h3.lt g hg').1)
  · rw [h6, spansL_some hc, List.drop_drop, show k0 + j + n = k0 + (j + n) from by omega]
    simp
    omega

theorem ClsRel.done {s : ByteArray} {k0 : Nat} {X : List Thk.Span × Nat} {B : Nat} {w0 : World} {j : Nat} {xs : List Thk.Span} {v : Value} {wr : World} (h : ClsRel s k0 X B w0 j xs v wr)
    (hc : Thk.spanL (s.data.toList.drop (k0 + j)) = none) : X = (xs, j) := by
  obtain ⟨_, _, _, _, _, h6⟩ := h
  rw [h6, spansL_none hc]
  simp

theorem spanAt_of (s : ByteArray) (k : Nat) (w : World) (hs : s.size ≤ 2000) (hk : k ≤ s.size) {o : Option (Thk.Span × Nat)} (h : Thk.spanL (s.data.toList.drop k) = o) :
    Calls Tryz.prog 147 #[.string s, .int .i64 k] w fun e w' => e = .returned (spv o) ∧ Below w.heap.size w w' := h ▸ spanAt_any s k w hs hk

theorem cell_two_new' (w : World) (x y : Value) (t : TypeId) : ∀ j u, [x, y][j]? = some u → (w.alloc (.cells #[x, y] t)).cell? ((⟨w.heap.size, 0, none⟩ : Addr).add j) = some u := by
  intro j u hj
  match j, hj with
  | 0, hj => simp at hj; subst hj; simp [Addr.add]
  | 1, hj => simp at hj; subst hj; simp [Addr.add]

set_option maxHeartbeats 1000000 in
set_option maxRecDepth 100000 in
theorem classAt_any (s : ByteArray) (k : Nat) (w : World) (hs : s.size ≤ 2000) (hk : k < s.size) :
    Calls Tryz.prog 126 #[.string s, .int .i64 k] w fun e w' => ∃ v,
      e = .returned (.tuple #[tokV (Thk.clsT (s.data.toList.drop (k + 1))) v, .int .i64 (Thk.clsT (s.data.toList.drop (k + 1))).size]) ∧ Below w.heap.size w w' ∧ Spans w' w.heap.size v (Thk.clsT (s.data.toList.drop (k + 1))).spans := by
  obtain ⟨X, hX⟩ : ∃ X, X = Thk.spansL (s.data.toList.drop (k + 1)) := ⟨_, rfl⟩
  obtain ⟨T, hT⟩ : ∃ T, T = Thk.clsT (s.data.toList.drop (k + 1)) := ⟨_, rfl⟩
  obtain ⟨C, hC⟩ : ∃ C, C = Thk.closesL (s.data.toList.drop (k + 1)) X.2 93 X.1.length := ⟨_, rfl⟩
  rw [← hT]
  have HT : Hid (T = if C then ⟨.cls, 0, X.2 + 2, [], X.1⟩ else Thk.badT) := by rw [hC, hX]; exact hT
  have HX : Hid (X = Thk.spansL (s.data.toList.drop (k + 1))) := hX
  have HC : Hid (C = Thk.closesL (s.data.toList.drop (k + 1)) X.2 93 X.1.length) := hC
  clear hX hT hC
  obtain ⟨i0, hi, hz0, hz1, hz2⟩ := info_parts Tryz.infoSpan
  go_enter Tryz.func126, Tryz.ntmps126
  go_wp2_with fail
  go_loopw [6, 7] (fun v i wr => ∃ (j : Nat) (xs : List Thk.Span), i = .int .i64 ↑(k + 1 + j) ∧ ClsRel s (k + 1) X (w.heap.size + 1) (w.alloc (.cells #[.int .u8 0, .int .i64 0, .string ⟨#[]⟩, .slice none 0 0] 191)) j xs v wr) (fun _ i _ => s.size - (intOf i).toNat)
  case atStart =>
    refine ⟨0, [], by go_num, by omega, by simp, World.ownsRow_nil _ _ _ _, Below.refl _ _, by simp, ?_⟩
    rw [HX.out]; simp
  case round =>
    obtain ⟨j, xs, rfl, hR⟩ := hrel
    have hR1 := hR.1
    cases hc : Thk.spanL (s.data.toList.drop (k + 1 + j)) with
    | some p =>
      obtain ⟨c, n⟩ := p
      have HCC : Hid (Thk.spanL (s.data.toList.drop (k + 1 + j)) = some (c, n)) := hc
      have hcall := spanAt_of s (k + 1 + j) wr hs (by omega) hc
      simp only [spv] at hcall
      clear hc
      have hpos := (spanL_le HCC.out).1
      have hle := (spanL_le HCC.out).2
      rw [List.length_drop, show s.data.toList.length = s.size from rfl] at hle
      have ht : ((n : Int) == 0) = false := beq_eq_false_iff_ne.2 (by omega)
      have hown : wr.ownsRow (w.heap.size + 1) 267 2 u6 xs.length (xs.flatMap spanC) := hR.2.2.1
      have hxl := hR.2.1
      have hB := hR.2.2.2.2.1
      go_wp2_with (first | (go_at_call 147; refine hcall.mono ?_; rintro e w1 ⟨rfl, hb1⟩; have hown1 := own_below hown hb1; have hsz1 := hb1.size) | (at_builtin; refine wpList_append_own _ rfl _ _ 189 rfl (w.heap.size + 1) 267 i0 _ 2 2 Tryz.underlying189 hi hz0 hz1 hz2 rfl (by decide) _ _ _ rfl ((hown1.alloc _).alloc _) ⟨w1.heap.size + 1, 0, none⟩ 1 1 (spanC c) rfl rfl ?c1 ?c2 ?c3 ?c4 ?c5 ?_))
      case c1 => rw [← World.size_alloc w1 (Obj.cells #[Value.int IntKind.u8 ↑c.fst.toNat, Value.int IntKind.u8 ↑c.snd.toNat] 267)]; exact cell_two_new' _ _ _ _
      case c2 => intro u hu; simp [spanC] at hu; rcases hu with rfl | rfl <;> rfl
      case c3 => unfold maxLen; omega
      case c4 => omega
      case c5 => simp; omega
      intro v' w2 hown' hgrow _
      have hN := hR.next HCC.out ((hb1.alloc hsz1 _).alloc (by simp; omega) _) hown' hgrow
      clear hown' hgrow hown hB hxl hR hcall hown1 hb1
      go_wp2
      go_roundw
      case rel => exact ⟨j + n, xs ++ [c], by go_num, hN⟩
      case measure => simp [intOf]; omega
    | none =>
      have hcall := spanAt_of s (k + 1 + j) wr hs (by omega) hc
      simp only [spv] at hcall
      have hD := hR.done hc
      clear hc
      subst hD
      have hown : wr.ownsRow (w.heap.size + 1) 267 2 u6 xs.length (xs.flatMap spanC) := hR.2.2.1
      have hxl := hR.2.1
      have hB := hR.2.2.2.2.1
      have hBl := hR.2.2.2.1
      have hcl := fun w => closes_any s (k + 1) j xs.length 93 w hs (by omega) hR1
      simp only [← HC.out] at hcl
      obtain ⟨a0, cp, hv⟩ := own_form hown
      subst hv
      have hlt : w.heap.size < wr.heap.size := by omega
      cases hCC : C with
      | true =>
        subst hCC
        simp only [if_true] at HT
        have e1 := HT.out
        subst e1
        clear HT HX
        have HOWN : Hid (wr.ownsRow (w.heap.size + 1) 267 2 (.slice a0 xs.length cp) xs.length (xs.flatMap spanC)) := hown
        clear hR hown
        go_wp2_with (first | (go_at_call 147; refine hcall.mono ?_; rintro e w1 ⟨rfl, hb1⟩; obtain ⟨hc0, hf0⟩ := bcell ((Below.mono (B' := (w.alloc (.cells #[.int .u8 0, .int .i64 0, .string ⟨#[]⟩, .slice none 0 0] 191)).heap.size) hBl (by simp)).trans (hb1.mono (by simp; omega))); have hsz1 := hb1.size; have hlt1 : w.heap.size < w1.heap.size := (by omega)) | (go_at_call 146; refine (hcl _).mono ?_; rintro e w' ⟨rfl, rfl⟩))
        refine bodyPost_ret (v := .tuple #[.agg #[.int .u8 5, .int .i64 0, .string ⟨#[]⟩, .slice a0 xs.length cp], .int .i64 (↑k + 1 + ↑j + 1 - ↑k)]) (by simp [results, Tryz.results126, go_sem, hc0, hlt1]) rfl ⟨.slice a0 xs.length cp, by rw [show ((k : Int) + 1 + j + 1 - k) = ((j + 2 : Nat) : Int) from by omega]; rfl, ?_, ?_⟩
        · exact (((((((((Below.refl _ _).alloc (Nat.le_refl _) _).trans (hBl.mono (by simp))).trans (hb1.mono (by omega)))).setCell (Nat.le_refl _) _).setCell (Nat.le_refl _) _).setCell (Nat.le_refl _) _).setCell (Nat.le_refl _) _).alloc (by simp; omega) _
        · exact own_mono ((ownsRow_setCell_below (ownsRow_setCell_below (ownsRow_setCell_below (ownsRow_setCell_below (own_below HOWN.out hb1) (Nat.lt_succ_self _) _) (Nat.lt_succ_self _) _) (Nat.lt_succ_self _) _) (Nat.lt_succ_self _) _).alloc _) (Nat.le_succ _)
      | false =>
        subst hCC
        have e1 := HT.out
        simp at e1
        subst e1
        clear HT HX hown hR
        go_wp2_with (first | (go_at_call 147; refine hcall.mono ?_; rintro e w1 ⟨rfl, hb1⟩; obtain ⟨hc0, hf0⟩ := bcell ((Below.mono (B' := (w.alloc (.cells #[.int .u8 0, .int .i64 0, .string ⟨#[]⟩, .slice none 0 0] 191)).heap.size) hBl (by simp)).trans (hb1.mono (by simp; omega))); have hsz1 := hb1.size; have hlt1 : w.heap.size < w1.heap.size := (by omega)) | (go_at_call 146; refine (hcl _).mono ?_; rintro e w' ⟨rfl, rfl⟩) | (go_at_call 128; refine (bad_any _).mono ?_; rintro e w2 ⟨rfl, hb⟩; obtain ⟨hc1, hf1⟩ := bcell hb; have hz := hb.size; simp only [tokV, Thk.badT, kindI]))
        have q : ∀ o, w2.cell? ⟨w.heap.size, o, none⟩ = (#[.int .u8 0, .int .i64 0, .string ⟨#[]⟩, .slice none 0 0] : Array Value)[o]? := fun o => by
          rw [hc1 _ _ (by simp; omega), World.cell?_alloc_lt _ _ _ hlt1, hc0 _ _ (by simp)]; simp
        clear hc1 hc0
        refine bodyPost_ret (v := .tuple #[tokV Thk.badT (.slice none 0 0), .int .i64 0]) (by simp [results, Tryz.results126, go_sem, tokV, kindI, Thk.badT, q]) rfl ⟨_, rfl, ?_, World.ownsRow_nil _ _ _ _⟩
        exact ((((((((((Below.refl _ _).alloc (Nat.le_refl _) _).trans (hBl.mono (by simp))).trans (hb1.mono (by omega))).alloc (by omega) _).trans (hb.mono (by simp; omega)))).setCell (Nat.le_refl _) _).setCell (Nat.le_refl _) _).setCell (Nat.le_refl _) _).setCell (Nat.le_refl _) _
end Go.Proofs.YtkbepcjgadkfaaaGreatDoor
