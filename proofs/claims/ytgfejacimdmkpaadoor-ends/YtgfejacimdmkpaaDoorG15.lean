import Derived.Test.YtgfejacimdmkpaaDoorG14
set_option linter.all false
namespace Go.Proofs.YtgfejacimdmkpaaDoor
open Go.RowKit

theorem TL_good (N : Nat) : ∀ (pos : Nat) (l : List UInt8), l.length ≤ N → (TL pos l).length ≤ l.length + 1 ∧ TL pos l ≠ [] ∧ ∀ i (h : i < (TL pos l).length), okKind (TL pos l)[i].kind ∧ ((TL pos l)[i].kind.last = false → i + 1 < (TL pos l).length) := by
  induction N with
  | zero =>
    intro pos l hl
    have : l = [] := List.length_eq_zero_iff.1 (by omega)
    subst this
    refine ⟨by rw [show TL pos [] = [⟨.fin, pos, 0, [], []⟩] from rfl]; simp, by rw [TL_eq]; simp, ?_⟩
    intro i h
    have e : TL pos [] = [⟨.fin, pos, 0, [], []⟩] := rfl
    simp only [e] at h ⊢
    simp at h
    subst h
    simp [okKind, Thk.TK.last]
  | succ N ih =>
    intro pos l hl
    rw [TL_eq]
    have hok : okKind (tokAt pos l).kind := tokL_ok _
    cases hk : (tokAt pos l).kind.last with
    | true =>
      simp only [if_true]
      refine ⟨by simp, by simp, ?_⟩
      intro i h
      simp at h
      subst h
      simp only [List.getElem_cons_zero]
      exact ⟨hok, fun hx => by rw [hk] at hx; cases hx⟩
    | false =>
      have hs := tokL_size (l.drop (Thk.blk false l)) hk
      have hb := blk_le false l
      rw [List.length_drop] at hs
      have hd : (l.drop (Thk.blk false l + (tokAt pos l).size)).length = l.length - (Thk.blk false l + (tokAt pos l).size) := List.length_drop
      have e : (tokAt pos l).size = (Thk.tokL (l.drop (Thk.blk false l))).size := rfl
      simp only [Bool.false_eq_true, if_false]
      obtain ⟨h1, h2, h3⟩ := ih ((tokAt pos l).place + (tokAt pos l).size) (l.drop (Thk.blk false l + (tokAt pos l).size)) (by omega)
      generalize TL ((tokAt pos l).place + (tokAt pos l).size) (l.drop (Thk.blk false l + (tokAt pos l).size)) = L at *
      refine ⟨by simp; omega, by simp, ?_⟩
      intro i h
      cases i with
      | zero =>
        simp only [List.getElem_cons_zero]
        refine ⟨hok, fun _ => ?_⟩
        cases L with
        | nil => exact absurd rfl h2
        | cons _ _ => simp
      | succ i =>
        simp only [List.getElem_cons_succ]
        have := h3 i (by simpa using h)
        exact ⟨this.1, fun hx => by have := this.2 hx; simp; omega⟩

theorem charsL_le' (m l : List UInt8) : (Thk.charsL m l).1.length ≤ l.length := by have := charsL_le m l; omega

theorem tokL_text (l : List UInt8) : (Thk.tokL l).text.length ≤ l.length := by
  cases l with
  | nil => simp [Thk.tokL]
  | cons c t =>
    simp only [Thk.tokL]
    split
    · unfold Thk.nameT; split
      · simp [Thk.badT]
      · simp only [List.length_take]; omega
    · split
      · simp
      · split
        · unfold Thk.litT; split
          · have := charsL_le' [39] t; simp only [List.length_cons]; omega
          · simp [Thk.badT]
        · split
          · unfold Thk.clsT; split <;> simp [Thk.badT]
          · split <;> simp [Thk.badT]

theorem toksF_text : ∀ (f pos : Nat) (l : List UInt8), ∀ t ∈ Thk.toksF f pos l, t.text.length ≤ l.length
  | 0, _, _, t, h => by simp [Thk.toksF] at h
  | f + 1, pos, l, t, h => by
    rw [toksF_succ] at h
    have hb := blk_le false l
    rcases List.mem_cons.1 h with rfl | h
    · have := tokL_text (l.drop (Thk.blk false l))
      rw [List.length_drop] at this
      show (Thk.tokL (l.drop (Thk.blk false l))).text.length ≤ _
      omega
    · split at h
      · cases h
      · have := toksF_text f _ _ t h
        rw [List.length_drop] at this
        omega
theorem toks_text (l : List UInt8) : ∀ t ∈ Thk.toks l, t.text.length ≤ l.length := toksF_text _ _ _

theorem good_ps {l : List UInt8} {ps : List (Thk.Tok × Value)} (h : ps.map (·.1) = Thk.toks l) : GoodP ps ∧ 0 < ps.length ∧ ps.length ≤ l.length + 1 := by
  obtain ⟨h1, h2, h3⟩ := TL_good l.length 0 l (Nat.le_refl _)
  rw [← toks_TL, ← h] at h1 h2 h3
  simp only [List.length_map] at h1 h3
  refine ⟨?_, ?_, h1⟩
  · intro i hi
    have := h3 i hi
    simpa using this
  · cases ps with
    | nil => simp at h2
    | cons _ _ => simp

/-- The document's reading of a text, in so many words of the program's. -/
inductive PRead (l : List UInt8) : Except (Nat × Nat) (List Thk.Rule) → Prop
  | long : 2000 < l.length → PRead l (.error (1, 0))
  | read {res} : l.length ≤ 2000 → Thk.PGram 0 (Thk.toks l) res → PRead l res

def ReadPost (l : List UInt8) (w : World) (e : Ending) (w' : World) : Prop :=
  ∃ res, PRead l res ∧ Below w.heap.size w w' ∧ match res with
    | .ok g => g ≠ [] ∧ g.length ≤ 20 ∧ ∃ a cp, e = .returned (.tuple #[.slice (some a) g.length cp, .nilIface]) ∧ RGram w' (w.heap.size ≤ ·) g (.slice (some a) g.length cp)
    | .error (er, p) => e = .returned (.tuple #[.slice none 0 0, faultV er p])

theorem Kp.below {rb B : Nat} {w w' : World} (h : Kp rb B w w') (hr : B ≤ rb) : Below B w w' := ⟨h.os, h.tape, h.output, h.size, fun k hk => h.block k hk (by omega)⟩

set_option maxHeartbeats 4000000 in
set_option maxRecDepth 100000 in
theorem read_any (s : ByteArray) (w : World) (hs : s.size ≤ maxLen) :
    Calls Tryd.prog 14 #[.string s] w fun e w' => ReadPost s.data.toList w e w' := by
  unfold maxLen at hs
  have hll : s.data.toList.length = s.size := rfl
  by_cases hl : 2000 < s.size
  · have hl' : (2000 : Int) < s.size := by omega
    go_enter Tryd.func14, Tryd.ntmps14
    go_wp2_with fail
    go_ret2
    exact ⟨.error (1, 0), .long (by rw [hll]; exact hl), Below.refl _ _, rfl⟩
  · have hl' : ¬ (2000 : Int) < s.size := by omega
    have hct := cut_any s w (by omega)
    go_enter Tryd.func14, Tryd.ntmps14
    go_wp2_with fail
    refine hct.mono ?_
    rintro e w1 ⟨a, c, ps, rfl, hb, hps, htk⟩
    obtain ⟨hg, hpos, hlen⟩ := good_ps hps
    have hpl : ps.length = (Thk.toks s.data.toList).length := by rw [← hps]; simp
    obtain ⟨tb, rfl⟩ : ∃ tb, a = ⟨tb, 0, none⟩ := by
      rcases htk.1.2 with ⟨h, _⟩ | ⟨g', cap, cur, h, _⟩
      · cases h
      · simp only [Value.slice.injEq, Option.some.injEq] at h; exact ⟨g', h.1⟩
    rw [← hpl] at htk ⊢
    obtain ⟨O, hO⟩ : ∃ O : Obj, O = .cells #[.slice (some ⟨tb, 0, none⟩) ps.length c, .int .i64 0, .int .i64 0] 61 := ⟨_, rfl⟩
    have hRd : Rd (w1.alloc O) w1.heap.size tb c ps 0 0 := by
      refine ⟨by rw [hO]; exact heap_alloc_same _ _, ?_, by omega, ?_⟩
      rotate_left
      · intro p hp
        have h1 : p.1 ∈ Thk.toks s.data.toList := by rw [← hps]; exact List.mem_map_of_mem hp
        have := toks_text s.data.toList p.1 h1
        omega
      have := htk.below (below_alloc w1 O)
      exact ⟨own_mono this.1 (Nat.zero_le _), fun p hp => own_mono (this.2 p hp) (Nat.zero_le _)⟩
    have hgr := grammar_any (w1.alloc O) w1.heap.size tb c ps 0 hRd hg hpos
    have hts : tsOf ps 0 = Thk.toks s.data.toList := by unfold tsOf; rw [hps]; rfl
    rw [hts] at hgr
    have hsz := hb.size
    have HB : Hid (Below w.heap.size w w1) := hb
    have HL : Hid (s.data.toList.length ≤ 2000) := by show _ ≤ _; omega
    subst hO
    clear hct hRd hps htk hts hb hpl
    go_wp2_with fail
    refine hgr.mono ?_
    rintro e w2 ⟨res, hP, hK, hE⟩
    have hB2 : Below w.heap.size w w2 := (HB.out.trans ((below_alloc _ _).mono hsz)).trans ((Kp.below (hK.mono (by simp)) (by exact Nat.le_refl _) : Below w1.heap.size _ w2).mono hsz)
    have HP : Hid (Thk.PGram 0 (Thk.toks s.data.toList) res) := hP
    have HB2 : Hid (Below w.heap.size w w2) := hB2
    clear hgr hP hB2 hK
    cases res with
    | error x =>
      obtain ⟨er, p⟩ := x
      simp only [faultV] at hE
      subst hE
      go_wp2_with fail
      go_ret2
      exact ⟨.error (er, p), .read HL.out HP.out, HB2.out, rfl⟩
    | ok g =>
      obtain ⟨h1, h2, a', cp, rfl, hRG⟩ := hE
      obtain ⟨vs, hrow, hrules⟩ := hRG
      have hRG' : RGram w2 (w.heap.size ≤ ·) g (.slice (some a') g.length cp) := ⟨vs, hrow.mono (fun b _ hb => by simp at hb; omega), RRules.mono (fun b _ hb => by simp at hb; omega) hrules⟩
      have HR : Hid (RGram w2 (w.heap.size ≤ ·) g (.slice (some a') g.length cp)) := hRG'
      clear hrow hrules hRG'
      go_wp2_with fail
      go_ret2
      exact ⟨.ok g, .read HL.out HP.out, HB2.out, h1, h2, a', cp, rfl, HR.out⟩
end Go.Proofs.YtgfejacimdmkpaaDoor
