import Derived.Test.YtgfejacimdmkpaaDoorS2
set_option linter.all false
namespace Go.Proofs.YtgfejacimdmkpaaDoor
open Go.RowKit Go.WideMaps Go.Maps

theorem own_at {w : World} {base : Nat} {e : TypeId} {sz : Nat} {a : Option Addr} {n c : Nat} {xs : List Value} (h : w.ownsRow base e sz (.slice a n c) n xs) (hn : 0 < n) : ∃ g, a = some ⟨g, 0, none⟩ ∧ (∀ i, i < n * sz → w.cell? ⟨g, i, none⟩ = xs[i]?) ∧ g < w.heap.size := by
  rcases h.2 with ⟨h1, h2⟩ | ⟨g, cap, cur, hv, _, hh, _⟩
  · omega
  · simp only [Value.slice.injEq] at hv
    obtain ⟨rfl, _, rfl⟩ := hv
    exact ⟨g, rfl, fun i hi => h.cellAt i hi, heap_lt hh⟩

theorem termC_get : ∀ (s : List Thk.Term) (vs : List Value) (h : s.length = vs.length) (j : Nat) (hj : j < s.length),
    (termC s vs)[j * 3]? = some (.int .u8 s[j].ahead.toNat) ∧ (termC s vs)[j * 3 + 1]? = some (vs[j]'(by omega)) ∧ (termC s vs)[j * 3 + 2]? = some (.int .u8 s[j].behind.toNat)
  | [], _, _, _, hj => by simp at hj
  | _ :: _, [], h, _, _ => by simp at h
  | .mk a p b :: s, v :: vs, h, 0, _ => by simp [termC, Thk.Term.ahead, Thk.Term.behind]
  | .mk a p b :: s, v :: vs, h, j + 1, hj => by
    have := termC_get s vs (by simpa using h) j (by simpa using hj)
    simp only [termC, List.getElem_cons_succ]
    rw [show (j + 1) * 3 = j * 3 + 1 + 1 + 1 from by omega]
    simpa using this

theorem RTerms.get {w : World} {A : Nat → Prop} : ∀ {s : List Thk.Term} {vs : List Value} (h : RTerms w A s vs) (j : Nat) (hj : j < s.length) (hv : j < vs.length), RTerm w A s[j] vs[j]
  | [], _, _, _, hj, _ => by simp at hj
  | t :: s, vs, h, j, hj, hv => by
    simp only [RTerms] at h
    obtain ⟨v, vs', rfl, h1, h2⟩ := h
    cases j with
    | zero => exact h1
    | succ j => exact RTerms.get h2 j (by simpa using hj) (by simpa using hv)

theorem RSeqs.get {w : World} {A : Nat → Prop} : ∀ {c : List (List Thk.Term)} {us : List Value} (h : RSeqs w A c us) (j : Nat) (hj : j < c.length) (hv : j < us.length), RSeq w A c[j] us[j]
  | [], _, _, _, hj, _ => by simp at hj
  | t :: s, vs, h, j, hj, hv => by
    simp only [RSeqs] at h
    obtain ⟨v, vs', rfl, h1, h2⟩ := h
    cases j with
    | zero => exact h1
    | succ j => exact RSeqs.get h2 j (by simpa using hj) (by simpa using hv)

theorem emptyS_drop (E : Thk.Bytes → Bool) (s : List Thk.Term) (j : Nat) (hj : j < s.length) : Thk.emptyS E (s.drop j) = (Thk.emptyT E s[j] && Thk.emptyS E (s.drop (j + 1))) := by
  rw [List.drop_eq_getElem_cons hj]; simp only [Thk.emptyS]
theorem emptyC_drop (E : Thk.Bytes → Bool) (c : List (List Thk.Term)) (j : Nat) (hj : j < c.length) : Thk.emptyC E (c.drop j) = (Thk.emptyS E c[j] || Thk.emptyC E (c.drop (j + 1))) := by
  rw [List.drop_eq_getElem_cons hj]; simp only [Thk.emptyC]

theorem depS_get : ∀ (s : List Thk.Term) (j : Nat) (hj : j < s.length), depT s[j] ≤ depS s
  | [], _, hj => by simp at hj
  | t :: s, 0, _ => by simp only [depS, List.getElem_cons_zero]; omega
  | t :: s, j + 1, hj => by simp only [depS, List.getElem_cons_succ]; have := depS_get s j (by simpa using hj); omega
theorem depC_get : ∀ (c : List (List Thk.Term)) (j : Nat) (hj : j < c.length), depS c[j] ≤ depC c
  | [], _, hj => by simp at hj
  | t :: s, 0, _ => by simp only [depC, List.getElem_cons_zero]; omega
  | t :: s, j + 1, hj => by simp only [depC, List.getElem_cons_succ]; have := depC_get s j (by simpa using hj); omega

/-- The facts' box of a method's receiver. -/
abbrev factsO (mb eb n : Nat) : Obj := .cells #[.map (some mb), .slice (some ⟨eb, 0, none⟩) n n] 42

set_option maxHeartbeats 4000000 in
set_option maxRecDepth 100000 in
theorem emptySeq_step (k : Nat) (hC : ∀ k', k' < k → EmptyC k') (w : World) (mb eb : Nat) (names : List Thk.Bytes) (E : List Bool) (A : Nat → Prop) (s : Thk.Seq) (u : Value) (hF : FactsAt w mb eb names E) (hp : RSeq w A s u) (hk : depS s ≤ k) :
    Calls Tryd.prog 55 #[factsV mb eb names.length, u] w fun e w' => e = .returned (.bool (Thk.emptyS (Eb names E) s)) ∧ Below w.heap.size w w' := by
  obtain ⟨vs, ⟨hrow, hA⟩, hts⟩ := hp
  obtain ⟨ua, uc, rfl⟩ := own_form hrow
  have hcap : s.length ≤ maxLen := by
    rcases hrow.2 with ⟨_, h2⟩ | ⟨g, cap, cur, hv, _, _, h1, h2, _⟩
    · omega
    · exact Nat.le_trans h1 h2
  unfold maxLen at hcap
  have HVL : Hid (s.length = vs.length) := RTerms.length hts
  obtain ⟨W, hW⟩ : ∃ W, W = w.alloc (factsO mb eb names.length) := ⟨_, rfl⟩
  have hB0 : Below w.heap.size w W := by rw [hW]; exact below_alloc _ _
  have hWsz : W.heap.size = w.heap.size + 1 := by rw [hW]; simp
  have hbox : W.heap[w.heap.size]? = some (factsO mb eb names.length) := by rw [hW]; exact heap_alloc_same _ _
  have HB0 : Hid (Below w.heap.size w W) := hB0
  have HE : ∃ R, R = Thk.emptyS (Eb names E) s := ⟨_, rfl⟩
  obtain ⟨R, hR⟩ := HE
  rw [← hR]
  have HR : Hid (R = Thk.emptyS (Eb names E) (s.drop 0)) := by rw [hR]; rfl
  clear hR
  simp only [factsV]
  go_enter Tryd.func55, Tryd.ntmps55
  go_wp2_with fail
  rw [← hW]
  go_loopg [9] s.length (fun m i wr => ∃ j : Nat, m = s.length - j ∧ j ≤ s.length ∧ i = .int .i64 j ∧ Below W.heap.size W wr ∧ Hid (R = Thk.emptyS (Eb names E) (s.drop j)))
  case atStart => exact ⟨0, rfl, Nat.zero_le _, rfl, Below.refl _ _, HR⟩
  case round =>
    obtain ⟨j, rfl, hj, rfl, hb, hH⟩ := hrel
    have hbx0 : wr.heap[w.heap.size]? = some (factsO mb eb names.length) := by rw [hb.block _ (by omega)]; exact hbox
    have hbx := cell_of_block hbx0
    clear hbx0
    have hbw : Below w.heap.size w wr := HB0.out.trans (hb.mono (by omega))
    have hsz := hb.size
    by_cases hlt : j < s.length
    · have hjv : j < vs.length := by have := HVL.out; omega
      obtain ⟨g, rfl, hcs, hgl⟩ := own_at hrow (by omega)
      obtain ⟨t0, t1, t2⟩ := termC_get s vs HVL.out j hlt
      have c0 : wr.cell? ⟨g, j * 3, none⟩ = some (.int .u8 s[j].ahead.toNat) := by rw [hbw.cell (p := ⟨g, _, none⟩) hgl, hcs _ (by omega)]; exact t0
      have c1 : wr.cell? ⟨g, j * 3 + 1, none⟩ = some (vs[j]'hjv) := by rw [hbw.cell (p := ⟨g, _, none⟩) hgl, hcs _ (by omega)]; exact t1
      have c2 : wr.cell? ⟨g, j * 3 + 2, none⟩ = some (.int .u8 s[j].behind.toNat) := by rw [hbw.cell (p := ⟨g, _, none⟩) hgl, hcs _ (by omega)]; exact t2
      have htr := RTerms.get hts j hlt hjv
      have hpc := fun O => emptyTerm_step k hC (wr.alloc O) mb eb names E A s[j] (vs[j]'hjv) (hF.below (hbw.alloc (by omega) O)) (RTerm.kept (sm_below (hbw.alloc (by omega) O)) _ _ htr) (Nat.le_trans (depS_get s j hlt) hk)
      have hed := emptyS_drop (Eb names E) s j hlt
      obtain ⟨tt, xx, hvx⟩ : ∃ t x, vs[j]'hjv = .iface t x := by
        cases htt : s[j] with
        | mk a p b => rw [htt] at htr; simp only [RTerm] at htr; exact RPiece.oneCell htr
      rw [hvx] at c1
      simp only [hvx, termV, factsV] at hpc
      have HED : Hid (Thk.emptyS (Eb names E) (s.drop j) = (Thk.emptyT (Eb names E) s[j] && Thk.emptyS (Eb names E) (s.drop (j + 1)))) := hed
      have hlt' : (j : Int) < s.length := by omega
      clear hed htr t0 t1 t2 hvx hcs
      generalize hr : Thk.emptyT (Eb names E) s[j] = r at *
      generalize s[j].ahead = ah at *
      generalize s[j].behind = be at *
      clear hr
      have hw9 : w.heap.size < wr.heap.size := by omega
      cases r with
      | true =>
        go_wp2_with fail
        refine (hpc _).mono ?_
        rintro e w1 ⟨rfl, hb1⟩
        have hs1 := hb1.size
        simp at hs1
        have hb2 : Below W.heap.size W w1 := (hb.alloc hsz _).trans (hb1.mono (by simp; omega))
        clear hpc hb1
        go_wp2_with fail
        go_roundg (s.length - (j + 1))
        case measure => omega
        case rel => exact ⟨j + 1, rfl, by omega, by go_num, hb2, by have h1 := hH.out; rw [HED.out, Bool.true_and] at h1; exact h1⟩
      | false =>
        go_wp2_with fail
        refine (hpc _).mono ?_
        rintro e w1 ⟨rfl, hb1⟩
        have hs1 := hb1.size
        simp at hs1
        have hb2 : Below w.heap.size w w1 := (hbw.alloc (by omega) _).trans (hb1.mono (by simp; omega))
        clear hpc hb1
        go_wp2_with fail
        go_ret
        exact ⟨by have h1 := hH.out; rw [HED.out, Bool.false_and] at h1; rw [h1]; rfl, hb2⟩
    · have hje : j = s.length := by omega
      have hRt : Hid (R = true) := by
        have h1 := hH.out
        rw [hje, List.drop_length] at h1
        exact h1
      clear hH
      go_wp2_with fail
      go_ret
      exact ⟨by rw [hRt.out]; rfl, hbw⟩

set_option maxHeartbeats 4000000 in
set_option maxRecDepth 100000 in
theorem emptyChoice_step (k : Nat) (hC : ∀ k', k' < k → EmptyC k') : EmptyC k := by
  intro w mb eb names E A c u hF hp hk
  obtain ⟨vs, ⟨hrow, hA⟩, hts⟩ := hp
  obtain ⟨ua, uc, rfl⟩ := own_form hrow
  have hcap : c.length ≤ maxLen := by
    rcases hrow.2 with ⟨_, h2⟩ | ⟨g, cap, cur, hv, _, _, h1, h2, _⟩
    · omega
    · exact Nat.le_trans h1 h2
  unfold maxLen at hcap
  have HVL : Hid (c.length = vs.length) := RSeqs.length hts
  obtain ⟨W, hW⟩ : ∃ W, W = w.alloc (factsO mb eb names.length) := ⟨_, rfl⟩
  have hB0 : Below w.heap.size w W := by rw [hW]; exact below_alloc _ _
  have hWsz : W.heap.size = w.heap.size + 1 := by rw [hW]; simp
  have hbox : W.heap[w.heap.size]? = some (factsO mb eb names.length) := by rw [hW]; exact heap_alloc_same _ _
  have HB0 : Hid (Below w.heap.size w W) := hB0
  have HE : ∃ R, R = Thk.emptyC (Eb names E) c := ⟨_, rfl⟩
  obtain ⟨R, hR⟩ := HE
  rw [← hR]
  have HR : Hid (R = Thk.emptyC (Eb names E) (c.drop 0)) := by rw [hR]; rfl
  clear hR
  simp only [factsV]
  go_enter Tryd.func35, Tryd.ntmps35
  go_wp2_with fail
  rw [← hW]
  go_loopg [9] c.length (fun m i wr => ∃ j : Nat, m = c.length - j ∧ j ≤ c.length ∧ i = .int .i64 j ∧ Below W.heap.size W wr ∧ Hid (R = Thk.emptyC (Eb names E) (c.drop j)))
  case atStart => exact ⟨0, rfl, Nat.zero_le _, rfl, Below.refl _ _, HR⟩
  case round =>
    obtain ⟨j, rfl, hj, rfl, hb, hH⟩ := hrel
    have hbx0 : wr.heap[w.heap.size]? = some (factsO mb eb names.length) := by rw [hb.block _ (by omega)]; exact hbox
    have hbx := cell_of_block hbx0
    clear hbx0
    have hbw : Below w.heap.size w wr := HB0.out.trans (hb.mono (by omega))
    have hsz := hb.size
    by_cases hlt : j < c.length
    · have hjv : j < vs.length := by have := HVL.out; omega
      obtain ⟨g, rfl, hcs, hgl⟩ := own_at hrow (by omega)
      have c0 : wr.cell? ⟨g, j, none⟩ = some (vs[j]'hjv) := by rw [hbw.cell (p := ⟨g, _, none⟩) hgl, hcs _ (by omega)]; exact List.getElem?_eq_getElem hjv
      have htr := RSeqs.get hts j hlt hjv
      have hdj := Nat.le_trans (depC_get c j hlt) hk
      have hpc := emptySeq_step k hC wr mb eb names E A c[j] (vs[j]'hjv) (hF.below hbw) (htr.kept (sm_below hbw)) hdj
      have hed := emptyC_drop (Eb names E) c j hlt
      obtain ⟨tt, xx, hvx⟩ : ∃ t x, vs[j]'hjv = .slice t c[j].length x := by
        obtain ⟨_, hr, _⟩ := htr
        exact own_form hr.1
      rw [hvx] at c0
      simp only [hvx, factsV] at hpc
      have HED : Hid (Thk.emptyC (Eb names E) (c.drop j) = (Thk.emptyS (Eb names E) c[j] || Thk.emptyC (Eb names E) (c.drop (j + 1)))) := hed
      have hlt' : (j : Int) < c.length := by omega
      clear hed htr hvx hcs
      generalize hr : Thk.emptyS (Eb names E) c[j] = r at *
      generalize c[j].length = cl at *
      clear hr
      have hw9 : w.heap.size < wr.heap.size := by omega
      cases r with
      | false =>
        go_wp2_with fail
        refine hpc.mono ?_
        rintro e w1 ⟨rfl, hb1⟩
        have hb2 : Below W.heap.size W w1 := hb.trans (hb1.mono (by omega))
        clear hpc hb1
        go_wp2_with fail
        go_roundg (c.length - (j + 1))
        case measure => omega
        case rel => exact ⟨j + 1, rfl, by omega, by go_num, hb2, by have h1 := hH.out; rw [HED.out, Bool.false_or] at h1; exact h1⟩
      | true =>
        go_wp2_with fail
        refine hpc.mono ?_
        rintro e w1 ⟨rfl, hb1⟩
        have hb2 : Below w.heap.size w w1 := hbw.trans (hb1.mono (by omega))
        clear hpc hb1
        go_wp2_with fail
        go_ret
        exact ⟨by have h1 := hH.out; rw [HED.out, Bool.true_or] at h1; rw [h1]; rfl, hb2⟩
    · have hje : j = c.length := by omega
      have hRt : Hid (R = false) := by
        have h1 := hH.out
        rw [hje, List.drop_length] at h1
        exact h1
      clear hH
      go_wp2_with fail
      go_ret
      exact ⟨by rw [hRt.out]; rfl, hbw⟩

theorem empty_all (k : Nat) : EmptyC k := by
  induction k using Nat.strongRecOn with
  | ind k ih => exact emptyChoice_step k ih

theorem emptyPiece_any (w : World) (mb eb : Nat) (names : List Thk.Bytes) (E : List Bool) (A : Nat → Prop) (p : Thk.Piece) (v : Value) (hF : FactsAt w mb eb names E) (hp : RPiece w A p v) :
    Calls Tryd.prog 38 #[factsV mb eb names.length, v] w fun e w' => e = .returned (.bool (Thk.emptyP (Eb names E) p)) ∧ Below w.heap.size w w' :=
  emptyPiece_step (depP p) (fun k _ => empty_all k) w mb eb names E A p v hF hp (Nat.le_refl _)
theorem emptyTerm_any (w : World) (mb eb : Nat) (names : List Thk.Bytes) (E : List Bool) (A : Nat → Prop) (t : Thk.Term) (v : Value) (hF : FactsAt w mb eb names E) (hp : RTerm w A t v) :
    Calls Tryd.prog 57 #[factsV mb eb names.length, termV t v] w fun e w' => e = .returned (.bool (Thk.emptyT (Eb names E) t)) ∧ Below w.heap.size w w' :=
  emptyTerm_step (depT t) (fun k _ => empty_all k) w mb eb names E A t v hF hp (Nat.le_refl _)
theorem emptyChoice_any (w : World) (mb eb : Nat) (names : List Thk.Bytes) (E : List Bool) (A : Nat → Prop) (c : Thk.Choice) (u : Value) (hF : FactsAt w mb eb names E) (hp : RChoice w A c u) :
    Calls Tryd.prog 35 #[factsV mb eb names.length, u] w fun e w' => e = .returned (.bool (Thk.emptyC (Eb names E) c)) ∧ Below w.heap.size w w' :=
  empty_all (depC c) w mb eb names E A c u hF hp (Nat.le_refl _)
end Go.Proofs.YtgfejacimdmkpaaDoor
