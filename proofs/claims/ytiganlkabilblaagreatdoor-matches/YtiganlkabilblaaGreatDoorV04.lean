import Derived.Test.YtiganlkabilblaaGreatDoorV03
import Derived.Defers
import Derived.RegionTactic
import Derived.BigRegion
import Derived.Laws.ResultCell
set_option linter.all false
namespace Go.Proofs.YtiganlkabilblaaGreatDoor
open Go.RowKit Thk
def encR : Option Nat → Int
  | none => -1
  | some e => e
theorem encR_ne (v : Option Nat) : encR v ≠ -2 := by
  cases v with
  | none => simp [encR]
  | some e => simp only [encR]; omega
theorem seqR_le {F : REv} {n : Nat} (h : ∀ i k e, F i k = some (some e) → k ≤ n → k ≤ e ∧ e ≤ n) : ∀ js k e, seqR F js k = some (some e) → k ≤ n → k ≤ e ∧ e ≤ n
  | [], k, e, hs, hk => by simp [seqR] at hs; subst hs; exact ⟨Nat.le_refl _, hk⟩
  | j :: js, k, e, hs, hk => by
    simp only [seqR] at hs
    split at hs
    · cases hs
    · cases hs
    · rename_i e1 h1
      have a := h j k e1 h1 hk
      have b := seqR_le h js e1 e hs a.2
      omega
theorem chR_le {F : REv} {n : Nat} (h : ∀ i k e, F i k = some (some e) → k ≤ n → k ≤ e ∧ e ≤ n) : ∀ js k e, chR F js k = some (some e) → k ≤ n → k ≤ e ∧ e ≤ n
  | [], k, e, hs, hk => by simp [chR] at hs
  | j :: js, k, e, hs, hk => by
    simp only [chR] at hs
    split at hs
    · cases hs
    · exact chR_le h js k e hs hk
    · rename_i e1 h1
      cases hs
      exact h j k _ h1 hk
theorem repR_le {F : REv} {n : Nat} (h : ∀ i k e, F i k = some (some e) → k ≤ n → k ≤ e ∧ e ≤ n) (j : Nat) : ∀ c o k e, repR F j c o k = some (some e) → k ≤ n → (∀ x, o = some x → k ≤ x ∧ x ≤ n) → k ≤ e ∧ e ≤ n
  | 0, _, _, _, hs, _, _ => by simp [repR] at hs
  | c + 1, none, k, e, hs, hk, _ => by simp [repR] at hs; subst hs; exact ⟨Nat.le_refl _, hk⟩
  | c + 1, some x, k, e, hs, hk, ho => by
    simp only [repR] at hs
    have hx := ho x rfl
    split at hs
    · cases hs
    · rename_i o2 h1
      have := repR_le h j c o2 x e hs hx.2 (fun y hy => by subst hy; exact h j x y h1 hx.2)
      omega
theorem bytesR_le {inp : Bytes} {e : RE} {k x : Nat} (h : bytesR inp e k = some x) (hk : k ≤ inp.length) : k ≤ x ∧ x ≤ inp.length := by
  unfold bytesR at h
  split at h
  · split at h
    · cases h; omega
    · cases h
  · split at h
    · split at h
      · cases h
      · rename_i c hc
        have := (List.getElem?_eq_some_iff.1 hc).1
        split at h
        · cases h; omega
        · cases h
    · split at h
      · rename_i hp
        cases h
        have := (List.isPrefixOf_iff_prefix.1 hp).length_le
        rw [List.length_drop, List.length_map] at this
        omega
      · cases h
theorem evR_le {xs : List RE} {names : List Bytes} {bodies : List Nat} {inp : Bytes} : ∀ f i k e, evR xs names bodies inp f i k = some (some e) → k ≤ inp.length → k ≤ e ∧ e ≤ inp.length
  | 0, _, _, _, h, _ => by simp [evR] at h
  | f + 1, i, k, e, h, hk => by
    have ih := evR_le (xs := xs) (names := names) (bodies := bodies) (inp := inp) f
    simp only [evR] at h
    split at h
    · cases h
    · rename_i x hx
      split at h
      rotate_left
      · cases h
      unfold bodyR at h
      split at h
      · exact bytesR_le (Option.some.inj h) hk
      · split at h
        · exact ih _ _ _ h hk
        · split at h
          · exact seqR_le ih _ _ _ h hk
          · split at h
            · exact chR_le ih _ _ _ h hk
            · unfold wrapR at h
              split at h
              · cases h
              · rename_i n hn
                split at h
                · have := Option.some.inj h
                  cases n with
                  | none => simp at this; subst this; exact ⟨Nat.le_refl _, hk⟩
                  | some y => simp at this; subst this; exact ih _ _ _ hn hk
                · split at h
                  · have := Option.some.inj h
                    split at this <;> cases this
                    exact ⟨Nat.le_refl _, hk⟩
                  · split at h
                    · have := Option.some.inj h
                      split at this <;> cases this
                      exact ⟨Nat.le_refl _, hk⟩
                    · split at h
                      · cases h
                      · exact repR_le ih _ _ _ _ _ h hk (fun y hy => by subst hy; exact ih _ _ _ hn hk)
abbrev Tab := Nat → Nat → Int
def rowI (n : Nat) (f : Nat → Int) : List Int := (List.range n).map f
def intsO (l : List Int) : Obj := .cells (l.map (Value.int .i64)).toArray 3 (0, 0)
theorem rowI_set (n : Nat) (f : Nat → Int) (t : Nat) (u : Int) : (rowI n f).set t u = rowI n (fun j => if j = t then u else f j) := by
  apply List.ext_getElem
  · simp [rowI]
  · intro i h1 h2
    simp only [rowI, List.getElem_set, List.getElem_map, List.getElem_range]
    by_cases e : t = i
    · subst e; simp
    · have : ¬ i = t := fun h => e h.symm
      simp [e, this]
theorem KpM.of_below {rbs : List Nat} {w w' : World} (h : Below w.heap.size w w') : KpM rbs w.heap.size w w' := ⟨h.os, h.tape, h.output, h.size, fun k hk _ => h.block k hk⟩
theorem KpM.mono {rbs : List Nat} {B B' : Nat} {w w' : World} (h : KpM rbs B w w') (hb : B' ≤ B) : KpM rbs B' w w' := ⟨h.os, h.tape, h.output, h.size, fun k hk hr => h.block k (by omega) hr⟩
theorem KpM.go {rbs : List Nat} {w w1 w2 : World} (h : KpM rbs w.heap.size w w1) (k : KpM rbs w1.heap.size w1 w2) : KpM rbs w.heap.size w w2 := h.trans (k.mono h.size)
/-- A trial of the reference in memory: what stood ahead of it (w0) stands as it did. -/
structure TrAt (w0 w : World) (tb eb ec : Nat) (vx vr : Value) (s : ByteArray) (rbs : List Nat) (M : Tab) : Prop where
  size : w0.heap.size ≤ w.heap.size
  old : ∀ b, b < w0.heap.size → w.heap[b]? = w0.heap[b]?
  blk : w.heap[tb]? = some (.cells #[vx, vr, .string s, .slice (some ⟨eb, 0, none⟩) rbs.length ec] 161 (0, 0))
  elt : eb < w.heap.size
  ends : ∀ i (h : i < rbs.length), w.cell? ⟨eb, i, none⟩ = some (.slice (some ⟨rbs[i], 0, none⟩) (s.size + 1) (s.size + 1))
  row : ∀ i (h : i < rbs.length), w.heap[rbs[i]]? = some (intsO (rowI (s.size + 1) (M i)))
  nodup : rbs.Nodup
  rge : ∀ b ∈ rbs, w0.heap.size ≤ b
  tn : tb ∉ rbs
  en : eb ∉ rbs
theorem TrAt.kept {w0 w w' : World} {tb eb ec : Nat} {vx vr : Value} {s : ByteArray} {rbs : List Nat} {M : Tab} (h : TrAt w0 w tb eb ec vx vr s rbs M) (hb : Below w.heap.size w w') : TrAt w0 w' tb eb ec vx vr s rbs M := by
  have hs := h.size
  have hz := hb.size
  refine ⟨by omega, fun b hb' => by rw [hb.block b (by omega)]; exact h.old b hb', by rw [hb.block _ (heap_lt h.blk)]; exact h.blk, by have := h.elt; omega, fun i hi => ?_, fun i hi => ?_, h.nodup, h.rge, h.tn, h.en⟩
  · rw [hb.cell (p := ⟨eb, i, none⟩) h.elt]; exact h.ends i hi
  · rw [hb.block _ (heap_lt (h.row i hi))]; exact h.row i hi
theorem TrAt.at {w0 w : World} {tb eb ec : Nat} {vx vr : Value} {s : ByteArray} {rbs : List Nat} {M : Tab} (h : TrAt w0 w tb eb ec vx vr s rbs M) (i k : Nat) (hi : i < rbs.length) (hk : k ≤ s.size) : w.cell? ⟨rbs[i], k, none⟩ = some (.int .i64 (M i k)) := by
  rw [cell_of_block (h.row i hi)]
  have : k < s.size + 1 := by omega
  simp [rowI, this]
theorem intsO_set (l : List Int) (t : Nat) (u : Int) : (Obj.cells ((l.map (Value.int .i64)).toArray.setIfInBounds t (.int .i64 u)) 3 (0, 0)) = intsO (l.set t u) := by
  unfold intsO
  simp [List.map_set]
theorem TrAt.set {w0 w : World} {tb eb ec : Nat} {vx vr : Value} {s : ByteArray} {rbs : List Nat} {M : Tab} (h : TrAt w0 w tb eb ec vx vr s rbs M) (f t : Nat) (hf : f < rbs.length) (u : Int) : TrAt w0 (w.setCell ⟨rbs[f], t, none⟩ (.int .i64 u)) tb eb ec vx vr s rbs (fun i j => if i = f ∧ j = t then u else M i j) := by
  have hmem : rbs[f] ∈ rbs := List.getElem_mem hf
  have hne : ∀ b, b ∉ rbs → (w.setCell ⟨rbs[f], t, none⟩ (.int .i64 u)).heap[b]? = w.heap[b]? := fun b hb => Below.heap_setCell _ _ _ _ (fun e => hb (e ▸ hmem))
  refine ⟨by simpa [World.setCell] using h.size, fun b hb => ?_, by rw [hne _ h.tn]; exact h.blk, by simpa [World.setCell] using h.elt, fun i hi => ?_, fun i hi => ?_, h.nodup, h.rge, h.tn, h.en⟩
  · rw [hne b (fun hb' => by have := h.rge b hb'; omega)]; exact h.old b hb
  · rw [World.cell?_of_block (a := ⟨eb, i, none⟩) (hne eb h.en)]; exact h.ends i hi
  · by_cases e : i = f
    · subst e
      rw [heap_setCell_at (h.row i hi)]
      show some _ = _
      have := intsO_set (rowI (s.size + 1) (M i)) t u
      rw [rowI_set] at this
      rw [show (fun j => if i = i ∧ j = t then u else M i j) = (fun j => if j = t then u else M i j) from by funext j; simp]
      rw [← this]
    · have hne2 : rbs[i] ≠ rbs[f] := fun e2 => e ((List.getElem_inj h.nodup).1 e2)
      rw [Below.heap_setCell _ _ _ _ hne2, h.row i hi]
      congr 3
      funext j
      simp [e]
/-- What is remembered is true. -/
def Snd (xs : List RE) (names : List Bytes) (bodies : List Nat) (inp : Bytes) (M : Tab) : Prop := ∀ i k, k ≤ inp.length → M i k = -2 ∨ ∃ f v, evR xs names bodies inp f i k = some v ∧ M i k = encR v
theorem Snd.set {xs : List RE} {names : List Bytes} {bodies : List Nat} {inp : Bytes} {M : Tab} (h : Snd xs names bodies inp M) {f i k : Nat} {v : Option Nat} (hv : evR xs names bodies inp f i k = some v) : Snd xs names bodies inp (fun a b => if a = i ∧ b = k then encR v else M a b) := by
  intro a b hb
  by_cases e : a = i ∧ b = k
  · obtain ⟨rfl, rfl⟩ := e
    exact .inr ⟨f, v, hv, by simp⟩
  · simp only [if_neg e]; exact h a b hb
end Go.Proofs.YtiganlkabilblaaGreatDoor
namespace Go.Proofs.YtiganlkabilblaaGreatDoor
open Go.RowKit Thk
attribute [local go_sem ↓] Go.wp_at_zero Go.wp_at_succ
theorem joined_any (a b : Nt) (w : World) : Calls Tryz.prog 203 #[ntV a, ntV b] w fun e w' => e = .returned (ntV (jn a b)) ∧ w' = w := by
  cases a with
  | nil =>
    simp only [ntV, jn]
    generalize ntV b = v
    go_enter Tryz.func203, Tryz.ntmps203
    go_wp2_with fail
    go_ret
    exact ⟨rfl, rfl⟩
  | use i x y m =>
    cases b with
    | nil =>
      simp only [ntV, jn]
      go_enter Tryz.func203, Tryz.ntmps203
      go_wp2_with fail
      go_ret
      exact ⟨rfl, rfl⟩
    | use i2 x2 y2 m2 =>
      simp only [ntV, jn]
      go_enter Tryz.func203, Tryz.ntmps203
      go_wp2_with fail
      go_ret
      exact ⟨rfl, rfl⟩
    | pair p q =>
      simp only [ntV, jn]
      go_enter Tryz.func203, Tryz.ntmps203
      go_wp2_with fail
      go_ret
      exact ⟨rfl, rfl⟩
  | pair p q =>
    cases b with
    | nil =>
      simp only [ntV, jn]
      go_enter Tryz.func203, Tryz.ntmps203
      go_wp2_with fail
      go_ret
      exact ⟨rfl, rfl⟩
    | use i2 x2 y2 m2 =>
      simp only [ntV, jn]
      go_enter Tryz.func203, Tryz.ntmps203
      go_wp2_with fail
      go_ret
      exact ⟨rfl, rfl⟩
    | pair p2 q2 =>
      simp only [ntV, jn]
      go_enter Tryz.func203, Tryz.ntmps203
      go_wp2_with fail
      go_ret
      exact ⟨rfl, rfl⟩
theorem nt_form (a : Nt) : ntV a = .nilIface ∨ ∃ t x, ntV a = .iface t x := by
  cases a with
  | nil => exact .inl rfl
  | use i x y m => exact .inr ⟨_, _, rfl⟩
  | pair p q => exact .inr ⟨_, _, rfl⟩
abbrev matO (vr : Value) (s : ByteArray) (tv : Value) (nt : Value) : Obj := .cells #[vr, .string s, tv, nt] 177 (0, 0)
theorem note_any (w : World) (mb : Nat) (vr : Value) (s : ByteArray) (tv : Value) (a b : Nt) (h : w.heap[mb]? = some (matO vr s tv (ntV a))) :
    Calls Tryz.prog 192 #[.pointer (some ⟨mb, 0, none⟩), ntV b] w fun e w' => e = .returned (.tuple #[]) ∧ w' = w.setCell ⟨mb, 3, none⟩ (ntV (jn a b)) := by
  have q : w.cell? ⟨mb, 3, none⟩ = some (ntV a) := cell_of_block h 3
  have fz := frozen_of_block h 3
  have hl := heap_lt h
  have hj := joined_any a b w
  have HJ := hideP hj
  have hf := nt_form (jn a b)
  generalize ntV b = vb at *
  generalize ntV (jn a b) = vj at *
  generalize ntV a = va at *
  clear h hj
  rcases hf with rfl | ⟨t, x, rfl⟩
  all_goals
    go_enter Tryz.func192, Tryz.ntmps192
    go_wp2_with fail
    refine HJ.out.mono ?_
    rintro _ w1 ⟨rfl, hw⟩
    replace hw := hw.symm
    subst hw
    go_wp2_with fail
    go_end0
    exact ⟨rfl, rfl⟩
theorem takeBack_any (w : World) (mb : Nat) (vr : Value) (s : ByteArray) (tv a : Value) (b : Nt) (h : w.heap[mb]? = some (matO vr s tv a)) :
    Calls Tryz.prog 152 #[.pointer (some ⟨mb, 0, none⟩), ntV b] w fun e w' => e = .returned (.tuple #[]) ∧ w' = w.setCell ⟨mb, 3, none⟩ (ntV b) := by
  have q : w.cell? ⟨mb, 3, none⟩ = some a := cell_of_block h 3
  have fz := frozen_of_block h 3
  have hl := heap_lt h
  have hf := nt_form b
  generalize ntV b = vb at *
  clear h
  rcases hf with rfl | ⟨t, x, rfl⟩
  all_goals
    go_enter Tryz.func152, Tryz.ntmps152
    go_wp2_with fail
    go_end0
    exact ⟨rfl, rfl⟩
theorem takeBack_d (w : World) (mb : Nat) (u : FrameMode) (vr : Value) (s : ByteArray) (tv a : Value) (b : Nt) (h : w.heap[mb]? = some (matO vr s tv a)) :
    CallsD Tryz.prog 152 #[.pointer (some ⟨mb, 0, none⟩), ntV b] u w fun e u' w' => u' = u ∧ (e = .returned (.tuple #[]) ∧ w' = w.setCell ⟨mb, 3, none⟩ (ntV b)) := by
  have q : w.cell? ⟨mb, 3, none⟩ = some a := cell_of_block h 3
  have fz := frozen_of_block h 3
  have hl := heap_lt h
  have hf := nt_form b
  generalize ntV b = vb at *
  clear h
  rcases hf with rfl | ⟨t, x, rfl⟩
  all_goals
    go_enter_d Tryz.func152, Tryz.ntmps152
    go_wp2
    go_end0
    exact ⟨rfl, rfl⟩
end Go.Proofs.YtiganlkabilblaaGreatDoor
namespace Go.Proofs.YtiganlkabilblaaGreatDoor
open Go.RowKit Thk
attribute [local go_sem ↓] Go.wp_at_zero Go.wp_at_succ
abbrev ptrV (b : Nat) : Value := .pointer (some ⟨b, 0, none⟩)
/-- A remembered expression, as a function. -/
abbrev cloV (x : Nat × Nat × Nat) : Value := .func (.func 177) #[] #[ptrV x.1, ptrV x.2.1, ptrV x.2.2]
def clV (bx : List (Nat × Nat × Nat)) (n : Nat) : Value := cloV (bx.getD n (0, 0, 0))
abbrev boxO (v : Value) (t : TypeId) : Obj := .cells #[v] t (0, 0)
def RowC (w : World) (mb : Nat) (bx : List (Nat × Nat × Nat)) (ks : List Nat) (a : Option Addr) : Prop := ∀ j (h : j < ks.length), ∃ g, a = some ⟨g, 0, none⟩ ∧ g < w.heap.size ∧ g ≠ mb ∧ w.cell? ⟨g, j, none⟩ = some (clV bx ks[j])
/-- The function that is remembered, by its kind. -/
def Inn (w : World) (mb : Nat) (bx : List (Nat × Nat × Nat)) (n : Nat) (iv : Value) : Nd → Prop
  | .choice ks => ∃ bs a c, iv = .func (.func 151) #[] #[ptrV bs] ∧ w.heap[bs]? = some (boxO (.slice a ks.length c) 175) ∧ RowC w mb bx ks a ∧ ks.length ≤ 1000000
  | .seq ks => ∃ bm bs a c, iv = .func (.func 175) #[] #[ptrV bm, ptrV bs] ∧ w.heap[bm]? = some (boxO (ptrV mb) 113) ∧ w.heap[bs]? = some (boxO (.slice a ks.length c) 175) ∧ RowC w mb bx ks a ∧ ks.length ≤ 1000000
  | .ahead k wd => ∃ bm be bw, iv = .func (.func 202) #[] #[ptrV bm, ptrV be, ptrV bw] ∧ w.heap[bm]? = some (boxO (ptrV mb) 113) ∧ w.heap[be]? = some (boxO (clV bx k) 226) ∧ w.heap[bw]? = some (boxO (.bool wd) 4)
  | .maybe k => ∃ be, iv = .func (.func 212) #[] #[ptrV be] ∧ w.heap[be]? = some (boxO (clV bx k) 226)
  | .plus k => ∃ be bp, iv = .func (.func 213) #[] #[ptrV be, ptrV bp] ∧ w.heap[be]? = some (boxO (clV bx k) 226) ∧ w.heap[bp]? = some (boxO (clV bx n) 226)
  | .name i => ∃ bm bi, iv = .func (.func 215) #[] #[ptrV bm, ptrV bi] ∧ w.heap[bm]? = some (boxO (ptrV mb) 113) ∧ w.heap[bi]? = some (boxO (.int .i64 i) 3)
  | .lit b => ∃ bm bt, iv = .func (.func 216) #[] #[ptrV bm, ptrV bt] ∧ w.heap[bm]? = some (boxO (ptrV mb) 113) ∧ w.heap[bt]? = some (boxO (.string ⟨b.toArray⟩) 9) ∧ b.length ≤ 20
  | .cls l => ∃ bm bh bs u, iv = .func (.func 220) #[] #[ptrV bm, ptrV bh] ∧ w.heap[bm]? = some (boxO (ptrV mb) 113) ∧ w.heap[bh]? = some (boxO (.func (.func 217) #[] #[ptrV bs]) 287) ∧ w.heap[bs]? = some (boxO u 235) ∧ Spans w 0 u l ∧ l.length ≤ 20
  | .any => ∃ bm bh, iv = .func (.func 220) #[] #[ptrV bm, ptrV bh] ∧ w.heap[bm]? = some (boxO (ptrV mb) 113) ∧ w.heap[bh]? = some (boxO (.func (.func 211) #[] #[]) 287)
/-- What has been made, in memory. -/
structure Mde (wM : World) (mb : Nat) (N : List Nd) (bx : List (Nat × Nat × Nat)) (rules : List Nat) (vr : Value) : Prop where
  clo : ∀ n d, N[n]? = some d → ∃ iv, wM.heap[(bx.getD n (0, 0, 0)).1]? = some (boxO (ptrV mb) 113) ∧ wM.heap[(bx.getD n (0, 0, 0)).2.1]? = some (boxO (.int .i64 n) 3) ∧ wM.heap[(bx.getD n (0, 0, 0)).2.2]? = some (boxO iv 226) ∧ Inn wM mb bx n iv d
  rul : ∃ rb rc, vr = .slice (some ⟨rb, 0, none⟩) rules.length rc ∧ rb < wM.heap.size ∧ rb ≠ mb ∧ ∀ i (h : i < rules.length), wM.cell? ⟨rb, i, none⟩ = some (clV bx rules[i])
  mat : ∃ sv tv nv, wM.heap[mb]? = some (.cells #[vr, sv, tv, nv] 177 (0, 0))
/-- A matcher at its input. -/
structure MS (wM : World) (mb tb : Nat) (N : List Nd) (rules : List Nat) (vr : Value) (s : ByteArray) (nt : Nt) (w : World) : Prop where
  size : wM.heap.size ≤ w.heap.size
  old : ∀ b, b < wM.heap.size → b ≠ mb → w.heap[b]? = wM.heap[b]?
  mlt : mb < wM.heap.size
  blk : w.heap[mb]? = some (matO vr s (.map (some tb)) (ntV nt))
  tge : wM.heap.size ≤ tb
  memo : ∃ L, MemoIs w tb L ∧ ∀ n k r, memoAt L n k = some r → ∃ f, evN N rules s.data.toList f n k = some r
theorem MemoIs.lt {w : World} {tb : Nat} {L : Memo} (h : MemoIs w tb L) : tb < w.heap.size := by
  obtain ⟨es, cl, hb, _⟩ := h
  exact heap_lt hb
theorem MemoIs.same {w w' : World} {tb : Nat} {L : Memo} (h : MemoIs w tb L) (hb : w'.heap[tb]? = w.heap[tb]?) : MemoIs w' tb L := by
  obtain ⟨es, cl, h1, h2⟩ := h
  exact ⟨es, cl, by rw [hb]; exact h1, h2⟩
theorem MS.below {wM : World} {mb tb : Nat} {N : List Nd} {rules : List Nat} {vr : Value} {s : ByteArray} {nt : Nt} {w w' : World} (h : MS wM mb tb N rules vr s nt w) (hb : Below w.heap.size w w') : MS wM mb tb N rules vr s nt w' := by
  have h1 := h.size
  have h2 := hb.size
  have h3 := h.mlt
  obtain ⟨L, hL, hS⟩ := h.memo
  exact ⟨by omega, fun b hb1 hb2 => (hb.block b (by omega)).trans (h.old b hb1 hb2), h.mlt, by rw [hb.block _ (by omega)]; exact h.blk, h.tge, L, hL.same (hb.block _ hL.lt), hS⟩
/-- What is noted is another. -/
theorem MS.noted {wM : World} {mb tb : Nat} {N : List Nd} {rules : List Nat} {vr : Value} {s : ByteArray} {nt : Nt} {w : World} (h : MS wM mb tb N rules vr s nt w) (nt' : Nt) : MS wM mb tb N rules vr s nt' (w.setCell ⟨mb, 3, none⟩ (ntV nt')) := by
  obtain ⟨L, hL, hS⟩ := h.memo
  have hne : tb ≠ mb := by have := h.mlt; have := h.tge; omega
  refine ⟨by simpa [World.setCell] using h.size, fun b hb1 hb2 => ?_, h.mlt, ?_, h.tge, L, hL.same (Below.heap_setCell _ _ _ _ hne), hS⟩
  · rw [Below.heap_setCell _ _ _ _ hb2]; exact h.old b hb1 hb2
  · rw [heap_setCell_at h.blk]; rfl
/-- What lies above a mark may be another. -/
theorem MS.low {wM : World} {mb tb : Nat} {N : List Nd} {rules : List Nat} {vr : Value} {s : ByteArray} {nt : Nt} {B : Nat} {w w' : World} (h : MS wM mb tb N rules vr s nt w) (hB : wM.heap.size ≤ B) (ht : tb < B) (hb : Below B w w') : MS wM mb tb N rules vr s nt w' := by
  have h1 := h.size
  have h2 := hb.size
  have h3 := h.mlt
  obtain ⟨L, hL, hS⟩ := h.memo
  exact ⟨by omega, fun b hb1 hb2 => (hb.block b (by omega)).trans (h.old b hb1 hb2), h.mlt, by rw [hb.block _ (by omega)]; exact h.blk, h.tge, L, hL.same (hb.block _ ht), hS⟩
theorem MS.tlt {wM : World} {mb tb : Nat} {N : List Nd} {rules : List Nat} {vr : Value} {s : ByteArray} {nt : Nt} {w : World} (h : MS wM mb tb N rules vr s nt w) : tb < w.heap.size := by
  obtain ⟨L, hL, _⟩ := h.memo
  exact hL.lt
theorem KpM.low {rbs : List Nat} {B : Nat} {a w w' : World} (h : KpM rbs B a w) (hb : Below B w w') : KpM rbs B a w' := ⟨hb.os.trans h.os, hb.tape.trans h.tape, hb.output.trans h.output, Nat.le_trans h.size hb.size, fun k hk hr => (hb.block k hk).trans (h.block k hk hr)⟩
theorem KpM.noted {mb tb : Nat} {B : Nat} {a w : World} (h : KpM [mb, tb] B a w) (u : Value) : KpM [mb, tb] B a (w.setCell ⟨mb, 3, none⟩ u) := h.set (by simp) u
end Go.Proofs.YtiganlkabilblaaGreatDoor
namespace Go.Proofs.YtiganlkabilblaaGreatDoor
open Go.RowKit Thk
attribute [local go_sem ↓] Go.wp_at_zero Go.wp_at_succ
theorem set6 {w : World} {b : Nat} {x y z : Value} {T : TypeId} (h : w.heap[b]? = some (.cells #[x, y, z] T (0, 0))) (u1 u2 u3 u4 u5 u6 : Value) : ((((((w.setCell ⟨b, 0, none⟩ u1).setCell ⟨b, 1, none⟩ u2).setCell ⟨b, 2, none⟩ u3).setCell ⟨b, 0, none⟩ u4).setCell ⟨b, 1, none⟩ u5).setCell ⟨b, 2, none⟩ u6).heap[b]? = some (.cells #[u4, u5, u6] T (0, 0)) := by
  rw [heap_setCell_at (heap_setCell_at (heap_setCell_at (heap_setCell_at (heap_setCell_at (heap_setCell_at h _) _) _) _) _) _]; rfl
set_option maxHeartbeats 8000000 in
set_option maxRecDepth 100000 in
theorem apart_any {wM : World} {mb tb : Nat} {N : List Nd} {rules : List Nat} {vr : Value} {s : ByteArray} (w : World) (g : Nat) (caps : Array Value) (k : Nat) (r : Out) (nt : Nt) (h : MS wM mb tb N rules vr s nt w)
    (hen : ∀ (args : Array Value) (w : World), (callFunc g args).run Tryz.prog w = .ok (.enter g args) w)
    (he : ∀ W, MS wM mb tb N rules vr s .nil W → Calls Tryz.prog g (#[.int .i64 k] ++ caps) W fun e w' => e = .returned (outV r) ∧ MS wM mb tb N rules vr s (noteO r) w' ∧ KpM [mb, tb] W.heap.size W w') :
    Calls Tryz.prog 120 #[ptrV mb, .func (.func g) #[] caps, .int .i64 k] w fun e w' => e = .returned (triV r) ∧ MS wM mb tb N rules vr s nt w' ∧ KpM [mb, tb] w.heap.size w w' := by
  have q : w.cell? ⟨mb, 3, none⟩ = some (ntV nt) := cell_of_block h.blk 3
  have fz := frozen_of_block h.blk 3
  have hl := heap_lt h.blk
  have H := hideP h
  have HE := hideP he
  have hnf := nt_form nt
  clear h he
  go_enter_defers Tryz.func120, Tryz.ntmps120
  go_wp2_with fail
  have hM1 : MS wM mb tb N rules vr s .nil ((w.setCell ⟨mb, 3, none⟩ .nilIface).alloc (.cells #[.int .i64 0, .bool false, .nilIface] 231)) := (H.out.noted .nil).below (below_alloc _ _)
  refine (HE.out _ hM1).mono ?_
  rintro _ w1 ⟨rfl, hs1, hk1⟩
  obtain ⟨W1, hW1⟩ : ∃ W1, W1 = ((w.setCell ⟨mb, 3, none⟩ .nilIface).alloc (.cells #[.int .i64 0, .bool false, .nilIface] 231)) := ⟨_, rfl⟩
  rw [← hW1] at hk1
  have hsz1 : W1.heap.size = w.heap.size + 1 := by rw [hW1]; simp [World.setCell]
  have hr1 : w1.heap[w.heap.size]? = some (.cells #[.int .i64 0, .bool false, .nilIface] 231 (0, 0)) := by
    rw [hk1.block _ (by omega) (by simp; have := H.out.tge; obtain ⟨L, hL, _⟩ := H.out.memo; have := hL.lt; omega), hW1]
    have := heap_alloc_same (w.setCell ⟨mb, 3, none⟩ .nilIface) (.cells #[.int .i64 0, .bool false, .nilIface] 231)
    simpa [World.setCell] using this
  have qm : w1.cell? ⟨mb, 3, none⟩ = some (ntV (noteO r)) := cell_of_block hs1.blk 3
  have ml1 := heap_lt hs1.blk
  have qr := cell_of_block hr1
  have fr := frozen_of_block hr1
  have lr := heap_lt' hr1
  have HS1 := hideP hs1
  have HK1 := hideP hk1
  have HSZ1 := hideP hsz1
  have HW1 := hideP hW1
  have hf := nt_form (noteO r)
  obtain ⟨nv, hnv⟩ : ∃ nv, nv = ntV (noteO r) := ⟨_, rfl⟩
  rw [← hnv] at qm hf
  have HNV := hideP hnv
  have HR1 := hideP hr1
  clear hs1 hk1 hr1 hW1 hM1 hsz1 hnv q fz
  rcases hf with rfl | ⟨t, x, rfl⟩
  · go_wp2_with fail
    go_region
    all_goals
      go_wp2_with fail
      obtain ⟨W5, hW5⟩ : ∃ W5, W5 = (((((((w1.setCell ⟨w.heap.size, 0, none⟩ (.int .i64 0)).setCell ⟨w.heap.size, 1, none⟩ (.bool false)).setCell ⟨w.heap.size, 2, none⟩ .nilIface).setCell ⟨w.heap.size, 0, none⟩ (.int .i64 (endO r))).setCell ⟨w.heap.size, 1, none⟩ (.bool r.isSome)).setCell ⟨w.heap.size, 2, none⟩ .nilIface).alloc (.cells #[.int .i64 (endO r), .bool r.isSome] 229)).drew := ⟨_, rfl⟩
      rw [← hW5]
      have hb5 : Below w.heap.size w1 W5 := by
        rw [hW5]
        refine Below.drew (Below.alloc ?_ (by simp [World.setCell]; omega) _)
        exact ((((((Below.refl _ _).setCell (p := ⟨w.heap.size, 0, none⟩) (Nat.le_refl _) _).setCell (p := ⟨w.heap.size, 1, none⟩) (Nat.le_refl _) _).setCell (p := ⟨w.heap.size, 2, none⟩) (Nat.le_refl _) _).setCell (p := ⟨w.heap.size, 0, none⟩) (Nat.le_refl _) _).setCell (p := ⟨w.heap.size, 1, none⟩) (Nat.le_refl _) _).setCell (p := ⟨w.heap.size, 2, none⟩) (Nat.le_refl _) _
      have hr5 : W5.heap[w.heap.size]? = some (.cells #[.int .i64 (endO r), .bool r.isSome, .nilIface] 231 (0, 0)) := by
        rw [hW5]
        show (World.alloc _ _).heap[w.heap.size]? = _
        rw [heap_alloc_old _ _ (by simp [World.setCell]; omega)]
        exact set6 HR1.out _ _ _ _ _ _
      have hm5 := HS1.out.low (H.out.size) H.out.tlt hb5
      refine leaves_cons (f := 152) (args := #[ptrV mb, ntV nt]) (by simp) (by simp [go_sem]) ?_
      refine (takeBack_d W5 mb .returning vr s _ _ nt hm5.blk).mono ?_
      rintro e u' w'' ⟨rfl, rfl, rfl⟩
      have hrb : w.heap.size ≠ mb := by omega
      refine ⟨_, results_cell_row rfl _ _ w.heap.size _ _ _ _ rfl (by rw [Below.heap_setCell _ _ _ _ hrb]; exact hr5) Tryz.underlying231 rfl (by kernel_rfl), ?_⟩
      refine ⟨by rw [HNV.out], hm5.noted nt, ?_⟩
      refine KpM.noted (KpM.low ?_ hb5) _
      have hk0 : KpM [mb, tb] w.heap.size w W1 := by
        rw [HW1.out]
        exact KpM.low ((KpM.refl _ _ _).noted _) ((Below.refl _ _).alloc (by simp [World.setCell]) _)
      exact hk0.trans (HK1.out.mono (by have := HSZ1.out; omega))
  · go_wp2_with fail
    go_region
    all_goals
      go_wp2_with fail
      obtain ⟨W5, hW5⟩ : ∃ W5, W5 = (((((((w1.setCell ⟨w.heap.size, 0, none⟩ (.int .i64 0)).setCell ⟨w.heap.size, 1, none⟩ (.bool false)).setCell ⟨w.heap.size, 2, none⟩ .nilIface).setCell ⟨w.heap.size, 0, none⟩ (.int .i64 (endO r))).setCell ⟨w.heap.size, 1, none⟩ (.bool r.isSome)).setCell ⟨w.heap.size, 2, none⟩ (.iface t x)).alloc (.cells #[.int .i64 (endO r), .bool r.isSome] 229)).drew := ⟨_, rfl⟩
      rw [← hW5]
      have hb5 : Below w.heap.size w1 W5 := by
        rw [hW5]
        refine Below.drew (Below.alloc ?_ (by simp [World.setCell]; omega) _)
        exact ((((((Below.refl _ _).setCell (p := ⟨w.heap.size, 0, none⟩) (Nat.le_refl _) _).setCell (p := ⟨w.heap.size, 1, none⟩) (Nat.le_refl _) _).setCell (p := ⟨w.heap.size, 2, none⟩) (Nat.le_refl _) _).setCell (p := ⟨w.heap.size, 0, none⟩) (Nat.le_refl _) _).setCell (p := ⟨w.heap.size, 1, none⟩) (Nat.le_refl _) _).setCell (p := ⟨w.heap.size, 2, none⟩) (Nat.le_refl _) _
      have hr5 : W5.heap[w.heap.size]? = some (.cells #[.int .i64 (endO r), .bool r.isSome, (.iface t x)] 231 (0, 0)) := by
        rw [hW5]
        show (World.alloc _ _).heap[w.heap.size]? = _
        rw [heap_alloc_old _ _ (by simp [World.setCell]; omega)]
        exact set6 HR1.out _ _ _ _ _ _
      have hm5 := HS1.out.low (H.out.size) H.out.tlt hb5
      refine leaves_cons (f := 152) (args := #[ptrV mb, ntV nt]) (by simp) (by simp [go_sem]) ?_
      refine (takeBack_d W5 mb .returning vr s _ _ nt hm5.blk).mono ?_
      rintro e u' w'' ⟨rfl, rfl, rfl⟩
      have hrb : w.heap.size ≠ mb := by omega
      refine ⟨_, results_cell_row rfl _ _ w.heap.size _ _ _ _ rfl (by rw [Below.heap_setCell _ _ _ _ hrb]; exact hr5) Tryz.underlying231 rfl (by kernel_rfl), ?_⟩
      refine ⟨by rw [HNV.out], hm5.noted nt, ?_⟩
      refine KpM.noted (KpM.low ?_ hb5) _
      have hk0 : KpM [mb, tb] w.heap.size w W1 := by
        rw [HW1.out]
        exact KpM.low ((KpM.refl _ _ _).noted _) ((Below.refl _ _).alloc (by simp [World.setCell]) _)
      exact hk0.trans (HK1.out.mono (by have := HSZ1.out; omega))
end Go.Proofs.YtiganlkabilblaaGreatDoor
namespace Go.Proofs.YtiganlkabilblaaGreatDoor
open Go.RowKit Thk
attribute [local go_sem ↓] Go.wp_at_zero Go.wp_at_succ
theorem MemoIs.lookB {w : World} {tb : Nat} {L : Memo} (h : MemoIs w tb L) (n k : Nat) {W : World} (hb : Below w.heap.size w W) :
    (Instr.lookup 174 (.map (some tb)) (spotV n k) true).run Tryz.prog W = .ok (.tuple #[triV ((memoAt L n k).getD none), .bool (memoAt L n k).isSome]) W := (h.same (hb.block _ h.lt)).look n k
theorem below_alloc2 (w : World) (a b : Obj) : Below w.heap.size w ((w.alloc a).alloc b) := (below_alloc w a).alloc (by simp) b
theorem below_alloc3 (w : World) (a b c : Obj) : Below w.heap.size w (((w.alloc a).alloc b).alloc c) := (below_alloc2 w a b).alloc (by simp; omega) c
set_option maxHeartbeats 8000000 in
set_option maxRecDepth 100000 in
/-- What has been tried is told again. -/
theorem once_hit {wM : World} {mb tb : Nat} {N : List Nd} {rules : List Nat} {vr : Value} {s : ByteArray} (w : World) (ev : Value) (n k : Nat) (r : Out) (nt : Nt) (h : MS wM mb tb N rules vr s nt w) (L : Memo) (hL : MemoIs w tb L) (hm : memoAt L n k = some r) :
    Calls Tryz.prog 178 #[ptrV mb, .int .i64 n, ev, .int .i64 k] w fun e w' => e = .returned (outV r) ∧ MS wM mb tb N rules vr s (jn nt (noteO r)) w' ∧ KpM [mb, tb] w.heap.size w w' := by
  have q2 : w.cell? ⟨mb, 2, none⟩ = some (.map (some tb)) := cell_of_block h.blk 2
  have hl := heap_lt h.blk
  have c3 : ∀ a b c, (((w.alloc a).alloc b).alloc c).cell? ⟨mb, 2, none⟩ = some (.map (some tb)) := fun a b c => by rw [(below_alloc3 w a b c).cell (p := ⟨mb, 2, none⟩) hl]; exact q2
  have k1 := fun a b => hL.lookB n k (below_alloc2 w a b)
  have k2 := fun a b => hL.lookB n k (below_alloc2 w a b).drew
  have k3 := fun a b c => hL.lookB n k (below_alloc3 w a b c)
  have k4 := fun a b c => hL.lookB n k (below_alloc3 w a b c).drew
  simp only [hm, Option.getD_some, Option.isSome_some, spotV, triV] at k1 k2 k3 k4
  have H := hideP h
  have hf := nt_form (noteO r)
  obtain ⟨nv, hnv⟩ : ∃ nv, nv = ntV (noteO r) := ⟨_, rfl⟩
  rw [← hnv] at k1 k2 k3 k4 hf
  have HNV := hideP hnv
  clear h hL hm hnv
  have HH := hideP (And.intro H.out.size H.out.tlt)
  rcases hf with rfl | ⟨t, x, rfl⟩
  · go_enter Tryz.func178, Tryz.ntmps178
    go_wp2_with fail
    go_region
    all_goals go_wp2_with fail
    all_goals
      obtain ⟨X, hX⟩ : ∃ X, X = (((w.alloc (Obj.cells #[.int .i64 0, .bool false] 229)).alloc (Obj.cells #[.int .i64 n, .int .i64 k] 328)).alloc (Obj.cells #[.int .i64 (endO r), .bool r.isSome, .nilIface] 231)).drew := ⟨_, rfl⟩
      have hBX : Below w.heap.size w X := by rw [hX]; exact (below_alloc3 w _ _ _).drew
      have hMX := H.out.below hBX
      have hKX : KpM [mb, tb] w.heap.size w X := KpM.of_below hBX
      rw [← hX]
      have hnote := note_any X mb vr s (.map (some tb)) nt (noteO r) hMX.blk
      rw [← HNV.out] at hnote
      have hx0 : X.heap[w.heap.size]? = some (.cells #[.int .i64 0, .bool false] 229 (0, 0)) := by
        rw [hX]
        show (World.alloc _ _).heap[w.heap.size]? = _
        rw [heap_alloc_old _ _ (by simp; omega), heap_alloc_old _ _ (by simp)]; exact heap_alloc_same _ _
      have hx2 : X.heap[w.heap.size + 1 + 1]? = some (.cells #[.int .i64 (endO r), .bool r.isSome, .nilIface] 231 (0, 0)) := by
        rw [hX]
        show (World.alloc _ _).heap[w.heap.size + 1 + 1]? = _
        have := heap_alloc_same ((w.alloc (Obj.cells #[.int .i64 0, .bool false] 229)).alloc (Obj.cells #[.int .i64 n, .int .i64 k] 328)) (Obj.cells #[.int .i64 (endO r), .bool r.isSome, .nilIface] 231)
        simpa using this
      refine hnote.mono ?_
      rintro _ w2 ⟨rfl, hw2⟩
      have hne0 : w.heap.size ≠ mb := by omega
      have hne2 : w.heap.size + 1 + 1 ≠ mb := by omega
      have y0 : w2.heap[w.heap.size]? = some (.cells #[.int .i64 0, .bool false] 229 (0, 0)) := by rw [hw2, Below.heap_setCell _ _ _ _ hne0]; exact hx0
      have y2 : w2.heap[w.heap.size + 1 + 1]? = some (.cells #[.int .i64 (endO r), .bool r.isSome, .nilIface] 231 (0, 0)) := by rw [hw2, Below.heap_setCell _ _ _ _ hne2]; exact hx2
      have z0 := cell_of_block y0
      have z2 := cell_of_block y2
      have f0 := frozen_of_block y0
      have l0 := heap_lt' y0
      have l2 := heap_lt' y2
      have HM2 : Hid (MS wM mb tb N rules vr s (jn nt (noteO r)) w2) := by rw [hw2]; exact hMX.noted _
      have HK2 : Hid (KpM [mb, tb] w.heap.size w w2) := by rw [hw2]; exact KpM.noted hKX _
      have HY0 := hideP y0
      clear hnote hw2 hx0 hx2 y0 y2
      go_wp2_with fail
      have hbf : Below w.heap.size w2 ((w2.setCell ⟨w.heap.size, 0, none⟩ (.int .i64 (endO r))).setCell ⟨w.heap.size, 1, none⟩ (.bool r.isSome)) := ((Below.refl _ _).setCell (p := ⟨w.heap.size, 0, none⟩) (Nat.le_refl _) _).setCell (p := ⟨w.heap.size, 1, none⟩) (Nat.le_refl _) _
      refine bodyPost_ret (results_cell_row rfl _ _ w.heap.size _ _ _ _ rfl (heap_setCell_at (heap_setCell_at HY0.out _) _) Tryz.underlying229 rfl (by kernel_rfl)) rfl ?_
      exact ⟨rfl, HM2.out.low HH.out.1 HH.out.2 hbf, HK2.out.low hbf⟩
  · go_enter Tryz.func178, Tryz.ntmps178
    go_wp2_with fail
    go_region
    all_goals go_wp2_with fail
    all_goals
      obtain ⟨X, hX⟩ : ∃ X, X = (((w.alloc (Obj.cells #[.int .i64 0, .bool false] 229)).alloc (Obj.cells #[.int .i64 n, .int .i64 k] 328)).alloc (Obj.cells #[.int .i64 (endO r), .bool r.isSome, (.iface t x)] 231)).drew := ⟨_, rfl⟩
      have hBX : Below w.heap.size w X := by rw [hX]; exact (below_alloc3 w _ _ _).drew
      have hMX := H.out.below hBX
      have hKX : KpM [mb, tb] w.heap.size w X := KpM.of_below hBX
      rw [← hX]
      have hnote := note_any X mb vr s (.map (some tb)) nt (noteO r) hMX.blk
      rw [← HNV.out] at hnote
      have hx0 : X.heap[w.heap.size]? = some (.cells #[.int .i64 0, .bool false] 229 (0, 0)) := by
        rw [hX]
        show (World.alloc _ _).heap[w.heap.size]? = _
        rw [heap_alloc_old _ _ (by simp; omega), heap_alloc_old _ _ (by simp)]; exact heap_alloc_same _ _
      have hx2 : X.heap[w.heap.size + 1 + 1]? = some (.cells #[.int .i64 (endO r), .bool r.isSome, (.iface t x)] 231 (0, 0)) := by
        rw [hX]
        show (World.alloc _ _).heap[w.heap.size + 1 + 1]? = _
        have := heap_alloc_same ((w.alloc (Obj.cells #[.int .i64 0, .bool false] 229)).alloc (Obj.cells #[.int .i64 n, .int .i64 k] 328)) (Obj.cells #[.int .i64 (endO r), .bool r.isSome, (.iface t x)] 231)
        simpa using this
      refine hnote.mono ?_
      rintro _ w2 ⟨rfl, hw2⟩
      have hne0 : w.heap.size ≠ mb := by omega
      have hne2 : w.heap.size + 1 + 1 ≠ mb := by omega
      have y0 : w2.heap[w.heap.size]? = some (.cells #[.int .i64 0, .bool false] 229 (0, 0)) := by rw [hw2, Below.heap_setCell _ _ _ _ hne0]; exact hx0
      have y2 : w2.heap[w.heap.size + 1 + 1]? = some (.cells #[.int .i64 (endO r), .bool r.isSome, (.iface t x)] 231 (0, 0)) := by rw [hw2, Below.heap_setCell _ _ _ _ hne2]; exact hx2
      have z0 := cell_of_block y0
      have z2 := cell_of_block y2
      have f0 := frozen_of_block y0
      have l0 := heap_lt' y0
      have l2 := heap_lt' y2
      have HM2 : Hid (MS wM mb tb N rules vr s (jn nt (noteO r)) w2) := by rw [hw2]; exact hMX.noted _
      have HK2 : Hid (KpM [mb, tb] w.heap.size w w2) := by rw [hw2]; exact KpM.noted hKX _
      have HY0 := hideP y0
      clear hnote hw2 hx0 hx2 y0 y2
      go_wp2_with fail
      have hbf : Below w.heap.size w2 ((w2.setCell ⟨w.heap.size, 0, none⟩ (.int .i64 (endO r))).setCell ⟨w.heap.size, 1, none⟩ (.bool r.isSome)) := ((Below.refl _ _).setCell (p := ⟨w.heap.size, 0, none⟩) (Nat.le_refl _) _).setCell (p := ⟨w.heap.size, 1, none⟩) (Nat.le_refl _) _
      refine bodyPost_ret (results_cell_row rfl _ _ w.heap.size _ _ _ _ rfl (heap_setCell_at (heap_setCell_at HY0.out _) _) Tryz.underlying229 rfl (by kernel_rfl)) rfl ?_
      exact ⟨rfl, HM2.out.low HH.out.1 HH.out.2 hbf, HK2.out.low hbf⟩
end Go.Proofs.YtiganlkabilblaaGreatDoor
namespace Go.Proofs.YtiganlkabilblaaGreatDoor
open Go.RowKit Thk
attribute [local go_sem ↓] Go.wp_at_zero Go.wp_at_succ
theorem memo_idx : ∀ (L : Memo) {n k : Nat} {r : Out}, memoAt L n k = some r → ∃ h : L.findIdx (fun p => p.1.1 == n && p.1.2 == k) < L.length, L[L.findIdx (fun p => p.1.1 == n && p.1.2 == k)] = ((n, k), r)
  | [], _, _, _, h => by simp [memoAt] at h
  | p :: L, n, k, r, h => by
    unfold memoAt at h
    rw [List.find?_cons] at h
    cases hb : (p.1.1 == n && p.1.2 == k) with
    | true =>
      rw [hb] at h
      simp only [Option.map_some, Option.some.injEq] at h
      have hi : (p :: L).findIdx (fun p => p.1.1 == n && p.1.2 == k) = 0 := by rw [List.findIdx_cons, hb]; rfl
      refine ⟨by rw [hi]; simp, ?_⟩
      simp only [hi, List.getElem_cons_zero]
      simp only [Bool.and_eq_true, beq_iff_eq] at hb
      obtain ⟨⟨a, b⟩, c⟩ := p
      simp only [] at hb h
      rw [hb.1, hb.2, h]
    | false =>
      rw [hb] at h
      obtain ⟨h1, h2⟩ := memo_idx L (n := n) (k := k) (r := r) h
      have hi : (p :: L).findIdx (fun p => p.1.1 == n && p.1.2 == k) = L.findIdx (fun p => p.1.1 == n && p.1.2 == k) + 1 := by rw [List.findIdx_cons, hb]; rfl
      refine ⟨by rw [hi, List.length_cons]; exact Nat.succ_lt_succ h1, ?_⟩
      simp only [hi, List.getElem_cons_succ]
      exact h2
/-- Once more the same. -/
theorem MemoIs.again {w : World} {tb : Nat} {L : Memo} (h : MemoIs w tb L) (n k : Nat) (r : Out) (hn : memoAt L n k = some r) :
    ∃ o, (Instr.mapUpdate 174 (.map (some tb)) (spotV n k) (triV r)).run Tryz.prog w = .ok () (putB w tb o) ∧ MemoIs (putB w tb o) tb L := by
  obtain ⟨es, clock, hb, hl⟩ := h
  have hck := check_spot false (n : Int) (k : Int) w
  have hfd := finding n k w es.toList L hl
  rw [hn] at hfd
  simp only [] at hfd
  obtain ⟨hi, hg⟩ := memo_idx L hn
  generalize hix : L.findIdx (fun p => p.1.1 == n && p.1.2 == k) = i at *
  have hlen : es.toList.length = L.length := by
    have := congrArg List.length hl
    simpa [memoC] using this
  have hie : i < es.size := by rw [← Array.length_toList]; omega
  have hge : (es[i].key, es[i].val) = (spotV n k, triV r) := by
    have h1 : (es.toList.map (fun x => (x.key, x.val)))[i]? = (memoC L)[i]? := by rw [hl]
    rw [List.getElem?_map, List.getElem?_eq_getElem (by omega)] at h1
    unfold memoC at h1
    rw [List.getElem?_map, List.getElem?_eq_getElem hi, hg] at h1
    simpa using h1
  have hkey : es[i].key = spotV n k := (Prod.mk.injEq _ _ _ _ ▸ hge).1
  have hval : es[i].val = triV r := (Prod.mk.injEq _ _ _ _ ▸ hge).2
  have hsb : Instr.sameBits 10000 (spotV n k) (spotV n k) = true := by
    simp [Instr.sameBits]
  have hks : ((es[i]?).map (·.key)).getD (spotV n k) = spotV n k := by
    rw [Array.getElem?_eq_getElem hie]; simp [hkey]
  refine ⟨.map (es.modify i fun e => { e with key := spotV n k, val := triV r }) clock, ?_, es.modify i (fun e => { e with key := spotV n k, val := triV r }), clock, ?_, ?_⟩
  · have hst : (Instr.keyThatStays (((es[i]?).map (·.key)).getD (spotV n k)) (spotV n k)).run Tryz.prog w = .ok (spotV n k) w := by
      rw [hks]; simp [Instr.keyThatStays, hsb]
    simp [Instr.mapUpdate, run_underlying Tryz.underlying174, MapKept.run_getObj_map hb, hck, hfd, Result.andThen, MapKept.run_setObj_map _ hb, hst]
  · have hlt := heap_lt hb
    show (w.heap.setIfInBounds tb _)[tb]? = _
    rw [Array.getElem?_setIfInBounds_self_of_lt hlt]
  · rw [← hl]
    apply List.ext_getElem?
    intro j
    rw [List.getElem?_map, List.getElem?_map, Array.getElem?_toList, Array.getElem?_toList, Array.getElem?_modify]
    by_cases hj : i = j
    · subst hj
      rw [if_pos rfl, Array.getElem?_eq_getElem hie]
      simp [hkey, hval]
    · rw [if_neg hj]
end Go.Proofs.YtiganlkabilblaaGreatDoor
namespace Go.Proofs.YtiganlkabilblaaGreatDoor
open Go.RowKit Thk
attribute [local go_sem ↓] Go.wp_at_zero Go.wp_at_succ
theorem memoAt_snoc (L : Memo) (n k : Nat) (r : Out) (hn : memoAt L n k = none) {a b : Nat} {v : Out} (h : memoAt (L ++ [((n, k), r)]) a b = some v) : memoAt L a b = some v ∨ (a = n ∧ b = k ∧ v = r) := by
  unfold memoAt at h ⊢
  rw [List.find?_append] at h
  cases hf : L.find? (fun p => p.1.1 == a && p.1.2 == b) with
  | some p => rw [hf] at h; exact .inl h
  | none =>
    rw [hf] at h
    simp only [Option.none_or, List.find?_cons, List.find?_nil] at h
    cases hb : (n == a && k == b) with
    | true =>
      rw [hb] at h
      simp only [Option.map_some, Option.some.injEq] at h
      simp only [Bool.and_eq_true, beq_iff_eq] at hb
      exact .inr ⟨hb.1.symm, hb.2.symm, h.symm⟩
    | false => rw [hb] at h; cases h
/-- What came of it is remembered. -/
theorem MS.put {wM : World} {mb tb : Nat} {N : List Nd} {rules : List Nat} {vr : Value} {s : ByteArray} {nt : Nt} {w : World} (h : MS wM mb tb N rules vr s nt w) {f n k : Nat} {r : Out} (hv : evN N rules s.data.toList f n k = some r) :
    ∃ o, (Instr.mapUpdate 174 (.map (some tb)) (spotV n k) (triV r)).run Tryz.prog w = .ok () (putB w tb o) ∧ MS wM mb tb N rules vr s nt (putB w tb o) ∧ KpM [mb, tb] w.heap.size w (putB w tb o) := by
  obtain ⟨L, hL, hS⟩ := h.memo
  have hne : mb ≠ tb := by have := h.mlt; have := h.tge; omega
  have hother : ∀ o b, b ≠ tb → (putB w tb o).heap[b]? = w.heap[b]? := fun o b hb => by
    show (w.heap.setIfInBounds tb o)[b]? = _
    rw [Array.getElem?_setIfInBounds_ne (fun e => hb e.symm)]
  have hsz : ∀ o, (putB w tb o).heap.size = w.heap.size := fun o => by
    show (w.heap.setIfInBounds tb o).size = _
    simp
  have hkp : ∀ o, KpM [mb, tb] w.heap.size w (putB w tb o) := fun o => ⟨rfl, rfl, rfl, by rw [hsz o]; exact Nat.le_refl _, fun b _ hb => hother o b (fun e => hb (by simp [e]))⟩
  have mk : ∀ o L', MemoIs (putB w tb o) tb L' → (∀ a b v, memoAt L' a b = some v → ∃ f, evN N rules s.data.toList f a b = some v) → MS wM mb tb N rules vr s nt (putB w tb o) := fun o L' h1 h2 =>
    ⟨by rw [hsz o]; exact h.size, fun b hb1 hb2 => by rw [hother o b (by have := h.tge; omega)]; exact h.old b hb1 hb2, h.mlt, by rw [hother o mb hne]; exact h.blk, h.tge, L', h1, h2⟩
  cases hm : memoAt L n k with
  | none =>
    obtain ⟨o, h1, h2⟩ := hL.put n k r hm
    refine ⟨o, h1, mk o _ h2 ?_, hkp o⟩
    intro a b v hab
    rcases memoAt_snoc L n k r hm hab with hab | ⟨rfl, rfl, rfl⟩
    · exact hS a b v hab
    · exact ⟨f, hv⟩
  | some r0 =>
    obtain ⟨f0, hf0⟩ := hS n k r0 hm
    have := evN_det hf0 hv
    subst this
    obtain ⟨o, h1, h2⟩ := hL.again n k r0 hm
    exact ⟨o, h1, mk o L h2 hS, hkp o⟩
set_option maxHeartbeats 16000000 in
set_option maxRecDepth 100000 in
/-- What has not been tried is tried, and remembered. -/
theorem once_miss {wM : World} {mb tb : Nat} {N : List Nd} {rules : List Nat} {vr : Value} {s : ByteArray} (w : World) (g : Nat) (caps : Array Value) (f n k : Nat) (r : Out) (nt : Nt) (h : MS wM mb tb N rules vr s nt w) (L : Memo) (hL : MemoIs w tb L) (hm : memoAt L n k = none) (hv : evN N rules s.data.toList f n k = some r)
    (hen : ∀ (args : Array Value) (w : World), (callFunc g args).run Tryz.prog w = .ok (.enter g args) w)
    (he : ∀ W, MS wM mb tb N rules vr s .nil W → Calls Tryz.prog g (#[.int .i64 k] ++ caps) W fun e w' => e = .returned (outV r) ∧ MS wM mb tb N rules vr s (noteO r) w' ∧ KpM [mb, tb] W.heap.size W w') :
    Calls Tryz.prog 178 #[ptrV mb, .int .i64 n, .func (.func g) #[] caps, .int .i64 k] w fun e w' => e = .returned (outV r) ∧ MS wM mb tb N rules vr s (jn nt (noteO r)) w' ∧ KpM [mb, tb] w.heap.size w w' := by
  have q2 : w.cell? ⟨mb, 2, none⟩ = some (.map (some tb)) := cell_of_block h.blk 2
  have hl := heap_lt h.blk
  have c3 : ∀ a b c, (((w.alloc a).alloc b).alloc c).cell? ⟨mb, 2, none⟩ = some (.map (some tb)) := fun a b c => by rw [(below_alloc3 w a b c).cell (p := ⟨mb, 2, none⟩) hl]; exact q2
  have k1 := fun a b => hL.lookB n k (below_alloc2 w a b)
  have k2 := fun a b => hL.lookB n k (below_alloc2 w a b).drew
  have k3 := fun a b c => hL.lookB n k (below_alloc3 w a b c)
  have k4 := fun a b c => hL.lookB n k (below_alloc3 w a b c).drew
  simp only [hm, Option.getD_none, Option.isSome_none, spotV, triV, endO, noteO, ntV] at k1 k2 k3 k4
  have H := hideP h
  have HV := hideP hv
  have hap := fun (W : World) (hW : MS wM mb tb N rules vr s nt W) => apart_any W g caps k r nt hW hen he
  have HAP := hideP hap
  have HH := hideP (And.intro H.out.size H.out.tlt)
  have hf := nt_form (noteO r)
  obtain ⟨nv, hnv⟩ : ∃ nv, nv = ntV (noteO r) := ⟨_, rfl⟩
  have HNV := hideP hnv
  rw [← hnv] at hf
  clear h hL hm he hen hv hap hnv
  rcases hf with rfl | ⟨t, x, rfl⟩
  · go_enter Tryz.func178, Tryz.ntmps178
    go_wp2_with fail
    go_region
    all_goals go_wp2_with fail
    all_goals
      obtain ⟨X0, hX0⟩ : ∃ X0, X0 = (((w.alloc (Obj.cells #[.int .i64 0, .bool false] 229)).alloc (Obj.cells #[.int .i64 n, .int .i64 k] 328)).alloc (Obj.cells #[.int .i64 0, .bool false, .nilIface] 231)).drew := ⟨_, rfl⟩
      have hBX0 : Below w.heap.size w X0 := by rw [hX0]; exact (below_alloc3 w _ _ _).drew
      have hZ0 : X0.heap.size = w.heap.size + 3 := by rw [hX0]; show (World.alloc _ _).heap.size = _; simp
      have g0 : X0.heap[w.heap.size]? = some (.cells #[.int .i64 0, .bool false] 229 (0, 0)) := by
        rw [hX0]
        show (World.alloc _ _).heap[w.heap.size]? = _
        rw [heap_alloc_old _ _ (by simp; omega), heap_alloc_old _ _ (by simp)]; exact heap_alloc_same _ _
      have g1 : X0.heap[w.heap.size + 1]? = some (.cells #[.int .i64 n, .int .i64 k] 328 (0, 0)) := by
        rw [hX0]
        show (World.alloc _ _).heap[w.heap.size + 1]? = _
        rw [heap_alloc_old _ _ (by simp)]
        have := heap_alloc_same (w.alloc (Obj.cells #[.int .i64 0, .bool false] 229)) (Obj.cells #[.int .i64 n, .int .i64 k] 328)
        simpa using this
      have g2 : X0.heap[w.heap.size + 1 + 1]? = some (.cells #[.int .i64 0, .bool false, .nilIface] 231 (0, 0)) := by
        rw [hX0]
        show (World.alloc _ _).heap[w.heap.size + 1 + 1]? = _
        have := heap_alloc_same ((w.alloc (Obj.cells #[.int .i64 0, .bool false] 229)).alloc (Obj.cells #[.int .i64 n, .int .i64 k] 328)) (Obj.cells #[.int .i64 0, .bool false, .nilIface] 231)
        simpa using this
      rw [← hX0]
      refine (HAP.out X0 (H.out.below hBX0)).mono ?_
      rintro _ w1 ⟨rfl, hs1, hk1⟩
      have hni : ∀ b, w.heap.size ≤ b → b ∉ [mb, tb] := fun b hb => by simp; have := HH.out.2; omega
      have i0 : w1.heap[w.heap.size]? = some (.cells #[.int .i64 0, .bool false] 229 (0, 0)) := by rw [hk1.block _ (by omega) (hni _ (by omega))]; exact g0
      have i1 : w1.heap[w.heap.size + 1]? = some (.cells #[.int .i64 n, .int .i64 k] 328 (0, 0)) := by rw [hk1.block _ (by omega) (hni _ (by omega))]; exact g1
      have i2 : w1.heap[w.heap.size + 1 + 1]? = some (.cells #[.int .i64 0, .bool false, .nilIface] 231 (0, 0)) := by rw [hk1.block _ (by omega) (hni _ (by omega))]; exact g2
      obtain ⟨W3, hW3⟩ : ∃ W3, W3 = (((w1.setCell ⟨w.heap.size + 1 + 1, 0, none⟩ (.int .i64 (endO r))).setCell ⟨w.heap.size + 1 + 1, 1, none⟩ (.bool r.isSome)).setCell ⟨w.heap.size + 1 + 1, 2, none⟩ .nilIface) := ⟨_, rfl⟩
      have hB3 : Below w.heap.size w1 W3 := by
        rw [hW3]
        exact (((Below.refl _ _).setCell (p := ⟨w.heap.size + 1 + 1, 0, none⟩) (by show w.heap.size ≤ w.heap.size + 1 + 1; omega) _).setCell (p := ⟨w.heap.size + 1 + 1, 1, none⟩) (by show w.heap.size ≤ w.heap.size + 1 + 1; omega) _).setCell (p := ⟨w.heap.size + 1 + 1, 2, none⟩) (by show w.heap.size ≤ w.heap.size + 1 + 1; omega) _
      have hM3 := hs1.low HH.out.1 HH.out.2 hB3
      have j0 : W3.heap[w.heap.size]? = some (.cells #[.int .i64 0, .bool false] 229 (0, 0)) := by
        rw [hW3, Below.heap_setCell _ _ _ _ (by simp; omega), Below.heap_setCell _ _ _ _ (by simp; omega), Below.heap_setCell _ _ _ _ (by simp; omega)]; exact i0
      have j1 : W3.heap[w.heap.size + 1]? = some (.cells #[.int .i64 n, .int .i64 k] 328 (0, 0)) := by
        rw [hW3, Below.heap_setCell _ _ _ _ (by simp), Below.heap_setCell _ _ _ _ (by simp), Below.heap_setCell _ _ _ _ (by simp)]; exact i1
      have j2 : W3.heap[w.heap.size + 1 + 1]? = some (.cells #[.int .i64 (endO r), .bool r.isSome, .nilIface] 231 (0, 0)) := by
        rw [hW3, heap_setCell_at (heap_setCell_at (heap_setCell_at i2 _) _) _]; rfl
      have hKX3 : KpM [mb, tb] w.heap.size w W3 := ((KpM.of_below hBX0).trans (hk1.mono (by omega))).low hB3
      have HM3 := hideP hM3
      have HKX3 := hideP hKX3
      have ci2 := cell_of_block i2
      have fi2 := frozen_of_block i2
      have li2 := heap_lt' i2
      have HW3 := hideP hW3
      have HJ0 := hideP j0
      have HJ1 := hideP j1
      have HJ2 := hideP j2
      clear hs1 hk1 i0 i1 i2 g0 g1 g2 hM3 hKX3 hB3 hBX0 hZ0 j0 j1 j2 hW3 hX0 k1 k2 k3 k4 c3 q2
      have htv : triV r = .agg #[.int .i64 (endO r), .bool r.isSome, .nilIface] := by rw [HNV.out]
      rw [htv]
      clear htv
      go_wp2_with fail
      rw [← HW3.out]
      clear ci2 fi2 li2
      have cj1 := cell_of_block HJ1.out
      have cj2 := cell_of_block HJ2.out
      have lj1 := heap_lt' HJ1.out
      have lj2 := heap_lt' HJ2.out
      have cm : W3.cell? ⟨mb, 2, none⟩ = some (.map (some tb)) := cell_of_block HM3.out.blk 2
      have lm := heap_lt HM3.out.blk
      obtain ⟨W5, hput, HM5, HK5⟩ : ∃ W5, (Instr.mapUpdate 174 (.map (some tb)) (.agg #[.int .i64 n, .int .i64 k]) (.agg #[.int .i64 (endO r), .bool r.isSome, .nilIface])).run Tryz.prog W3.drew = .ok () W5 ∧ Hid (MS wM mb tb N rules vr s nt W5) ∧ Hid (KpM [mb, tb] W3.heap.size W3.drew W5) := by
        obtain ⟨o, h1, h2, h3⟩ := (HM3.out.below (Below.refl _ _).drew).put HV.out
        refine ⟨_, ?_, hideP h2, hideP h3⟩
        rw [← h1]
        simp only [triV, spotV, ← HNV.out]
      have m0 : W5.heap[w.heap.size]? = some (.cells #[.int .i64 0, .bool false] 229 (0, 0)) := by
        rw [HK5.out.block _ (heap_lt HJ0.out) (hni _ (Nat.le_refl _))]; exact HJ0.out
      have m2 : W5.heap[w.heap.size + 1 + 1]? = some (.cells #[.int .i64 (endO r), .bool r.isSome, .nilIface] 231 (0, 0)) := by
        rw [HK5.out.block _ (heap_lt HJ2.out) (hni _ (by omega))]; exact HJ2.out
      have HKW : Hid (KpM [mb, tb] w.heap.size w W5) := hideP ((HKX3.out.low (Below.refl _ _).drew).trans (HK5.out.mono (by have := heap_lt HJ0.out; omega)))
      have HN : Hid (∀ nv, ntV (noteO r) = nv → Calls Tryz.prog 192 #[.pointer (some ⟨mb, 0, none⟩), nv] W5 fun e w' => e = .returned (.tuple #[]) ∧ w' = W5.setCell ⟨mb, 3, none⟩ (ntV (jn nt (noteO r)))) := hideP (fun nv hn => hn ▸ note_any W5 mb vr s (.map (some tb)) nt (noteO r) HM5.out.blk)
      have cn2 := cell_of_block m2
      have ln2 := heap_lt' m2
      have HM0 := hideP m0
      have HM2 := hideP m2
      clear m0 m2
      go_region
      all_goals go_wp2_with fail
      all_goals
        refine (HN.out _ HNV.out.symm).mono ?_
        rintro _ w2 ⟨rfl, hw2⟩
        have hne0 : w.heap.size ≠ mb := by omega
        have hne2 : w.heap.size + 1 + 1 ≠ mb := by omega
        have y0 : w2.heap[w.heap.size]? = some (.cells #[.int .i64 0, .bool false] 229 (0, 0)) := by rw [hw2, Below.heap_setCell _ _ _ _ hne0]; exact HM0.out
        have y2 : w2.heap[w.heap.size + 1 + 1]? = some (.cells #[.int .i64 (endO r), .bool r.isSome, .nilIface] 231 (0, 0)) := by rw [hw2, Below.heap_setCell _ _ _ _ hne2]; exact HM2.out
        have z0 := cell_of_block y0
        have z2 := cell_of_block y2
        have f0 := frozen_of_block y0
        have l0 := heap_lt' y0
        have l2 := heap_lt' y2
        have HMM : Hid (MS wM mb tb N rules vr s (jn nt (noteO r)) w2) := by rw [hw2]; exact hideP (HM5.out.noted _)
        have HKK : Hid (KpM [mb, tb] w.heap.size w w2) := by rw [hw2]; exact hideP (KpM.noted HKW.out _)
        have HY0 := hideP y0
        clear hw2 y0 y2 cn2 ln2 cj1 cj2 lj1 lj2 cm lm hput
        go_wp2_with fail
        have hbf : Below w.heap.size w2 ((w2.setCell ⟨w.heap.size, 0, none⟩ (.int .i64 (endO r))).setCell ⟨w.heap.size, 1, none⟩ (.bool r.isSome)) := ((Below.refl _ _).setCell (p := ⟨w.heap.size, 0, none⟩) (Nat.le_refl _) _).setCell (p := ⟨w.heap.size, 1, none⟩) (Nat.le_refl _) _
        refine bodyPost_ret (results_cell_row rfl _ _ w.heap.size _ _ _ _ rfl (heap_setCell_at (heap_setCell_at HY0.out _) _) Tryz.underlying229 rfl (by kernel_rfl)) rfl ?_
        exact ⟨rfl, HMM.out.low HH.out.1 HH.out.2 hbf, HKK.out.low hbf⟩
  · go_enter Tryz.func178, Tryz.ntmps178
    go_wp2_with fail
    go_region
    all_goals go_wp2_with fail
    all_goals
      obtain ⟨X0, hX0⟩ : ∃ X0, X0 = (((w.alloc (Obj.cells #[.int .i64 0, .bool false] 229)).alloc (Obj.cells #[.int .i64 n, .int .i64 k] 328)).alloc (Obj.cells #[.int .i64 0, .bool false, .nilIface] 231)).drew := ⟨_, rfl⟩
      have hBX0 : Below w.heap.size w X0 := by rw [hX0]; exact (below_alloc3 w _ _ _).drew
      have hZ0 : X0.heap.size = w.heap.size + 3 := by rw [hX0]; show (World.alloc _ _).heap.size = _; simp
      have g0 : X0.heap[w.heap.size]? = some (.cells #[.int .i64 0, .bool false] 229 (0, 0)) := by
        rw [hX0]
        show (World.alloc _ _).heap[w.heap.size]? = _
        rw [heap_alloc_old _ _ (by simp; omega), heap_alloc_old _ _ (by simp)]; exact heap_alloc_same _ _
      have g1 : X0.heap[w.heap.size + 1]? = some (.cells #[.int .i64 n, .int .i64 k] 328 (0, 0)) := by
        rw [hX0]
        show (World.alloc _ _).heap[w.heap.size + 1]? = _
        rw [heap_alloc_old _ _ (by simp)]
        have := heap_alloc_same (w.alloc (Obj.cells #[.int .i64 0, .bool false] 229)) (Obj.cells #[.int .i64 n, .int .i64 k] 328)
        simpa using this
      have g2 : X0.heap[w.heap.size + 1 + 1]? = some (.cells #[.int .i64 0, .bool false, .nilIface] 231 (0, 0)) := by
        rw [hX0]
        show (World.alloc _ _).heap[w.heap.size + 1 + 1]? = _
        have := heap_alloc_same ((w.alloc (Obj.cells #[.int .i64 0, .bool false] 229)).alloc (Obj.cells #[.int .i64 n, .int .i64 k] 328)) (Obj.cells #[.int .i64 0, .bool false, .nilIface] 231)
        simpa using this
      rw [← hX0]
      refine (HAP.out X0 (H.out.below hBX0)).mono ?_
      rintro _ w1 ⟨rfl, hs1, hk1⟩
      have hni : ∀ b, w.heap.size ≤ b → b ∉ [mb, tb] := fun b hb => by simp; have := HH.out.2; omega
      have i0 : w1.heap[w.heap.size]? = some (.cells #[.int .i64 0, .bool false] 229 (0, 0)) := by rw [hk1.block _ (by omega) (hni _ (by omega))]; exact g0
      have i1 : w1.heap[w.heap.size + 1]? = some (.cells #[.int .i64 n, .int .i64 k] 328 (0, 0)) := by rw [hk1.block _ (by omega) (hni _ (by omega))]; exact g1
      have i2 : w1.heap[w.heap.size + 1 + 1]? = some (.cells #[.int .i64 0, .bool false, .nilIface] 231 (0, 0)) := by rw [hk1.block _ (by omega) (hni _ (by omega))]; exact g2
      obtain ⟨W3, hW3⟩ : ∃ W3, W3 = (((w1.setCell ⟨w.heap.size + 1 + 1, 0, none⟩ (.int .i64 (endO r))).setCell ⟨w.heap.size + 1 + 1, 1, none⟩ (.bool r.isSome)).setCell ⟨w.heap.size + 1 + 1, 2, none⟩ (.iface t x)) := ⟨_, rfl⟩
      have hB3 : Below w.heap.size w1 W3 := by
        rw [hW3]
        exact (((Below.refl _ _).setCell (p := ⟨w.heap.size + 1 + 1, 0, none⟩) (by show w.heap.size ≤ w.heap.size + 1 + 1; omega) _).setCell (p := ⟨w.heap.size + 1 + 1, 1, none⟩) (by show w.heap.size ≤ w.heap.size + 1 + 1; omega) _).setCell (p := ⟨w.heap.size + 1 + 1, 2, none⟩) (by show w.heap.size ≤ w.heap.size + 1 + 1; omega) _
      have hM3 := hs1.low HH.out.1 HH.out.2 hB3
      have j0 : W3.heap[w.heap.size]? = some (.cells #[.int .i64 0, .bool false] 229 (0, 0)) := by
        rw [hW3, Below.heap_setCell _ _ _ _ (by simp; omega), Below.heap_setCell _ _ _ _ (by simp; omega), Below.heap_setCell _ _ _ _ (by simp; omega)]; exact i0
      have j1 : W3.heap[w.heap.size + 1]? = some (.cells #[.int .i64 n, .int .i64 k] 328 (0, 0)) := by
        rw [hW3, Below.heap_setCell _ _ _ _ (by simp), Below.heap_setCell _ _ _ _ (by simp), Below.heap_setCell _ _ _ _ (by simp)]; exact i1
      have j2 : W3.heap[w.heap.size + 1 + 1]? = some (.cells #[.int .i64 (endO r), .bool r.isSome, (.iface t x)] 231 (0, 0)) := by
        rw [hW3, heap_setCell_at (heap_setCell_at (heap_setCell_at i2 _) _) _]; rfl
      have hKX3 : KpM [mb, tb] w.heap.size w W3 := ((KpM.of_below hBX0).trans (hk1.mono (by omega))).low hB3
      have HM3 := hideP hM3
      have HKX3 := hideP hKX3
      have ci2 := cell_of_block i2
      have fi2 := frozen_of_block i2
      have li2 := heap_lt' i2
      have HW3 := hideP hW3
      have HJ0 := hideP j0
      have HJ1 := hideP j1
      have HJ2 := hideP j2
      clear hs1 hk1 i0 i1 i2 g0 g1 g2 hM3 hKX3 hB3 hBX0 hZ0 j0 j1 j2 hW3 hX0 k1 k2 k3 k4 c3 q2
      have htv : triV r = .agg #[.int .i64 (endO r), .bool r.isSome, (.iface t x)] := by rw [HNV.out]
      rw [htv]
      clear htv
      go_wp2_with fail
      rw [← HW3.out]
      clear ci2 fi2 li2
      have cj1 := cell_of_block HJ1.out
      have cj2 := cell_of_block HJ2.out
      have lj1 := heap_lt' HJ1.out
      have lj2 := heap_lt' HJ2.out
      have cm : W3.cell? ⟨mb, 2, none⟩ = some (.map (some tb)) := cell_of_block HM3.out.blk 2
      have lm := heap_lt HM3.out.blk
      obtain ⟨W5, hput, HM5, HK5⟩ : ∃ W5, (Instr.mapUpdate 174 (.map (some tb)) (.agg #[.int .i64 n, .int .i64 k]) (.agg #[.int .i64 (endO r), .bool r.isSome, (.iface t x)])).run Tryz.prog W3.drew = .ok () W5 ∧ Hid (MS wM mb tb N rules vr s nt W5) ∧ Hid (KpM [mb, tb] W3.heap.size W3.drew W5) := by
        obtain ⟨o, h1, h2, h3⟩ := (HM3.out.below (Below.refl _ _).drew).put HV.out
        refine ⟨_, ?_, hideP h2, hideP h3⟩
        rw [← h1]
        simp only [triV, spotV, ← HNV.out]
      have m0 : W5.heap[w.heap.size]? = some (.cells #[.int .i64 0, .bool false] 229 (0, 0)) := by
        rw [HK5.out.block _ (heap_lt HJ0.out) (hni _ (Nat.le_refl _))]; exact HJ0.out
      have m2 : W5.heap[w.heap.size + 1 + 1]? = some (.cells #[.int .i64 (endO r), .bool r.isSome, (.iface t x)] 231 (0, 0)) := by
        rw [HK5.out.block _ (heap_lt HJ2.out) (hni _ (by omega))]; exact HJ2.out
      have HKW : Hid (KpM [mb, tb] w.heap.size w W5) := hideP ((HKX3.out.low (Below.refl _ _).drew).trans (HK5.out.mono (by have := heap_lt HJ0.out; omega)))
      have HN : Hid (∀ nv, ntV (noteO r) = nv → Calls Tryz.prog 192 #[.pointer (some ⟨mb, 0, none⟩), nv] W5 fun e w' => e = .returned (.tuple #[]) ∧ w' = W5.setCell ⟨mb, 3, none⟩ (ntV (jn nt (noteO r)))) := hideP (fun nv hn => hn ▸ note_any W5 mb vr s (.map (some tb)) nt (noteO r) HM5.out.blk)
      have cn2 := cell_of_block m2
      have ln2 := heap_lt' m2
      have HM0 := hideP m0
      have HM2 := hideP m2
      clear m0 m2
      go_region
      all_goals go_wp2_with fail
      all_goals
        refine (HN.out _ HNV.out.symm).mono ?_
        rintro _ w2 ⟨rfl, hw2⟩
        have hne0 : w.heap.size ≠ mb := by omega
        have hne2 : w.heap.size + 1 + 1 ≠ mb := by omega
        have y0 : w2.heap[w.heap.size]? = some (.cells #[.int .i64 0, .bool false] 229 (0, 0)) := by rw [hw2, Below.heap_setCell _ _ _ _ hne0]; exact HM0.out
        have y2 : w2.heap[w.heap.size + 1 + 1]? = some (.cells #[.int .i64 (endO r), .bool r.isSome, (.iface t x)] 231 (0, 0)) := by rw [hw2, Below.heap_setCell _ _ _ _ hne2]; exact HM2.out
        have z0 := cell_of_block y0
        have z2 := cell_of_block y2
        have f0 := frozen_of_block y0
        have l0 := heap_lt' y0
        have l2 := heap_lt' y2
        have HMM : Hid (MS wM mb tb N rules vr s (jn nt (noteO r)) w2) := by rw [hw2]; exact hideP (HM5.out.noted _)
        have HKK : Hid (KpM [mb, tb] w.heap.size w w2) := by rw [hw2]; exact hideP (KpM.noted HKW.out _)
        have HY0 := hideP y0
        clear hw2 y0 y2 cn2 ln2 cj1 cj2 lj1 lj2 cm lm hput
        go_wp2_with fail
        have hbf : Below w.heap.size w2 ((w2.setCell ⟨w.heap.size, 0, none⟩ (.int .i64 (endO r))).setCell ⟨w.heap.size, 1, none⟩ (.bool r.isSome)) := ((Below.refl _ _).setCell (p := ⟨w.heap.size, 0, none⟩) (Nat.le_refl _) _).setCell (p := ⟨w.heap.size, 1, none⟩) (Nat.le_refl _) _
        refine bodyPost_ret (results_cell_row rfl _ _ w.heap.size _ _ _ _ rfl (heap_setCell_at (heap_setCell_at HY0.out _) _) Tryz.underlying229 rfl (by kernel_rfl)) rfl ?_
        exact ⟨rfl, HMM.out.low HH.out.1 HH.out.2 hbf, HKK.out.low hbf⟩
/-- Once: what has been tried is told again, what has not is tried. -/
theorem once_any {wM : World} {mb tb : Nat} {N : List Nd} {rules : List Nat} {vr : Value} {s : ByteArray} (w : World) (g : Nat) (caps : Array Value) (f n k : Nat) (r : Out) (nt : Nt) (h : MS wM mb tb N rules vr s nt w) (hv : evN N rules s.data.toList f n k = some r)
    (hen : ∀ (args : Array Value) (w : World), (callFunc g args).run Tryz.prog w = .ok (.enter g args) w)
    (he : ∀ W, MS wM mb tb N rules vr s .nil W → Calls Tryz.prog g (#[.int .i64 k] ++ caps) W fun e w' => e = .returned (outV r) ∧ MS wM mb tb N rules vr s (noteO r) w' ∧ KpM [mb, tb] W.heap.size W w') :
    Calls Tryz.prog 178 #[ptrV mb, .int .i64 n, .func (.func g) #[] caps, .int .i64 k] w fun e w' => e = .returned (outV r) ∧ MS wM mb tb N rules vr s (jn nt (noteO r)) w' ∧ KpM [mb, tb] w.heap.size w w' := by
  obtain ⟨L, hL, hS⟩ := h.memo
  cases hm : memoAt L n k with
  | none => exact once_miss w g caps f n k r nt h L hL hm hv hen he
  | some r0 =>
    obtain ⟨f0, hf0⟩ := hS n k r0 hm
    have := evN_det hf0 hv
    subst this
    exact once_hit w _ n k r0 nt h L hL hm
end Go.Proofs.YtiganlkabilblaaGreatDoor
namespace Go.Proofs.YtiganlkabilblaaGreatDoor
open Go.RowKit Thk
attribute [local go_sem ↓] Go.wp_at_zero Go.wp_at_succ
theorem jn_nil (a : Nt) : jn a .nil = a := by cases a <;> rfl
theorem nil_jn (a : Nt) : jn .nil a = a := by cases a <;> rfl
/-- Where it ends lies within the input. -/
def InR (inp : Bytes) (F : NEv) : Prop := ∀ n k e m, k ≤ inp.length → F n k = some (some (e, m)) → k ≤ e ∧ e ≤ inp.length
theorem chN_in {inp : Bytes} {F : NEv} (h : InR inp F) : ∀ js k e m, k ≤ inp.length → chN F js k = some (some (e, m)) → k ≤ e ∧ e ≤ inp.length
  | [], k, e, m, _, hv => by simp [chN] at hv
  | j :: js, k, e, m, hk, hv => by
    simp only [chN] at hv
    cases hF : F j k with
    | none => rw [hF] at hv; cases hv
    | some o =>
      rw [hF] at hv
      cases o with
      | none => exact chN_in h js k e m hk hv
      | some x => cases hv; exact h _ _ _ _ hk hF
theorem sqN_in {inp : Bytes} {F : NEv} (h : InR inp F) : ∀ js k acc e m, k ≤ inp.length → sqN F js k acc = some (some (e, m)) → k ≤ e ∧ e ≤ inp.length
  | [], k, acc, e, m, hk, hv => by simp only [sqN, Option.some.injEq, Prod.mk.injEq] at hv; omega
  | j :: js, k, acc, e, m, hk, hv => by
    simp only [sqN] at hv
    cases hF : F j k with
    | none => rw [hF] at hv; cases hv
    | some o =>
      rw [hF] at hv
      cases o with
      | none => cases hv
      | some x =>
        have h1 := h _ _ _ _ hk hF
        have h2 := sqN_in h js x.1 _ e m h1.2 hv
        omega
theorem bodyN_in {inp : Bytes} {rules : List Nat} {F : NEv} (h : InR inp F) {n k e : Nat} {m : Nt} {d : Nd} (hk : k ≤ inp.length) (hv : bodyN rules inp F n k d = some (some (e, m))) : k ≤ e ∧ e ≤ inp.length := by
  cases d with
  | choice ks => exact chN_in h _ _ _ _ hk hv
  | seq ks => exact sqN_in h _ _ _ _ _ hk hv
  | ahead j w =>
    simp only [bodyN] at hv
    cases hF : F j k with
    | none => rw [hF] at hv; cases hv
    | some o =>
      rw [hF] at hv
      simp only [Option.map_some, Option.some.injEq, lookOut] at hv
      split at hv
      · cases hv; omega
      · cases hv
  | maybe j =>
    simp only [bodyN] at hv
    cases hF : F j k with
    | none => rw [hF] at hv; cases hv
    | some o =>
      rw [hF] at hv
      simp only [Option.map_some, Option.some.injEq, maybeOut] at hv
      cases o with
      | none => cases hv; omega
      | some x => cases hv; exact h _ _ _ _ hk hF
  | plus j =>
    simp only [bodyN, plN] at hv
    cases hF : F j k with
    | none => rw [hF] at hv; cases hv
    | some o =>
      rw [hF] at hv
      cases o with
      | none => cases hv
      | some x =>
        have h1 := h _ _ _ _ hk hF
        simp only [] at hv
        cases hF2 : F n x.1 with
        | none => rw [hF2] at hv; cases hv
        | some o2 =>
          rw [hF2] at hv
          cases o2 with
          | none => cases hv; exact h1
          | some y =>
            have h2 := h _ _ _ _ h1.2 hF2
            cases hv
            omega
  | name i =>
    simp only [bodyN] at hv
    cases hr : rules[i]? with
    | none => rw [hr] at hv; cases hv
    | some j =>
      rw [hr] at hv
      simp only [] at hv
      cases hF : F j k with
      | none => rw [hF] at hv; cases hv
      | some o =>
        rw [hF] at hv
        cases o with
        | none => cases hv
        | some x =>
          have h1 := h _ _ _ _ hk hF
          simp only [Option.map_some, Option.some.injEq, nameOut] at hv
          split at hv
          · cases hv; exact h1
          · cases hv; exact h1
  | lit b =>
    simp only [bodyN, litOut, Option.some.injEq] at hv
    split at hv
    · rename_i hp
      have := (List.isPrefixOf_iff_prefix.mp hp).length_le
      rw [List.length_drop] at this
      cases hv
      omega
    · cases hv
  | cls l =>
    simp only [bodyN, byteOut, Option.some.injEq] at hv
    split at hv
    · cases hv
    · rename_i hg
      have := (List.getElem?_eq_some_iff.mp hg).1
      split at hv
      · cases hv; omega
      · cases hv
  | any =>
    simp only [bodyN, byteOut, Option.some.injEq] at hv
    split at hv
    · cases hv
    · rename_i hg
      have := (List.getElem?_eq_some_iff.mp hg).1
      split at hv
      · cases hv; omega
      · cases hv
theorem evN_in (N : List Nd) (rules : List Nat) (inp : Bytes) : ∀ f, InR inp (evN N rules inp f)
  | 0, _, _, _, _, _, h => by cases h
  | f + 1, n, k, e, m, hk, h => by
    simp only [evN] at h
    cases hn : N[n]? with
    | none => rw [hn] at h; cases h
    | some d => rw [hn] at h; exact bodyN_in (evN_in N rules inp f) hk h
theorem Mde.ne {wM : World} {mb : Nat} {N : List Nd} {bx : List (Nat × Nat × Nat)} {rules : List Nat} {vr : Value} (M : Mde wM mb N bx rules vr) {b : Nat} {v : Value} {t : TypeId} (h : wM.heap[b]? = some (boxO v t)) : b ≠ mb := by
  rintro rfl
  obtain ⟨sv, tv, nv, hm⟩ := M.mat
  rw [hm] at h
  simp at h
theorem MS.box {wM : World} {mb tb : Nat} {N : List Nd} {bx : List (Nat × Nat × Nat)} {rules : List Nat} {vr : Value} {s : ByteArray} {nt : Nt} {w : World} (h : MS wM mb tb N rules vr s nt w) (M : Mde wM mb N bx rules vr) {b : Nat} {v : Value} {t : TypeId} (hb : wM.heap[b]? = some (boxO v t)) : w.heap[b]? = some (boxO v t) := by
  rw [h.old b (heap_lt hb) (M.ne hb)]; exact hb
abbrev PostM (wM : World) (mb tb : Nat) (N : List Nd) (rules : List Nat) (vr : Value) (s : ByteArray) (nt : Nt) (r : Out) (W : World) : Ending → World → Prop := fun e w' => e = .returned (outV r) ∧ MS wM mb tb N rules vr s (jn nt (noteO r)) w' ∧ KpM [mb, tb] W.heap.size W w'
/-- The functions that are remembered tell what they should. -/
def InnC (wM : World) (mb tb : Nat) (N : List Nd) (bx : List (Nat × Nat × Nat)) (rules : List Nat) (vr : Value) (s : ByteArray) (f : Nat) : Prop :=
  ∀ n d iv k r, Inn wM mb bx n iv d → bodyN rules s.data.toList (evN N rules s.data.toList f) n k d = some r → k ≤ s.size →
    ∃ g caps, iv = .func (.func g) #[] caps ∧ (∀ (args : Array Value) (w : World), (callFunc g args).run Tryz.prog w = .ok (.enter g args) w) ∧
      ∀ W, MS wM mb tb N rules vr s .nil W → Calls Tryz.prog g (#[.int .i64 k] ++ caps) W (PostM wM mb tb N rules vr s .nil r W)
/-- And so those that remember. -/
def CloC (wM : World) (mb tb : Nat) (N : List Nd) (bx : List (Nat × Nat × Nat)) (rules : List Nat) (vr : Value) (s : ByteArray) (f : Nat) : Prop :=
  ∀ n k r nt, evN N rules s.data.toList f n k = some r → k ≤ s.size → ∀ W, MS wM mb tb N rules vr s nt W →
    Calls Tryz.prog 177 #[.int .i64 k, ptrV (bx.getD n (0, 0, 0)).1, ptrV (bx.getD n (0, 0, 0)).2.1, ptrV (bx.getD n (0, 0, 0)).2.2] W (PostM wM mb tb N rules vr s nt r W)
set_option maxHeartbeats 4000000 in
set_option maxRecDepth 100000 in
theorem clo_any {wM : World} {mb tb : Nat} {N : List Nd} {bx : List (Nat × Nat × Nat)} {rules : List Nat} {vr : Value} {s : ByteArray} (M : Mde wM mb N bx rules vr) {f : Nat} (hI : InnC wM mb tb N bx rules vr s f) : CloC wM mb tb N bx rules vr s (f + 1) := by
  intro n k r nt hv hk w h
  have hv0 := hv
  simp only [evN] at hv
  cases hn : N[n]? with
  | none => rw [hn] at hv; cases hv
  | some d =>
    rw [hn] at hv
    obtain ⟨iv, b1, b2, b3, hin⟩ := M.clo n d hn
    obtain ⟨g, caps, rfl, hen, he⟩ := hI n d _ k r hin hv hk
    have p1 := h.box M b1
    have p2 := h.box M b2
    have p3 := h.box M b3
    generalize (bx.getD n (0, 0, 0)).1 = x1 at *
    generalize (bx.getD n (0, 0, 0)).2.1 = x2 at *
    generalize (bx.getD n (0, 0, 0)).2.2 = x3 at *
    have q1 := cell_of_block p1
    have q2 := cell_of_block p2
    have q3 := cell_of_block p3
    have l1 := heap_lt' p1
    have l2 := heap_lt' p2
    have l3 := heap_lt' p3
    have honce := fun (W : World) (hW : MS wM mb tb N rules vr s nt W) => once_any W g caps (f + 1) n k r nt hW hv0 hen (fun W1 hW1 => (he W1 hW1).mono (fun e w' hh => ⟨hh.1, by have := hh.2.1; rwa [nil_jn] at this, hh.2.2⟩))
    have HO := hideP honce
    have H := hideP h
    have HH := hideP (And.intro h.size h.tlt)
    clear honce h hin hen he hv hv0 hn b1 b2 b3 p1 p2 p3 hI M
    go_enter Tryz.func177, Tryz.ntmps177
    go_wp2_with fail
    refine (HO.out _ (H.out.below (below_alloc w _))).mono ?_
    rintro _ w1 ⟨rfl, hs1, hk1⟩
    have hb0 : w1.heap[w.heap.size]? = some (.cells #[.int .i64 0, .bool false] 229 (0, 0)) := by
      rw [hk1.block _ (by simp) (by simp; have := HH.out.2; have := H.out.mlt; have := HH.out.1; omega)]
      exact heap_alloc_same _ _
    have z0 := cell_of_block hb0
    have f0 := frozen_of_block hb0
    have l0 := heap_lt' hb0
    have HS1 := hideP hs1
    have HK1 : Hid (KpM [mb, tb] w.heap.size w w1) := hideP ((KpM.of_below (below_alloc w _)).trans (hk1.mono (by simp)))
    have HB0 := hideP hb0
    clear hs1 hk1 hb0
    go_wp2_with fail
    have hbf : Below w.heap.size w1 ((w1.setCell ⟨w.heap.size, 0, none⟩ (.int .i64 (endO r))).setCell ⟨w.heap.size, 1, none⟩ (.bool r.isSome)) := ((Below.refl _ _).setCell (p := ⟨w.heap.size, 0, none⟩) (Nat.le_refl _) _).setCell (p := ⟨w.heap.size, 1, none⟩) (Nat.le_refl _) _
    refine bodyPost_ret (results_cell_row rfl _ _ w.heap.size _ _ _ _ rfl (heap_setCell_at (heap_setCell_at HB0.out _) _) Tryz.underlying229 rfl (by kernel_rfl)) rfl ?_
    exact ⟨rfl, HS1.out.low HH.out.1 HH.out.2 hbf, HK1.out.low hbf⟩
end Go.Proofs.YtiganlkabilblaaGreatDoor
namespace Go.Proofs.YtiganlkabilblaaGreatDoor
open Go.RowKit Thk
attribute [local go_sem ↓] Go.wp_at_zero Go.wp_at_succ
abbrev outC : Obj := .cells #[.int .i64 0, .bool false] 229 (0, 0)
/-- A function that remembers, called beside a result's cell. -/
theorem CloC.at {wM : World} {mb tb : Nat} {N : List Nd} {bx : List (Nat × Nat × Nat)} {rules : List Nat} {vr : Value} {s : ByteArray} {f : Nat} (hC : CloC wM mb tb N bx rules vr s f) {n k : Nat} {r : Out} {nt : Nt} (hv : evN N rules s.data.toList f n k = some r) (hk : k ≤ s.size) {B : Nat} {w W : World} (hW : MS wM mb tb N rules vr s nt W) (hK : KpM [mb, tb] B w W) (hB : B ≤ W.heap.size) :
    Calls Tryz.prog 177 #[.int .i64 k, ptrV (bx.getD n (0, 0, 0)).1, ptrV (bx.getD n (0, 0, 0)).2.1, ptrV (bx.getD n (0, 0, 0)).2.2] W fun e w' => e = .returned (outV r) ∧ MS wM mb tb N rules vr s (jn nt (noteO r)) w' ∧ KpM [mb, tb] B w w' ∧ W.heap.size ≤ w'.heap.size ∧ ∀ b, b < W.heap.size → b ≠ mb → b ≠ tb → w'.heap[b]? = W.heap[b]? := by
  refine (hC n k r nt hv hk W hW).mono ?_
  rintro e w' ⟨h1, h2, h3⟩
  exact ⟨h1, h2, hK.trans (h3.mono hB), h3.size, fun b hb h4 h5 => h3.block b hb (by simp [h4, h5])⟩
theorem cell2 {w1 : World} {b : Nat} (h : w1.heap[b]? = some outC) (v1 v2 : Value) : ((w1.setCell ⟨b, 0, none⟩ v1).setCell ⟨b, 1, none⟩ v2).heap[b]? = some (.cells #[v1, v2] 229 (0, 0)) := by
  rw [heap_setCell_at (heap_setCell_at h _) _]; rfl
theorem cell2a {w1 : World} {b : Nat} (h : w1.heap[b]? = some outC) (v1 v2 : Value) (o : Obj) : (((w1.setCell ⟨b, 0, none⟩ v1).setCell ⟨b, 1, none⟩ v2).alloc o).heap[b]? = some (.cells #[v1, v2] 229 (0, 0)) := by
  have := heap_lt h
  rw [heap_alloc_old _ _ (by simp [World.setCell]; omega)]; exact cell2 h _ _
theorem below2 (w1 : World) (b : Nat) (v1 v2 : Value) : Below b w1 ((w1.setCell ⟨b, 0, none⟩ v1).setCell ⟨b, 1, none⟩ v2) := ((Below.refl _ _).setCell (p := ⟨b, 0, none⟩) (Nat.le_refl _) _).setCell (p := ⟨b, 1, none⟩) (Nat.le_refl _) _
theorem below2a {w1 : World} {b : Nat} (h : b ≤ w1.heap.size) (v1 v2 : Value) (o : Obj) : Below b w1 (((w1.setCell ⟨b, 0, none⟩ v1).setCell ⟨b, 1, none⟩ v2).alloc o) := (below2 w1 b v1 v2).alloc (by simpa [World.setCell] using h) o
set_option maxHeartbeats 4000000 in
set_option maxRecDepth 100000 in
theorem in_maybe {wM : World} {mb tb : Nat} {N : List Nd} {bx : List (Nat × Nat × Nat)} {rules : List Nat} {vr : Value} {s : ByteArray} (M : Mde wM mb N bx rules vr) {f : Nat} (hC : CloC wM mb tb N bx rules vr s f) (j be : Nat) (hb : wM.heap[be]? = some (boxO (clV bx j) 226)) (k : Nat) (o : Out) (hv : evN N rules s.data.toList f j k = some o) (hk : k ≤ s.size) (w : World) (h : MS wM mb tb N rules vr s .nil w) :
    Calls Tryz.prog 212 #[.int .i64 k, ptrV be] w (PostM wM mb tb N rules vr s .nil (maybeOut k o) w) := by
  have p1 := h.box M hb
  have q1 := cell_of_block p1
  have l1 := heap_lt' p1
  simp only [clV, cloV] at q1
  have HC := hideP (hC.at (nt := .nil) hv hk (h.below (below_alloc w outC)) (KpM.of_below (below_alloc w outC)) (by simp))
  have HH := hideP (And.intro h.size (And.intro h.tlt h.mlt))
  clear h hC hv hb M p1
  generalize (bx.getD j (0, 0, 0)).1 = x1 at *
  generalize (bx.getD j (0, 0, 0)).2.1 = x2 at *
  generalize (bx.getD j (0, 0, 0)).2.2 = x3 at *
  go_enter Tryz.func212, Tryz.ntmps212
  go_wp2_with fail
  refine HC.out.mono ?_
  rintro _ w1 ⟨rfl, hs1, hk1, hz1, hb1⟩
  have hb0 : w1.heap[w.heap.size]? = some outC := by
    rw [hb1 _ (by simp) (by have := HH.out; omega) (by have := HH.out; omega)]
    exact heap_alloc_same _ _
  have z0 := cell_of_block hb0
  have f0 := frozen_of_block hb0
  have l0 := heap_lt' hb0
  have HS1 := hideP hs1
  have HK1 := hideP hk1
  have HB0 := hideP hb0
  clear hs1 hk1 hb0 hb1 hz1
  cases o with
  | none =>
    have ho : outV none = .agg #[.int .i64 0, .bool false] := rfl
    rw [ho]
    go_wp2_with fail
    refine bodyPost_ret (results_cell_row rfl _ _ w.heap.size _ _ _ _ rfl (cell2a HB0.out _ _ _) Tryz.underlying229 rfl (by kernel_rfl)) rfl ?_
    have hbf := below2a (Nat.le_of_lt (heap_lt HB0.out))
    exact ⟨rfl, HS1.out.low HH.out.1 HH.out.2.1 (hbf _ _ _), HK1.out.low (hbf _ _ _)⟩
  | some x =>
    have ho : outV (some x) = .agg #[.int .i64 x.1, .bool true] := rfl
    rw [ho]
    go_wp2_with fail
    refine bodyPost_ret (results_cell_row rfl _ _ w.heap.size _ _ _ _ rfl (cell2a HB0.out _ _ _) Tryz.underlying229 rfl (by kernel_rfl)) rfl ?_
    have hbf := below2a (Nat.le_of_lt (heap_lt HB0.out))
    exact ⟨rfl, HS1.out.low HH.out.1 HH.out.2.1 (hbf _ _ _), HK1.out.low (hbf _ _ _)⟩
end Go.Proofs.YtiganlkabilblaaGreatDoor
namespace Go.Proofs.YtiganlkabilblaaGreatDoor
open Go.RowKit Thk
attribute [local go_sem ↓] Go.wp_at_zero Go.wp_at_succ
set_option maxHeartbeats 8000000 in
set_option maxRecDepth 100000 in
theorem in_plus {wM : World} {mb tb : Nat} {N : List Nd} {bx : List (Nat × Nat × Nat)} {rules : List Nat} {vr : Value} {s : ByteArray} (M : Mde wM mb N bx rules vr) {f : Nat} (hC : CloC wM mb tb N bx rules vr s f) (n j be bp : Nat) (hb : wM.heap[be]? = some (boxO (clV bx j) 226)) (hp : wM.heap[bp]? = some (boxO (clV bx n) 226)) (k : Nat) (r : Out) (hv : plN (evN N rules s.data.toList f) n j k = some r) (hk : k ≤ s.size) (w : World) (h : MS wM mb tb N rules vr s .nil w) :
    Calls Tryz.prog 213 #[.int .i64 k, ptrV be, ptrV bp] w (PostM wM mb tb N rules vr s .nil r w) := by
  unfold plN at hv
  cases ho1 : evN N rules s.data.toList f j k with
  | none => rw [ho1] at hv; cases hv
  | some o =>
  rw [ho1] at hv
  have p1 := h.box M hb
  have p2 := h.box M hp
  have q1 := cell_of_block p1
  have q2 := cell_of_block p2
  have l1 := heap_lt' p1
  have l2 := heap_lt' p2
  have l1' := heap_lt p1
  have l2' := heap_lt p2
  have n1 := M.ne hb
  have n2 := M.ne hp
  have n1t : be ≠ tb := fun e => by have := heap_lt hb; have := h.tge; omega
  have n2t : bp ≠ tb := fun e => by have := heap_lt hp; have := h.tge; omega
  simp only [clV, cloV] at q1 q2
  have HP2 := hideP p2
  have HC := hideP (hC.at (nt := .nil) ho1 hk (h.below (below_alloc w outC)) (KpM.of_below (below_alloc w outC)) (by simp))
  have HCC := hideP hC
  have HH := hideP (And.intro h.size (And.intro h.tlt h.mlt))
  clear h hC hb hp M p1 p2
  generalize hy1 : (bx.getD j (0, 0, 0)).1 = x1 at *
  generalize hy2 : (bx.getD j (0, 0, 0)).2.1 = x2 at *
  generalize hy3 : (bx.getD j (0, 0, 0)).2.2 = x3 at *
  have HV := hideP hv
  have HO1 := hideP ho1
  clear hy1 hy2 hy3 hv ho1
  go_enter Tryz.func213, Tryz.ntmps213
  go_wp2_with fail
  refine HC.out.mono ?_
  rintro _ w1 ⟨rfl, hs1, hk1, hz1, hb1⟩
  have hb0 : w1.heap[w.heap.size]? = some outC := by
    rw [hb1 _ (by simp) (by have := HH.out; omega) (by have := HH.out; omega)]
    exact heap_alloc_same _ _
  have hq2 : w1.heap[bp]? = some (boxO (clV bx n) 226) := by
    rw [hb1 _ (by simp; omega) n2 n2t, heap_alloc_old _ _ l2']; exact HP2.out
  have z0 := cell_of_block hb0
  have f0 := frozen_of_block hb0
  have l0 := heap_lt' hb0
  have HS1 := hideP hs1
  have HK1 := hideP hk1
  have HB0 := hideP hb0
  have HZ1 := hideP hz1
  have z2 := cell_of_block hq2
  have lz2 := heap_lt' hq2
  have HQ2 := hideP hq2
  simp only [clV, cloV] at z2
  clear hs1 hk1 hb0 hb1 hz1 q1 q2 hq2
  cases o with
  | none =>
    have ho : outV none = .agg #[.int .i64 0, .bool false] := rfl
    rw [ho]
    have hr := HV.out
    simp only [Option.some.injEq] at hr
    subst hr
    go_wp2_with fail
    refine bodyPost_ret (results_cell_row rfl _ _ w.heap.size _ _ _ _ rfl (cell2a HB0.out _ _ _) Tryz.underlying229 rfl (by kernel_rfl)) rfl ?_
    have hbf := below2a (Nat.le_of_lt (heap_lt HB0.out))
    exact ⟨rfl, HS1.out.low HH.out.1 HH.out.2.1 (hbf _ _ _), HK1.out.low (hbf _ _ _)⟩
  | some x =>
    have hin := evN_in N rules s.data.toList f _ _ _ _ (by simpa using hk) HO1.out
    have ho : outV (some x) = .agg #[.int .i64 x.1, .bool true] := rfl
    rw [ho]
    have hv2 := HV.out
    simp only [] at hv2
    clear HV
    cases hw2 : evN N rules s.data.toList f n x.1 with
    | none => rw [hw2] at hv2; cases hv2
    | some o2 =>
      rw [hw2] at hv2
      have hB2 : Below w.heap.size w1 (w1.alloc (.cells #[.int .i64 x.1, .bool true] 229)) := (Below.refl _ _).alloc (Nat.le_of_lt (heap_lt HB0.out)) _
      have HC2 := hideP (HCC.out.at (nt := jn .nil (noteO (some x))) hw2 (by simpa using hin.2) (HS1.out.low HH.out.1 HH.out.2.1 hB2) (HK1.out.low hB2) (by have := heap_lt HB0.out; simp; omega))
      have HHI := hideP hin
      have HV2 := hideP hv2
      generalize hy1 : (bx.getD n (0, 0, 0)).1 = x1 at *
      generalize hy2 : (bx.getD n (0, 0, 0)).2.1 = x2 at *
      generalize hy3 : (bx.getD n (0, 0, 0)).2.2 = x3 at *
      clear hin hv2 hw2 hB2 hy1 hy2 hy3
      go_wp2_with fail
      refine HC2.out.mono ?_
      rintro _ w2 ⟨rfl, hs2, hk2, hz2, hb2⟩
      have hc0 : w2.heap[w.heap.size]? = some outC := by
        have := heap_lt HB0.out
        rw [hb2 _ (by simp; omega) (by have := HH.out; omega) (by have := HH.out; omega), heap_alloc_old _ _ this]
        exact HB0.out
      have hc1 : w2.heap[w1.heap.size]? = some (.cells #[.int .i64 x.1, .bool true] 229 (0, 0)) := by
        have := heap_lt HB0.out
        rw [hb2 _ (by simp) (by have := HH.out; omega) (by have := HH.out; omega)]
        exact heap_alloc_same _ _
      have y0 := cell_of_block hc0
      have g0 := frozen_of_block hc0
      have m0 := heap_lt' hc0
      have y1 := cell_of_block hc1
      have m1 := heap_lt' hc1
      have HS2 := hideP hs2
      have HK2 := hideP hk2
      have HC0 := hideP hc0
      clear hs2 hk2 hc0 hc1 hz2 hb2 z2 z0 f0 lz2 l0
      cases o2 with
      | none =>
        have ho : outV none = .agg #[.int .i64 0, .bool false] := rfl
        rw [ho]
        have hr := HV2.out
        simp only [Option.some.injEq] at hr
        subst hr
        go_wp2_with fail
        refine bodyPost_ret (results_cell_row rfl _ _ w.heap.size _ _ _ _ rfl (cell2a HC0.out _ _ _) Tryz.underlying229 rfl (by kernel_rfl)) rfl ?_
        have hbf := below2a (Nat.le_of_lt (heap_lt HC0.out))
        refine ⟨rfl, ?_, HK2.out.low (hbf _ _ _)⟩
        have := HS2.out.low HH.out.1 HH.out.2.1 (hbf (.int .i64 x.1) (.bool true) (.cells #[.int .i64 0, .bool false] 229 (0, 0)))
        simp only [noteO, jn_nil] at this
        exact this
      | some y =>
        have ho : outV (some y) = .agg #[.int .i64 y.1, .bool true] := rfl
        rw [ho]
        have hr := HV2.out
        simp only [Option.some.injEq] at hr
        subst hr
        go_wp2_with fail
        refine bodyPost_ret (results_cell_row rfl _ _ w.heap.size _ _ _ _ rfl (cell2a HC0.out _ _ _) Tryz.underlying229 rfl (by kernel_rfl)) rfl ?_
        have hbf := below2a (Nat.le_of_lt (heap_lt HC0.out))
        refine ⟨rfl, ?_, HK2.out.low (hbf _ _ _)⟩
        have := HS2.out.low HH.out.1 HH.out.2.1 (hbf (.int .i64 y.1) (.bool true) (.cells #[.int .i64 y.1, .bool true] 229 (0, 0)))
        simp only [noteO, nil_jn] at this ⊢
        exact this
end Go.Proofs.YtiganlkabilblaaGreatDoor
namespace Go.Proofs.YtiganlkabilblaaGreatDoor
open Go.RowKit Thk
attribute [local go_sem ↓] Go.wp_at_zero Go.wp_at_succ
def useV (i k : Nat) : Out → Value
  | none => .agg #[.int .i64 0, .int .i64 0, .int .i64 0, .nilIface]
  | some x => .agg #[.int .i64 i, .int .i64 k, .int .i64 x.1, ntV x.2]
theorem results_row_tmp {P : Program} {fn : Func} {p u : Tmp} {ty : TypeId} (h : fn.results = #[.cell p ty, .tmp u]) (tmps : Array Value) (w : World) (g : Nat) (t : TypeId) (cs : Array Value) (fr : Nat × Nat) (d : TypeDesc)
    (hp : tmps.getD p undef = .pointer (some ⟨g, 0, none⟩)) (hg : w.heap[g]? = some (.cells cs t fr))
    (hu : P.underlying ty = some d) (hd : (match d with | .struct _ | .array _ _ => true | _ => false) = true) (hi : (P.info? ty).map (·.size) = some cs.size) :
    (results fn tmps).run P w = .ok (.tuple #[.agg cs, tmps.getD u undef]) w := by
  rw [results_cell_tmp h, hp]
  simp [asAddr, run_loadVar_row w g t ty cs fr d hg hu hd hi, Result.andThen]
abbrev useC : Obj := .cells #[.int .i64 0, .int .i64 0, .int .i64 0, .nilIface] 108 (0, 0)
set_option maxHeartbeats 8000000 in
set_option maxRecDepth 100000 in
theorem use_any {wM : World} {mb tb : Nat} {N : List Nd} {bx : List (Nat × Nat × Nat)} {rules : List Nat} {vr : Value} {s : ByteArray} (M : Mde wM mb N bx rules vr) {f : Nat} (hC : CloC wM mb tb N bx rules vr s f) (i j k : Nat) (o : Out) (hi : rules[i]? = some j) (hrl : rules.length ≤ 100000) (hv : evN N rules s.data.toList f j k = some o) (hk : k ≤ s.size) (w : World) (nt : Nt) (h : MS wM mb tb N rules vr s nt w) :
    Calls Tryz.prog 84 #[ptrV mb, .int .i64 i, .int .i64 k] w fun e w' => e = .returned (.tuple #[useV i k o, .bool o.isSome]) ∧ MS wM mb tb N rules vr s nt w' ∧ KpM [mb, tb] w.heap.size w w' := by
  obtain ⟨rb, rc, hvr, hrb, hrn, hcs⟩ := M.rul
  obtain ⟨hil, hij⟩ := List.getElem?_eq_some_iff.mp hi
  have hc0 := hcs i hil
  rw [hij] at hc0
  have q0 : w.cell? ⟨mb, 0, none⟩ = some (.slice (some ⟨rb, 0, none⟩) rules.length rc) := by rw [← hvr]; exact cell_of_block h.blk 0
  have qi : w.cell? ⟨rb, i, none⟩ = some (clV bx j) := by
    rw [← hc0]
    simp only [World.cell?, h.old rb hrb hrn]
  have hl := heap_lt h.blk
  have hlr : rb < w.heap.size := Nat.lt_of_lt_of_le hrb h.size
  simp only [clV, cloV] at qi
  have hap := fun (W : World) (hW : MS wM mb tb N rules vr s nt W) => apart_any W 177 #[ptrV (bx.getD j (0, 0, 0)).1, ptrV (bx.getD j (0, 0, 0)).2.1, ptrV (bx.getD j (0, 0, 0)).2.2] k o nt hW (fun args w => by simp [go_sem]) (fun W1 hW1 => (hC j k o .nil hv hk W1 hW1).mono (fun e w' hh => ⟨hh.1, by have := hh.2.1; rwa [nil_jn] at this, hh.2.2⟩))
  have HAP := hideP hap
  have HM := hideP h
  have HH := hideP (And.intro h.size (And.intro h.tlt h.mlt))
  have hiz : (i : Int) < (rules.length : Int) := by omega
  clear hap hC hv hcs hc0 hvr M h hij
  generalize (bx.getD j (0, 0, 0)).1 = x1 at *
  generalize (bx.getD j (0, 0, 0)).2.1 = x2 at *
  generalize (bx.getD j (0, 0, 0)).2.2 = x3 at *
  go_enter Tryz.func84, Tryz.ntmps84
  go_wp2_with fail
  refine (HAP.out _ (HM.out.below (below_alloc w _))).mono ?_
  rintro _ w1 ⟨rfl, hs1, hk1⟩
  have hb0 : w1.heap[w.heap.size]? = some useC := by
    rw [hk1.block _ (by simp) (by simp; have := HH.out; omega)]
    exact heap_alloc_same _ _
  have z0 := cell_of_block hb0
  have f0 := frozen_of_block hb0
  have l0 := heap_lt' hb0
  have HS1 := hideP hs1
  have HK1 : Hid (KpM [mb, tb] w.heap.size w w1) := hideP ((KpM.of_below (below_alloc w _)).trans (hk1.mono (by simp)))
  have HB0 := hideP hb0
  clear hs1 hk1 hb0 q0 qi HAP
  cases o with
  | none =>
    have ho : triV none = .agg #[.int .i64 0, .bool false, .nilIface] := rfl
    rw [ho]
    go_wp2_with fail
    have hbf : Below w.heap.size w1 (((((w1.setCell ⟨w.heap.size, 0, none⟩ (.int .i64 0)).setCell ⟨w.heap.size, 1, none⟩ (.int .i64 0)).setCell ⟨w.heap.size, 2, none⟩ (.int .i64 0)).setCell ⟨w.heap.size, 3, none⟩ .nilIface).alloc (.cells #[.int .i64 0, .bool false, .nilIface] 231 (0, 0))) :=
      Below.alloc (((((Below.refl _ _).setCell (p := ⟨w.heap.size, 0, none⟩) (Nat.le_refl _) _).setCell (p := ⟨w.heap.size, 1, none⟩) (Nat.le_refl _) _).setCell (p := ⟨w.heap.size, 2, none⟩) (Nat.le_refl _) _).setCell (p := ⟨w.heap.size, 3, none⟩) (Nat.le_refl _) _) (by have := heap_lt HB0.out; simp [World.setCell]; omega) _
    refine bodyPost_ret (results_row_tmp rfl _ _ w.heap.size _ _ _ _ rfl (by rw [heap_alloc_old _ _ (by have := heap_lt HB0.out; simp [World.setCell]; omega)]; exact heap_setCell_at (heap_setCell_at (heap_setCell_at (heap_setCell_at HB0.out _) _) _) _) Tryz.underlying108 rfl (by kernel_rfl)) rfl ?_
    exact ⟨rfl, HS1.out.low HH.out.1 HH.out.2.1 hbf, HK1.out.low hbf⟩
  | some x =>
    have hf := nt_form x.2
    obtain ⟨nv, hnv⟩ : ∃ nv, nv = ntV x.2 := ⟨_, rfl⟩
    have ho : triV (some x) = .agg #[.int .i64 x.1, .bool true, nv] := by rw [hnv]; rfl
    have hu : useV i k (some x) = .agg #[.int .i64 i, .int .i64 k, .int .i64 x.1, nv] := by rw [hnv]; rfl
    rw [ho]
    rw [← hnv] at hf
    have HU := hideP hu
    clear ho hu hnv
    rcases hf with rfl | ⟨t, y, rfl⟩
    · go_wp2_with fail
      have hbf : Below w.heap.size w1 (((((w1.setCell ⟨w.heap.size, 0, none⟩ (.int .i64 i)).setCell ⟨w.heap.size, 1, none⟩ (.int .i64 k)).setCell ⟨w.heap.size, 2, none⟩ (.int .i64 x.1)).setCell ⟨w.heap.size, 3, none⟩ .nilIface).alloc (.cells #[.int .i64 x.1, .bool true, .nilIface] 231 (0, 0))) :=
        Below.alloc (((((Below.refl _ _).setCell (p := ⟨w.heap.size, 0, none⟩) (Nat.le_refl _) _).setCell (p := ⟨w.heap.size, 1, none⟩) (Nat.le_refl _) _).setCell (p := ⟨w.heap.size, 2, none⟩) (Nat.le_refl _) _).setCell (p := ⟨w.heap.size, 3, none⟩) (Nat.le_refl _) _) (by have := heap_lt HB0.out; simp [World.setCell]; omega) _
      refine bodyPost_ret (results_row_tmp rfl _ _ w.heap.size _ _ _ _ rfl (by rw [heap_alloc_old _ _ (by have := heap_lt HB0.out; simp [World.setCell]; omega)]; exact heap_setCell_at (heap_setCell_at (heap_setCell_at (heap_setCell_at HB0.out _) _) _) _) Tryz.underlying108 rfl (by kernel_rfl)) rfl ?_
      exact ⟨by rw [HU.out]; rfl, HS1.out.low HH.out.1 HH.out.2.1 hbf, HK1.out.low hbf⟩
    · go_wp2_with fail
      have hbf : Below w.heap.size w1 (((((w1.setCell ⟨w.heap.size, 0, none⟩ (.int .i64 i)).setCell ⟨w.heap.size, 1, none⟩ (.int .i64 k)).setCell ⟨w.heap.size, 2, none⟩ (.int .i64 x.1)).setCell ⟨w.heap.size, 3, none⟩ (.iface t y)).alloc (.cells #[.int .i64 x.1, .bool true, .iface t y] 231 (0, 0))) :=
        Below.alloc (((((Below.refl _ _).setCell (p := ⟨w.heap.size, 0, none⟩) (Nat.le_refl _) _).setCell (p := ⟨w.heap.size, 1, none⟩) (Nat.le_refl _) _).setCell (p := ⟨w.heap.size, 2, none⟩) (Nat.le_refl _) _).setCell (p := ⟨w.heap.size, 3, none⟩) (Nat.le_refl _) _) (by have := heap_lt HB0.out; simp [World.setCell]; omega) _
      refine bodyPost_ret (results_row_tmp rfl _ _ w.heap.size _ _ _ _ rfl (by rw [heap_alloc_old _ _ (by have := heap_lt HB0.out; simp [World.setCell]; omega)]; exact heap_setCell_at (heap_setCell_at (heap_setCell_at (heap_setCell_at HB0.out _) _) _) _) Tryz.underlying108 rfl (by kernel_rfl)) rfl ?_
      exact ⟨by rw [HU.out]; rfl, HS1.out.low HH.out.1 HH.out.2.1 hbf, HK1.out.low hbf⟩
theorem taken_any (w : World) (a x y : Int) (v : Value) (hd : (y - x) = a) (h0 : 0 ≤ x) (h1 : x ≤ 1000000) (h2 : 0 ≤ y) (h3 : y ≤ 1000000) (r : Value) :
    Calls Tryz.prog 56 #[.agg #[r, .int .i64 x, .int .i64 y, v]] w fun e w' => e = .returned (.int .i64 a) ∧ Below w.heap.size w w' := by
  subst hd
  go_enter Tryz.func56, Tryz.ntmps56
  go_wp2_with fail
  go_ret
  exact ⟨rfl, below_alloc _ _⟩
end Go.Proofs.YtiganlkabilblaaGreatDoor
namespace Go.Proofs.YtiganlkabilblaaGreatDoor
open Go.RowKit Thk
attribute [local go_sem ↓] Go.wp_at_zero Go.wp_at_succ
set_option maxHeartbeats 8000000 in
set_option maxRecDepth 100000 in
theorem in_name {wM : World} {mb tb : Nat} {N : List Nd} {bx : List (Nat × Nat × Nat)} {rules : List Nat} {vr : Value} {s : ByteArray} (M : Mde wM mb N bx rules vr) {f : Nat} (hC : CloC wM mb tb N bx rules vr s f) (i bm bi : Nat) (hbm : wM.heap[bm]? = some (boxO (ptrV mb) 113)) (hbi : wM.heap[bi]? = some (boxO (.int .i64 i) 3)) (hrl : rules.length ≤ 100000) (hsz : s.size ≤ 1000000) (k j : Nat) (o : Out) (hi : rules[i]? = some j) (hv : evN N rules s.data.toList f j k = some o) (hk : k ≤ s.size) (w : World) (h : MS wM mb tb N rules vr s .nil w) :
    Calls Tryz.prog 215 #[.int .i64 k, ptrV bm, ptrV bi] w (PostM wM mb tb N rules vr s .nil (nameOut i k o) w) := by
  have p1 := h.box M hbm
  have p2 := h.box M hbi
  have q1 := cell_of_block p1
  have q2 := cell_of_block p2
  have l1 := heap_lt' p1
  have l2 := heap_lt' p2
  have l1' := heap_lt p1
  have n1 := M.ne hbm
  have n1t : bm ≠ tb := fun e => by have := heap_lt hbm; have := h.tge; omega
  have hin : ∀ x, o = some x → k ≤ x.1 ∧ x.1 ≤ s.size := fun x hx => by
    have := evN_in N rules s.data.toList f j k x.1 x.2 (by simpa using hk) (by rw [hv, hx])
    simpa using this
  have HIN := hideP hin
  have HP1 := hideP p1
  have HU := hideP (fun (W : World) (hW : MS wM mb tb N rules vr s .nil W) => use_any M hC i j k o hi hrl hv hk W .nil hW)
  have HM := hideP h
  have HH := hideP (And.intro h.size (And.intro h.tlt h.mlt))
  clear h hC hbm hbi M p1 p2 hi hv hin
  go_enter Tryz.func215, Tryz.ntmps215
  go_wp2_with fail
  refine (HU.out _ (HM.out.below (below_alloc w _))).mono ?_
  rintro _ w1 ⟨rfl, hs1, hk1⟩
  have hb0 : w1.heap[w.heap.size]? = some outC := by
    rw [hk1.block _ (by simp) (by simp; have := HH.out; omega)]
    exact heap_alloc_same _ _
  have hq1 : w1.heap[bm]? = some (boxO (ptrV mb) 113) := by
    rw [hk1.block _ (by simp; omega) (by simp [n1, n1t]), heap_alloc_old _ _ l1']; exact HP1.out
  have z0 := cell_of_block hb0
  have f0 := frozen_of_block hb0
  have l0 := heap_lt' hb0
  have z1 := cell_of_block hq1
  have lz1 := heap_lt' hq1
  have HS1 := hideP hs1
  have HK1 : Hid (KpM [mb, tb] w.heap.size w w1) := hideP ((KpM.of_below (below_alloc w _)).trans (hk1.mono (by simp)))
  have HB0 := hideP hb0
  have HQ1 := hideP hq1
  clear hs1 hk1 hb0 q1 q2 HU hq1
  cases o with
  | none =>
    have ho : useV i k none = .agg #[.int .i64 0, .int .i64 0, .int .i64 0, .nilIface] := rfl
    have ho2 : Option.isSome (none : Out) = false := rfl
    rw [ho, ho2]
    go_wp2_with fail
    refine (taken_any _ 0 _ _ _ (by omega) (by omega) (by omega) (by omega) (by omega) _).mono ?_
    rintro _ w2 ⟨rfl, hb2⟩
    have hlt0 := heap_lt HB0.out
    have hc0 : w2.heap[w.heap.size]? = some outC := by rw [hb2.block _ (by simp; omega), heap_alloc_old _ _ hlt0]; exact HB0.out
    have hc1 : w2.heap[w1.heap.size]? = some (.cells #[.int .i64 0, .int .i64 0, .int .i64 0, .nilIface] 108 (0, 0)) := by rw [hb2.block _ (by simp)]; exact heap_alloc_same _ _
    have hc2 : w2.heap[bm]? = some (boxO (ptrV mb) 113) := by rw [hb2.block _ (by have := heap_lt HQ1.out; simp; omega), heap_alloc_old _ _ (heap_lt HQ1.out)]; exact HQ1.out
    have hBB : Below w.heap.size w1 w2 := ((Below.refl _ w1).alloc (Nat.le_of_lt hlt0) (.cells #[.int .i64 0, .int .i64 0, .int .i64 0, .nilIface] 108 (0, 0))).trans (hb2.mono (by simp; omega))
    have HS2 := hideP (HS1.out.low HH.out.1 HH.out.2.1 hBB)
    have HK2 := hideP (HK1.out.low hBB)
    have y0 := cell_of_block hc0
    have g0 := frozen_of_block hc0
    have m0 := heap_lt' hc0
    have y1 := cell_of_block hc1
    have m1 := heap_lt' hc1
    have y2 := cell_of_block hc2
    have m2 := heap_lt' hc2
    have HC0 := hideP hc0
    have HC1 := hideP hc1
    clear hb2 hc0 hc1 hc2 hBB z0 f0 l0 z1 lz1 hlt0
    go_wp2_with fail
    refine bodyPost_ret (results_cell_row rfl _ _ w.heap.size _ _ _ _ rfl (cell2 HC0.out _ _) Tryz.underlying229 rfl (by kernel_rfl)) rfl ?_
    have hbf := below2 w2 w.heap.size
    exact ⟨rfl, HS2.out.low HH.out.1 HH.out.2.1 (hbf _ _), HK2.out.low (hbf _ _)⟩
  | some x =>
    have hf := nt_form x.2
    have hle := HIN.out x rfl
    obtain ⟨nv, hnv⟩ : ∃ nv, nv = ntV x.2 := ⟨_, rfl⟩
    have hu : useV i k (some x) = .agg #[.int .i64 i, .int .i64 k, .int .i64 x.1, nv] := by rw [hnv]; rfl
    have ho2 : Option.isSome (some x : Out) = true := rfl
    have HUV : Hid (ntV (.use i k x.1 x.2) = .iface 108 (.agg #[.int .i64 i, .int .i64 k, .int .i64 x.1, nv])) := hideP (by rw [hnv]; rfl)
    rw [hu, ho2]
    rw [← hnv] at hf
    clear hu ho2 hnv
    by_cases hlt : k < x.1
    · have hno : nameOut i k (some x) = some (x.1, .use i k x.1 x.2) := by simp only [nameOut, if_pos hlt]
      have HNO := hideP hno
      clear hno
      have hgt : decide ((0 : Int) < (x.1 : Int) - (k : Int)) = true := decide_eq_true (by omega)
      rcases hf with rfl | ⟨t, v, rfl⟩
      · go_wp2_with fail
        refine (taken_any _ ((x.1 : Int) - k) _ _ _ (by omega) (by omega) (by omega) (by omega) (by omega) _).mono ?_
        rintro _ w2 ⟨rfl, hb2⟩
        have hlt0 := heap_lt HB0.out
        have hc0 : w2.heap[w.heap.size]? = some outC := by rw [hb2.block _ (by simp; omega), heap_alloc_old _ _ hlt0]; exact HB0.out
        have hc1 : w2.heap[w1.heap.size]? = some (.cells #[.int .i64 i, .int .i64 k, .int .i64 x.1, .nilIface] 108 (0, 0)) := by rw [hb2.block _ (by simp)]; exact heap_alloc_same _ _
        have hc2 : w2.heap[bm]? = some (boxO (ptrV mb) 113) := by rw [hb2.block _ (by have := heap_lt HQ1.out; simp; omega), heap_alloc_old _ _ (heap_lt HQ1.out)]; exact HQ1.out
        have hBB : Below w.heap.size w1 w2 := ((Below.refl _ w1).alloc (Nat.le_of_lt hlt0) (.cells #[.int .i64 i, .int .i64 k, .int .i64 x.1, .nilIface] 108 (0, 0))).trans (hb2.mono (by simp; omega))
        have HS2 := hideP (HS1.out.low HH.out.1 HH.out.2.1 hBB)
        have HK2 := hideP (HK1.out.low hBB)
        have y0 := cell_of_block hc0
        have g0 := frozen_of_block hc0
        have m0 := heap_lt' hc0
        have y1 := cell_of_block hc1
        have m1 := heap_lt' hc1
        have y2 := cell_of_block hc2
        have m2 := heap_lt' hc2
        have HC0 := hideP hc0
        have HC1 := hideP hc1
        clear hb2 hc0 hc1 hc2 hBB z0 f0 l0 z1 lz1 hlt0
        have HN := hideP (note_any w2 mb vr s (.map (some tb)) .nil (.use i k x.1 x.2) HS2.out.blk)
        rw [HUV.out] at HN
        go_wp2_with fail
        refine HN.out.mono ?_
        rintro _ w3 ⟨rfl, hw3⟩
        have hne0 : w.heap.size ≠ mb := by have := HH.out; omega
        have hne1 : w1.heap.size ≠ mb := by have := heap_lt HB0.out; have := HH.out; omega
        have hd0 : w3.heap[w.heap.size]? = some outC := by rw [hw3, Below.heap_setCell _ _ _ _ hne0]; exact HC0.out
        have hd1 : w3.heap[w1.heap.size]? = some (.cells #[.int .i64 i, .int .i64 k, .int .i64 x.1, .nilIface] 108 (0, 0)) := by rw [hw3, Below.heap_setCell _ _ _ _ hne1]; exact HC1.out
        have HS3 : Hid (MS wM mb tb N rules vr s (.use i k x.1 x.2) w3) := by rw [hw3]; exact hideP (HS2.out.noted _)
        have HK3 : Hid (KpM [mb, tb] w.heap.size w w3) := by rw [hw3]; exact hideP (HK2.out.noted _)
        have u0 := cell_of_block hd0
        have i0 := frozen_of_block hd0
        have r0 := heap_lt' hd0
        have u1 := cell_of_block hd1
        have r1 := heap_lt' hd1
        have HD0 := hideP hd0
        clear hw3 hd0 hd1 y0 g0 m0 y1 m1 y2 m2
        go_wp2_with fail
        refine bodyPost_ret (results_cell_row rfl _ _ w.heap.size _ _ _ _ rfl (cell2 HD0.out _ _) Tryz.underlying229 rfl (by kernel_rfl)) rfl ?_
        have hbf := below2 w3 w.heap.size
        rw [HNO.out]
        exact ⟨rfl, HS3.out.low HH.out.1 HH.out.2.1 (hbf _ _), HK3.out.low (hbf _ _)⟩
      · go_wp2_with fail
        refine (taken_any _ ((x.1 : Int) - k) _ _ _ (by omega) (by omega) (by omega) (by omega) (by omega) _).mono ?_
        rintro _ w2 ⟨rfl, hb2⟩
        have hlt0 := heap_lt HB0.out
        have hc0 : w2.heap[w.heap.size]? = some outC := by rw [hb2.block _ (by simp; omega), heap_alloc_old _ _ hlt0]; exact HB0.out
        have hc1 : w2.heap[w1.heap.size]? = some (.cells #[.int .i64 i, .int .i64 k, .int .i64 x.1, .iface t v] 108 (0, 0)) := by rw [hb2.block _ (by simp)]; exact heap_alloc_same _ _
        have hc2 : w2.heap[bm]? = some (boxO (ptrV mb) 113) := by rw [hb2.block _ (by have := heap_lt HQ1.out; simp; omega), heap_alloc_old _ _ (heap_lt HQ1.out)]; exact HQ1.out
        have hBB : Below w.heap.size w1 w2 := ((Below.refl _ w1).alloc (Nat.le_of_lt hlt0) (.cells #[.int .i64 i, .int .i64 k, .int .i64 x.1, .iface t v] 108 (0, 0))).trans (hb2.mono (by simp; omega))
        have HS2 := hideP (HS1.out.low HH.out.1 HH.out.2.1 hBB)
        have HK2 := hideP (HK1.out.low hBB)
        have y0 := cell_of_block hc0
        have g0 := frozen_of_block hc0
        have m0 := heap_lt' hc0
        have y1 := cell_of_block hc1
        have m1 := heap_lt' hc1
        have y2 := cell_of_block hc2
        have m2 := heap_lt' hc2
        have HC0 := hideP hc0
        have HC1 := hideP hc1
        clear hb2 hc0 hc1 hc2 hBB z0 f0 l0 z1 lz1 hlt0
        have HN := hideP (note_any w2 mb vr s (.map (some tb)) .nil (.use i k x.1 x.2) HS2.out.blk)
        rw [HUV.out] at HN
        go_wp2_with fail
        refine HN.out.mono ?_
        rintro _ w3 ⟨rfl, hw3⟩
        have hne0 : w.heap.size ≠ mb := by have := HH.out; omega
        have hne1 : w1.heap.size ≠ mb := by have := heap_lt HB0.out; have := HH.out; omega
        have hd0 : w3.heap[w.heap.size]? = some outC := by rw [hw3, Below.heap_setCell _ _ _ _ hne0]; exact HC0.out
        have hd1 : w3.heap[w1.heap.size]? = some (.cells #[.int .i64 i, .int .i64 k, .int .i64 x.1, .iface t v] 108 (0, 0)) := by rw [hw3, Below.heap_setCell _ _ _ _ hne1]; exact HC1.out
        have HS3 : Hid (MS wM mb tb N rules vr s (.use i k x.1 x.2) w3) := by rw [hw3]; exact hideP (HS2.out.noted _)
        have HK3 : Hid (KpM [mb, tb] w.heap.size w w3) := by rw [hw3]; exact hideP (HK2.out.noted _)
        have u0 := cell_of_block hd0
        have i0 := frozen_of_block hd0
        have r0 := heap_lt' hd0
        have u1 := cell_of_block hd1
        have r1 := heap_lt' hd1
        have HD0 := hideP hd0
        clear hw3 hd0 hd1 y0 g0 m0 y1 m1 y2 m2
        go_wp2_with fail
        refine bodyPost_ret (results_cell_row rfl _ _ w.heap.size _ _ _ _ rfl (cell2 HD0.out _ _) Tryz.underlying229 rfl (by kernel_rfl)) rfl ?_
        have hbf := below2 w3 w.heap.size
        rw [HNO.out]
        exact ⟨rfl, HS3.out.low HH.out.1 HH.out.2.1 (hbf _ _), HK3.out.low (hbf _ _)⟩
    · have hno : nameOut i k (some x) = some (x.1, .nil) := by simp only [nameOut, if_neg hlt]
      have HNO := hideP hno
      clear hno
      have hgt : decide ((0 : Int) < (x.1 : Int) - (k : Int)) = false := decide_eq_false (by omega)
      rcases hf with rfl | ⟨t, v, rfl⟩
      · go_wp2_with fail
        refine (taken_any _ ((x.1 : Int) - k) _ _ _ (by omega) (by omega) (by omega) (by omega) (by omega) _).mono ?_
        rintro _ w2 ⟨rfl, hb2⟩
        have hlt0 := heap_lt HB0.out
        have hc0 : w2.heap[w.heap.size]? = some outC := by rw [hb2.block _ (by simp; omega), heap_alloc_old _ _ hlt0]; exact HB0.out
        have hc1 : w2.heap[w1.heap.size]? = some (.cells #[.int .i64 i, .int .i64 k, .int .i64 x.1, .nilIface] 108 (0, 0)) := by rw [hb2.block _ (by simp)]; exact heap_alloc_same _ _
        have hc2 : w2.heap[bm]? = some (boxO (ptrV mb) 113) := by rw [hb2.block _ (by have := heap_lt HQ1.out; simp; omega), heap_alloc_old _ _ (heap_lt HQ1.out)]; exact HQ1.out
        have hBB : Below w.heap.size w1 w2 := ((Below.refl _ w1).alloc (Nat.le_of_lt hlt0) (.cells #[.int .i64 i, .int .i64 k, .int .i64 x.1, .nilIface] 108 (0, 0))).trans (hb2.mono (by simp; omega))
        have HS2 := hideP (HS1.out.low HH.out.1 HH.out.2.1 hBB)
        have HK2 := hideP (HK1.out.low hBB)
        have y0 := cell_of_block hc0
        have g0 := frozen_of_block hc0
        have m0 := heap_lt' hc0
        have y1 := cell_of_block hc1
        have m1 := heap_lt' hc1
        have y2 := cell_of_block hc2
        have m2 := heap_lt' hc2
        have HC0 := hideP hc0
        have HC1 := hideP hc1
        clear hb2 hc0 hc1 hc2 hBB z0 f0 l0 z1 lz1 hlt0
        go_wp2_with fail
        refine bodyPost_ret (results_cell_row rfl _ _ w.heap.size _ _ _ _ rfl (cell2 HC0.out _ _) Tryz.underlying229 rfl (by kernel_rfl)) rfl ?_
        have hbf := below2 w2 w.heap.size
        rw [HNO.out]
        exact ⟨rfl, HS2.out.low HH.out.1 HH.out.2.1 (hbf _ _), HK2.out.low (hbf _ _)⟩
      · go_wp2_with fail
        refine (taken_any _ ((x.1 : Int) - k) _ _ _ (by omega) (by omega) (by omega) (by omega) (by omega) _).mono ?_
        rintro _ w2 ⟨rfl, hb2⟩
        have hlt0 := heap_lt HB0.out
        have hc0 : w2.heap[w.heap.size]? = some outC := by rw [hb2.block _ (by simp; omega), heap_alloc_old _ _ hlt0]; exact HB0.out
        have hc1 : w2.heap[w1.heap.size]? = some (.cells #[.int .i64 i, .int .i64 k, .int .i64 x.1, .iface t v] 108 (0, 0)) := by rw [hb2.block _ (by simp)]; exact heap_alloc_same _ _
        have hc2 : w2.heap[bm]? = some (boxO (ptrV mb) 113) := by rw [hb2.block _ (by have := heap_lt HQ1.out; simp; omega), heap_alloc_old _ _ (heap_lt HQ1.out)]; exact HQ1.out
        have hBB : Below w.heap.size w1 w2 := ((Below.refl _ w1).alloc (Nat.le_of_lt hlt0) (.cells #[.int .i64 i, .int .i64 k, .int .i64 x.1, .iface t v] 108 (0, 0))).trans (hb2.mono (by simp; omega))
        have HS2 := hideP (HS1.out.low HH.out.1 HH.out.2.1 hBB)
        have HK2 := hideP (HK1.out.low hBB)
        have y0 := cell_of_block hc0
        have g0 := frozen_of_block hc0
        have m0 := heap_lt' hc0
        have y1 := cell_of_block hc1
        have m1 := heap_lt' hc1
        have y2 := cell_of_block hc2
        have m2 := heap_lt' hc2
        have HC0 := hideP hc0
        have HC1 := hideP hc1
        clear hb2 hc0 hc1 hc2 hBB z0 f0 l0 z1 lz1 hlt0
        go_wp2_with fail
        refine bodyPost_ret (results_cell_row rfl _ _ w.heap.size _ _ _ _ rfl (cell2 HC0.out _ _) Tryz.underlying229 rfl (by kernel_rfl)) rfl ?_
        have hbf := below2 w2 w.heap.size
        rw [HNO.out]
        exact ⟨rfl, HS2.out.low HH.out.1 HH.out.2.1 (hbf _ _), HK2.out.low (hbf _ _)⟩
end Go.Proofs.YtiganlkabilblaaGreatDoor
namespace Go.Proofs.YtiganlkabilblaaGreatDoor
open Go.RowKit Thk
attribute [local go_sem ↓] Go.wp_at_zero Go.wp_at_succ
theorem MS.row {wM : World} {mb tb : Nat} {N : List Nd} {bx : List (Nat × Nat × Nat)} {rules : List Nat} {vr : Value} {s : ByteArray} {nt : Nt} {w : World} (h : MS wM mb tb N rules vr s nt w) {ks : List Nat} {a : Option Addr} (hr : RowC wM mb bx ks a) (j : Nat) (hj : j < ks.length) : ∃ g, a = some ⟨g, 0, none⟩ ∧ g < w.heap.size ∧ w.cell? ⟨g, j, none⟩ = some (clV bx ks[j]) := by
  obtain ⟨g, h1, h2, h3, h4⟩ := hr j hj
  refine ⟨g, h1, Nat.lt_of_lt_of_le h2 h.size, ?_⟩
  rw [← h4]
  simp only [World.cell?, h.old g h2 h3]
structure LpC (wM : World) (mb tb : Nat) (N : List Nd) (rules : List Nat) (vr : Value) (s : ByteArray) (w : World) (nt : Nt) (o : Obj) (wr : World) : Prop where
  ms : MS wM mb tb N rules vr s nt wr
  kp : KpM [mb, tb] w.heap.size w wr
  blk : wr.heap[w.heap.size]? = some o
set_option maxHeartbeats 8000000 in
set_option maxRecDepth 100000 in
theorem in_choice {wM : World} {mb tb : Nat} {N : List Nd} {bx : List (Nat × Nat × Nat)} {rules : List Nat} {vr : Value} {s : ByteArray} (M : Mde wM mb N bx rules vr) {f : Nat} (hC : CloC wM mb tb N bx rules vr s f) (ks : List Nat) (bs : Nat) (a : Option Addr) (c : Nat) (hb : wM.heap[bs]? = some (boxO (.slice a ks.length c) 175)) (hrow : RowC wM mb bx ks a) (hkl : ks.length ≤ 1000000) (k : Nat) (r : Out) (hv : chN (evN N rules s.data.toList f) ks k = some r) (hk : k ≤ s.size) (w : World) (h : MS wM mb tb N rules vr s .nil w) :
    Calls Tryz.prog 151 #[.int .i64 k, ptrV bs] w (PostM wM mb tb N rules vr s .nil r w) := by
  have p1 := h.box M hb
  have q1 := cell_of_block p1
  have l1 := heap_lt' p1
  have HH := hideP (And.intro h.size (And.intro h.tlt h.mlt))
  have HL : Hid (LpC wM mb tb N rules vr s w .nil outC (w.alloc outC)) := hideP ⟨h.below (below_alloc _ _), KpM.of_below (below_alloc _ _), heap_alloc_same _ _⟩
  have HV : Hid (chN (evN N rules s.data.toList f) (ks.drop 0) k = some r) := hideP hv
  have HR := hideP hrow
  have HCC := hideP hC
  clear h hC hb M p1 hv hrow
  go_enter Tryz.func151, Tryz.ntmps151
  go_wp2_with fail
  go_loopg [9] ks.length (fun m i wr => ∃ t : Nat, m = ks.length - t ∧ t ≤ ks.length ∧ i = .int .i64 t ∧ Hid (LpC wM mb tb N rules vr s w .nil outC wr) ∧ Hid (chN (evN N rules s.data.toList f) (ks.drop t) k = some r))
  case atStart => exact ⟨0, rfl, Nat.zero_le _, rfl, HL, HV⟩
  case round =>
    obtain ⟨t, rfl, ht, rfl, hL, hH⟩ := hrel
    have z0 := cell_of_block hL.out.blk
    have f0 := frozen_of_block hL.out.blk
    have l0 := heap_lt' hL.out.blk
    by_cases hlt : t < ks.length
    · obtain ⟨g, rfl, hgl, c0⟩ := hL.out.ms.row HR.out t hlt
      have hlt' : (t : Int) < ks.length := by omega
      have hvt := hH.out
      rw [List.drop_eq_getElem_cons hlt] at hvt
      simp only [chN] at hvt
      cases ho1 : evN N rules s.data.toList f ks[t] k with
      | none => rw [ho1] at hvt; cases hvt
      | some o =>
        rw [ho1] at hvt
        have HC := hideP (HCC.out.at (nt := .nil) ho1 hk hL.out.ms hL.out.kp (by have := heap_lt hL.out.blk; omega))
        simp only [clV, cloV] at c0
        have HVT := hideP hvt
        clear hvt ho1
        generalize (bx.getD ks[t] (0, 0, 0)).1 = x1 at *
        generalize (bx.getD ks[t] (0, 0, 0)).2.1 = x2 at *
        generalize (bx.getD ks[t] (0, 0, 0)).2.2 = x3 at *
        go_wp2_with fail
        refine HC.out.mono ?_
        rintro _ w1 ⟨rfl, hs1, hk1, hz1, hb1⟩
        have hb0 : w1.heap[w.heap.size]? = some outC := by
          rw [hb1 _ (heap_lt hL.out.blk) (by have := HH.out; omega) (by have := HH.out; omega)]
          exact hL.out.blk
        have y0 := cell_of_block hb0
        have g0 := frozen_of_block hb0
        have m0 := heap_lt' hb0
        have HS1 := hideP hs1
        have HK1 := hideP hk1
        have HB0 := hideP hb0
        clear hs1 hk1 hb0 hb1 hz1 z0 f0 l0 c0
        cases o with
        | none =>
          have ho : outV none = .agg #[.int .i64 0, .bool false] := rfl
          rw [ho]
          go_wp2_with fail
          go_roundg (ks.length - (t + 1))
          case measure => omega
          case rel =>
            refine ⟨t + 1, rfl, by omega, by go_num, ?_, HVT⟩
            have hbf : Below w.heap.size w1 (w1.alloc (.cells #[.int .i64 0, .bool false] 229 (0, 0))) := (Below.refl _ _).alloc (Nat.le_of_lt (heap_lt HB0.out)) _
            exact hideP ⟨HS1.out.low HH.out.1 HH.out.2.1 hbf, HK1.out.low hbf, by rw [heap_alloc_old _ _ (heap_lt HB0.out)]; exact HB0.out⟩
        | some x =>
          have ho : outV (some x) = .agg #[.int .i64 x.1, .bool true] := rfl
          rw [ho]
          have hr := HVT.out
          simp only [Option.some.injEq] at hr
          subst hr
          go_wp2_with fail
          refine bodyPost_ret (results_cell_row rfl _ _ w.heap.size _ _ _ _ rfl (cell2a HB0.out _ _ _) Tryz.underlying229 rfl (by kernel_rfl)) rfl ?_
          have hbf := below2a (Nat.le_of_lt (heap_lt HB0.out))
          exact ⟨rfl, HS1.out.low HH.out.1 HH.out.2.1 (hbf _ _ _), HK1.out.low (hbf _ _ _)⟩
    · have hje : t = ks.length := by omega
      have hRt : r = none := by
        have h1 := hH.out
        rw [hje, List.drop_length] at h1
        simpa [chN] using h1.symm
      subst hRt
      have hlt' : ¬ (t : Int) < ks.length := by omega
      clear hH
      go_wp2_with fail
      refine bodyPost_ret (results_cell_row rfl _ _ w.heap.size _ _ _ _ rfl (cell2 hL.out.blk _ _) Tryz.underlying229 rfl (by kernel_rfl)) rfl ?_
      have hbf := below2 wr w.heap.size
      exact ⟨rfl, hL.out.ms.low HH.out.1 HH.out.2.1 (hbf _ _), hL.out.kp.low (hbf _ _)⟩
end Go.Proofs.YtiganlkabilblaaGreatDoor
namespace Go.Proofs.YtiganlkabilblaaGreatDoor
open Go.RowKit Thk
attribute [local go_sem ↓] Go.wp_at_zero Go.wp_at_succ
abbrev befC : Obj := .cells #[.nilIface] 106 (0, 0)
/-- What was noted in vain is taken back. -/
theorem back_d {wM : World} {mb tb : Nat} {N : List Nd} {rules : List Nat} {vr : Value} {s : ByteArray} (w : World) (u : FrameMode) (rb bm bb : Nat) (nt : Nt) (e : Nat) (ok : Bool) (h : MS wM mb tb N rules vr s nt w) (h0 : w.heap[rb]? = some (.cells #[.int .i64 e, .bool ok] 229 (0, 0))) (h1 : w.heap[bm]? = some (boxO (ptrV mb) 113)) (h2 : w.heap[bb]? = some befC) :
    CallsD Tryz.prog 176 #[ptrV rb, ptrV bm, ptrV bb] u w fun e u' w' => u' = u ∧ (e = .returned (.tuple #[]) ∧ w' = if ok then w else w.setCell ⟨mb, 3, none⟩ .nilIface) := by
  have q0 := cell_of_block h0
  have l0 := heap_lt' h0
  have q1 := cell_of_block h1
  have l1 := heap_lt' h1
  have q2 := cell_of_block h2
  have l2 := heap_lt' h2
  have HT := hideP (takeBack_any w mb vr s _ _ .nil h.blk)
  clear h h0 h1 h2
  cases ok with
  | true =>
    go_enter_d Tryz.func176, Tryz.ntmps176
    go_wp2_with fail
    go_end0
    exact ⟨rfl, rfl⟩
  | false =>
    go_enter_d Tryz.func176, Tryz.ntmps176
    go_wp2_with fail
    refine HT.out.mono ?_
    rintro _ w1 ⟨rfl, hw⟩
    go_wp2_with fail
    go_end0
    exact ⟨rfl, by rfl⟩
structure LpS (wM : World) (mb tb : Nat) (N : List Nd) (rules : List Nat) (vr : Value) (s : ByteArray) (w : World) (bm : Nat) (nt : Nt) (o : Obj) (wr : World) : Prop where
  ms : MS wM mb tb N rules vr s nt wr
  kp : KpM [mb, tb] w.heap.size w wr
  blk : wr.heap[w.heap.size]? = some o
  bef : wr.heap[w.heap.size + 1]? = some befC
  box : wr.heap[bm]? = some (boxO (ptrV mb) 113)
set_option maxHeartbeats 8000000 in
set_option maxRecDepth 100000 in
theorem in_seq {wM : World} {mb tb : Nat} {N : List Nd} {bx : List (Nat × Nat × Nat)} {rules : List Nat} {vr : Value} {s : ByteArray} (M : Mde wM mb N bx rules vr) {f : Nat} (hC : CloC wM mb tb N bx rules vr s f) (ks : List Nat) (bm bs : Nat) (a : Option Addr) (c : Nat) (hbm : wM.heap[bm]? = some (boxO (ptrV mb) 113)) (hb : wM.heap[bs]? = some (boxO (.slice a ks.length c) 175)) (hrow : RowC wM mb bx ks a) (hkl : ks.length ≤ 1000000) (k : Nat) (r : Out) (hv : sqN (evN N rules s.data.toList f) ks k .nil = some r) (hk : k ≤ s.size) (w : World) (h : MS wM mb tb N rules vr s .nil w) :
    Calls Tryz.prog 175 #[.int .i64 k, ptrV bm, ptrV bs] w (PostM wM mb tb N rules vr s .nil r w) := by
  have p1 := h.box M hb
  have q1 := cell_of_block p1
  have l1 := heap_lt' p1
  have p2 := h.box M hbm
  have q2 := cell_of_block p2
  have l2 := heap_lt' p2
  have q3 : w.cell? ⟨mb, 3, none⟩ = some .nilIface := cell_of_block h.blk 3
  have l3 := heap_lt h.blk
  have n2 := M.ne hbm
  have n2t : bm ≠ tb := fun e => by have := heap_lt hbm; have := h.tge; omega
  have HH := hideP (And.intro h.size (And.intro h.tlt h.mlt))
  have HV : Hid (sqN (evN N rules s.data.toList f) (ks.drop 0) k .nil = some r) := hideP hv
  have HR := hideP hrow
  have HCC := hideP hC
  have HM := hideP h
  have HP2 := hideP p2
  clear h hC hb M p1 hv hrow p2 hbm
  go_enter_defers Tryz.func175, Tryz.ntmps175
  go_wp2_with fail
  have HL : Hid (LpS wM mb tb N rules vr s w bm .nil (.cells #[.int .i64 k, .bool true] 229 (0, 0)) ((w.alloc (.cells #[.int .i64 k, .bool true] 229 (0, 0))).alloc befC)) := hideP
    ⟨HM.out.below (below_alloc2 _ _ _), KpM.of_below (below_alloc2 _ _ _), by rw [heap_alloc_old _ _ (by simp)]; exact heap_alloc_same _ _, by have := heap_alloc_same (w.alloc (.cells #[.int .i64 k, .bool true] 229 (0, 0))) befC; simpa using this, by have := heap_lt HP2.out; rw [heap_alloc_old _ _ (by simp; omega), heap_alloc_old _ _ this]; exact HP2.out⟩
  go_loopg [17] ks.length (fun m i wr => ∃ (t cur : Nat) (acc : Nt), m = ks.length - t ∧ t ≤ ks.length ∧ cur ≤ s.size ∧ i = .int .i64 t ∧ Hid (LpS wM mb tb N rules vr s w bm acc (.cells #[.int .i64 cur, .bool true] 229 (0, 0)) wr) ∧ Hid (sqN (evN N rules s.data.toList f) (ks.drop t) cur acc = some r))
  case atStart => exact ⟨0, k, .nil, rfl, Nat.zero_le _, hk, rfl, HL, HV⟩
  case round =>
    obtain ⟨t, cur, acc, rfl, ht, hcur, rfl, hL, hH⟩ := hrel
    have z0 := cell_of_block hL.out.blk
    have f0 := frozen_of_block hL.out.blk
    have l0 := heap_lt' hL.out.blk
    by_cases hlt : t < ks.length
    · obtain ⟨g, rfl, hgl, c0⟩ := hL.out.ms.row HR.out t hlt
      have hlt' : (t : Int) < ks.length := by omega
      have hvt := hH.out
      rw [List.drop_eq_getElem_cons hlt] at hvt
      simp only [sqN] at hvt
      cases ho1 : evN N rules s.data.toList f ks[t] cur with
      | none => rw [ho1] at hvt; cases hvt
      | some o =>
        rw [ho1] at hvt
        have HC := hideP (HCC.out.at (nt := acc) ho1 hcur hL.out.ms hL.out.kp (by have := heap_lt hL.out.blk; omega))
        have HIN := hideP (fun x (hx : o = some x) => evN_in N rules s.data.toList f ks[t] cur x.1 x.2 (by simpa using hcur) (by rw [ho1, hx]))
        simp only [clV, cloV] at c0
        have HVT := hideP hvt
        clear hvt ho1
        generalize (bx.getD ks[t] (0, 0, 0)).1 = x1 at *
        generalize (bx.getD ks[t] (0, 0, 0)).2.1 = x2 at *
        generalize (bx.getD ks[t] (0, 0, 0)).2.2 = x3 at *
        go_wp2_with fail
        refine HC.out.mono ?_
        rintro _ w1 ⟨rfl, hs1, hk1, hz1, hb1⟩
        have hb0 : w1.heap[w.heap.size]? = some (.cells #[.int .i64 cur, .bool true] 229 (0, 0)) := by
          rw [hb1 _ (heap_lt hL.out.blk) (by have := HH.out; omega) (by have := HH.out; omega)]
          exact hL.out.blk
        have hbb : w1.heap[w.heap.size + 1]? = some befC := by
          rw [hb1 _ (heap_lt hL.out.bef) (by have := HH.out; omega) (by have := HH.out; omega)]
          exact hL.out.bef
        have hbm : w1.heap[bm]? = some (boxO (ptrV mb) 113) := by
          rw [hb1 _ (heap_lt hL.out.box) n2 n2t]
          exact hL.out.box
        have y0 := cell_of_block hb0
        have g0 := frozen_of_block hb0
        have m0 := heap_lt' hb0
        have HS1 := hideP hs1
        have HK1 := hideP hk1
        have HB0 := hideP hb0
        have HBB := hideP hbb
        have HBM := hideP hbm
        clear hs1 hk1 hb0 hb1 hz1 z0 f0 l0 c0 hbb hbm
        cases o with
        | none =>
          have ho : outV none = .agg #[.int .i64 0, .bool false] := rfl
          rw [ho]
          have hr := HVT.out
          simp only [Option.some.injEq] at hr
          subst hr
          go_wp2_with fail
          have hbf : Below w.heap.size w1 ((((w1.setCell ⟨w.heap.size, 0, none⟩ (.int .i64 0)).setCell ⟨w.heap.size, 1, none⟩ (.bool false)).setCell ⟨w.heap.size, 0, none⟩ (.int .i64 0)).setCell ⟨w.heap.size, 1, none⟩ (.bool false)) := (below2 _ _ _ _).trans (below2 _ _ _ _)
          obtain ⟨X, hX⟩ : ∃ X, X = ((((w1.setCell ⟨w.heap.size, 0, none⟩ (.int .i64 0)).setCell ⟨w.heap.size, 1, none⟩ (.bool false)).setCell ⟨w.heap.size, 0, none⟩ (.int .i64 0)).setCell ⟨w.heap.size, 1, none⟩ (.bool false)) := ⟨_, rfl⟩
          have hnb : w.heap.size ≠ bm := by have := l2; omega
          have x0 : X.heap[w.heap.size]? = some (.cells #[.int .i64 ((0 : Nat) : Int), .bool false] 229 (0, 0)) := by rw [hX, heap_setCell_at (heap_setCell_at (heap_setCell_at (heap_setCell_at HB0.out _) _) _) _]; rfl
          have x1 : X.heap[w.heap.size + 1]? = some befC := by rw [hX, Below.heap_setCell _ _ _ _ (by simp), Below.heap_setCell _ _ _ _ (by simp), Below.heap_setCell _ _ _ _ (by simp), Below.heap_setCell _ _ _ _ (by simp)]; exact HBB.out
          have x2 : X.heap[bm]? = some (boxO (ptrV mb) 113) := by rw [hX, Below.heap_setCell _ _ _ _ hnb.symm, Below.heap_setCell _ _ _ _ hnb.symm, Below.heap_setCell _ _ _ _ hnb.symm, Below.heap_setCell _ _ _ _ hnb.symm]; exact HBM.out
          rw [← hX] at hbf
          rw [← hX]
          have xm := HS1.out.low HH.out.1 HH.out.2.1 hbf
          refine leaves_cons (f := 176) (args := #[ptrV w.heap.size, ptrV bm, ptrV (w.heap.size + 1)]) (by simp) (by simp [go_sem]) ?_
          refine (back_d X .returning w.heap.size bm (w.heap.size + 1) _ 0 false xm x0 x2 x1).mono ?_
          rintro e u' w'' ⟨rfl, rfl, hw⟩
          simp only [Bool.false_eq_true, if_false] at hw
          subst hw
          have hrb : w.heap.size ≠ mb := by have := HH.out; omega
          refine ⟨_, results_cell_row rfl _ _ w.heap.size _ _ _ _ rfl (by rw [Below.heap_setCell _ _ _ _ hrb]; exact x0) Tryz.underlying229 rfl (by kernel_rfl), ?_⟩
          exact ⟨rfl, xm.noted .nil, (HK1.out.low hbf).noted _⟩
        | some x =>
          have ho : outV (some x) = .agg #[.int .i64 x.1, .bool true] := rfl
          rw [ho]
          go_wp2_with fail
          go_roundg (ks.length - (t + 1))
          case measure => omega
          case rel =>
            refine ⟨t + 1, x.1, jn acc x.2, rfl, by omega, by have := (HIN.out x rfl).2; simpa using this, by go_num, ?_, HVT⟩
            have hbf := below2 w1 w.heap.size (.int .i64 x.1) (.bool true)
            have hnb : w.heap.size ≠ bm := by have := l2; omega
            exact hideP ⟨HS1.out.low HH.out.1 HH.out.2.1 hbf, HK1.out.low hbf, by rw [heap_setCell_at (heap_setCell_at HB0.out _) _]; rfl,
              by rw [Below.heap_setCell _ _ _ _ (by simp), Below.heap_setCell _ _ _ _ (by simp)]; exact HBB.out,
              by rw [Below.heap_setCell _ _ _ _ hnb.symm, Below.heap_setCell _ _ _ _ hnb.symm]; exact HBM.out⟩
    · have hje : t = ks.length := by omega
      have hRt : r = some (cur, acc) := by
        have h1 := hH.out
        rw [hje, List.drop_length] at h1
        simpa [sqN] using h1.symm
      subst hRt
      have hlt' : ¬ (t : Int) < ks.length := by omega
      clear hH
      go_wp2_with fail
      have hbf : Below w.heap.size wr ((wr.setCell ⟨w.heap.size, 0, none⟩ (.int .i64 cur)).setCell ⟨w.heap.size, 1, none⟩ (.bool true)) := below2 _ _ _ _
      obtain ⟨X, hX⟩ : ∃ X, X = ((wr.setCell ⟨w.heap.size, 0, none⟩ (.int .i64 cur)).setCell ⟨w.heap.size, 1, none⟩ (.bool true)) := ⟨_, rfl⟩
      have hnb : w.heap.size ≠ bm := by have := l2; omega
      have x0 : X.heap[w.heap.size]? = some (.cells #[.int .i64 cur, .bool true] 229 (0, 0)) := by rw [hX, heap_setCell_at (heap_setCell_at hL.out.blk _) _]; rfl
      have x1 : X.heap[w.heap.size + 1]? = some befC := by rw [hX, Below.heap_setCell _ _ _ _ (by simp), Below.heap_setCell _ _ _ _ (by simp)]; exact hL.out.bef
      have x2 : X.heap[bm]? = some (boxO (ptrV mb) 113) := by rw [hX, Below.heap_setCell _ _ _ _ hnb.symm, Below.heap_setCell _ _ _ _ hnb.symm]; exact hL.out.box
      rw [← hX] at hbf
      rw [← hX]
      have xm := hL.out.ms.low HH.out.1 HH.out.2.1 hbf
      refine leaves_cons (f := 176) (args := #[ptrV w.heap.size, ptrV bm, ptrV (w.heap.size + 1)]) (by simp) (by simp [go_sem]) ?_
      refine (back_d X .returning w.heap.size bm (w.heap.size + 1) _ cur true xm x0 x2 x1).mono ?_
      rintro e u' w'' ⟨rfl, rfl, hw⟩
      simp only [if_true] at hw
      subst hw
      refine ⟨_, results_cell_row rfl _ _ w.heap.size _ _ _ _ rfl x0 Tryz.underlying229 rfl (by kernel_rfl), ?_⟩
      exact ⟨rfl, by rw [nil_jn]; exact xm, hL.out.kp.low hbf⟩
end Go.Proofs.YtiganlkabilblaaGreatDoor
