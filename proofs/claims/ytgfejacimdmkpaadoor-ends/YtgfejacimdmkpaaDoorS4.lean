import Derived.Test.YtgfejacimdmkpaaDoorS3
set_option linter.all false
namespace Go.Proofs.YtgfejacimdmkpaaDoor
open Go.RowKit Go.WideMaps Go.Maps

mutual
theorem emptyP_mono {E F : Thk.Bytes → Bool} (h : ∀ b, E b = true → F b = true) : ∀ (p : Thk.Piece), Thk.emptyP E p = true → Thk.emptyP F p = true
  | .name b, hp => h b hp
  | .group c, hp => by simp only [Thk.emptyP] at hp ⊢; exact emptyC_mono h c hp
  | .lit _, hp => by simp [Thk.emptyP] at hp
  | .cls _, hp => by simp [Thk.emptyP] at hp
  | .any, hp => by simp [Thk.emptyP] at hp
theorem emptyT_mono {E F : Thk.Bytes → Bool} (h : ∀ b, E b = true → F b = true) : ∀ (t : Thk.Term), Thk.emptyT E t = true → Thk.emptyT F t = true
  | .mk a p b, ht => by
    simp only [Thk.emptyT, Bool.or_eq_true] at ht ⊢
    rcases ht with ht | ht
    · exact .inl ht
    · exact .inr (emptyP_mono h p ht)
theorem emptyS_mono {E F : Thk.Bytes → Bool} (h : ∀ b, E b = true → F b = true) : ∀ (s : List Thk.Term), Thk.emptyS E s = true → Thk.emptyS F s = true
  | [], _ => by simp [Thk.emptyS]
  | t :: s, hs => by
    simp only [Thk.emptyS, Bool.and_eq_true] at hs ⊢
    exact ⟨emptyT_mono h t hs.1, emptyS_mono h s hs.2⟩
theorem emptyC_mono {E F : Thk.Bytes → Bool} (h : ∀ b, E b = true → F b = true) : ∀ (c : List (List Thk.Term)), Thk.emptyC E c = true → Thk.emptyC F c = true
  | [], hc => by simp [Thk.emptyC] at hc
  | s :: c, hc => by
    simp only [Thk.emptyC, Bool.or_eq_true] at hc ⊢
    rcases hc with hc | hc
    · exact .inl (emptyS_mono h s hc)
    · exact .inr (emptyC_mono h c hc)
 end

/-- E says of each rule that may take nothing, by E, that it may. -/
def Closed (names : List Thk.Bytes) (g : List Thk.Rule) (E : List Bool) : Prop := ∀ i (h : i < g.length), Thk.emptyC (Eb names E) g[i].choice = true → E.getD i false = true
def Least (names : List Thk.Bytes) (g : List Thk.Rule) (E : List Bool) : Prop := ∀ F : List Bool, Closed names g F → ∀ i, E.getD i false = true → F.getD i false = true

theorem Least.set {names : List Thk.Bytes} {g : List Thk.Rule} {E : List Bool} (h : Least names g E) {i : Nat} (hi : i < g.length) (he : Thk.emptyC (Eb names E) g[i].choice = true) : Least names g (E.set i true) := by
  intro F hF j hj
  by_cases hij : j = i
  · subst hij
    exact hF j hi (emptyC_mono (fun b hb => h F hF _ hb) _ he)
  · refine h F hF j ?_
    rw [List.getD_eq_getElem?_getD, List.getElem?_set, if_neg (fun e => hij e.symm)] at hj
    rw [List.getD_eq_getElem?_getD]; exact hj

def cf (E : List Bool) : Nat := E.countP (· == false)

theorem cf_set {E : List Bool} {i : Nat} (hi : i < E.length) (h : E.getD i false = false) : cf (E.set i true) < cf E := by
  unfold cf
  have h' : E[i] = false := by simpa [hi] using h
  induction E generalizing i with
  | nil => simp at hi
  | cons x xs ih =>
    cases i with
    | zero => simp at h'; subst h'; simp
    | succ i =>
      have := ih (i := i) (by simpa using hi) (by simpa using h) (by simpa using h')
      simp only [List.set_cons_succ, List.countP_cons]
      omega

theorem boolsO_set (E : List Bool) (i : Nat) : Obj.cells ((E.map Value.bool).toArray.setIfInBounds i (.bool true)) 4 (0, 0) = boolsO (E.set i true) := by
  unfold boolsO
  congr 1
  apply Array.toList_inj.1
  simp [List.map_set]

theorem sm_kpB {A : Nat → Prop} {eb : Nat} {w w' : World} {E : List Bool} (hr : w.heap[eb]? = some (boolsO E)) (hk : Kp eb w.heap.size w w') (hA : ∀ g, A g → g ≠ eb) : Sm A w w' :=
  ⟨fun _ _ h => own_kp h hr (by decide) hk, fun g hg ha => hk.block g hg (hA g ha)⟩

theorem RGram.kept {w w' : World} {A : Nat → Prop} (h : Sm A w w') {g : List Thk.Rule} {v : Value} (hg : RGram w A g v) : RGram w' A g v := by
  obtain ⟨vs, h1, h2⟩ := hg
  exact ⟨vs, h1.kept h.blocks, RRules.kept h h2⟩

theorem RRules.get {w : World} {A : Nat → Prop} : ∀ {g : List Thk.Rule} {vs : List Value} (h : RRules w A g vs) (j : Nat) (hj : j < g.length) (hv : j < vs.length), RChoice w A g[j].choice vs[j] ∧ g[j].name.length ≤ 2000
  | [], _, _, _, hj, _ => by simp at hj
  | t :: s, vs, h, j, hj, hv => by
    obtain ⟨v, vs', rfl, h1, h2⟩ := h
    cases j with
    | zero => exact h1
    | succ j => exact RRules.get h2 j (by simpa using hj) (by simpa using hv)

theorem ruleC_get : ∀ (g : List Thk.Rule) (vs : List Value) (h : g.length = vs.length) (j : Nat) (hj : j < g.length),
    (ruleC g vs)[j * 2]? = some (.string ⟨g[j].name.toArray⟩) ∧ (ruleC g vs)[j * 2 + 1]? = some (vs[j]'(by omega))
  | [], _, _, _, hj => by simp at hj
  | _ :: _, [], h, _, _ => by simp at h
  | r :: s, v :: vs, h, 0, _ => by simp [ruleC]
  | r :: s, v :: vs, h, j + 1, hj => by
    have := ruleC_get s vs (by simpa using h) j (by simpa using hj)
    simp only [ruleC, List.getElem_cons_succ]
    rw [show (j + 1) * 2 = j * 2 + 1 + 1 from by omega]
    simpa using this

/-- The cells of rule j, and its choice. -/
theorem RGram.at {w : World} {A : Nat → Prop} {g : List Thk.Rule} {ga : Addr} {gc : Nat} (h : RGram w A g (.slice (some ga) g.length gc)) (j : Nat) (hj : j < g.length) :
    ∃ gb a c, ga = ⟨gb, 0, none⟩ ∧ gb < w.heap.size ∧ A gb ∧ w.cell? ⟨gb, j * 2, none⟩ = some (.string ⟨g[j].name.toArray⟩) ∧ w.cell? ⟨gb, j * 2 + 1, none⟩ = some (.slice a g[j].choice.length c) ∧
      RChoice w A g[j].choice (.slice a g[j].choice.length c) ∧ g[j].name.length ≤ 2000 := by
  obtain ⟨vs, ⟨h1, h2⟩, h3⟩ := h
  obtain ⟨gb, e1, hcs, hlt⟩ := own_at h1 (by omega)
  have hvl := RRules.length h3
  obtain ⟨r0, r1⟩ := ruleC_get g vs hvl j hj
  obtain ⟨hc, hn⟩ := RRules.get h3 j hj (by omega)
  have hform : ∃ a c, vs[j]'(by omega) = .slice a g[j].choice.length c := by
    obtain ⟨us, hr, _⟩ := hc
    exact own_form hr.1
  obtain ⟨a, c, hv⟩ := hform
  simp only [Option.some.injEq] at e1
  rw [hv] at r1 hc
  exact ⟨gb, a, c, e1, hlt, h2 gb (by rw [e1]; rfl), by rw [hcs _ (by omega)]; exact r0, by rw [hcs _ (by omega)]; exact r1, hc, hn⟩

end Go.Proofs.YtgfejacimdmkpaaDoor
