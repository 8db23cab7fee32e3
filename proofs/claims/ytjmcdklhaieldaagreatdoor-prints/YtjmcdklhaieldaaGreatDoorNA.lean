import Derived.Test.YtjmcdklhaieldaaGreatDoorS12
import Derived.Test.YtjmcdklhaieldaaGreatDoorPA
import Derived.Test.YtjmcdklhaieldaaGreatDoorEB
set_option linter.all false
namespace Go.Proofs.YtjmcdklhaieldaaGreatDoor

theorem Wm_base (M : Mat) : ∀ (m i j : Nat), M i j = true → Wm M m i j = true
  | 0, _, _, h => h
  | m + 1, i, j, h => by simp only [Wm]; rw [Wm_base M m i j h]; rfl

/-- By way of k, a middle that is let. -/
theorem Wm_trans (M : Mat) : ∀ (m k i j : Nat), k < m → Wm M m i k = true → Wm M m k j = true → Wm M m i j = true
  | 0, _, _, _, h, _, _ => by omega
  | m + 1, k, i, j, hk, h1, h2 => by
    simp only [Wm, Bool.or_eq_true, Bool.and_eq_true] at h1 h2 ⊢
    rcases Nat.lt_or_ge k m with hkm | hkm
    · rcases h1 with h1 | ⟨h1, h1'⟩ <;> rcases h2 with h2 | ⟨h2, h2'⟩
      · exact .inl (Wm_trans M m k i j hkm h1 h2)
      · exact .inr ⟨Wm_trans M m k i m hkm h1 h2, h2'⟩
      · exact .inr ⟨h1, Wm_trans M m k m j hkm h1' h2⟩
      · exact .inr ⟨h1, h2'⟩
    · have hkm' : k = m := by omega
      subst hkm'
      right
      constructor
      · rcases h1 with h1 | ⟨h1, _⟩ <;> exact h1
      · rcases h2 with h2 | ⟨_, h2⟩ <;> exact h2

theorem Wm_step (M : Mat) (n k i j : Nat) (hk : k < n) (h1 : Wm M n i k = true) (h2 : M k j = true) : Wm M n i j = true := Wm_trans M n k i j hk h1 (Wm_base M n k j h2)

/-- What is shut under the steps holds what is come to. -/
theorem Wm_shut (M : Mat) (C : Nat → Prop) (hc : ∀ j k, C j → M j k = true → C k) : ∀ (m i j : Nat), (∀ k, M i k = true → C k) → Wm M m i j = true → C j
  | 0, i, j, hi, h => hi j h
  | m + 1, i, j, hi, h => by
    simp only [Wm, Bool.or_eq_true, Bool.and_eq_true] at h
    rcases h with h | ⟨h1, h2⟩
    · exact Wm_shut M C hc m i j hi h
    · have hm := Wm_shut M C hc m i m hi h1
      exact Wm_shut M C hc m m j (fun k hk => hc m k hm hk) h2

/-- Two least ones are the same. -/
theorem Least.same {names : List Thk.Bytes} {g : List Thk.Rule} {E F : List Bool} (hE : Closed names g E) (hE' : Least names g E) (hF : Closed names g F) (hF' : Least names g F) (i : Nat) : E.getD i false = F.getD i false := by
  cases h1 : E.getD i false with
  | true => exact (hE' F hF i h1).symm
  | false =>
    cases h2 : F.getD i false with
    | false => rfl
    | true => have := hF' E hE i h2; rw [h1] at this; cases this
end Go.Proofs.YtjmcdklhaieldaaGreatDoor
namespace Go.Proofs.YtjmcdklhaieldaaGreatDoor
open Thk

/-- May an expression take nothing, if its parts may as l says? (names: the rules' names, bodies: their choices.) -/
def emptyX (xs : List RE) (names : List Bytes) (bodies : List Nat) (l : List Bool) (i : Nat) : Bool :=
  match xs[i]? with
  | none => false
  | some e =>
    if e.kind = 1 ∨ e.kind = 2 ∨ e.kind = 3 then false
    else if e.kind = 4 then names.contains e.text && l.getD (bodies.getD (names.idxOf e.text) 0) false
    else if e.kind = 5 then e.parts.all fun k => l.getD k false
    else if e.kind = 6 then e.parts.any fun k => l.getD k false
    else if e.kind = 9 then l.getD (e.parts.headD 0) false
    else true

def CloL (xs : List RE) (names : List Bytes) (bodies : List Nat) (l : List Bool) : Prop := ∀ i, emptyX xs names bodies l i = true → l.getD i false = true

def Eof (bodies : List Nat) (l : List Bool) : List Bool := bodies.map fun k => l.getD k false

theorem Eof_get (bodies : List Nat) (l : List Bool) (i : Nat) (h : i < bodies.length) : (Eof bodies l).getD i false = l.getD (bodies.getD i 0) false := by
  simp [Eof, h]

theorem Eb_known {names : List Bytes} {bodies : List Nat} {l : List Bool} {b : Bytes} (hn : names.contains b = true) (hl : bodies.length = names.length) : Eb names (Eof bodies l) b = l.getD (bodies.getD (names.idxOf b) 0) false := by
  unfold Eb idx0
  rw [if_pos hn]
  exact Eof_get _ _ _ (by rw [hl]; exact List.idxOf_lt_length_iff.2 (by simpa using hn))

mutual
theorem cloP {xs : List RE} {names : List Bytes} {bodies : List Nat} {l : List Bool} (hc : CloL xs names bodies l) (hl : bodies.length = names.length) {k : Nat} : ∀ p : Piece, DenP xs k p → someP (unkT names) p = false → (∀ b, p = .name b → names.contains b = true) → emptyP (Eb names (Eof bodies l)) p = true → l.getD k false = true
  | .name b => by
    intro h _ hb he
    simp only [DenP] at h
    simp only [emptyP] at he
    have hn := hb b rfl
    rw [Eb_known hn hl] at he
    refine hc k ?_
    simp only [emptyX, h]
    simp at hn he ⊢
    exact ⟨hn, he⟩
  | .lit b => by intro _ _ _ he; simp [emptyP] at he
  | .cls b => by intro _ _ _ he; simp [emptyP] at he
  | .any => by intro _ _ _ he; simp [emptyP] at he
  | .group c => by
    intro h hu _ he
    simp only [DenP] at h
    obtain ⟨qs, h1, h2⟩ := h
    simp only [someP] at hu
    simp only [emptyP] at he
    refine hc k ?_
    simp only [emptyX, h1]
    simpa using cloC hc hl c h2 hu he
theorem cloT {xs : List RE} {names : List Bytes} {bodies : List Nat} {l : List Bool} (hc : CloL xs names bodies l) (hl : bodies.length = names.length) {k : Nat} : ∀ t : Term, DenT xs k t → someT (unkT names) t = false → emptyT (Eb names (Eof bodies l)) t = true → l.getD k false = true
  | .mk a p b => by
    intro h hu he
    simp only [DenT] at h
    obtain ⟨i, j, h1, h2, h3, h4, h5⟩ := h
    simp only [someT, Bool.or_eq_false_iff] at hu
    have hnm : ∀ b', p = .name b' → names.contains b' = true := by
      intro b' hp
      subst hp
      have := hu.1
      simpa [unkT, Term.piece] using this
    simp only [emptyT, Bool.or_eq_true] at he
    by_cases ha : a = 0
    · rw [if_pos ha] at h1
      subst h1
      subst ha
      by_cases hb : b = 0
      · rw [if_pos hb] at h2
        subst h2; subst hb
        refine cloP hc hl p h3 hu.2 hnm ?_
        simpa using he
      · rw [if_neg hb] at h2
        refine hc k ?_
        rcases h4 with rfl | rfl | rfl | rfl
        · exact absurd rfl hb
        · simp [emptyX, h2, wrapE, sgnKind]
        · simp [emptyX, h2, wrapE, sgnKind]
        · have hj : l.getD j false = true := cloP hc hl p h3 hu.2 hnm (by simpa using he)
          simp only [emptyX, h2, wrapE, sgnKind]
          simpa using hj
    · rw [if_neg ha] at h1
      refine hc k ?_
      rcases h5 with rfl | rfl | rfl
      · exact absurd rfl ha
      · simp [emptyX, h1, wrapE, sgnKind]
      · simp [emptyX, h1, wrapE, sgnKind]
theorem cloS {xs : List RE} {names : List Bytes} {bodies : List Nat} {l : List Bool} (hc : CloL xs names bodies l) (hl : bodies.length = names.length) : ∀ {ks : List Nat} (s : List Term), DenS xs ks s → someS (unkT names) s = false → emptyS (Eb names (Eof bodies l)) s = true → ks.all (fun k => l.getD k false) = true
  | ks, [] => by
    intro h _ _
    simp only [DenS] at h
    subst h; rfl
  | ks, t :: s => by
    intro h hu he
    simp only [DenS] at h
    obtain ⟨k, ks', rfl, h1, h2⟩ := h
    simp only [someS, Bool.or_eq_false_iff] at hu
    simp only [emptyS, Bool.and_eq_true] at he
    rw [List.all_cons, cloT hc hl t h1 hu.1 he.1, cloS hc hl s h2 hu.2 he.2]; rfl
theorem cloC {xs : List RE} {names : List Bytes} {bodies : List Nat} {l : List Bool} (hc : CloL xs names bodies l) (hl : bodies.length = names.length) : ∀ {qs : List Nat} (c : List (List Term)), DenC xs qs c → someC (unkT names) c = false → emptyC (Eb names (Eof bodies l)) c = true → qs.any (fun k => l.getD k false) = true
  | qs, [] => by intro _ _ he; simp [emptyC] at he
  | qs, s :: c => by
    intro h hu he
    simp only [DenC] at h
    obtain ⟨q, qs', ks, rfl, h1, h2, h3⟩ := h
    simp only [someC, Bool.or_eq_false_iff] at hu
    simp only [emptyC, Bool.or_eq_true] at he
    rw [List.any_cons]
    rcases he with he | he
    · have := cloS hc hl s h2 hu.1 he
      rw [hc q (by simp only [emptyX, h1]; simpa using this)]; rfl
    · rw [cloC hc hl c h3 hu.2 he]; simp
 end
end Go.Proofs.YtjmcdklhaieldaaGreatDoor
namespace Go.Proofs.YtjmcdklhaieldaaGreatDoor
open Thk

/-- What is said to take nothing takes nothing under whatever is closed. -/
def FndL (xs : List RE) (names : List Bytes) (g : List Rule) (l : List Bool) : Prop := ∀ F, Closed names g F → ∀ k, l.getD k false = true →
  (∀ p, DenP xs k p → emptyP (Eb names F) p = true) ∧ (∀ t, DenT xs k t → emptyT (Eb names F) t = true) ∧ (∀ ks s, xs[k]? = some ⟨5, [], [], 0, ks⟩ → DenS xs ks s → emptyS (Eb names F) s = true)

theorem DenR.get {xs : List RE} : ∀ (rs : List (Bytes × Nat)) (g : List Rule), DenR xs rs g → rs.length = g.length ∧ ∀ i (h : i < g.length), (rs.map (·.1)).getD i [] = g[i].name ∧ DenP xs ((rs.map (·.2)).getD i 0) (.group g[i].choice)
  | [], [] => fun _ => ⟨rfl, fun i h => by simp at h⟩
  | x :: rs, r :: g => fun ⟨h1, h2, h3⟩ => by
    obtain ⟨e, ih⟩ := DenR.get rs g h3
    refine ⟨by simp [e], fun i h => ?_⟩
    cases i with
    | zero => exact ⟨h1, h2⟩
    | succ i => exact ih i (by simpa using h)
  | [], _ :: _ => fun h => h.elim
  | _ :: _, [] => fun h => h.elim

theorem denS_empty {xs : List RE} {F : Bytes → Bool} {l : List Bool} (hT : ∀ k, l.getD k false = true → ∀ t, DenT xs k t → emptyT F t = true) : ∀ {ks : List Nat} (s : List Term), DenS xs ks s → ks.all (fun k => l.getD k false) = true → emptyS F s = true
  | ks, [] => fun _ _ => by simp [emptyS]
  | ks, t :: s => by
    intro h ha
    simp only [DenS] at h
    obtain ⟨k, ks', rfl, h1, h2⟩ := h
    rw [List.all_cons, Bool.and_eq_true] at ha
    simp only [emptyS, hT k ha.1 t h1, denS_empty hT s h2 ha.2, Bool.and_self]

theorem denC_empty {xs : List RE} {F : Bytes → Bool} {l : List Bool} (hS : ∀ k, l.getD k false = true → ∀ ks s, xs[k]? = some ⟨5, [], [], 0, ks⟩ → DenS xs ks s → emptyS F s = true) : ∀ {qs : List Nat} (c : List (List Term)), DenC xs qs c → qs.any (fun k => l.getD k false) = true → emptyC F c = true
  | qs, [] => by
    intro h ha
    simp only [DenC] at h
    subst h; simp at ha
  | qs, s :: c => by
    intro h ha
    simp only [DenC] at h
    obtain ⟨q, qs', ks, rfl, h1, h2, h3⟩ := h
    rw [List.any_cons, Bool.or_eq_true] at ha
    simp only [emptyC, Bool.or_eq_true]
    rcases ha with ha | ha
    · exact .inl (hS q ha ks s h1 h2)
    · exact .inr (denC_empty hS c h3 ha)

theorem FndL.step {xs : List RE} {rs : List (Bytes × Nat)} {g : List Rule} {l : List Bool} {i : Nat} (hR : DenR xs rs g) (h : FndL xs (rs.map (·.1)) g l) (he : emptyX xs (rs.map (·.1)) (rs.map (·.2)) l i = true) : FndL xs (rs.map (·.1)) g (l.set i true) := by
  intro F hF k hk
  obtain ⟨hlen, hget⟩ := DenR.get rs g hR
  by_cases hik : k = i
  · subst hik
    have hP : ∀ p, DenP xs k p → emptyP (Eb (rs.map (·.1)) F) p = true := by
      intro p hp
      cases p with
      | name b =>
        simp only [DenP] at hp
        simp only [emptyX, hp] at he
        simp only [Nat.reduceEqDiff, or_self, if_false, if_true, Bool.and_eq_true] at he
        obtain ⟨hn, hb⟩ := he
        have hi : (rs.map (·.1)).idxOf b < g.length := by
          rw [← hlen, ← List.length_map (f := (·.1))]; exact List.idxOf_lt_length_iff.2 (by simpa using hn)
        have h1 := (h F hF _ hb).1 _ (hget _ hi).2
        simp only [emptyP] at h1
        have h2 := hF _ hi h1
        simp only [emptyP]
        unfold Eb idx0
        rw [if_pos hn]; exact h2
      | lit b => simp only [DenP] at hp; simp [emptyX, hp] at he
      | cls b => simp only [DenP] at hp; simp [emptyX, hp] at he
      | any => simp only [DenP] at hp; simp [emptyX, hp] at he
      | group c =>
        simp only [DenP] at hp
        obtain ⟨qs, h1, h2⟩ := hp
        simp only [emptyX, h1] at he
        simp only [Nat.reduceEqDiff, or_self, if_false, if_true] at he
        simp only [emptyP]
        exact denC_empty (fun k hk => (h F hF k hk).2.2) c h2 he
    refine ⟨hP, ?_, ?_⟩
    · rintro ⟨a, p, b⟩ ht
      simp only [DenT] at ht
      obtain ⟨i', j, h1, h2, h3, h4, h5⟩ := ht
      by_cases ha : a = 0
      · rw [if_pos ha] at h1
        subst h1; subst ha
        by_cases hb : b = 0
        · rw [if_pos hb] at h2
          subst h2; subst hb
          simp [emptyT, hP p h3]
        · rw [if_neg hb] at h2
          rcases h4 with rfl | rfl | rfl | rfl
          · exact absurd rfl hb
          · simp [emptyT]
          · simp [emptyT]
          · have hj : l.getD j false = true := by simpa [emptyX, h2, wrapE, sgnKind] using he
            simp [emptyT, (h F hF j hj).1 p h3]
      · simp [emptyT, ha]
    · intro ks s hx hs
      simp only [emptyX, hx] at he
      simp only [Nat.reduceEqDiff, or_self, if_false, if_true] at he
      exact denS_empty (fun k hk => (h F hF k hk).2.1) s hs he
  · refine h F hF k ?_
    rw [List.getD_eq_getElem?_getD, List.getElem?_set, if_neg (fun e => hik e.symm)] at hk
    rw [List.getD_eq_getElem?_getD]; exact hk

theorem FndL.none {xs : List RE} {names : List Bytes} {g : List Rule} (n : Nat) : FndL xs names g (List.replicate n false) := by
  intro F _ k hk
  rw [List.getD_eq_getElem?_getD, List.getElem?_replicate] at hk
  split at hk <;> cases hk

/-- WHAT MAY TAKE NOTHING BY THE REFERENCE IS THE LEAST THAT IS CLOSED. -/
theorem least_of {xs : List RE} {rs : List (Bytes × Nat)} {g : List Rule} {l : List Bool} (hR : DenR xs rs g) (hc : CloL xs (rs.map (·.1)) (rs.map (·.2)) l) (hf : FndL xs (rs.map (·.1)) g l) (hu : ∀ i (h : i < g.length), someC (unkT (rs.map (·.1))) g[i].choice = false) :
    Closed (rs.map (·.1)) g (Eof (rs.map (·.2)) l) ∧ Least (rs.map (·.1)) g (Eof (rs.map (·.2)) l) ∧ (Eof (rs.map (·.2)) l).length = g.length := by
  obtain ⟨hlen, hget⟩ := DenR.get rs g hR
  refine ⟨?_, ?_, by simp [Eof, hlen]⟩
  · intro i hi he
    rw [Eof_get _ _ _ (by simp [hlen, hi])]
    exact cloP hc (by simp) _ (hget i hi).2 (by simp only [someP]; exact hu i hi) (by intro b hb; cases hb) (by simp only [emptyP]; exact he)
  · intro F hF i hi
    by_cases hig : i < g.length
    · rw [Eof_get _ _ _ (by simp [hlen, hig])] at hi
      have := (hf F hF _ hi).1 _ (hget i hig).2
      simp only [emptyP] at this
      exact hF i hig this
    · exfalso
      rw [List.getD_eq_getElem?_getD, List.getElem?_eq_none (by simp [Eof, hlen]; omega)] at hi
      cases hi
end Go.Proofs.YtjmcdklhaieldaaGreatDoor
namespace Go.Proofs.YtjmcdklhaieldaaGreatDoor
open Thk

/-- Each with its own. -/
def AllR {β : Type} (R : Nat → β → Prop) : List Nat → List β → Prop
  | [], [] => True
  | k :: ks, b :: bs => R k b ∧ AllR R ks bs
  | _, _ => False

theorem AllR.len {β : Type} {R : Nat → β → Prop} : ∀ {ks : List Nat} {bs : List β}, AllR R ks bs → bs.length = ks.length
  | [], [], _ => rfl
  | _ :: _, _ :: _, h => by simp [AllR.len h.2]
  | [], _ :: _, h => h.elim
  | _ :: _, [], h => h.elim

theorem AllR.get {β : Type} {R : Nat → β → Prop} : ∀ {ks : List Nat} {bs : List β}, AllR R ks bs → ∀ i (h1 : i < ks.length) (h2 : i < bs.length), R ks[i] bs[i]
  | [], [], _, i, h1, _ => by simp at h1
  | _ :: _, _ :: _, h, 0, _, _ => h.1
  | _ :: _, _ :: _, h, i + 1, h1, h2 => AllR.get h.2 i (by simpa using h1) (by simpa using h2)
  | [], _ :: _, h, _, _, _ => h.elim
  | _ :: _, [], h, _, _, _ => h.elim

/-- Does it hold of the expression itself? (u: it is a name of no rule; else: it repeats what may take nothing.) -/
def hitX (names : List Bytes) (l : List Bool) (u : Bool) (e : RE) : Bool :=
  (u && e.kind == 4 && !names.contains e.text) || (!u && (e.kind == 8 || e.kind == 9) && l.getD (e.parts.headD 0) false)

def hitP (names : List Bytes) (u : Bool) : Piece → Bool
  | .name b => u && !names.contains b
  | _ => false

def HT (names : List Bytes) (E : List Bool) (u : Bool) : Term → Bool := if u then unkT names else loopT (Eb names E)

def StepW (xs : List RE) (names : List Bytes) (l : List Bool) (u : Bool) (R : Nat → Bool → Prop) : Prop :=
  ∀ k e bs, xs[k]? = some e → AllR R e.parts bs → R k (hitX names l u e || bs.any id)

/-- What l tells of pieces. -/
def LP (xs : List RE) (names : List Bytes) (E l : List Bool) : Prop := (∀ j p, DenP xs j p → someP (unkT names) p = false → (∀ b, p = .name b → names.contains b = true) → l.getD j false = emptyP (Eb names E) p) ∧ ∀ j t, DenT xs j t → someT (unkT names) t = false → l.getD j false = emptyT (Eb names E) t

theorem lp_of {xs : List RE} {rs : List (Bytes × Nat)} {g : List Rule} {l : List Bool} (hc : CloL xs (rs.map (·.1)) (rs.map (·.2)) l) (hf : FndL xs (rs.map (·.1)) g l) (hE : Closed (rs.map (·.1)) g (Eof (rs.map (·.2)) l)) : LP xs (rs.map (·.1)) (Eof (rs.map (·.2)) l) l := by
  refine ⟨?_, ?_⟩
  · intro j p hd hu hn
    rw [Bool.eq_iff_iff]
    exact ⟨fun h => (hf _ hE j h).1 p hd, fun h => cloP hc (by simp) p hd hu hn h⟩
  · intro j t hd hu
    rw [Bool.eq_iff_iff]
    exact ⟨fun h => (hf _ hE j h).2.1 t hd, fun h => cloT hc (by simp) t hd hu h⟩

theorem free_name {names : List Bytes} {a b : UInt8} {p : Piece} (h : someT (unkT names) (.mk a p b) = false) : someP (unkT names) p = false ∧ ∀ b', p = .name b' → names.contains b' = true := by
  simp only [someT, Bool.or_eq_false_iff] at h
  refine ⟨h.2, ?_⟩
  intro b' hp
  subst hp
  have := h.1
  simpa [unkT, Term.piece] using this

mutual
theorem wiP {xs : List RE} {names : List Bytes} {E l : List Bool} {u : Bool} {R : Nat → Bool → Prop} (hl : u = false → LP xs names E l) (hR : StepW xs names l u R) : ∀ (p : Piece) {k : Nat}, DenP xs k p → (u = false → someP (unkT names) p = false) → R k (hitP names u p || someP (HT names E u) p)
  | .name b, k => by
    intro h _
    simp only [DenP] at h
    have := hR k _ [] h (by simp [AllR])
    simpa [hitX, hitP, someP] using this
  | .lit b, k => by
    intro h _
    simp only [DenP] at h
    have := hR k _ [] h (by simp [AllR])
    simpa [hitX, hitP, someP] using this
  | .cls b, k => by
    intro h _
    simp only [DenP] at h
    have := hR k _ [] h (by simp [AllR])
    simpa [hitX, hitP, someP] using this
  | .any, k => by
    intro h _
    simp only [DenP] at h
    have := hR k _ [] h (by simp [AllR])
    simpa [hitX, hitP, someP] using this
  | .group c, k => by
    intro h hu
    simp only [DenP] at h
    obtain ⟨qs, h1, h2⟩ := h
    simp only [someP] at hu
    obtain ⟨bs, h3, h4⟩ := wiC hl hR c h2 hu
    have := hR k _ bs h1 h3
    rw [h4] at this
    simpa [hitX, hitP, someP] using this
theorem wiT {xs : List RE} {names : List Bytes} {E l : List Bool} {u : Bool} {R : Nat → Bool → Prop} (hl : u = false → LP xs names E l) (hR : StepW xs names l u R) : ∀ (t : Term) {k : Nat}, DenT xs k t → (u = false → someT (unkT names) t = false) → R k (someT (HT names E u) t)
  | .mk a p b, k => by
    intro h hu
    simp only [DenT] at h
    obtain ⟨i, j, h1, h2, h3, h4, h5⟩ := h
    have hj := wiP hl hR p h3 (fun e => (free_name (hu e)).1)
    have hi : R i (someT (HT names E u) (.mk a p b)) := by
      by_cases hb : b = 0
      · rw [if_pos hb] at h2
        subst h2
        have key : someT (HT names E u) (.mk a p b) = (hitP names u p || someP (HT names E u) p) := by
          cases u with
          | true => cases p <;> simp [someT, HT, hitP, unkT, Term.piece, someP]
          | false => cases p <;> simp [someT, HT, hitP, loopT, Term.behind, hb]
        rw [key]; exact hj
      · rw [if_neg hb] at h2
        have hq := hR i _ [_] h2 ⟨hj, trivial⟩
        have key : someT (HT names E u) (.mk a p b) = (hitX names l u (wrapE (sgnKind [b]) j) || [hitP names u p || someP (HT names E u) p].any id) := by
         cases u with
         | true => cases p <;> simp [someT, HT, hitP, unkT, Term.piece, someP, hitX, wrapE, sgnKind] <;> (repeat' split) <;> simp
         | false =>
          have hlj := (hl rfl).1 j p h3 (free_name (hu rfl)).1 (free_name (hu rfl)).2
          have hP : hitP names false p = false := by cases p <;> simp [hitP]
          rcases h4 with rfl | rfl | rfl | rfl
          · exact absurd rfl hb
          · simp [someT, HT, loopT, Term.behind, Term.piece, hitX, wrapE, sgnKind, hP]
          · simp [someT, HT, loopT, Term.behind, Term.piece, hitX, wrapE, sgnKind, hP, ← hlj]
          · simp [someT, HT, loopT, Term.behind, Term.piece, hitX, wrapE, sgnKind, hP, ← hlj]
        rw [key]; exact hq
    by_cases ha : a = 0
    · rw [if_pos ha] at h1
      subst h1; exact hi
    · rw [if_neg ha] at h1
      have := hR k _ [_] h1 ⟨hi, trivial⟩
      rcases h5 with rfl | rfl | rfl
      · exact absurd rfl ha
      · simpa [hitX, wrapE, sgnKind] using this
      · simpa [hitX, wrapE, sgnKind] using this
theorem wiS {xs : List RE} {names : List Bytes} {E l : List Bool} {u : Bool} {R : Nat → Bool → Prop} (hl : u = false → LP xs names E l) (hR : StepW xs names l u R) : ∀ (s : List Term) {ks : List Nat}, DenS xs ks s → (u = false → someS (unkT names) s = false) → ∃ bs, AllR R ks bs ∧ bs.any id = someS (HT names E u) s
  | [], ks => by
    intro h _
    simp only [DenS] at h
    subst h
    exact ⟨[], trivial, by simp [someS]⟩
  | t :: s, ks => by
    intro h hu
    simp only [DenS] at h
    obtain ⟨k, ks', rfl, h1, h2⟩ := h
    have hu1 : u = false → someT (unkT names) t = false ∧ someS (unkT names) s = false := fun e => by have := hu e; simpa only [someS, Bool.or_eq_false_iff] using this
    obtain ⟨bs, h3, h4⟩ := wiS hl hR s h2 (fun e => (hu1 e).2)
    exact ⟨_ :: bs, ⟨wiT hl hR t h1 (fun e => (hu1 e).1), h3⟩, by simp [someS, h4]⟩
theorem wiC {xs : List RE} {names : List Bytes} {E l : List Bool} {u : Bool} {R : Nat → Bool → Prop} (hl : u = false → LP xs names E l) (hR : StepW xs names l u R) : ∀ (c : List (List Term)) {qs : List Nat}, DenC xs qs c → (u = false → someC (unkT names) c = false) → ∃ bs, AllR R qs bs ∧ bs.any id = someC (HT names E u) c
  | [], qs => by
    intro h _
    simp only [DenC] at h
    subst h
    exact ⟨[], trivial, by simp [someC]⟩
  | s :: c, qs => by
    intro h hu
    simp only [DenC] at h
    obtain ⟨q, qs', ks, rfl, h1, h2, h3⟩ := h
    have hu1 : u = false → someS (unkT names) s = false ∧ someC (unkT names) c = false := fun e => by have := hu e; simpa only [someC, Bool.or_eq_false_iff] using this
    obtain ⟨bs, h4, h5⟩ := wiS hl hR s h2 (fun e => (hu1 e).1)
    obtain ⟨cs, h6, h7⟩ := wiC hl hR c h3 (fun e => (hu1 e).2)
    refine ⟨_ :: cs, ⟨hR q _ bs h1 h4, h6⟩, ?_⟩
    simp [someC, h7, h5, hitX]
 end

theorem markL_get (names : List Bytes) (j : Nat) : ∀ (l : List Bytes) (B : List Bool), j < B.length → (markL names B l).getD j false = (B.getD j false || (l.map (idx0 names)).contains j)
  | [], B, _ => by simp [markL]
  | b :: l, B, hj => by
    show (markL names (B.set (idx0 names b) true) l).getD j false = _
    rw [markL_get names j l _ (by simpa using hj)]
    simp only [List.getD_eq_getElem?_getD, List.getElem?_set, List.map_cons, List.contains_cons]
    by_cases h : idx0 names b = j
    · subst h; simp [hj]
    · rw [if_neg h]
      have : (j == idx0 names b) = false := by simpa using fun e => h e.symm
      rw [this]; simp

theorem dirM_iff {names : List Bytes} {E : List Bool} {g : List Rule} {i j : Nat} (hi : i < g.length) (hn : 0 < names.length) : dirM names E g i j = true ↔ j ∈ (firstC (Eb names E) g[i].choice).map (idx0 names) := by
  unfold dirM
  simp only [List.getElem?_eq_getElem hi, Option.map_some, Option.getD_some]
  by_cases hj : j < names.length
  · rw [markL_get _ _ _ _ (by simpa using hj)]
    simp [hj]
  · constructor
    · intro h
      rw [List.getD_eq_getElem?_getD, List.getElem?_eq_none (by rw [markL_len]; simp; omega)] at h
      cases h
    · intro h
      obtain ⟨b, _, hb⟩ := List.mem_map.1 h
      have := idx0_lt b hn
      omega
end Go.Proofs.YtjmcdklhaieldaaGreatDoor
namespace Go.Proofs.YtjmcdklhaieldaaGreatDoor
open Thk

theorem ft_det {ns : List Bytes} : ∀ {o1 o2 : Option Nat}, FirstTwice ns o1 → FirstTwice ns o2 → o1 = o2
  | none, none, _, _ => rfl
  | none, some i, h1, h2 => by have := h1 i h2.1; rw [h2.2.1] at this; cases this
  | some i, none, h1, h2 => by have := h2 i h1.1; rw [h1.2.1] at this; cases this
  | some i, some j, h1, h2 => by
    rcases Nat.lt_trichotomy i j with h | h | h
    · have := h2.2.2 i h; rw [h1.2.1] at this; cases this
    · rw [h]
    · have := h1.2.2 j h; rw [h2.2.1] at this; cases this

theorem fi_det {g : List Rule} {p : Choice → Bool} : ∀ {o1 o2 : Option Nat}, FirstIs g p o1 → FirstIs g p o2 → o1 = o2
  | none, none, _, _ => rfl
  | none, some i, h1, h2 => by obtain ⟨h, h3, _⟩ := h2; have := h1 i h; rw [h3] at this; cases this
  | some i, none, h1, h2 => by obtain ⟨h, h3, _⟩ := h1; have := h2 i h; rw [h3] at this; cases this
  | some i, some j, h1, h2 => by
    obtain ⟨a1, a2, a3⟩ := h1
    obtain ⟨b1, b2, b3⟩ := h2
    rcases Nat.lt_trichotomy i j with h | h | h
    · have := b3 i a1 h; rw [a2] at this; cases this
    · rw [h]
    · have := a3 j b1 h; rw [b2] at this; cases this

theorem lf_det {names : List Bytes} {E : List Bool} {g : List Rule} : ∀ {o1 o2 : Option Nat}, LeftIs names E g o1 → LeftIs names E g o2 → o1 = o2
  | none, none, _, _ => rfl
  | none, some i, h1, h2 => by have := h1 i h2.1; rw [h2.2.1] at this; cases this
  | some i, none, h1, h2 => by have := h2 i h1.1; rw [h1.2.1] at this; cases this
  | some i, some j, h1, h2 => by
    rcases Nat.lt_trichotomy i j with h | h | h
    · have := h2.2.2 i h; rw [h1.2.1] at this; cases this
    · rw [h]
    · have := h1.2.2 j h; rw [h2.2.1] at this; cases this

theorem e_det {names : List Bytes} {g : List Rule} {E F : List Bool} (h1 : E.length = g.length) (h2 : Closed names g E) (h3 : Least names g E) (k1 : F.length = g.length) (k2 : Closed names g F) (k3 : Least names g F) : E = F := by
  apply List.ext_getElem (by omega)
  intro i a b
  have := Least.same h2 h3 k2 k3 i
  simpa [List.getD_eq_getElem?_getD, a, b] using this

/-- What is told of rules is one. -/
theorem PLook.det {g : List Rule} {r1 r2 : Except (Nat × Nat) (List Bool)} (h1 : PLook g r1) (h2 : PLook g r2) : r1 = r2 := by
  cases h1 with
  | twice a1 => cases h2 with
    | twice b1 => cases ft_det a1 b1; rfl
    | unknown b1 _ => cases ft_det a1 b1
    | loop b1 => cases ft_det a1 b1
    | left b1 => cases ft_det a1 b1
    | ok b1 => cases ft_det a1 b1
  | unknown a1 a2 => cases h2 with
    | twice b1 => cases ft_det a1 b1
    | unknown b1 b2 => cases fi_det a2 b2; rfl
    | loop b1 b2 => cases fi_det a2 b2
    | left b1 b2 => cases fi_det a2 b2
    | ok b1 b2 => cases fi_det a2 b2
  | loop a1 a2 a3 a4 a5 a6 => cases h2 with
    | twice b1 => cases ft_det a1 b1
    | unknown b1 b2 => cases fi_det a2 b2
    | loop b1 b2 b3 b4 b5 b6 => cases e_det a3 a4 a5 b3 b4 b5; cases fi_det a6 b6; rfl
    | left b1 b2 b3 b4 b5 b6 => cases e_det a3 a4 a5 b3 b4 b5; cases fi_det a6 b6
    | ok b1 b2 b3 b4 b5 b6 => cases e_det a3 a4 a5 b3 b4 b5; cases fi_det a6 b6
  | left a1 a2 a3 a4 a5 a6 a7 => cases h2 with
    | twice b1 => cases ft_det a1 b1
    | unknown b1 b2 => cases fi_det a2 b2
    | loop b1 b2 b3 b4 b5 b6 => cases e_det a3 a4 a5 b3 b4 b5; cases fi_det a6 b6
    | left b1 b2 b3 b4 b5 b6 b7 => cases e_det a3 a4 a5 b3 b4 b5; cases lf_det a7 b7; rfl
    | ok b1 b2 b3 b4 b5 b6 b7 => cases e_det a3 a4 a5 b3 b4 b5; cases lf_det a7 b7
  | ok a1 a2 a3 a4 a5 a6 a7 => cases h2 with
    | twice b1 => cases ft_det a1 b1
    | unknown b1 b2 => cases fi_det a2 b2
    | loop b1 b2 b3 b4 b5 b6 => cases e_det a3 a4 a5 b3 b4 b5; cases fi_det a6 b6
    | left b1 b2 b3 b4 b5 b6 b7 => cases e_det a3 a4 a5 b3 b4 b5; cases lf_det a7 b7
    | ok b1 b2 b3 b4 b5 b6 b7 => cases e_det a3 a4 a5 b3 b4 b5; rfl

theorem PRead.det {l : List UInt8} {r1 r2 : Except (Nat × Nat) (List Rule)} (h1 : PRead l r1) (h2 : PRead l r2) : r1 = r2 := by
  cases h1 with
  | long a => cases h2 with
    | long b => rfl
    | read b _ => omega
  | read a a2 => cases h2 with
    | long b => omega
    | read b b2 => exact PGram.det a2 b2

theorem PAll.det {l : List UInt8} {r1 r2 : Except (Nat × Nat) (List Rule × List Bool)} (h1 : PAll l r1) (h2 : PAll l r2) : r1 = r2 := by
  cases h1 with
  | text a => cases h2 with
    | text b => have := PRead.det a b; cases this; rfl
    | rules b _ => have := PRead.det a b; cases this
    | ok b _ => have := PRead.det a b; cases this
  | rules a a2 => cases h2 with
    | text b => have := PRead.det a b; cases this
    | rules b b2 => have := PRead.det a b; cases this; have := PLook.det a2 b2; cases this; rfl
    | ok b b2 => have := PRead.det a b; cases this; have := PLook.det a2 b2; cases this
  | ok a a2 => cases h2 with
    | text b => have := PRead.det a b; cases this
    | rules b b2 => have := PRead.det a b; cases this; have := PLook.det a2 b2; cases this
    | ok b b2 => have := PRead.det a b; cases this; have := PLook.det a2 b2; cases this; rfl

/-- The loop of left: what is to be done, what has been seen. -/
structure LeftInv (M : Mat) (n rule : Nat) (todo : List Nat) (seen : List Bool) : Prop where
  len : seen.length = n
  reach : ∀ j ∈ todo, Wm M n rule j = true ∧ j < n
  first : ∀ k, M rule k = true → k ∈ todo ∨ seen.getD k false = true
  shut : ∀ j k, seen.getD j false = true → M j k = true → k ∈ todo ∨ seen.getD k false = true
  other : seen.getD rule false = false

theorem LeftInv.start {M : Mat} {n rule : Nat} {todo : List Nat} (h1 : ∀ k, M rule k = true ↔ k ∈ todo) (h2 : ∀ k ∈ todo, k < n) : LeftInv M n rule todo (List.replicate n false) := by
  have hz : ∀ j, (List.replicate n false).getD j false = false := by
    intro j
    rw [List.getD_eq_getElem?_getD, List.getElem?_replicate]; split <;> rfl
  exact ⟨by simp, fun j hj => ⟨Wm_base M n _ _ ((h1 j).2 hj), h2 j hj⟩, fun k hk => .inl ((h1 k).1 hk), fun j k hj => (by rw [hz j] at hj; cases hj), hz _⟩

theorem LeftInv.done {M : Mat} {n rule : Nat} {seen : List Bool} (h : LeftInv M n rule [] seen) : Wm M n rule rule = false := by
  cases hw : Wm M n rule rule with
  | false => rfl
  | true =>
    have := Wm_shut M (fun j => seen.getD j false = true) (fun j k hj hk => (h.shut j k hj hk).resolve_left (by simp)) n rule rule (fun k hk => (h.first k hk).resolve_left (by simp)) hw
    rw [h.other] at this; cases this

theorem LeftInv.skip {M : Mat} {n rule k : Nat} {todo : List Nat} {seen : List Bool} (h : LeftInv M n rule (k :: todo) seen) (hs : seen.getD k false = true) : LeftInv M n rule todo seen := by
  refine ⟨h.len, fun j hj => h.reach j (by simp [hj]), ?_, ?_, h.other⟩
  · intro j hj
    rcases h.first j hj with h1 | h1
    · rcases List.mem_cons.1 h1 with h1 | h1
      · subst h1; exact .inr hs
      · exact .inl h1
    · exact .inr h1
  · intro i j hi hj
    rcases h.shut i j hi hj with h1 | h1
    · rcases List.mem_cons.1 h1 with h1 | h1
      · subst h1; exact .inr hs
      · exact .inl h1
    · exact .inr h1

theorem getD_set_true (seen : List Bool) (k j : Nat) (hk : k < seen.length) : (seen.set k true).getD j false = (decide (j = k) || seen.getD j false) := by
  simp only [List.getD_eq_getElem?_getD, List.getElem?_set]
  by_cases h : k = j
  · subst h; simp [hk]
  · rw [if_neg h]
    have : decide (j = k) = false := by simpa using fun e => h e.symm
    rw [this]; simp

theorem LeftInv.step {M : Mat} {n rule k : Nat} {todo next : List Nat} {seen : List Bool} (h : LeftInv M n rule (k :: todo) seen) (hne : k ≠ rule) (h1 : ∀ j, M k j = true ↔ j ∈ next) (h2 : ∀ j ∈ next, j < n) : LeftInv M n rule (todo ++ next) (seen.set k true) := by
  have hk := h.reach k (by simp)
  have hkl : k < seen.length := by rw [h.len]; exact hk.2
  refine ⟨by simp [h.len], ?_, ?_, ?_, ?_⟩
  · intro j hj
    rcases List.mem_append.1 hj with hj | hj
    · exact h.reach j (by simp [hj])
    · exact ⟨Wm_step M n k rule j hk.2 hk.1 ((h1 j).2 hj), h2 j hj⟩
  · intro j hj
    rw [getD_set_true _ _ _ hkl]
    rcases h.first j hj with h3 | h3
    · rcases List.mem_cons.1 h3 with h3 | h3
      · subst h3; right; simp
      · left; simp [h3]
    · right; simp only [h3, Bool.or_true]
  · intro i j hi hj
    rw [getD_set_true _ _ _ hkl] at hi ⊢
    by_cases hik : i = k
    · subst hik
      left; exact List.mem_append_right _ ((h1 j).1 hj)
    · rcases h.shut i j (by simpa [hik] using hi) hj with h3 | h3
      · rcases List.mem_cons.1 h3 with h3 | h3
        · subst h3; right; simp
        · left; simp [h3]
      · right; simp only [h3, Bool.or_true]
  · rw [getD_set_true _ _ _ hkl, h.other]
    simpa using fun e => hne e.symm

/-- How many are not seen. -/
def unseen (seen : List Bool) : Nat := (seen.filter (!·)).length

theorem unseen_set : ∀ (seen : List Bool) (k : Nat), k < seen.length → seen.getD k false = false → unseen (seen.set k true) + 1 = unseen seen
  | [], k, h, _ => by simp at h
  | b :: s, 0, _, h => by
    simp at h
    subst h; simp [unseen]
  | b :: s, k + 1, h, h' => by
    have := unseen_set s k (by simpa using h) (by simpa using h')
    unfold unseen at this ⊢
    cases b <;> simp at this ⊢ <;> omega

theorem all_bounded {α : Type} (f : α → Nat) : ∀ l : List α, ∃ K, ∀ x ∈ l, f x ≤ K
  | [] => ⟨0, by simp⟩
  | x :: l => by
    obtain ⟨K, h⟩ := all_bounded f l
    refine ⟨K + f x, ?_⟩
    intro y hy
    rcases List.mem_cons.1 hy with rfl | hy
    · omega
    · have := h y hy; omega
end Go.Proofs.YtjmcdklhaieldaaGreatDoor
namespace Thk

mutual
/-- How many names there are. -/
def ncP : Piece → Nat
  | .name _ => 1
  | .group c => ncC c
  | _ => 0
def ncT : Term → Nat
  | .mk _ p _ => ncP p
def ncS : List Term → Nat
  | [] => 0
  | t :: s => ncT t + ncS s
def ncC : List (List Term) → Nat
  | [] => 0
  | s :: c => ncS s + ncC c
 end

mutual
theorem first_ncP (E : Bytes → Bool) : ∀ p : Piece, (firstP E p).length ≤ ncP p
  | .name _ => by simp [firstP, ncP]
  | .lit _ => by simp [firstP]
  | .cls _ => by simp [firstP]
  | .any => by simp [firstP]
  | .group c => by simp only [firstP, ncP]; exact first_ncC E c
theorem first_ncT (E : Bytes → Bool) : ∀ t : Term, (firstT E t).length ≤ ncT t
  | .mk _ p _ => by simp only [firstT, ncT]; exact first_ncP E p
theorem first_ncS (E : Bytes → Bool) : ∀ s : List Term, (firstS E s).length ≤ ncS s
  | [] => by simp [firstS]
  | t :: s => by
    have h1 := first_ncT E t
    have h2 := first_ncS E s
    simp only [firstS, ncS, List.length_append]
    split
    · omega
    · simp; omega
theorem first_ncC (E : Bytes → Bool) : ∀ c : List (List Term), (firstC E c).length ≤ ncC c
  | [] => by simp [firstC]
  | s :: c => by
    have h1 := first_ncS E s
    have h2 := first_ncC E c
    simp only [firstC, ncC, List.length_append]
    omega
 end

theorem ahead_len (ts : List Tok) : (aheadOf ts).2.length ≤ ts.length := by
  unfold aheadOf
  repeat' split
  all_goals simp
theorem behind_len (ts : List Tok) : (behindOf ts).2.length ≤ ts.length := by
  unfold behindOf
  repeat' split
  all_goals simp

def LP1 (ts : List Tok) (r : Res Piece) : Prop := ∀ p rest, r = .ok p rest → ncP p + rest.length ≤ ts.length
def LP2 (ts : List Tok) (r : Res Term) : Prop := ∀ p rest, r = .ok p rest → ncT p + rest.length ≤ ts.length
def LP3 (ts : List Tok) (r : Res Seq) : Prop := ∀ p rest, r = .ok p rest → ncS p + rest.length ≤ ts.length
def LP4 (ts : List Tok) (r : Res Choice) : Prop := ∀ p rest, r = .ok p rest → ncC p + rest.length ≤ ts.length

theorem lp_plain {ts : List Tok} {p : Piece} (h : plainPiece (hd ts) = some p) : LP1 ts (.ok p ts.tail) := by
  intro p' rest e
  cases e
  cases ts with
  | nil => simp [hd, plainPiece, badT] at h
  | cons t ts =>
    simp only [hd, List.headD_cons] at h
    unfold plainPiece at h
    split at h
    · cases h; simp [ncP]; omega
    · cases h; simp [ncP]
    · cases h; simp [ncP]
    · split at h
      · cases h; simp [ncP]
      · cases h
    · cases h

theorem PChoice.nc {d : Nat} {ts : List Tok} {c : Choice} {rest : List Tok} (h : PChoice d ts (.ok c rest)) : ncC c + rest.length ≤ ts.length := by
  refine (PChoice.rec (motive_1 := fun _ ts r _ => LP1 ts r) (motive_2 := fun _ ts r _ => LP2 ts r) (motive_3 := fun _ ts r _ => LP3 ts r) (motive_4 := fun _ ts r _ => LP4 ts r) ?_ ?_ ?_ ?_ ?_ ?_ ?_ ?_ ?_ ?_ ?_ ?_ ?_ ?_ ?_ ?_ h : LP4 ts (.ok c rest)) c rest rfl
  · intro d ts p h; exact lp_plain h
  · intro d ts h h' p rest e; cases e
  · intro ts h p rest e; cases e
  · intro d ts c rest h1 h2 h3 h4 ih p rest' e
    cases e
    have := ih _ _ rfl
    simp only [ncP, List.length_tail] at this ⊢
    omega
  · intros; intro p rest e; cases e
  · intros; intro p rest e; cases e
  · intro d ts p rest h ih t rest' e
    cases e
    have := ih _ _ rfl
    have h1 := ahead_len ts
    have h2 := behind_len rest
    simp only [ncT]
    omega
  · intros; intro p rest e; cases e
  · intro d ts h p rest e
    cases e
    simp [ncS]
  · intro d ts t rest s rest' h1 h2 h3 ih1 ih2 p r e
    cases e
    have := ih1 _ _ rfl
    have := ih2 _ _ rfl
    simp only [ncS]
    omega
  · intros; intro p rest e; cases e
  · intros; intro p rest e; cases e
  · intro d ts s rest h1 h2 ih p r e
    cases e
    have := ih _ _ rfl
    simp only [ncC]
    omega
  · intro d ts s rest c rest' h1 h2 h3 ih1 ih2 p r e
    cases e
    have := ih1 _ _ rfl
    have := ih2 _ _ rfl
    simp only [ncC, List.length_tail] at *
    omega
  · intros; intro p rest e; cases e
  · intros; intro p rest e; cases e

theorem PRule.nc {n : Nat} {ts : List Tok} {r : Rule} {rest : List Tok} (h : PRule n ts (.ok r rest)) : ncC r.choice ≤ ts.length ∧ rest.length ≤ ts.length := by
  cases h with
  | ok _ _ _ hc =>
    have := hc.nc
    simp only [List.length_tail] at this
    simp only []
    omega

theorem PGram.nc {n : Nat} {ts : List Tok} {g : List Rule} (h : PGram n ts (.ok g)) : ∀ r ∈ g, ncC r.choice ≤ ts.length := by
  generalize hres : (Except.ok g : Except (Nat × Nat) (List Rule)) = res at h
  induction h generalizing g with
  | last hr hk =>
    cases hres
    intro r hr'
    simp only [List.mem_singleton] at hr'
    subst hr'; exact hr.nc.1
  | more hr hk _ ih =>
    cases hres
    intro r hr'
    rcases List.mem_cons.1 hr' with rfl | hr'
    · exact hr.nc.1
    · have := ih rfl r hr'
      have := hr.nc.2
      omega
  | err hr => cases hres
  | later _ _ _ _ => cases hres

theorem toksF_len : ∀ (f pos : Nat) (l : Bytes), (toksF f pos l).length ≤ f
  | 0, _, _ => by simp [toksF]
  | f + 1, pos, l => by
    simp only [toksF, List.length_cons]
    split
    · simp
    · have := toksF_len f (pos + blk false l + (tokL (l.drop (blk false l))).size) ((l.drop (blk false l)).drop (tokL (l.drop (blk false l))).size)
      omega

theorem toks_len (l : Bytes) : (toks l).length ≤ l.length + 1 := toksF_len _ _ _
end Thk
namespace Go.Proofs.YtjmcdklhaieldaaGreatDoor
open Thk

/-- The lists of the parts, one behind the other; of a sequence up to the first that takes something. -/
def joinF (sq : Bool) : List (List Nat) → List Bool → List Nat
  | f :: fs, b :: bs => f ++ (if sq && !b then [] else joinF sq fs bs)
  | _, _ => []

structure StepF (xs : List RE) (names : List Bytes) (l : List Bool) (R : Nat → List Nat → Prop) : Prop where
  name : ∀ k e, xs[k]? = some e → e.kind = 4 → names.contains e.text = true → R k [idx0 names e.text]
  other : ∀ k e fs, xs[k]? = some e → e.kind ≠ 4 → AllR R e.parts fs → (joinF (e.kind == 5) fs (e.parts.map fun p => l.getD p false)).length ≤ 100000 → R k (joinF (e.kind == 5) fs (e.parts.map fun p => l.getD p false))

mutual
theorem fiP {xs : List RE} {names : List Bytes} {E l : List Bool} {R : Nat → List Nat → Prop} (hl : LP xs names E l) (hR : StepF xs names l R) : ∀ (p : Piece) {k : Nat}, DenP xs k p → someP (unkT names) p = false → (∀ b, p = .name b → names.contains b = true) → ncP p ≤ 100000 → R k ((firstP (Eb names E) p).map (idx0 names))
  | .name b, k => by
    intro h _ hn _
    simp only [DenP] at h
    have := hR.name k _ h rfl (hn b rfl)
    simpa [firstP] using this
  | .lit b, k => by
    intro h _ _ _
    simp only [DenP] at h
    have := hR.other k _ [] h (by simp) trivial (by simp [joinF])
    simpa [firstP, joinF] using this
  | .cls b, k => by
    intro h _ _ _
    simp only [DenP] at h
    have := hR.other k _ [] h (by simp) trivial (by simp [joinF])
    simpa [firstP, joinF] using this
  | .any, k => by
    intro h _ _ _
    simp only [DenP] at h
    have := hR.other k _ [] h (by simp) trivial (by simp [joinF])
    simpa [firstP, joinF] using this
  | .group c, k => by
    intro h hu _ hb
    simp only [DenP] at h
    obtain ⟨qs, h1, h2⟩ := h
    simp only [someP] at hu
    simp only [ncP] at hb
    obtain ⟨fs, h3, h4⟩ := fiC hl hR c h2 hu hb
    have hbb := first_ncC (Eb names E) c
    have := hR.other k _ fs h1 (by simp) h3 (by rw [show (((⟨6, [], [], 0, qs⟩ : RE).kind) == 5) = false from rfl, h4, List.length_map]; omega)
    rw [show ((6 : Nat) == 5) = false from rfl, h4] at this
    simpa [firstP] using this
theorem fiT {xs : List RE} {names : List Bytes} {E l : List Bool} {R : Nat → List Nat → Prop} (hl : LP xs names E l) (hR : StepF xs names l R) : ∀ (t : Term) {k : Nat}, DenT xs k t → someT (unkT names) t = false → ncT t ≤ 100000 → R k ((firstT (Eb names E) t).map (idx0 names))
  | .mk a p b, k => by
    intro h hu hb
    simp only [DenT] at h
    obtain ⟨i, j, h1, h2, h3, h4, h5⟩ := h
    simp only [ncT] at hb
    have hbb := first_ncP (Eb names E) p
    have hj := fiP hl hR p h3 (free_name hu).1 (free_name hu).2 hb
    have hi : R i ((firstP (Eb names E) p).map (idx0 names)) := by
      by_cases hb0 : b = 0
      · rw [if_pos hb0] at h2
        subst h2; exact hj
      · rw [if_neg hb0] at h2
        have hs : sgnKind [b] ≠ 4 ∧ sgnKind [b] ≠ 5 := by unfold sgnKind; (repeat' split) <;> simp
        have h5' : ((wrapE (sgnKind [b]) j).kind == 5) = false := by simpa [wrapE] using hs.2
        have := hR.other i _ [_] h2 hs.1 ⟨hj, trivial⟩ (by rw [h5']; simp [joinF, wrapE]; omega)
        rw [h5'] at this
        simpa [joinF, wrapE] using this
    simp only [firstT]
    by_cases ha : a = 0
    · rw [if_pos ha] at h1
      subst h1; exact hi
    · rw [if_neg ha] at h1
      have hs : sgnKind [a] ≠ 4 ∧ sgnKind [a] ≠ 5 := by unfold sgnKind; (repeat' split) <;> simp
      have h5' : ((wrapE (sgnKind [a]) i).kind == 5) = false := by simpa [wrapE] using hs.2
      have := hR.other k _ [_] h1 hs.1 ⟨hi, trivial⟩ (by rw [h5']; simp [joinF, wrapE]; omega)
      rw [h5'] at this
      simpa [joinF, wrapE] using this
theorem fiS {xs : List RE} {names : List Bytes} {E l : List Bool} {R : Nat → List Nat → Prop} (hl : LP xs names E l) (hR : StepF xs names l R) : ∀ (s : List Term) {ks : List Nat}, DenS xs ks s → someS (unkT names) s = false → ncS s ≤ 100000 → ∃ fs, AllR R ks fs ∧ joinF true fs (ks.map fun p => l.getD p false) = (firstS (Eb names E) s).map (idx0 names)
  | [], ks => by
    intro h _ _
    simp only [DenS] at h
    subst h
    exact ⟨[], trivial, by simp [firstS, joinF]⟩
  | t :: s, ks => by
    intro h hu hb
    simp only [ncS] at hb
    simp only [DenS] at h
    obtain ⟨k, ks', rfl, h1, h2⟩ := h
    simp only [someS, Bool.or_eq_false_iff] at hu
    obtain ⟨fs, h3, h4⟩ := fiS hl hR s h2 hu.2 (by omega)
    refine ⟨_ :: fs, ⟨fiT hl hR t h1 hu.1 (by omega), h3⟩, ?_⟩
    have hk := hl.2 k t h1 hu.1
    simp only [List.map_cons, joinF, firstS, hk, h4, List.map_append]
    cases emptyT (Eb names E) t <;> simp
theorem fiC {xs : List RE} {names : List Bytes} {E l : List Bool} {R : Nat → List Nat → Prop} (hl : LP xs names E l) (hR : StepF xs names l R) : ∀ (c : List (List Term)) {qs : List Nat}, DenC xs qs c → someC (unkT names) c = false → ncC c ≤ 100000 → ∃ fs, AllR R qs fs ∧ joinF false fs (qs.map fun p => l.getD p false) = (firstC (Eb names E) c).map (idx0 names)
  | [], qs => by
    intro h _ _
    simp only [DenC] at h
    subst h
    exact ⟨[], trivial, by simp [firstC, joinF]⟩
  | s :: c, qs => by
    intro h hu hb
    simp only [ncC] at hb
    have hbb := first_ncS (Eb names E) s
    simp only [DenC] at h
    obtain ⟨q, qs', ks, rfl, h1, h2, h3⟩ := h
    simp only [someC, Bool.or_eq_false_iff] at hu
    obtain ⟨fs, h4, h5⟩ := fiS hl hR s h2 hu.1 (by omega)
    obtain ⟨gs, h6, h7⟩ := fiC hl hR c h3 hu.2 (by omega)
    have hq := hR.other q _ fs h1 (by simp) h4 (by rw [show (((⟨5, [], [], 0, ks⟩ : RE).kind) == 5) = true from rfl, h5, List.length_map]; omega)
    rw [show ((5 : Nat) == 5) = true from rfl, h5] at hq
    refine ⟨_ :: gs, ⟨hq, h6⟩, ?_⟩
    simp only [List.map_cons, joinF, firstC, Bool.false_and, h7, List.map_append]
    simp
 end

end Go.Proofs.YtjmcdklhaieldaaGreatDoor
namespace Thk

theorem PRule.num {n : Nat} {ts : List Tok} {r : Rule} {rest : List Tok} (h : PRule n ts (.ok r rest)) : n ≠ 20 := by
  cases h with
  | ok _ _ hn _ => exact hn

theorem PGram.len {n : Nat} {ts : List Tok} {g : List Rule} (h : PGram n ts (.ok g)) (hn : n ≤ 20) : g ≠ [] ∧ n + g.length ≤ 20 := by
  generalize hres : (Except.ok g : Except (Nat × Nat) (List Rule)) = res at h
  induction h generalizing g with
  | last hr hk =>
    cases hres
    have := hr.num
    exact ⟨by simp, by simp; omega⟩
  | more hr hk _ ih =>
    cases hres
    have h1 := hr.num
    have h2 := ih (by omega) rfl
    refine ⟨by simp, ?_⟩
    have := h2.2
    simp only [List.length_cons]
    omega
  | err hr => cases hres
  | later _ _ _ _ => cases hres

theorem term_len (S : ST) (k : Nat) (sg : Bytes) : (S.term k sg).xs.length ≤ S.xs.length + 1 := by
  rw [term_xs]; split <;> simp
theorem lay_len (S : ST) (e : RE) : (S.lay e).xs.length ≤ S.xs.length + 2 := by
  unfold ST.lay
  refine Nat.le_trans (term_len _ _ _) ?_
  simp [ST.add]
theorem behind_xlen (S : ST) (b : Bytes) : (S.behind b).xs.length ≤ S.xs.length + 1 := by
  unfold ST.behind
  simp only []
  split <;> simp [ST.add, ST.setTop]
theorem rule_len (S : ST) : S.rule.xs.length ≤ S.xs.length + 2 := by
  unfold ST.rule
  split
  · omega
  · simp only [closed_len]; omega
theorem begin_len (S : ST) (b : Bytes) : (S.begin b).xs.length ≤ S.xs.length + 2 := rule_len S

theorem signs_len {S S' : ST} {c : UInt8} (hs : S.signs c = .ok S') : S'.xs.length ≤ S.xs.length + 3 := by
  unfold ST.signs at hs
  repeat' split at hs
  all_goals first
    | cases hs; done
    | (cases hs; simp only [slash_len]; omega)
    | (cases hs; simp only []; omega)
    | (cases hs; have := behind_xlen S [c]; omega)
    | (cases hs; have := term_len S.closed (S.xs.length + 1) S.top.sign; rw [closed_len] at this; omega)
    | (cases hs; have := lay_len S ⟨3, [], [], 0, []⟩; omega)

theorem run_len : ∀ (n : Nat) (ts : List Tok), ts.length ≤ n → ∀ S S', run ts S = .ok S' → S'.xs.length ≤ S.xs.length + 3 * n := by
  intro n
  induction n with
  | zero =>
    intro ts hl S S' hr
    have : ts = [] := List.length_eq_zero_iff.1 (by omega)
    subst this
    simp [run] at hr
  | succ n ih =>
    intro ts hl S S' hr
    cases ts with
    | nil => simp [run] at hr
    | cons t rest =>
      simp at hl
      rw [run.eq_def] at hr
      simp only [] at hr
      cases hk : t.kind with
      | bad => simp only [hk] at hr; cases hr
      | fin =>
        simp only [hk] at hr
        split at hr
        · cases hr
        · cases hr; have := rule_len S; omega
      | arrow => simp only [hk] at hr; cases hr
      | sign c =>
        simp only [hk] at hr
        split at hr
        · cases hr
        · split at hr
          · cases hr
          · rename_i S1 hs
            have h1 := signs_len hs
            have := ih rest hl S1 S' hr
            omega
      | lit =>
        simp only [hk] at hr
        split at hr
        · cases hr
        · have h1 := lay_len S (exprOf t)
          have := ih rest hl _ S' hr
          omega
      | cls =>
        simp only [hk] at hr
        split at hr
        · cases hr
        · have h1 := lay_len S (exprOf t)
          have := ih rest hl _ S' hr
          omega
      | name =>
        simp only [hk] at hr
        cases rest with
        | nil => simp at hr
        | cons m rest' =>
          simp only [] at hr
          simp at hl
          split at hr
          · split at hr
            · cases hr
            · split at hr
              · cases hr
              · have h1 := begin_len S t.text
                have := ih rest' (by omega) _ S' hr
                omega
          · split at hr
            · cases hr
            · have h1 := lay_len S (exprOf t)
              have := ih (m :: rest') (by simp; omega) _ S' hr
              omega
end Thk
namespace Go.Proofs.YtjmcdklhaieldaaGreatDoor
open Thk

theorem Wf_TL : ∀ (n : Nat) (l : List UInt8) (pos : Nat), l.length ≤ n → Wf (TL pos l) := by
  intro n
  induction n with
  | zero =>
    intro l pos hl
    have : l = [] := List.length_eq_zero_iff.1 (by omega)
    subst this
    refine ⟨by intro c h; simp [Thk.tokL, Thk.blk] at h, ?_⟩
    simp [Thk.tokL, Thk.blk, TK.last]
  | succ n ih =>
    intro l pos hl
    rw [TL_eq]
    refine ⟨?_, ?_⟩
    · intro c hc
      have := tokL_ok (l.drop (blk false l))
      have e : (tokL (l.drop (blk false l))).kind = (tokAt pos l).kind := rfl
      rw [e, hc] at this
      exact this
    · cases hk : (tokAt pos l).kind.last with
      | true => simp
      | false =>
        simp only [Bool.false_eq_true, if_false]
        refine ih _ _ ?_
        have hs := tokL_size (l.drop (blk false l)) hk
        have e : (tokAt pos l).size = (tokL (l.drop (blk false l))).size := rfl
        rw [List.length_drop] at hs ⊢
        omega

theorem DenR.names {xs : List RE} : ∀ (rs : List (Bytes × Nat)) (g : List Rule), DenR xs rs g → rs.map (·.1) = namesOf g
  | [], [] => fun _ => rfl
  | x :: rs, r :: g => fun ⟨h1, _, h3⟩ => by
    have := DenR.names rs g h3
    simp only [List.map_cons, namesOf] at this ⊢
    rw [h1, this]
  | [], _ :: _ => fun h => h.elim
  | _ :: _, [] => fun h => h.elim

/-- What is known of the grammar that is read. -/
structure RdOk (g : List Rule) (S : ST) : Prop where
  den : DenR S.xs S.rs g
  wx : Wx S
  bd : ∀ r ∈ S.rs, r.2 < S.xs.length
  len : S.xs.length ≤ 10000
  ne : g ≠ []
  le : g.length ≤ 20
  nc : ∀ r ∈ g, ncC r.choice ≤ 2001

theorem read_ok {l : List UInt8} {g : List Rule} (h : PRead l (.ok g)) : l.length ≤ 2000 ∧ ∃ S', run (TL 0 l) S0 = .ok S' ∧ RdOk g S' := by
  cases h with
  | read hl hp =>
    obtain ⟨S', h1, h2⟩ := gram_sim hp S0 [] (.inl ⟨rfl, rfl, rfl, by rw [toks_TL]; exact Wf_TL _ l 0 (Nat.le_refl _)⟩) (by omega) (by simp)
    rw [toks_TL] at h1
    have hl2 := toks_len l
    rw [toks_TL] at hl2
    obtain ⟨w1, w2⟩ := run_wx _ (TL 0 l) (Nat.le_refl _) _ _ Wx.zero h1
    have h3 := run_len _ (TL 0 l) hl2 _ _ h1
    have h4 := hp.len (by omega)
    simp only [List.nil_append] at h2
    refine ⟨hl, S', h1, h2, w1, w2, by simp [S0] at h3; omega, h4.1, by omega, fun r hr => ?_⟩
    have := hp.nc r hr
    rw [toks_TL] at this
    omega

theorem read_err {l : List UInt8} {x : Nat × Nat} (h : PRead l (.error x)) : (2000 < l.length ∧ x = (1, 0)) ∨ (l.length ≤ 2000 ∧ run (TL 0 l) S0 = .error x) := by
  cases h with
  | long hl => exact .inl ⟨hl, rfl⟩
  | read hl hp =>
    have h1 := gram_sim hp S0 [] (.inl ⟨rfl, rfl, rfl, by rw [toks_TL]; exact Wf_TL _ l 0 (Nat.le_refl _)⟩) (by omega) (by simp)
    exact .inr ⟨hl, by rw [← toks_TL]; exact h1⟩
end Go.Proofs.YtjmcdklhaieldaaGreatDoor
namespace Thk

theorem Wf.tail {t : Tok} {r : List Tok} (h : Wf (t :: r)) (hl : t.kind.last = false) : Wf r := by
  have := h.2; rw [if_neg (by simp [hl])] at this; exact this

theorem run_err : ∀ (n : Nat) (ts : List Tok), ts.length ≤ n → Wf ts → ∀ S x, run ts S = .error x → x.1 ≠ 0 := by
  intro n
  induction n with
  | zero =>
    intro ts hl hw
    have : ts = [] := List.length_eq_zero_iff.1 (by omega)
    subst this
    exact hw.elim
  | succ n ih =>
    intro ts hl hw S x hr
    cases ts with
    | nil => exact hw.elim
    | cons t rest =>
      simp at hl
      rw [run.eq_def] at hr
      simp only [] at hr
      cases hk : t.kind with
      | bad => simp only [hk] at hr; cases hr; simp
      | fin =>
        simp only [hk] at hr
        split at hr
        · cases hr; simp
        · cases hr
      | arrow => simp only [hk] at hr; cases hr; simp
      | sign c =>
        simp only [hk] at hr
        split at hr
        · cases hr; simp
        · split at hr
          · rename_i er hs
            cases hr
            have := signs_err hs
            simp only []
            omega
          · rename_i S1 hs
            exact ih rest hl (hw.tail (by rw [hk]; rfl)) S1 x hr
      | lit =>
        simp only [hk] at hr
        split at hr
        · cases hr; simp
        · exact ih rest hl (hw.tail (by rw [hk]; rfl)) _ x hr
      | cls =>
        simp only [hk] at hr
        split at hr
        · cases hr; simp
        · exact ih rest hl (hw.tail (by rw [hk]; rfl)) _ x hr
      | name =>
        simp only [hk] at hr
        have hw1 := hw.tail (by rw [hk]; rfl)
        cases rest with
        | nil => exact hw1.elim
        | cons m rest' =>
          simp only [] at hr
          simp at hl
          split at hr
          · rename_i ha
            split at hr
            · cases hr; simp
            · split at hr
              · cases hr; simp
              · have hm : m.kind.last = false := by
                  cases hmk : m.kind <;> simp [hmk, TK.isArrow] at ha <;> rfl
                exact ih rest' (by omega) (hw1.tail hm) _ x hr
          · split at hr
            · cases hr; simp
            · exact ih (m :: rest') (by simp; omega) hw1 _ x hr
end Thk
namespace Go.Proofs.YtjmcdklhaieldaaGreatDoor
open Thk
theorem read_err0 {l : List UInt8} {x : Nat × Nat} (h : PRead l (.error x)) : x.1 ≠ 0 := by
  rcases read_err h with ⟨_, rfl⟩ | ⟨_, h1⟩
  · simp
  · exact run_err _ _ (Nat.le_refl _) (Wf_TL _ l 0 (Nat.le_refl _)) _ _ h1

theorem twice_iff {names : List Bytes} {i : Nat} (hi : i < names.length) : twiceAt names i = true ↔ ∃ k, ∃ h : k < i, names[k]'(by omega) = names[i] := by
  unfold twiceAt
  rw [List.contains_iff_mem, List.getD_eq_getElem?_getD, List.getElem?_eq_getElem hi, Option.getD_some, List.mem_iff_getElem]
  constructor
  · rintro ⟨k, hk, h⟩
    rw [List.length_take] at hk
    exact ⟨k, by omega, by simpa using h⟩
  · rintro ⟨k, hk, h⟩
    exact ⟨k, by simp; omega, by simpa using h⟩
end Go.Proofs.YtjmcdklhaieldaaGreatDoor
