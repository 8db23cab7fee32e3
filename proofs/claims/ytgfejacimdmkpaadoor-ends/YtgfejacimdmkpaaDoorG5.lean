import Derived.Test.YtgfejacimdmkpaaDoorG4
set_option linter.all false
namespace Go.Proofs.YtgfejacimdmkpaaDoor
open Go.RowKit

def faultV (er p : Nat) : Value := .iface 54 (.agg #[.int .i64 er, .int .i64 p])

/-- A row of cells, in a block that may be. -/
def Row (w : World) (A : Nat → Prop) (e : TypeId) (sz : Nat) (v : Value) (n : Nat) (xs : List Value) : Prop := w.ownsRow 0 e sz v n xs ∧ ∀ g, v.ownBlock = some g → A g

theorem Row.mono {w : World} {A A' : Nat → Prop} {e : TypeId} {sz : Nat} {v : Value} {n : Nat} {xs : List Value} (h : Row w A e sz v n xs) (hA : ∀ g, g < w.heap.size → A g → A' g) : Row w A' e sz v n xs :=
  ⟨h.1, fun g hg => hA g (h.1.lt g hg).2 (h.2 g hg)⟩

theorem own_blocks {w w' : World} {base : Nat} {e : TypeId} {size : Nat} {v : Value} {n : Nat} {xs : List Value} (h : w.ownsRow base e size v n xs) (hb : ∀ g, v.ownBlock = some g → w'.heap[g]? = w.heap[g]?) : w'.ownsRow base e size v n xs := by
  obtain ⟨h1, h2⟩ := h
  refine ⟨h1, ?_⟩
  rcases h2 with h2 | ⟨g, cap, cur, hv, hg, hh, r⟩
  · exact Or.inl h2
  · refine Or.inr ⟨g, cap, cur, hv, hg, ?_, r⟩
    rw [hb g (by rw [hv]; rfl)]; exact hh

theorem Row.kept {w w' : World} {A : Nat → Prop} {e : TypeId} {sz : Nat} {v : Value} {n : Nat} {xs : List Value} (h : Row w A e sz v n xs) (hb : ∀ g, g < w.heap.size → A g → w'.heap[g]? = w.heap[g]?) : Row w' A e sz v n xs :=
  ⟨own_blocks h.1 (fun g hg => hb g (h.1.lt g hg).2 (h.2 g hg)), h.2⟩

def termC : List Thk.Term → List Value → List Value
  | .mk a _ b :: s, v :: vs => .int .u8 a.toNat :: v :: .int .u8 b.toNat :: termC s vs
  | _, _ => []

mutual
def RPiece (w : World) (A : Nat → Prop) : Thk.Piece → Value → Prop
  | .name b, v => v = .iface 102 (.agg #[.string ⟨b.toArray⟩]) ∧ b.length ≤ 2000
  | .lit b, v => v = .iface 156 (.agg #[.string ⟨b.toArray⟩])
  | .cls l, v => ∃ u, v = .iface 158 (.agg #[u]) ∧ Spans w 0 u l
  | .any, v => v = .iface 160 (.agg #[])
  | .group c, v => ∃ u us, v = .iface 135 (.agg #[u]) ∧ Row w A 133 1 u c.length us ∧ RSeqs w A c us
def RTerm (w : World) (A : Nat → Prop) : Thk.Term → Value → Prop
  | .mk _ p _, v => RPiece w A p v
def RTerms (w : World) (A : Nat → Prop) : List Thk.Term → List Value → Prop
  | [], vs => vs = []
  | t :: s, vs => ∃ v vs', vs = v :: vs' ∧ RTerm w A t v ∧ RTerms w A s vs'
def RSeqs (w : World) (A : Nat → Prop) : List (List Thk.Term) → List Value → Prop
  | [], us => us = []
  | s :: c, us => ∃ u us', us = u :: us' ∧ (∃ vs, Row w A 100 3 u s.length (termC s vs) ∧ RTerms w A s vs) ∧ RSeqs w A c us'
 end

def RSeq (w : World) (A : Nat → Prop) (s : Thk.Seq) (u : Value) : Prop := ∃ vs, Row w A 100 3 u s.length (termC s vs) ∧ RTerms w A s vs
def RChoice (w : World) (A : Nat → Prop) (c : Thk.Choice) (u : Value) : Prop := ∃ us, Row w A 133 1 u c.length us ∧ RSeqs w A c us

/-- What is asked of a world that stands for another: the spans' rows, and the blocks that may be, are as they were. -/
structure Sm (A : Nat → Prop) (w w' : World) : Prop where
  spans : ∀ u l, Spans w 0 u l → Spans w' 0 u l
  blocks : ∀ g, g < w.heap.size → A g → w'.heap[g]? = w.heap[g]?

mutual
theorem RPiece.kept {w w' : World} {A : Nat → Prop} (h : Sm A w w') : ∀ (p : Thk.Piece) (v : Value), RPiece w A p v → RPiece w' A p v
  | .name _, _, hp => by simp only [RPiece] at hp ⊢; exact hp
  | .lit _, _, hp => by simp only [RPiece] at hp ⊢; exact hp
  | .cls _, _, hp => by
    simp only [RPiece] at hp ⊢
    obtain ⟨u, hv, hs⟩ := hp
    exact ⟨u, hv, h.spans _ _ hs⟩
  | .any, _, hp => by simp only [RPiece] at hp ⊢; exact hp
  | .group c, _, hp => by
    simp only [RPiece] at hp ⊢
    obtain ⟨u, us, hv, hr, hc⟩ := hp
    exact ⟨u, us, hv, hr.kept h.blocks, RSeqs.kept h c us hc⟩
theorem RTerm.kept {w w' : World} {A : Nat → Prop} (h : Sm A w w') : ∀ (t : Thk.Term) (v : Value), RTerm w A t v → RTerm w' A t v
  | .mk _ p _, v, ht => by simp only [RTerm] at ht ⊢; exact RPiece.kept h p v ht
theorem RTerms.kept {w w' : World} {A : Nat → Prop} (h : Sm A w w') : ∀ (s : List Thk.Term) (vs : List Value), RTerms w A s vs → RTerms w' A s vs
  | [], _, hs => by simp only [RTerms] at hs ⊢; exact hs
  | t :: s, _, hs => by
    simp only [RTerms] at hs ⊢
    obtain ⟨v, vs', hv, ht, hs⟩ := hs
    exact ⟨v, vs', hv, RTerm.kept h t v ht, RTerms.kept h s vs' hs⟩
theorem RSeqs.kept {w w' : World} {A : Nat → Prop} (h : Sm A w w') : ∀ (c : List (List Thk.Term)) (us : List Value), RSeqs w A c us → RSeqs w' A c us
  | [], _, hs => by simp only [RSeqs] at hs ⊢; exact hs
  | s :: c, _, hs => by
    simp only [RSeqs] at hs ⊢
    obtain ⟨u, us', hu, ⟨vs, hr, ht⟩, hc⟩ := hs
    exact ⟨u, us', hu, ⟨vs, hr.kept h.blocks, RTerms.kept h s vs ht⟩, RSeqs.kept h c us' hc⟩
 end

mutual
theorem RPiece.mono {w : World} {A A' : Nat → Prop} (h : ∀ g, g < w.heap.size → A g → A' g) : ∀ (p : Thk.Piece) (v : Value), RPiece w A p v → RPiece w A' p v
  | .name _, _, hp => by simp only [RPiece] at hp ⊢; exact hp
  | .lit _, _, hp => by simp only [RPiece] at hp ⊢; exact hp
  | .cls _, _, hp => by simp only [RPiece] at hp ⊢; exact hp
  | .any, _, hp => by simp only [RPiece] at hp ⊢; exact hp
  | .group c, _, hp => by
    simp only [RPiece] at hp ⊢
    obtain ⟨u, us, hv, hr, hc⟩ := hp
    exact ⟨u, us, hv, hr.mono h, RSeqs.mono h c us hc⟩
theorem RTerm.mono {w : World} {A A' : Nat → Prop} (h : ∀ g, g < w.heap.size → A g → A' g) : ∀ (t : Thk.Term) (v : Value), RTerm w A t v → RTerm w A' t v
  | .mk _ p _, v, ht => by simp only [RTerm] at ht ⊢; exact RPiece.mono h p v ht
theorem RTerms.mono {w : World} {A A' : Nat → Prop} (h : ∀ g, g < w.heap.size → A g → A' g) : ∀ (s : List Thk.Term) (vs : List Value), RTerms w A s vs → RTerms w A' s vs
  | [], _, hs => by simp only [RTerms] at hs ⊢; exact hs
  | t :: s, _, hs => by
    simp only [RTerms] at hs ⊢
    obtain ⟨v, vs', hv, ht, hs⟩ := hs
    exact ⟨v, vs', hv, RTerm.mono h t v ht, RTerms.mono h s vs' hs⟩
theorem RSeqs.mono {w : World} {A A' : Nat → Prop} (h : ∀ g, g < w.heap.size → A g → A' g) : ∀ (c : List (List Thk.Term)) (us : List Value), RSeqs w A c us → RSeqs w A' c us
  | [], _, hs => by simp only [RSeqs] at hs ⊢; exact hs
  | s :: c, _, hs => by
    simp only [RSeqs] at hs ⊢
    obtain ⟨u, us', hu, ⟨vs, hr, ht⟩, hc⟩ := hs
    exact ⟨u, us', hu, ⟨vs, hr.mono h, RTerms.mono h s vs ht⟩, RSeqs.mono h c us' hc⟩
 end

theorem RChoice.kept {w w' : World} {A : Nat → Prop} (h : Sm A w w') {c : Thk.Choice} {u : Value} (hc : RChoice w A c u) : RChoice w' A c u := by
  obtain ⟨us, hr, hs⟩ := hc
  exact ⟨us, hr.kept h.blocks, RSeqs.kept h c us hs⟩
theorem RChoice.mono {w : World} {A A' : Nat → Prop} (h : ∀ g, g < w.heap.size → A g → A' g) {c : Thk.Choice} {u : Value} (hc : RChoice w A c u) : RChoice w A' c u := by
  obtain ⟨us, hr, hs⟩ := hc
  exact ⟨us, hr.mono h, RSeqs.mono h c us hs⟩
theorem RSeq.kept {w w' : World} {A : Nat → Prop} (h : Sm A w w') {c : Thk.Seq} {u : Value} (hc : RSeq w A c u) : RSeq w' A c u := by
  obtain ⟨us, hr, hs⟩ := hc
  exact ⟨us, hr.kept h.blocks, RTerms.kept h c us hs⟩
theorem RSeq.mono {w : World} {A A' : Nat → Prop} (h : ∀ g, g < w.heap.size → A g → A' g) {c : Thk.Seq} {u : Value} (hc : RSeq w A c u) : RSeq w A' c u := by
  obtain ⟨us, hr, hs⟩ := hc
  exact ⟨us, hr.mono h, RTerms.mono h c us hs⟩

theorem termC_append (s : List Thk.Term) (vs : List Value) (h : s.length = vs.length) (a b : UInt8) (p : Thk.Piece) (v : Value) :
    termC (s ++ [.mk a p b]) (vs ++ [v]) = termC s vs ++ [.int .u8 a.toNat, v, .int .u8 b.toNat] := by
  induction s generalizing vs with
  | nil => cases vs with
    | nil => rfl
    | cons _ _ => simp at h
  | cons t s ih => cases vs with
    | nil => simp at h
    | cons u vs =>
      cases t with
      | mk a' p' b' =>
        simp only [List.cons_append, termC]
        rw [ih vs (by simpa using h)]

theorem RTerms.length {w : World} {A : Nat → Prop} : ∀ {s : List Thk.Term} {vs : List Value}, RTerms w A s vs → s.length = vs.length
  | [], _, h => by simp only [RTerms] at h; subst h; rfl
  | t :: s, _, h => by
    simp only [RTerms] at h
    obtain ⟨v, vs', rfl, _, hs⟩ := h
    simp [RTerms.length hs]
theorem RSeqs.length {w : World} {A : Nat → Prop} : ∀ {s : List (List Thk.Term)} {vs : List Value}, RSeqs w A s vs → s.length = vs.length
  | [], _, h => by simp only [RSeqs] at h; subst h; rfl
  | t :: s, _, h => by
    simp only [RSeqs] at h
    obtain ⟨v, vs', rfl, _, hs⟩ := h
    simp [RSeqs.length hs]

theorem RTerms.snoc {w : World} {A : Nat → Prop} {t : Thk.Term} {v : Value} (ht : RTerm w A t v) : ∀ {s : List Thk.Term} {vs : List Value}, RTerms w A s vs → RTerms w A (s ++ [t]) (vs ++ [v])
  | [], _, h => by simp only [RTerms] at h; subst h; simp [RTerms, ht]
  | t' :: s, _, h => by
    simp only [RTerms] at h
    obtain ⟨v', vs', rfl, h1, hs⟩ := h
    simp only [List.cons_append, RTerms]
    exact ⟨v', vs' ++ [v], rfl, h1, RTerms.snoc ht hs⟩
theorem RSeqs.snoc {w : World} {A : Nat → Prop} {t : Thk.Seq} {v : Value} (ht : RSeq w A t v) : ∀ {s : List (List Thk.Term)} {vs : List Value}, RSeqs w A s vs → RSeqs w A (s ++ [t]) (vs ++ [v])
  | [], _, h => by
    simp only [RSeqs] at h; subst h
    simp only [List.nil_append, RSeqs]
    exact ⟨v, [], rfl, ht, rfl⟩
  | t' :: s, _, h => by
    simp only [RSeqs] at h
    obtain ⟨v', vs', rfl, h1, hs⟩ := h
    simp only [List.cons_append, RSeqs]
    exact ⟨v', vs' ++ [v], rfl, h1, RSeqs.snoc ht hs⟩

end Go.Proofs.YtgfejacimdmkpaaDoor
