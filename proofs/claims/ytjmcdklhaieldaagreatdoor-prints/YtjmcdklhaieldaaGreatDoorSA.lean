import Derived.Test.YtjmcdklhaieldaaGreatDoorGD
import Derived.Test.YtjmcdklhaieldaaGreatDoorPA
import Derived.Maps.Own
import Derived.Maps.OwnOps
import Derived.Maps.OwnSet
import Derived.Maps.Views
set_option linter.all false
namespace Go.Proofs.YtjmcdklhaieldaaGreatDoor
open Go.RowKit Go.WideMaps Go.Maps

theorem keyLaw : Keyed Tryz.prog 9 := string_keyed Tryz.underlying9
theorem zeroInt (w : World) : (zeroValue 3).run Tryz.prog w = .ok (.int .i64 0) w := by kernel_rfl

def idx0 (names : List Thk.Bytes) (b : Thk.Bytes) : Nat := if names.contains b then names.idxOf b else 0

theorem idx0_lt {names : List Thk.Bytes} (b : Thk.Bytes) (h : 0 < names.length) : idx0 names b < names.length := by
  unfold idx0; split
  · rename_i hc; exact List.idxOf_lt_length_iff.2 (by simpa using hc)
  · exact h

/-- Block mb is the map of these names to their numbers. -/
def MapIs (w : World) (mb : Nat) (names : List Thk.Bytes) : Prop :=
  ∃ D : DataW Unit, w.ownsMap Tryz.prog 9 (plainElem Tryz.prog 3) mb names.length D ∧
    ∀ b, D.atKey (.string b) (.lit (.int .i64 0)) = .lit (.int .i64 (idx0 names b)) ∧ Maps.has D (.string b) = names.contains b

theorem key_of (b : Thk.Bytes) (hb : b.length ≤ 2000) : keyOf Tryz.prog 9 (.string ⟨b.toArray⟩) = some (.string b) := by
  have := keyOf_string_mk (s := ⟨b.toArray⟩) Tryz.underlying9 (by show b.toArray.size ≤ maxLen; unfold maxLen; simp; omega)
  simpa using this

theorem MapIs.look {w : World} {mb : Nat} {names : List Thk.Bytes} (h : MapIs w mb names) (b : Thk.Bytes) (hb : b.length ≤ 2000) :
    (Instr.lookup 61 (.map (some mb)) (.string ⟨b.toArray⟩) false).run Tryz.prog w = .ok (.int .i64 (idx0 names b)) w := by
  obtain ⟨D, ho, hD⟩ := h
  obtain ⟨c, hrun, hat, _⟩ := ho.lookup_int keyLaw Tryz.underlying61 Tryz.underlying3 (zeroInt _) (key_of b hb)
  rw [(hD b).1] at hat
  simp at hat
  rw [hrun, ← hat]

theorem MapIs.lookOk {w : World} {mb : Nat} {names : List Thk.Bytes} (h : MapIs w mb names) (b : Thk.Bytes) (hb : b.length ≤ 2000) :
    (Instr.lookup 61 (.map (some mb)) (.string ⟨b.toArray⟩) true).run Tryz.prog w = .ok (.tuple #[.int .i64 (idx0 names b), .bool (names.contains b)]) w := by
  obtain ⟨D, ho, hD⟩ := h
  obtain ⟨v, ps, hrun, hv⟩ := ho.look_ok keyLaw Tryz.underlying61 (zeroInt _) (plainElem_int Tryz.underlying3 (by decide)) (key_of b hb)
  rw [(hD b).1] at hv
  obtain ⟨a, rfl, ha, _⟩ := plainElem_int_inv Tryz.underlying3 hv
  simp at ha
  rw [hrun, (hD b).2, ← ha.1]

theorem MapIs.same {w w' : World} {mb : Nat} {names : List Thk.Bytes} (h : MapIs w mb names) (hb : w'.heap[mb]? = w.heap[mb]?) : MapIs w' mb names := by
  obtain ⟨D, ⟨es, clock, h1, h2⟩, hD⟩ := h
  exact ⟨D, ⟨es, clock, by rw [hb]; exact h1, h2⟩, hD⟩

theorem MapIs.lt {w : World} {mb : Nat} {names : List Thk.Bytes} (h : MapIs w mb names) : mb < w.heap.size := by
  obtain ⟨D, ho, _⟩ := h; exact ho.lt

theorem MapIs.below {w w' : World} {mb : Nat} {names : List Thk.Bytes} (h : MapIs w mb names) (hb : Below w.heap.size w w') : MapIs w' mb names := h.same (hb.block _ h.lt)

theorem isKeyLit (b : Thk.Bytes) : WideAt.IsKeyLit (.string b) := by
  simp [WideAt.IsKeyLit]

theorem MapIs.put {w : World} {mb : Nat} {names : List Thk.Bytes} {b : Thk.Bytes} {D : DataW Unit} {w' : World} (hD : ∀ b, D.atKey (.string b) (.lit (.int .i64 0)) = .lit (.int .i64 (idx0 names b)) ∧ Maps.has D (.string b) = names.contains b) (hm : IsMap D)
    (hb : names.contains b = false) (ho : w'.ownsMap Tryz.prog 9 (plainElem Tryz.prog 3) mb (names.length + 1) (D.put (.string b) (.lit (.int .i64 names.length)))) (hl : b.length ≤ 2000) : MapIs w' mb (names ++ [b]) := by
  refine ⟨_, by simpa using ho, ?_⟩
  intro c
  by_cases hc : c = b
  · subst hc
    have hn : c ∉ names := by simpa using hb
    rw [atKey_put_same hm (isKeyLit c), has_put_same hm (isKeyLit c)]
    constructor
    · congr 3
      unfold idx0
      rw [if_pos (by simp)]
      rw [List.idxOf_append, if_neg hn]
      simp
    · simp
  · have hne : (Lit.string c) ≠ (Lit.string b) := by simpa using hc
    rw [atKey_put_other hne, has_put_other hne, (hD c).1, (hD c).2]
    have hcc : (names ++ [b]).contains c = names.contains c := by
      rw [Bool.eq_iff_iff]; simp [hc]
    constructor
    · congr 3
      unfold idx0
      rw [hcc]
      split
      · rename_i h1
        rw [List.idxOf_append, if_pos (by simpa using h1)]
      · rfl
    · exact hcc.symm
end Go.Proofs.YtjmcdklhaieldaaGreatDoor
namespace Go.Proofs.YtjmcdklhaieldaaGreatDoor
open Go.RowKit Go.WideMaps Go.Maps

mutual
def depP : Thk.Piece → Nat
  | .group c => depC c + 1
  | _ => 0
def depT : Thk.Term → Nat
  | .mk _ p _ => depP p
def depS : List Thk.Term → Nat
  | [] => 0
  | t :: s => max (depT t) (depS s)
def depC : List (List Thk.Term) → Nat
  | [] => 0
  | s :: c => max (depS s) (depC c)
 end

def boolsO (E : List Bool) : Obj := .cells (E.map Value.bool).toArray 4 (0, 0)

structure FactsAt (w : World) (mb eb : Nat) (names : List Thk.Bytes) (E : List Bool) : Prop where
  map : MapIs w mb names
  emp : w.heap[eb]? = some (boolsO E)
  len : E.length = names.length
  pos : 0 < names.length
  le : names.length ≤ 20

def factsV (mb eb n : Nat) : Value := .agg #[.map (some mb), .slice (some ⟨eb, 0, none⟩) n n]

theorem heap_lt {w : World} {b : Nat} {o : Obj} (h : w.heap[b]? = some o) : b < w.heap.size := (Array.getElem?_eq_some_iff.1 h).1

theorem FactsAt.below {w w' : World} {mb eb : Nat} {names : List Thk.Bytes} {E : List Bool} (h : FactsAt w mb eb names E) (hb : Below w.heap.size w w') : FactsAt w' mb eb names E :=
  ⟨h.map.below hb, by rw [hb.block _ (heap_lt h.emp)]; exact h.emp, h.len, h.pos, h.le⟩

def Eb (names : List Thk.Bytes) (E : List Bool) (b : Thk.Bytes) : Bool := E.getD (idx0 names b) false

theorem FactsAt.cell {w : World} {mb eb : Nat} {names : List Thk.Bytes} {E : List Bool} (h : FactsAt w mb eb names E) (i : Nat) (hi : i < names.length) : w.cell? ⟨eb, i, none⟩ = some (.bool (E.getD i false)) := by
  rw [cell_of_block h.emp]
  have : i < E.length := by rw [h.len]; exact hi
  simp [this]

/-- A row of all that a world's blocks hold stays behind new blocks. -/
theorem sm_below {A : Nat → Prop} {w w' : World} (hb : Below w.heap.size w w') : Sm A w w' := ⟨fun _ _ h => own_below h hb, fun g hg _ => hb.block g hg⟩

def EmptyC (k : Nat) : Prop := ∀ (w : World) (mb eb : Nat) (names : List Thk.Bytes) (E : List Bool) (A : Nat → Prop) (c : Thk.Choice) (u : Value), FactsAt w mb eb names E → RChoice w A c u → depC c ≤ k →
  Calls Tryz.prog 105 #[factsV mb eb names.length, u] w fun e w' => e = .returned (.bool (Thk.emptyC (Eb names E) c)) ∧ Below w.heap.size w w'

theorem asNameName (x : Value) (w : World) : (Instr.typeAssert (.iface 221 x) 217 221 true).run Tryz.prog w = .ok (.tuple #[x, .bool true]) w := by kernel_rfl
theorem asNameGroup (x : Value) (w : World) : (Instr.typeAssert (.iface 221 x) 217 268 true).run Tryz.prog w = .ok (.tuple #[.agg #[.slice none 0 0], .bool false]) w := by kernel_rfl
theorem asLitName (x : Value) (w : World) : (Instr.typeAssert (.iface 292 x) 217 221 true).run Tryz.prog w = .ok (.tuple #[.agg #[.string ⟨#[]⟩], .bool false]) w := by kernel_rfl
theorem asLitGroup (x : Value) (w : World) : (Instr.typeAssert (.iface 292 x) 217 268 true).run Tryz.prog w = .ok (.tuple #[.agg #[.slice none 0 0], .bool false]) w := by kernel_rfl
theorem asClsName (x : Value) (w : World) : (Instr.typeAssert (.iface 294 x) 217 221 true).run Tryz.prog w = .ok (.tuple #[.agg #[.string ⟨#[]⟩], .bool false]) w := by kernel_rfl
theorem asClsGroup (x : Value) (w : World) : (Instr.typeAssert (.iface 294 x) 217 268 true).run Tryz.prog w = .ok (.tuple #[.agg #[.slice none 0 0], .bool false]) w := by kernel_rfl
theorem asAnyName (x : Value) (w : World) : (Instr.typeAssert (.iface 318 x) 217 221 true).run Tryz.prog w = .ok (.tuple #[.agg #[.string ⟨#[]⟩], .bool false]) w := by kernel_rfl
theorem asAnyGroup (x : Value) (w : World) : (Instr.typeAssert (.iface 318 x) 217 268 true).run Tryz.prog w = .ok (.tuple #[.agg #[.slice none 0 0], .bool false]) w := by kernel_rfl
theorem asGroupName (x : Value) (w : World) : (Instr.typeAssert (.iface 268 x) 217 221 true).run Tryz.prog w = .ok (.tuple #[.agg #[.string ⟨#[]⟩], .bool false]) w := by kernel_rfl
theorem asGroupGroup (x : Value) (w : World) : (Instr.typeAssert (.iface 268 x) 217 268 true).run Tryz.prog w = .ok (.tuple #[x, .bool true]) w := by kernel_rfl

set_option maxHeartbeats 4000000 in
set_option maxRecDepth 100000 in
theorem emptyPiece_step (k : Nat) (hC : ∀ k', k' < k → EmptyC k') (w : World) (mb eb : Nat) (names : List Thk.Bytes) (E : List Bool) (A : Nat → Prop) (p : Thk.Piece) (v : Value) (hF : FactsAt w mb eb names E) (hp : RPiece w A p v) (hk : depP p ≤ k) :
    Calls Tryz.prog 108 #[factsV mb eb names.length, v] w fun e w' => e = .returned (.bool (Thk.emptyP (Eb names E) p)) ∧ Below w.heap.size w w' := by
  have hle := hF.le
  have hpos := hF.pos
  cases p with
  | name b =>
    simp only [RPiece] at hp
    obtain ⟨rfl, hbl⟩ := hp
    have e1 : Thk.emptyP (Eb names E) (.name b) = E.getD (idx0 names b) false := rfl
    have hix := idx0_lt b hpos
    rw [e1]
    have hB : ∀ O1 O2, Below w.heap.size w ((w.alloc O1).alloc O2) := fun O1 O2 => (below_alloc _ _).alloc (by simp) _
    have hlk := fun O1 O2 => (hF.map.below (hB O1 O2)).look b hbl
    have hce := fun O1 O2 => (hF.below (hB O1 O2)).cell (idx0 names b) hix
    simp only [factsV]
    clear e1 hB
    generalize E.getD (idx0 names b) false = r at *
    generalize idx0 names b = i at *
    clear hF hC hk
    have a1 := asNameName
    go_enter Tryz.func108, Tryz.ntmps108
    go_wp2_with fail
    go_ret
    exact ⟨rfl, (below_alloc _ _).alloc (by simp) _⟩
  | lit b =>
    simp only [RPiece] at hp
    subst hp
    have a1 := asLitName
    have a2 := asLitGroup
    simp only [factsV]
    clear hF hC hk
    go_enter Tryz.func108, Tryz.ntmps108
    go_wp2_with fail
    go_ret
    exact ⟨rfl, below_alloc _ _⟩
  | cls l =>
    simp only [RPiece] at hp
    obtain ⟨u, rfl, _⟩ := hp
    have a1 := asClsName
    have a2 := asClsGroup
    simp only [factsV]
    clear hF hC hk
    go_enter Tryz.func108, Tryz.ntmps108
    go_wp2_with fail
    go_ret
    exact ⟨rfl, below_alloc _ _⟩
  | any =>
    simp only [RPiece] at hp
    subst hp
    have a1 := asAnyName
    have a2 := asAnyGroup
    simp only [factsV]
    clear hF hC hk
    go_enter Tryz.func108, Tryz.ntmps108
    go_wp2_with fail
    go_ret
    exact ⟨rfl, below_alloc _ _⟩
  | group c =>
    simp only [RPiece] at hp
    obtain ⟨u, us, rfl, hrow, hseqs⟩ := hp
    obtain ⟨ua, uc, rfl⟩ := own_form hrow.1
    have hdep : depC c < k := by simp only [depP] at hk; omega
    have e1 : Thk.emptyP (Eb names E) (.group c) = Thk.emptyC (Eb names E) c := rfl
    rw [e1]
    have hB : ∀ O1 O2, Below w.heap.size w ((w.alloc O1).alloc O2) := fun O1 O2 => (below_alloc _ _).alloc (by simp) _
    have hch := fun O1 O2 => hC _ hdep ((w.alloc O1).alloc O2) mb eb names E A c (.slice ua c.length uc) (hF.below (hB O1 O2)) (RChoice.kept (sm_below (hB O1 O2)) ⟨us, hrow, hseqs⟩) (Nat.le_refl _)
    simp only [factsV] at hch ⊢
    generalize Thk.emptyC (Eb names E) c = r at *
    have a1 := asGroupName
    have a2 := asGroupGroup
    clear hF hC hk hB hdep hrow hseqs e1
    go_enter Tryz.func108, Tryz.ntmps108
    go_wp2_with fail
    refine (hch _ _).mono ?_
    rintro e w1 ⟨rfl, hb⟩
    clear hch
    go_wp2_with fail
    go_ret
    exact ⟨rfl, ((below_alloc _ _).alloc (by simp) _).trans (hb.mono (by simp; omega))⟩

/-- A term as it is handed over. -/
def termV (t : Thk.Term) (v : Value) : Value := .agg #[.int .u8 t.ahead.toNat, v, .int .u8 t.behind.toNat]

set_option maxHeartbeats 4000000 in
set_option maxRecDepth 100000 in
theorem emptyTerm_step (k : Nat) (hC : ∀ k', k' < k → EmptyC k') (w : World) (mb eb : Nat) (names : List Thk.Bytes) (E : List Bool) (A : Nat → Prop) (t : Thk.Term) (v : Value) (hF : FactsAt w mb eb names E) (hp : RTerm w A t v) (hk : depT t ≤ k) :
    Calls Tryz.prog 144 #[factsV mb eb names.length, termV t v] w fun e w' => e = .returned (.bool (Thk.emptyT (Eb names E) t)) ∧ Below w.heap.size w w' := by
  obtain ⟨a, p, b⟩ := t
  simp only [RTerm] at hp
  simp only [depT] at hk
  obtain ⟨vt, vx, rfl⟩ := RPiece.oneCell hp
  have e1 : Thk.emptyT (Eb names E) (.mk a p b) = ((a != 0 || b == 63 || b == 42) || Thk.emptyP (Eb names E) p) := by simp only [Thk.emptyT]
  rw [e1]
  have hB : ∀ O1 O2, Below w.heap.size w ((w.alloc O1).alloc O2) := fun O1 O2 => (below_alloc _ _).alloc (by simp) _
  have hpc := fun O1 O2 => emptyPiece_step k hC ((w.alloc O1).alloc O2) mb eb names E A p (.iface vt vx) (hF.below (hB O1 O2)) (RPiece.kept (sm_below (hB O1 O2)) p _ hp) hk
  generalize Thk.emptyP (Eb names E) p = r at *
  simp only [factsV, termV, Thk.Term.ahead, Thk.Term.behind] at hpc ⊢
  clear hF hC hk hB hp e1
  by_cases h1 : a = 0
  · subst h1
    by_cases h2 : b = 63
    · subst h2
      go_enter Tryz.func144, Tryz.ntmps144
      go_wp2_with fail
      go_ret
      exact ⟨rfl, (below_alloc _ _).alloc (by simp) _⟩
    · have t2 : ((b.toNat : Int) == 63) = false := u8_beq_false h2 63 rfl
      by_cases h3 : b = 42
      · subst h3
        go_enter Tryz.func144, Tryz.ntmps144
        go_wp2_with fail
        go_ret
        exact ⟨rfl, (below_alloc _ _).alloc (by simp) _⟩
      · have t3 : ((b.toNat : Int) == 42) = false := u8_beq_false h3 42 rfl
        rw [show (((0 : UInt8) != 0 || b == 63 || b == 42) || r) = r from by simp [h2, h3]]
        clear h2 h3
        go_enter Tryz.func144, Tryz.ntmps144
        go_wp2_with fail
        refine (hpc _ _).mono ?_
        rintro e w1 ⟨rfl, hb⟩
        clear hpc
        go_wp2_with fail
        go_ret
        exact ⟨rfl, ((below_alloc _ _).alloc (by simp) _).trans (hb.mono (by simp; omega))⟩
  · have t1 : ((a.toNat : Int) != 0) = true := by rw [bne_iff_ne]; intro e; apply h1; apply UInt8.toNat_inj.1; rw [show (0 : UInt8).toNat = 0 from rfl]; omega
    rw [show ((a != 0 || b == 63 || b == 42) || r) = true from by simp [h1]]
    clear h1
    go_enter Tryz.func144, Tryz.ntmps144
    go_wp2_with fail
    go_ret
    exact ⟨rfl, (below_alloc _ _).alloc (by simp) _⟩
end Go.Proofs.YtjmcdklhaieldaaGreatDoor
namespace Go.Proofs.YtjmcdklhaieldaaGreatDoor
open Go.RowKit Go.WideMaps Go.Maps

theorem own_at {w : World} {base : Nat} {e : TypeId} {sz : Nat} {a : Option Addr} {n c : Nat} {xs : List Value} (h : w.ownsRow base e sz (.slice a n c) n xs) (hn : 0 < n) : ∃ g, a = some ⟨g, 0, none⟩ ∧ (∀ i, i < n * sz → w.cell? ⟨g, i, none⟩ = xs[i]?) ∧ g < w.heap.size := by
  rcases h.2 with ⟨h1, h2⟩ | ⟨g, cap, cur, hv, _, hh, _⟩
  · omega
  · simp only [Value.slice.injEq] at hv
    obtain ⟨rfl, _, rfl⟩ := hv
    exact ⟨g, rfl, fun i hi => h.cellAt i hi, heap_lt hh⟩

theorem termC_get : ∀ (s : List Thk.Term) (vs : List Value) (h : s.length = vs.length) (j : Nat) (hj : j < s.length),
    (termC s vs)[j * 3]? = some (.int .u8 s[j].ahead.toNat) ∧ (termC s vs)[j * 3 + 1]? = some (vs[j]'(by omega)) ∧ (termC s vs)[j * 3 + 2]? = some (.int .u8 s[j].behind.toNat)
  | [], _, _, _, hj => by simp at hj
  | _ :: _, [], h, _, _ => by simp at h
  | .mk a p b :: s, v :: vs, h, 0, _ => by simp [termC, Thk.Term.ahead, Thk.Term.behind]
  | .mk a p b :: s, v :: vs, h, j + 1, hj => by
    have := termC_get s vs (by simpa using h) j (by simpa using hj)
    simp only [termC, List.getElem_cons_succ]
    rw [show (j + 1) * 3 = j * 3 + 1 + 1 + 1 from by omega]
    simpa using this

theorem RTerms.get {w : World} {A : Nat → Prop} : ∀ {s : List Thk.Term} {vs : List Value} (h : RTerms w A s vs) (j : Nat) (hj : j < s.length) (hv : j < vs.length), RTerm w A s[j] vs[j]
  | [], _, _, _, hj, _ => by simp at hj
  | t :: s, vs, h, j, hj, hv => by
    simp only [RTerms] at h
    obtain ⟨v, vs', rfl, h1, h2⟩ := h
    cases j with
    | zero => exact h1
    | succ j => exact RTerms.get h2 j (by simpa using hj) (by simpa using hv)

theorem RSeqs.get {w : World} {A : Nat → Prop} : ∀ {c : List (List Thk.Term)} {us : List Value} (h : RSeqs w A c us) (j : Nat) (hj : j < c.length) (hv : j < us.length), RSeq w A c[j] us[j]
  | [], _, _, _, hj, _ => by simp at hj
  | t :: s, vs, h, j, hj, hv => by
    simp only [RSeqs] at h
    obtain ⟨v, vs', rfl, h1, h2⟩ := h
    cases j with
    | zero => exact h1
    | succ j => exact RSeqs.get h2 j (by simpa using hj) (by simpa using hv)

theorem emptyS_drop (E : Thk.Bytes → Bool) (s : List Thk.Term) (j : Nat) (hj : j < s.length) : Thk.emptyS E (s.drop j) = (Thk.emptyT E s[j] && Thk.emptyS E (s.drop (j + 1))) := by
  rw [List.drop_eq_getElem_cons hj]; simp only [Thk.emptyS]
theorem emptyC_drop (E : Thk.Bytes → Bool) (c : List (List Thk.Term)) (j : Nat) (hj : j < c.length) : Thk.emptyC E (c.drop j) = (Thk.emptyS E c[j] || Thk.emptyC E (c.drop (j + 1))) := by
  rw [List.drop_eq_getElem_cons hj]; simp only [Thk.emptyC]

theorem depS_get : ∀ (s : List Thk.Term) (j : Nat) (hj : j < s.length), depT s[j] ≤ depS s
  | [], _, hj => by simp at hj
  | t :: s, 0, _ => by simp only [depS, List.getElem_cons_zero]; omega
  | t :: s, j + 1, hj => by simp only [depS, List.getElem_cons_succ]; have := depS_get s j (by simpa using hj); omega
theorem depC_get : ∀ (c : List (List Thk.Term)) (j : Nat) (hj : j < c.length), depS c[j] ≤ depC c
  | [], _, hj => by simp at hj
  | t :: s, 0, _ => by simp only [depC, List.getElem_cons_zero]; omega
  | t :: s, j + 1, hj => by simp only [depC, List.getElem_cons_succ]; have := depC_get s j (by simpa using hj); omega

/-- The facts' box of a method's receiver. -/
abbrev factsO (mb eb n : Nat) : Obj := .cells #[.map (some mb), .slice (some ⟨eb, 0, none⟩) n n] 64

set_option maxHeartbeats 4000000 in
set_option maxRecDepth 100000 in
theorem emptySeq_step (k : Nat) (hC : ∀ k', k' < k → EmptyC k') (w : World) (mb eb : Nat) (names : List Thk.Bytes) (E : List Bool) (A : Nat → Prop) (s : Thk.Seq) (u : Value) (hF : FactsAt w mb eb names E) (hp : RSeq w A s u) (hk : depS s ≤ k) :
    Calls Tryz.prog 142 #[factsV mb eb names.length, u] w fun e w' => e = .returned (.bool (Thk.emptyS (Eb names E) s)) ∧ Below w.heap.size w w' := by
  obtain ⟨vs, ⟨hrow, hA⟩, hts⟩ := hp
  obtain ⟨ua, uc, rfl⟩ := own_form hrow
  have hcap : s.length ≤ maxLen := by
    rcases hrow.2 with ⟨_, h2⟩ | ⟨g, cap, cur, hv, _, _, h1, h2, _⟩
    · omega
    · exact Nat.le_trans h1 h2
  unfold maxLen at hcap
  have HVL : Hid (s.length = vs.length) := RTerms.length hts
  obtain ⟨W, hW⟩ : ∃ W, W = w.alloc (factsO mb eb names.length) := ⟨_, rfl⟩
  have hB0 : Below w.heap.size w W := by rw [hW]; exact below_alloc _ _
  have hWsz : W.heap.size = w.heap.size + 1 := by rw [hW]; simp
  have hbox : W.heap[w.heap.size]? = some (factsO mb eb names.length) := by rw [hW]; exact heap_alloc_same _ _
  have HB0 : Hid (Below w.heap.size w W) := hB0
  have HE : ∃ R, R = Thk.emptyS (Eb names E) s := ⟨_, rfl⟩
  obtain ⟨R, hR⟩ := HE
  rw [← hR]
  have HR : Hid (R = Thk.emptyS (Eb names E) (s.drop 0)) := by rw [hR]; rfl
  clear hR
  simp only [factsV]
  go_enter Tryz.func142, Tryz.ntmps142
  go_wp2_with fail
  rw [← hW]
  go_loopg [9] s.length (fun m i wr => ∃ j : Nat, m = s.length - j ∧ j ≤ s.length ∧ i = .int .i64 j ∧ Below W.heap.size W wr ∧ Hid (R = Thk.emptyS (Eb names E) (s.drop j)))
  case atStart => exact ⟨0, rfl, Nat.zero_le _, rfl, Below.refl _ _, HR⟩
  case round =>
    obtain ⟨j, rfl, hj, rfl, hb, hH⟩ := hrel
    have hbx0 : wr.heap[w.heap.size]? = some (factsO mb eb names.length) := by rw [hb.block _ (by omega)]; exact hbox
    have hbx := cell_of_block hbx0
    clear hbx0
    have hbw : Below w.heap.size w wr := HB0.out.trans (hb.mono (by omega))
    have hsz := hb.size
    by_cases hlt : j < s.length
    · have hjv : j < vs.length := by have := HVL.out; omega
      obtain ⟨g, rfl, hcs, hgl⟩ := own_at hrow (by omega)
      obtain ⟨t0, t1, t2⟩ := termC_get s vs HVL.out j hlt
      have c0 : wr.cell? ⟨g, j * 3, none⟩ = some (.int .u8 s[j].ahead.toNat) := by rw [hbw.cell (p := ⟨g, _, none⟩) hgl, hcs _ (by omega)]; exact t0
      have c1 : wr.cell? ⟨g, j * 3 + 1, none⟩ = some (vs[j]'hjv) := by rw [hbw.cell (p := ⟨g, _, none⟩) hgl, hcs _ (by omega)]; exact t1
      have c2 : wr.cell? ⟨g, j * 3 + 2, none⟩ = some (.int .u8 s[j].behind.toNat) := by rw [hbw.cell (p := ⟨g, _, none⟩) hgl, hcs _ (by omega)]; exact t2
      have htr := RTerms.get hts j hlt hjv
      have hpc := fun O => emptyTerm_step k hC (wr.alloc O) mb eb names E A s[j] (vs[j]'hjv) (hF.below (hbw.alloc (by omega) O)) (RTerm.kept (sm_below (hbw.alloc (by omega) O)) _ _ htr) (Nat.le_trans (depS_get s j hlt) hk)
      have hed := emptyS_drop (Eb names E) s j hlt
      obtain ⟨tt, xx, hvx⟩ : ∃ t x, vs[j]'hjv = .iface t x := by
        cases htt : s[j] with
        | mk a p b => rw [htt] at htr; simp only [RTerm] at htr; exact RPiece.oneCell htr
      rw [hvx] at c1
      simp only [hvx, termV, factsV] at hpc
      have HED : Hid (Thk.emptyS (Eb names E) (s.drop j) = (Thk.emptyT (Eb names E) s[j] && Thk.emptyS (Eb names E) (s.drop (j + 1)))) := hed
      have hlt' : (j : Int) < s.length := by omega
      clear hed htr t0 t1 t2 hvx hcs
      generalize hr : Thk.emptyT (Eb names E) s[j] = r at *
      generalize s[j].ahead = ah at *
      generalize s[j].behind = be at *
      clear hr
      have hw9 : w.heap.size < wr.heap.size := by omega
      cases r with
      | true =>
        go_wp2_with fail
        refine (hpc _).mono ?_
        rintro e w1 ⟨rfl, hb1⟩
        have hs1 := hb1.size
        simp at hs1
        have hb2 : Below W.heap.size W w1 := (hb.alloc hsz _).trans (hb1.mono (by simp; omega))
        clear hpc hb1
        go_wp2_with fail
        go_roundg (s.length - (j + 1))
        case measure => omega
        case rel => exact ⟨j + 1, rfl, by omega, by go_num, hb2, by have h1 := hH.out; rw [HED.out, Bool.true_and] at h1; exact h1⟩
      | false =>
        go_wp2_with fail
        refine (hpc _).mono ?_
        rintro e w1 ⟨rfl, hb1⟩
        have hs1 := hb1.size
        simp at hs1
        have hb2 : Below w.heap.size w w1 := (hbw.alloc (by omega) _).trans (hb1.mono (by simp; omega))
        clear hpc hb1
        go_wp2_with fail
        go_ret
        exact ⟨by have h1 := hH.out; rw [HED.out, Bool.false_and] at h1; rw [h1]; rfl, hb2⟩
    · have hje : j = s.length := by omega
      have hRt : Hid (R = true) := by
        have h1 := hH.out
        rw [hje, List.drop_length] at h1
        exact h1
      clear hH
      go_wp2_with fail
      go_ret
      exact ⟨by rw [hRt.out]; rfl, hbw⟩

set_option maxHeartbeats 4000000 in
set_option maxRecDepth 100000 in
theorem emptyChoice_step (k : Nat) (hC : ∀ k', k' < k → EmptyC k') : EmptyC k := by
  intro w mb eb names E A c u hF hp hk
  obtain ⟨vs, ⟨hrow, hA⟩, hts⟩ := hp
  obtain ⟨ua, uc, rfl⟩ := own_form hrow
  have hcap : c.length ≤ maxLen := by
    rcases hrow.2 with ⟨_, h2⟩ | ⟨g, cap, cur, hv, _, _, h1, h2, _⟩
    · omega
    · exact Nat.le_trans h1 h2
  unfold maxLen at hcap
  have HVL : Hid (c.length = vs.length) := RSeqs.length hts
  obtain ⟨W, hW⟩ : ∃ W, W = w.alloc (factsO mb eb names.length) := ⟨_, rfl⟩
  have hB0 : Below w.heap.size w W := by rw [hW]; exact below_alloc _ _
  have hWsz : W.heap.size = w.heap.size + 1 := by rw [hW]; simp
  have hbox : W.heap[w.heap.size]? = some (factsO mb eb names.length) := by rw [hW]; exact heap_alloc_same _ _
  have HB0 : Hid (Below w.heap.size w W) := hB0
  have HE : ∃ R, R = Thk.emptyC (Eb names E) c := ⟨_, rfl⟩
  obtain ⟨R, hR⟩ := HE
  rw [← hR]
  have HR : Hid (R = Thk.emptyC (Eb names E) (c.drop 0)) := by rw [hR]; rfl
  clear hR
  simp only [factsV]
  go_enter Tryz.func105, Tryz.ntmps105
  go_wp2_with fail
  rw [← hW]
  go_loopg [9] c.length (fun m i wr => ∃ j : Nat, m = c.length - j ∧ j ≤ c.length ∧ i = .int .i64 j ∧ Below W.heap.size W wr ∧ Hid (R = Thk.emptyC (Eb names E) (c.drop j)))
  case atStart => exact ⟨0, rfl, Nat.zero_le _, rfl, Below.refl _ _, HR⟩
  case round =>
    obtain ⟨j, rfl, hj, rfl, hb, hH⟩ := hrel
    have hbx0 : wr.heap[w.heap.size]? = some (factsO mb eb names.length) := by rw [hb.block _ (by omega)]; exact hbox
    have hbx := cell_of_block hbx0
    clear hbx0
    have hbw : Below w.heap.size w wr := HB0.out.trans (hb.mono (by omega))
    have hsz := hb.size
    by_cases hlt : j < c.length
    · have hjv : j < vs.length := by have := HVL.out; omega
      obtain ⟨g, rfl, hcs, hgl⟩ := own_at hrow (by omega)
      have c0 : wr.cell? ⟨g, j, none⟩ = some (vs[j]'hjv) := by rw [hbw.cell (p := ⟨g, _, none⟩) hgl, hcs _ (by omega)]; exact List.getElem?_eq_getElem hjv
      have htr := RSeqs.get hts j hlt hjv
      have hdj := Nat.le_trans (depC_get c j hlt) hk
      have hpc := emptySeq_step k hC wr mb eb names E A c[j] (vs[j]'hjv) (hF.below hbw) (htr.kept (sm_below hbw)) hdj
      have hed := emptyC_drop (Eb names E) c j hlt
      obtain ⟨tt, xx, hvx⟩ : ∃ t x, vs[j]'hjv = .slice t c[j].length x := by
        obtain ⟨_, hr, _⟩ := htr
        exact own_form hr.1
      rw [hvx] at c0
      simp only [hvx, factsV] at hpc
      have HED : Hid (Thk.emptyC (Eb names E) (c.drop j) = (Thk.emptyS (Eb names E) c[j] || Thk.emptyC (Eb names E) (c.drop (j + 1)))) := hed
      have hlt' : (j : Int) < c.length := by omega
      clear hed htr hvx hcs
      generalize hr : Thk.emptyS (Eb names E) c[j] = r at *
      generalize c[j].length = cl at *
      clear hr
      have hw9 : w.heap.size < wr.heap.size := by omega
      cases r with
      | false =>
        go_wp2_with fail
        refine hpc.mono ?_
        rintro e w1 ⟨rfl, hb1⟩
        have hb2 : Below W.heap.size W w1 := hb.trans (hb1.mono (by omega))
        clear hpc hb1
        go_wp2_with fail
        go_roundg (c.length - (j + 1))
        case measure => omega
        case rel => exact ⟨j + 1, rfl, by omega, by go_num, hb2, by have h1 := hH.out; rw [HED.out, Bool.false_or] at h1; exact h1⟩
      | true =>
        go_wp2_with fail
        refine hpc.mono ?_
        rintro e w1 ⟨rfl, hb1⟩
        have hb2 : Below w.heap.size w w1 := hbw.trans (hb1.mono (by omega))
        clear hpc hb1
        go_wp2_with fail
        go_ret
        exact ⟨by have h1 := hH.out; rw [HED.out, Bool.true_or] at h1; rw [h1]; rfl, hb2⟩
    · have hje : j = c.length := by omega
      have hRt : Hid (R = false) := by
        have h1 := hH.out
        rw [hje, List.drop_length] at h1
        exact h1
      clear hH
      go_wp2_with fail
      go_ret
      exact ⟨by rw [hRt.out]; rfl, hbw⟩

theorem empty_all (k : Nat) : EmptyC k := by
  induction k using Nat.strongRecOn with
  | ind k ih => exact emptyChoice_step k ih

theorem emptyPiece_any (w : World) (mb eb : Nat) (names : List Thk.Bytes) (E : List Bool) (A : Nat → Prop) (p : Thk.Piece) (v : Value) (hF : FactsAt w mb eb names E) (hp : RPiece w A p v) :
    Calls Tryz.prog 108 #[factsV mb eb names.length, v] w fun e w' => e = .returned (.bool (Thk.emptyP (Eb names E) p)) ∧ Below w.heap.size w w' :=
  emptyPiece_step (depP p) (fun k _ => empty_all k) w mb eb names E A p v hF hp (Nat.le_refl _)
theorem emptyTerm_any (w : World) (mb eb : Nat) (names : List Thk.Bytes) (E : List Bool) (A : Nat → Prop) (t : Thk.Term) (v : Value) (hF : FactsAt w mb eb names E) (hp : RTerm w A t v) :
    Calls Tryz.prog 144 #[factsV mb eb names.length, termV t v] w fun e w' => e = .returned (.bool (Thk.emptyT (Eb names E) t)) ∧ Below w.heap.size w w' :=
  emptyTerm_step (depT t) (fun k _ => empty_all k) w mb eb names E A t v hF hp (Nat.le_refl _)
theorem emptyChoice_any (w : World) (mb eb : Nat) (names : List Thk.Bytes) (E : List Bool) (A : Nat → Prop) (c : Thk.Choice) (u : Value) (hF : FactsAt w mb eb names E) (hp : RChoice w A c u) :
    Calls Tryz.prog 105 #[factsV mb eb names.length, u] w fun e w' => e = .returned (.bool (Thk.emptyC (Eb names E) c)) ∧ Below w.heap.size w w' :=
  empty_all (depC c) w mb eb names E A c u hF hp (Nat.le_refl _)
end Go.Proofs.YtjmcdklhaieldaaGreatDoor
namespace Go.Proofs.YtjmcdklhaieldaaGreatDoor
open Go.RowKit Go.WideMaps Go.Maps

mutual
theorem emptyP_mono {E F : Thk.Bytes → Bool} (h : ∀ b, E b = true → F b = true) : ∀ (p : Thk.Piece), Thk.emptyP E p = true → Thk.emptyP F p = true
  | .name b, hp => h b hp
  | .group c, hp => by simp only [Thk.emptyP] at hp ⊢; exact emptyC_mono h c hp
  | .lit _, hp => by simp [Thk.emptyP] at hp
  | .cls _, hp => by simp [Thk.emptyP] at hp
  | .any, hp => by simp [Thk.emptyP] at hp
theorem emptyT_mono {E F : Thk.Bytes → Bool} (h : ∀ b, E b = true → F b = true) : ∀ (t : Thk.Term), Thk.emptyT E t = true → Thk.emptyT F t = true
  | .mk a p b, ht => by
    simp only [Thk.emptyT, Bool.or_eq_true] at ht ⊢
    rcases ht with ht | ht
    · exact .inl ht
    · exact .inr (emptyP_mono h p ht)
theorem emptyS_mono {E F : Thk.Bytes → Bool} (h : ∀ b, E b = true → F b = true) : ∀ (s : List Thk.Term), Thk.emptyS E s = true → Thk.emptyS F s = true
  | [], _ => by simp [Thk.emptyS]
  | t :: s, hs => by
    simp only [Thk.emptyS, Bool.and_eq_true] at hs ⊢
    exact ⟨emptyT_mono h t hs.1, emptyS_mono h s hs.2⟩
theorem emptyC_mono {E F : Thk.Bytes → Bool} (h : ∀ b, E b = true → F b = true) : ∀ (c : List (List Thk.Term)), Thk.emptyC E c = true → Thk.emptyC F c = true
  | [], hc => by simp [Thk.emptyC] at hc
  | s :: c, hc => by
    simp only [Thk.emptyC, Bool.or_eq_true] at hc ⊢
    rcases hc with hc | hc
    · exact .inl (emptyS_mono h s hc)
    · exact .inr (emptyC_mono h c hc)
 end

/-- E says of each rule that may take nothing, by E, that it may. -/
def Closed (names : List Thk.Bytes) (g : List Thk.Rule) (E : List Bool) : Prop := ∀ i (h : i < g.length), Thk.emptyC (Eb names E) g[i].choice = true → E.getD i false = true
def Least (names : List Thk.Bytes) (g : List Thk.Rule) (E : List Bool) : Prop := ∀ F : List Bool, Closed names g F → ∀ i, E.getD i false = true → F.getD i false = true

theorem Least.set {names : List Thk.Bytes} {g : List Thk.Rule} {E : List Bool} (h : Least names g E) {i : Nat} (hi : i < g.length) (he : Thk.emptyC (Eb names E) g[i].choice = true) : Least names g (E.set i true) := by
  intro F hF j hj
  by_cases hij : j = i
  · subst hij
    exact hF j hi (emptyC_mono (fun b hb => h F hF _ hb) _ he)
  · refine h F hF j ?_
    rw [List.getD_eq_getElem?_getD, List.getElem?_set, if_neg (fun e => hij e.symm)] at hj
    rw [List.getD_eq_getElem?_getD]; exact hj

def cf (E : List Bool) : Nat := E.countP (· == false)

theorem cf_set {E : List Bool} {i : Nat} (hi : i < E.length) (h : E.getD i false = false) : cf (E.set i true) < cf E := by
  unfold cf
  have h' : E[i] = false := by simpa [hi] using h
  induction E generalizing i with
  | nil => simp at hi
  | cons x xs ih =>
    cases i with
    | zero => simp at h'; subst h'; simp
    | succ i =>
      have := ih (i := i) (by simpa using hi) (by simpa using h) (by simpa using h')
      simp only [List.set_cons_succ, List.countP_cons]
      omega

theorem boolsO_set (E : List Bool) (i : Nat) : Obj.cells ((E.map Value.bool).toArray.setIfInBounds i (.bool true)) 4 (0, 0) = boolsO (E.set i true) := by
  unfold boolsO
  congr 1
  apply Array.toList_inj.1
  simp [List.map_set]

theorem sm_kpB {A : Nat → Prop} {eb : Nat} {w w' : World} {E : List Bool} (hr : w.heap[eb]? = some (boolsO E)) (hk : Kp eb w.heap.size w w') (hA : ∀ g, A g → g ≠ eb) : Sm A w w' :=
  ⟨fun _ _ h => own_kp h hr (by decide) hk, fun g hg ha => hk.block g hg (hA g ha)⟩

theorem RGram.kept {w w' : World} {A : Nat → Prop} (h : Sm A w w') {g : List Thk.Rule} {v : Value} (hg : RGram w A g v) : RGram w' A g v := by
  obtain ⟨vs, h1, h2⟩ := hg
  exact ⟨vs, h1.kept h.blocks, RRules.kept h h2⟩

theorem RRules.get {w : World} {A : Nat → Prop} : ∀ {g : List Thk.Rule} {vs : List Value} (h : RRules w A g vs) (j : Nat) (hj : j < g.length) (hv : j < vs.length), RChoice w A g[j].choice vs[j] ∧ g[j].name.length ≤ 2000
  | [], _, _, _, hj, _ => by simp at hj
  | t :: s, vs, h, j, hj, hv => by
    obtain ⟨v, vs', rfl, h1, h2⟩ := h
    cases j with
    | zero => exact h1
    | succ j => exact RRules.get h2 j (by simpa using hj) (by simpa using hv)

theorem ruleC_get : ∀ (g : List Thk.Rule) (vs : List Value) (h : g.length = vs.length) (j : Nat) (hj : j < g.length),
    (ruleC g vs)[j * 2]? = some (.string ⟨g[j].name.toArray⟩) ∧ (ruleC g vs)[j * 2 + 1]? = some (vs[j]'(by omega))
  | [], _, _, _, hj => by simp at hj
  | _ :: _, [], h, _, _ => by simp at h
  | r :: s, v :: vs, h, 0, _ => by simp [ruleC]
  | r :: s, v :: vs, h, j + 1, hj => by
    have := ruleC_get s vs (by simpa using h) j (by simpa using hj)
    simp only [ruleC, List.getElem_cons_succ]
    rw [show (j + 1) * 2 = j * 2 + 1 + 1 from by omega]
    simpa using this

/-- The cells of rule j, and its choice. -/
theorem RGram.at {w : World} {A : Nat → Prop} {g : List Thk.Rule} {ga : Addr} {gc : Nat} (h : RGram w A g (.slice (some ga) g.length gc)) (j : Nat) (hj : j < g.length) :
    ∃ gb a c, ga = ⟨gb, 0, none⟩ ∧ gb < w.heap.size ∧ A gb ∧ w.cell? ⟨gb, j * 2, none⟩ = some (.string ⟨g[j].name.toArray⟩) ∧ w.cell? ⟨gb, j * 2 + 1, none⟩ = some (.slice a g[j].choice.length c) ∧
      RChoice w A g[j].choice (.slice a g[j].choice.length c) ∧ g[j].name.length ≤ 2000 := by
  obtain ⟨vs, ⟨h1, h2⟩, h3⟩ := h
  obtain ⟨gb, e1, hcs, hlt⟩ := own_at h1 (by omega)
  have hvl := RRules.length h3
  obtain ⟨r0, r1⟩ := ruleC_get g vs hvl j hj
  obtain ⟨hc, hn⟩ := RRules.get h3 j hj (by omega)
  have hform : ∃ a c, vs[j]'(by omega) = .slice a g[j].choice.length c := by
    obtain ⟨us, hr, _⟩ := hc
    exact own_form hr.1
  obtain ⟨a, c, hv⟩ := hform
  simp only [Option.some.injEq] at e1
  rw [hv] at r1 hc
  exact ⟨gb, a, c, e1, hlt, h2 gb (by rw [e1]; rfl), by rw [hcs _ (by omega)]; exact r0, by rw [hcs _ (by omega)]; exact r1, hc, hn⟩

end Go.Proofs.YtjmcdklhaieldaaGreatDoor
