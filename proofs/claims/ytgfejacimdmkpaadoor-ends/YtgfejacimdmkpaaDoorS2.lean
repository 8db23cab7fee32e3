import Derived.Test.YtgfejacimdmkpaaDoorS1
set_option linter.all false
namespace Go.Proofs.YtgfejacimdmkpaaDoor
open Go.RowKit Go.WideMaps Go.Maps

mutual
def depP : Thk.Piece → Nat
  | .group c => depC c + 1
  | _ => 0
def depT : Thk.Term → Nat
  | .mk _ p _ => depP p
def depS : List Thk.Term → Nat
  | [] => 0
  | t :: s => max (depT t) (depS s)
def depC : List (List Thk.Term) → Nat
  | [] => 0
  | s :: c => max (depS s) (depC c)
 end

def boolsO (E : List Bool) : Obj := .cells (E.map Value.bool).toArray 4 (0, 0)

structure FactsAt (w : World) (mb eb : Nat) (names : List Thk.Bytes) (E : List Bool) : Prop where
  map : MapIs w mb names
  emp : w.heap[eb]? = some (boolsO E)
  len : E.length = names.length
  pos : 0 < names.length
  le : names.length ≤ 20

def factsV (mb eb n : Nat) : Value := .agg #[.map (some mb), .slice (some ⟨eb, 0, none⟩) n n]

theorem heap_lt {w : World} {b : Nat} {o : Obj} (h : w.heap[b]? = some o) : b < w.heap.size := (Array.getElem?_eq_some_iff.1 h).1

theorem FactsAt.below {w w' : World} {mb eb : Nat} {names : List Thk.Bytes} {E : List Bool} (h : FactsAt w mb eb names E) (hb : Below w.heap.size w w') : FactsAt w' mb eb names E :=
  ⟨h.map.below hb, by rw [hb.block _ (heap_lt h.emp)]; exact h.emp, h.len, h.pos, h.le⟩

def Eb (names : List Thk.Bytes) (E : List Bool) (b : Thk.Bytes) : Bool := E.getD (idx0 names b) false

theorem FactsAt.cell {w : World} {mb eb : Nat} {names : List Thk.Bytes} {E : List Bool} (h : FactsAt w mb eb names E) (i : Nat) (hi : i < names.length) : w.cell? ⟨eb, i, none⟩ = some (.bool (E.getD i false)) := by
  rw [cell_of_block h.emp]
  have : i < E.length := by rw [h.len]; exact hi
  simp [this]

/-- A row of all that a world's blocks hold stays behind new blocks. -/
theorem sm_below {A : Nat → Prop} {w w' : World} (hb : Below w.heap.size w w') : Sm A w w' := ⟨fun _ _ h => own_below h hb, fun g hg _ => hb.block g hg⟩

def EmptyC (k : Nat) : Prop := ∀ (w : World) (mb eb : Nat) (names : List Thk.Bytes) (E : List Bool) (A : Nat → Prop) (c : Thk.Choice) (u : Value), FactsAt w mb eb names E → RChoice w A c u → depC c ≤ k →
  Calls Tryd.prog 35 #[factsV mb eb names.length, u] w fun e w' => e = .returned (.bool (Thk.emptyC (Eb names E) c)) ∧ Below w.heap.size w w'

theorem asNameName (x : Value) (w : World) : (Instr.typeAssert (.iface 102 x) 98 102 true).run Tryd.prog w = .ok (.tuple #[x, .bool true]) w := by kernel_rfl
theorem asNameGroup (x : Value) (w : World) : (Instr.typeAssert (.iface 102 x) 98 135 true).run Tryd.prog w = .ok (.tuple #[.agg #[.slice none 0 0], .bool false]) w := by kernel_rfl
theorem asLitName (x : Value) (w : World) : (Instr.typeAssert (.iface 156 x) 98 102 true).run Tryd.prog w = .ok (.tuple #[.agg #[.string ⟨#[]⟩], .bool false]) w := by kernel_rfl
theorem asLitGroup (x : Value) (w : World) : (Instr.typeAssert (.iface 156 x) 98 135 true).run Tryd.prog w = .ok (.tuple #[.agg #[.slice none 0 0], .bool false]) w := by kernel_rfl
theorem asClsName (x : Value) (w : World) : (Instr.typeAssert (.iface 158 x) 98 102 true).run Tryd.prog w = .ok (.tuple #[.agg #[.string ⟨#[]⟩], .bool false]) w := by kernel_rfl
theorem asClsGroup (x : Value) (w : World) : (Instr.typeAssert (.iface 158 x) 98 135 true).run Tryd.prog w = .ok (.tuple #[.agg #[.slice none 0 0], .bool false]) w := by kernel_rfl
theorem asAnyName (x : Value) (w : World) : (Instr.typeAssert (.iface 160 x) 98 102 true).run Tryd.prog w = .ok (.tuple #[.agg #[.string ⟨#[]⟩], .bool false]) w := by kernel_rfl
theorem asAnyGroup (x : Value) (w : World) : (Instr.typeAssert (.iface 160 x) 98 135 true).run Tryd.prog w = .ok (.tuple #[.agg #[.slice none 0 0], .bool false]) w := by kernel_rfl
theorem asGroupName (x : Value) (w : World) : (Instr.typeAssert (.iface 135 x) 98 102 true).run Tryd.prog w = .ok (.tuple #[.agg #[.string ⟨#[]⟩], .bool false]) w := by kernel_rfl
theorem asGroupGroup (x : Value) (w : World) : (Instr.typeAssert (.iface 135 x) 98 135 true).run Tryd.prog w = .ok (.tuple #[x, .bool true]) w := by kernel_rfl

set_option maxHeartbeats 4000000 in
set_option maxRecDepth 100000 in
theorem emptyPiece_step (k : Nat) (hC : ∀ k', k' < k → EmptyC k') (w : World) (mb eb : Nat) (names : List Thk.Bytes) (E : List Bool) (A : Nat → Prop) (p : Thk.Piece) (v : Value) (hF : FactsAt w mb eb names E) (hp : RPiece w A p v) (hk : depP p ≤ k) :
    Calls Tryd.prog 38 #[factsV mb eb names.length, v] w fun e w' => e = .returned (.bool (Thk.emptyP (Eb names E) p)) ∧ Below w.heap.size w w' := by
  have hle := hF.le
  have hpos := hF.pos
  cases p with
  | name b =>
    simp only [RPiece] at hp
    obtain ⟨rfl, hbl⟩ := hp
    have e1 : Thk.emptyP (Eb names E) (.name b) = E.getD (idx0 names b) false := rfl
    have hix := idx0_lt b hpos
    rw [e1]
    have hB : ∀ O1 O2, Below w.heap.size w ((w.alloc O1).alloc O2) := fun O1 O2 => (below_alloc _ _).alloc (by simp) _
    have hlk := fun O1 O2 => (hF.map.below (hB O1 O2)).look b hbl
    have hce := fun O1 O2 => (hF.below (hB O1 O2)).cell (idx0 names b) hix
    simp only [factsV]
    clear e1 hB
    generalize E.getD (idx0 names b) false = r at *
    generalize idx0 names b = i at *
    clear hF hC hk
    have a1 := asNameName
    go_enter Tryd.func38, Tryd.ntmps38
    go_wp2_with fail
    go_ret
    exact ⟨rfl, (below_alloc _ _).alloc (by simp) _⟩
  | lit b =>
    simp only [RPiece] at hp
    subst hp
    have a1 := asLitName
    have a2 := asLitGroup
    simp only [factsV]
    clear hF hC hk
    go_enter Tryd.func38, Tryd.ntmps38
    go_wp2_with fail
    go_ret
    exact ⟨rfl, below_alloc _ _⟩
  | cls l =>
    simp only [RPiece] at hp
    obtain ⟨u, rfl, _⟩ := hp
    have a1 := asClsName
    have a2 := asClsGroup
    simp only [factsV]
    clear hF hC hk
    go_enter Tryd.func38, Tryd.ntmps38
    go_wp2_with fail
    go_ret
    exact ⟨rfl, below_alloc _ _⟩
  | any =>
    simp only [RPiece] at hp
    subst hp
    have a1 := asAnyName
    have a2 := asAnyGroup
    simp only [factsV]
    clear hF hC hk
    go_enter Tryd.func38, Tryd.ntmps38
    go_wp2_with fail
    go_ret
    exact ⟨rfl, below_alloc _ _⟩
  | group c =>
    simp only [RPiece] at hp
    obtain ⟨u, us, rfl, hrow, hseqs⟩ := hp
    obtain ⟨ua, uc, rfl⟩ := own_form hrow.1
    have hdep : depC c < k := by simp only [depP] at hk; omega
    have e1 : Thk.emptyP (Eb names E) (.group c) = Thk.emptyC (Eb names E) c := rfl
    rw [e1]
    have hB : ∀ O1 O2, Below w.heap.size w ((w.alloc O1).alloc O2) := fun O1 O2 => (below_alloc _ _).alloc (by simp) _
    have hch := fun O1 O2 => hC _ hdep ((w.alloc O1).alloc O2) mb eb names E A c (.slice ua c.length uc) (hF.below (hB O1 O2)) (RChoice.kept (sm_below (hB O1 O2)) ⟨us, hrow, hseqs⟩) (Nat.le_refl _)
    simp only [factsV] at hch ⊢
    generalize Thk.emptyC (Eb names E) c = r at *
    have a1 := asGroupName
    have a2 := asGroupGroup
    clear hF hC hk hB hdep hrow hseqs e1
    go_enter Tryd.func38, Tryd.ntmps38
    go_wp2_with fail
    refine (hch _ _).mono ?_
    rintro e w1 ⟨rfl, hb⟩
    clear hch
    go_wp2_with fail
    go_ret
    exact ⟨rfl, ((below_alloc _ _).alloc (by simp) _).trans (hb.mono (by simp; omega))⟩

/-- A term as it is handed over. -/
def termV (t : Thk.Term) (v : Value) : Value := .agg #[.int .u8 t.ahead.toNat, v, .int .u8 t.behind.toNat]

set_option maxHeartbeats 4000000 in
set_option maxRecDepth 100000 in
theorem emptyTerm_step (k : Nat) (hC : ∀ k', k' < k → EmptyC k') (w : World) (mb eb : Nat) (names : List Thk.Bytes) (E : List Bool) (A : Nat → Prop) (t : Thk.Term) (v : Value) (hF : FactsAt w mb eb names E) (hp : RTerm w A t v) (hk : depT t ≤ k) :
    Calls Tryd.prog 57 #[factsV mb eb names.length, termV t v] w fun e w' => e = .returned (.bool (Thk.emptyT (Eb names E) t)) ∧ Below w.heap.size w w' := by
  obtain ⟨a, p, b⟩ := t
  simp only [RTerm] at hp
  simp only [depT] at hk
  obtain ⟨vt, vx, rfl⟩ := RPiece.oneCell hp
  have e1 : Thk.emptyT (Eb names E) (.mk a p b) = ((a != 0 || b == 63 || b == 42) || Thk.emptyP (Eb names E) p) := by simp only [Thk.emptyT]
  rw [e1]
  have hB : ∀ O1 O2, Below w.heap.size w ((w.alloc O1).alloc O2) := fun O1 O2 => (below_alloc _ _).alloc (by simp) _
  have hpc := fun O1 O2 => emptyPiece_step k hC ((w.alloc O1).alloc O2) mb eb names E A p (.iface vt vx) (hF.below (hB O1 O2)) (RPiece.kept (sm_below (hB O1 O2)) p _ hp) hk
  generalize Thk.emptyP (Eb names E) p = r at *
  simp only [factsV, termV, Thk.Term.ahead, Thk.Term.behind] at hpc ⊢
  clear hF hC hk hB hp e1
  by_cases h1 : a = 0
  · subst h1
    by_cases h2 : b = 63
    · subst h2
      go_enter Tryd.func57, Tryd.ntmps57
      go_wp2_with fail
      go_ret
      exact ⟨rfl, (below_alloc _ _).alloc (by simp) _⟩
    · have t2 : ((b.toNat : Int) == 63) = false := u8_beq_false h2 63 rfl
      by_cases h3 : b = 42
      · subst h3
        go_enter Tryd.func57, Tryd.ntmps57
        go_wp2_with fail
        go_ret
        exact ⟨rfl, (below_alloc _ _).alloc (by simp) _⟩
      · have t3 : ((b.toNat : Int) == 42) = false := u8_beq_false h3 42 rfl
        rw [show (((0 : UInt8) != 0 || b == 63 || b == 42) || r) = r from by simp [h2, h3]]
        clear h2 h3
        go_enter Tryd.func57, Tryd.ntmps57
        go_wp2_with fail
        refine (hpc _ _).mono ?_
        rintro e w1 ⟨rfl, hb⟩
        clear hpc
        go_wp2_with fail
        go_ret
        exact ⟨rfl, ((below_alloc _ _).alloc (by simp) _).trans (hb.mono (by simp; omega))⟩
  · have t1 : ((a.toNat : Int) != 0) = true := by rw [bne_iff_ne]; intro e; apply h1; apply UInt8.toNat_inj.1; rw [show (0 : UInt8).toNat = 0 from rfl]; omega
    rw [show ((a != 0 || b == 63 || b == 42) || r) = true from by simp [h1]]
    clear h1
    go_enter Tryd.func57, Tryd.ntmps57
    go_wp2_with fail
    go_ret
    exact ⟨rfl, (below_alloc _ _).alloc (by simp) _⟩
end Go.Proofs.YtgfejacimdmkpaaDoor
