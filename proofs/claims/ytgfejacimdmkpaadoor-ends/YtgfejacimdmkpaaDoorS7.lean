import Derived.Test.YtgfejacimdmkpaaDoorS6
set_option linter.all false
namespace Go.Proofs.YtgfejacimdmkpaaDoor
open Go.RowKit Go.WideMaps Go.Maps

/-- The closures' captured receiver. -/
structure CapAt (w : World) (bx mb eb : Nat) (names : List Thk.Bytes) (E : List Bool) : Prop where
  box : w.heap[bx]? = some (factsO mb eb names.length)
  facts : FactsAt w mb eb names E

theorem CapAt.below {w w' : World} {bx mb eb : Nat} {names : List Thk.Bytes} {E : List Bool} (h : CapAt w bx mb eb names E) (hb : Below w.heap.size w w') : CapAt w' bx mb eb names E :=
  ⟨by rw [hb.block _ (heap_lt h.box)]; exact h.box, h.facts.below hb⟩

def unkT (names : List Thk.Bytes) (t : Thk.Term) : Bool := match t.piece with
  | .name b => !names.contains b
  | _ => false

def loopT (Em : Thk.Bytes → Bool) (t : Thk.Term) : Bool := (t.behind == 42 || t.behind == 43) && Thk.emptyP Em t.piece

set_option maxHeartbeats 4000000 in
set_option maxRecDepth 100000 in
theorem unk1_any (w : World) (bx mb eb : Nat) (names : List Thk.Bytes) (E : List Bool) (A : Nat → Prop) (t : Thk.Term) (v : Value) (hF : CapAt w bx mb eb names E) (hp : RTerm w A t v) :
    Calls Tryd.prog 34 #[termV t v, .pointer (some ⟨bx, 0, none⟩)] w fun e w' => e = .returned (.bool (unkT names t)) ∧ Below w.heap.size w w' := by
  obtain ⟨a, p, b⟩ := t
  simp only [RTerm] at hp
  have hbx := cell_of_block hF.box
  have hbl := heap_lt hF.box
  have hB : ∀ O1 O2, Below w.heap.size w ((w.alloc O1).alloc O2) := fun O1 O2 => (below_alloc _ _).alloc (by simp) _
  simp only [termV, Thk.Term.ahead, Thk.Term.behind]
  cases p with
  | name nm =>
    simp only [RPiece] at hp
    obtain ⟨rfl, hnl⟩ := hp
    have e1 : unkT names (.mk a (.name nm) b) = !names.contains nm := rfl
    rw [e1]
    have hlk := fun O1 O2 => (hF.facts.map.below (hB O1 O2)).lookOk nm hnl
    have a1 := asNameName
    generalize names.contains nm = r at *
    generalize idx0 names nm = ix at *
    clear hF hB e1
    go_enter Tryd.func34, Tryd.ntmps34
    go_wp2_with fail
    go_ret
    exact ⟨rfl, (below_alloc _ _).alloc (by simp) _⟩
  | lit nm =>
    simp only [RPiece] at hp
    subst hp
    have a1 := asLitName
    clear hF hB
    go_enter Tryd.func34, Tryd.ntmps34
    go_wp2_with fail
    go_ret
    exact ⟨rfl, (below_alloc _ _).alloc (by simp) _⟩
  | cls nm =>
    simp only [RPiece] at hp
    obtain ⟨u, rfl, _⟩ := hp
    have a1 := asClsName
    clear hF hB
    go_enter Tryd.func34, Tryd.ntmps34
    go_wp2_with fail
    go_ret
    exact ⟨rfl, (below_alloc _ _).alloc (by simp) _⟩
  | any =>
    simp only [RPiece] at hp
    subst hp
    have a1 := asAnyName
    clear hF hB
    go_enter Tryd.func34, Tryd.ntmps34
    go_wp2_with fail
    go_ret
    exact ⟨rfl, (below_alloc _ _).alloc (by simp) _⟩
  | group c =>
    simp only [RPiece] at hp
    obtain ⟨u, us, rfl, hrow, _⟩ := hp
    have a1 := asGroupName
    clear hF hB hrow
    go_enter Tryd.func34, Tryd.ntmps34
    go_wp2_with fail
    go_ret
    exact ⟨rfl, (below_alloc _ _).alloc (by simp) _⟩

set_option maxHeartbeats 4000000 in
theorem repeated_any (w : World) (a b : UInt8) (t : TypeId) (x : Value) :
    Calls Tryd.prog 37 #[.agg #[.int .u8 a.toNat, .iface t x, .int .u8 b.toNat]] w fun e w' => e = .returned (.bool (b == 42 || b == 43)) ∧ Below w.heap.size w w' := by
  by_cases h1 : b = 42
  · subst h1
    go_enter Tryd.func37, Tryd.ntmps37
    go_wp2_with fail
    go_ret
    exact ⟨rfl, below_alloc _ _⟩
  · have t1 := u8_beq_false h1 42 rfl
    by_cases h2 : b = 43
    · subst h2
      go_enter Tryd.func37, Tryd.ntmps37
      go_wp2_with fail
      go_ret
      exact ⟨rfl, below_alloc _ _⟩
    · have t2 := u8_beq_false h2 43 rfl
      rw [show (b == 42 || b == 43) = false from by simp [h1, h2]]
      clear h1 h2
      go_enter Tryd.func37, Tryd.ntmps37
      go_wp2_with fail
      go_ret
      exact ⟨rfl, below_alloc _ _⟩

set_option maxHeartbeats 4000000 in
set_option maxRecDepth 100000 in
theorem loop1_any (w : World) (bx mb eb : Nat) (names : List Thk.Bytes) (E : List Bool) (A : Nat → Prop) (t : Thk.Term) (v : Value) (hF : CapAt w bx mb eb names E) (hp : RTerm w A t v) :
    Calls Tryd.prog 36 #[termV t v, .pointer (some ⟨bx, 0, none⟩)] w fun e w' => e = .returned (.bool (loopT (Eb names E) t)) ∧ Below w.heap.size w w' := by
  obtain ⟨a, p, b⟩ := t
  simp only [RTerm] at hp
  obtain ⟨vt, vx, rfl⟩ := RPiece.oneCell hp
  have hbl := heap_lt hF.box
  have e1 : loopT (Eb names E) (.mk a p b) = ((b == 42 || b == 43) && Thk.emptyP (Eb names E) p) := rfl
  rw [e1]
  simp only [termV, Thk.Term.ahead, Thk.Term.behind]
  obtain ⟨W, hW⟩ : ∃ W, W = w.alloc (.cells #[.int .u8 a.toNat, .iface vt vx, .int .u8 b.toNat] 100) := ⟨_, rfl⟩
  have hB0 : Below w.heap.size w W := by rw [hW]; exact below_alloc _ _
  have hWsz : W.heap.size = w.heap.size + 1 := by rw [hW]; simp
  have hrp := repeated_any W a b vt vx
  have hkeep : ∀ w1, Below W.heap.size W w1 → (∀ o, w1.cell? ⟨bx, o, none⟩ = (#[.map (some mb), .slice (some ⟨eb, 0, none⟩) names.length names.length] : Array Value)[o]?) ∧ (∀ o, w1.cell? ⟨w.heap.size, o, none⟩ = (#[.int .u8 a.toNat, .iface vt vx, .int .u8 b.toNat] : Array Value)[o]?) ∧
      Calls Tryd.prog 38 #[factsV mb eb names.length, .iface vt vx] w1 fun e w' => e = .returned (.bool (Thk.emptyP (Eb names E) p)) ∧ Below w1.heap.size w1 w' := by
    intro w1 hb1
    have hb2 : Below w.heap.size w w1 := hB0.trans (hb1.mono (by omega))
    refine ⟨fun o => ?_, fun o => ?_, emptyPiece_any w1 mb eb names E A p _ (hF.facts.below hb2) (RPiece.kept (sm_below hb2) p _ hp)⟩
    · rw [hb2.cell (p := ⟨bx, o, none⟩) hbl]; exact cell_of_block hF.box o
    · rw [hb1.cell (p := ⟨w.heap.size, o, none⟩) (by simp only []; omega), hW]; exact cell_of_block (heap_alloc_same _ _) o
  have HB0 : Hid (Below w.heap.size w W) := hB0
  clear hF hp e1 hB0
  generalize Thk.emptyP (Eb names E) p = r at *
  have HKE := (show Hid _ from hkeep)
  clear hkeep
  go_enter Tryd.func36, Tryd.ntmps36
  go_wp2_with fail
  rw [← hW]
  cases hrr : (b == 42 || b == 43) with
  | false =>
    rw [hrr] at hrp
    refine hrp.mono ?_
    rintro e w1 ⟨rfl, hb1⟩
    have hb2 : Below w.heap.size w w1 := HB0.out.trans (hb1.mono (by omega))
    have HRR : Hid ((b == 42 || b == 43) = false) := hrr
    clear hrp hb1 HKE hrr
    go_wp2_with fail
    go_ret
    exact ⟨by rw [HRR.out]; simp, hb2⟩
  | true =>
    rw [hrr] at hrp
    refine hrp.mono ?_
    rintro e w1 ⟨rfl, hb1⟩
    obtain ⟨q1, q2, hep⟩ := HKE.out w1 hb1
    have hs1 := hb1.size
    have hb2 : Below w.heap.size w w1 := HB0.out.trans (hb1.mono (by omega))
    simp only [factsV] at hep
    have HRR : Hid ((b == 42 || b == 43) = true) := hrr
    clear hrp hb1 HKE hrr
    go_wp2_with fail
    refine hep.mono ?_
    rintro e w3 ⟨rfl, hb3⟩
    have hb4 : Below w.heap.size w w3 := hb2.trans (hb3.mono (by omega))
    clear hep hb3 hb2
    go_wp2_with fail
    go_ret
    exact ⟨by rw [HRR.out]; simp, hb4⟩
end Go.Proofs.YtgfejacimdmkpaaDoor
