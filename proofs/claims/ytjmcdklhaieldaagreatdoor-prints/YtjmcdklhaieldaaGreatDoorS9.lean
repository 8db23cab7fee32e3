import Derived.Test.YtjmcdklhaieldaaGreatDoorS8L
set_option linter.all false
namespace Go.Proofs.YtjmcdklhaieldaaGreatDoor
open Go.RowKit Go.WideMaps Go.Maps

/-- The first rule of which p holds. -/
def FirstIs (g : List Thk.Rule) (p : Thk.Choice → Bool) : Option Nat → Prop
  | none => ∀ i (h : i < g.length), p g[i].choice = false
  | some i => ∃ h : i < g.length, p g[i].choice = true ∧ ∀ t (ht : t < g.length), t < i → p g[t].choice = false

set_option maxHeartbeats 4000000 in
set_option maxRecDepth 100000 in
theorem hasU_any (w : World) (mb eb : Nat) (names : List Thk.Bytes) (E : List Bool) (A : Nat → Prop) (c : Thk.Choice) (u : Value) (hF : FactsAt w mb eb names E) (hc : RChoice w A c u) :
    Calls Tryz.prog 71 #[factsV mb eb names.length, u] w fun e w' => e = .returned (.bool (Thk.someC (unkT names) c)) ∧ Below w.heap.size w w' := by
  have hmf : ∀ (fn : Fn) (first cap : Array Value) (w : World), (Instr.makeFunc fn first cap).run Tryz.prog w = .ok (.func fn first cap) w := fun _ _ _ _ => rfl
  have hB : Below w.heap.size w (w.alloc (factsO mb eb names.length)) := below_alloc _ _
  have hs := some_allU (depC c) (w.alloc (factsO mb eb names.length)) w.heap.size mb eb names E A c u ⟨heap_alloc_same _ _, hF.below hB⟩ (hc.kept (sm_below hB)) (Nat.le_refl _)
  obtain ⟨us, hrow, _⟩ := hc
  obtain ⟨ua, uc, rfl⟩ := own_form hrow.1
  generalize Thk.someC (unkT names) c = r at *
  simp only [factsV]
  clear hF hrow
  go_enter Tryz.func71, Tryz.ntmps71
  go_wp2_with fail
  refine hs.mono ?_
  rintro e w1 ⟨rfl, hb⟩
  clear hs
  go_wp2_with fail
  go_ret
  exact ⟨rfl, hB.trans (hb.mono (by simp))⟩

set_option maxHeartbeats 8000000 in
set_option maxRecDepth 100000 in
theorem firstU_any (w : World) (mb eb : Nat) (names : List Thk.Bytes) (E : List Bool) (A : Nat → Prop) (g : List Thk.Rule) (ga : Addr) (gc er : Nat) (hF : FactsAt w mb eb names E) (hG : RGram w A g (.slice (some ga) g.length gc)) (hgl : g.length ≤ 20) :
    Calls Tryz.prog 70 #[.slice (some ga) g.length gc, .int .i64 er, .func (.func 71) #[factsV mb eb names.length] #[]] w fun e w' =>
      Below w.heap.size w w' ∧ ∃ o, FirstIs g (Thk.someC (unkT names)) o ∧ e = .returned (faultO er o) := by
  have HF : Hid (FactsAt w mb eb names E) := hF
  have HG : Hid (RGram w A g (.slice (some ga) g.length gc)) := hG
  clear hF hG
  simp only [factsV]
  go_enter Tryz.func70, Tryz.ntmps70
  go_wp2_with fail
  go_loopg [11] g.length (fun m i wr => ∃ (j : Nat), m = g.length - j ∧ j ≤ g.length ∧ i = .int .i64 j ∧ Below w.heap.size w wr ∧ Hid (∀ t (ht : t < g.length), t < j → Thk.someC (unkT names) g[t].choice = false))
  case atStart => exact ⟨0, rfl, Nat.zero_le _, rfl, Below.refl _ _, fun t _ ht => by omega⟩
  case round =>
    obtain ⟨j, rfl, hj, rfl, hb, hno⟩ := hrel
    have HB : Hid (Below w.heap.size w wr) := hb
    have hsz := hb.size
    clear hb
    by_cases hlt : j < g.length
    · have hGr : RGram wr A g (.slice (some ga) g.length gc) := HG.out.kept (sm_below HB.out)
      obtain ⟨gb, a, c, rfl, hgb, hAgb, c0, c1, hCh, hnm⟩ := hGr.at j hlt
      have hlt' : (j : Int) < g.length := by omega
      have hh := fun O => hasU_any (wr.alloc O) mb eb names E A g[j].choice _ (HF.out.below (HB.out.alloc hsz O)) (hCh.kept (sm_below (below_alloc wr O)))
      simp only [factsV] at hh
      clear hGr hCh hnm
      cases hr : Thk.someC (unkT names) g[j].choice with
      | true =>
        simp only [hr] at hh
        have HFI : Hid (FirstIs g (Thk.someC (unkT names)) (some j)) := ⟨hlt, hr, fun t ht htj => hno.out t ht htj⟩
        clear hr hno
        go_wp2_with fail
        refine (hh _).mono ?_
        rintro e w1 ⟨rfl, hb1⟩
        have hs1 := hb1.size
        simp at hs1
        have hb3 : Below w.heap.size w w1 := (HB.out.alloc hsz _).trans (hb1.mono (by simp; omega))
        clear hh hb1
        go_wp2_with fail
        go_ret
        exact ⟨hb3, some j, HFI.out, rfl⟩
      | false =>
        simp only [hr] at hh
        have HN : Hid (∀ t (ht : t < g.length), t < j + 1 → Thk.someC (unkT names) g[t].choice = false) := by
          intro t ht htj
          by_cases e : t = j
          · subst e; exact hr
          · exact hno.out t ht (by omega)
        clear hr hno
        go_wp2_with fail
        refine (hh _).mono ?_
        rintro e w1 ⟨rfl, hb1⟩
        have hs1 := hb1.size
        simp at hs1
        have hb3 : Below w.heap.size w w1 := (HB.out.alloc hsz _).trans (hb1.mono (by simp; omega))
        clear hh hb1
        go_wp2_with fail
        go_roundg (g.length - (j + 1))
        case measure => omega
        case rel => exact ⟨j + 1, rfl, by omega, by go_num, hb3, HN⟩
    · have HFI : Hid (FirstIs g (Thk.someC (unkT names)) none) := fun t ht => hno.out t ht (by omega)
      clear hno
      go_wp2_with fail
      go_ret
      exact ⟨HB.out, none, HFI.out, rfl⟩

set_option maxHeartbeats 4000000 in
set_option maxRecDepth 100000 in
theorem hasL_any (w : World) (mb eb : Nat) (names : List Thk.Bytes) (E : List Bool) (A : Nat → Prop) (c : Thk.Choice) (u : Value) (hF : FactsAt w mb eb names E) (hc : RChoice w A c u) :
    Calls Tryz.prog 73 #[factsV mb eb names.length, u] w fun e w' => e = .returned (.bool (Thk.someC (loopT (Eb names E)) c)) ∧ Below w.heap.size w w' := by
  have hmf : ∀ (fn : Fn) (first cap : Array Value) (w : World), (Instr.makeFunc fn first cap).run Tryz.prog w = .ok (.func fn first cap) w := fun _ _ _ _ => rfl
  have hB : Below w.heap.size w (w.alloc (factsO mb eb names.length)) := below_alloc _ _
  have hs := some_allL (depC c) (w.alloc (factsO mb eb names.length)) w.heap.size mb eb names E A c u ⟨heap_alloc_same _ _, hF.below hB⟩ (hc.kept (sm_below hB)) (Nat.le_refl _)
  obtain ⟨us, hrow, _⟩ := hc
  obtain ⟨ua, uc, rfl⟩ := own_form hrow.1
  generalize Thk.someC (loopT (Eb names E)) c = r at *
  simp only [factsV]
  clear hF hrow
  go_enter Tryz.func73, Tryz.ntmps73
  go_wp2_with fail
  refine hs.mono ?_
  rintro e w1 ⟨rfl, hb⟩
  clear hs
  go_wp2_with fail
  go_ret
  exact ⟨rfl, hB.trans (hb.mono (by simp))⟩

set_option maxHeartbeats 8000000 in
set_option maxRecDepth 100000 in
theorem firstL_any (w : World) (mb eb : Nat) (names : List Thk.Bytes) (E : List Bool) (A : Nat → Prop) (g : List Thk.Rule) (ga : Addr) (gc er : Nat) (hF : FactsAt w mb eb names E) (hG : RGram w A g (.slice (some ga) g.length gc)) (hgl : g.length ≤ 20) :
    Calls Tryz.prog 70 #[.slice (some ga) g.length gc, .int .i64 er, .func (.func 73) #[factsV mb eb names.length] #[]] w fun e w' =>
      Below w.heap.size w w' ∧ ∃ o, FirstIs g (Thk.someC (loopT (Eb names E))) o ∧ e = .returned (faultO er o) := by
  have HF : Hid (FactsAt w mb eb names E) := hF
  have HG : Hid (RGram w A g (.slice (some ga) g.length gc)) := hG
  clear hF hG
  simp only [factsV]
  go_enter Tryz.func70, Tryz.ntmps70
  go_wp2_with fail
  go_loopg [11] g.length (fun m i wr => ∃ (j : Nat), m = g.length - j ∧ j ≤ g.length ∧ i = .int .i64 j ∧ Below w.heap.size w wr ∧ Hid (∀ t (ht : t < g.length), t < j → Thk.someC (loopT (Eb names E)) g[t].choice = false))
  case atStart => exact ⟨0, rfl, Nat.zero_le _, rfl, Below.refl _ _, fun t _ ht => by omega⟩
  case round =>
    obtain ⟨j, rfl, hj, rfl, hb, hno⟩ := hrel
    have HB : Hid (Below w.heap.size w wr) := hb
    have hsz := hb.size
    clear hb
    by_cases hlt : j < g.length
    · have hGr : RGram wr A g (.slice (some ga) g.length gc) := HG.out.kept (sm_below HB.out)
      obtain ⟨gb, a, c, rfl, hgb, hAgb, c0, c1, hCh, hnm⟩ := hGr.at j hlt
      have hlt' : (j : Int) < g.length := by omega
      have hh := fun O => hasL_any (wr.alloc O) mb eb names E A g[j].choice _ (HF.out.below (HB.out.alloc hsz O)) (hCh.kept (sm_below (below_alloc wr O)))
      simp only [factsV] at hh
      clear hGr hCh hnm
      cases hr : Thk.someC (loopT (Eb names E)) g[j].choice with
      | true =>
        simp only [hr] at hh
        have HFI : Hid (FirstIs g (Thk.someC (loopT (Eb names E))) (some j)) := ⟨hlt, hr, fun t ht htj => hno.out t ht htj⟩
        clear hr hno
        go_wp2_with fail
        refine (hh _).mono ?_
        rintro e w1 ⟨rfl, hb1⟩
        have hs1 := hb1.size
        simp at hs1
        have hb3 : Below w.heap.size w w1 := (HB.out.alloc hsz _).trans (hb1.mono (by simp; omega))
        clear hh hb1
        go_wp2_with fail
        go_ret
        exact ⟨hb3, some j, HFI.out, rfl⟩
      | false =>
        simp only [hr] at hh
        have HN : Hid (∀ t (ht : t < g.length), t < j + 1 → Thk.someC (loopT (Eb names E)) g[t].choice = false) := by
          intro t ht htj
          by_cases e : t = j
          · subst e; exact hr
          · exact hno.out t ht (by omega)
        clear hr hno
        go_wp2_with fail
        refine (hh _).mono ?_
        rintro e w1 ⟨rfl, hb1⟩
        have hs1 := hb1.size
        simp at hs1
        have hb3 : Below w.heap.size w w1 := (HB.out.alloc hsz _).trans (hb1.mono (by simp; omega))
        clear hh hb1
        go_wp2_with fail
        go_roundg (g.length - (j + 1))
        case measure => omega
        case rel => exact ⟨j + 1, rfl, by omega, by go_num, hb3, HN⟩
    · have HFI : Hid (FirstIs g (Thk.someC (loopT (Eb names E))) none) := fun t ht => hno.out t ht (by omega)
      clear hno
      go_wp2_with fail
      go_ret
      exact ⟨HB.out, none, HFI.out, rfl⟩
end Go.Proofs.YtjmcdklhaieldaaGreatDoor
