import Derived.Test.YtgfejacimdmkpaaDoorS4
set_option linter.all false
namespace Go.Proofs.YtgfejacimdmkpaaDoor
open Go.RowKit Go.WideMaps Go.Maps

theorem FactsAt.kp {w w' : World} {mb eb : Nat} {names : List Thk.Bytes} {E E' : List Bool} (h : FactsAt w mb eb names E) (hk : Kp eb w.heap.size w w') (he : w'.heap[eb]? = some (boolsO E')) (hl : E'.length = E.length) : FactsAt w' mb eb names E' := by
  refine ⟨h.map.same (hk.block mb h.map.lt ?_), he, hl.trans h.len, h.pos, h.le⟩
  intro e
  subst e
  obtain ⟨D, ⟨es, clock, h1, _⟩, _⟩ := h.map
  have := h.emp
  rw [h1] at this
  simp [boolsO] at this

/-- What findEmpty keeps at its outer loop's head. -/
structure FeRel (W : World) (mb eb : Nat) (names : List Thk.Bytes) (g : List Thk.Rule) (E : List Bool) (wr : World) : Prop where
  facts : FactsAt wr mb eb names E
  kp : Kp eb W.heap.size W wr
  least : Least names g E

set_option maxHeartbeats 8000000 in
set_option maxRecDepth 100000 in
theorem findEmpty_any (w : World) (mb eb : Nat) (names : List Thk.Bytes) (E : List Bool) (A : Nat → Prop) (g : List Thk.Rule) (ga : Addr) (gc : Nat) (hF : FactsAt w mb eb names E) (hG : RGram w A g (.slice (some ga) g.length gc)) (hA : ∀ b, A b → b ≠ eb)
    (hgn : g.length = names.length) (hL : Least names g E) :
    Calls Tryd.prog 22 #[factsV mb eb names.length, .slice (some ga) g.length gc] w fun e w' =>
      e = .returned (.tuple #[]) ∧ Kp eb w.heap.size w w' ∧ ∃ E', FactsAt w' mb eb names E' ∧ Closed names g E' ∧ Least names g E' := by
  have hle := hF.le
  have hpos := hF.pos
  obtain ⟨W, hW⟩ : ∃ W, W = w.alloc (factsO mb eb names.length) := ⟨_, rfl⟩
  have hB0 : Below w.heap.size w W := by rw [hW]; exact below_alloc _ _
  have hWsz : W.heap.size = w.heap.size + 1 := by rw [hW]; simp
  have hbox : W.heap[w.heap.size]? = some (factsO mb eb names.length) := by rw [hW]; exact heap_alloc_same _ _
  have hebl : eb < w.heap.size := heap_lt hF.emp
  have HB0 : Hid (Below w.heap.size w W) := hB0
  have HS0 : Hid (FeRel W mb eb names g E W) := ⟨hF.below hB0, Kp.refl _ _ _, hL⟩
  have HG : Hid (RGram W A g (.slice (some ga) g.length gc)) := hG.kept (sm_below hB0)
  have HA : Hid (∀ b, A b → b ≠ eb) := hA
  have HGN : Hid (g.length = names.length) := hgn
  have hgl : g.length ≤ 20 := by omega
  have hgp : 0 < g.length := by omega
  clear hF hG hL hB0 hA hgn
  simp only [factsV]
  go_enter Tryd.func22, Tryd.ntmps22
  go_wp2_with fail
  rw [← hW]
  go_loopg [4] (cf E + 1) (fun m v wr => ∃ E' ad, v = .bool ad ∧ m = (if ad then cf E' + 1 else 0) ∧ FeRel W mb eb names g E' wr ∧ Hid (ad = false → Closed names g E'))
  case atStart => exact ⟨E, true, rfl, rfl, HS0.out, fun h => by cases h⟩
  case round =>
    obtain ⟨E1, ad, rfl, hm, hR, hcl⟩ := hrel
    have HM : Hid (gk = if ad then cf E1 + 1 else 0) := hm
    clear hm
    have HR : Hid (FeRel W mb eb names g E1 wr) := hR
    have hszr := hR.kp.size
    clear hR
    cases ad with
    | false =>
      have HC : Hid (Closed names g E1) := hcl.out rfl
      clear hcl
      go_wp2_with fail
      go_end0
      exact ⟨rfl, (Kp.of HB0.out).trans (HR.out.kp.mono (by omega)), E1, HR.out.facts, HC.out, HR.out.least⟩
    | true =>
      clear hcl
      go_wp2_with fail
      go_loopg [4, 10] g.length (fun m v i wr => ∃ (j : Nat) (E2 : List Bool) (ad : Bool), m = g.length - j ∧ j ≤ g.length ∧ v = .bool ad ∧ i = .int .i64 j ∧ FeRel W mb eb names g E2 wr ∧
        Hid (ad = false → E2 = E1 ∧ ∀ t (ht : t < g.length), t < j → Thk.emptyC (Eb names E1) g[t].choice = true → E1.getD t false = true) ∧ Hid (ad = true → cf E2 < cf E1))
      case atStart => exact ⟨0, E1, false, rfl, Nat.zero_le _, rfl, rfl, HR.out, fun _ => ⟨rfl, fun t _ ht => by omega⟩, fun h => by cases h⟩
      case round =>
        obtain ⟨j, E2, ad, rfl, hj, rfl, rfl, hR2, hf, ht⟩ := hrel
        have HR2 : Hid (FeRel W mb eb names g E2 wr) := hR2
        have hszr2 := hR2.kp.size
        have hE2 := hR2.facts.emp
        have hbx0 : wr.heap[w.heap.size]? = some (factsO mb eb names.length) := by rw [hR2.kp.block _ (by omega) (by omega)]; exact hbox
        have hbx := cell_of_block hbx0
        clear hR2 hbx0
        by_cases hlt : j < g.length
        · have hGr : RGram wr A g (.slice (some ga) g.length gc) := HG.out.kept (sm_kpB HS0.out.facts.emp HR2.out.kp HA.out)
          obtain ⟨gb, a, c, rfl, hgb, hAgb, c0, c1, hCh, hnm⟩ := hGr.at j hlt
          have hjn : j < names.length := by have := HGN.out; omega
          have hem := HR2.out.facts.cell j hjn
          have hfz := frozen_of_block hE2 j
          have hB1 : ∀ O, Below wr.heap.size wr (wr.alloc O) := fun O => below_alloc _ _
          have hec := fun O => emptyChoice_any (wr.alloc O) mb eb names E2 A g[j].choice _ (HR2.out.facts.below (hB1 O)) (hCh.kept (sm_below (hB1 O)))
          simp only [factsV] at hec
          have hlt' : (j : Int) < g.length := by omega
          have hjn' : (j : Int) < names.length := by omega
          have hw9 : w.heap.size < wr.heap.size := by omega
          have hebr : eb < wr.heap.size := heap_lt hE2
          have hle2 : E2.length = names.length := HR2.out.facts.len
          have HLE2 : Hid (E2.length = names.length) := hle2
          have HE2 : Hid (wr.heap[eb]? = some (boolsO E2)) := hE2
          clear hGr hCh hB1 hle2 hE2
          cases hej : E2.getD j false with
          | true =>
            rw [hej] at hem
            have hN : Hid (ad = false → E2 = E1 ∧ ∀ t (ht : t < g.length), t < j + 1 → Thk.emptyC (Eb names E1) g[t].choice = true → E1.getD t false = true) := by
              intro had
              obtain ⟨h1, h2⟩ := hf.out had
              refine ⟨h1, fun t ht htj he => ?_⟩
              by_cases e : t = j
              · subst e; rw [← h1]; exact hej
              · exact h2 t ht (by omega) he
            clear hej hec hf
            go_wp2_with fail
            go_roundg (g.length - (j + 1))
            case measure => omega
            case rel => exact ⟨j + 1, E2, ad, rfl, by omega, rfl, by go_num, ⟨HR2.out.facts.below (below_alloc _ _), HR2.out.kp.alloc (by omega) _, HR2.out.least⟩, hN, ht⟩
          | false =>
            rw [hej] at hem
            have HEJ : Hid (E2.getD j false = false) := hej
            clear hej
            cases hr : Thk.emptyC (Eb names E2) g[j].choice with
            | false =>
              have HRR : Hid (Thk.emptyC (Eb names E2) g[j].choice = false) := hr
              simp only [hr] at hec
              clear hr
              have hN : Hid (ad = false → E2 = E1 ∧ ∀ t (ht : t < g.length), t < j + 1 → Thk.emptyC (Eb names E1) g[t].choice = true → E1.getD t false = true) := by
                intro had
                obtain ⟨h1, h2⟩ := hf.out had
                refine ⟨h1, fun t ht htj he => ?_⟩
                by_cases e : t = j
                · subst e; rw [← h1, HRR.out] at he; cases he
                · exact h2 t ht (by omega) he
              clear hf
              go_wp2_with fail
              refine (hec _).mono ?_
              rintro e w1 ⟨rfl, hb1⟩
              have hs1 := hb1.size
              simp at hs1
              have hb2 : Below wr.heap.size wr w1 := (below_alloc _ _).trans (hb1.mono (by simp))
              clear hec hb1
              go_wp2_with fail
              go_roundg (g.length - (j + 1))
              case measure => omega
              case rel => exact ⟨j + 1, E2, ad, rfl, by omega, rfl, by go_num, ⟨HR2.out.facts.below hb2, HR2.out.kp.trans (Kp.of (hb2.mono (by omega))), HR2.out.least⟩, hN, ht⟩
            | true =>
              have HRR : Hid (Thk.emptyC (Eb names E2) g[j].choice = true) := hr
              simp only [hr] at hec
              clear hr
              go_wp2_with fail
              refine (hec _).mono ?_
              rintro e w1 ⟨rfl, hb1⟩
              have hs1 := hb1.size
              simp at hs1
              have hb2 : Below wr.heap.size wr w1 := (below_alloc _ _).trans (hb1.mono (by simp))
              have hem1 : w1.heap[eb]? = some (boolsO E2) := by rw [hb2.block _ hebr]; exact HE2.out
              have hc1 : w1.cell? ⟨eb, j, none⟩ = some (.bool false) := by rw [hb2.cell (p := ⟨eb, j, none⟩) hebr]; exact hem
              have hfz1 := frozen_of_block hem1 j
              have hbx1 : ∀ o, w1.cell? ⟨w.heap.size, o, none⟩ = (#[.map (some mb), .slice (some ⟨eb, 0, none⟩) names.length names.length] : Array Value)[o]? := fun o => by rw [hb2.cell (p := ⟨w.heap.size, o, none⟩) hw9]; exact hbx o
              have hw91 : w.heap.size < w1.heap.size := by omega
              have HB2 : Hid (Below wr.heap.size wr w1) := hb2
              have HEM1 : Hid (w1.heap[eb]? = some (boolsO E2)) := hem1
              clear hec hb1 hb2 hem1
              go_wp2_with fail
              have hset : (w1.setCell ⟨eb, j, none⟩ (.bool true)).heap[eb]? = some (boolsO (E2.set j true)) := by
                rw [heap_setCell_at HEM1.out, boolsO_set]
              have hkp1 : Kp eb w1.heap.size w1 (w1.setCell ⟨eb, j, none⟩ (.bool true)) := (Kp.refl _ _ _).setRb _ _
              have hF1 : FactsAt w1 mb eb names E2 := HR2.out.facts.below HB2.out
              go_roundg (g.length - (j + 1))
              case measure => omega
              case rel =>
                refine ⟨j + 1, E2.set j true, true, rfl, by omega, rfl, by go_num, ⟨hF1.kp hkp1 hset (by simp), (HR2.out.kp.trans (Kp.of (HB2.out.mono (by omega)))).setRb _ _, HR2.out.least.set hlt HRR.out⟩, (fun h => by cases h), fun _ => ?_⟩
                have h1 := cf_set (E := E2) (i := j) (by rw [HLE2.out]; exact hjn) HEJ.out
                cases ad with
                | true => have := ht.out rfl; omega
                | false => obtain ⟨h2, _⟩ := hf.out rfl; rw [← h2]; exact h1
        · have hjg : j = g.length := by omega
          have HT : Hid ((if ad then cf E2 + 1 else 0) < gk) := by
            show _ < _
            rw [HM.out]
            cases ad with
            | true => have := ht.out rfl; simp; omega
            | false => simp
          have HC : Hid (ad = false → Closed names g E2) := by
            intro had
            obtain ⟨h1, h2⟩ := hf.out had
            intro t htl he
            rw [h1] at he ⊢
            exact h2 t htl (by omega) he
          clear hf ht
          go_wp2_with fail
          go_roundg (if ad then cf E2 + 1 else 0)
          case measure => exact HT.out
          case rel => exact ⟨E2, ad, rfl, rfl, HR2.out, HC⟩
end Go.Proofs.YtgfejacimdmkpaaDoor
