import Derived.Test.YtjmcdklhaieldaaGreatDoorSA
set_option linter.all false
namespace Go.Proofs.YtjmcdklhaieldaaGreatDoor
open Go.RowKit Go.WideMaps Go.Maps

theorem FactsAt.kp {w w' : World} {mb eb : Nat} {names : List Thk.Bytes} {E E' : List Bool} (h : FactsAt w mb eb names E) (hk : Kp eb w.heap.size w w') (he : w'.heap[eb]? = some (boolsO E')) (hl : E'.length = E.length) : FactsAt w' mb eb names E' := by
  refine ⟨h.map.same (hk.block mb h.map.lt ?_), he, hl.trans h.len, h.pos, h.le⟩
  intro e
  subst e
  obtain ⟨D, ⟨es, clock, h1, _⟩, _⟩ := h.map
  have := h.emp
  rw [h1] at this
  simp [boolsO] at this

/-- What findEmpty keeps at its outer loop's head. -/
structure FeRel (W : World) (mb eb : Nat) (names : List Thk.Bytes) (g : List Thk.Rule) (E : List Bool) (wr : World) : Prop where
  facts : FactsAt wr mb eb names E
  kp : Kp eb W.heap.size W wr
  least : Least names g E

set_option maxHeartbeats 8000000 in
set_option maxRecDepth 100000 in
theorem findEmpty_any (w : World) (mb eb : Nat) (names : List Thk.Bytes) (E : List Bool) (A : Nat → Prop) (g : List Thk.Rule) (ga : Addr) (gc : Nat) (hF : FactsAt w mb eb names E) (hG : RGram w A g (.slice (some ga) g.length gc)) (hA : ∀ b, A b → b ≠ eb)
    (hgn : g.length = names.length) (hL : Least names g E) :
    Calls Tryz.prog 72 #[factsV mb eb names.length, .slice (some ga) g.length gc] w fun e w' =>
      e = .returned (.tuple #[]) ∧ Kp eb w.heap.size w w' ∧ ∃ E', FactsAt w' mb eb names E' ∧ Closed names g E' ∧ Least names g E' := by
  have hle := hF.le
  have hpos := hF.pos
  obtain ⟨W, hW⟩ : ∃ W, W = w.alloc (factsO mb eb names.length) := ⟨_, rfl⟩
  have hB0 : Below w.heap.size w W := by rw [hW]; exact below_alloc _ _
  have hWsz : W.heap.size = w.heap.size + 1 := by rw [hW]; simp
  have hbox : W.heap[w.heap.size]? = some (factsO mb eb names.length) := by rw [hW]; exact heap_alloc_same _ _
  have hebl : eb < w.heap.size := heap_lt hF.emp
  have HB0 : Hid (Below w.heap.size w W) := hB0
  have HS0 : Hid (FeRel W mb eb names g E W) := ⟨hF.below hB0, Kp.refl _ _ _, hL⟩
  have HG : Hid (RGram W A g (.slice (some ga) g.length gc)) := hG.kept (sm_below hB0)
  have HA : Hid (∀ b, A b → b ≠ eb) := hA
  have HGN : Hid (g.length = names.length) := hgn
  have hgl : g.length ≤ 20 := by omega
  have hgp : 0 < g.length := by omega
  clear hF hG hL hB0 hA hgn
  simp only [factsV]
  go_enter Tryz.func72, Tryz.ntmps72
  go_wp2_with fail
  rw [← hW]
  go_loopg [4] (cf E + 1) (fun m v wr => ∃ E' ad, v = .bool ad ∧ m = (if ad then cf E' + 1 else 0) ∧ FeRel W mb eb names g E' wr ∧ Hid (ad = false → Closed names g E'))
  case atStart => exact ⟨E, true, rfl, rfl, HS0.out, fun h => by cases h⟩
  case round =>
    obtain ⟨E1, ad, rfl, hm, hR, hcl⟩ := hrel
    have HM : Hid (gk = if ad then cf E1 + 1 else 0) := hm
    clear hm
    have HR : Hid (FeRel W mb eb names g E1 wr) := hR
    have hszr := hR.kp.size
    clear hR
    cases ad with
    | false =>
      have HC : Hid (Closed names g E1) := hcl.out rfl
      clear hcl
      go_wp2_with fail
      go_end0
      exact ⟨rfl, (Kp.of HB0.out).trans (HR.out.kp.mono (by omega)), E1, HR.out.facts, HC.out, HR.out.least⟩
    | true =>
      clear hcl
      go_wp2_with fail
      go_loopg [4, 10] g.length (fun m v i wr => ∃ (j : Nat) (E2 : List Bool) (ad : Bool), m = g.length - j ∧ j ≤ g.length ∧ v = .bool ad ∧ i = .int .i64 j ∧ FeRel W mb eb names g E2 wr ∧
        Hid (ad = false → E2 = E1 ∧ ∀ t (ht : t < g.length), t < j → Thk.emptyC (Eb names E1) g[t].choice = true → E1.getD t false = true) ∧ Hid (ad = true → cf E2 < cf E1))
      case atStart => exact ⟨0, E1, false, rfl, Nat.zero_le _, rfl, rfl, HR.out, fun _ => ⟨rfl, fun t _ ht => by omega⟩, fun h => by cases h⟩
      case round =>
        obtain ⟨j, E2, ad, rfl, hj, rfl, rfl, hR2, hf, ht⟩ := hrel
        have HR2 : Hid (FeRel W mb eb names g E2 wr) := hR2
        have hszr2 := hR2.kp.size
        have hE2 := hR2.facts.emp
        have hbx0 : wr.heap[w.heap.size]? = some (factsO mb eb names.length) := by rw [hR2.kp.block _ (by omega) (by omega)]; exact hbox
        have hbx := cell_of_block hbx0
        clear hR2 hbx0
        by_cases hlt : j < g.length
        · have hGr : RGram wr A g (.slice (some ga) g.length gc) := HG.out.kept (sm_kpB HS0.out.facts.emp HR2.out.kp HA.out)
          obtain ⟨gb, a, c, rfl, hgb, hAgb, c0, c1, hCh, hnm⟩ := hGr.at j hlt
          have hjn : j < names.length := by have := HGN.out; omega
          have hem := HR2.out.facts.cell j hjn
          have hfz := frozen_of_block hE2 j
          have hB1 : ∀ O, Below wr.heap.size wr (wr.alloc O) := fun O => below_alloc _ _
          have hec := fun O => emptyChoice_any (wr.alloc O) mb eb names E2 A g[j].choice _ (HR2.out.facts.below (hB1 O)) (hCh.kept (sm_below (hB1 O)))
          simp only [factsV] at hec
          have hlt' : (j : Int) < g.length := by omega
          have hjn' : (j : Int) < names.length := by omega
          have hw9 : w.heap.size < wr.heap.size := by omega
          have hebr : eb < wr.heap.size := heap_lt hE2
          have hle2 : E2.length = names.length := HR2.out.facts.len
          have HLE2 : Hid (E2.length = names.length) := hle2
          have HE2 : Hid (wr.heap[eb]? = some (boolsO E2)) := hE2
          clear hGr hCh hB1 hle2 hE2
          cases hej : E2.getD j false with
          | true =>
            rw [hej] at hem
            have hN : Hid (ad = false → E2 = E1 ∧ ∀ t (ht : t < g.length), t < j + 1 → Thk.emptyC (Eb names E1) g[t].choice = true → E1.getD t false = true) := by
              intro had
              obtain ⟨h1, h2⟩ := hf.out had
              refine ⟨h1, fun t ht htj he => ?_⟩
              by_cases e : t = j
              · subst e; rw [← h1]; exact hej
              · exact h2 t ht (by omega) he
            clear hej hec hf
            go_wp2_with fail
            go_roundg (g.length - (j + 1))
            case measure => omega
            case rel => exact ⟨j + 1, E2, ad, rfl, by omega, rfl, by go_num, ⟨HR2.out.facts.below (below_alloc _ _), HR2.out.kp.alloc (by omega) _, HR2.out.least⟩, hN, ht⟩
          | false =>
            rw [hej] at hem
            have HEJ : Hid (E2.getD j false = false) := hej
            clear hej
            cases hr : Thk.emptyC (Eb names E2) g[j].choice with
            | false =>
              have HRR : Hid (Thk.emptyC (Eb names E2) g[j].choice = false) := hr
              simp only [hr] at hec
              clear hr
              have hN : Hid (ad = false → E2 = E1 ∧ ∀ t (ht : t < g.length), t < j + 1 → Thk.emptyC (Eb names E1) g[t].choice = true → E1.getD t false = true) := by
                intro had
                obtain ⟨h1, h2⟩ := hf.out had
                refine ⟨h1, fun t ht htj he => ?_⟩
                by_cases e : t = j
                · subst e; rw [← h1, HRR.out] at he; cases he
                · exact h2 t ht (by omega) he
              clear hf
              go_wp2_with fail
              refine (hec _).mono ?_
              rintro e w1 ⟨rfl, hb1⟩
              have hs1 := hb1.size
              simp at hs1
              have hb2 : Below wr.heap.size wr w1 := (below_alloc _ _).trans (hb1.mono (by simp))
              clear hec hb1
              go_wp2_with fail
              go_roundg (g.length - (j + 1))
              case measure => omega
              case rel => exact ⟨j + 1, E2, ad, rfl, by omega, rfl, by go_num, ⟨HR2.out.facts.below hb2, HR2.out.kp.trans (Kp.of (hb2.mono (by omega))), HR2.out.least⟩, hN, ht⟩
            | true =>
              have HRR : Hid (Thk.emptyC (Eb names E2) g[j].choice = true) := hr
              simp only [hr] at hec
              clear hr
              go_wp2_with fail
              refine (hec _).mono ?_
              rintro e w1 ⟨rfl, hb1⟩
              have hs1 := hb1.size
              simp at hs1
              have hb2 : Below wr.heap.size wr w1 := (below_alloc _ _).trans (hb1.mono (by simp))
              have hem1 : w1.heap[eb]? = some (boolsO E2) := by rw [hb2.block _ hebr]; exact HE2.out
              have hc1 : w1.cell? ⟨eb, j, none⟩ = some (.bool false) := by rw [hb2.cell (p := ⟨eb, j, none⟩) hebr]; exact hem
              have hfz1 := frozen_of_block hem1 j
              have hbx1 : ∀ o, w1.cell? ⟨w.heap.size, o, none⟩ = (#[.map (some mb), .slice (some ⟨eb, 0, none⟩) names.length names.length] : Array Value)[o]? := fun o => by rw [hb2.cell (p := ⟨w.heap.size, o, none⟩) hw9]; exact hbx o
              have hw91 : w.heap.size < w1.heap.size := by omega
              have HB2 : Hid (Below wr.heap.size wr w1) := hb2
              have HEM1 : Hid (w1.heap[eb]? = some (boolsO E2)) := hem1
              clear hec hb1 hb2 hem1
              go_wp2_with fail
              have hset : (w1.setCell ⟨eb, j, none⟩ (.bool true)).heap[eb]? = some (boolsO (E2.set j true)) := by
                rw [heap_setCell_at HEM1.out, boolsO_set]
              have hkp1 : Kp eb w1.heap.size w1 (w1.setCell ⟨eb, j, none⟩ (.bool true)) := (Kp.refl _ _ _).setRb _ _
              have hF1 : FactsAt w1 mb eb names E2 := HR2.out.facts.below HB2.out
              go_roundg (g.length - (j + 1))
              case measure => omega
              case rel =>
                refine ⟨j + 1, E2.set j true, true, rfl, by omega, rfl, by go_num, ⟨hF1.kp hkp1 hset (by simp), (HR2.out.kp.trans (Kp.of (HB2.out.mono (by omega)))).setRb _ _, HR2.out.least.set hlt HRR.out⟩, (fun h => by cases h), fun _ => ?_⟩
                have h1 := cf_set (E := E2) (i := j) (by rw [HLE2.out]; exact hjn) HEJ.out
                cases ad with
                | true => have := ht.out rfl; omega
                | false => obtain ⟨h2, _⟩ := hf.out rfl; rw [← h2]; exact h1
        · have hjg : j = g.length := by omega
          have HT : Hid ((if ad then cf E2 + 1 else 0) < gk) := by
            show _ < _
            rw [HM.out]
            cases ad with
            | true => have := ht.out rfl; simp; omega
            | false => simp
          have HC : Hid (ad = false → Closed names g E2) := by
            intro had
            obtain ⟨h1, h2⟩ := hf.out had
            intro t htl he
            rw [h1] at he ⊢
            exact h2 t htl (by omega) he
          clear hf ht
          go_wp2_with fail
          go_roundg (if ad then cf E2 + 1 else 0)
          case measure => exact HT.out
          case rel => exact ⟨E2, ad, rfl, rfl, HR2.out, HC⟩
end Go.Proofs.YtjmcdklhaieldaaGreatDoor
namespace Go.Proofs.YtjmcdklhaieldaaGreatDoor
open Go.RowKit Go.WideMaps Go.Maps

/-- Rule i has the name of an earlier one. -/
def twiceAt (ns : List Thk.Bytes) (i : Nat) : Bool := (ns.take i).contains (ns.getD i [])

def namesOf (g : List Thk.Rule) : List Thk.Bytes := g.map (·.name)

theorem namesOf_get (g : List Thk.Rule) (j : Nat) (hj : j < g.length) : (namesOf g).getD j [] = g[j].name := by simp [namesOf, hj]

theorem names_take (g : List Thk.Rule) (j : Nat) (hj : j < g.length) : (namesOf g).take (j + 1) = (namesOf g).take j ++ [g[j].name] := by
  have h : j < (namesOf g).length := by simp [namesOf, hj]
  rw [List.take_succ_eq_append_getElem h]
  simp [namesOf]

def FirstTwice (ns : List Thk.Bytes) : Option Nat → Prop
  | none => ∀ i, i < ns.length → twiceAt ns i = false
  | some i => i < ns.length ∧ twiceAt ns i = true ∧ ∀ t, t < i → twiceAt ns t = false

/-- A fault, or none. -/
def faultO (er : Nat) : Option Nat → Value
  | none => .nilIface
  | some i => faultV er i

set_option maxHeartbeats 8000000 in
set_option maxRecDepth 100000 in
theorem number_any (w : World) (mb eb n : Nat) (A : Nat → Prop) (g : List Thk.Rule) (ga : Addr) (gc : Nat) (hM : MapIs w mb []) (hG : RGram w A g (.slice (some ga) g.length gc)) (hA : ∀ b, A b → b ≠ mb) (hgl : g.length ≤ 20) :
    Calls Tryz.prog 69 #[factsV mb eb n, .slice (some ga) g.length gc] w fun e w' =>
      Kp mb w.heap.size w w' ∧ ∃ o, FirstTwice (namesOf g) o ∧ e = .returned (faultO 5 o) ∧ (o = none → MapIs w' mb (namesOf g)) := by
  obtain ⟨W, hW⟩ : ∃ W, W = w.alloc (factsO mb eb n) := ⟨_, rfl⟩
  have hB0 : Below w.heap.size w W := by rw [hW]; exact below_alloc _ _
  have hWsz : W.heap.size = w.heap.size + 1 := by rw [hW]; simp
  have hbox : W.heap[w.heap.size]? = some (factsO mb eb n) := by rw [hW]; exact heap_alloc_same _ _
  have hmbl : mb < w.heap.size := hM.lt
  obtain ⟨es0, cl0, hmb0⟩ : ∃ es cl, w.heap[mb]? = some (.map es cl) := by obtain ⟨D, ⟨es, cl, h1, _⟩, _⟩ := hM; exact ⟨es, cl, h1⟩
  have hmbW : W.heap[mb]? = some (.map es0 cl0) := by rw [hB0.block _ hmbl]; exact hmb0
  have HB0 : Hid (Below w.heap.size w W) := hB0
  have HM0 : Hid (MapIs W mb []) := hM.below hB0
  have HG : Hid (RGram W A g (.slice (some ga) g.length gc)) := hG.kept (sm_below hB0)
  have HA : Hid (∀ b, A b → b ≠ mb) := hA
  clear hM hG hB0 hmb0 hA
  have HMB : Hid (W.heap[mb]? = some (.map es0 cl0)) := hmbW
  clear hmbW
  simp only [factsV]
  go_enter Tryz.func69, Tryz.ntmps69
  go_wp2_with fail
  rw [← hW]
  go_loopg [11] g.length (fun m i wr => ∃ (j : Nat), m = g.length - j ∧ j ≤ g.length ∧ i = .int .i64 j ∧ MapIs wr mb ((namesOf g).take j) ∧ Kp mb W.heap.size W wr ∧ Hid (∀ t, t < j → twiceAt (namesOf g) t = false))
  case atStart => exact ⟨0, rfl, Nat.zero_le _, rfl, by simpa using HM0.out, Kp.refl _ _ _, fun t ht => by omega⟩
  case round =>
    obtain ⟨j, rfl, hj, rfl, hMr, hK, hno⟩ := hrel
    have hszr := hK.size
    have hbx0 : wr.heap[w.heap.size]? = some (factsO mb eb n) := by rw [hK.block _ (by omega) (by omega)]; exact hbox
    have hbx := cell_of_block hbx0
    have hw9 : w.heap.size < wr.heap.size := by omega
    have hmr := hMr.lt
    have HK : Hid (Kp mb W.heap.size W wr) := hK
    have HM : Hid (MapIs wr mb ((namesOf g).take j)) := hMr
    clear hbx0 hK hMr
    by_cases hlt : j < g.length
    · have hSm : Sm A W wr := by
        refine ⟨fun u l hl => own_blocks hl (fun b hb => HK.out.block b (hl.lt b hb).2 ?_), fun b hb ha => HK.out.block b hb ?_⟩
        · intro e; subst e
          obtain ⟨cur, h1⟩ := own_block_type hl hb
          rw [HMB.out] at h1; cases h1
        · exact HA.out b ha
      have hGr : RGram wr A g (.slice (some ga) g.length gc) := HG.out.kept hSm
      obtain ⟨gb, a, c, rfl, hgb, hAgb, c0, c1, hCh, hnm⟩ := hGr.at j hlt
      have hnt := names_take g j hlt
      have htw : twiceAt (namesOf g) j = ((namesOf g).take j).contains g[j].name := by unfold twiceAt; rw [namesOf_get g j hlt]
      have hlk := fun O => (HM.out.below (below_alloc wr O)).lookOk g[j].name hnm
      have hlt' : (j : Int) < g.length := by omega
      have HNT : Hid ((namesOf g).take (j + 1) = (namesOf g).take j ++ [g[j].name]) := hnt
      have HTW : Hid (twiceAt (namesOf g) j = ((namesOf g).take j).contains g[j].name) := htw
      have HNM : Hid (g[j].name.length ≤ 2000) := hnm
      have htl : ((namesOf g).take j).length = j := by simp [namesOf]; omega
      clear hGr hCh hnt htw hSm hnm
      cases hcn : ((namesOf g).take j).contains g[j].name with
      | true =>
        simp only [hcn] at hlk
        have HF : Hid (FirstTwice (namesOf g) (some j)) := ⟨by simp [namesOf]; exact hlt, by rw [HTW.out]; exact hcn, hno.out⟩
        clear hcn hno
        go_wp2_with fail
        go_ret
        exact ⟨((Kp.of HB0.out).trans (HK.out.mono (by omega))).alloc (by omega) _, some j, HF.out, rfl, fun h => by cases h⟩
      | false =>
        simp only [hcn] at hlk
        have HN : Hid (∀ t, t < j + 1 → twiceAt (namesOf g) t = false) := by
          intro t ht
          by_cases e : t = j
          · subst e; rw [HTW.out]; exact hcn
          · exact hno.out t (by omega)
        have HCN : Hid (((namesOf g).take j).contains g[j].name = false) := hcn
        clear hcn hno
        obtain ⟨D, hown, hD⟩ := HM.out
        rw [htl] at hown
        have HD : Hid (∀ b, D.atKey (.string b) (.lit (.int .i64 0)) = .lit (.int .i64 (idx0 ((namesOf g).take j) b)) ∧ Maps.has D (.string b) = ((namesOf g).take j).contains b) := hD
        have hkey := key_of g[j].name HNM.out
        clear hD
        go_wp2_with (first | (at_mapUpdate; refine wpList_mapUpdate_own _ rfl _ _ _ 61 rfl 9 3 keyLaw Tryz.underlying61 _ mb j _ rfl (hown.alloc _) (by unfold maxLen; omega) _ _ _ rfl rfl hkey _ [] (plainElem_int Tryz.underlying3 (WalkArith.wf_i64 (by omega))) ?_))
        intro w1 hown1 hgrow1
        have hm1 : MapIs w1 mb ((namesOf g).take (j + 1)) := by
          rw [HNT.out]
          refine MapIs.put (w := wr) HD.out hown.isMap HCN.out ?_ HNM.out
          rw [htl]; exact hown1
        have hk1 : Kp mb W.heap.size W w1 := by
          have h1 : Kp mb W.heap.size W (wr.alloc (.cells #[.string ⟨g[j].name.toArray⟩, .slice a g[j].choice.length c] 119)) := HK.out.alloc hszr _
          exact h1.trans ⟨hgrow1.os, hgrow1.tape, hgrow1.output, hgrow1.size, fun b hb hne => hgrow1.block b (by simp; omega) (by simpa using hne)⟩
        clear hown1 hgrow1 hown hlk
        go_wp2_with fail
        go_roundg (g.length - (j + 1))
        case measure => omega
        case rel => exact ⟨j + 1, rfl, by omega, by go_num, hm1, hk1, HN⟩
    · have hjg : j = g.length := by omega
      have HF : Hid (FirstTwice (namesOf g) none) := fun t ht => hno.out t (by simp [namesOf] at ht; omega)
      have HM2 : Hid (MapIs wr mb (namesOf g)) := by
        have := HM.out
        rw [hjg, List.take_of_length_le (by simp [namesOf])] at this
        exact this
      clear hno
      go_wp2_with fail
      go_ret
      exact ⟨(Kp.of HB0.out).trans (HK.out.mono (by omega)), none, HF.out, rfl, fun _ => HM2.out⟩
end Go.Proofs.YtjmcdklhaieldaaGreatDoor
namespace Go.Proofs.YtjmcdklhaieldaaGreatDoor
open Go.RowKit Go.WideMaps Go.Maps

/-- The closures' captured receiver. -/
structure CapAt (w : World) (bx mb eb : Nat) (names : List Thk.Bytes) (E : List Bool) : Prop where
  box : w.heap[bx]? = some (factsO mb eb names.length)
  facts : FactsAt w mb eb names E

theorem CapAt.below {w w' : World} {bx mb eb : Nat} {names : List Thk.Bytes} {E : List Bool} (h : CapAt w bx mb eb names E) (hb : Below w.heap.size w w') : CapAt w' bx mb eb names E :=
  ⟨by rw [hb.block _ (heap_lt h.box)]; exact h.box, h.facts.below hb⟩

def unkT (names : List Thk.Bytes) (t : Thk.Term) : Bool := match t.piece with
  | .name b => !names.contains b
  | _ => false

def loopT (Em : Thk.Bytes → Bool) (t : Thk.Term) : Bool := (t.behind == 42 || t.behind == 43) && Thk.emptyP Em t.piece

set_option maxHeartbeats 4000000 in
set_option maxRecDepth 100000 in
theorem unk1_any (w : World) (bx mb eb : Nat) (names : List Thk.Bytes) (E : List Bool) (A : Nat → Prop) (t : Thk.Term) (v : Value) (hF : CapAt w bx mb eb names E) (hp : RTerm w A t v) :
    Calls Tryz.prog 104 #[termV t v, .pointer (some ⟨bx, 0, none⟩)] w fun e w' => e = .returned (.bool (unkT names t)) ∧ Below w.heap.size w w' := by
  obtain ⟨a, p, b⟩ := t
  simp only [RTerm] at hp
  have hbx := cell_of_block hF.box
  have hbl := heap_lt hF.box
  have hB : ∀ O1 O2, Below w.heap.size w ((w.alloc O1).alloc O2) := fun O1 O2 => (below_alloc _ _).alloc (by simp) _
  simp only [termV, Thk.Term.ahead, Thk.Term.behind]
  cases p with
  | name nm =>
    simp only [RPiece] at hp
    obtain ⟨rfl, hnl⟩ := hp
    have e1 : unkT names (.mk a (.name nm) b) = !names.contains nm := rfl
    rw [e1]
    have hlk := fun O1 O2 => (hF.facts.map.below (hB O1 O2)).lookOk nm hnl
    have a1 := asNameName
    generalize names.contains nm = r at *
    generalize idx0 names nm = ix at *
    clear hF hB e1
    go_enter Tryz.func104, Tryz.ntmps104
    go_wp2_with fail
    go_ret
    exact ⟨rfl, (below_alloc _ _).alloc (by simp) _⟩
  | lit nm =>
    simp only [RPiece] at hp
    subst hp
    have a1 := asLitName
    clear hF hB
    go_enter Tryz.func104, Tryz.ntmps104
    go_wp2_with fail
    go_ret
    exact ⟨rfl, (below_alloc _ _).alloc (by simp) _⟩
  | cls nm =>
    simp only [RPiece] at hp
    obtain ⟨u, rfl, _⟩ := hp
    have a1 := asClsName
    clear hF hB
    go_enter Tryz.func104, Tryz.ntmps104
    go_wp2_with fail
    go_ret
    exact ⟨rfl, (below_alloc _ _).alloc (by simp) _⟩
  | any =>
    simp only [RPiece] at hp
    subst hp
    have a1 := asAnyName
    clear hF hB
    go_enter Tryz.func104, Tryz.ntmps104
    go_wp2_with fail
    go_ret
    exact ⟨rfl, (below_alloc _ _).alloc (by simp) _⟩
  | group c =>
    simp only [RPiece] at hp
    obtain ⟨u, us, rfl, hrow, _⟩ := hp
    have a1 := asGroupName
    clear hF hB hrow
    go_enter Tryz.func104, Tryz.ntmps104
    go_wp2_with fail
    go_ret
    exact ⟨rfl, (below_alloc _ _).alloc (by simp) _⟩

set_option maxHeartbeats 4000000 in
theorem repeated_any (w : World) (a b : UInt8) (t : TypeId) (x : Value) :
    Calls Tryz.prog 107 #[.agg #[.int .u8 a.toNat, .iface t x, .int .u8 b.toNat]] w fun e w' => e = .returned (.bool (b == 42 || b == 43)) ∧ Below w.heap.size w w' := by
  by_cases h1 : b = 42
  · subst h1
    go_enter Tryz.func107, Tryz.ntmps107
    go_wp2_with fail
    go_ret
    exact ⟨rfl, below_alloc _ _⟩
  · have t1 := u8_beq_false h1 42 rfl
    by_cases h2 : b = 43
    · subst h2
      go_enter Tryz.func107, Tryz.ntmps107
      go_wp2_with fail
      go_ret
      exact ⟨rfl, below_alloc _ _⟩
    · have t2 := u8_beq_false h2 43 rfl
      rw [show (b == 42 || b == 43) = false from by simp [h1, h2]]
      clear h1 h2
      go_enter Tryz.func107, Tryz.ntmps107
      go_wp2_with fail
      go_ret
      exact ⟨rfl, below_alloc _ _⟩

set_option maxHeartbeats 4000000 in
set_option maxRecDepth 100000 in
theorem loop1_any (w : World) (bx mb eb : Nat) (names : List Thk.Bytes) (E : List Bool) (A : Nat → Prop) (t : Thk.Term) (v : Value) (hF : CapAt w bx mb eb names E) (hp : RTerm w A t v) :
    Calls Tryz.prog 106 #[termV t v, .pointer (some ⟨bx, 0, none⟩)] w fun e w' => e = .returned (.bool (loopT (Eb names E) t)) ∧ Below w.heap.size w w' := by
  obtain ⟨a, p, b⟩ := t
  simp only [RTerm] at hp
  obtain ⟨vt, vx, rfl⟩ := RPiece.oneCell hp
  have hbl := heap_lt hF.box
  have e1 : loopT (Eb names E) (.mk a p b) = ((b == 42 || b == 43) && Thk.emptyP (Eb names E) p) := rfl
  rw [e1]
  simp only [termV, Thk.Term.ahead, Thk.Term.behind]
  obtain ⟨W, hW⟩ : ∃ W, W = w.alloc (.cells #[.int .u8 a.toNat, .iface vt vx, .int .u8 b.toNat] 219) := ⟨_, rfl⟩
  have hB0 : Below w.heap.size w W := by rw [hW]; exact below_alloc _ _
  have hWsz : W.heap.size = w.heap.size + 1 := by rw [hW]; simp
  have hrp := repeated_any W a b vt vx
  have hkeep : ∀ w1, Below W.heap.size W w1 → (∀ o, w1.cell? ⟨bx, o, none⟩ = (#[.map (some mb), .slice (some ⟨eb, 0, none⟩) names.length names.length] : Array Value)[o]?) ∧ (∀ o, w1.cell? ⟨w.heap.size, o, none⟩ = (#[.int .u8 a.toNat, .iface vt vx, .int .u8 b.toNat] : Array Value)[o]?) ∧
      Calls Tryz.prog 108 #[factsV mb eb names.length, .iface vt vx] w1 fun e w' => e = .returned (.bool (Thk.emptyP (Eb names E) p)) ∧ Below w1.heap.size w1 w' := by
    intro w1 hb1
    have hb2 : Below w.heap.size w w1 := hB0.trans (hb1.mono (by omega))
    refine ⟨fun o => ?_, fun o => ?_, emptyPiece_any w1 mb eb names E A p _ (hF.facts.below hb2) (RPiece.kept (sm_below hb2) p _ hp)⟩
    · rw [hb2.cell (p := ⟨bx, o, none⟩) hbl]; exact cell_of_block hF.box o
    · rw [hb1.cell (p := ⟨w.heap.size, o, none⟩) (by simp only []; omega), hW]; exact cell_of_block (heap_alloc_same _ _) o
  have HB0 : Hid (Below w.heap.size w W) := hB0
  clear hF hp e1 hB0
  generalize Thk.emptyP (Eb names E) p = r at *
  have HKE := (show Hid _ from hkeep)
  clear hkeep
  go_enter Tryz.func106, Tryz.ntmps106
  go_wp2_with fail
  rw [← hW]
  cases hrr : (b == 42 || b == 43) with
  | false =>
    rw [hrr] at hrp
    refine hrp.mono ?_
    rintro e w1 ⟨rfl, hb1⟩
    have hb2 : Below w.heap.size w w1 := HB0.out.trans (hb1.mono (by omega))
    have HRR : Hid ((b == 42 || b == 43) = false) := hrr
    clear hrp hb1 HKE hrr
    go_wp2_with fail
    go_ret
    exact ⟨by rw [HRR.out]; simp, hb2⟩
  | true =>
    rw [hrr] at hrp
    refine hrp.mono ?_
    rintro e w1 ⟨rfl, hb1⟩
    obtain ⟨q1, q2, hep⟩ := HKE.out w1 hb1
    have hs1 := hb1.size
    have hb2 : Below w.heap.size w w1 := HB0.out.trans (hb1.mono (by omega))
    simp only [factsV] at hep
    have HRR : Hid ((b == 42 || b == 43) = true) := hrr
    clear hrp hb1 HKE hrr
    go_wp2_with fail
    refine hep.mono ?_
    rintro e w3 ⟨rfl, hb3⟩
    have hb4 : Below w.heap.size w w3 := hb2.trans (hb3.mono (by omega))
    clear hep hb3 hb2
    go_wp2_with fail
    go_ret
    exact ⟨by rw [HRR.out]; simp, hb4⟩
end Go.Proofs.YtjmcdklhaieldaaGreatDoor
