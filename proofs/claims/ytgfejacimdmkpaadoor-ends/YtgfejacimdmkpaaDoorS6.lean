import Derived.Test.YtgfejacimdmkpaaDoorS5
set_option linter.all false
namespace Go.Proofs.YtgfejacimdmkpaaDoor
open Go.RowKit Go.WideMaps Go.Maps

/-- Rule i has the name of an earlier one. -/
def twiceAt (ns : List Thk.Bytes) (i : Nat) : Bool := (ns.take i).contains (ns.getD i [])

def namesOf (g : List Thk.Rule) : List Thk.Bytes := g.map (·.name)

theorem namesOf_get (g : List Thk.Rule) (j : Nat) (hj : j < g.length) : (namesOf g).getD j [] = g[j].name := by simp [namesOf, hj]

theorem names_take (g : List Thk.Rule) (j : Nat) (hj : j < g.length) : (namesOf g).take (j + 1) = (namesOf g).take j ++ [g[j].name] := by
  have h : j < (namesOf g).length := by simp [namesOf, hj]
  rw [List.take_succ_eq_append_getElem h]
  simp [namesOf]

def FirstTwice (ns : List Thk.Bytes) : Option Nat → Prop
  | none => ∀ i, i < ns.length → twiceAt ns i = false
  | some i => i < ns.length ∧ twiceAt ns i = true ∧ ∀ t, t < i → twiceAt ns t = false

/-- A fault, or none. -/
def faultO (er : Nat) : Option Nat → Value
  | none => .nilIface
  | some i => faultV er i

set_option maxHeartbeats 8000000 in
set_option maxRecDepth 100000 in
theorem number_any (w : World) (mb eb n : Nat) (A : Nat → Prop) (g : List Thk.Rule) (ga : Addr) (gc : Nat) (hM : MapIs w mb []) (hG : RGram w A g (.slice (some ga) g.length gc)) (hA : ∀ b, A b → b ≠ mb) (hgl : g.length ≤ 20) :
    Calls Tryd.prog 19 #[factsV mb eb n, .slice (some ga) g.length gc] w fun e w' =>
      Kp mb w.heap.size w w' ∧ ∃ o, FirstTwice (namesOf g) o ∧ e = .returned (faultO 5 o) ∧ (o = none → MapIs w' mb (namesOf g)) := by
  obtain ⟨W, hW⟩ : ∃ W, W = w.alloc (factsO mb eb n) := ⟨_, rfl⟩
  have hB0 : Below w.heap.size w W := by rw [hW]; exact below_alloc _ _
  have hWsz : W.heap.size = w.heap.size + 1 := by rw [hW]; simp
  have hbox : W.heap[w.heap.size]? = some (factsO mb eb n) := by rw [hW]; exact heap_alloc_same _ _
  have hmbl : mb < w.heap.size := hM.lt
  obtain ⟨es0, cl0, hmb0⟩ : ∃ es cl, w.heap[mb]? = some (.map es cl) := by obtain ⟨D, ⟨es, cl, h1, _⟩, _⟩ := hM; exact ⟨es, cl, h1⟩
  have hmbW : W.heap[mb]? = some (.map es0 cl0) := by rw [hB0.block _ hmbl]; exact hmb0
  have HB0 : Hid (Below w.heap.size w W) := hB0
  have HM0 : Hid (MapIs W mb []) := hM.below hB0
  have HG : Hid (RGram W A g (.slice (some ga) g.length gc)) := hG.kept (sm_below hB0)
  have HA : Hid (∀ b, A b → b ≠ mb) := hA
  clear hM hG hB0 hmb0 hA
  have HMB : Hid (W.heap[mb]? = some (.map es0 cl0)) := hmbW
  clear hmbW
  simp only [factsV]
  go_enter Tryd.func19, Tryd.ntmps19
  go_wp2_with fail
  rw [← hW]
  go_loopg [11] g.length (fun m i wr => ∃ (j : Nat), m = g.length - j ∧ j ≤ g.length ∧ i = .int .i64 j ∧ MapIs wr mb ((namesOf g).take j) ∧ Kp mb W.heap.size W wr ∧ Hid (∀ t, t < j → twiceAt (namesOf g) t = false))
  case atStart => exact ⟨0, rfl, Nat.zero_le _, rfl, by simpa using HM0.out, Kp.refl _ _ _, fun t ht => by omega⟩
  case round =>
    obtain ⟨j, rfl, hj, rfl, hMr, hK, hno⟩ := hrel
    have hszr := hK.size
    have hbx0 : wr.heap[w.heap.size]? = some (factsO mb eb n) := by rw [hK.block _ (by omega) (by omega)]; exact hbox
    have hbx := cell_of_block hbx0
    have hw9 : w.heap.size < wr.heap.size := by omega
    have hmr := hMr.lt
    have HK : Hid (Kp mb W.heap.size W wr) := hK
    have HM : Hid (MapIs wr mb ((namesOf g).take j)) := hMr
    clear hbx0 hK hMr
    by_cases hlt : j < g.length
    · have hSm : Sm A W wr := by
        refine ⟨fun u l hl => own_blocks hl (fun b hb => HK.out.block b (hl.lt b hb).2 ?_), fun b hb ha => HK.out.block b hb ?_⟩
        · intro e; subst e
          obtain ⟨cur, h1⟩ := own_block_type hl hb
          rw [HMB.out] at h1; cases h1
        · exact HA.out b ha
      have hGr : RGram wr A g (.slice (some ga) g.length gc) := HG.out.kept hSm
      obtain ⟨gb, a, c, rfl, hgb, hAgb, c0, c1, hCh, hnm⟩ := hGr.at j hlt
      have hnt := names_take g j hlt
      have htw : twiceAt (namesOf g) j = ((namesOf g).take j).contains g[j].name := by unfold twiceAt; rw [namesOf_get g j hlt]
      have hlk := fun O => (HM.out.below (below_alloc wr O)).lookOk g[j].name hnm
      have hlt' : (j : Int) < g.length := by omega
      have HNT : Hid ((namesOf g).take (j + 1) = (namesOf g).take j ++ [g[j].name]) := hnt
      have HTW : Hid (twiceAt (namesOf g) j = ((namesOf g).take j).contains g[j].name) := htw
      have HNM : Hid (g[j].name.length ≤ 2000) := hnm
      have htl : ((namesOf g).take j).length = j := by simp [namesOf]; omega
      clear hGr hCh hnt htw hSm hnm
      cases hcn : ((namesOf g).take j).contains g[j].name with
      | true =>
        simp only [hcn] at hlk
        have HF : Hid (FirstTwice (namesOf g) (some j)) := ⟨by simp [namesOf]; exact hlt, by rw [HTW.out]; exact hcn, hno.out⟩
        clear hcn hno
        go_wp2_with fail
        go_ret
        exact ⟨((Kp.of HB0.out).trans (HK.out.mono (by omega))).alloc (by omega) _, some j, HF.out, rfl, fun h => by cases h⟩
      | false =>
        simp only [hcn] at hlk
        have HN : Hid (∀ t, t < j + 1 → twiceAt (namesOf g) t = false) := by
          intro t ht
          by_cases e : t = j
          · subst e; rw [HTW.out]; exact hcn
          · exact hno.out t (by omega)
        have HCN : Hid (((namesOf g).take j).contains g[j].name = false) := hcn
        clear hcn hno
        obtain ⟨D, hown, hD⟩ := HM.out
        rw [htl] at hown
        have HD : Hid (∀ b, D.atKey (.string b) (.lit (.int .i64 0)) = .lit (.int .i64 (idx0 ((namesOf g).take j) b)) ∧ Maps.has D (.string b) = ((namesOf g).take j).contains b) := hD
        have hkey := key_of g[j].name HNM.out
        clear hD
        go_wp2_with (first | (at_mapUpdate; refine wpList_mapUpdate_own _ rfl _ _ _ 39 rfl 9 3 keyLaw Tryd.underlying39 _ mb j _ rfl (hown.alloc _) (by unfold maxLen; omega) _ _ _ rfl rfl hkey _ [] (plainElem_int Tryd.underlying3 (WalkArith.wf_i64 (by omega))) ?_))
        intro w1 hown1 hgrow1
        have hm1 : MapIs w1 mb ((namesOf g).take (j + 1)) := by
          rw [HNT.out]
          refine MapIs.put (w := wr) HD.out hown.isMap HCN.out ?_ HNM.out
          rw [htl]; exact hown1
        have hk1 : Kp mb W.heap.size W w1 := by
          have h1 : Kp mb W.heap.size W (wr.alloc (.cells #[.string ⟨g[j].name.toArray⟩, .slice a g[j].choice.length c] 90)) := HK.out.alloc hszr _
          exact h1.trans ⟨hgrow1.os, hgrow1.tape, hgrow1.output, hgrow1.size, fun b hb hne => hgrow1.block b (by simp; omega) (by simpa using hne)⟩
        clear hown1 hgrow1 hown hlk
        go_wp2_with fail
        go_roundg (g.length - (j + 1))
        case measure => omega
        case rel => exact ⟨j + 1, rfl, by omega, by go_num, hm1, hk1, HN⟩
    · have hjg : j = g.length := by omega
      have HF : Hid (FirstTwice (namesOf g) none) := fun t ht => hno.out t (by simp [namesOf] at ht; omega)
      have HM2 : Hid (MapIs wr mb (namesOf g)) := by
        have := HM.out
        rw [hjg, List.take_of_length_le (by simp [namesOf])] at this
        exact this
      clear hno
      go_wp2_with fail
      go_ret
      exact ⟨(Kp.of HB0.out).trans (HK.out.mono (by omega)), none, HF.out, rfl, fun _ => HM2.out⟩
end Go.Proofs.YtgfejacimdmkpaaDoor
