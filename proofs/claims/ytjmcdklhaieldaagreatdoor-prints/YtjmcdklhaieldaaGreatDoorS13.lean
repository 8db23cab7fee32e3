import Derived.Test.YtjmcdklhaieldaaGreatDoorS12
set_option linter.all false
namespace Go.Proofs.YtjmcdklhaieldaaGreatDoor
open Go.RowKit Go.WideMaps Go.Maps

def LeftIs (names : List Thk.Bytes) (E : List Bool) (g : List Thk.Rule) : Option Nat → Prop
  | none => ∀ i, i < g.length → Wm (dirM names E g) g.length i i = false
  | some i => i < g.length ∧ Wm (dirM names E g) g.length i i = true ∧ ∀ t, t < i → Wm (dirM names E g) g.length t t = false

/-- What is wrong with the rules, or which may take nothing. -/
inductive PLook (g : List Thk.Rule) : Except (Nat × Nat) (List Bool) → Prop
  | twice {i} : FirstTwice (namesOf g) (some i) → PLook g (.error (5, i))
  | unknown {i} : FirstTwice (namesOf g) none → FirstIs g (Thk.someC (unkT (namesOf g))) (some i) → PLook g (.error (6, i))
  | loop {E i} : FirstTwice (namesOf g) none → FirstIs g (Thk.someC (unkT (namesOf g))) none → E.length = g.length → Closed (namesOf g) g E → Least (namesOf g) g E → FirstIs g (Thk.someC (loopT (Eb (namesOf g) E))) (some i) → PLook g (.error (7, i))
  | left {E i} : FirstTwice (namesOf g) none → FirstIs g (Thk.someC (unkT (namesOf g))) none → E.length = g.length → Closed (namesOf g) g E → Least (namesOf g) g E → FirstIs g (Thk.someC (loopT (Eb (namesOf g) E))) none → LeftIs (namesOf g) E g (some i) → PLook g (.error (8, i))
  | ok {E} : FirstTwice (namesOf g) none → FirstIs g (Thk.someC (unkT (namesOf g))) none → E.length = g.length → Closed (namesOf g) g E → Least (namesOf g) g E → FirstIs g (Thk.someC (loopT (Eb (namesOf g) E))) none → LeftIs (namesOf g) E g none → PLook g (.ok E)

abbrev zFacts : Value := .agg #[.map none, .slice none 0 0]
abbrev zFactsO : Obj := .cells #[.map none, .slice none 0 0] 64

def LookPost (g : List Thk.Rule) (w : World) (e : Ending) (w' : World) : Prop :=
  ∃ res, PLook g res ∧ Below w.heap.size w w' ∧ match res with
    | .ok E => ∃ mb eb, e = .returned (.tuple #[factsV mb eb g.length, .nilIface]) ∧ FactsAt w' mb eb (namesOf g) E
    | .error (er, p) => e = .returned (.tuple #[zFacts, faultV er p])

theorem names_len (g : List Thk.Rule) : (namesOf g).length = g.length := by simp [namesOf]

theorem MapIs.empty {w : World} {mb : Nat} (h : w.heap[mb]? = some (.map #[] 0)) : MapIs w mb [] := by
  refine ⟨.map [], ⟨#[], 0, h, ⟨by simp, Go.MapKept.stamped_empty 0, by simp⟩, Nat.le_refl _, rfl⟩, ?_⟩
  intro b
  exact ⟨rfl, rfl⟩

/-- What stands of Look's own blocks. -/
structure LkAt (w : World) (g : List Thk.Rule) (A' : Nat → Prop) (ga : Addr) (gc : Nat) (wk : World) : Prop where
  below : Below w.heap.size w wk
  res : wk.heap[w.heap.size]? = some zFactsO
  var : wk.heap[w.heap.size + 3]? = some (factsO (w.heap.size + 1) (w.heap.size + 2) g.length)
  gram : RGram wk A' g (.slice (some ga) g.length gc)
  size : w.heap.size + 4 ≤ wk.heap.size

theorem LkAt.step {w : World} {g : List Thk.Rule} {A' : Nat → Prop} {ga : Addr} {gc : Nat} {wk w' : World} (h : LkAt w g A' ga gc wk) (hb : Below wk.heap.size wk w') : LkAt w g A' ga gc w' := by
  have hs := h.size
  have h1 := h.below.size
  have h2 := hb.size
  exact ⟨h.below.trans (hb.mono h1), by rw [hb.block _ (by omega)]; exact h.res, by rw [hb.block _ (by omega)]; exact h.var, h.gram.kept (sm_below hb), by omega⟩

theorem LkAt.stepB {w : World} {g : List Thk.Rule} {A' : Nat → Prop} {ga : Addr} {gc : Nat} {wk w' : World} {E : List Bool} (h : LkAt w g A' ga gc wk) (hk : Kp (w.heap.size + 2) wk.heap.size wk w') (he : wk.heap[w.heap.size + 2]? = some (boolsO E)) (hA : ∀ b, A' b → b < w.heap.size) : LkAt w g A' ga gc w' := by
  have hs := h.size
  have h1 := h.below.size
  have h2 := hk.size
  refine ⟨h.below.trans ⟨hk.os, hk.tape, hk.output, hk.size, fun k hk' => hk.block k (by omega) (by omega)⟩, ?_, ?_, ?_, by omega⟩
  · rw [hk.block _ (by omega) (by omega)]; exact h.res
  · rw [hk.block _ (by omega) (by omega)]; exact h.var
  · exact h.gram.kept (sm_kpB he hk (fun b hb => by have := hA b hb; omega))

set_option maxHeartbeats 8000000 in
set_option maxRecDepth 100000 in
theorem look_any (w : World) (A : Nat → Prop) (g : List Thk.Rule) (ga : Addr) (gc : Nat) (hG : RGram w A g (.slice (some ga) g.length gc)) (hgl : g.length ≤ 20) (hg0 : g ≠ []) :
    Calls Tryz.prog 48 #[.slice (some ga) g.length gc] w fun e w' => LookPost g w e w' := by
  obtain ⟨V, hV⟩ : ∃ V, V = (((w.alloc zFactsO).alloc (.map #[] 0)).alloc (boolsO (List.replicate g.length false))).alloc (factsO (w.heap.size + 1) (w.heap.size + 2) g.length) := ⟨_, rfl⟩
  have hVsz : V.heap.size = w.heap.size + 4 := by rw [hV]; simp
  have hBV : Below w.heap.size w V := by rw [hV]; exact (((below_alloc _ _).alloc (by simp) _).alloc (by simp; omega) _).alloc (by simp; omega) _
  have hVr : V.heap[w.heap.size]? = some zFactsO := by
    rw [hV, heap_alloc_old _ _ (by simp; omega), heap_alloc_old _ _ (by simp; omega), heap_alloc_old _ _ (by simp)]; exact heap_alloc_same _ _
  have hVm : V.heap[w.heap.size + 1]? = some (.map #[] 0) := by
    rw [hV, heap_alloc_old _ _ (by simp), heap_alloc_old _ _ (by simp)]; exact heap_alloc_at _ _ _ (by simp)
  have hVe : V.heap[w.heap.size + 2]? = some (boolsO (List.replicate g.length false)) := by
    rw [hV, heap_alloc_old _ _ (by simp)]; exact heap_alloc_at _ _ _ (by simp)
  have hVf : V.heap[w.heap.size + 3]? = some (factsO (w.heap.size + 1) (w.heap.size + 2) g.length) := by
    rw [hV]; exact heap_alloc_at _ _ _ (by simp)
  have hgp : 0 < g.length := by cases g with
    | nil => exact absurd rfl hg0
    | cons _ _ => simp
  obtain ⟨A', hA'⟩ : ∃ A' : Nat → Prop, A' = fun b => A b ∧ b < w.heap.size := ⟨_, rfl⟩
  have hA1 : ∀ b, A' b → b < w.heap.size := fun b hb => by rw [hA'] at hb; exact hb.2
  have hG1 : RGram V A' g (.slice (some ga) g.length gc) := by
    have h1 : RGram w A' g (.slice (some ga) g.length gc) := by
      obtain ⟨vs, hr, hrs⟩ := hG
      exact ⟨vs, hr.mono (fun b h1 h2 => by rw [hA']; exact ⟨h2, h1⟩), RRules.mono (fun b h1 h2 => by rw [hA']; exact ⟨h2, h1⟩) hrs⟩
    exact h1.kept (sm_below hBV)
  have HA1 : Hid (∀ b, A' b → b < w.heap.size) := hA1
  have HG1 : Hid (RGram V A' g (.slice (some ga) g.length gc)) := hG1
  have HBV : Hid (Below w.heap.size w V) := hBV
  have HVE : Hid (V.heap[w.heap.size + 2]? = some (boolsO (List.replicate g.length false))) := hVe
  have HVR : Hid (V.heap[w.heap.size]? = some zFactsO) := hVr
  have HVF : Hid (V.heap[w.heap.size + 3]? = some (factsO (w.heap.size + 1) (w.heap.size + 2) g.length)) := hVf
  have hnum := number_any V (w.heap.size + 1) (w.heap.size + 2) g.length A' g ga gc (MapIs.empty hVm) hG1 (fun b hb => by have := hA1 b hb; omega) hgl
  have hmk := make_bools g.length hgl
  have hmm := @run_makeMap Tryz.prog
  have hmf : ∀ (fn : Fn) (first cap : Array Value) (w : World), (Instr.makeFunc fn first cap).run Tryz.prog w = .ok (.func fn first cap) w := fun _ _ _ _ => rfl
  simp only [factsV] at hnum
  clear hG hG1 hA1 hA' hBV hVm hVe hVr hVf
  go_enter Tryz.func48, Tryz.ntmps48
  go_wp2_with fail
  rw [← hV]
  refine hnum.mono ?_
  rintro e w1 ⟨hK1, o, hft, rfl, hm1⟩
  have hs1 := hK1.size
  have hL1 : LkAt w g A' ga gc w1 := by
    refine ⟨HBV.out.trans ⟨hK1.os, hK1.tape, hK1.output, hK1.size, fun k hk => hK1.block k (by omega) (by omega)⟩, ?_, ?_, ?_, by omega⟩
    · rw [hK1.block _ (by omega) (by omega)]; exact HVR.out
    · rw [hK1.block _ (by omega) (by omega)]; exact HVF.out
    · refine HG1.out.kept ⟨fun u l hl => own_blocks hl (fun b hb => hK1.block b (hl.lt b hb).2 ?_), fun b hb ha => hK1.block b hb (by have := HA1.out b ha; omega)⟩
      intro e; subst e
      obtain ⟨cur, h1⟩ := own_block_type hl hb
      have : V.heap[w.heap.size + 1]? = some (.map #[] 0) := by
        rw [hV, heap_alloc_old _ _ (by simp), heap_alloc_old _ _ (by simp)]; exact heap_alloc_at _ _ _ (by simp)
      rw [this] at h1; cases h1
  have he1 : w1.heap[w.heap.size + 2]? = some (boolsO (List.replicate g.length false)) := by
    rw [hK1.block _ (by omega) (by omega)]; exact HVE.out
  have L1 : Hid (LkAt w g A' ga gc w1) := hL1
  have q1 := cell_of_block hL1.res
  have f1 := frozen_of_block hL1.res
  have v1 := cell_of_block hL1.var
  have hlt1 : w.heap.size < w1.heap.size := by omega
  have HFT : Hid (FirstTwice (namesOf g) o) := hft
  clear hnum hK1 hft hL1 hmk hmm HBV HVE HVR HVF HG1 hV
  cases o with
  | some i =>
    simp only [faultO, faultV]
    clear hm1
    go_wp2_with fail
    refine bodyPost_ret (v := .tuple #[zFacts, faultV 5 i]) (by simp [results, Tryz.results48, go_sem, faultV, q1, hlt1]) rfl ?_
    exact ⟨.error (5, i), .twice HFT.out, (L1.out.below.setCell (Nat.le_refl _) _).setCell (Nat.le_refl _) _, rfl⟩
  | none =>
    have hm1 := hm1 rfl
    have hF1 : FactsAt w1 (w.heap.size + 1) (w.heap.size + 2) (namesOf g) (List.replicate g.length false) := ⟨hm1, he1, by simp [names_len], by rw [names_len]; exact hgp, by rw [names_len]; exact hgl⟩
    have hfu := firstU_any w1 (w.heap.size + 1) (w.heap.size + 2) (namesOf g) (List.replicate g.length false) A' g ga gc 6 hF1 L1.out.gram hgl
    rw [names_len] at hfu
    have HF1 : Hid (FactsAt w1 (w.heap.size + 1) (w.heap.size + 2) (namesOf g) (List.replicate g.length false)) := hF1
    simp only [factsV] at hfu
    clear hm1 hF1 he1
    simp only [faultO]
    go_wp2_with fail
    refine hfu.mono ?_
    rintro e w2 ⟨hb2, o2, hfi2, rfl⟩
    have hL2 := L1.out.step hb2
    have hs2 := hb2.size
    have L2 : Hid (LkAt w g A' ga gc w2) := hL2
    have q2 := cell_of_block hL2.res
    have f2 := frozen_of_block hL2.res
    have v2 := cell_of_block hL2.var
    have hlt2 : w.heap.size < w2.heap.size := by omega
    have HFI2 : Hid (FirstIs g (Thk.someC (unkT (namesOf g))) o2) := hfi2
    have HF2 : Hid (FactsAt w2 (w.heap.size + 1) (w.heap.size + 2) (namesOf g) (List.replicate g.length false)) := HF1.out.below hb2
    clear hfu hb2 hfi2 hL2 q1 f1 v1
    cases o2 with
    | some i =>
      simp only [faultO, faultV]
      go_wp2_with fail
      refine bodyPost_ret (v := .tuple #[zFacts, faultV 6 i]) (by simp [results, Tryz.results48, go_sem, faultV, q2, hlt2]) rfl ?_
      exact ⟨.error (6, i), .unknown HFT.out HFI2.out, (L2.out.below.setCell (Nat.le_refl _) _).setCell (Nat.le_refl _) _, rfl⟩
    | none =>
      have hfe := findEmpty_any w2 (w.heap.size + 1) (w.heap.size + 2) (namesOf g) (List.replicate g.length false) A' g ga gc HF2.out L2.out.gram (fun b hb => by have := HA1.out b hb; omega) (names_len g).symm (fun F _ i hi => by simp [List.getD_eq_getElem?_getD, List.getElem?_replicate] at hi; split at hi <;> simp_all)
      rw [names_len] at hfe
      simp only [factsV] at hfe
      simp only [faultO]
      go_wp2_with fail
      refine hfe.mono ?_
      rintro e w3 ⟨rfl, hK3, E, hF3, hcl3, hle3⟩
      have hL3 := L2.out.stepB hK3 HF2.out.emp HA1.out
      have hs3 := hK3.size
      have L3 : Hid (LkAt w g A' ga gc w3) := hL3
      have v3 := cell_of_block hL3.var
      have hlt3 : w.heap.size < w3.heap.size := by omega
      have HCL : Hid (Closed (namesOf g) g E) := hcl3
      have HLE : Hid (Least (namesOf g) g E) := hle3
      have HEL : Hid (E.length = g.length) := by show _ = _; rw [hF3.len, names_len]
      have hfl := firstL_any w3 (w.heap.size + 1) (w.heap.size + 2) (namesOf g) E A' g ga gc 7 hF3 hL3.gram hgl
      rw [names_len] at hfl
      simp only [factsV] at hfl
      have HF3 : Hid (FactsAt w3 (w.heap.size + 1) (w.heap.size + 2) (namesOf g) E) := hF3
      clear hfe hK3 hF3 hcl3 hle3 hL3 q2 f2 v2
      go_wp2_with fail
      refine hfl.mono ?_
      rintro e w4 ⟨hb4, o4, hfi4, rfl⟩
      have hL4 := L3.out.step hb4
      have hs4 := hb4.size
      have L4 : Hid (LkAt w g A' ga gc w4) := hL4
      have q4 := cell_of_block hL4.res
      have f4 := frozen_of_block hL4.res
      have v4 := cell_of_block hL4.var
      have hlt4 : w.heap.size < w4.heap.size := by omega
      have HFI4 : Hid (FirstIs g (Thk.someC (loopT (Eb (namesOf g) E))) o4) := hfi4
      have HF4 : Hid (FactsAt w4 (w.heap.size + 1) (w.heap.size + 2) (namesOf g) E) := HF3.out.below hb4
      clear hfl hb4 hfi4 hL4 v3
      cases o4 with
      | some i =>
        simp only [faultO, faultV]
        go_wp2_with fail
        refine bodyPost_ret (v := .tuple #[zFacts, faultV 7 i]) (by simp [results, Tryz.results48, go_sem, faultV, q4, hlt4]) rfl ?_
        exact ⟨.error (7, i), .loop HFT.out HFI2.out HEL.out HCL.out HLE.out HFI4.out, (L4.out.below.setCell (Nat.le_refl _) _).setCell (Nat.le_refl _) _, rfl⟩
      | none =>
        have hcl := checkLeft_any w4 (w.heap.size + 1) (w.heap.size + 2) (namesOf g) E A' g ga gc HF4.out L4.out.gram (fun b hb => by have := HA1.out b hb; omega) (names_len g).symm
        rw [names_len] at hcl
        simp only [factsV] at hcl
        simp only [faultO]
        go_wp2_with fail
        refine hcl.mono ?_
        rintro e w5 ⟨hb5, o5, rfl, hlf⟩
        have hL5 := L4.out.step hb5
        have hs5 := hb5.size
        have L5 : Hid (LkAt w g A' ga gc w5) := hL5
        have q5 := cell_of_block hL5.res
        have f5 := frozen_of_block hL5.res
        have v5 := cell_of_block hL5.var
        have hlt5 : w.heap.size < w5.heap.size := by omega
        have HLF : Hid (LeftIs (namesOf g) E g o5) := by cases o5 <;> exact hlf
        have HF5 : Hid (FactsAt w5 (w.heap.size + 1) (w.heap.size + 2) (namesOf g) E) := HF4.out.below hb5
        clear hcl hb5 hlf hL5 q4 f4 v4
        cases o5 with
        | some i =>
          simp only [faultO, faultV]
          go_wp2_with fail
          refine bodyPost_ret (v := .tuple #[zFacts, faultV 8 i]) (by simp [results, Tryz.results48, go_sem, faultV, q5, hlt5]) rfl ?_
          exact ⟨.error (8, i), .left HFT.out HFI2.out HEL.out HCL.out HLE.out HFI4.out HLF.out, (L5.out.below.setCell (Nat.le_refl _) _).setCell (Nat.le_refl _) _, rfl⟩
        | none =>
          simp only [faultO]
          go_wp2_with fail
          refine bodyPost_ret (v := .tuple #[factsV (w.heap.size + 1) (w.heap.size + 2) g.length, .nilIface]) (by simp [results, Tryz.results48, go_sem, factsV, q5, hlt5]) rfl ?_
          refine ⟨.ok E, .ok HFT.out HFI2.out HEL.out HCL.out HLE.out HFI4.out HLF.out, (L5.out.below.setCell (Nat.le_refl _) _).setCell (Nat.le_refl _) _, _, _, rfl, ?_⟩
          exact HF5.out.blocks (by rw [Below.heap_setCell _ _ _ _ (by simp only []; omega), Below.heap_setCell _ _ _ _ (by simp only []; omega)]) (by rw [Below.heap_setCell _ _ _ _ (by simp only []; omega), Below.heap_setCell _ _ _ _ (by simp only []; omega)])
end Go.Proofs.YtjmcdklhaieldaaGreatDoor
