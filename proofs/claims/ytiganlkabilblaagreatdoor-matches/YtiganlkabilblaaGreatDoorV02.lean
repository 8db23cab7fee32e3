import Derived.Test.YtiganlkabilblaaGreatDoorV01
import Derived.LaidEql
import Derived.Stop.Asserts
import Derived.RowKitTokens
import Derived.Test.YtiganlkabilblaaGreatDoorV00
import Derived.Deep.AppendLies
import Derived.Deep.LoopGhost
set_option linter.all false
namespace Go.Proofs.YtiganlkabilblaaGreatDoor
open Go.RowKit Go.WideMaps Go.Maps
def LeftIs (names : List Thk.Bytes) (E : List Bool) (g : List Thk.Rule) : Option Nat → Prop
  | none => ∀ i, i < g.length → Wm (dirM names E g) g.length i i = false
  | some i => i < g.length ∧ Wm (dirM names E g) g.length i i = true ∧ ∀ t, t < i → Wm (dirM names E g) g.length t t = false
/-- What is wrong with the rules, or which may take nothing. -/
inductive PLook (g : List Thk.Rule) : Except (Nat × Nat) (List Bool) → Prop
  | twice {i} : FirstTwice (namesOf g) (some i) → PLook g (.error (5, i))
  | unknown {i} : FirstTwice (namesOf g) none → FirstIs g (Thk.someC (unkT (namesOf g))) (some i) → PLook g (.error (6, i))
  | loop {E i} : FirstTwice (namesOf g) none → FirstIs g (Thk.someC (unkT (namesOf g))) none → E.length = g.length → Closed (namesOf g) g E → Least (namesOf g) g E → FirstIs g (Thk.someC (loopT (Eb (namesOf g) E))) (some i) → PLook g (.error (7, i))
  | left {E i} : FirstTwice (namesOf g) none → FirstIs g (Thk.someC (unkT (namesOf g))) none → E.length = g.length → Closed (namesOf g) g E → Least (namesOf g) g E → FirstIs g (Thk.someC (loopT (Eb (namesOf g) E))) none → LeftIs (namesOf g) E g (some i) → PLook g (.error (8, i))
  | ok {E} : FirstTwice (namesOf g) none → FirstIs g (Thk.someC (unkT (namesOf g))) none → E.length = g.length → Closed (namesOf g) g E → Least (namesOf g) g E → FirstIs g (Thk.someC (loopT (Eb (namesOf g) E))) none → LeftIs (namesOf g) E g none → PLook g (.ok E)
abbrev zFacts : Value := .agg #[.map none, .slice none 0 0]
abbrev zFactsO : Obj := .cells #[.map none, .slice none 0 0] 76
def LookPost (g : List Thk.Rule) (w : World) (e : Ending) (w' : World) : Prop :=
  ∃ res, PLook g res ∧ Below w.heap.size w w' ∧ match res with
    | .ok E => ∃ mb eb, e = .returned (.tuple #[factsV mb eb g.length, .nilIface]) ∧ FactsAt w' mb eb (namesOf g) E
    | .error (er, p) => e = .returned (.tuple #[zFacts, faultV er p])
theorem names_len (g : List Thk.Rule) : (namesOf g).length = g.length := by simp [namesOf]
theorem MapIs.empty {w : World} {mb : Nat} (h : w.heap[mb]? = some (.map #[] 0)) : MapIs w mb [] := by
  refine ⟨.map [], ⟨#[], 0, h, ⟨by simp, Go.MapKept.stamped_empty 0, by simp⟩, Nat.le_refl _, rfl⟩, ?_⟩
  intro b
  exact ⟨rfl, rfl⟩
/-- What stands of Look's own blocks. -/
structure LkAt (w : World) (g : List Thk.Rule) (A' : Nat → Prop) (ga : Addr) (gc : Nat) (wk : World) : Prop where
  below : Below w.heap.size w wk
  res : wk.heap[w.heap.size]? = some zFactsO
  var : wk.heap[w.heap.size + 3]? = some (factsO (w.heap.size + 1) (w.heap.size + 2) g.length)
  gram : RGram wk A' g (.slice (some ga) g.length gc)
  size : w.heap.size + 4 ≤ wk.heap.size
theorem LkAt.step {w : World} {g : List Thk.Rule} {A' : Nat → Prop} {ga : Addr} {gc : Nat} {wk w' : World} (h : LkAt w g A' ga gc wk) (hb : Below wk.heap.size wk w') : LkAt w g A' ga gc w' := by
  have hs := h.size
  have h1 := h.below.size
  have h2 := hb.size
  exact ⟨h.below.trans (hb.mono h1), by rw [hb.block _ (by omega)]; exact h.res, by rw [hb.block _ (by omega)]; exact h.var, h.gram.kept (sm_below hb), by omega⟩
theorem LkAt.stepB {w : World} {g : List Thk.Rule} {A' : Nat → Prop} {ga : Addr} {gc : Nat} {wk w' : World} {E : List Bool} (h : LkAt w g A' ga gc wk) (hk : Kp (w.heap.size + 2) wk.heap.size wk w') (he : wk.heap[w.heap.size + 2]? = some (boolsO E)) (hA : ∀ b, A' b → b < w.heap.size) : LkAt w g A' ga gc w' := by
  have hs := h.size
  have h1 := h.below.size
  have h2 := hk.size
  refine ⟨h.below.trans ⟨hk.os, hk.tape, hk.output, hk.size, fun k hk' => hk.block k (by omega) (by omega)⟩, ?_, ?_, ?_, by omega⟩
  · rw [hk.block _ (by omega) (by omega)]; exact h.res
  · rw [hk.block _ (by omega) (by omega)]; exact h.var
  · exact h.gram.kept (sm_kpB he hk (fun b hb => by have := hA b hb; omega))
set_option maxHeartbeats 8000000 in
set_option maxRecDepth 100000 in
theorem look_any (w : World) (A : Nat → Prop) (g : List Thk.Rule) (ga : Addr) (gc : Nat) (hG : RGram w A g (.slice (some ga) g.length gc)) (hgl : g.length ≤ 20) (hg0 : g ≠ []) :
    Calls Tryz.prog 62 #[.slice (some ga) g.length gc] w fun e w' => LookPost g w e w' := by
  obtain ⟨V, hV⟩ : ∃ V, V = (((w.alloc zFactsO).alloc (.map #[] 0)).alloc (boolsO (List.replicate g.length false))).alloc (factsO (w.heap.size + 1) (w.heap.size + 2) g.length) := ⟨_, rfl⟩
  have hVsz : V.heap.size = w.heap.size + 4 := by rw [hV]; simp
  have hBV : Below w.heap.size w V := by rw [hV]; exact (((below_alloc _ _).alloc (by simp) _).alloc (by simp; omega) _).alloc (by simp; omega) _
  have hVr : V.heap[w.heap.size]? = some zFactsO := by
    rw [hV, heap_alloc_old _ _ (by simp; omega), heap_alloc_old _ _ (by simp; omega), heap_alloc_old _ _ (by simp)]; exact heap_alloc_same _ _
  have hVm : V.heap[w.heap.size + 1]? = some (.map #[] 0) := by
    rw [hV, heap_alloc_old _ _ (by simp), heap_alloc_old _ _ (by simp)]; exact heap_alloc_at _ _ _ (by simp)
  have hVe : V.heap[w.heap.size + 2]? = some (boolsO (List.replicate g.length false)) := by
    rw [hV, heap_alloc_old _ _ (by simp)]; exact heap_alloc_at _ _ _ (by simp)
  have hVf : V.heap[w.heap.size + 3]? = some (factsO (w.heap.size + 1) (w.heap.size + 2) g.length) := by
    rw [hV]; exact heap_alloc_at _ _ _ (by simp)
  have hgp : 0 < g.length := by cases g with
    | nil => exact absurd rfl hg0
    | cons _ _ => simp
  obtain ⟨A', hA'⟩ : ∃ A' : Nat → Prop, A' = fun b => A b ∧ b < w.heap.size := ⟨_, rfl⟩
  have hA1 : ∀ b, A' b → b < w.heap.size := fun b hb => by rw [hA'] at hb; exact hb.2
  have hG1 : RGram V A' g (.slice (some ga) g.length gc) := by
    have h1 : RGram w A' g (.slice (some ga) g.length gc) := by
      obtain ⟨vs, hr, hrs⟩ := hG
      exact ⟨vs, hr.mono (fun b h1 h2 => by rw [hA']; exact ⟨h2, h1⟩), RRules.mono (fun b h1 h2 => by rw [hA']; exact ⟨h2, h1⟩) hrs⟩
    exact h1.kept (sm_below hBV)
  have HA1 : Hid (∀ b, A' b → b < w.heap.size) := hA1
  have HG1 : Hid (RGram V A' g (.slice (some ga) g.length gc)) := hG1
  have HBV : Hid (Below w.heap.size w V) := hBV
  have HVE : Hid (V.heap[w.heap.size + 2]? = some (boolsO (List.replicate g.length false))) := hVe
  have HVR : Hid (V.heap[w.heap.size]? = some zFactsO) := hVr
  have HVF : Hid (V.heap[w.heap.size + 3]? = some (factsO (w.heap.size + 1) (w.heap.size + 2) g.length)) := hVf
  have hnum := number_any V (w.heap.size + 1) (w.heap.size + 2) g.length A' g ga gc (MapIs.empty hVm) hG1 (fun b hb => by have := hA1 b hb; omega) hgl
  have hmk := make_bools g.length hgl
  have hmm := @run_makeMap Tryz.prog
  have hmf : ∀ (fn : Fn) (first cap : Array Value) (w : World), (Instr.makeFunc fn first cap).run Tryz.prog w = .ok (.func fn first cap) w := fun _ _ _ _ => rfl
  simp only [factsV] at hnum
  clear hG hG1 hA1 hA' hBV hVm hVe hVr hVf
  go_enter Tryz.func62, Tryz.ntmps62
  go_wp2_with fail
  rw [← hV]
  refine hnum.mono ?_
  rintro e w1 ⟨hK1, o, hft, rfl, hm1⟩
  have hs1 := hK1.size
  have hL1 : LkAt w g A' ga gc w1 := by
    refine ⟨HBV.out.trans ⟨hK1.os, hK1.tape, hK1.output, hK1.size, fun k hk => hK1.block k (by omega) (by omega)⟩, ?_, ?_, ?_, by omega⟩
    · rw [hK1.block _ (by omega) (by omega)]; exact HVR.out
    · rw [hK1.block _ (by omega) (by omega)]; exact HVF.out
    · refine HG1.out.kept ⟨fun u l hl => own_blocks hl (fun b hb => hK1.block b (hl.lt b hb).2 ?_), fun b hb ha => hK1.block b hb (by have := HA1.out b ha; omega)⟩
      intro e; subst e
      obtain ⟨cur, h1⟩ := own_block_type hl hb
      have : V.heap[w.heap.size + 1]? = some (.map #[] 0) := by
        rw [hV, heap_alloc_old _ _ (by simp), heap_alloc_old _ _ (by simp)]; exact heap_alloc_at _ _ _ (by simp)
      rw [this] at h1; cases h1
  have he1 : w1.heap[w.heap.size + 2]? = some (boolsO (List.replicate g.length false)) := by
    rw [hK1.block _ (by omega) (by omega)]; exact HVE.out
  have L1 : Hid (LkAt w g A' ga gc w1) := hL1
  have q1 := cell_of_block hL1.res
  have f1 := frozen_of_block hL1.res
  have v1 := cell_of_block hL1.var
  have hlt1 : w.heap.size < w1.heap.size := by omega
  have HFT : Hid (FirstTwice (namesOf g) o) := hft
  clear hnum hK1 hft hL1 hmk hmm HBV HVE HVR HVF HG1 hV
  cases o with
  | some i =>
    simp only [faultO, faultV]
    clear hm1
    go_wp2_with fail
    refine bodyPost_ret (v := .tuple #[zFacts, faultV 5 i]) (by simp [results, Tryz.results62, go_sem, faultV, q1, hlt1]) rfl ?_
    exact ⟨.error (5, i), .twice HFT.out, (L1.out.below.setCell (Nat.le_refl _) _).setCell (Nat.le_refl _) _, rfl⟩
  | none =>
    have hm1 := hm1 rfl
    have hF1 : FactsAt w1 (w.heap.size + 1) (w.heap.size + 2) (namesOf g) (List.replicate g.length false) := ⟨hm1, he1, by simp [names_len], by rw [names_len]; exact hgp, by rw [names_len]; exact hgl⟩
    have hfu := firstU_any w1 (w.heap.size + 1) (w.heap.size + 2) (namesOf g) (List.replicate g.length false) A' g ga gc 6 hF1 L1.out.gram hgl
    rw [names_len] at hfu
    have HF1 : Hid (FactsAt w1 (w.heap.size + 1) (w.heap.size + 2) (namesOf g) (List.replicate g.length false)) := hF1
    simp only [factsV] at hfu
    clear hm1 hF1 he1
    simp only [faultO]
    go_wp2_with fail
    refine hfu.mono ?_
    rintro e w2 ⟨hb2, o2, hfi2, rfl⟩
    have hL2 := L1.out.step hb2
    have hs2 := hb2.size
    have L2 : Hid (LkAt w g A' ga gc w2) := hL2
    have q2 := cell_of_block hL2.res
    have f2 := frozen_of_block hL2.res
    have v2 := cell_of_block hL2.var
    have hlt2 : w.heap.size < w2.heap.size := by omega
    have HFI2 : Hid (FirstIs g (Thk.someC (unkT (namesOf g))) o2) := hfi2
    have HF2 : Hid (FactsAt w2 (w.heap.size + 1) (w.heap.size + 2) (namesOf g) (List.replicate g.length false)) := HF1.out.below hb2
    clear hfu hb2 hfi2 hL2 q1 f1 v1
    cases o2 with
    | some i =>
      simp only [faultO, faultV]
      go_wp2_with fail
      refine bodyPost_ret (v := .tuple #[zFacts, faultV 6 i]) (by simp [results, Tryz.results62, go_sem, faultV, q2, hlt2]) rfl ?_
      exact ⟨.error (6, i), .unknown HFT.out HFI2.out, (L2.out.below.setCell (Nat.le_refl _) _).setCell (Nat.le_refl _) _, rfl⟩
    | none =>
      have hfe := findEmpty_any w2 (w.heap.size + 1) (w.heap.size + 2) (namesOf g) (List.replicate g.length false) A' g ga gc HF2.out L2.out.gram (fun b hb => by have := HA1.out b hb; omega) (names_len g).symm (fun F _ i hi => by simp [List.getD_eq_getElem?_getD, List.getElem?_replicate] at hi; split at hi <;> simp_all)
      rw [names_len] at hfe
      simp only [factsV] at hfe
      simp only [faultO]
      go_wp2_with fail
      refine hfe.mono ?_
      rintro e w3 ⟨rfl, hK3, E, hF3, hcl3, hle3⟩
      have hL3 := L2.out.stepB hK3 HF2.out.emp HA1.out
      have hs3 := hK3.size
      have L3 : Hid (LkAt w g A' ga gc w3) := hL3
      have v3 := cell_of_block hL3.var
      have hlt3 : w.heap.size < w3.heap.size := by omega
      have HCL : Hid (Closed (namesOf g) g E) := hcl3
      have HLE : Hid (Least (namesOf g) g E) := hle3
      have HEL : Hid (E.length = g.length) := by show _ = _; rw [hF3.len, names_len]
      have hfl := firstL_any w3 (w.heap.size + 1) (w.heap.size + 2) (namesOf g) E A' g ga gc 7 hF3 hL3.gram hgl
      rw [names_len] at hfl
      simp only [factsV] at hfl
      have HF3 : Hid (FactsAt w3 (w.heap.size + 1) (w.heap.size + 2) (namesOf g) E) := hF3
      clear hfe hK3 hF3 hcl3 hle3 hL3 q2 f2 v2
      go_wp2_with fail
      refine hfl.mono ?_
      rintro e w4 ⟨hb4, o4, hfi4, rfl⟩
      have hL4 := L3.out.step hb4
      have hs4 := hb4.size
      have L4 : Hid (LkAt w g A' ga gc w4) := hL4
      have q4 := cell_of_block hL4.res
      have f4 := frozen_of_block hL4.res
      have v4 := cell_of_block hL4.var
      have hlt4 : w.heap.size < w4.heap.size := by omega
      have HFI4 : Hid (FirstIs g (Thk.someC (loopT (Eb (namesOf g) E))) o4) := hfi4
      have HF4 : Hid (FactsAt w4 (w.heap.size + 1) (w.heap.size + 2) (namesOf g) E) := HF3.out.below hb4
      clear hfl hb4 hfi4 hL4 v3
      cases o4 with
      | some i =>
        simp only [faultO, faultV]
        go_wp2_with fail
        refine bodyPost_ret (v := .tuple #[zFacts, faultV 7 i]) (by simp [results, Tryz.results62, go_sem, faultV, q4, hlt4]) rfl ?_
        exact ⟨.error (7, i), .loop HFT.out HFI2.out HEL.out HCL.out HLE.out HFI4.out, (L4.out.below.setCell (Nat.le_refl _) _).setCell (Nat.le_refl _) _, rfl⟩
      | none =>
        have hcl := checkLeft_any w4 (w.heap.size + 1) (w.heap.size + 2) (namesOf g) E A' g ga gc HF4.out L4.out.gram (fun b hb => by have := HA1.out b hb; omega) (names_len g).symm
        rw [names_len] at hcl
        simp only [factsV] at hcl
        simp only [faultO]
        go_wp2_with fail
        refine hcl.mono ?_
        rintro e w5 ⟨hb5, o5, rfl, hlf⟩
        have hL5 := L4.out.step hb5
        have hs5 := hb5.size
        have L5 : Hid (LkAt w g A' ga gc w5) := hL5
        have q5 := cell_of_block hL5.res
        have f5 := frozen_of_block hL5.res
        have v5 := cell_of_block hL5.var
        have hlt5 : w.heap.size < w5.heap.size := by omega
        have HLF : Hid (LeftIs (namesOf g) E g o5) := by cases o5 <;> exact hlf
        have HF5 : Hid (FactsAt w5 (w.heap.size + 1) (w.heap.size + 2) (namesOf g) E) := HF4.out.below hb5
        clear hcl hb5 hlf hL5 q4 f4 v4
        cases o5 with
        | some i =>
          simp only [faultO, faultV]
          go_wp2_with fail
          refine bodyPost_ret (v := .tuple #[zFacts, faultV 8 i]) (by simp [results, Tryz.results62, go_sem, faultV, q5, hlt5]) rfl ?_
          exact ⟨.error (8, i), .left HFT.out HFI2.out HEL.out HCL.out HLE.out HFI4.out HLF.out, (L5.out.below.setCell (Nat.le_refl _) _).setCell (Nat.le_refl _) _, rfl⟩
        | none =>
          simp only [faultO]
          go_wp2_with fail
          refine bodyPost_ret (v := .tuple #[factsV (w.heap.size + 1) (w.heap.size + 2) g.length, .nilIface]) (by simp [results, Tryz.results62, go_sem, factsV, q5, hlt5]) rfl ?_
          refine ⟨.ok E, .ok HFT.out HFI2.out HEL.out HCL.out HLE.out HFI4.out HLF.out, (L5.out.below.setCell (Nat.le_refl _) _).setCell (Nat.le_refl _) _, _, _, rfl, ?_⟩
          exact HF5.out.blocks (by rw [Below.heap_setCell _ _ _ _ (by simp only []; omega), Below.heap_setCell _ _ _ _ (by simp only []; omega)]) (by rw [Below.heap_setCell _ _ _ _ (by simp only []; omega), Below.heap_setCell _ _ _ _ (by simp only []; omega)])
end Go.Proofs.YtiganlkabilblaaGreatDoor
namespace Go.Proofs.YtiganlkabilblaaGreatDoor
open Go.RowKit Go.Extern.Stop Go.Stop Go.Extern
/-- errors.As(nil, target). -/
theorem as_nil (t : Value) (w : World) :
    Calls Tryz.prog 63 #[.nilIface, t] w fun e w' => e = .returned (.bool false) ∧ w' = w := by
  go_enter Tryz.func63, Tryz.ntmps63
  go_wp2
  go_ret
  exact ⟨rfl, rfl⟩
theorem Tryz.valueOfP (t : Addr) (w : World) : (ReflectliteValue.unpack (.iface 130 (.pointer (some t)))).run Tryz.prog w
    = .ok (.agg #[.pointer (some ⟨2, 130, none⟩), .pointer (some ⟨w.heap.size, 0, none⟩), .int .u64 150]) (w.alloc (.cells #[.pointer (some t)] 130)) := by kernel_rfl
theorem Tryz.typeP (a : Addr) (w : World) : (ReflectliteValue.methodAny (ReflectliteValue.valueError "reflectlite.Value.Type" 0) (fun t _ _ _ => ReflectliteType.toType t) #[.agg #[.pointer (some ⟨2, 130, none⟩), .pointer (some a), .int .u64 150]]).run Tryz.prog w
    = .ok (.iface 259 (.agg #[.pointer (some ⟨2, 130, none⟩)])) w := by kernel_rfl
theorem Tryz.kindP (w : World) : ((ReflectliteType.abiMethod fun t => (fun a : Nat => Value.int IntKind.u8 (a : Int)) <$> Rtype.kind t) #[.pointer (some ⟨2, 130, none⟩)]).run Tryz.prog w = .ok (.int .u8 22) w := by kernel_rfl
theorem Tryz.kindF (w : World) : ((ReflectliteType.abiMethod fun t => (fun a : Nat => Value.int IntKind.u8 (a : Int)) <$> Rtype.kind t) #[.pointer (some ⟨2, 128, none⟩)]).run Tryz.prog w = .ok (.int .u8 25) w := by kernel_rfl
theorem Tryz.elemP (w : World) : (ReflectliteType.method ReflectliteType.elem #[.agg #[.pointer (some ⟨2, 130, none⟩)]]).run Tryz.prog w = .ok (.iface 259 (.agg #[.pointer (some ⟨2, 128, none⟩)])) w := by kernel_rfl
theorem Tryz.implF (w : World) : (ReflectliteType.relation "Implements" ReflectliteType.implements_ #[.agg #[.pointer (some ⟨2, 128, none⟩)], .iface 259 (.agg #[.pointer (some ⟨2, 78, none⟩)])]).run Tryz.prog w = .ok (.bool true) w := by kernel_rfl
theorem Tryz.typeOfF (v : Value) (w : World) : (ReflectliteType.typeOf #[.iface 128 v]).run Tryz.prog w = .ok (.iface 259 (.agg #[.pointer (some ⟨2, 128, none⟩)])) w := by kernel_rfl
theorem Tryz.assignF (w : World) : (ReflectliteType.relation "AssignableTo" ReflectliteType.assignableTo #[.agg #[.pointer (some ⟨2, 128, none⟩)], .iface 259 (.agg #[.pointer (some ⟨2, 128, none⟩)])]).run Tryz.prog w = .ok (.bool true) w := by kernel_rfl
theorem Tryz.valueOfF (a b : Int) (w : World) : (ReflectliteValue.unpack (.iface 128 (.agg #[.int .i64 a, .int .i64 b]))).run Tryz.prog w
    = .ok (.agg #[.pointer (some ⟨2, 128, none⟩), .pointer (some ⟨w.heap.size, 0, none⟩), .int .u64 153]) (w.alloc (.cells #[.int .i64 a, .int .i64 b] 128)) := by kernel_rfl
theorem Tryz.elemOfP (w : World) : (Rtype.elem? 130).run Tryz.prog w = .ok (some 128) w := by kernel_rfl
theorem Tryz.mkF (p : Addr) (w : World) : (ReflectliteValue.mk 128 p ReflectliteValue.flagAddr).run Tryz.prog w = .ok (.agg #[.pointer (some ⟨2, 128, none⟩), .pointer (some p), .int .u64 409]) w := by kernel_rfl
theorem Tryz.isAggF (w : World) : (isAgg 128).run Tryz.prog w = .ok true w := by kernel_rfl
theorem Tryz.sizeF (w : World) : (sizeOf 128).run Tryz.prog w = .ok 2 w := by kernel_rfl
end Go.Proofs.YtiganlkabilblaaGreatDoor
namespace Go.Proofs.YtiganlkabilblaaGreatDoor
open Go.RowKit Go.Extern.Stop Go.Stop Go.Extern
theorem Tryz.isNilRun (a : Addr) (W : World) : (ReflectliteValue.method (ReflectliteValue.valueError "reflectlite.Value.IsNil" 0) ReflectliteValue.isNil #[.agg #[.pointer (some ⟨2, 130, none⟩), .pointer (some a), .int .u64 150]]).run Tryz.prog W
    = (ReflectliteValue.isNil 130 a 150 22).run Tryz.prog W := by kernel_rfl
theorem Tryz.isNilP (a p : Addr) (W : World) (ha : W.cell? a = some (.pointer (some p))) :
    (ReflectliteValue.method (ReflectliteValue.valueError "reflectlite.Value.IsNil" 0) ReflectliteValue.isNil #[.agg #[.pointer (some ⟨2, 130, none⟩), .pointer (some a), .int .u64 150]]).run Tryz.prog W = .ok (.bool false) W := by
  rw [Tryz.isNilRun]
  simp [ReflectliteValue.isNil, loadVar, isAgg, underlying, Tryz.underlying130, ha, Result.andThen]
theorem Tryz.elemRun (a : Addr) (W : World) : (ReflectliteValue.method (ReflectliteValue.valueError "reflectlite.Value.Elem" 0) ReflectliteValue.elem #[.agg #[.pointer (some ⟨2, 130, none⟩), .pointer (some a), .int .u64 150]]).run Tryz.prog W
    = (ReflectliteValue.elem 130 a 150 22).run Tryz.prog W := by kernel_rfl
theorem Tryz.elemVP (a p : Addr) (W : World) (ha : W.cell? a = some (.pointer (some p))) :
    (ReflectliteValue.method (ReflectliteValue.valueError "reflectlite.Value.Elem" 0) ReflectliteValue.elem #[.agg #[.pointer (some ⟨2, 130, none⟩), .pointer (some a), .int .u64 150]]).run Tryz.prog W
      = .ok (.agg #[.pointer (some ⟨2, 128, none⟩), .pointer (some p), .int .u64 409]) W := by
  rw [Tryz.elemRun]
  simp [ReflectliteValue.elem, loadVar, isAgg, underlying, Tryz.underlying130, ha, Result.andThen, Tryz.elemOfP, Tryz.mkF]
theorem Tryz.setRun (ta b : Addr) (W : World) : (ReflectliteValue.set #[.agg #[.pointer (some ⟨2, 128, none⟩), .pointer (some ta), .int .u64 409], .agg #[.pointer (some ⟨2, 128, none⟩), .pointer (some b), .int .u64 153]]).run Tryz.prog W
    = (loadVar 128 b >>= fun v => storeVar 128 ta v >>= fun _ => pure (.tuple #[])).run Tryz.prog W := by kernel_rfl
theorem Tryz.setF (tb b : Nat) (x y o1 o2 : Int) (W : World) (hb : W.heap[b]? = some (.cells #[.int .i64 x, .int .i64 y] 128 (0, 0))) (ht : W.heap[tb]? = some (.cells #[.int .i64 o1, .int .i64 o2] 128 (0, 0))) :
    (ReflectliteValue.set #[.agg #[.pointer (some ⟨2, 128, none⟩), .pointer (some ⟨tb, 0, none⟩), .int .u64 409], .agg #[.pointer (some ⟨2, 128, none⟩), .pointer (some ⟨b, 0, none⟩), .int .u64 153]]).run Tryz.prog W
      = .ok (.tuple #[]) ((W.setCell ⟨tb, 0, none⟩ (.int .i64 x)).setCell ⟨tb, 1, none⟩ (.int .i64 y)) := by
  have c0 := cell_of_block hb 0
  have c1 := cell_of_block hb 1
  have t0 := cell_of_block ht 0
  have f0 := frozen_of_block ht 0
  have h1 := heap_setCell_at (o := 0) ht (.int .i64 x)
  have t1 : (W.setCell ⟨tb, 0, none⟩ (.int .i64 x)).cell? ⟨tb, 1, none⟩ = some (.int .i64 o2) := by rw [cell_of_block h1]; rfl
  have f1 := frozen_of_block h1 1
  rw [Tryz.setRun]
  simp only [Sem.run_bind]
  simp [loadVar, Tryz.isAggF, Tryz.sizeF, Result.andThen, go_sem, c0, c1, t0, f0, t1, f1]
theorem Tryz.methodKind (h : Value) (w : World) : (Go.method 476 259 (.agg #[h]) "Kind").run Tryz.prog w = .ok (237, h) w := by kernel_rfl
theorem Tryz.methodElem (h : Value) (w : World) : (Go.method 476 259 (.agg #[h]) "Elem").run Tryz.prog w = .ok (249, .agg #[h]) w := by kernel_rfl
theorem Tryz.methodImpl (h : Value) (w : World) : (Go.method 476 259 (.agg #[h]) "Implements").run Tryz.prog w = .ok (250, .agg #[h]) w := by kernel_rfl
theorem Tryz.methodAssign (h : Value) (w : World) : (Go.method 476 259 (.agg #[h]) "AssignableTo").run Tryz.prog w = .ok (247, .agg #[h]) w := by kernel_rfl
abbrev valO (a : Addr) : Obj := .cells #[.pointer (some ⟨2, 130, none⟩), .pointer (some a), .int .u64 150] 192
abbrev ptrO (tb : Nat) : Obj := .cells #[.pointer (some ⟨tb, 0, none⟩)] 130
abbrev fltO (x y : Int) : Obj := .cells #[.int .i64 x, .int .i64 y] 128
set_option maxHeartbeats 8000000 in
set_option maxRecDepth 100000 in
/-- errors.As(a fault, the address of a fault): it is found, and laid there. -/
theorem as_hit (x y o1 o2 : Int) (tb : Nat) (w : World) (hg : w.cell? ⟨0, 0, none⟩ = some (.iface 259 (.agg #[.pointer (some ⟨2, 78, none⟩)])))
    (ht : w.heap[tb]? = some (.cells #[.int .i64 o1, .int .i64 o2] 128 (0, 0))) :
    Calls Tryz.prog 63 #[.iface 128 (.agg #[.int .i64 x, .int .i64 y]), .iface 130 (.pointer (some ⟨tb, 0, none⟩))] w fun ev w' => ev = .returned (.bool true) ∧ w'.heap[tb]? = some (.cells #[.int .i64 x, .int .i64 y] 128 (0, 0)) ∧ Kp tb w.heap.size w w' := by
  have h25 := @run_callFunc_extern Tryz.prog 93 _ (fun args => ReflectliteValue.unpack (args.getD 0 (.tuple #[]))) Tryz.func93 (by kernel_rfl) (by kernel_rfl) (by kernel_rfl) (by kernel_rfl)
  have h26 := @run_callFunc_extern Tryz.prog 94 _ (ReflectliteValue.methodAny (ReflectliteValue.valueError "reflectlite.Value.Type" 0) (fun t _ _ _ => ReflectliteType.toType t)) Tryz.func94 (by kernel_rfl) (by kernel_rfl) (by kernel_rfl) (by kernel_rfl)
  have h27 := @run_callFunc_extern Tryz.prog 95 _ (ReflectliteValue.method (ReflectliteValue.valueError "reflectlite.Value.IsNil" 0) ReflectliteValue.isNil) Tryz.func95 (by kernel_rfl) (by kernel_rfl) (by kernel_rfl) (by kernel_rfl)
  have hkd := @run_callFunc_extern Tryz.prog 237 _ (ReflectliteType.abiMethod fun t => (fun a : Nat => Value.int IntKind.u8 (a : Int)) <$> Rtype.kind t) Tryz.func237 (by kernel_rfl) (by kernel_rfl) (by kernel_rfl) (by kernel_rfl)
  have hel := @run_callFunc_extern Tryz.prog 249 _ (ReflectliteType.method ReflectliteType.elem) Tryz.func249 (by kernel_rfl) (by kernel_rfl) (by kernel_rfl) (by kernel_rfl)
  have him := @run_callFunc_extern Tryz.prog 250 _ (ReflectliteType.relation "Implements" ReflectliteType.implements_) Tryz.func250 (by kernel_rfl) (by kernel_rfl) (by kernel_rfl) (by kernel_rfl)
  have hto := @run_callFunc_extern Tryz.prog 133 _ ReflectliteType.typeOf Tryz.func133 (by kernel_rfl) (by kernel_rfl) (by kernel_rfl) (by kernel_rfl)
  have has := @run_callFunc_extern Tryz.prog 247 _ (ReflectliteType.relation "AssignableTo" ReflectliteType.assignableTo) Tryz.func247 (by kernel_rfl) (by kernel_rfl) (by kernel_rfl) (by kernel_rfl)
  have hev := @run_callFunc_extern Tryz.prog 134 _ (ReflectliteValue.method (ReflectliteValue.valueError "reflectlite.Value.Elem" 0) ReflectliteValue.elem) Tryz.func134 (by kernel_rfl) (by kernel_rfl) (by kernel_rfl) (by kernel_rfl)
  have hst := @run_callFunc_extern Tryz.prog 135 _ ReflectliteValue.set Tryz.func135 (by kernel_rfl) (by kernel_rfl) (by kernel_rfl) (by kernel_rfl)
  have f1 := Tryz.valueOfP
  have f2 := Tryz.typeP
  have mK := Tryz.methodKind
  have mE := Tryz.methodElem
  have mI := Tryz.methodImpl
  have mA := Tryz.methodAssign
  have k1 := Tryz.kindP
  have k2 := Tryz.kindF
  have e1 := Tryz.elemP
  have i1 := Tryz.implF
  have t1 := Tryz.typeOfF
  have a1 := Tryz.assignF
  have v1 := Tryz.valueOfF
  have htl := heap_lt ht
  have hgl : 0 < w.heap.size := by
    rcases Nat.lt_or_ge 0 w.heap.size with h | h
    · exact h
    · simp [World.cell?, Array.getElem?_eq_none h] at hg
  have n8 := Tryz.isNilP ⟨w.heap.size, 0, none⟩ ⟨tb, 0, none⟩ ((w.alloc (ptrO tb)).alloc (valO ⟨w.heap.size, 0, none⟩)) (by rw [World.cell?_alloc_lt _ _ _ (by simp)]; simp)
  have hg2 : ((w.alloc (ptrO tb)).alloc (valO ⟨w.heap.size, 0, none⟩)).cell? ⟨0, 0, none⟩ = some (.iface 259 (.agg #[.pointer (some ⟨2, 78, none⟩)])) := by
    rw [World.cell?_alloc_lt _ _ _ (by simp only [World.size_alloc]; omega), World.cell?_alloc_lt _ _ _ (by simp only []; omega)]; exact hg
  have el := Tryz.elemVP ⟨w.heap.size, 0, none⟩ ⟨tb, 0, none⟩ (((w.alloc (ptrO tb)).alloc (valO ⟨w.heap.size, 0, none⟩)).alloc (valO ⟨w.heap.size, 0, none⟩)) (by rw [World.cell?_alloc_lt _ _ _ (by simp; omega), World.cell?_alloc_lt _ _ _ (by simp)]; simp)
  obtain ⟨X, hX⟩ : ∃ X, X = (((w.alloc (ptrO tb)).alloc (valO ⟨w.heap.size, 0, none⟩)).alloc (valO ⟨w.heap.size, 0, none⟩)).alloc (fltO x y) := ⟨_, rfl⟩
  have hXsz : X.heap.size = w.heap.size + 4 := by rw [hX]; simp
  have hBX : Below w.heap.size w X := by rw [hX]; exact (((below_alloc _ _).alloc (by simp) _).alloc (by simp; omega) _).alloc (by simp; omega) _
  have hXt : X.heap[tb]? = some (.cells #[.int .i64 o1, .int .i64 o2] 128 (0, 0)) := by rw [hBX.block _ htl]; exact ht
  have st := Tryz.setF tb (w.heap.size + 1 + 1 + 1) x y o1 o2 X (by rw [hX]; exact heap_alloc_at _ _ _ (by simp)) hXt
  rw [hX] at st
  go_enter Tryz.func63, Tryz.ntmps63
  go_wp2
  refine wp_loop_rounds 1 ?_
  rw [rounds_succ]
  go_wp2
  go_ret
  rw [← hX]
  refine ⟨rfl, ?_, ((Kp.of hBX).setRb _ _).setRb _ _⟩
  rw [heap_setCell_at (heap_setCell_at hXt _)]
  rfl
end Go.Proofs.YtiganlkabilblaaGreatDoor
namespace Go.Proofs.YtiganlkabilblaaGreatDoor
open Go.RowKit
/-- What errors.As reads of the package errors. -/
def ErrLaid (w : World) : Prop := w.cell? ⟨0, 0, none⟩ = some (.iface 259 (.agg #[.pointer (some ⟨2, 78, none⟩)]))
theorem ErrLaid.lt {w : World} (h : ErrLaid w) : 0 < w.heap.size := by
  rcases Nat.lt_or_ge 0 w.heap.size with h' | h'
  · exact h'
  · unfold ErrLaid at h; simp [World.cell?, Array.getElem?_eq_none h'] at h
theorem ErrLaid.below {w w' : World} (h : ErrLaid w) (hb : Below w.heap.size w w') : ErrLaid w' := by
  have := hb.cell (p := ⟨0, 0, none⟩) h.lt
  unfold ErrLaid at h ⊢; rw [this]; exact h
set_option maxHeartbeats 4000000 in
theorem told_nil (w : World) : Calls Tryz.prog 38 #[.nilIface] w fun e w' => e = .returned (.tuple #[.int .i64 0, .int .i64 0]) ∧ Below w.heap.size w w' := by
  go_enter Tryz.func38, Tryz.ntmps38
  go_wp2_with (first | (go_at_call 63; refine (as_nil _ _).mono ?_; rintro e w' ⟨rfl, rfl⟩))
  go_ret2
  exact ⟨rfl, below_alloc _ _⟩
set_option maxHeartbeats 4000000 in
theorem told_fault (er p : Nat) (w : World) (hg : ErrLaid w) : Calls Tryz.prog 38 #[faultV er p] w fun e w' => e = .returned (.tuple #[.int .i64 er, .int .i64 p]) ∧ Below w.heap.size w w' := by
  have hB : Below w.heap.size w (w.alloc (.cells #[.int .i64 0, .int .i64 0] 128)) := below_alloc _ _
  have hl := hg.lt
  have ha := as_hit er p 0 0 w.heap.size (w.alloc (.cells #[.int .i64 0, .int .i64 0] 128)) (hg.below hB) (heap_alloc_same _ _)
  simp only [faultV]
  clear hg
  go_enter Tryz.func38, Tryz.ntmps38
  go_wp2_with fail
  refine ha.mono ?_
  rintro e w1 ⟨rfl, h1, hK⟩
  have c0 := cell_of_block h1 0
  have c1 := cell_of_block h1 1
  have HB : Hid (Below w.heap.size w w1) := hB.trans (Kp.below (hK.mono (by simp)) (Nat.le_refl _))
  clear ha hK h1 hB
  go_wp2_with fail
  go_quiet (fail)
  go_wp2_with fail
  go_ret2
  exact ⟨rfl, below_drewN HB.out _⟩
end Go.Proofs.YtiganlkabilblaaGreatDoor
namespace Go.Proofs.YtiganlkabilblaaGreatDoor
open Go.RowKit
/-- What is wrong with a text, or its grammar, and which of its rules may take nothing. -/
inductive PAll (l : List UInt8) : Except (Nat × Nat) (List Thk.Rule × List Bool) → Prop
  | text {x} : PRead l (.error x) → PAll l (.error x)
  | rules {g x} : PRead l (.ok g) → PLook g (.error x) → PAll l (.error x)
  | ok {g E} : PRead l (.ok g) → PLook g (.ok E) → PAll l (.ok (g, E))
def AllPost (l : List UInt8) (w : World) (e : Ending) (w' : World) : Prop :=
  ∃ res, PAll l res ∧ Below w.heap.size w w' ∧ match res with
    | .ok (g, E) => g ≠ [] ∧ g.length ≤ 20 ∧ ∃ a cp mb eb, e = .returned (.tuple #[.slice (some a) g.length cp, factsV mb eb g.length, .nilIface]) ∧ RGram w' (w.heap.size ≤ ·) g (.slice (some a) g.length cp) ∧ FactsAt w' mb eb (namesOf g) E
    | .error (er, p) => e = .returned (.tuple #[.slice none 0 0, zFacts, faultV er p])
set_option maxHeartbeats 8000000 in
set_option maxRecDepth 100000 in
theorem readAll_any (s : ByteArray) (w : World) (hs : s.size ≤ maxLen) :
    Calls Tryz.prog 37 #[.string s] w fun e w' => AllPost s.data.toList w e w' := by
  have hrd := read_any s (w.alloc zFactsO) hs
  go_enter Tryz.func37, Tryz.ntmps37
  go_wp2_with fail
  refine hrd.mono ?_
  rintro e w1 ⟨res, hP, hb, hE⟩
  have hs1 := hb.size
  simp at hs1
  have hr1 : w1.heap[w.heap.size]? = some zFactsO := by rw [hb.block _ (by simp)]; exact heap_alloc_same _ _
  have q1 := cell_of_block hr1
  have f1 := frozen_of_block hr1
  have hlt1 : w.heap.size < w1.heap.size := by omega
  have HB1 : Hid (Below w.heap.size w w1) := (below_alloc _ _).trans (hb.mono (by simp))
  have HP : Hid (PRead s.data.toList res) := hP
  have HR1 : Hid (w1.heap[w.heap.size]? = some zFactsO) := hr1
  clear hrd hP hr1
  cases res with
  | error x =>
    obtain ⟨er, p⟩ := x
    simp only [faultV] at hE
    subst hE
    clear hb
    go_wp2_with fail
    refine bodyPost_ret (v := .tuple #[.slice none 0 0, zFacts, faultV er p]) (by simp [results, Tryz.results37, go_sem, faultV, q1, hlt1]) rfl ?_
    exact ⟨.error (er, p), .text HP.out, (HB1.out.setCell (Nat.le_refl _) _).setCell (Nat.le_refl _) _, rfl⟩
  | ok g =>
    obtain ⟨hg0, hgl, a, cp, rfl, hG⟩ := hE
    have hlk := look_any w1 _ g a cp hG hgl hg0
    have HG : Hid (RGram w1 ((w.alloc zFactsO).heap.size ≤ ·) g (.slice (some a) g.length cp)) := hG
    clear hG hb
    go_wp2_with fail
    refine hlk.mono ?_
    rintro e w2 ⟨res2, hP2, hb2, hE2⟩
    have hs2 := hb2.size
    have hr2 : w2.heap[w.heap.size]? = some zFactsO := by rw [hb2.block _ hlt1]; exact HR1.out
    have q2 := cell_of_block hr2
    have f2 := frozen_of_block hr2
    have hlt2 : w.heap.size < w2.heap.size := by omega
    have HB2 : Hid (Below w.heap.size w w2) := HB1.out.trans (hb2.mono (by omega))
    have HP2 : Hid (PLook g res2) := hP2
    have HG2 : Hid (RGram w2 ((w.alloc zFactsO).heap.size ≤ ·) g (.slice (some a) g.length cp)) := HG.out.kept (sm_below hb2)
    have HR2 : Hid (w2.heap[w.heap.size]? = some zFactsO) := hr2
    clear hlk hP2 hb2 hr2 q1 f1
    cases res2 with
    | error x =>
      obtain ⟨er, p⟩ := x
      simp only [faultV] at hE2
      subst hE2
      go_wp2_with fail
      refine bodyPost_ret (v := .tuple #[.slice none 0 0, zFacts, faultV er p]) (by simp [results, Tryz.results37, go_sem, faultV, q2, hlt2]) rfl ?_
      exact ⟨.error (er, p), .rules HP.out HP2.out, ((HB2.out.setCell (Nat.le_refl _) _).setCell (Nat.le_refl _) _).alloc (by simp; omega) _, rfl⟩
    | ok E =>
      obtain ⟨mb, eb, rfl, hF⟩ := hE2
      have HF : Hid (FactsAt w2 mb eb (namesOf g) E) := hF
      have hml := hF.map.lt
      have hel := heap_lt hF.emp
      have hmne : mb ≠ w.heap.size := by
        intro e
        obtain ⟨D, ⟨es, cl, h1, _⟩, _⟩ := hF.map
        rw [e, HR2.out] at h1
        simp at h1
      have hene : eb ≠ w.heap.size := by
        intro e
        have h1 := hF.emp
        rw [e, HR2.out] at h1
        simp [boolsO] at h1
      simp only [factsV]
      clear hF
      go_wp2_with fail
      go_region
      all_goals go_wp2_with fail
      refine bodyPost_ret (v := .tuple #[.slice (some a) g.length cp, factsV mb eb g.length, .nilIface]) (by simp [results, Tryz.results37, go_sem, factsV, q2, hlt2]) rfl ?_
      have hbl : ∀ O u1 u2 b, b ≠ w.heap.size → b < w2.heap.size → (((w2.setCell ⟨w.heap.size, 0, none⟩ u1).setCell ⟨w.heap.size, 1, none⟩ u2).alloc O).drew.heap[b]? = w2.heap[b]? := by
        intro O u1 u2 b h1 h2
        show (((w2.setCell ⟨w.heap.size, 0, none⟩ u1).setCell ⟨w.heap.size, 1, none⟩ u2).alloc O).heap[b]? = _
        rw [heap_alloc_old _ _ (by simp; omega), Below.heap_setCell _ _ _ _ h1, Below.heap_setCell _ _ _ _ h1]
      refine ⟨.ok (g, E), .ok HP.out HP2.out, (((HB2.out.setCell (Nat.le_refl _) _).setCell (Nat.le_refl _) _).alloc (by simp; omega) _).drew, hg0, hgl, a, cp, mb, eb, rfl, ?_, ?_⟩
      · have hG3 : RGram (((w2.setCell ⟨w.heap.size, 0, none⟩ (.map (some mb))).setCell ⟨w.heap.size, 1, none⟩ (.slice (some ⟨eb, 0, none⟩) g.length g.length)).alloc (factsO mb eb g.length)).drew ((w.alloc zFactsO).heap.size ≤ ·) g (.slice (some a) g.length cp) := HG2.out.kept ⟨fun u l hl => own_other (b := w.heap.size) hl (fun b h1 h2 => hbl _ _ _ b h1 h2) HR2.out (by decide), fun b h1 h2 => hbl _ _ _ b (by simp at h2; omega) h1⟩
        obtain ⟨vs, h1, h2⟩ := hG3
        exact ⟨vs, h1.mono (fun b _ hb => by simp at hb; omega), RRules.mono (fun b _ hb => by simp at hb; omega) h2⟩
      · exact HF.out.blocks (hbl _ _ _ mb hmne hml) (hbl _ _ _ eb hene hel)
end Go.Proofs.YtiganlkabilblaaGreatDoor
namespace Thk
def DPPiece (d : Nat) (ts : List Tok) (r : Res Piece) : Prop := ∀ r', PPiece d ts r' → r = r'
def DPTerm (d : Nat) (ts : List Tok) (r : Res Term) : Prop := ∀ r', PTerm d ts r' → r = r'
def DPSeq (d : Nat) (ts : List Tok) (r : Res Seq) : Prop := ∀ r', PSeq d ts r' → r = r'
def DPChoice (d : Nat) (ts : List Tok) (r : Res Choice) : Prop := ∀ r', PChoice d ts r' → r = r'
theorem d_PPiece_plain {d : Nat} {ts : List Tok} {p : Piece} (hp : plainPiece (hd ts) = some p) : DPPiece d ts (.ok p ts.tail) := by
  intro r' h'
  cases h' with
  | plain hp' => rw [hp] at hp'; cases hp'; rfl
  | bad hn _ => rw [hp] at hn; cases hn
  | deep hk => exact absurd hp (by simp [plainPiece, hk])
  | group hk _ _ _ => exact absurd hp (by simp [plainPiece, hk])
  | unclosed hk _ _ _ => exact absurd hp (by simp [plainPiece, hk])
  | inner hk _ _ => exact absurd hp (by simp [plainPiece, hk])
theorem d_PPiece_bad {d : Nat} {ts : List Tok} (hn : plainPiece (hd ts) = none) (hk : (hd ts).kind ≠ .sign 40) : DPPiece d ts (.err 2 (hd ts).place) := by
  intro r' h'
  cases h' with
  | plain hp' => rw [hn] at hp'; cases hp'
  | bad _ _ => rfl
  | deep hk' => exact absurd hk' hk
  | group hk' _ _ _ => exact absurd hk' hk
  | unclosed hk' _ _ _ => exact absurd hk' hk
  | inner hk' _ _ => exact absurd hk' hk
theorem d_PPiece_deep {ts : List Tok} (hk : (hd ts).kind = .sign 40) : DPPiece 6 ts (.err 3 (hd ts).place) := by
  intro r' h'
  cases h' with
  | plain hp' => exact absurd hp' (by simp [plainPiece, hk])
  | bad _ hk' => exact absurd hk hk'
  | deep _ => rfl
  | group _ hd _ _ => exact absurd rfl hd
  | unclosed _ hd _ _ => exact absurd rfl hd
  | inner _ hd _ => exact absurd rfl hd
theorem d_PPiece_group {d : Nat} {ts : List Tok} {c : Choice} {rest : List Tok} (hk : (hd ts).kind = .sign 40) (hd' : d ≠ 6) (hc : PChoice (d + 1) ts.tail (.ok c rest)) (hcl : (hd rest).kind = .sign 41) (ihc : DPChoice (d + 1) ts.tail (.ok c rest)) : DPPiece d ts (.ok (.group c) rest.tail) := by
  intro r' h'
  cases h' with
  | plain hp' => exact absurd hp' (by simp [plainPiece, hk])
  | bad _ hk' => exact absurd hk hk'
  | deep _ => exact absurd rfl hd'
  | group _ _ hc' _ => have := ihc _ hc'; cases this; rfl
  | unclosed _ _ hc' hcl' => have := ihc _ hc'; cases this; exact absurd hcl hcl'
  | inner _ _ hc' => have := ihc _ hc'; cases this
theorem d_PPiece_unclosed {d : Nat} {ts : List Tok} {c : Choice} {rest : List Tok} (hk : (hd ts).kind = .sign 40) (hd' : d ≠ 6) (hc : PChoice (d + 1) ts.tail (.ok c rest)) (hcl : (hd rest).kind ≠ .sign 41) (ihc : DPChoice (d + 1) ts.tail (.ok c rest)) : DPPiece d ts (.err 2 (hd rest).place) := by
  intro r' h'
  cases h' with
  | plain hp' => exact absurd hp' (by simp [plainPiece, hk])
  | bad _ hk' => exact absurd hk hk'
  | deep _ => exact absurd rfl hd'
  | group _ _ hc' hcl' => have := ihc _ hc'; cases this; exact absurd hcl' hcl
  | unclosed _ _ hc' _ => have := ihc _ hc'; cases this; rfl
  | inner _ _ hc' => have := ihc _ hc'; cases this
theorem d_PPiece_inner {d : Nat} {ts : List Tok} {e p : Nat} (hk : (hd ts).kind = .sign 40) (hd' : d ≠ 6) (hc : PChoice (d + 1) ts.tail (.err e p)) (ihc : DPChoice (d + 1) ts.tail (.err e p)) : DPPiece d ts (.err e p) := by
  intro r' h'
  cases h' with
  | plain hp' => exact absurd hp' (by simp [plainPiece, hk])
  | bad _ hk' => exact absurd hk hk'
  | deep _ => exact absurd rfl hd'
  | group _ _ hc' _ => have := ihc _ hc'; cases this
  | unclosed _ _ hc' _ => have := ihc _ hc'; cases this
  | inner _ _ hc' => have := ihc _ hc'; cases this; rfl
theorem d_PTerm_ok {d : Nat} {ts : List Tok} {p : Piece} {rest : List Tok} (hp : PPiece d (aheadOf ts).2 (.ok p rest)) (ihp : DPPiece d (aheadOf ts).2 (.ok p rest)) : DPTerm d ts (.ok (.mk (aheadOf ts).1 p (behindOf rest).1) (behindOf rest).2) := by
  intro r' h'
  cases h' with
  | ok hp' => have := ihp _ hp'; cases this; rfl
  | err hp' => have := ihp _ hp'; cases this
theorem d_PTerm_err {d : Nat} {ts : List Tok} {e p : Nat} (hp : PPiece d (aheadOf ts).2 (.err e p)) (ihp : DPPiece d (aheadOf ts).2 (.err e p)) : DPTerm d ts (.err e p) := by
  intro r' h'
  cases h' with
  | ok hp' => have := ihp _ hp'; cases this
  | err hp' => have := ihp _ hp'; cases this; rfl
theorem d_PSeq_nil {d : Nat} {ts : List Tok} (hb : begins d ts = false) : DPSeq d ts (.ok [] ts) := by
  intro r' h'
  cases h' with
  | nil _ => rfl
  | cons hb' _ _ => rw [hb] at hb'; cases hb'
  | err hb' _ => rw [hb] at hb'; cases hb'
  | later hb' _ _ => rw [hb] at hb'; cases hb'
theorem d_PSeq_cons {d : Nat} {ts : List Tok} {t : Term} {rest : List Tok} {s : Seq} {rest' : List Tok} (hb : begins d ts = true) (ht : PTerm d ts (.ok t rest)) (hs : PSeq d rest (.ok s rest')) (iht : DPTerm d ts (.ok t rest)) (ihs : DPSeq d rest (.ok s rest')) : DPSeq d ts (.ok (t :: s) rest') := by
  intro r' h'
  cases h' with
  | nil hb' => rw [hb] at hb'; cases hb'
  | cons _ ht' hs' => have := iht _ ht'; cases this; have := ihs _ hs'; cases this; rfl
  | err _ ht' => have := iht _ ht'; cases this
  | later _ ht' hs' => have := iht _ ht'; cases this; have := ihs _ hs'; cases this
theorem d_PSeq_err {d : Nat} {ts : List Tok} {e p : Nat} (hb : begins d ts = true) (ht : PTerm d ts (.err e p)) (iht : DPTerm d ts (.err e p)) : DPSeq d ts (.err e p) := by
  intro r' h'
  cases h' with
  | nil hb' => rw [hb] at hb'; cases hb'
  | cons _ ht' _ => have := iht _ ht'; cases this
  | err _ ht' => have := iht _ ht'; cases this; rfl
  | later _ ht' _ => have := iht _ ht'; cases this
theorem d_PSeq_later {d : Nat} {ts : List Tok} {t : Term} {rest : List Tok} {e p : Nat} (hb : begins d ts = true) (ht : PTerm d ts (.ok t rest)) (hs : PSeq d rest (.err e p)) (iht : DPTerm d ts (.ok t rest)) (ihs : DPSeq d rest (.err e p)) : DPSeq d ts (.err e p) := by
  intro r' h'
  cases h' with
  | nil hb' => rw [hb] at hb'; cases hb'
  | cons _ ht' hs' => have := iht _ ht'; cases this; have := ihs _ hs'; cases this
  | err _ ht' => have := iht _ ht'; cases this
  | later _ ht' hs' => have := iht _ ht'; cases this; have := ihs _ hs'; cases this; rfl
theorem d_PChoice_last {d : Nat} {ts : List Tok} {s : Seq} {rest : List Tok} (hs : PSeq d ts (.ok s rest)) (hk : (hd rest).kind ≠ .sign 47) (ihs : DPSeq d ts (.ok s rest)) : DPChoice d ts (.ok [s] rest) := by
  intro r' h'
  cases h' with
  | last hs' _ => have := ihs _ hs'; cases this; rfl
  | more hs' hk' _ => have := ihs _ hs'; cases this; exact absurd hk' hk
  | err hs' => have := ihs _ hs'; cases this
  | later hs' hk' _ => have := ihs _ hs'; cases this; exact absurd hk' hk
theorem d_PChoice_more {d : Nat} {ts : List Tok} {s : Seq} {rest : List Tok} {c : Choice} {rest' : List Tok} (hs : PSeq d ts (.ok s rest)) (hk : (hd rest).kind = .sign 47) (hc : PChoice d rest.tail (.ok c rest')) (ihs : DPSeq d ts (.ok s rest)) (ihc : DPChoice d rest.tail (.ok c rest')) : DPChoice d ts (.ok (s :: c) rest') := by
  intro r' h'
  cases h' with
  | last hs' hk' => have := ihs _ hs'; cases this; exact absurd hk hk'
  | more hs' _ hc' => have := ihs _ hs'; cases this; have := ihc _ hc'; cases this; rfl
  | err hs' => have := ihs _ hs'; cases this
  | later hs' _ hc' => have := ihs _ hs'; cases this; have := ihc _ hc'; cases this
theorem d_PChoice_err {d : Nat} {ts : List Tok} {e p : Nat} (hs : PSeq d ts (.err e p)) (ihs : DPSeq d ts (.err e p)) : DPChoice d ts (.err e p) := by
  intro r' h'
  cases h' with
  | last hs' _ => have := ihs _ hs'; cases this
  | more hs' _ _ => have := ihs _ hs'; cases this
  | err hs' => have := ihs _ hs'; cases this; rfl
  | later hs' _ _ => have := ihs _ hs'; cases this
theorem d_PChoice_later {d : Nat} {ts : List Tok} {s : Seq} {rest : List Tok} {e p : Nat} (hs : PSeq d ts (.ok s rest)) (hk : (hd rest).kind = .sign 47) (hc : PChoice d rest.tail (.err e p)) (ihs : DPSeq d ts (.ok s rest)) (ihc : DPChoice d rest.tail (.err e p)) : DPChoice d ts (.err e p) := by
  intro r' h'
  cases h' with
  | last hs' hk' => have := ihs _ hs'; cases this; exact absurd hk hk'
  | more hs' _ hc' => have := ihs _ hs'; cases this; have := ihc _ hc'; cases this
  | err hs' => have := ihs _ hs'; cases this
  | later hs' _ hc' => have := ihs _ hs'; cases this; have := ihc _ hc'; cases this; rfl
theorem PPiece.det {d : Nat} {ts : List Tok} {r r' : Res Piece} (h : PPiece d ts r) (h' : PPiece d ts r') : r = r' := by
  refine (PPiece.rec (motive_1 := fun d ts r _ => DPPiece d ts r) (motive_2 := fun d ts r _ => DPTerm d ts r) (motive_3 := fun d ts r _ => DPSeq d ts r) (motive_4 := fun d ts r _ => DPChoice d ts r) ?_ ?_ ?_ ?_ ?_ ?_ ?_ ?_ ?_ ?_ ?_ ?_ ?_ ?_ ?_ ?_ h : DPPiece d ts r) _ h'
  · intros; apply d_PPiece_plain <;> assumption
  · intros; apply d_PPiece_bad <;> assumption
  · intros; apply d_PPiece_deep <;> assumption
  · intros; apply d_PPiece_group <;> assumption
  · intros; apply d_PPiece_unclosed <;> assumption
  · intros; apply d_PPiece_inner <;> assumption
  · intros; apply d_PTerm_ok <;> assumption
  · intros; apply d_PTerm_err <;> assumption
  · intros; apply d_PSeq_nil <;> assumption
  · intros; apply d_PSeq_cons <;> assumption
  · intros; apply d_PSeq_err <;> assumption
  · intros; apply d_PSeq_later <;> assumption
  · intros; apply d_PChoice_last <;> assumption
  · intros; apply d_PChoice_more <;> assumption
  · intros; apply d_PChoice_err <;> assumption
  · intros; apply d_PChoice_later <;> assumption
theorem PTerm.det {d : Nat} {ts : List Tok} {r r' : Res Term} (h : PTerm d ts r) (h' : PTerm d ts r') : r = r' := by
  refine (PTerm.rec (motive_1 := fun d ts r _ => DPPiece d ts r) (motive_2 := fun d ts r _ => DPTerm d ts r) (motive_3 := fun d ts r _ => DPSeq d ts r) (motive_4 := fun d ts r _ => DPChoice d ts r) ?_ ?_ ?_ ?_ ?_ ?_ ?_ ?_ ?_ ?_ ?_ ?_ ?_ ?_ ?_ ?_ h : DPTerm d ts r) _ h'
  · intros; apply d_PPiece_plain <;> assumption
  · intros; apply d_PPiece_bad <;> assumption
  · intros; apply d_PPiece_deep <;> assumption
  · intros; apply d_PPiece_group <;> assumption
  · intros; apply d_PPiece_unclosed <;> assumption
  · intros; apply d_PPiece_inner <;> assumption
  · intros; apply d_PTerm_ok <;> assumption
  · intros; apply d_PTerm_err <;> assumption
  · intros; apply d_PSeq_nil <;> assumption
  · intros; apply d_PSeq_cons <;> assumption
  · intros; apply d_PSeq_err <;> assumption
  · intros; apply d_PSeq_later <;> assumption
  · intros; apply d_PChoice_last <;> assumption
  · intros; apply d_PChoice_more <;> assumption
  · intros; apply d_PChoice_err <;> assumption
  · intros; apply d_PChoice_later <;> assumption
theorem PSeq.det {d : Nat} {ts : List Tok} {r r' : Res Seq} (h : PSeq d ts r) (h' : PSeq d ts r') : r = r' := by
  refine (PSeq.rec (motive_1 := fun d ts r _ => DPPiece d ts r) (motive_2 := fun d ts r _ => DPTerm d ts r) (motive_3 := fun d ts r _ => DPSeq d ts r) (motive_4 := fun d ts r _ => DPChoice d ts r) ?_ ?_ ?_ ?_ ?_ ?_ ?_ ?_ ?_ ?_ ?_ ?_ ?_ ?_ ?_ ?_ h : DPSeq d ts r) _ h'
  · intros; apply d_PPiece_plain <;> assumption
  · intros; apply d_PPiece_bad <;> assumption
  · intros; apply d_PPiece_deep <;> assumption
  · intros; apply d_PPiece_group <;> assumption
  · intros; apply d_PPiece_unclosed <;> assumption
  · intros; apply d_PPiece_inner <;> assumption
  · intros; apply d_PTerm_ok <;> assumption
  · intros; apply d_PTerm_err <;> assumption
  · intros; apply d_PSeq_nil <;> assumption
  · intros; apply d_PSeq_cons <;> assumption
  · intros; apply d_PSeq_err <;> assumption
  · intros; apply d_PSeq_later <;> assumption
  · intros; apply d_PChoice_last <;> assumption
  · intros; apply d_PChoice_more <;> assumption
  · intros; apply d_PChoice_err <;> assumption
  · intros; apply d_PChoice_later <;> assumption
theorem PChoice.det {d : Nat} {ts : List Tok} {r r' : Res Choice} (h : PChoice d ts r) (h' : PChoice d ts r') : r = r' := by
  refine (PChoice.rec (motive_1 := fun d ts r _ => DPPiece d ts r) (motive_2 := fun d ts r _ => DPTerm d ts r) (motive_3 := fun d ts r _ => DPSeq d ts r) (motive_4 := fun d ts r _ => DPChoice d ts r) ?_ ?_ ?_ ?_ ?_ ?_ ?_ ?_ ?_ ?_ ?_ ?_ ?_ ?_ ?_ ?_ h : DPChoice d ts r) _ h'
  · intros; apply d_PPiece_plain <;> assumption
  · intros; apply d_PPiece_bad <;> assumption
  · intros; apply d_PPiece_deep <;> assumption
  · intros; apply d_PPiece_group <;> assumption
  · intros; apply d_PPiece_unclosed <;> assumption
  · intros; apply d_PPiece_inner <;> assumption
  · intros; apply d_PTerm_ok <;> assumption
  · intros; apply d_PTerm_err <;> assumption
  · intros; apply d_PSeq_nil <;> assumption
  · intros; apply d_PSeq_cons <;> assumption
  · intros; apply d_PSeq_err <;> assumption
  · intros; apply d_PSeq_later <;> assumption
  · intros; apply d_PChoice_last <;> assumption
  · intros; apply d_PChoice_more <;> assumption
  · intros; apply d_PChoice_err <;> assumption
  · intros; apply d_PChoice_later <;> assumption
theorem PRule.det {n : Nat} {ts : List Tok} {r r' : Res Rule} (h : PRule n ts r) (h' : PRule n ts r') : r = r' := by
  cases h with
  | noName hk => cases h' <;> first | rfl | contradiction
  | many hk ha => cases h' <;> first | rfl | contradiction
  | noArrow hk ha => cases h' <;> first | rfl | contradiction
  | ok hk ha hn hc =>
    cases h' with
    | noName hk' => exact absurd hk hk'
    | many _ _ => exact absurd rfl hn
    | noArrow _ ha' => exact absurd ha ha'
    | ok _ _ _ hc' => have := hc.det hc'; cases this; rfl
    | err _ _ _ hc' => have := hc.det hc'; cases this
  | err hk ha hn hc =>
    cases h' with
    | noName hk' => exact absurd hk hk'
    | many _ _ => exact absurd rfl hn
    | noArrow _ ha' => exact absurd ha ha'
    | ok _ _ _ hc' => have := hc.det hc'; cases this
    | err _ _ _ hc' => have := hc.det hc'; cases this; rfl
theorem PGram.det {n : Nat} {ts : List Tok} {r : Except (Nat × Nat) (List Rule)} (h : PGram n ts r) : ∀ {r'}, PGram n ts r' → r = r' := by
  induction h with
  | last hr hk =>
    intro r' h'
    cases h' with
    | last hr' _ => have := hr.det hr'; cases this; rfl
    | more hr' hk' _ => have := hr.det hr'; cases this; exact absurd hk hk'
    | err hr' => have := hr.det hr'; cases this
    | later hr' hk' _ => have := hr.det hr'; cases this; exact absurd hk hk'
  | more hr hk _ ih =>
    intro r' h'
    cases h' with
    | last hr' hk' => have := hr.det hr'; cases this; exact absurd hk' hk
    | more hr' _ hg' => have := hr.det hr'; cases this; have := ih hg'; cases this; rfl
    | err hr' => have := hr.det hr'; cases this
    | later hr' _ hg' => have := hr.det hr'; cases this; have := ih hg'; cases this
  | err hr =>
    intro r' h'
    cases h' with
    | last hr' _ => have := hr.det hr'; cases this
    | more hr' _ _ => have := hr.det hr'; cases this
    | err hr' => have := hr.det hr'; cases this; rfl
    | later hr' _ _ => have := hr.det hr'; cases this
  | later hr hk _ ih =>
    intro r' h'
    cases h' with
    | last hr' hk' => have := hr.det hr'; cases this; exact absurd hk' hk
    | more hr' _ hg' => have := hr.det hr'; cases this; have := ih hg'; cases this
    | err hr' => have := hr.det hr'; cases this
    | later hr' _ hg' => have := hr.det hr'; cases this; have := ih hg'; cases this; rfl
end Thk
namespace Go.Proofs.YtiganlkabilblaaGreatDoor
open Thk
theorem ft_det {ns : List Bytes} : ∀ {o1 o2 : Option Nat}, FirstTwice ns o1 → FirstTwice ns o2 → o1 = o2
  | none, none, _, _ => rfl
  | none, some i, h1, h2 => by have := h1 i h2.1; rw [h2.2.1] at this; cases this
  | some i, none, h1, h2 => by have := h2 i h1.1; rw [h1.2.1] at this; cases this
  | some i, some j, h1, h2 => by
    rcases Nat.lt_trichotomy i j with h | h | h
    · have := h2.2.2 i h; rw [h1.2.1] at this; cases this
    · rw [h]
    · have := h1.2.2 j h; rw [h2.2.1] at this; cases this
theorem fi_det {g : List Rule} {p : Choice → Bool} : ∀ {o1 o2 : Option Nat}, FirstIs g p o1 → FirstIs g p o2 → o1 = o2
  | none, none, _, _ => rfl
  | none, some i, h1, h2 => by obtain ⟨h, h3, _⟩ := h2; have := h1 i h; rw [h3] at this; cases this
  | some i, none, h1, h2 => by obtain ⟨h, h3, _⟩ := h1; have := h2 i h; rw [h3] at this; cases this
  | some i, some j, h1, h2 => by
    obtain ⟨a1, a2, a3⟩ := h1
    obtain ⟨b1, b2, b3⟩ := h2
    rcases Nat.lt_trichotomy i j with h | h | h
    · have := b3 i a1 h; rw [a2] at this; cases this
    · rw [h]
    · have := a3 j b1 h; rw [b2] at this; cases this
theorem lf_det {names : List Bytes} {E : List Bool} {g : List Rule} : ∀ {o1 o2 : Option Nat}, LeftIs names E g o1 → LeftIs names E g o2 → o1 = o2
  | none, none, _, _ => rfl
  | none, some i, h1, h2 => by have := h1 i h2.1; rw [h2.2.1] at this; cases this
  | some i, none, h1, h2 => by have := h2 i h1.1; rw [h1.2.1] at this; cases this
  | some i, some j, h1, h2 => by
    rcases Nat.lt_trichotomy i j with h | h | h
    · have := h2.2.2 i h; rw [h1.2.1] at this; cases this
    · rw [h]
    · have := h1.2.2 j h; rw [h2.2.1] at this; cases this
theorem e_det {names : List Bytes} {g : List Rule} {E F : List Bool} (h1 : E.length = g.length) (h2 : Closed names g E) (h3 : Least names g E) (k1 : F.length = g.length) (k2 : Closed names g F) (k3 : Least names g F) : E = F := by
  apply List.ext_getElem (by omega)
  intro i a b
  have := Least.same h2 h3 k2 k3 i
  simpa [List.getD_eq_getElem?_getD, a, b] using this
/-- What is told of rules is one. -/
theorem PLook.det {g : List Rule} {r1 r2 : Except (Nat × Nat) (List Bool)} (h1 : PLook g r1) (h2 : PLook g r2) : r1 = r2 := by
  cases h1 with
  | twice a1 => cases h2 with
    | twice b1 => cases ft_det a1 b1; rfl
    | unknown b1 _ => cases ft_det a1 b1
    | loop b1 => cases ft_det a1 b1
    | left b1 => cases ft_det a1 b1
    | ok b1 => cases ft_det a1 b1
  | unknown a1 a2 => cases h2 with
    | twice b1 => cases ft_det a1 b1
    | unknown b1 b2 => cases fi_det a2 b2; rfl
    | loop b1 b2 => cases fi_det a2 b2
    | left b1 b2 => cases fi_det a2 b2
    | ok b1 b2 => cases fi_det a2 b2
  | loop a1 a2 a3 a4 a5 a6 => cases h2 with
    | twice b1 => cases ft_det a1 b1
    | unknown b1 b2 => cases fi_det a2 b2
    | loop b1 b2 b3 b4 b5 b6 => cases e_det a3 a4 a5 b3 b4 b5; cases fi_det a6 b6; rfl
    | left b1 b2 b3 b4 b5 b6 => cases e_det a3 a4 a5 b3 b4 b5; cases fi_det a6 b6
    | ok b1 b2 b3 b4 b5 b6 => cases e_det a3 a4 a5 b3 b4 b5; cases fi_det a6 b6
  | left a1 a2 a3 a4 a5 a6 a7 => cases h2 with
    | twice b1 => cases ft_det a1 b1
    | unknown b1 b2 => cases fi_det a2 b2
    | loop b1 b2 b3 b4 b5 b6 => cases e_det a3 a4 a5 b3 b4 b5; cases fi_det a6 b6
    | left b1 b2 b3 b4 b5 b6 b7 => cases e_det a3 a4 a5 b3 b4 b5; cases lf_det a7 b7; rfl
    | ok b1 b2 b3 b4 b5 b6 b7 => cases e_det a3 a4 a5 b3 b4 b5; cases lf_det a7 b7
  | ok a1 a2 a3 a4 a5 a6 a7 => cases h2 with
    | twice b1 => cases ft_det a1 b1
    | unknown b1 b2 => cases fi_det a2 b2
    | loop b1 b2 b3 b4 b5 b6 => cases e_det a3 a4 a5 b3 b4 b5; cases fi_det a6 b6
    | left b1 b2 b3 b4 b5 b6 b7 => cases e_det a3 a4 a5 b3 b4 b5; cases lf_det a7 b7
    | ok b1 b2 b3 b4 b5 b6 b7 => cases e_det a3 a4 a5 b3 b4 b5; rfl
theorem PRead.det {l : List UInt8} {r1 r2 : Except (Nat × Nat) (List Rule)} (h1 : PRead l r1) (h2 : PRead l r2) : r1 = r2 := by
  cases h1 with
  | long a => cases h2 with
    | long b => rfl
    | read b _ => omega
  | read a a2 => cases h2 with
    | long b => omega
    | read b b2 => exact PGram.det a2 b2
theorem PAll.det {l : List UInt8} {r1 r2 : Except (Nat × Nat) (List Rule × List Bool)} (h1 : PAll l r1) (h2 : PAll l r2) : r1 = r2 := by
  cases h1 with
  | text a => cases h2 with
    | text b => have := PRead.det a b; cases this; rfl
    | rules b _ => have := PRead.det a b; cases this
    | ok b _ => have := PRead.det a b; cases this
  | rules a a2 => cases h2 with
    | text b => have := PRead.det a b; cases this
    | rules b b2 => have := PRead.det a b; cases this; have := PLook.det a2 b2; cases this; rfl
    | ok b b2 => have := PRead.det a b; cases this; have := PLook.det a2 b2; cases this
  | ok a a2 => cases h2 with
    | text b => have := PRead.det a b; cases this
    | rules b b2 => have := PRead.det a b; cases this; have := PLook.det a2 b2; cases this
    | ok b b2 => have := PRead.det a b; cases this; have := PLook.det a2 b2; cases this; rfl
/-- The loop of left: what is to be done, what has been seen. -/
structure LeftInv (M : Mat) (n rule : Nat) (todo : List Nat) (seen : List Bool) : Prop where
  len : seen.length = n
  reach : ∀ j ∈ todo, Wm M n rule j = true ∧ j < n
  first : ∀ k, M rule k = true → k ∈ todo ∨ seen.getD k false = true
  shut : ∀ j k, seen.getD j false = true → M j k = true → k ∈ todo ∨ seen.getD k false = true
  other : seen.getD rule false = false
theorem LeftInv.start {M : Mat} {n rule : Nat} {todo : List Nat} (h1 : ∀ k, M rule k = true ↔ k ∈ todo) (h2 : ∀ k ∈ todo, k < n) : LeftInv M n rule todo (List.replicate n false) := by
  have hz : ∀ j, (List.replicate n false).getD j false = false := by
    intro j
    rw [List.getD_eq_getElem?_getD, List.getElem?_replicate]; split <;> rfl
  exact ⟨by simp, fun j hj => ⟨Wm_base M n _ _ ((h1 j).2 hj), h2 j hj⟩, fun k hk => .inl ((h1 k).1 hk), fun j k hj => (by rw [hz j] at hj; cases hj), hz _⟩
theorem LeftInv.done {M : Mat} {n rule : Nat} {seen : List Bool} (h : LeftInv M n rule [] seen) : Wm M n rule rule = false := by
  cases hw : Wm M n rule rule with
  | false => rfl
  | true =>
    have := Wm_shut M (fun j => seen.getD j false = true) (fun j k hj hk => (h.shut j k hj hk).resolve_left (by simp)) n rule rule (fun k hk => (h.first k hk).resolve_left (by simp)) hw
    rw [h.other] at this; cases this
theorem LeftInv.skip {M : Mat} {n rule k : Nat} {todo : List Nat} {seen : List Bool} (h : LeftInv M n rule (k :: todo) seen) (hs : seen.getD k false = true) : LeftInv M n rule todo seen := by
  refine ⟨h.len, fun j hj => h.reach j (by simp [hj]), ?_, ?_, h.other⟩
  · intro j hj
    rcases h.first j hj with h1 | h1
    · rcases List.mem_cons.1 h1 with h1 | h1
      · subst h1; exact .inr hs
      · exact .inl h1
    · exact .inr h1
  · intro i j hi hj
    rcases h.shut i j hi hj with h1 | h1
    · rcases List.mem_cons.1 h1 with h1 | h1
      · subst h1; exact .inr hs
      · exact .inl h1
    · exact .inr h1
theorem getD_set_true (seen : List Bool) (k j : Nat) (hk : k < seen.length) : (seen.set k true).getD j false = (decide (j = k) || seen.getD j false) := by
  simp only [List.getD_eq_getElem?_getD, List.getElem?_set]
  by_cases h : k = j
  · subst h; simp [hk]
  · rw [if_neg h]
    have : decide (j = k) = false := by simpa using fun e => h e.symm
    rw [this]; simp
theorem LeftInv.step {M : Mat} {n rule k : Nat} {todo next : List Nat} {seen : List Bool} (h : LeftInv M n rule (k :: todo) seen) (hne : k ≠ rule) (h1 : ∀ j, M k j = true ↔ j ∈ next) (h2 : ∀ j ∈ next, j < n) : LeftInv M n rule (todo ++ next) (seen.set k true) := by
  have hk := h.reach k (by simp)
  have hkl : k < seen.length := by rw [h.len]; exact hk.2
  refine ⟨by simp [h.len], ?_, ?_, ?_, ?_⟩
  · intro j hj
    rcases List.mem_append.1 hj with hj | hj
    · exact h.reach j (by simp [hj])
    · exact ⟨Wm_step M n k rule j hk.2 hk.1 ((h1 j).2 hj), h2 j hj⟩
  · intro j hj
    rw [getD_set_true _ _ _ hkl]
    rcases h.first j hj with h3 | h3
    · rcases List.mem_cons.1 h3 with h3 | h3
      · subst h3; right; simp
      · left; simp [h3]
    · right; simp only [h3, Bool.or_true]
  · intro i j hi hj
    rw [getD_set_true _ _ _ hkl] at hi ⊢
    by_cases hik : i = k
    · subst hik
      left; exact List.mem_append_right _ ((h1 j).1 hj)
    · rcases h.shut i j (by simpa [hik] using hi) hj with h3 | h3
      · rcases List.mem_cons.1 h3 with h3 | h3
        · subst h3; right; simp
        · left; simp [h3]
      · right; simp only [h3, Bool.or_true]
  · rw [getD_set_true _ _ _ hkl, h.other]
    simpa using fun e => hne e.symm
/-- How many are not seen. -/
def unseen (seen : List Bool) : Nat := (seen.filter (!·)).length
theorem unseen_set : ∀ (seen : List Bool) (k : Nat), k < seen.length → seen.getD k false = false → unseen (seen.set k true) + 1 = unseen seen
  | [], k, h, _ => by simp at h
  | b :: s, 0, _, h => by
    simp at h
    subst h; simp [unseen]
  | b :: s, k + 1, h, h' => by
    have := unseen_set s k (by simpa using h) (by simpa using h')
    unfold unseen at this ⊢
    cases b <;> simp at this ⊢ <;> omega
end Go.Proofs.YtiganlkabilblaaGreatDoor
namespace Thk
mutual
/-- How many names there are. -/
def ncP : Piece → Nat
  | .name _ => 1
  | .group c => ncC c
  | _ => 0
def ncT : Term → Nat
  | .mk _ p _ => ncP p
def ncS : List Term → Nat
  | [] => 0
  | t :: s => ncT t + ncS s
def ncC : List (List Term) → Nat
  | [] => 0
  | s :: c => ncS s + ncC c
 end
mutual
theorem first_ncP (E : Bytes → Bool) : ∀ p : Piece, (firstP E p).length ≤ ncP p
  | .name _ => by simp [firstP, ncP]
  | .lit _ => by simp [firstP]
  | .cls _ => by simp [firstP]
  | .any => by simp [firstP]
  | .group c => by simp only [firstP, ncP]; exact first_ncC E c
theorem first_ncT (E : Bytes → Bool) : ∀ t : Term, (firstT E t).length ≤ ncT t
  | .mk _ p _ => by simp only [firstT, ncT]; exact first_ncP E p
theorem first_ncS (E : Bytes → Bool) : ∀ s : List Term, (firstS E s).length ≤ ncS s
  | [] => by simp [firstS]
  | t :: s => by
    have h1 := first_ncT E t
    have h2 := first_ncS E s
    simp only [firstS, ncS, List.length_append]
    split
    · omega
    · simp; omega
theorem first_ncC (E : Bytes → Bool) : ∀ c : List (List Term), (firstC E c).length ≤ ncC c
  | [] => by simp [firstC]
  | s :: c => by
    have h1 := first_ncS E s
    have h2 := first_ncC E c
    simp only [firstC, ncC, List.length_append]
    omega
 end
theorem ahead_len (ts : List Tok) : (aheadOf ts).2.length ≤ ts.length := by
  unfold aheadOf
  repeat' split
  all_goals simp
theorem behind_len (ts : List Tok) : (behindOf ts).2.length ≤ ts.length := by
  unfold behindOf
  repeat' split
  all_goals simp
def LP1 (ts : List Tok) (r : Res Piece) : Prop := ∀ p rest, r = .ok p rest → ncP p + rest.length ≤ ts.length
def LP2 (ts : List Tok) (r : Res Term) : Prop := ∀ p rest, r = .ok p rest → ncT p + rest.length ≤ ts.length
def LP3 (ts : List Tok) (r : Res Seq) : Prop := ∀ p rest, r = .ok p rest → ncS p + rest.length ≤ ts.length
def LP4 (ts : List Tok) (r : Res Choice) : Prop := ∀ p rest, r = .ok p rest → ncC p + rest.length ≤ ts.length
theorem lp_plain {ts : List Tok} {p : Piece} (h : plainPiece (hd ts) = some p) : LP1 ts (.ok p ts.tail) := by
  intro p' rest e
  cases e
  cases ts with
  | nil => simp [hd, plainPiece, badT] at h
  | cons t ts =>
    simp only [hd, List.headD_cons] at h
    unfold plainPiece at h
    split at h
    · cases h; simp [ncP]; omega
    · cases h; simp [ncP]
    · cases h; simp [ncP]
    · split at h
      · cases h; simp [ncP]
      · cases h
    · cases h
theorem PChoice.nc {d : Nat} {ts : List Tok} {c : Choice} {rest : List Tok} (h : PChoice d ts (.ok c rest)) : ncC c + rest.length ≤ ts.length := by
  refine (PChoice.rec (motive_1 := fun _ ts r _ => LP1 ts r) (motive_2 := fun _ ts r _ => LP2 ts r) (motive_3 := fun _ ts r _ => LP3 ts r) (motive_4 := fun _ ts r _ => LP4 ts r) ?_ ?_ ?_ ?_ ?_ ?_ ?_ ?_ ?_ ?_ ?_ ?_ ?_ ?_ ?_ ?_ h : LP4 ts (.ok c rest)) c rest rfl
  · intro d ts p h; exact lp_plain h
  · intro d ts h h' p rest e; cases e
  · intro ts h p rest e; cases e
  · intro d ts c rest h1 h2 h3 h4 ih p rest' e
    cases e
    have := ih _ _ rfl
    simp only [ncP, List.length_tail] at this ⊢
    omega
  · intros; intro p rest e; cases e
  · intros; intro p rest e; cases e
  · intro d ts p rest h ih t rest' e
    cases e
    have := ih _ _ rfl
    have h1 := ahead_len ts
    have h2 := behind_len rest
    simp only [ncT]
    omega
  · intros; intro p rest e; cases e
  · intro d ts h p rest e
    cases e
    simp [ncS]
  · intro d ts t rest s rest' h1 h2 h3 ih1 ih2 p r e
    cases e
    have := ih1 _ _ rfl
    have := ih2 _ _ rfl
    simp only [ncS]
    omega
  · intros; intro p rest e; cases e
  · intros; intro p rest e; cases e
  · intro d ts s rest h1 h2 ih p r e
    cases e
    have := ih _ _ rfl
    simp only [ncC]
    omega
  · intro d ts s rest c rest' h1 h2 h3 ih1 ih2 p r e
    cases e
    have := ih1 _ _ rfl
    have := ih2 _ _ rfl
    simp only [ncC, List.length_tail] at *
    omega
  · intros; intro p rest e; cases e
  · intros; intro p rest e; cases e
theorem PRule.nc {n : Nat} {ts : List Tok} {r : Rule} {rest : List Tok} (h : PRule n ts (.ok r rest)) : ncC r.choice ≤ ts.length ∧ rest.length ≤ ts.length := by
  cases h with
  | ok _ _ _ hc =>
    have := hc.nc
    simp only [List.length_tail] at this
    simp only []
    omega
theorem PGram.nc {n : Nat} {ts : List Tok} {g : List Rule} (h : PGram n ts (.ok g)) : ∀ r ∈ g, ncC r.choice ≤ ts.length := by
  generalize hres : (Except.ok g : Except (Nat × Nat) (List Rule)) = res at h
  induction h generalizing g with
  | last hr hk =>
    cases hres
    intro r hr'
    simp only [List.mem_singleton] at hr'
    subst hr'; exact hr.nc.1
  | more hr hk _ ih =>
    cases hres
    intro r hr'
    rcases List.mem_cons.1 hr' with rfl | hr'
    · exact hr.nc.1
    · have := ih rfl r hr'
      have := hr.nc.2
      omega
  | err hr => cases hres
  | later _ _ _ _ => cases hres
theorem toksF_len : ∀ (f pos : Nat) (l : Bytes), (toksF f pos l).length ≤ f
  | 0, _, _ => by simp [toksF]
  | f + 1, pos, l => by
    simp only [toksF, List.length_cons]
    split
    · simp
    · have := toksF_len f (pos + blk false l + (tokL (l.drop (blk false l))).size) ((l.drop (blk false l)).drop (tokL (l.drop (blk false l))).size)
      omega
theorem toks_len (l : Bytes) : (toks l).length ≤ l.length + 1 := toksF_len _ _ _
end Thk
namespace Go.Proofs.YtiganlkabilblaaGreatDoor
open Thk
/-- The lists of the parts, one behind the other; of a sequence up to the first that takes something. -/
def joinF (sq : Bool) : List (List Nat) → List Bool → List Nat
  | f :: fs, b :: bs => f ++ (if sq && !b then [] else joinF sq fs bs)
  | _, _ => []
structure StepF (xs : List RE) (names : List Bytes) (l : List Bool) (R : Nat → List Nat → Prop) : Prop where
  name : ∀ k e, xs[k]? = some e → e.kind = 4 → names.contains e.text = true → R k [idx0 names e.text]
  other : ∀ k e fs, xs[k]? = some e → e.kind ≠ 4 → AllR R e.parts fs → (joinF (e.kind == 5) fs (e.parts.map fun p => l.getD p false)).length ≤ 100000 → R k (joinF (e.kind == 5) fs (e.parts.map fun p => l.getD p false))
mutual
theorem fiP {xs : List RE} {names : List Bytes} {E l : List Bool} {R : Nat → List Nat → Prop} (hl : LP xs names E l) (hR : StepF xs names l R) : ∀ (p : Piece) {k : Nat}, DenP xs k p → someP (unkT names) p = false → (∀ b, p = .name b → names.contains b = true) → ncP p ≤ 100000 → R k ((firstP (Eb names E) p).map (idx0 names))
  | .name b, k => by
    intro h _ hn _
    simp only [DenP] at h
    have := hR.name k _ h rfl (hn b rfl)
    simpa [firstP] using this
  | .lit b, k => by
    intro h _ _ _
    simp only [DenP] at h
    have := hR.other k _ [] h (by simp) trivial (by simp [joinF])
    simpa [firstP, joinF] using this
  | .cls b, k => by
    intro h _ _ _
    simp only [DenP] at h
    have := hR.other k _ [] h (by simp) trivial (by simp [joinF])
    simpa [firstP, joinF] using this
  | .any, k => by
    intro h _ _ _
    simp only [DenP] at h
    have := hR.other k _ [] h (by simp) trivial (by simp [joinF])
    simpa [firstP, joinF] using this
  | .group c, k => by
    intro h hu _ hb
    simp only [DenP] at h
    obtain ⟨qs, h1, h2⟩ := h
    simp only [someP] at hu
    simp only [ncP] at hb
    obtain ⟨fs, h3, h4⟩ := fiC hl hR c h2 hu hb
    have hbb := first_ncC (Eb names E) c
    have := hR.other k _ fs h1 (by simp) h3 (by rw [show (((⟨6, [], [], 0, qs⟩ : RE).kind) == 5) = false from rfl, h4, List.length_map]; omega)
    rw [show ((6 : Nat) == 5) = false from rfl, h4] at this
    simpa [firstP] using this
theorem fiT {xs : List RE} {names : List Bytes} {E l : List Bool} {R : Nat → List Nat → Prop} (hl : LP xs names E l) (hR : StepF xs names l R) : ∀ (t : Term) {k : Nat}, DenT xs k t → someT (unkT names) t = false → ncT t ≤ 100000 → R k ((firstT (Eb names E) t).map (idx0 names))
  | .mk a p b, k => by
    intro h hu hb
    simp only [DenT] at h
    obtain ⟨i, j, h1, h2, h3, h4, h5⟩ := h
    simp only [ncT] at hb
    have hbb := first_ncP (Eb names E) p
    have hj := fiP hl hR p h3 (free_name hu).1 (free_name hu).2 hb
    have hi : R i ((firstP (Eb names E) p).map (idx0 names)) := by
      by_cases hb0 : b = 0
      · rw [if_pos hb0] at h2
        subst h2; exact hj
      · rw [if_neg hb0] at h2
        have hs : sgnKind [b] ≠ 4 ∧ sgnKind [b] ≠ 5 := by unfold sgnKind; (repeat' split) <;> simp
        have h5' : ((wrapE (sgnKind [b]) j).kind == 5) = false := by simpa [wrapE] using hs.2
        have := hR.other i _ [_] h2 hs.1 ⟨hj, trivial⟩ (by rw [h5']; simp [joinF, wrapE]; omega)
        rw [h5'] at this
        simpa [joinF, wrapE] using this
    simp only [firstT]
    by_cases ha : a = 0
    · rw [if_pos ha] at h1
      subst h1; exact hi
    · rw [if_neg ha] at h1
      have hs : sgnKind [a] ≠ 4 ∧ sgnKind [a] ≠ 5 := by unfold sgnKind; (repeat' split) <;> simp
      have h5' : ((wrapE (sgnKind [a]) i).kind == 5) = false := by simpa [wrapE] using hs.2
      have := hR.other k _ [_] h1 hs.1 ⟨hi, trivial⟩ (by rw [h5']; simp [joinF, wrapE]; omega)
      rw [h5'] at this
      simpa [joinF, wrapE] using this
theorem fiS {xs : List RE} {names : List Bytes} {E l : List Bool} {R : Nat → List Nat → Prop} (hl : LP xs names E l) (hR : StepF xs names l R) : ∀ (s : List Term) {ks : List Nat}, DenS xs ks s → someS (unkT names) s = false → ncS s ≤ 100000 → ∃ fs, AllR R ks fs ∧ joinF true fs (ks.map fun p => l.getD p false) = (firstS (Eb names E) s).map (idx0 names)
  | [], ks => by
    intro h _ _
    simp only [DenS] at h
    subst h
    exact ⟨[], trivial, by simp [firstS, joinF]⟩
  | t :: s, ks => by
    intro h hu hb
    simp only [ncS] at hb
    simp only [DenS] at h
    obtain ⟨k, ks', rfl, h1, h2⟩ := h
    simp only [someS, Bool.or_eq_false_iff] at hu
    obtain ⟨fs, h3, h4⟩ := fiS hl hR s h2 hu.2 (by omega)
    refine ⟨_ :: fs, ⟨fiT hl hR t h1 hu.1 (by omega), h3⟩, ?_⟩
    have hk := hl.2 k t h1 hu.1
    simp only [List.map_cons, joinF, firstS, hk, h4, List.map_append]
    cases emptyT (Eb names E) t <;> simp
theorem fiC {xs : List RE} {names : List Bytes} {E l : List Bool} {R : Nat → List Nat → Prop} (hl : LP xs names E l) (hR : StepF xs names l R) : ∀ (c : List (List Term)) {qs : List Nat}, DenC xs qs c → someC (unkT names) c = false → ncC c ≤ 100000 → ∃ fs, AllR R qs fs ∧ joinF false fs (qs.map fun p => l.getD p false) = (firstC (Eb names E) c).map (idx0 names)
  | [], qs => by
    intro h _ _
    simp only [DenC] at h
    subst h
    exact ⟨[], trivial, by simp [firstC, joinF]⟩
  | s :: c, qs => by
    intro h hu hb
    simp only [ncC] at hb
    have hbb := first_ncS (Eb names E) s
    simp only [DenC] at h
    obtain ⟨q, qs', ks, rfl, h1, h2, h3⟩ := h
    simp only [someC, Bool.or_eq_false_iff] at hu
    obtain ⟨fs, h4, h5⟩ := fiS hl hR s h2 hu.1 (by omega)
    obtain ⟨gs, h6, h7⟩ := fiC hl hR c h3 hu.2 (by omega)
    have hq := hR.other q _ fs h1 (by simp) h4 (by rw [show (((⟨5, [], [], 0, ks⟩ : RE).kind) == 5) = true from rfl, h5, List.length_map]; omega)
    rw [show ((5 : Nat) == 5) = true from rfl, h5] at hq
    refine ⟨_ :: gs, ⟨hq, h6⟩, ?_⟩
    simp only [List.map_cons, joinF, firstC, Bool.false_and, h7, List.map_append]
    simp
 end
end Go.Proofs.YtiganlkabilblaaGreatDoor
namespace Thk
theorem PRule.num {n : Nat} {ts : List Tok} {r : Rule} {rest : List Tok} (h : PRule n ts (.ok r rest)) : n ≠ 20 := by
  cases h with
  | ok _ _ hn _ => exact hn
theorem PGram.len {n : Nat} {ts : List Tok} {g : List Rule} (h : PGram n ts (.ok g)) (hn : n ≤ 20) : g ≠ [] ∧ n + g.length ≤ 20 := by
  generalize hres : (Except.ok g : Except (Nat × Nat) (List Rule)) = res at h
  induction h generalizing g with
  | last hr hk =>
    cases hres
    have := hr.num
    exact ⟨by simp, by simp; omega⟩
  | more hr hk _ ih =>
    cases hres
    have h1 := hr.num
    have h2 := ih (by omega) rfl
    refine ⟨by simp, ?_⟩
    have := h2.2
    simp only [List.length_cons]
    omega
  | err hr => cases hres
  | later _ _ _ _ => cases hres
theorem term_len (S : ST) (k : Nat) (sg : Bytes) : (S.term k sg).xs.length ≤ S.xs.length + 1 := by
  rw [term_xs]; split <;> simp
theorem lay_len (S : ST) (e : RE) : (S.lay e).xs.length ≤ S.xs.length + 2 := by
  unfold ST.lay
  refine Nat.le_trans (term_len _ _ _) ?_
  simp [ST.add]
theorem behind_xlen (S : ST) (b : Bytes) : (S.behind b).xs.length ≤ S.xs.length + 1 := by
  unfold ST.behind
  simp only []
  split <;> simp [ST.add, ST.setTop]
theorem rule_len (S : ST) : S.rule.xs.length ≤ S.xs.length + 2 := by
  unfold ST.rule
  split
  · omega
  · simp only [closed_len]; omega
theorem begin_len (S : ST) (b : Bytes) : (S.begin b).xs.length ≤ S.xs.length + 2 := rule_len S
theorem signs_len {S S' : ST} {c : UInt8} (hs : S.signs c = .ok S') : S'.xs.length ≤ S.xs.length + 3 := by
  unfold ST.signs at hs
  repeat' split at hs
  all_goals first
    | cases hs; done
    | (cases hs; simp only [slash_len]; omega)
    | (cases hs; simp only []; omega)
    | (cases hs; have := behind_xlen S [c]; omega)
    | (cases hs; have := term_len S.closed (S.xs.length + 1) S.top.sign; rw [closed_len] at this; omega)
    | (cases hs; have := lay_len S ⟨3, [], [], 0, []⟩; omega)
theorem run_len : ∀ (n : Nat) (ts : List Tok), ts.length ≤ n → ∀ S S', run ts S = .ok S' → S'.xs.length ≤ S.xs.length + 3 * n := by
  intro n
  induction n with
  | zero =>
    intro ts hl S S' hr
    have : ts = [] := List.length_eq_zero_iff.1 (by omega)
    subst this
    simp [run] at hr
  | succ n ih =>
    intro ts hl S S' hr
    cases ts with
    | nil => simp [run] at hr
    | cons t rest =>
      simp at hl
      rw [run.eq_def] at hr
      simp only [] at hr
      cases hk : t.kind with
      | bad => simp only [hk] at hr; cases hr
      | fin =>
        simp only [hk] at hr
        split at hr
        · cases hr
        · cases hr; have := rule_len S; omega
      | arrow => simp only [hk] at hr; cases hr
      | sign c =>
        simp only [hk] at hr
        split at hr
        · cases hr
        · split at hr
          · cases hr
          · rename_i S1 hs
            have h1 := signs_len hs
            have := ih rest hl S1 S' hr
            omega
      | lit =>
        simp only [hk] at hr
        split at hr
        · cases hr
        · have h1 := lay_len S (exprOf t)
          have := ih rest hl _ S' hr
          omega
      | cls =>
        simp only [hk] at hr
        split at hr
        · cases hr
        · have h1 := lay_len S (exprOf t)
          have := ih rest hl _ S' hr
          omega
      | name =>
        simp only [hk] at hr
        cases rest with
        | nil => simp at hr
        | cons m rest' =>
          simp only [] at hr
          simp at hl
          split at hr
          · split at hr
            · cases hr
            · split at hr
              · cases hr
              · have h1 := begin_len S t.text
                have := ih rest' (by omega) _ S' hr
                omega
          · split at hr
            · cases hr
            · have h1 := lay_len S (exprOf t)
              have := ih (m :: rest') (by simp; omega) _ S' hr
              omega
end Thk
namespace Go.Proofs.YtiganlkabilblaaGreatDoor
open Thk
theorem Wf_TL : ∀ (n : Nat) (l : List UInt8) (pos : Nat), l.length ≤ n → Wf (TL pos l) := by
  intro n
  induction n with
  | zero =>
    intro l pos hl
    have : l = [] := List.length_eq_zero_iff.1 (by omega)
    subst this
    refine ⟨by intro c h; simp [Thk.tokL, Thk.blk] at h, ?_⟩
    simp [Thk.tokL, Thk.blk, TK.last]
  | succ n ih =>
    intro l pos hl
    rw [TL_eq]
    refine ⟨?_, ?_⟩
    · intro c hc
      have := tokL_ok (l.drop (blk false l))
      have e : (tokL (l.drop (blk false l))).kind = (tokAt pos l).kind := rfl
      rw [e, hc] at this
      exact this
    · cases hk : (tokAt pos l).kind.last with
      | true => simp
      | false =>
        simp only [Bool.false_eq_true, if_false]
        refine ih _ _ ?_
        have hs := tokL_size (l.drop (blk false l)) hk
        have e : (tokAt pos l).size = (tokL (l.drop (blk false l))).size := rfl
        rw [List.length_drop] at hs ⊢
        omega
theorem DenR.names {xs : List RE} : ∀ (rs : List (Bytes × Nat)) (g : List Rule), DenR xs rs g → rs.map (·.1) = namesOf g
  | [], [] => fun _ => rfl
  | x :: rs, r :: g => fun ⟨h1, _, h3⟩ => by
    have := DenR.names rs g h3
    simp only [List.map_cons, namesOf] at this ⊢
    rw [h1, this]
  | [], _ :: _ => fun h => h.elim
  | _ :: _, [] => fun h => h.elim
/-- What is known of the grammar that is read. -/
structure RdOk (g : List Rule) (S : ST) : Prop where
  den : DenR S.xs S.rs g
  wx : Wx S
  bd : ∀ r ∈ S.rs, r.2 < S.xs.length
  len : S.xs.length ≤ 10000
  ne : g ≠ []
  le : g.length ≤ 20
  nc : ∀ r ∈ g, ncC r.choice ≤ 2001
theorem read_ok {l : List UInt8} {g : List Rule} (h : PRead l (.ok g)) : l.length ≤ 2000 ∧ ∃ S', run (TL 0 l) S0 = .ok S' ∧ RdOk g S' := by
  cases h with
  | read hl hp =>
    obtain ⟨S', h1, h2⟩ := gram_sim hp S0 [] (.inl ⟨rfl, rfl, rfl, by rw [toks_TL]; exact Wf_TL _ l 0 (Nat.le_refl _)⟩) (by omega) (by simp)
    rw [toks_TL] at h1
    have hl2 := toks_len l
    rw [toks_TL] at hl2
    obtain ⟨w1, w2⟩ := run_wx _ (TL 0 l) (Nat.le_refl _) _ _ Wx.zero h1
    have h3 := run_len _ (TL 0 l) hl2 _ _ h1
    have h4 := hp.len (by omega)
    simp only [List.nil_append] at h2
    refine ⟨hl, S', h1, h2, w1, w2, by simp [S0] at h3; omega, h4.1, by omega, fun r hr => ?_⟩
    have := hp.nc r hr
    rw [toks_TL] at this
    omega
theorem read_err {l : List UInt8} {x : Nat × Nat} (h : PRead l (.error x)) : (2000 < l.length ∧ x = (1, 0)) ∨ (l.length ≤ 2000 ∧ run (TL 0 l) S0 = .error x) := by
  cases h with
  | long hl => exact .inl ⟨hl, rfl⟩
  | read hl hp =>
    have h1 := gram_sim hp S0 [] (.inl ⟨rfl, rfl, rfl, by rw [toks_TL]; exact Wf_TL _ l 0 (Nat.le_refl _)⟩) (by omega) (by simp)
    exact .inr ⟨hl, by rw [← toks_TL]; exact h1⟩
end Go.Proofs.YtiganlkabilblaaGreatDoor
namespace Thk
theorem Wf.tail {t : Tok} {r : List Tok} (h : Wf (t :: r)) (hl : t.kind.last = false) : Wf r := by
  have := h.2; rw [if_neg (by simp [hl])] at this; exact this
theorem run_err : ∀ (n : Nat) (ts : List Tok), ts.length ≤ n → Wf ts → ∀ S x, run ts S = .error x → x.1 ≠ 0 := by
  intro n
  induction n with
  | zero =>
    intro ts hl hw
    have : ts = [] := List.length_eq_zero_iff.1 (by omega)
    subst this
    exact hw.elim
  | succ n ih =>
    intro ts hl hw S x hr
    cases ts with
    | nil => exact hw.elim
    | cons t rest =>
      simp at hl
      rw [run.eq_def] at hr
      simp only [] at hr
      cases hk : t.kind with
      | bad => simp only [hk] at hr; cases hr; simp
      | fin =>
        simp only [hk] at hr
        split at hr
        · cases hr; simp
        · cases hr
      | arrow => simp only [hk] at hr; cases hr; simp
      | sign c =>
        simp only [hk] at hr
        split at hr
        · cases hr; simp
        · split at hr
          · rename_i er hs
            cases hr
            have := signs_err hs
            simp only []
            omega
          · rename_i S1 hs
            exact ih rest hl (hw.tail (by rw [hk]; rfl)) S1 x hr
      | lit =>
        simp only [hk] at hr
        split at hr
        · cases hr; simp
        · exact ih rest hl (hw.tail (by rw [hk]; rfl)) _ x hr
      | cls =>
        simp only [hk] at hr
        split at hr
        · cases hr; simp
        · exact ih rest hl (hw.tail (by rw [hk]; rfl)) _ x hr
      | name =>
        simp only [hk] at hr
        have hw1 := hw.tail (by rw [hk]; rfl)
        cases rest with
        | nil => exact hw1.elim
        | cons m rest' =>
          simp only [] at hr
          simp at hl
          split at hr
          · rename_i ha
            split at hr
            · cases hr; simp
            · split at hr
              · cases hr; simp
              · have hm : m.kind.last = false := by
                  cases hmk : m.kind <;> simp [hmk, TK.isArrow] at ha <;> rfl
                exact ih rest' (by omega) (hw1.tail hm) _ x hr
          · split at hr
            · cases hr; simp
            · exact ih (m :: rest') (by simp; omega) hw1 _ x hr
end Thk
namespace Go.Proofs.YtiganlkabilblaaGreatDoor
open Thk
theorem read_err0 {l : List UInt8} {x : Nat × Nat} (h : PRead l (.error x)) : x.1 ≠ 0 := by
  rcases read_err h with ⟨_, rfl⟩ | ⟨_, h1⟩
  · simp
  · exact run_err _ _ (Nat.le_refl _) (Wf_TL _ l 0 (Nat.le_refl _)) _ _ h1
theorem twice_iff {names : List Bytes} {i : Nat} (hi : i < names.length) : twiceAt names i = true ↔ ∃ k, ∃ h : k < i, names[k]'(by omega) = names[i] := by
  unfold twiceAt
  rw [List.contains_iff_mem, List.getD_eq_getElem?_getD, List.getElem?_eq_getElem hi, Option.getD_some, List.mem_iff_getElem]
  constructor
  · rintro ⟨k, hk, h⟩
    rw [List.length_take] at hk
    exact ⟨k, by omega, by simpa using h⟩
  · rintro ⟨k, hk, h⟩
    exact ⟨k, by simp; omega, by simpa using h⟩
end Go.Proofs.YtiganlkabilblaaGreatDoor
namespace Thk
/-- The uses of rules that are noted. -/
inductive Nt where
  | nil
  | use (rule from_ to : Nat) (within : Nt)
  | pair (a b : Nt)
def jn : Nt → Nt → Nt
  | .nil, b => b
  | a, .nil => a
  | a, b => .pair a b
/-- What comes of an expression: where it ended, and what it noted. -/
abbrev Out := Option (Nat × Nt)
inductive Ex where
  | P (p : Piece)
  | Q (p : Piece)
  | I (p : Piece) (b : UInt8)
  | T (t : Term)
  | S (s : List Term) (acc : Nt)
  | C (c : List (List Term))
def nameOut (i k : Nat) : Out → Out
  | none => none
  | some (e, m) => if k < e then some (e, .use i k e m) else some (e, .nil)
def inSpan (l : List Span) (c : UInt8) : Bool := l.any fun s => s.1 ≤ c && c ≤ s.2
def byteOut (inp : Bytes) (k : Nat) (f : UInt8 → Bool) : Out := match inp[k]? with
  | none => none
  | some c => if f c then some (k + 1, .nil) else none
def litOut (inp : Bytes) (k : Nat) (b : Bytes) : Out := if b.isPrefixOf (inp.drop k) then some (k + b.length, .nil) else none
def maybeOut (k : Nat) (r : Out) : Out := some (r.getD (k, .nil))
def lookOut (k : Nat) (w : Bool) (r : Out) : Out := if r.isSome == w then some (k, .nil) else none
end Thk
namespace Go.Proofs.YtiganlkabilblaaGreatDoor
open Thk
/-- What comes of an expression that is tried at a place. -/
inductive Ev (g : List Rule) (inp : Bytes) : Ex → Nat → Out → Prop
  | cnil {k} : Ev g inp (.C []) k none
  | chit {s c k x} : Ev g inp (.S s .nil) k (some x) → Ev g inp (.C (s :: c)) k (some x)
  | cmiss {s c k r} : Ev g inp (.S s .nil) k none → Ev g inp (.C c) k r → Ev g inp (.C (s :: c)) k r
  | snil {acc k} : Ev g inp (.S [] acc) k (some (k, acc))
  | sfail {t s acc k} : Ev g inp (.T t) k none → Ev g inp (.S (t :: s) acc) k none
  | sstep {t s acc k e m r} : Ev g inp (.T t) k (some (e, m)) → Ev g inp (.S s (jn acc m)) e r → Ev g inp (.S (t :: s) acc) k r
  | tplain {p b k r} : Ev g inp (.I p b) k r → Ev g inp (.T (.mk 0 p b)) k r
  | tand {p b k r} : Ev g inp (.I p b) k r → Ev g inp (.T (.mk 38 p b)) k (lookOut k true r)
  | tnot {p b k r} : Ev g inp (.I p b) k r → Ev g inp (.T (.mk 33 p b)) k (lookOut k false r)
  | iplain {p k r} : Ev g inp (.P p) k r → Ev g inp (.I p 0) k r
  | imaybe {p k r} : Ev g inp (.P p) k r → Ev g inp (.I p 63) k (maybeOut k r)
  | istar {p k r} : Ev g inp (.Q p) k r → Ev g inp (.I p 42) k (maybeOut k r)
  | iplus {p k r} : Ev g inp (.Q p) k r → Ev g inp (.I p 43) k r
  | qno {p k} : Ev g inp (.P p) k none → Ev g inp (.Q p) k none
  | qlast {p k e m} : Ev g inp (.P p) k (some (e, m)) → Ev g inp (.Q p) e none → Ev g inp (.Q p) k (some (e, m))
  | qmore {p k e m e2 m2} : Ev g inp (.P p) k (some (e, m)) → Ev g inp (.Q p) e (some (e2, m2)) → Ev g inp (.Q p) k (some (e2, jn m m2))
  | pname {b k r} (h : idx0 (namesOf g) b < g.length) (hc : (namesOf g).contains b = true) : Ev g inp (.C g[idx0 (namesOf g) b].choice) k r → Ev g inp (.P (.name b)) k (nameOut (idx0 (namesOf g) b) k r)
  | plit {b k} (h : b.length ≤ 20) : Ev g inp (.P (.lit b)) k (litOut inp k b)
  | pcls {l k} (h : l.length ≤ 20) : Ev g inp (.P (.cls l)) k (byteOut inp k (inSpan l))
  | pany {k} : Ev g inp (.P .any) k (byteOut inp k (fun _ => true))
  | pgroup {c k r} : Ev g inp (.C c) k r → Ev g inp (.P (.group c)) k r
mutual
/-- What is asked of expressions so that they end. -/
def goodP (names : List Bytes) (E : List Bool) : Piece → Prop
  | .name b => names.contains b = true
  | .lit b => b ≠ [] ∧ b.length ≤ 20
  | .cls l => l.length ≤ 20
  | .group c => goodC names E c
  | .any => True
def goodT (names : List Bytes) (E : List Bool) : Term → Prop
  | .mk a p b => (a = 0 ∨ a = 38 ∨ a = 33) ∧ (b = 0 ∨ b = 63 ∨ b = 42 ∨ b = 43) ∧ goodP names E p ∧ ((b = 42 ∨ b = 43) → emptyP (Eb names E) p = false)
def goodS (names : List Bytes) (E : List Bool) : List Term → Prop
  | [] => True
  | t :: s => goodT names E t ∧ goodS names E s
def goodC (names : List Bytes) (E : List Bool) : List (List Term) → Prop
  | [] => True
  | s :: c => goodS names E s ∧ goodC names E c
 end
def goodX (names : List Bytes) (E : List Bool) : Ex → Prop
  | .P p => goodP names E p
  | .Q p => goodP names E p
  | .I p _ => goodP names E p
  | .T t => goodT names E t
  | .S s _ => goodS names E s
  | .C c => goodC names E c
def emptyX' (F : Bytes → Bool) : Ex → Bool
  | .P p => emptyP F p
  | .Q p => emptyP F p
  | .I p b => (b == 63 || b == 42) || emptyP F p
  | .T t => emptyT F t
  | .S s _ => emptyS F s
  | .C c => emptyC F c
structure Ends' (g : List Rule) (E : List Bool) : Prop where
  good : ∀ i (h : i < g.length), goodC (namesOf g) E g[i].choice
  shut : Closed (namesOf g) g E
  left : LeftIs (namesOf g) E g none
  pos : 0 < g.length
theorem byteOut_le {inp : Bytes} {k e : Nat} {f : UInt8 → Bool} {m : Nt} (h : byteOut inp k f = some (e, m)) : e = k + 1 ∧ e ≤ inp.length := by
  unfold byteOut at h
  split at h
  · cases h
  · rename_i c hc
    have := (List.getElem?_eq_some_iff.1 hc).1
    split at h
    · cases h; exact ⟨rfl, by omega⟩
    · cases h
theorem litOut_le {inp : Bytes} {k e : Nat} {b : Bytes} {m : Nt} (hk : k ≤ inp.length) (h : litOut inp k b = some (e, m)) : e = k + b.length ∧ e ≤ inp.length := by
  unfold litOut at h
  split at h
  · rename_i hp
    cases h
    have := (List.isPrefixOf_iff_prefix.1 hp).length_le
    rw [List.length_drop] at this
    exact ⟨rfl, by omega⟩
  · cases h
theorem Ev.le {g : List Rule} {inp : Bytes} {x : Ex} {k : Nat} {r : Out} (h : Ev g inp x k r) : k ≤ inp.length → ∀ e m, r = some (e, m) → k ≤ e ∧ e ≤ inp.length := by
  induction h with
  | cnil => intro _ e m h; cases h
  | chit _ ih => intro hk e m h; exact ih hk e m h
  | cmiss _ _ _ ih => intro hk e m h; exact ih hk e m h
  | snil => intro hk e m h; cases h; exact ⟨Nat.le_refl _, hk⟩
  | sfail => intro _ e m h; cases h
  | sstep _ _ ih1 ih2 =>
    intro hk e m h
    have h1 := ih1 hk _ _ rfl
    have h2 := ih2 h1.2 e m h
    omega
  | tplain _ ih => exact ih
  | tand _ ih =>
    intro hk e m h
    unfold lookOut at h
    split at h <;> cases h
    exact ⟨Nat.le_refl _, hk⟩
  | tnot _ ih =>
    intro hk e m h
    unfold lookOut at h
    split at h <;> cases h
    exact ⟨Nat.le_refl _, hk⟩
  | iplain _ ih => exact ih
  | @imaybe p k r _ ih =>
    intro hk e m h
    cases r with
    | none => cases h; exact ⟨Nat.le_refl _, hk⟩
    | some x => exact ih hk e m h
  | @istar p k r _ ih =>
    intro hk e m h
    cases r with
    | none => cases h; exact ⟨Nat.le_refl _, hk⟩
    | some x => exact ih hk e m h
  | iplus _ ih => exact ih
  | qno => intro _ e m h; cases h
  | qlast _ _ ih1 _ => exact ih1
  | qmore _ _ ih1 ih2 =>
    intro hk e m h
    have h1 := ih1 hk _ _ rfl
    cases h
    have h2 := ih2 h1.2 _ _ rfl
    omega
  | @pname b k r h hc _ ih =>
    intro hk e m h
    cases r with
    | none => cases h
    | some x =>
      obtain ⟨e', m'⟩ := x
      have := ih hk e' m' rfl
      unfold nameOut at h
      simp only [] at h
      split at h <;> cases h <;> exact this
  | plit =>
    intro hk e m h
    have := litOut_le hk h
    omega
  | pcls =>
    intro hk e m h
    have := byteOut_le h
    omega
  | pany =>
    intro hk e m h
    have := byteOut_le h
    omega
  | pgroup _ ih => exact ih
theorem nameOut_end {i k e : Nat} {r : Out} {m : Nt} (h : nameOut i k r = some (e, m)) : ∃ m', r = some (e, m') := by
  cases r with
  | none => cases h
  | some x =>
    obtain ⟨e', m'⟩ := x
    unfold nameOut at h
    simp only [] at h
    split at h <;> cases h <;> exact ⟨_, rfl⟩
/-- What took no bytes may take nothing. -/
theorem Ev.empty {g : List Rule} {inp : Bytes} {E : List Bool} (hE : Ends' g E) {x : Ex} {k : Nat} {r : Out} (h : Ev g inp x k r) : k ≤ inp.length → goodX (namesOf g) E x → ∀ m, r = some (k, m) → emptyX' (Eb (namesOf g) E) x = true := by
  induction h with
  | cnil => intro _ _ m h; cases h
  | chit _ ih =>
    intro hk hg m h
    simp only [goodX, goodC] at hg
    have := ih hk hg.1 m h
    simp only [emptyX', emptyC] at *
    rw [this]; rfl
  | cmiss _ _ _ ih =>
    intro hk hg m h
    simp only [goodX, goodC] at hg
    have := ih hk hg.2 m h
    simp only [emptyX', emptyC] at *
    rw [this]; simp
  | snil => intro _ _ m h; simp [emptyX', emptyS]
  | sfail => intro _ _ m h; cases h
  | sstep h1 h2 ih1 ih2 =>
    intro hk hg m h
    simp only [goodX, goodS] at hg
    have l1 := h1.le hk _ _ rfl
    have l2 := h2.le l1.2 _ _ h
    have e1 : _ = _ := Nat.le_antisymm l2.1 l1.1
    subst e1
    have a1 := ih1 hk hg.1 _ rfl
    have a2 := ih2 hk hg.2 _ h
    simp only [emptyX', emptyS] at *
    rw [a1, a2]; rfl
  | tplain _ ih =>
    intro hk hg m h
    simp only [goodX, goodT] at hg
    have := ih hk hg.2.2.1 m h
    simp only [emptyX', emptyT] at *
    simpa using this
  | tand _ ih => intro _ _ m h; simp [emptyX', emptyT]
  | tnot _ ih => intro _ _ m h; simp [emptyX', emptyT]
  | iplain _ ih =>
    intro hk hg m h
    have := ih hk hg m h
    simp only [emptyX'] at *
    simpa using this
  | imaybe _ ih => intro _ _ m h; simp [emptyX']
  | istar _ ih => intro _ _ m h; simp [emptyX']
  | iplus _ ih =>
    intro hk hg m h
    have := ih hk hg m h
    simp only [emptyX'] at *
    simpa using this
  | qno => intro _ _ m h; cases h
  | qlast _ _ ih1 _ => exact ih1
  | qmore h1 h2 ih1 ih2 =>
    intro hk hg m h
    have l1 := h1.le hk _ _ rfl
    have l2 := h2.le l1.2 _ _ rfl
    cases h
    have e1 : _ = _ := Nat.le_antisymm l2.1 l1.1
    subst e1
    exact ih1 hk hg _ rfl
  | @pname b k r hlt hc _ ih =>
    intro hk hg m h
    obtain ⟨m', rfl⟩ := nameOut_end h
    have := ih hk (hE.good _ hlt) m' rfl
    exact hE.shut _ hlt this
  | @plit b k _ =>
    intro hk hg m h
    have := (litOut_le hk h).1
    simp only [goodX, goodP] at hg
    have : b.length ≠ 0 := fun e => hg.1 (List.length_eq_zero_iff.1 e)
    omega
  | pcls => intro hk hg m h; have := (byteOut_le h).1; omega
  | pany => intro hk hg m h; have := (byteOut_le h).1; omega
  | pgroup _ ih => exact ih
end Go.Proofs.YtiganlkabilblaaGreatDoor
namespace Go.Proofs.YtiganlkabilblaaGreatDoor
open Thk
def Tot (g : List Rule) (inp : Bytes) (x : Ex) (k : Nat) : Prop := ∃ r, Ev g inp x k r
/-- All rules behind a place come to an end. -/
def Past (g : List Rule) (inp : Bytes) (k : Nat) : Prop := ∀ k', k < k' → k' ≤ inp.length → ∀ i (h : i < g.length), Tot g inp (.C g[i].choice) k'
/-- Those of a list do at a place. -/
def At (g : List Rule) (inp : Bytes) (l : List Bytes) (k : Nat) : Prop := ∀ b ∈ l, ∀ (h : idx0 (namesOf g) b < g.length), Tot g inp (.C g[idx0 (namesOf g) b].choice) k
theorem Past.next {g : List Rule} {inp : Bytes} {k k' : Nat} (h : Past g inp k) (hk : k ≤ k') : Past g inp k' := fun j hj hl i hi => h j (by omega) hl i hi
theorem Past.at_ {g : List Rule} {inp : Bytes} {k k' : Nat} (h : Past g inp k) (hk : k < k') (hl : k' ≤ inp.length) (l : List Bytes) : At g inp l k' := fun _ _ hi => h k' hk hl _ hi
theorem tot_Q {g : List Rule} {inp : Bytes} {E : List Bool} (hE : Ends' g E) {p : Piece} (hg : goodP (namesOf g) E p) (he : emptyP (Eb (namesOf g) E) p = false)
    (ih : ∀ k, k ≤ inp.length → At g inp (firstP (Eb (namesOf g) E) p) k → Past g inp k → Tot g inp (.P p) k) :
    ∀ n k, inp.length - k ≤ n → k ≤ inp.length → At g inp (firstP (Eb (namesOf g) E) p) k → Past g inp k → Tot g inp (.Q p) k
  | n, k, hn, hk, ha, hp => by
    obtain ⟨r, hr⟩ := ih k hk ha hp
    cases r with
    | none => exact ⟨_, .qno hr⟩
    | some x =>
      obtain ⟨e, m⟩ := x
      have hle := hr.le hk _ _ rfl
      have hne : e ≠ k := by
        rintro rfl
        have := hr.empty hE hk hg m rfl
        simp only [emptyX'] at this
        rw [he] at this
        cases this
      cases n with
      | zero => omega
      | succ n =>
        obtain ⟨r2, h2⟩ := tot_Q hE hg he ih n e (by omega) hle.2 (hp.at_ (by omega) hle.2 _) (hp.next (by omega))
        cases r2 with
        | none => exact ⟨_, .qlast hr h2⟩
        | some y => exact ⟨_, .qmore (e2 := y.1) (m2 := y.2) hr h2⟩
mutual
theorem tot_P {g : List Rule} {inp : Bytes} {E : List Bool} (hE : Ends' g E) : ∀ (p : Piece) (k : Nat), goodP (namesOf g) E p → k ≤ inp.length → At g inp (firstP (Eb (namesOf g) E) p) k → Past g inp k → Tot g inp (.P p) k
  | .name b, k => by
    intro hg hk ha hp
    have hl : idx0 (namesOf g) b < g.length := by
      have := idx0_lt (names := namesOf g) b (by rw [names_len]; exact hE.pos)
      rw [names_len] at this; exact this
    obtain ⟨r, hr⟩ := ha b (by simp [firstP]) hl
    simp only [goodP] at hg
    exact ⟨_, .pname hl hg hr⟩
  | .lit b, k => fun hg _ _ _ => ⟨_, .plit (by simp only [goodP] at hg; exact hg.2)⟩
  | .cls l, k => fun hg _ _ _ => ⟨_, .pcls (by simp only [goodP] at hg; exact hg)⟩
  | .any, k => fun _ _ _ _ => ⟨_, .pany⟩
  | .group c, k => by
    intro hg hk ha hp
    simp only [goodP] at hg
    simp only [firstP] at ha
    obtain ⟨r, hr⟩ := tot_C hE c k hg hk ha hp
    exact ⟨_, .pgroup hr⟩
theorem tot_T {g : List Rule} {inp : Bytes} {E : List Bool} (hE : Ends' g E) : ∀ (t : Term) (k : Nat), goodT (namesOf g) E t → k ≤ inp.length → At g inp (firstT (Eb (namesOf g) E) t) k → Past g inp k → Tot g inp (.T t) k
  | .mk a p b, k => by
    intro hg hk ha hp
    simp only [goodT] at hg
    simp only [firstT] at ha
    obtain ⟨h1, h2, h3, h4⟩ := hg
    have ih := fun (k : Nat) (hk : k ≤ inp.length) (ha : At g inp (firstP (Eb (namesOf g) E) p) k) (hp : Past g inp k) => tot_P hE p k h3 hk ha hp
    have hI : Tot g inp (.I p b) k := by
      rcases h2 with rfl | rfl | rfl | rfl
      · obtain ⟨r, hr⟩ := ih k hk ha hp
        exact ⟨_, .iplain hr⟩
      · obtain ⟨r, hr⟩ := ih k hk ha hp
        exact ⟨_, .imaybe hr⟩
      · obtain ⟨r, hr⟩ := tot_Q hE h3 (h4 (.inl rfl)) ih _ k (Nat.le_refl _) hk ha hp
        exact ⟨_, .istar hr⟩
      · obtain ⟨r, hr⟩ := tot_Q hE h3 (h4 (.inr rfl)) ih _ k (Nat.le_refl _) hk ha hp
        exact ⟨_, .iplus hr⟩
    obtain ⟨r, hr⟩ := hI
    rcases h1 with rfl | rfl | rfl
    · exact ⟨_, .tplain hr⟩
    · exact ⟨_, .tand hr⟩
    · exact ⟨_, .tnot hr⟩
theorem tot_S {g : List Rule} {inp : Bytes} {E : List Bool} (hE : Ends' g E) : ∀ (s : List Term) (acc : Nt) (k : Nat), goodS (namesOf g) E s → k ≤ inp.length → At g inp (firstS (Eb (namesOf g) E) s) k → Past g inp k → Tot g inp (.S s acc) k
  | [], acc, k => fun _ _ _ _ => ⟨_, .snil⟩
  | t :: s, acc, k => by
    intro hg hk ha hp
    simp only [goodS] at hg
    simp only [firstS] at ha
    obtain ⟨r, hr⟩ := tot_T hE t k hg.1 hk (fun b hb => ha b (List.mem_append_left _ hb)) hp
    cases r with
    | none => exact ⟨_, .sfail hr⟩
    | some x =>
      obtain ⟨e, m⟩ := x
      have hle := hr.le hk _ _ rfl
      by_cases hek : e = k
      · subst hek
        have hem := hr.empty hE hk hg.1 m rfl
        simp only [emptyX'] at hem
        obtain ⟨r2, h2⟩ := tot_S hE s (jn acc m) e hg.2 hk (fun b hb => ha b (List.mem_append_right _ (by rw [if_pos hem]; exact hb))) hp
        exact ⟨_, .sstep hr h2⟩
      · obtain ⟨r2, h2⟩ := tot_S hE s (jn acc m) e hg.2 hle.2 (hp.at_ (by omega) hle.2 _) (hp.next (by omega))
        exact ⟨_, .sstep hr h2⟩
theorem tot_C {g : List Rule} {inp : Bytes} {E : List Bool} (hE : Ends' g E) : ∀ (c : List (List Term)) (k : Nat), goodC (namesOf g) E c → k ≤ inp.length → At g inp (firstC (Eb (namesOf g) E) c) k → Past g inp k → Tot g inp (.C c) k
  | [], k => fun _ _ _ _ => ⟨_, .cnil⟩
  | s :: c, k => by
    intro hg hk ha hp
    simp only [goodC] at hg
    simp only [firstC] at ha
    obtain ⟨r, hr⟩ := tot_S hE s .nil k hg.1 hk (fun b hb => ha b (List.mem_append_left _ hb)) hp
    cases r with
    | some x => exact ⟨_, .chit hr⟩
    | none =>
      obtain ⟨r2, h2⟩ := tot_C hE c k hg.2 hk (fun b hb => ha b (List.mem_append_right _ hb)) hp
      exact ⟨_, .cmiss hr h2⟩
 end
/-- How many rules a rule comes first to. -/
def cnt (M : Mat) (n i : Nat) : Nat := ((List.range n).filter (fun j => Wm M n i j)).length
theorem filter_lt {α : Type} {f h : α → Bool} : ∀ (l : List α), (∀ x ∈ l, f x = true → h x = true) → (∃ x ∈ l, h x = true ∧ f x = false) → (l.filter f).length < (l.filter h).length
  | [], _, ⟨x, hx, _⟩ => by simp at hx
  | a :: l, h1, ⟨x, hx, h2, h3⟩ => by
    have hle : (l.filter f).length ≤ (l.filter h).length := by
      clear h2 h3 hx
      induction l with
      | nil => simp
      | cons b l ih =>
        have hb := h1 b (by simp)
        have := ih (fun x hx => h1 x (by simp at hx ⊢; rcases hx with h | h; exact .inl h; exact .inr (.inr h)))
        cases hf : f b with
        | true => rw [List.filter_cons_of_pos (by rw [hf]), List.filter_cons_of_pos (hb hf)]; simp; omega
        | false =>
          rw [List.filter_cons_of_neg (by rw [hf]; simp)]
          cases hh : h b with
          | true => rw [List.filter_cons_of_pos (by rw [hh])]; simp; omega
          | false => rw [List.filter_cons_of_neg (by rw [hh]; simp)]; exact this
    rcases List.mem_cons.1 hx with rfl | hx'
    · rw [List.filter_cons_of_neg (by rw [h3]; simp), List.filter_cons_of_pos h2]
      simp; omega
    · have ih := filter_lt l (fun x hx => h1 x (by simp [hx])) ⟨x, hx', h2, h3⟩
      cases hf : f a with
      | true =>
        rw [List.filter_cons_of_pos (by rw [hf]), List.filter_cons_of_pos (h1 a (by simp) hf)]
        simp; omega
      | false =>
        rw [List.filter_cons_of_neg (by rw [hf]; simp)]
        cases hh : h a with
        | true => rw [List.filter_cons_of_pos (by rw [hh])]; simp; omega
        | false => rw [List.filter_cons_of_neg (by rw [hh]; simp)]; exact ih
theorem cnt_lt {M : Mat} {n i j : Nat} (hi : ∀ i, i < n → Wm M n i i = false) (hj : j < n) (h : M i j = true) : cnt M n j < cnt M n i := by
  refine filter_lt _ ?_ ⟨j, by simpa using hj, Wm_base M n i j h, hi j hj⟩
  intro x hx hw
  exact Wm_trans M n j i x hj (Wm_base M n i j h) hw
theorem tot_rules {g : List Rule} {inp : Bytes} {E : List Bool} (hE : Ends' g E) : ∀ n k, inp.length - k ≤ n → k ≤ inp.length → ∀ i (h : i < g.length), Tot g inp (.C g[i].choice) k := by
  intro n
  induction n with
  | zero =>
    intro k hn hk
    have hp : Past g inp k := fun k' h1 h2 => by omega
    suffices H : ∀ m i (h : i < g.length), cnt (dirM (namesOf g) E g) g.length i ≤ m → Tot g inp (.C g[i].choice) k from fun i h => H _ i h (Nat.le_refl _)
    intro m
    induction m with
    | zero =>
      intro i h hm
      refine tot_C hE _ k (hE.good i h) hk ?_ hp
      intro b hb hl
      have hd : dirM (namesOf g) E g i (idx0 (namesOf g) b) = true := (dirM_iff h (by rw [names_len]; exact hE.pos)).2 (List.mem_map.2 ⟨b, hb, rfl⟩)
      have := cnt_lt hE.left hl hd
      omega
    | succ m ih =>
      intro i h hm
      refine tot_C hE _ k (hE.good i h) hk ?_ hp
      intro b hb hl
      have hd : dirM (namesOf g) E g i (idx0 (namesOf g) b) = true := (dirM_iff h (by rw [names_len]; exact hE.pos)).2 (List.mem_map.2 ⟨b, hb, rfl⟩)
      have := cnt_lt hE.left hl hd
      exact ih _ hl (by omega)
  | succ n ihn =>
    intro k hn hk
    have hp : Past g inp k := fun k' h1 h2 i hi => ihn k' (by omega) h2 i hi
    suffices H : ∀ m i (h : i < g.length), cnt (dirM (namesOf g) E g) g.length i ≤ m → Tot g inp (.C g[i].choice) k from fun i h => H _ i h (Nat.le_refl _)
    intro m
    induction m with
    | zero =>
      intro i h hm
      refine tot_C hE _ k (hE.good i h) hk ?_ hp
      intro b hb hl
      have hd : dirM (namesOf g) E g i (idx0 (namesOf g) b) = true := (dirM_iff h (by rw [names_len]; exact hE.pos)).2 (List.mem_map.2 ⟨b, hb, rfl⟩)
      have := cnt_lt hE.left hl hd
      omega
    | succ m ih =>
      intro i h hm
      refine tot_C hE _ k (hE.good i h) hk ?_ hp
      intro b hb hl
      have hd : dirM (namesOf g) E g i (idx0 (namesOf g) b) = true := (dirM_iff h (by rw [names_len]; exact hE.pos)).2 (List.mem_map.2 ⟨b, hb, rfl⟩)
      have := cnt_lt hE.left hl hd
      exact ih _ hl (by omega)
/-- Something comes of the first rule, be it nothing. -/
theorem tot_first {g : List Rule} {inp : Bytes} {E : List Bool} (hE : Ends' g E) : ∃ r, Ev g inp (.C (g[0]'hE.pos).choice) 0 r := tot_rules hE _ 0 (Nat.le_refl _) (Nat.zero_le _) 0 hE.pos
end Go.Proofs.YtiganlkabilblaaGreatDoor
namespace Thk
mutual
/-- Signs are signs; literals are not empty. -/
def okP : Piece → Prop
  | .lit b => b ≠ [] ∧ b.length ≤ 20
  | .cls l => l.length ≤ 20
  | .name b => b.length ≤ 12
  | .any => True
  | .group c => okC c
def okT : Term → Prop
  | .mk a p b => (a = 0 ∨ a = 38 ∨ a = 33) ∧ (b = 0 ∨ b = 63 ∨ b = 42 ∨ b = 43) ∧ okP p
def okS : List Term → Prop
  | [] => True
  | t :: s => okT t ∧ okS s
def okC : List (List Term) → Prop
  | [] => True
  | s :: c => okS s ∧ okC c
 end
def okTok (t : Tok) : Prop := (t.kind = .lit → t.text ≠ [] ∧ t.text.length ≤ 20) ∧ (t.kind = .cls → t.spans.length ≤ 20) ∧ (t.kind = .name → t.text.length ≤ 12)
def OkToks (ts : List Tok) : Prop := ∀ t ∈ ts, okTok t
theorem OkToks.tail {ts : List Tok} (h : OkToks ts) : OkToks ts.tail := fun t ht => h t (List.mem_of_mem_tail ht)
theorem OkToks.ahead {ts : List Tok} (h : OkToks ts) : OkToks (aheadOf ts).2 := by
  unfold aheadOf
  repeat' split
  all_goals first | exact h | exact h.tail
theorem OkToks.behind {ts : List Tok} (h : OkToks ts) : OkToks (behindOf ts).2 := by
  unfold behindOf
  repeat' split
  all_goals first | exact h | exact h.tail
theorem ahead_sign (ts : List Tok) : (aheadOf ts).1 = 0 ∨ (aheadOf ts).1 = 38 ∨ (aheadOf ts).1 = 33 := by
  unfold aheadOf
  repeat' split
  all_goals first | (rename_i h; exact .inr h) | exact .inl rfl
theorem behind_sign (ts : List Tok) : (behindOf ts).1 = 0 ∨ (behindOf ts).1 = 63 ∨ (behindOf ts).1 = 42 ∨ (behindOf ts).1 = 43 := by
  unfold behindOf
  repeat' split
  all_goals first | (rename_i h; exact .inr h) | exact .inl rfl
def OP1 (ts : List Tok) (r : Res Piece) : Prop := OkToks ts → ∀ p rest, r = .ok p rest → okP p ∧ OkToks rest
def OP2 (ts : List Tok) (r : Res Term) : Prop := OkToks ts → ∀ p rest, r = .ok p rest → okT p ∧ OkToks rest
def OP3 (ts : List Tok) (r : Res Seq) : Prop := OkToks ts → ∀ p rest, r = .ok p rest → okS p ∧ OkToks rest
def OP4 (ts : List Tok) (r : Res Choice) : Prop := OkToks ts → ∀ p rest, r = .ok p rest → okC p ∧ OkToks rest
theorem op_plain {ts : List Tok} {p : Piece} (h : plainPiece (hd ts) = some p) : OP1 ts (.ok p ts.tail) := by
  intro hs p' rest e
  cases e
  cases ts with
  | nil => simp [hd, plainPiece, badT] at h
  | cons t ts =>
    obtain ⟨h1, h2, h3⟩ := hs t (by simp)
    refine ⟨?_, hs.tail⟩
    simp only [hd, List.headD_cons] at h
    unfold plainPiece at h
    split at h
    · rename_i hk; cases h; simp only [okP]; exact h3 hk
    · rename_i hk; cases h; simp only [okP]; exact h1 hk
    · rename_i hk; cases h; simp only [okP]; exact h2 hk
    · split at h
      · cases h; simp [okP]
      · cases h
    · cases h
theorem PChoice.ok {d : Nat} {ts : List Tok} {c : Choice} {rest : List Tok} (h : PChoice d ts (.ok c rest)) (hs : OkToks ts) : okC c ∧ OkToks rest := by
  refine (PChoice.rec (motive_1 := fun _ ts r _ => OP1 ts r) (motive_2 := fun _ ts r _ => OP2 ts r) (motive_3 := fun _ ts r _ => OP3 ts r) (motive_4 := fun _ ts r _ => OP4 ts r) ?_ ?_ ?_ ?_ ?_ ?_ ?_ ?_ ?_ ?_ ?_ ?_ ?_ ?_ ?_ ?_ h : OP4 ts (.ok c rest)) hs c rest rfl
  · intro d ts p h; exact op_plain h
  · intro d ts h h' hs p rest e; cases e
  · intro ts h hs p rest e; cases e
  · intro d ts c rest h1 h2 h3 h4 ih hs p rest' e
    cases e
    obtain ⟨i1, i2⟩ := ih hs.tail _ _ rfl
    exact ⟨by simp only [okP]; exact i1, i2.tail⟩
  · intros; intro hs p rest e; cases e
  · intros; intro hs p rest e; cases e
  · intro d ts p rest h ih hs t rest' e
    cases e
    obtain ⟨i1, i2⟩ := ih hs.ahead _ _ rfl
    exact ⟨by simp only [okT]; exact ⟨ahead_sign ts, behind_sign rest, i1⟩, i2.behind⟩
  · intros; intro hs p rest e; cases e
  · intro d ts h hs p rest e
    cases e
    exact ⟨by simp [okS], hs⟩
  · intro d ts t rest s rest' h1 h2 h3 ih1 ih2 hs p r e
    cases e
    obtain ⟨i1, i2⟩ := ih1 hs _ _ rfl
    obtain ⟨j1, j2⟩ := ih2 i2 _ _ rfl
    exact ⟨by simp only [okS]; exact ⟨i1, j1⟩, j2⟩
  · intros; intro hs p rest e; cases e
  · intros; intro hs p rest e; cases e
  · intro d ts s rest h1 h2 ih hs p r e
    cases e
    obtain ⟨i1, i2⟩ := ih hs _ _ rfl
    exact ⟨by simp only [okC]; exact ⟨i1, trivial⟩, i2⟩
  · intro d ts s rest c rest' h1 h2 h3 ih1 ih2 hs p r e
    cases e
    obtain ⟨i1, i2⟩ := ih1 hs _ _ rfl
    obtain ⟨j1, j2⟩ := ih2 i2.tail _ _ rfl
    exact ⟨by simp only [okC]; exact ⟨i1, j1⟩, j2⟩
  · intros; intro hs p rest e; cases e
  · intros; intro hs p rest e; cases e
theorem closes_items {l : Bytes} {n : Nat} {m : UInt8} {k : Nat} (h : closesL l n m k = true) : 1 ≤ k ∧ k ≤ 20 := by
  unfold closesL at h
  simp at h
  omega
theorem tokL_okTok (l : Bytes) : okTok (tokL l) := by
  have hb : okTok badT := ⟨by simp [badT], by simp [badT], by simp [badT]⟩
  cases l with
  | nil => exact ⟨by simp [tokL], by simp [tokL], by simp [tokL]⟩
  | cons c t =>
    simp only [tokL]
    split
    · unfold nameT
      split
      · exact hb
      · refine ⟨by simp, by simp, fun _ => ?_⟩
        rw [List.length_take]; omega
    · split
      · exact ⟨by simp, by simp, by simp⟩
      · split
        · unfold litT
          split
          · rename_i h
            have := closes_items h
            exact ⟨fun _ => ⟨fun e => by simp only [] at e; rw [e] at this; simp at this, this.2⟩, by simp, by simp⟩
          · exact hb
        · split
          · unfold clsT
            split
            · rename_i h
              exact ⟨by simp, fun _ => (closes_items h).2, by simp⟩
            · exact hb
          · split
            · exact ⟨by simp, by simp, by simp⟩
            · exact hb
theorem toksF_okTok : ∀ (f pos : Nat) (l : Bytes), OkToks (toksF f pos l)
  | 0, _, _ => by intro t ht; simp [toksF] at ht
  | f + 1, pos, l => by
    intro t ht
    simp only [toksF, List.mem_cons] at ht
    rcases ht with rfl | ht
    · exact tokL_okTok _
    · split at ht
      · simp at ht
      · exact toksF_okTok f _ _ t ht
theorem PRule.ok' {n : Nat} {ts : List Tok} {r : Rule} {rest : List Tok} (h : PRule n ts (.ok r rest)) (hs : OkToks ts) : okC r.choice ∧ r.name.length ≤ 12 ∧ OkToks rest := by
  cases h with
  | ok hk _ _ hc =>
    obtain ⟨i1, i2⟩ := hc.ok hs.tail.tail
    refine ⟨i1, ?_, i2⟩
    cases ts with
    | nil => simp [hd, badT] at hk
    | cons t ts => simp only [hd, List.headD_cons] at hk ⊢; exact (hs t (by simp)).2.2 hk
theorem PGram.ok' {n : Nat} {ts : List Tok} {g : List Rule} (h : PGram n ts (.ok g)) (hs : OkToks ts) : ∀ r ∈ g, okC r.choice ∧ r.name.length ≤ 12 := by
  generalize hres : (Except.ok g : Except (Nat × Nat) (List Rule)) = res at h
  induction h generalizing g with
  | last hr hk =>
    cases hres
    intro r hr'
    simp only [List.mem_singleton] at hr'
    subst hr'
    have := hr.ok' hs
    exact ⟨this.1, this.2.1⟩
  | more hr hk _ ih =>
    cases hres
    intro r hr'
    have h1 := hr.ok' hs
    rcases List.mem_cons.1 hr' with rfl | hr'
    · exact ⟨h1.1, h1.2.1⟩
    · exact ih h1.2.2 rfl r hr'
  | err hr => cases hres
  | later _ _ _ _ => cases hres
end Thk
namespace Go.Proofs.YtiganlkabilblaaGreatDoor
open Thk
mutual
theorem good_P {names : List Bytes} {E : List Bool} : ∀ p : Piece, okP p → someP (unkT names) p = false → (∀ b, p = .name b → names.contains b = true) → someP (loopT (Eb names E)) p = false → goodP names E p
  | .name b => by intro _ _ h _; simp only [goodP]; exact h b rfl
  | .lit b => by intro h _ _ _; simp only [okP] at h; simp only [goodP]; exact h
  | .cls l => by intro h _ _ _; simp only [okP] at h; simp only [goodP]; exact h
  | .any => by intro _ _ _ _; simp [goodP]
  | .group c => by
    intro h h1 _ h2
    simp only [okP] at h
    simp only [someP] at h1 h2
    simp only [goodP]
    exact good_C c h h1 h2
theorem good_T {names : List Bytes} {E : List Bool} : ∀ t : Term, okT t → someT (unkT names) t = false → someT (loopT (Eb names E)) t = false → goodT names E t
  | .mk a p b => by
    intro h h1 h2
    obtain ⟨f1, f2⟩ := free_name h1
    simp only [okT] at h
    simp only [someT, Bool.or_eq_false_iff] at h2
    simp only [goodT]
    refine ⟨h.1, h.2.1, good_P p h.2.2 f1 f2 h2.2, ?_⟩
    intro hb
    have := h2.1
    simp only [loopT, Term.behind, Term.piece] at this
    rcases hb with rfl | rfl <;> simpa using this
theorem good_S {names : List Bytes} {E : List Bool} : ∀ s : List Term, okS s → someS (unkT names) s = false → someS (loopT (Eb names E)) s = false → goodS names E s
  | [] => by intro _ _ _; simp [goodS]
  | t :: s => by
    intro h h1 h2
    simp only [okS] at h
    simp only [someS, Bool.or_eq_false_iff] at h1 h2
    simp only [goodS]
    exact ⟨good_T t h.1 h1.1 h2.1, good_S s h.2 h1.2 h2.2⟩
theorem good_C {names : List Bytes} {E : List Bool} : ∀ c : List (List Term), okC c → someC (unkT names) c = false → someC (loopT (Eb names E)) c = false → goodC names E c
  | [] => by intro _ _ _; simp [goodC]
  | s :: c => by
    intro h h1 h2
    simp only [okC] at h
    simp only [someC, Bool.or_eq_false_iff] at h1 h2
    simp only [goodC]
    exact ⟨good_S s h.1 h1.1 h2.1, good_C c h.2 h1.2 h2.2⟩
 end
theorem PAll.ok' {l : List UInt8} {g : List Rule} {E : List Bool} (h : PAll l (.ok (g, E))) : ∀ r ∈ g, okC r.choice ∧ r.name.length ≤ 12 := by
  cases h with
  | ok h _ =>
    cases h with
    | read hl hg => exact hg.ok' (toksF_okTok _ _ _)
/-- What Check lets by comes to an end at every input. -/
theorem PAll.ends {l : List UInt8} {g : List Rule} {E : List Bool} (h : PAll l (.ok (g, E))) : Ends' g E := by
  have hok := h.ok'
  cases h with
  | ok hr hl =>
    cases hl with
    | ok h1 h2 h3 h4 h5 h6 h7 =>
      refine ⟨fun i hi => good_C _ (hok _ (List.getElem_mem hi)).1 (h2 i hi) (h6 i hi), h4, h7, ?_⟩
      cases hr with
      | read hl hg => exact List.length_pos_iff.2 (hg.len (by omega)).1
end Go.Proofs.YtiganlkabilblaaGreatDoor
namespace Thk
/-- What has been made: expressions by their numbers. -/
inductive Nd where
  | choice (ks : List Nat)
  | seq (ks : List Nat)
  | ahead (k : Nat) (wanted : Bool)
  | maybe (k : Nat)
  | plus (k : Nat)
  | name (i : Nat)
  | lit (b : Bytes)
  | cls (l : List Span)
  | any
abbrev NEv := Nat → Nat → Option Out
def chN (F : NEv) : List Nat → Nat → Option Out
  | [], _ => some none
  | j :: js, k => match F j k with
    | none => none
    | some none => chN F js k
    | some (some x) => some (some x)
def sqN (F : NEv) : List Nat → Nat → Nt → Option Out
  | [], k, acc => some (some (k, acc))
  | j :: js, k, acc => match F j k with
    | none => none
    | some none => some none
    | some (some x) => sqN F js x.1 (jn acc x.2)
def plN (F : NEv) (n j k : Nat) : Option Out := match F j k with
  | none => none
  | some none => some none
  | some (some x) => match F n x.1 with
    | none => none
    | some none => some (some x)
    | some (some y) => some (some (y.1, jn x.2 y.2))
def bodyN (rules : List Nat) (inp : Bytes) (F : NEv) (n k : Nat) : Nd → Option Out
  | .choice ks => chN F ks k
  | .seq ks => sqN F ks k .nil
  | .ahead j w => (F j k).map (lookOut k w)
  | .maybe j => (F j k).map (maybeOut k)
  | .plus j => plN F n j k
  | .name i => match rules[i]? with
    | none => none
    | some j => (F j k).map (nameOut i k)
  | .lit b => some (litOut inp k b)
  | .cls l => some (byteOut inp k (inSpan l))
  | .any => some (byteOut inp k (fun _ => true))
def evN (N : List Nd) (rules : List Nat) (inp : Bytes) : Nat → NEv
  | 0, _, _ => none
  | f + 1, n, k => match N[n]? with
    | none => none
    | some d => bodyN rules inp (evN N rules inp f) n k d
def LeN (F G : NEv) : Prop := ∀ i k v, F i k = some v → G i k = some v
theorem chN_mono {F G : NEv} (h : LeN F G) : ∀ js k v, chN F js k = some v → chN G js k = some v
  | [], k, v, e => e
  | j :: js, k, v, e => by
    simp only [chN] at e ⊢
    cases hF : F j k with
    | none => rw [hF] at e; cases e
    | some o =>
      rw [h j k o hF]
      rw [hF] at e
      cases o with
      | none => exact chN_mono h js k v e
      | some x => exact e
theorem sqN_mono {F G : NEv} (h : LeN F G) : ∀ js k acc v, sqN F js k acc = some v → sqN G js k acc = some v
  | [], k, acc, v, e => e
  | j :: js, k, acc, v, e => by
    simp only [sqN] at e ⊢
    cases hF : F j k with
    | none => rw [hF] at e; cases e
    | some o =>
      rw [h j k o hF]
      rw [hF] at e
      cases o with
      | none => exact e
      | some x => exact sqN_mono h js x.1 _ v e
theorem plN_mono {F G : NEv} (h : LeN F G) {n j k : Nat} {v : Out} (e : plN F n j k = some v) : plN G n j k = some v := by
  unfold plN at e ⊢
  cases hF : F j k with
  | none => rw [hF] at e; cases e
  | some o =>
    rw [h j k o hF]
    rw [hF] at e
    cases o with
    | none => exact e
    | some x =>
      simp only [] at e ⊢
      cases hF2 : F n x.1 with
      | none => rw [hF2] at e; cases e
      | some o2 =>
        rw [h n x.1 o2 hF2]
        rw [hF2] at e
        exact e
theorem map_mono {F G : NEv} (h : LeN F G) {j k : Nat} {t : Out → Out} {v : Out} (e : (F j k).map t = some v) : (G j k).map t = some v := by
  cases hF : F j k with
  | none => rw [hF] at e; cases e
  | some o => rw [h j k o hF]; rw [hF] at e; exact e
theorem bodyN_mono {rules : List Nat} {inp : Bytes} {F G : NEv} (h : LeN F G) {n k : Nat} {d : Nd} {v : Out} (e : bodyN rules inp F n k d = some v) : bodyN rules inp G n k d = some v := by
  cases d with
  | choice ks => exact chN_mono h _ _ _ e
  | seq ks => exact sqN_mono h _ _ _ _ e
  | ahead j w => exact map_mono h e
  | maybe j => exact map_mono h e
  | plus j => exact plN_mono h e
  | name i =>
    simp only [bodyN] at e ⊢
    cases hr : rules[i]? with
    | none => rw [hr] at e; cases e
    | some j => rw [hr] at e; exact map_mono h e
  | lit b => exact e
  | cls l => exact e
  | any => exact e
theorem evN_step (N : List Nd) (rules : List Nat) (inp : Bytes) : ∀ f, LeN (evN N rules inp f) (evN N rules inp (f + 1))
  | 0 => by intro i k v h; simp [evN] at h
  | f + 1 => by
    intro i k v h
    simp only [evN] at h ⊢
    cases hx : N[i]? with
    | none => rw [hx] at h; cases h
    | some e =>
      rw [hx] at h
      exact bodyN_mono (evN_step N rules inp f) h
theorem evN_mono {N : List Nd} {rules : List Nat} {inp : Bytes} {f d : Nat} (hf : f ≤ d) : LeN (evN N rules inp f) (evN N rules inp d) := by
  induction d with
  | zero => have : f = 0 := by omega
            subst this; intro i k v h; exact h
  | succ d ih =>
    by_cases h : f = d + 1
    · subst h; intro i k v h; exact h
    · intro i k v hv; exact evN_step N rules inp d i k v (ih (by omega) i k v hv)
theorem evN_det {N : List Nd} {rules : List Nat} {inp : Bytes} {f d i k : Nat} {v u : Out} (h1 : evN N rules inp f i k = some v) (h2 : evN N rules inp d i k = some u) : v = u := by
  have a := evN_mono (Nat.le_max_left f d) i k v h1
  have b := evN_mono (Nat.le_max_right f d) i k u h2
  rw [a] at b
  exact Option.some.inj b
mutual
def DnP (N : List Nd) (names : List Bytes) (n : Nat) : Piece → Prop
  | .name b => N[n]? = some (.name (Go.Proofs.YtiganlkabilblaaGreatDoor.idx0 names b))
  | .lit b => N[n]? = some (.lit b)
  | .cls l => N[n]? = some (.cls l)
  | .any => N[n]? = some .any
  | .group c => ∃ ks, N[n]? = some (.choice ks) ∧ DnC N names ks c
def DnT (N : List Nd) (names : List Bytes) (n : Nat) : Term → Prop
  | .mk a p b => ∃ i, (if a = 0 then n = i else N[n]? = some (.ahead i (a == 38))) ∧ (∃ j, (if b = 0 then i = j else if b = 63 then N[i]? = some (.maybe j) else if b = 43 then N[i]? = some (.plus j) else ∃ q, N[i]? = some (.maybe q) ∧ N[q]? = some (.plus j)) ∧ DnP N names j p)
def DnS (N : List Nd) (names : List Bytes) : List Nat → List Term → Prop
  | ks, [] => ks = []
  | ks, t :: s => ∃ k ks', ks = k :: ks' ∧ DnT N names k t ∧ DnS N names ks' s
def DnC (N : List Nd) (names : List Bytes) : List Nat → List (List Term) → Prop
  | qs, [] => qs = []
  | qs, s :: c => ∃ q qs' ks, qs = q :: qs' ∧ N[q]? = some (.seq ks) ∧ DnS N names ks s ∧ DnC N names qs' c
 end
end Thk
namespace Go.Proofs.YtiganlkabilblaaGreatDoor
open Thk
def DnI (N : List Nd) (names : List Bytes) (i : Nat) (p : Piece) (b : UInt8) : Prop := ∃ j, (if b = 0 then i = j else if b = 63 then N[i]? = some (.maybe j) else if b = 43 then N[i]? = some (.plus j) else ∃ q, N[i]? = some (.maybe q) ∧ N[q]? = some (.plus j)) ∧ DnP N names j p
/-- Each rule's number, and that it stands for the rule's choice. -/
def DnR (N : List Nd) (rules : List Nat) (g : List Rule) : Prop := rules.length = g.length ∧ ∀ i (h : i < g.length) (h2 : i < rules.length), DnP N (namesOf g) rules[i] (.group g[i].choice)
def SimN (N : List Nd) (rules : List Nat) (inp : Bytes) (names : List Bytes) : Ex → Nat → Out → Prop
  | .P p, k, r => ∀ i, DnP N names i p → ∃ f, evN N rules inp f i k = some r
  | .Q p, k, r => ∀ q i, N[q]? = some (.plus i) → DnP N names i p → ∃ f, evN N rules inp f q k = some r
  | .I p b, k, r => ∀ i, DnI N names i p b → ∃ f, evN N rules inp f i k = some r
  | .T t, k, r => ∀ i, DnT N names i t → ∃ f, evN N rules inp f i k = some r
  | .S s acc, k, r => ∀ is, DnS N names is s → ∃ f, ∀ d, f ≤ d → sqN (evN N rules inp d) is k acc = some r
  | .C c, k, r => ∀ is, DnC N names is c → ∃ f, ∀ d, f ≤ d → chN (evN N rules inp d) is k = some r
theorem evN_at {N : List Nd} {rules : List Nat} {inp : Bytes} {i : Nat} {d : Nd} (h : N[i]? = some d) (f k : Nat) : evN N rules inp (f + 1) i k = bodyN rules inp (evN N rules inp f) i k d := by
  simp only [evN, h]
theorem Ev.simN {g : List Rule} {inp : Bytes} {N : List Nd} {rules : List Nat} (hR : DnR N rules g) {x : Ex} {k : Nat} {r : Out} (h : Ev g inp x k r) : SimN N rules inp (namesOf g) x k r := by
  induction h with
  | cnil =>
    intro is hd
    simp only [DnC] at hd
    subst hd
    exact ⟨0, fun d _ => rfl⟩
  | @chit s c k x _ ih =>
    intro is hd
    simp only [DnC] at hd
    obtain ⟨q, qs, ks, rfl, h1, h2, h3⟩ := hd
    obtain ⟨f, hf⟩ := ih ks h2
    refine ⟨f + 1, fun d hd => ?_⟩
    obtain ⟨d', rfl⟩ : ∃ d', d = d' + 1 := ⟨d - 1, by omega⟩
    simp only [chN]
    rw [evN_at h1]
    simp only [bodyN]
    rw [hf d' (by omega)]
  | @cmiss s c k r _ _ ih1 ih2 =>
    intro is hd
    simp only [DnC] at hd
    obtain ⟨q, qs, ks, rfl, h1, h2, h3⟩ := hd
    obtain ⟨f, hf⟩ := ih1 ks h2
    obtain ⟨f2, hf2⟩ := ih2 qs h3
    refine ⟨max f f2 + 1, fun d hd => ?_⟩
    obtain ⟨d', rfl⟩ : ∃ d', d = d' + 1 := ⟨d - 1, by omega⟩
    simp only [chN]
    rw [evN_at h1]
    simp only [bodyN]
    rw [hf d' (by omega)]
    exact hf2 (d' + 1) (by omega)
  | snil =>
    intro is hd
    simp only [DnS] at hd
    subst hd
    exact ⟨0, fun d _ => rfl⟩
  | @sfail t s acc k _ ih =>
    intro is hd
    simp only [DnS] at hd
    obtain ⟨q, qs, rfl, h1, h2⟩ := hd
    obtain ⟨f, hf⟩ := ih q h1
    refine ⟨f, fun d hd => ?_⟩
    simp only [sqN]
    rw [evN_mono hd _ _ _ hf]
  | @sstep t s acc k e m r _ _ ih1 ih2 =>
    intro is hd
    simp only [DnS] at hd
    obtain ⟨q, qs, rfl, h1, h2⟩ := hd
    obtain ⟨f, hf⟩ := ih1 q h1
    obtain ⟨f2, hf2⟩ := ih2 qs h2
    refine ⟨max f f2, fun d hd => ?_⟩
    simp only [sqN]
    rw [evN_mono (show f ≤ d by omega) _ _ _ hf]
    exact hf2 d (by omega)
  | @tplain p b k r _ ih =>
    intro i hd
    simp only [DnT] at hd
    obtain ⟨i', h1, h2⟩ := hd
    rw [if_pos trivial] at h1
    subst h1
    exact ih i h2
  | @tand p b k r _ ih =>
    intro i hd
    simp only [DnT] at hd
    obtain ⟨i', h1, h2⟩ := hd
    rw [if_neg (by decide)] at h1
    obtain ⟨f, hf⟩ := ih i' h2
    refine ⟨f + 1, ?_⟩
    rw [evN_at h1]
    simp only [bodyN]
    rw [hf]; rfl
  | @tnot p b k r _ ih =>
    intro i hd
    simp only [DnT] at hd
    obtain ⟨i', h1, h2⟩ := hd
    rw [if_neg (by decide)] at h1
    obtain ⟨f, hf⟩ := ih i' h2
    refine ⟨f + 1, ?_⟩
    rw [evN_at h1]
    simp only [bodyN]
    rw [hf]; rfl
  | iplain _ ih =>
    intro i hd
    obtain ⟨j, h1, h2⟩ := hd
    rw [if_pos rfl] at h1
    subst h1
    exact ih i h2
  | @imaybe p k r _ ih =>
    intro i hd
    obtain ⟨j, h1, h2⟩ := hd
    rw [if_neg (by decide), if_pos rfl] at h1
    obtain ⟨f, hf⟩ := ih j h2
    refine ⟨f + 1, ?_⟩
    rw [evN_at h1]
    simp only [bodyN]
    rw [hf]; rfl
  | @istar p k r _ ih =>
    intro i hd
    obtain ⟨j, h1, h2⟩ := hd
    rw [if_neg (by decide), if_neg (by decide), if_neg (by decide)] at h1
    obtain ⟨q, h3, h4⟩ := h1
    obtain ⟨f, hf⟩ := ih q j h4 h2
    refine ⟨f + 1, ?_⟩
    rw [evN_at h3]
    simp only [bodyN]
    rw [hf]; rfl
  | @iplus p k r _ ih =>
    intro i hd
    obtain ⟨j, h1, h2⟩ := hd
    rw [if_neg (by decide), if_neg (by decide), if_pos rfl] at h1
    exact ih i j h1 h2
  | qno _ ih =>
    intro q i hq hd
    obtain ⟨f, hf⟩ := ih i hd
    refine ⟨f + 1, ?_⟩
    rw [evN_at hq]
    simp only [bodyN, plN]
    rw [hf]
  | @qlast p k e m _ _ ih1 ih2 =>
    intro q i hq hd
    obtain ⟨f, hf⟩ := ih1 i hd
    obtain ⟨f2, hf2⟩ := ih2 q i hq hd
    refine ⟨max f f2 + 1, ?_⟩
    rw [evN_at hq]
    simp only [bodyN, plN]
    rw [evN_mono (Nat.le_max_left f f2) _ _ _ hf]
    simp only []
    rw [evN_mono (Nat.le_max_right f f2) _ _ _ hf2]
  | @qmore p k e m e2 m2 _ _ ih1 ih2 =>
    intro q i hq hd
    obtain ⟨f, hf⟩ := ih1 i hd
    obtain ⟨f2, hf2⟩ := ih2 q i hq hd
    refine ⟨max f f2 + 1, ?_⟩
    rw [evN_at hq]
    simp only [bodyN, plN]
    rw [evN_mono (Nat.le_max_left f f2) _ _ _ hf]
    simp only []
    rw [evN_mono (Nat.le_max_right f f2) _ _ _ hf2]
  | @pname b k r hlt hc _ ih =>
    intro i hd
    simp only [DnP] at hd
    have hl2 : idx0 (namesOf g) b < rules.length := by rw [hR.1]; exact hlt
    have hb := hR.2 _ hlt hl2
    simp only [DnP] at hb
    obtain ⟨qs, hq1, hq2⟩ := hb
    obtain ⟨f, hf⟩ := ih qs hq2
    refine ⟨f + 1 + 1, ?_⟩
    rw [evN_at hd]
    simp only [bodyN]
    rw [List.getElem?_eq_getElem hl2]
    simp only []
    rw [evN_at hq1]
    simp only [bodyN]
    rw [hf f (Nat.le_refl _)]; rfl
  | @plit b k hb =>
    intro i hd
    simp only [DnP] at hd
    exact ⟨1, by rw [evN_at hd]; rfl⟩
  | @pcls l k hb =>
    intro i hd
    simp only [DnP] at hd
    exact ⟨1, by rw [evN_at hd]; rfl⟩
  | @pany k =>
    intro i hd
    simp only [DnP] at hd
    exact ⟨1, by rw [evN_at hd]; rfl⟩
  | @pgroup c k r _ ih =>
    intro i hd
    simp only [DnP] at hd
    obtain ⟨qs, h1, h2⟩ := hd
    obtain ⟨f, hf⟩ := ih qs h2
    refine ⟨f + 1, ?_⟩
    rw [evN_at h1]
    exact hf f (Nat.le_refl _)
end Go.Proofs.YtiganlkabilblaaGreatDoor
namespace Go.Proofs.YtiganlkabilblaaGreatDoor
open Go.RowKit
theorem contains_drop {s : ByteArray} {j : Nat} {c : UInt8} (hj : j < s.size) : (s.data.toList.drop j).contains c = (s[j] == c || (s.data.toList.drop (j + 1)).contains c) := by
  rw [drop_cons s j hj, List.contains_cons]
  congr 1
  exact Bool.eq_iff_iff.2 ⟨fun h => by rw [beq_iff_eq] at h ⊢; exact h.symm, fun h => by rw [beq_iff_eq] at h ⊢; exact h.symm⟩
set_option maxHeartbeats 400000 in
theorem rhas_of (s : ByteArray) (c : UInt8) (r : Bool) (w : World) (hs : s.size ≤ 2000) (hr : s.data.toList.contains c = r) :
    Calls Tryz.prog 137 #[.string s, .int .u8 c.toNat] w fun e w' => e = .returned (.bool r) ∧ w' = w := by
  have HR : Hid ((s.data.toList.drop 0).contains c = r) := show (s.data.toList.drop 0).contains c = r from hr
  clear hr
  go_enter Tryz.func137, Tryz.ntmps137
  go_wp2_with fail
  go_loop [5] (fun i => ∃ j : Nat, j ≤ s.size ∧ i = .int .i64 j ∧ Hid ((s.data.toList.drop j).contains c = r)) (fun i => s.size - (intOf i).toNat)
  case atStart => exact ⟨0, Nat.zero_le _, rfl, HR⟩
  case round =>
    obtain ⟨j, hj, rfl, hH⟩ := hrel
    by_cases hlt : j < s.size
    · by_cases hc : s[j] = c
      · have t : ((s[j].toNat : Int) == (c.toNat : Int)) = true := by rw [hc]; simp
        have h : r = true := by have := hH.out; rw [contains_drop hlt] at this; rw [← this, hc]; simp
        clear hc
        subst h
        go_wp2_with fail
        go_ret
        exact ⟨rfl, rfl⟩
      · have t : ((s[j].toNat : Int) == (c.toNat : Int)) = false := by rw [beq_eq_false_iff_ne]; intro e; apply hc; apply UInt8.toNat_inj.1; omega
        have h : Hid ((s.data.toList.drop (j + 1)).contains c = r) := by show _ = _; have := hH.out; rw [contains_drop hlt, beq_eq_false_iff_ne.2 hc, Bool.false_or] at this; exact this
        clear hc
        go_wp2_with fail
        go_round
        case rel => exact ⟨j + 1, by omega, by go_num, h⟩
        case measure => simp [intOf]; omega
    · have h : r = false := by have := hH.out; rw [drop_end s j (by omega)] at this; simpa using this.symm
      subst h
      go_wp2_with fail
      go_ret
      exact ⟨rfl, rfl⟩
theorem lineN_cons {s : ByteArray} {j : Nat} (hj : j < s.size) (h : s[j] ≠ 10) : Thk.lineN (s.data.toList.drop j) = Thk.lineN (s.data.toList.drop (j + 1)) + 1 := by
  rw [drop_cons s j hj]; simp [Thk.lineN, h]
theorem lineN_stop {s : ByteArray} {j : Nat} (hj : j < s.size) (h : s[j] = 10) : Thk.lineN (s.data.toList.drop j) = 0 := by
  rw [drop_cons s j hj]; simp [Thk.lineN, h]
theorem lineN_end {s : ByteArray} {j : Nat} (hj : s.size ≤ j) : Thk.lineN (s.data.toList.drop j) = 0 := by
  rw [drop_end s j hj]; rfl
set_option maxHeartbeats 1000000 in
theorem rblanks_of (s : ByteArray) (k r : Nat) (w : World) (hk : k ≤ s.size) (hs : s.size ≤ 2000) (hr : Hid (k + Thk.blk false (s.data.toList.drop k) = r)) :
    Calls Tryz.prog 136 #[.string s, .int .i64 k] w fun e w' => e = .returned (.int .i64 r) ∧ w' = w := by
  go_enter Tryz.func136, Tryz.ntmps136
  go_wp2_with fail
  go_loop [1] (fun i => ∃ j : Nat, j ≤ s.size ∧ i = .int .i64 j ∧ Hid (j + Thk.blk false (s.data.toList.drop j) = r)) (fun i => s.size - (intOf i).toNat)
  case atStart => exact ⟨k, hk, rfl, hr⟩
  case round =>
    obtain ⟨j, hj, rfl, hH⟩ := hrel
    by_cases hlt : j < s.size
    · by_cases hb : Thk.isBlank s[j] = true
      · have h := blk_blank hlt hb hH
        have hq : ((s[j].toNat : Int) == 32) = true ∨ (((s[j].toNat : Int) == 32) = false ∧ ((s[j].toNat : Int) == 9) = true) ∨ (((s[j].toNat : Int) == 32) = false ∧ ((s[j].toNat : Int) == 9) = false ∧ ((s[j].toNat : Int) == 10) = true) ∨ (((s[j].toNat : Int) == 32) = false ∧ ((s[j].toNat : Int) == 9) = false ∧ ((s[j].toNat : Int) == 10) = false ∧ ((s[j].toNat : Int) == 13) = true) := by
          simp only [Thk.isBlank, Bool.or_eq_true, beq_iff_eq] at hb
          rcases hb with ((h | h) | h) | h <;> rw [h] <;> decide
        clear hb
        rcases hq with q1 | ⟨q1, q2⟩ | ⟨q1, q2, q3⟩ | ⟨q1, q2, q3, q4⟩
        all_goals
          go_wp2_with fail
          go_round
          case rel => exact ⟨j + 1, by omega, by go_num, h⟩
          case measure => simp [intOf]; omega
      · have hb : Thk.isBlank s[j] = false := by simpa using hb
        have hq : ((s[j].toNat : Int) == 32) = false ∧ ((s[j].toNat : Int) == 9) = false ∧ ((s[j].toNat : Int) == 10) = false ∧ ((s[j].toNat : Int) == 13) = false := by
          simp only [Thk.isBlank, Bool.or_eq_false_iff, beq_eq_false_iff_ne] at hb
          obtain ⟨⟨⟨h1, h2⟩, h3⟩, h4⟩ := hb
          exact ⟨u8_beq_false h1 32 rfl, u8_beq_false h2 9 rfl, u8_beq_false h3 10 rfl, u8_beq_false h4 13 rfl⟩
        obtain ⟨q1, q2, q3, q4⟩ := hq
        by_cases hc : s[j] = 35
        · have q5 := u8_beq_true hc 35 rfl
          have h := blk_comment hlt hc hH
          obtain ⟨h1, h2, h3⟩ := h
          obtain ⟨L, hL⟩ : ∃ L, L = Thk.lineN (s.data.toList.drop j) := ⟨_, rfl⟩
          rw [← hL] at h1 h2 h3
          have HL : Hid (j + L = j + Thk.lineN (s.data.toList.drop j)) := by rw [hL]; rfl
          clear hL hc hb
          go_wp2_with fail
          go_loop [1] (fun i => ∃ m : Nat, j ≤ m ∧ m ≤ j + L ∧ i = .int .i64 m ∧ Hid (j + L = m + Thk.lineN (s.data.toList.drop m))) (fun i => s.size - (intOf i).toNat)
          case atStart => exact ⟨j, Nat.le_refl _, by omega, rfl, HL⟩
          case round =>
            obtain ⟨m, hm0, hm, rfl, hM⟩ := hrel
            by_cases hltm : m < s.size
            · by_cases hn : s[m] = 10
              · have t : ((s[m].toNat : Int) != 10) = false := by rw [hn]; rfl
                have e : m = j + L := by have := hM.out; rw [lineN_stop hltm hn] at this; omega
                have HE : Hid (m = j + L) := e
                clear hn e
                go_wp2_with fail
                go_round
                case rel => exact ⟨j + L, h1, by rw [HE.out], h3⟩
                case measure => have := HE.out; simp [intOf]; omega
              · have t : ((s[m].toNat : Int) != 10) = true := by rw [bne_iff_ne]; intro e; apply hn; apply UInt8.toNat_inj.1; rw [show (10 : UInt8).toNat = 10 from rfl]; omega
                have e : Hid (j + L = (m + 1) + Thk.lineN (s.data.toList.drop (m + 1))) := by have := hM.out; rw [lineN_cons hltm hn] at this; show _ = _; omega
                clear hn
                go_wp2_with fail
                go_round
                case rel => exact ⟨m + 1, by omega, by have := e.out; omega, by go_num, e⟩
                case measure => simp [intOf]; omega
            · have e : m = j + L := by have := hM.out; rw [lineN_end (by omega)] at this; omega
              have HE : Hid (m = j + L) := e
              clear e
              go_wp2_with fail
              go_round
              case rel => exact ⟨j + L, h1, by rw [HE.out], h3⟩
              case measure => have := HE.out; simp [intOf]; omega
        · have q5 := u8_beq_false hc 35 rfl
          have h := blk_none hlt hb hc hH
          clear hc hb
          subst h
          go_wp2_with fail
          go_ret
          exact ⟨rfl, rfl⟩
    · have h : j = r := by have := hH.out; rw [drop_end s j (by omega)] at this; simpa [Thk.blk] using this
      subst h
      go_wp2_with fail
      go_ret
      exact ⟨rfl, rfl⟩
end Go.Proofs.YtiganlkabilblaaGreatDoor
namespace Go.Proofs.YtiganlkabilblaaGreatDoor
open Go.RowKit
set_option maxHeartbeats 1000000 in
theorem rchar_any (s mk es : ByteArray) (k : Nat) (w : World) (hk : k ≤ s.size) (hs : s.size ≤ 2000) (he : es.data.toList = 110 :: 116 :: 92 :: mk.data.toList) (hm : mk.size ≤ 10) (hes : es.size ≤ 20) :
    Calls Tryz.prog 167 #[.string s, .int .i64 k, .string mk, .string es] w fun e w' => e = .returned (chv (Thk.charL mk.data.toList (s.data.toList.drop k))) ∧ w' = w := by
  by_cases hlt : k < s.size
  · rw [drop_cons s k hlt]
    simp only [Thk.charL]
    by_cases h1 : s[k] = 92
    · rw [if_pos h1]
      have t0 : ((s[k].toNat : Int) == 10) = false := by rw [h1]; rfl
      have t1 : ((s[k].toNat : Int) != 92) = false := by rw [h1]; rfl
      clear h1
      by_cases hlt2 : k + 1 < s.size
      · rw [drop_cons s (k + 1) hlt2]
        simp only [Thk.escL]
        have hcon : es.data.toList.contains s[k + 1] = (s[k + 1] == 110 || (s[k + 1] == 116 || (s[k + 1] == 92 || mk.data.toList.contains s[k + 1]))) := by rw [he]; simp only [List.contains_cons]
        by_cases h2 : s[k + 1] = 110
        · rw [if_pos h2]
          have t2 := u8_beq_true h2 110 rfl
          have hc := fun w => rhas_of es s[k + 1] true w (by omega) (by rw [hcon, h2]; simp)
          clear h2 hcon
          go_enter Tryz.func167, Tryz.ntmps167
          go_wp2_with (go_at_call 137; refine (hc _).mono ?_; rintro e w' ⟨rfl, rfl⟩)
          go_ret2
          exact ⟨rfl, rfl⟩
        · rw [if_neg h2]
          have t2 := u8_beq_false h2 110 rfl
          by_cases h3 : s[k + 1] = 116
          · rw [if_pos h3]
            have t3 := u8_beq_true h3 116 rfl
            have hc := fun w => rhas_of es s[k + 1] true w (by omega) (by rw [hcon, h3]; simp)
            clear h2 h3 hcon
            go_enter Tryz.func167, Tryz.ntmps167
            go_wp2_with (go_at_call 137; refine (hc _).mono ?_; rintro e w' ⟨rfl, rfl⟩)
            go_ret2
            exact ⟨rfl, rfl⟩
          · rw [if_neg h3]
            have t3 := u8_beq_false h3 116 rfl
            have hcon' : es.data.toList.contains s[k + 1] = (s[k + 1] == 92 || mk.data.toList.contains s[k + 1]) := by rw [hcon, beq_eq_false_iff_ne.2 h2, beq_eq_false_iff_ne.2 h3, Bool.false_or, Bool.false_or]
            obtain ⟨r, hr⟩ : ∃ r, r = (s[k + 1] == 92 || mk.data.toList.contains s[k + 1]) := ⟨_, rfl⟩
            have hc := fun w => rhas_of es s[k + 1] r w (by omega) (by rw [hcon', hr])
            have hif : (s[k + 1] = 92 || mk.data.toList.contains s[k + 1]) = r := by rw [hr]; congr 1
            clear h2 h3 hcon hcon' hr
            rw [hif]
            clear hif
            cases r with
            | true =>
              rw [if_pos rfl]
              go_enter Tryz.func167, Tryz.ntmps167
              go_wp2_with (go_at_call 137; refine (hc _).mono ?_; rintro e w' ⟨rfl, rfl⟩)
              go_ret2
              exact ⟨rfl, rfl⟩
            | false =>
              rw [if_neg (by simp)]
              go_enter Tryz.func167, Tryz.ntmps167
              go_wp2_with (go_at_call 137; refine (hc _).mono ?_; rintro e w' ⟨rfl, rfl⟩)
              go_ret2
              exact ⟨rfl, rfl⟩
      · rw [drop_end s (k + 1) (by omega)]
        go_enter Tryz.func167, Tryz.ntmps167
        go_wp2_with fail
        go_ret2
        exact ⟨rfl, rfl⟩
    · rw [if_neg h1]
      have t1 : ((s[k].toNat : Int) != 92) = true := by rw [bne_iff_ne]; intro e; apply h1; apply UInt8.toNat_inj.1; rw [show (92 : UInt8).toNat = 92 from rfl]; omega
      clear h1
      by_cases h2 : s[k] = 10
      · have t2 := u8_beq_true h2 10 rfl
        rw [if_pos (by rw [h2]; simp)]
        clear h2
        go_enter Tryz.func167, Tryz.ntmps167
        go_wp2_with fail
        go_ret2
        exact ⟨rfl, rfl⟩
      · have t2 := u8_beq_false h2 10 rfl
        obtain ⟨r, hr⟩ : ∃ r, r = mk.data.toList.contains s[k] := ⟨_, rfl⟩
        have hc := fun w => rhas_of mk s[k] r w (by omega) hr.symm
        have hif : (decide (s[k] = 10) || mk.data.toList.contains s[k]) = r := by rw [hr]; simp [h2]
        rw [hif]
        clear hif hr h2
        cases r with
        | true =>
          rw [if_pos rfl]
          go_enter Tryz.func167, Tryz.ntmps167
          go_wp2_with (go_at_call 137; refine (hc _).mono ?_; rintro e w' ⟨rfl, rfl⟩)
          go_ret2
          exact ⟨rfl, rfl⟩
        | false =>
          rw [if_neg (by simp)]
          go_enter Tryz.func167, Tryz.ntmps167
          go_wp2_with (go_at_call 137; refine (hc _).mono ?_; rintro e w' ⟨rfl, rfl⟩)
          go_ret2
          exact ⟨rfl, rfl⟩
  · rw [drop_end s k (by omega)]
    go_enter Tryz.func167, Tryz.ntmps167
    go_wp2_with fail
    go_ret2
    exact ⟨rfl, rfl⟩
theorem rchar_of (s mk es : ByteArray) (k : Nat) (w : World) (hk : k ≤ s.size) (hs : s.size ≤ 2000) (he : es.data.toList = 110 :: 116 :: 92 :: mk.data.toList) (hm : mk.size ≤ 10) (hes : es.size ≤ 20) {o : Option (UInt8 × Nat)} (h : Thk.charL mk.data.toList (s.data.toList.drop k) = o) :
    Calls Tryz.prog 167 #[.string s, .int .i64 k, .string mk, .string es] w fun e w' => e = .returned (chv o) ∧ w' = w := h ▸ rchar_any s mk es k w hk hs he hm hes
end Go.Proofs.YtiganlkabilblaaGreatDoor
namespace Go.Proofs.YtiganlkabilblaaGreatDoor
open Go.RowKit
theorem Tryz.infoItem : (Tryz.prog.info? 303).map (fun i => (i.zero, i.size, i.bytes)) = some (some (.agg #[.int .u8 0, .int .u8 0]), 2, 2) := by kernel_rfl
def rkind : Thk.TK → Nat
  | .name => 1
  | .arrow => 2
  | .lit => 3
  | .cls => 4
  | .sign _ => 5
  | .fin => 6
  | .bad => 7
def rtext (t : Thk.Tok) : List UInt8 :=
  match t.kind with
  | .name => t.text
  | .sign c => [c]
  | _ => []
def rend (t : Thk.Tok) : Nat := if t.kind.last then 0 else t.place + t.size
def dup (c : UInt8) : Thk.Span := (c, c)
def ritems (t : Thk.Tok) : List Thk.Span :=
  match t.kind with
  | .lit => t.text.map dup
  | .cls => t.spans
  | _ => []
/-- A token of the reference: its items' slice is v. -/
def rtokV (t : Thk.Tok) (v : Value) : Value := .agg #[.int .i64 (rkind t.kind), .int .i64 t.place, .int .i64 (rend t), .string ⟨(rtext t).toArray⟩, v]
abbrev rtokO (k p e : Int) (s : ByteArray) (v : Value) : Obj := .cells #[.int .i64 k, .int .i64 p, .int .i64 e, .string s, v] 206
/-- The slice v holds the items. -/
def Items (w : World) (B : Nat) (v : Value) (xs : List Thk.Span) : Prop := w.ownsRow B 303 2 v xs.length (xs.flatMap spanC)
theorem heap_lt' {w : World} {b : Nat} {o : Obj} (h : w.heap[b]? = some o) : b < w.heap.size := by
  rcases Nat.lt_or_ge b w.heap.size with h' | h'
  · exact h'
  · rw [Array.getElem?_eq_none h'] at h; cases h
structure RLit (s : ByteArray) (k : Nat) (X : Thk.Bytes × Nat) (w : World) (j : Nat) (xs : List UInt8) (v : Value) (wr : World) : Prop where
  le : k + 1 + j ≤ s.size
  len : xs.length ≤ j
  own : Items wr (w.heap.size + 2) v (xs.map dup)
  tok : wr.heap[w.heap.size + 1]? = some (rtokO 3 k 0 ⟨#[]⟩ v)
  res : wr.heap[w.heap.size]? = some (rtokO 0 0 0 ⟨#[]⟩ (.slice none 0 0))
  below : Below w.heap.size w wr
  size : w.heap.size + 2 ≤ wr.heap.size
  all : X = (xs ++ (Thk.charsL [39] (s.data.toList.drop (k + 1 + j))).1, j + (Thk.charsL [39] (s.data.toList.drop (k + 1 + j))).2)
theorem bad_place (k : Nat) : rtokV { Thk.badT with place := k } (.slice none 0 0) = .agg #[.int .i64 7, .int .i64 k, .int .i64 0, .string ⟨#[]⟩, .slice none 0 0] := rfl
theorem setCell_block {w : World} {b o : Nat} {cs : Array Value} {e : TypeId} {fr : Nat × Nat} (h : w.heap[b]? = some (.cells cs e fr)) (u : Value) : (w.setCell ⟨b, o, none⟩ u).heap[b]? = some (.cells (cs.setIfInBounds o u) e fr) := by
  simp [World.setCell, Array.getElem?_modify, h]
theorem own_set {w : World} {b o : Nat} {u : Value} {base : Nat} {e : TypeId} {size : Nat} {v : Value} {n : Nat} {xs : List Value} (h : w.ownsRow base e size v n xs) (hb : b < base) : (w.setCell ⟨b, o, none⟩ u).ownsRow base e size v n xs := ownsRow_setCell_below h hb u
set_option maxHeartbeats 2000000 in
set_option maxRecDepth 100000 in
theorem rliteral_any (s : ByteArray) (k : Nat) (w : World) (hs : s.size ≤ 2000) (hk : k < s.size) :
    Calls Tryz.prog 138 #[.string s, .int .i64 k] w fun e w' => ∃ v,
      e = .returned (rtokV { Thk.litT (s.data.toList.drop (k + 1)) with place := k } v) ∧ Below w.heap.size w w' ∧ Items w' w.heap.size v (ritems (Thk.litT (s.data.toList.drop (k + 1)))) := by
  obtain ⟨X, hX⟩ : ∃ X, X = Thk.charsL [39] (s.data.toList.drop (k + 1)) := ⟨_, rfl⟩
  obtain ⟨T, hT⟩ : ∃ T, T = Thk.litT (s.data.toList.drop (k + 1)) := ⟨_, rfl⟩
  obtain ⟨C, hC⟩ : ∃ C, C = Thk.closesL (s.data.toList.drop (k + 1)) X.2 39 X.1.length := ⟨_, rfl⟩
  rw [← hT]
  have HT : Hid (T = if C then ⟨.lit, 0, X.2 + 2, X.1, []⟩ else Thk.badT) := by rw [hC, hX]; exact hT
  have HX : Hid (X = Thk.charsL [39] (s.data.toList.drop (k + 1))) := hX
  have HC : Hid (C = Thk.closesL (s.data.toList.drop (k + 1)) X.2 39 X.1.length) := hC
  clear hX hT hC
  obtain ⟨i0, hi, hz0, hz1, hz2⟩ := info_parts Tryz.infoItem
  go_enter Tryz.func138, Tryz.ntmps138
  go_wp2_with fail
  go_loopg [6, 7, 8] (s.size - (k + 1)) (fun m i _ _ wr => ∃ (j : Nat) (xs : List UInt8) (v : Value), m = s.size - (k + 1 + j) ∧ i = .int .i64 ↑(k + 1 + j) ∧ Hid (RLit s k X w j xs v wr))
  case atStart =>
    refine ⟨0, [], .slice none 0 0, rfl, by go_num, ?_⟩
    refine ⟨by omega, by simp, World.ownsRow_nil _ _ _ _, ?_, ?_, ?_, by simp, ?_⟩
    · rw [show w.heap.size + 1 = (w.alloc (rtokO 0 0 0 ⟨#[]⟩ (.slice none 0 0))).heap.size from by simp]; exact heap_alloc_new _ _
    · rw [heap_alloc_old _ _ (by simp)]; exact heap_alloc_new _ _
    · exact ((Below.refl _ _).alloc (Nat.le_refl _) _).alloc (by simp) _
    · rw [HX.out]; simp
  case round =>
    obtain ⟨j, xs, v, rfl, rfl, hR⟩ := hrel
    have hR1 := hR.out.le
    have hq := cell_of_block hR.out.tok
    have hf := frozen_of_block hR.out.tok
    have hqr := cell_of_block hR.out.res
    have hfr := frozen_of_block hR.out.res
    have hown : wr.ownsRow (w.heap.size + 2) 303 2 v (xs.map dup).length ((xs.map dup).flatMap spanC) := hR.out.own
    have hxl := hR.out.len
    have hsz := hR.out.size
    obtain ⟨va, vc, hv⟩ := own_form hown
    rw [List.length_map] at hv
    subst hv
    by_cases hgo : ∃ h : k + 1 + j < s.size, s[k + 1 + j] ≠ 39
    · obtain ⟨hlt, hne⟩ := hgo
      have tq : ((s[k + 1 + j].toNat : Int) != 39) = true := by rw [bne_iff_ne]; intro e; apply hne; apply UInt8.toNat_inj.1; rw [show (39 : UInt8).toNat = 39 from rfl]; omega
      cases hc : Thk.charL [39] (s.data.toList.drop (k + 1 + j)) with
      | some p =>
        obtain ⟨c, n⟩ := p
        have HCC : Hid (Thk.charL [39] (s.data.toList.drop (k + 1 + j)) = some (c, n)) := hc
        have hcall := rchar_of s ⟨#[39]⟩ ⟨#[110, 116, 92, 39]⟩ (k + 1 + j) wr (by omega) hs rfl (by decide) (by decide) hc
        rw [chv_some] at hcall
        clear hc
        have hpos := (charL_le HCC.out).1
        have hle := (charL_le HCC.out).2
        rw [List.length_drop, show s.data.toList.length = s.size from rfl] at hle
        have ht : ((n : Int) == 0) = false := beq_eq_false_iff_ne.2 (by omega)
        clear hne
        go_wp2_with fail
        refine hcall.mono ?_
        rintro e w' ⟨rfl, rfl⟩
        go_wp2_with (first | (at_builtin; refine wpList_append_lies _ rfl _ _ 147 rfl (w.heap.size + 2) 303 i0 _ 2 2 Tryz.underlying147 hi hz0 hz1 hz2 rfl (by decide) _ _ _ rfl (hown.alloc _) ⟨w'.heap.size, 0, none⟩ 1 1 (spanC (dup c)) rfl rfl ?c1 ?c2 (by decide) ?c3 ?c4 ?c5 _ rfl ?_))
        case c1 => exact cell_two_new' _ _ _ _
        case c2 => intro u hu; simp [spanC, dup] at hu; subst hu; rfl
        case c3 => simp; unfold maxLen; omega
        case c4 => simp; omega
        case c5 => simp; omega
        intro g cap w2 hown' hgrow hat hgl
        have hz2' := hgrow.size
        simp at hz2'
        have ht2 : w2.heap[w.heap.size + 1]? = some (rtokO 3 k 0 ⟨#[]⟩ (.slice va xs.length vc)) := by
          rw [hgrow.block _ (by simp; omega) (fun e => by have := (hown.lt _ e.symm).1; omega), heap_alloc_old _ _ (by omega)]; exact hR.out.tok
        have hr2 : w2.heap[w.heap.size]? = some (rtokO 0 0 0 ⟨#[]⟩ (.slice none 0 0)) := by
          rw [hgrow.block _ (by simp; omega) (fun e => by have := (hown.lt _ e.symm).1; omega), heap_alloc_old _ _ (by omega)]; exact hR.out.res
        have hq2 := cell_of_block ht2
        have hf2 := frozen_of_block ht2
        have hN : Hid (RLit s k X w (j + n) (xs ++ [c]) (.slice (some ⟨g, 0, none⟩) (xs.length + 1) cap) (w2.setCell ⟨w.heap.size + 1, 4, none⟩ (.slice (some ⟨g, 0, none⟩) (xs.length + 1) cap))) := by
          refine ⟨by omega, by simp; omega, ?_, ?_, ?_, ?_, by simp; omega, ?_⟩
          · refine own_set ?_ (by omega)
            simpa using hown'
          · rw [setCell_block ht2]; rfl
          · rw [Below.heap_setCell _ _ _ _ (by simp)]; exact hr2
          · exact ((hR.out.below.alloc (by omega) _).grown hgrow (by simp; omega) (fun b hb => by have := (hown.lt b hb).1; omega)).setCell (by simp) _
          · rw [hR.out.all, charsL_some HCC.out, List.drop_drop, show k + 1 + j + n = k + 1 + (j + n) from by omega]
            simp
            omega
        clear hown' hgrow hown hR hq hf hqr hfr ht2 hr2 hcall
        go_wp2_with fail
        go_roundg (s.size - (k + 1 + (j + n)))
        case measure => omega
        case rel => exact ⟨j + n, xs ++ [c], _, rfl, by go_num, hN⟩
      | none =>
        have hcall := rchar_of s ⟨#[39]⟩ ⟨#[110, 116, 92, 39]⟩ (k + 1 + j) wr (by omega) hs rfl (by decide) (by decide) hc
        rw [chv_none] at hcall
        have hD : X = (xs, j) := by rw [hR.out.all, charsL_none hc]; simp
        clear hc
        subst hD
        have hCf : C = false := by
          rw [HC.out]; unfold Thk.closesL
          simp only []
          rw [getElem?_drop' s (k + 1) j hlt]
          simp [hne]
        subst hCf
        have e1 := HT.out
        simp at e1
        subst e1
        have HB := hR.out.below
        clear hne HT HC HX hR hown hq hf
        go_wp2_with fail
        refine hcall.mono ?_
        rintro e w' ⟨rfl, rfl⟩
        go_wp2_with fail
        refine bodyPost_ret (v := rtokV { Thk.badT with place := k } (.slice none 0 0)) (by simp [results, Tryz.results138, go_sem, bad_place, hqr, show w.heap.size < w'.heap.size from by omega]) rfl ⟨.slice none 0 0, rfl, ?_, World.ownsRow_nil _ _ _ _⟩
        exact ((((HB.setCell (Nat.le_refl _) _).setCell (Nat.le_refl _) _).setCell (Nat.le_refl _) _).setCell (Nat.le_refl _) _).setCell (Nat.le_refl _) _
    · have hc : Thk.charL [39] (s.data.toList.drop (k + 1 + j)) = none := by
        by_cases hlt : k + 1 + j < s.size
        · have h39 : s[k + 1 + j] = 39 := by
            by_cases h : s[k + 1 + j] = 39
            · exact h
            · exact absurd ⟨hlt, h⟩ hgo
          rw [drop_cons s _ hlt, h39]; rfl
        · rw [drop_end s _ (by omega)]; rfl
      have hD : X = (xs, j) := by rw [hR.out.all, charsL_none hc]; simp
      clear hc
      subst hD
      have HB := hR.out.below
      by_cases hlt : k + 1 + j < s.size
      · have h39 : s[k + 1 + j] = 39 := by
          by_cases h : s[k + 1 + j] = 39
          · exact h
          · exact absurd ⟨hlt, h⟩ hgo
        have tq : ((s[k + 1 + j].toNat : Int) != 39) = false := by rw [h39]; rfl
        have hCe : C = (decide (1 ≤ xs.length) && decide (xs.length ≤ 20)) := by
          rw [HC.out]; unfold Thk.closesL
          simp only []
          rw [getElem?_drop' s (k + 1) j hlt, h39]
          simp
        clear hgo h39
        by_cases h1 : 1 ≤ xs.length
        · by_cases h20 : xs.length ≤ 20
          · have hCt : C = true := by rw [hCe]; simp [h1, h20]
            subst hCt
            have e1 := HT.out
            simp only [if_true] at e1
            subst e1
            have HI : Hid (Items wr (w.heap.size + 2) (.slice va xs.length vc) (xs.map dup)) := hR.out.own
            clear HT HC HX hR hown hCe
            go_wp2_with fail
            refine bodyPost_ret (v := .agg #[.int .i64 3, .int .i64 k, .int .i64 ↑(k + (j + 2)), .string ⟨#[]⟩, .slice va xs.length vc]) (by simp [results, Tryz.results138, go_sem, hqr, hq, show w.heap.size < wr.heap.size from by omega]; omega) rfl ⟨.slice va xs.length vc, rfl, ?_, ?_⟩
            · exact (((((HB.setCell (by simp) _).setCell (Nat.le_refl _) _).setCell (Nat.le_refl _) _).setCell (Nat.le_refl _) _).setCell (Nat.le_refl _) _).setCell (Nat.le_refl _) _
            · have hI := HI.out
              refine own_mono (own_set (own_set (own_set (own_set (own_set (own_set hI ?_) ?_) ?_) ?_) ?_) ?_) (by omega : w.heap.size ≤ w.heap.size + 2) <;> omega
          · have hCf : C = false := by rw [hCe]; simp [h20]
            subst hCf
            have e1 := HT.out
            simp at e1
            subst e1
            clear HT HC HX hR hown hCe
            go_wp2_with fail
            refine bodyPost_ret (v := rtokV { Thk.badT with place := k } (.slice none 0 0)) (by simp [results, Tryz.results138, go_sem, bad_place, hqr, show w.heap.size < wr.heap.size from by omega]) rfl ⟨.slice none 0 0, rfl, ?_, World.ownsRow_nil _ _ _ _⟩
            exact ((((HB.setCell (Nat.le_refl _) _).setCell (Nat.le_refl _) _).setCell (Nat.le_refl _) _).setCell (Nat.le_refl _) _).setCell (Nat.le_refl _) _
        · have hCf : C = false := by rw [hCe]; simp [h1]
          subst hCf
          have e1 := HT.out
          simp at e1
          subst e1
          clear HT HC HX hR hown hCe
          go_wp2_with fail
          refine bodyPost_ret (v := rtokV { Thk.badT with place := k } (.slice none 0 0)) (by simp [results, Tryz.results138, go_sem, bad_place, hqr, show w.heap.size < wr.heap.size from by omega]) rfl ⟨.slice none 0 0, rfl, ?_, World.ownsRow_nil _ _ _ _⟩
          exact ((((HB.setCell (Nat.le_refl _) _).setCell (Nat.le_refl _) _).setCell (Nat.le_refl _) _).setCell (Nat.le_refl _) _).setCell (Nat.le_refl _) _
      · have hCf : C = false := by
          rw [HC.out]; unfold Thk.closesL
          simp only []
          rw [getElem?_drop_end s (k + 1) j (by omega)]
          rfl
        subst hCf
        have e1 := HT.out
        simp at e1
        subst e1
        clear HT HC HX hR hown hgo
        go_wp2_with fail
        refine bodyPost_ret (v := rtokV { Thk.badT with place := k } (.slice none 0 0)) (by simp [results, Tryz.results138, go_sem, bad_place, hqr, show w.heap.size < wr.heap.size from by omega]) rfl ⟨.slice none 0 0, rfl, ?_, World.ownsRow_nil _ _ _ _⟩
        exact ((((HB.setCell (Nat.le_refl _) _).setCell (Nat.le_refl _) _).setCell (Nat.le_refl _) _).setCell (Nat.le_refl _) _).setCell (Nat.le_refl _) _
end Go.Proofs.YtiganlkabilblaaGreatDoor
