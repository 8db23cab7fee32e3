import Derived.Test.YtiganlkabilblaaGreatDoorV05
import Derived.Test.YtiganlkabilblaaGreatDoorV02
import Derived.Test.YtiganlkabilblaaGreatDoorV04
import Derived.Deep.QuietTactic
import Derived.BigQuiet
import Derived.Deep.RegionHeld
import Derived.Test.YtiganlkabilblaaGreatDoorV03
set_option linter.all false
namespace Go.Proofs.YtiganlkabilblaaGreatDoor
open Go.RowKit Thk
attribute [local go_sem ↓] Go.wp_at_zero Go.wp_at_succ
set_option maxHeartbeats 4000000 in
set_option maxRecDepth 100000 in
theorem in_lit {wM : World} {mb tb : Nat} {N : List Nd} {bx : List (Nat × Nat × Nat)} {rules : List Nat} {vr : Value} {s : ByteArray} (M : Mde wM mb N bx rules vr) (b : Bytes) (bm bt : Nat) (hbm : wM.heap[bm]? = some (boxO (ptrV mb) 113)) (hbt : wM.heap[bt]? = some (boxO (.string ⟨b.toArray⟩) 9)) (hbl : b.length ≤ 20) (hsz : s.size ≤ 1000000) (k : Nat) (hk : k ≤ s.size) (w : World) (h : MS wM mb tb N rules vr s .nil w) :
    Calls Tryz.prog 216 #[.int .i64 k, ptrV bm, ptrV bt] w (PostM wM mb tb N rules vr s .nil (litOut s.data.toList k b) w) := by
  have p1 := h.box M hbm
  have q1 := cell_of_block p1
  have l1 := heap_lt' p1
  have p2 := h.box M hbt
  have q2 := cell_of_block p2
  have l2 := heap_lt' p2
  have q3 : w.cell? ⟨mb, 1, none⟩ = some (.string s) := cell_of_block h.blk 1
  have l3 := heap_lt h.blk
  have HH := hideP (And.intro h.size (And.intro h.tlt h.mlt))
  have HM := hideP h
  have hex := extract_drop s k
  have hbz : (ByteArray.mk b.toArray).size = b.length := by show b.toArray.size = _; simp
  have HP : ∀ W, Calls Tryz.prog 156 #[.string (s.extract k s.size), .string ⟨b.toArray⟩] W fun e w' => e = .returned (.bool (b.isPrefixOf (s.data.toList.drop k))) ∧ w' = W := fun W => by
    have hez : (s.extract k s.size).size = s.size - k := by simp
    have := hasPrefix_any (s.extract k s.size) ⟨b.toArray⟩ W (by omega) (by rw [hbz]; omega)
    rw [hex] at this
    simpa using this
  have hk' : (k : Int) ≤ s.size := by omega
  clear h hbm hbt M p1 p2 hex
  unfold litOut
  cases hpre : b.isPrefixOf (s.data.toList.drop k) with
  | true =>
    rw [hpre] at HP
    have HPP := hideP HP
    clear HP
    simp only [if_true]
    go_enter Tryz.func216, Tryz.ntmps216
    go_wp2_with fail
    go_region_with (go_at_call 156; refine (HPP.out _).mono ?_; rintro e w1 ⟨rfl, rfl⟩)
    all_goals go_wp2_with fail
    all_goals
      refine bodyPost_ret (results_cell_row rfl _ _ w.heap.size _ _ _ _ rfl (heap_alloc_same w _) Tryz.underlying229 rfl (by kernel_rfl)) rfl ?_
      exact ⟨by simp [endO], HM.out.below (below_alloc w _).drew, KpM.of_below (below_alloc w _).drew⟩
  | false =>
    rw [hpre] at HP
    have HPP := hideP HP
    clear HP
    simp only [Bool.false_eq_true, if_false]
    go_enter Tryz.func216, Tryz.ntmps216
    go_wp2_with fail
    go_region_with (go_at_call 156; refine (HPP.out _).mono ?_; rintro e w1 ⟨rfl, rfl⟩)
    all_goals go_wp2_with fail
    all_goals
      refine bodyPost_ret (results_cell_row rfl _ _ w.heap.size _ _ _ _ rfl (heap_alloc_same w _) Tryz.underlying229 rfl (by kernel_rfl)) rfl ?_
      exact ⟨by simp [endO], HM.out.below (below_alloc w _).drew, KpM.of_below (below_alloc w _).drew⟩
end Go.Proofs.YtiganlkabilblaaGreatDoor
namespace Go.Proofs.YtiganlkabilblaaGreatDoor
open Go.RowKit Thk
attribute [local go_sem ↓] Go.wp_at_zero Go.wp_at_succ
theorem any_any (w : World) (c : Value) : Calls Tryz.prog 211 #[c] w fun e w' => e = .returned (.bool true) ∧ Below w.heap.size w w' := by
  go_enter Tryz.func211, Tryz.ntmps211
  go_wp2_with fail
  go_ret
  exact ⟨rfl, Below.refl _ _⟩
theorem within_any (w : World) (lo hi b : UInt8) (bb : Nat) (h : w.heap[bb]? = some (boxO (.int .u8 b.toNat) 5)) :
    Calls Tryz.prog 219 #[.agg #[.int .u8 lo.toNat, .int .u8 hi.toNat], ptrV bb] w fun e w' => e = .returned (.bool (decide (lo ≤ b) && decide (b ≤ hi))) ∧ Below w.heap.size w w' := by
  have q := cell_of_block h
  have l := heap_lt' h
  clear h
  by_cases h1 : lo ≤ b
  · have d1 : (lo.toNat : Int) ≤ (b.toNat : Int) := by have := UInt8.le_iff_toNat_le.mp h1; omega
    by_cases h2 : b ≤ hi
    · have d2 : (b.toNat : Int) ≤ (hi.toNat : Int) := by have := UInt8.le_iff_toNat_le.mp h2; omega
      have hr : (decide (lo ≤ b) && decide (b ≤ hi)) = true := by simp [h1, h2]
      rw [hr]
      have e1 : decide ((lo.toNat : Int) ≤ (b.toNat : Int)) = true := decide_eq_true d1
      have e2 : decide ((b.toNat : Int) ≤ (hi.toNat : Int)) = true := decide_eq_true d2
      clear h1 h2 hr
      go_enter Tryz.func219, Tryz.ntmps219
      go_wp2_with fail
      go_ret
      exact ⟨rfl, below_alloc _ _⟩
    · have d2 : ¬ (b.toNat : Int) ≤ (hi.toNat : Int) := by intro e; exact h2 (UInt8.le_iff_toNat_le.mpr (by omega))
      have hr : (decide (lo ≤ b) && decide (b ≤ hi)) = false := by simp [h2]
      rw [hr]
      have e1 : decide ((lo.toNat : Int) ≤ (b.toNat : Int)) = true := decide_eq_true d1
      have e2 : decide ((b.toNat : Int) ≤ (hi.toNat : Int)) = false := decide_eq_false d2
      have e3 : decide (b.toNat ≤ hi.toNat) = false := decide_eq_false (by omega)
      clear h1 h2 hr
      go_enter Tryz.func219, Tryz.ntmps219
      go_wp2_with fail
      go_ret
      exact ⟨rfl, below_alloc _ _⟩
  · have d1 : ¬ (lo.toNat : Int) ≤ (b.toNat : Int) := by intro e; exact h1 (UInt8.le_iff_toNat_le.mpr (by omega))
    have hr : (decide (lo ≤ b) && decide (b ≤ hi)) = false := by simp [h1]
    rw [hr]
    have e1 : decide ((lo.toNat : Int) ≤ (b.toNat : Int)) = false := decide_eq_false d1
    have e3 : decide (lo.toNat ≤ b.toNat) = false := decide_eq_false (by omega)
    clear h1 hr
    go_enter Tryz.func219, Tryz.ntmps219
    go_wp2_with fail
    go_ret
    exact ⟨rfl, below_alloc _ _⟩
theorem inSpan_drop (l : List Span) (b : UInt8) (i : Nat) (h : i < l.length) : inSpan (l.drop i) b = ((decide (l[i].1 ≤ b) && decide (b ≤ l[i].2)) || inSpan (l.drop (i + 1)) b) := by
  rw [List.drop_eq_getElem_cons h]
  rfl
set_option maxHeartbeats 4000000 in
set_option maxRecDepth 100000 in
theorem indexFunc_any (w : World) (u : Value) (l : List Span) (b : UInt8) (bb : Nat) (hs : Spans w 0 u l) (hl : l.length ≤ 100000) (h : w.heap[bb]? = some (boxO (.int .u8 b.toNat) 5)) :
    Calls Tryz.prog 222 #[u, .func (.func 219) #[] #[ptrV bb]] w fun e w' => ∃ r : Int, e = .returned (.int .i64 r) ∧ decide (0 ≤ r) = inSpan l b ∧ Below w.heap.size w w' := by
  obtain ⟨ua, uc, rfl⟩ := own_form hs
  have HSP := hideP hs
  have HB := hideP h
  have HR : ∃ R, R = inSpan l b := ⟨_, rfl⟩
  obtain ⟨R, hR⟩ := HR
  rw [← hR]
  have HR : Hid (R = inSpan (l.drop 0) b) := hideP hR
  clear hs h hR
  go_enter Tryz.func222, Tryz.ntmps222
  go_wp2_with fail
  go_loopg [8] l.length (fun m v wr => ∃ i : Nat, m = l.length - i ∧ v = .int .i64 i ∧ i ≤ l.length ∧ Hid (Below w.heap.size w wr) ∧ Hid (R = inSpan (l.drop i) b))
  case atStart => exact ⟨0, by omega, rfl, by omega, hideP (Below.refl _ _), HR⟩
  case round =>
    obtain ⟨i, rfl, rfl, hi, HI, HV⟩ := hrel
    by_cases hlt : i < l.length
    · have hlt' : (i : Int) < l.length := by omega
      obtain ⟨g, rfl, hcs, hgl⟩ := own_at HSP.out (by omega)
      have c0 : wr.cell? ⟨g, i * 2, none⟩ = some (.int .u8 l[i].1.toNat) := by
        rw [HI.out.cell (p := ⟨g, _, none⟩) hgl, hcs _ (by omega)]
        have := spanC_get l i 0 hlt (by decide)
        exact this
      have c1 : wr.cell? ⟨g, i * 2 + 1, none⟩ = some (.int .u8 l[i].2.toNat) := by
        rw [HI.out.cell (p := ⟨g, _, none⟩) hgl, hcs _ (by omega)]
        have := spanC_get l i 1 hlt (by decide)
        exact this
      have hbw : wr.heap[bb]? = some (boxO (.int .u8 b.toNat) 5) := by rw [HI.out.block _ (heap_lt HB.out)]; exact HB.out
      have hin := within_any wr l[i].1 l[i].2 b bb hbw
      have hdr := HV.out
      rw [inSpan_drop l b i hlt] at hdr
      generalize (decide (l[i].1 ≤ b) && decide (b ≤ l[i].2)) = ok at *
      have HIN := hideP hin
      have HDR := hideP hdr
      clear hin hdr hbw hcs HV
      cases ok with
      | true =>
        go_wp2_with fail
        refine HIN.out.mono ?_
        rintro _ w1 ⟨rfl, hb1⟩
        have HB1 := hideP (HI.out.trans (hb1.mono HI.out.size))
        clear hb1
        go_wp2_with fail
        go_ret
        refine ⟨i, rfl, ?_, HB1.out⟩
        have := HDR.out
        rw [Bool.true_or] at this
        rw [this]
        exact decide_eq_true (by omega)
      | false =>
        go_wp2_with fail
        refine HIN.out.mono ?_
        rintro _ w1 ⟨rfl, hb1⟩
        have HB1 := hideP (HI.out.trans (hb1.mono HI.out.size))
        clear hb1
        go_wp2_with fail
        go_roundg (l.length - (i + 1))
        case measure => omega
        case rel => exact ⟨i + 1, rfl, by go_num, by omega, HB1, by have := HDR.out; rw [Bool.false_or] at this; exact hideP this⟩
    · have hlt' : ¬ (i : Int) < l.length := by omega
      have hR : R = false := by
        have := HV.out
        rw [List.drop_eq_nil_of_le (by omega)] at this
        simpa [inSpan] using this
      subst hR
      clear HV
      go_wp2_with fail
      go_ret
      exact ⟨-1, rfl, by decide, HI.out⟩
theorem containsFunc_any (w : World) (u : Value) (l : List Span) (b : UInt8) (bb : Nat) (hs : Spans w 0 u l) (hl : l.length ≤ 100000) (h : w.heap[bb]? = some (boxO (.int .u8 b.toNat) 5)) :
    Calls Tryz.prog 218 #[u, .func (.func 219) #[] #[ptrV bb]] w fun e w' => e = .returned (.bool (inSpan l b)) ∧ Below w.heap.size w w' := by
  have HI := hideP (indexFunc_any w u l b bb hs hl h)
  clear hs h
  go_enter Tryz.func218, Tryz.ntmps218
  go_wp2_with fail
  refine HI.out.mono ?_
  rintro _ w1 ⟨r, rfl, hr, hb⟩
  go_wp2_with fail
  go_ret
  exact ⟨by rw [← hr]; rfl, hb⟩
theorem class_any (w : World) (u : Value) (l : List Span) (b : UInt8) (bs : Nat) (hu : w.heap[bs]? = some (boxO u 235)) (hs : Spans w 0 u l) (hl : l.length ≤ 100000) :
    Calls Tryz.prog 217 #[.int .u8 b.toNat, ptrV bs] w fun e w' => e = .returned (.bool (inSpan l b)) ∧ Below w.heap.size w w' := by
  have q := cell_of_block hu
  have lq := heap_lt' hu
  have hs1 : Spans (w.alloc (boxO (.int .u8 b.toNat) 5)) 0 u l := own_blocks hs (fun g hg => heap_alloc_old _ _ (hs.lt g hg).2)
  have HC := hideP (containsFunc_any _ u l b w.heap.size hs1 hl (heap_alloc_same w _))
  obtain ⟨ua, uc, rfl⟩ := own_form hs
  clear hs hs1 hu
  go_enter Tryz.func217, Tryz.ntmps217
  go_wp2_with fail
  refine HC.out.mono ?_
  rintro _ w1 ⟨rfl, hb⟩
  go_wp2_with fail
  go_ret
  exact ⟨rfl, (below_alloc w _).trans (hb.mono (by simp))⟩
end Go.Proofs.YtiganlkabilblaaGreatDoor
namespace Go.Proofs.YtiganlkabilblaaGreatDoor
open Go.RowKit Thk
attribute [local go_sem ↓] Go.wp_at_zero Go.wp_at_succ
theorem byteOut_end (s : ByteArray) (ok : UInt8 → Bool) : byteOut s.data.toList s.size ok = none := by
  unfold byteOut
  rw [List.getElem?_eq_none (by show s.data.toList.length ≤ s.size; exact Nat.le_refl _)]
theorem byteOut_at (s : ByteArray) (ok : UInt8 → Bool) (k : Nat) (h : k < s.size) : byteOut s.data.toList k ok = if ok s[k] then some (k + 1, .nil) else none := by
  unfold byteOut
  have h' : k < s.data.toList.length := h
  rw [List.getElem?_eq_getElem h']
  simp
  rfl
set_option maxHeartbeats 8000000 in
set_option maxRecDepth 100000 in
theorem in_single {wM : World} {mb tb : Nat} {N : List Nd} {bx : List (Nat × Nat × Nat)} {rules : List Nat} {vr : Value} {s : ByteArray} (M : Mde wM mb N bx rules vr) (bm bh g : Nat) (caps : Array Value) (ok : UInt8 → Bool) (hbm : wM.heap[bm]? = some (boxO (ptrV mb) 113)) (hbh : wM.heap[bh]? = some (boxO (.func (.func g) #[] caps) 287)) (hsz : s.size ≤ 1000000) (k : Nat) (hk : k ≤ s.size) (w : World) (h : MS wM mb tb N rules vr s .nil w)
    (hen : ∀ (args : Array Value) (w : World), (callFunc g args).run Tryz.prog w = .ok (.enter g args) w)
    (hF : ∀ W c, Below w.heap.size w W → Calls Tryz.prog g (#[.int .u8 (UInt8.toNat c)] ++ caps) W fun e w' => e = .returned (.bool (ok c)) ∧ Below W.heap.size W w') :
    Calls Tryz.prog 220 #[.int .i64 k, ptrV bm, ptrV bh] w (PostM wM mb tb N rules vr s .nil (byteOut s.data.toList k ok) w) := by
  have p1 := h.box M hbm
  have q1 := cell_of_block p1
  have l1 := heap_lt' p1
  have p2 := h.box M hbh
  have q2 := cell_of_block p2
  have l2 := heap_lt' p2
  have q3 : w.cell? ⟨mb, 1, none⟩ = some (.string s) := cell_of_block h.blk 1
  have l3 := heap_lt h.blk
  have HH := hideP (And.intro h.size (And.intro h.tlt h.mlt))
  have HM := hideP h
  clear h hbm hbh M p1 p2
  by_cases hlt : k < s.size
  · rw [byteOut_at s ok k hlt]
    have he : ((k : Int) == (s.size : Int)) = false := by rw [beq_eq_false_iff_ne]; omega
    have HFF := hideP hF
    clear hF
    cases hok : ok s[k] with
    | true =>
      have HC : Hid (∀ W, Below w.heap.size w W → W.heap[w.heap.size]? = some outC → Calls Tryz.prog g (#[.int .u8 (UInt8.toNat s[k])] ++ caps) W fun e w' => e = .returned (.bool true) ∧ Hid (Below w.heap.size w w' ∧ w'.heap[w.heap.size]? = some outC)) := hideP (fun W hW h0 => by
        refine (HFF.out W s[k] hW).mono ?_
        rintro e w' ⟨h1, h2⟩
        rw [hok] at h1
        exact ⟨h1, hideP ⟨hW.trans (h2.mono hW.size), by rw [h2.block _ (heap_lt h0)]; exact h0⟩⟩)
      simp only [if_true]
      clear hok HFF
      go_enter Tryz.func220, Tryz.ntmps220
      go_wp2_with fail
      go_region_with (refine (HC.out _ (by repeat (first | exact Below.refl _ _ | refine Below.drew ?_ | refine Below.alloc ?_ (by simp) _)) (by exact heap_alloc_same w _)).mono ?_; rintro _ w1 ⟨rfl, HB⟩)
      all_goals
        have z0 := cell_of_block HB.out.2
        have f0 := frozen_of_block HB.out.2
        have l0 := heap_lt' HB.out.2
        go_wp2_with fail
        refine bodyPost_ret (results_cell_row rfl _ _ w.heap.size _ _ _ _ rfl (cell2 HB.out.2 _ _) Tryz.underlying229 rfl (by kernel_rfl)) rfl ?_
        have hbf := below2 w1 w.heap.size
        exact ⟨rfl, HM.out.low HH.out.1 HH.out.2.1 (HB.out.1.trans (hbf _ _)), KpM.of_below (HB.out.1.trans (hbf _ _))⟩
    | false =>
      have HC : Hid (∀ W, Below w.heap.size w W → W.heap[w.heap.size]? = some outC → Calls Tryz.prog g (#[.int .u8 (UInt8.toNat s[k])] ++ caps) W fun e w' => e = .returned (.bool false) ∧ Hid (Below w.heap.size w w' ∧ w'.heap[w.heap.size]? = some outC)) := hideP (fun W hW h0 => by
        refine (HFF.out W s[k] hW).mono ?_
        rintro e w' ⟨h1, h2⟩
        rw [hok] at h1
        exact ⟨h1, hideP ⟨hW.trans (h2.mono hW.size), by rw [h2.block _ (heap_lt h0)]; exact h0⟩⟩)
      simp only [Bool.false_eq_true, if_false]
      clear hok HFF
      go_enter Tryz.func220, Tryz.ntmps220
      go_wp2_with fail
      go_region_with (refine (HC.out _ (by repeat (first | exact Below.refl _ _ | refine Below.drew ?_ | refine Below.alloc ?_ (by simp) _)) (by exact heap_alloc_same w _)).mono ?_; rintro _ w1 ⟨rfl, HB⟩)
      all_goals
        have z0 := cell_of_block HB.out.2
        have f0 := frozen_of_block HB.out.2
        have l0 := heap_lt' HB.out.2
        go_wp2_with fail
        refine bodyPost_ret (results_cell_row rfl _ _ w.heap.size _ _ _ _ rfl (cell2 HB.out.2 _ _) Tryz.underlying229 rfl (by kernel_rfl)) rfl ?_
        have hbf := below2 w1 w.heap.size
        exact ⟨rfl, HM.out.low HH.out.1 HH.out.2.1 (HB.out.1.trans (hbf _ _)), KpM.of_below (HB.out.1.trans (hbf _ _))⟩
  · have hks : k = s.size := by omega
    subst hks
    rw [byteOut_end]
    have he : ((s.size : Int) == (s.size : Int)) = true := by simp
    clear hF hen
    go_enter Tryz.func220, Tryz.ntmps220
    go_wp2_with fail
    go_region
    all_goals
      go_wp2_with fail
      refine bodyPost_ret (results_cell_row rfl _ _ w.heap.size _ _ _ _ rfl (heap_alloc_same w _) Tryz.underlying229 rfl (by kernel_rfl)) rfl ?_
      exact ⟨by simp [endO], HM.out.below (below_alloc w _).drew, KpM.of_below (below_alloc w _).drew⟩
end Go.Proofs.YtiganlkabilblaaGreatDoor
namespace Go.Proofs.YtiganlkabilblaaGreatDoor
open Go.RowKit Thk
theorem inn_all {wM : World} {mb tb : Nat} {N : List Nd} {bx : List (Nat × Nat × Nat)} {rules : List Nat} {vr : Value} {s : ByteArray} (M : Mde wM mb N bx rules vr) (hrl : rules.length ≤ 100000) (hsz : s.size ≤ 1000000) {f : Nat} (hC : CloC wM mb tb N bx rules vr s f) : InnC wM mb tb N bx rules vr s f := by
  intro n d iv k r hin hv hk
  cases d with
  | choice ks =>
    obtain ⟨bs, a, c, rfl, hb, hrow, hl⟩ := hin
    refine ⟨_, _, rfl, fun args w => by simp [go_sem], fun W hW => ?_⟩
    have := in_choice M hC ks bs a c hb hrow hl k r hv hk W hW
    simpa using this
  | seq ks =>
    obtain ⟨bm, bs, a, c, rfl, hbm, hb, hrow, hl⟩ := hin
    refine ⟨_, _, rfl, fun args w => by simp [go_sem], fun W hW => ?_⟩
    have := in_seq M hC ks bm bs a c hbm hb hrow hl k r hv hk W hW
    simpa using this
  | ahead j wd =>
    obtain ⟨bm, be, bw, rfl, hbm, hb, hbw⟩ := hin
    refine ⟨_, _, rfl, fun args w => by simp [go_sem], fun W hW => ?_⟩
    simp only [bodyN] at hv
    cases ho : evN N rules s.data.toList f j k with
    | none => rw [ho] at hv; cases hv
    | some o =>
      rw [ho] at hv
      simp only [Option.map_some, Option.some.injEq] at hv
      subst hv
      have := in_ahead M hC j bm be bw wd hbm hb hbw k o ho hk W hW
      simpa using this
  | maybe j =>
    obtain ⟨be, rfl, hb⟩ := hin
    refine ⟨_, _, rfl, fun args w => by simp [go_sem], fun W hW => ?_⟩
    simp only [bodyN] at hv
    cases ho : evN N rules s.data.toList f j k with
    | none => rw [ho] at hv; cases hv
    | some o =>
      rw [ho] at hv
      simp only [Option.map_some, Option.some.injEq] at hv
      subst hv
      have := in_maybe M hC j be hb k o ho hk W hW
      simpa using this
  | plus j =>
    obtain ⟨be, bp, rfl, hb, hp⟩ := hin
    refine ⟨_, _, rfl, fun args w => by simp [go_sem], fun W hW => ?_⟩
    have := in_plus M hC n j be bp hb hp k r hv hk W hW
    simpa using this
  | name i =>
    obtain ⟨bm, bi, rfl, hbm, hbi⟩ := hin
    refine ⟨_, _, rfl, fun args w => by simp [go_sem], fun W hW => ?_⟩
    simp only [bodyN] at hv
    cases hr : rules[i]? with
    | none => rw [hr] at hv; cases hv
    | some j =>
      rw [hr] at hv
      simp only [] at hv
      cases ho : evN N rules s.data.toList f j k with
      | none => rw [ho] at hv; cases hv
      | some o =>
        rw [ho] at hv
        simp only [Option.map_some, Option.some.injEq] at hv
        subst hv
        have := in_name M hC i bm bi hbm hbi hrl hsz k j o hr ho hk W hW
        simpa using this
  | lit b =>
    obtain ⟨bm, bt, rfl, hbm, hbt, hl⟩ := hin
    refine ⟨_, _, rfl, fun args w => by simp [go_sem], fun W hW => ?_⟩
    simp only [bodyN, Option.some.injEq] at hv
    subst hv
    have := in_lit M b bm bt hbm hbt hl hsz k hk W hW
    simpa using this
  | cls l =>
    obtain ⟨bm, bh, bs, u, rfl, hbm, hbh, hbs, hsp, hl⟩ := hin
    refine ⟨_, _, rfl, fun args w => by simp [go_sem], fun W hW => ?_⟩
    simp only [bodyN, Option.some.injEq] at hv
    subst hv
    have hbsW := hW.box M hbs
    have hspW : Spans W 0 u l := own_blocks hsp (fun g hg => hW.old g (hsp.lt g hg).2 (by
      rintro rfl
      obtain ⟨cur, hc⟩ := own_block_type hsp hg
      obtain ⟨sv, tv, nv, hm⟩ := M.mat
      rw [hm] at hc
      simp at hc))
    have := in_single M bm bh _ _ (inSpan l) hbm hbh hsz k hk W hW (fun args w => by simp [go_sem]) (fun W1 c hB => by
      have := class_any W1 u l c bs (by rw [hB.block _ (heap_lt hbsW)]; exact hbsW) (own_blocks hspW (fun g hg => hB.block _ (hspW.lt g hg).2)) (by omega)
      simpa using this)
    simpa using this
  | any =>
    obtain ⟨bm, bh, rfl, hbm, hbh⟩ := hin
    refine ⟨_, _, rfl, fun args w => by simp [go_sem], fun W hW => ?_⟩
    simp only [bodyN, Option.some.injEq] at hv
    subst hv
    have := in_single M bm bh _ _ (fun _ => true) hbm hbh hsz k hk W hW (fun args w => by simp [go_sem]) (fun W1 c hB => by
      have := any_any W1 (.int .u8 c.toNat)
      simpa using this)
    simpa using this
/-- What has been made tells what it should. -/
theorem clo_all {wM : World} {mb tb : Nat} {N : List Nd} {bx : List (Nat × Nat × Nat)} {rules : List Nat} {vr : Value} {s : ByteArray} (M : Mde wM mb N bx rules vr) (hrl : rules.length ≤ 100000) (hsz : s.size ≤ 1000000) : ∀ f, CloC wM mb tb N bx rules vr s f
  | 0 => fun _ _ _ _ h => by cases h
  | f + 1 => clo_any M (inn_all M hrl hsz (clo_all M hrl hsz f))
end Go.Proofs.YtiganlkabilblaaGreatDoor
namespace Go.Proofs.YtiganlkabilblaaGreatDoor
open Go.RowKit Thk
attribute [local go_sem ↓] Go.wp_at_zero Go.wp_at_succ
/-- A matcher at rest. -/
structure MR (wM : World) (mb : Nat) (vr : Value) (s0 : ByteArray) (tv : Value) (w : World) : Prop where
  size : wM.heap.size ≤ w.heap.size
  old : ∀ b, b < wM.heap.size → b ≠ mb → w.heap[b]? = wM.heap[b]?
  mlt : mb < wM.heap.size
  blk : w.heap[mb]? = some (matO vr s0 tv .nilIface)
theorem MR.below {wM : World} {mb : Nat} {vr : Value} {s0 : ByteArray} {tv : Value} {B : Nat} {w w' : World} (h : MR wM mb vr s0 tv w) (hb : Below B w w') (hm : mb < B) (hB : wM.heap.size ≤ B) : MR wM mb vr s0 tv w' :=
  ⟨Nat.le_trans h.size hb.size, fun b hb1 hb2 => (hb.block b (by omega)).trans (h.old b hb1 hb2), h.mlt, by rw [hb.block _ hm]; exact h.blk⟩
theorem MR.ended {wM : World} {mb : Nat} {vr : Value} {s0 : ByteArray} {tv : Value} {w : World} (h : MR wM mb vr s0 tv w) : MR wM mb vr ⟨#[]⟩ (.map none) ((w.setCell ⟨mb, 1, none⟩ (.string ⟨#[]⟩)).setCell ⟨mb, 2, none⟩ (.map none)) := by
  refine ⟨by simpa [World.setCell] using h.size, fun b hb hn => ?_, h.mlt, ?_⟩
  · rw [Below.heap_setCell _ _ _ _ hn, Below.heap_setCell _ _ _ _ hn]; exact h.old b hb hn
  · rw [heap_setCell_at (heap_setCell_at h.blk _) _]; rfl
theorem takeEnd_d (w : World) (u : FrameMode) (bm mb : Nat) (vr : Value) (s : ByteArray) (tv nv : Value) (h0 : w.heap[bm]? = some (boxO (ptrV mb) 113)) (h : w.heap[mb]? = some (matO vr s tv nv)) :
    CallsD Tryz.prog 83 #[ptrV bm] u w fun e u' w' => u' = u ∧ (e = .returned (.tuple #[]) ∧ w' = (w.setCell ⟨mb, 1, none⟩ (.string ⟨#[]⟩)).setCell ⟨mb, 2, none⟩ (.map none)) := by
  have q0 := cell_of_block h0
  have l0 := heap_lt' h0
  have q := cell_of_block h
  have fz := frozen_of_block h
  have l := heap_lt' h
  clear h h0
  go_enter_d Tryz.func83, Tryz.ntmps83
  go_wp2_with fail
  go_end0
  exact ⟨rfl, rfl⟩
/-- Before the first rule is tried. -/
structure TX (mb : Nat) (vr : Value) (s : ByteArray) (w X : World) : Prop where
  os : X.os = w.os
  tape : X.tape = w.tape
  output : X.output = w.output
  size : X.heap.size = w.heap.size + 3
  mat : X.heap[mb]? = some (matO vr s (.map (some (w.heap.size + 1 + 1))) .nilIface)
  old : ∀ b, b < w.heap.size → b ≠ mb → X.heap[b]? = w.heap[b]?
  box : X.heap[w.heap.size]? = some (boxO (ptrV mb) 113)
  use : X.heap[w.heap.size + 1]? = some useC
  tab : X.heap[w.heap.size + 1 + 1]? = some (.map #[] 0)
theorem alloc3_0 (w : World) (a b c : Obj) : (((w.alloc a).alloc b).alloc c).heap[w.heap.size]? = some a := by
  rw [heap_alloc_old _ _ (by simp; omega), heap_alloc_old _ _ (by simp)]; exact heap_alloc_same _ _
theorem alloc3_1 (w : World) (a b c : Obj) : (((w.alloc a).alloc b).alloc c).heap[w.heap.size + 1]? = some b := by
  rw [heap_alloc_old _ _ (by simp)]
  have := heap_alloc_same (w.alloc a) b
  simpa using this
theorem alloc3_2 (w : World) (a b c : Obj) : (((w.alloc a).alloc b).alloc c).heap[w.heap.size + 1 + 1]? = some c := by
  have := heap_alloc_same ((w.alloc a).alloc b) c
  simpa using this
theorem tx1 {w : World} {mb : Nat} {vr : Value} {s0 s : ByteArray} {tv : Value} (h : w.heap[mb]? = some (matO vr s0 tv .nilIface)) : TX mb vr s w (((((w.setCell ⟨mb, 1, none⟩ (.string s)).alloc (boxO (ptrV mb) 113)).alloc useC).alloc (.map #[] 0)).setCell ⟨mb, 2, none⟩ (.map (some (w.heap.size + 1 + 1)))).drew := by
  have hl := heap_lt h
  have hz : (w.setCell ⟨mb, 1, none⟩ (.string s)).heap.size = w.heap.size := by simp [World.setCell]
  have hA : ∀ b, b < w.heap.size → ((((w.setCell ⟨mb, 1, none⟩ (.string s)).alloc (boxO (ptrV mb) 113)).alloc useC).alloc (.map #[] 0)).heap[b]? = (w.setCell ⟨mb, 1, none⟩ (.string s)).heap[b]? := fun b hb => (below_alloc3 _ _ _ _).block _ (by rw [hz]; exact hb)
  have e0 := alloc3_0 (w.setCell ⟨mb, 1, none⟩ (.string s)) (boxO (ptrV mb) 113) useC (.map #[] 0)
  have e1 := alloc3_1 (w.setCell ⟨mb, 1, none⟩ (.string s)) (boxO (ptrV mb) 113) useC (.map #[] 0)
  have e2 := alloc3_2 (w.setCell ⟨mb, 1, none⟩ (.string s)) (boxO (ptrV mb) 113) useC (.map #[] 0)
  rw [hz] at e0 e1 e2
  refine ⟨rfl, rfl, rfl, ?_, ?_, ?_, ?_, ?_, ?_⟩
  · show (World.setCell _ _ _).heap.size = _
    simp [World.setCell]
  · show (World.setCell _ _ _).heap[mb]? = _
    have hm := (hA mb hl).trans (heap_setCell_at h (.string s))
    rw [heap_setCell_at hm]; rfl
  · intro b hb hn
    show (World.setCell _ _ _).heap[b]? = _
    rw [Below.heap_setCell _ _ _ _ hn, hA b hb, Below.heap_setCell _ _ _ _ hn]
  · show (World.setCell _ _ _).heap[w.heap.size]? = _
    rw [Below.heap_setCell _ _ _ _ (by simp; omega)]; exact e0
  · show (World.setCell _ _ _).heap[w.heap.size + 1]? = _
    rw [Below.heap_setCell _ _ _ _ (by simp; omega)]; exact e1
  · show (World.setCell _ _ _).heap[w.heap.size + 1 + 1]? = _
    rw [Below.heap_setCell _ _ _ _ (by simp; omega)]; exact e2
theorem tx2 {w : World} {mb : Nat} {vr : Value} {s0 s : ByteArray} {tv : Value} (h : w.heap[mb]? = some (matO vr s0 tv .nilIface)) : TX mb vr s w (((((w.alloc (boxO (ptrV mb) 113)).alloc useC).alloc (.map #[] 0)).setCell ⟨mb, 1, none⟩ (.string s)).setCell ⟨mb, 2, none⟩ (.map (some (w.heap.size + 1 + 1)))).drew := by
  have hl := heap_lt h
  have hA : ∀ b, b < w.heap.size → (((w.alloc (boxO (ptrV mb) 113)).alloc useC).alloc (.map #[] 0)).heap[b]? = w.heap[b]? := fun b hb => (below_alloc3 _ _ _ _).block _ hb
  have e0 := alloc3_0 w (boxO (ptrV mb) 113) useC (.map #[] 0)
  have e1 := alloc3_1 w (boxO (ptrV mb) 113) useC (.map #[] 0)
  have e2 := alloc3_2 w (boxO (ptrV mb) 113) useC (.map #[] 0)
  refine ⟨rfl, rfl, rfl, ?_, ?_, ?_, ?_, ?_, ?_⟩
  · show (World.setCell _ _ _).heap.size = _
    simp [World.setCell]
  · show (World.setCell _ _ _).heap[mb]? = _
    have hm := (hA mb hl).trans h
    rw [heap_setCell_at (heap_setCell_at hm _) _]; rfl
  · intro b hb hn
    show (World.setCell _ _ _).heap[b]? = _
    rw [Below.heap_setCell _ _ _ _ hn, Below.heap_setCell _ _ _ _ hn, hA b hb]
  · show (World.setCell _ _ _).heap[w.heap.size]? = _
    rw [Below.heap_setCell _ _ _ _ (by simp; omega), Below.heap_setCell _ _ _ _ (by simp; omega)]; exact e0
  · show (World.setCell _ _ _).heap[w.heap.size + 1]? = _
    rw [Below.heap_setCell _ _ _ _ (by simp; omega), Below.heap_setCell _ _ _ _ (by simp; omega)]; exact e1
  · show (World.setCell _ _ _).heap[w.heap.size + 1 + 1]? = _
    rw [Below.heap_setCell _ _ _ _ (by simp; omega), Below.heap_setCell _ _ _ _ (by simp; omega)]; exact e2
theorem TX.ms {wM : World} {mb : Nat} {N : List Nd} {rules : List Nat} {vr : Value} {s0 s : ByteArray} {tv : Value} {w X : World} (h : MR wM mb vr s0 tv w) (t : TX mb vr s w X) : MS wM mb (w.heap.size + 1 + 1) N rules vr s .nil X := by
  have h1 := h.size
  have h2 := t.size
  refine ⟨by omega, fun b hb hn => (t.old b (by omega) hn).trans (h.old b hb hn), h.mlt, t.mat, by omega, [], ⟨#[], 0, t.tab, rfl⟩, ?_⟩
  intro n k r hh
  simp [memoAt] at hh
set_option maxHeartbeats 8000000 in
set_option maxRecDepth 100000 in
theorem take_any {wM : World} {mb : Nat} {N : List Nd} {bx : List (Nat × Nat × Nat)} {rules : List Nat} {vr : Value} {s s0 : ByteArray} {tv : Value} (M : Mde wM mb N bx rules vr) (hrl : rules.length ≤ 100000) (hsz : s.size ≤ 1000000) (w : World) (h : MR wM mb vr s0 tv w) (f j : Nat) (o : Out) (hi : rules[0]? = some j) (hv : evN N rules s.data.toList f j 0 = some o) :
    Calls Tryz.prog 60 #[ptrV mb, .string s] w fun e w' => e = .returned (.tuple #[useV 0 0 o, .bool o.isSome]) ∧ MR wM mb vr ⟨#[]⟩ (.map none) w' ∧ KpM [mb] w.heap.size w w' := by
  have q := cell_of_block h.blk
  have fz := frozen_of_block h.blk
  have l := heap_lt' h.blk
  have HM := hideP h
  have HU : Hid (∀ X, TX mb vr s w X → Calls Tryz.prog 84 #[ptrV mb, .int .i64 0, .int .i64 0] X fun e w' => e = .returned (.tuple #[useV 0 0 o, .bool o.isSome]) ∧ Hid (MR wM mb vr s (.map (some (w.heap.size + 1 + 1))) w') ∧ w'.heap[w.heap.size + 1]? = some useC ∧ Hid (w'.heap[w.heap.size]? = some (boxO (ptrV mb) 113)) ∧ Hid (KpM [mb] w.heap.size w w')) := hideP (fun X hX => by
    have hm := hX.ms (N := N) (rules := rules) h
    have hl := heap_lt h.blk
    have := use_any M (clo_all (tb := w.heap.size + 1 + 1) (s := s) M hrl hsz f) 0 j 0 o hi hrl hv (Nat.zero_le _) X .nil hm
    refine Calls.mono this ?_
    rintro e w' ⟨h1, h2, h3⟩
    have hz := hX.size
    refine ⟨h1, hideP ⟨h2.size, h2.old, h2.mlt, h2.blk⟩, ?_, hideP ?_, hideP ⟨h3.os.trans hX.os, h3.tape.trans hX.tape, h3.output.trans hX.output, by have := h3.size; omega, fun b hb hn => ?_⟩⟩
    · rw [h3.block _ (by omega) (by simp; omega)]; exact hX.use
    · rw [h3.block _ (by omega) (by simp; omega)]; exact hX.box
    · have hne : b ≠ mb := by simpa using hn
      rw [h3.block _ (by omega) (by simp; omega)]; exact hX.old b hb hne)
  clear h M hi hv
  have hmm := @run_makeMap Tryz.prog
  have hb3 : ∀ a b c, (((w.alloc a).alloc b).alloc c).heap[mb]? = some (matO vr s0 tv .nilIface) := fun a b c => by rw [(below_alloc3 w a b c).block _ l]; exact HM.out.blk
  have c1 : ∀ a b c, (((w.alloc a).alloc b).alloc c).cell? ⟨mb, 1, none⟩ = some (.string s0) := fun a b c => cell_of_block (hb3 a b c) 1
  have c2 : ∀ a b c, (((w.alloc a).alloc b).alloc c).cell? ⟨mb, 2, none⟩ = some tv := fun a b c => cell_of_block (hb3 a b c) 2
  have g1 : ∀ a b c, (((w.alloc a).alloc b).alloc c).frozen? ⟨mb, 1, none⟩ = false := fun a b c => frozen_of_block (hb3 a b c) 1
  have g2 : ∀ a b c, (((w.alloc a).alloc b).alloc c).frozen? ⟨mb, 2, none⟩ = false := fun a b c => frozen_of_block (hb3 a b c) 2
  have hb4 : ∀ v a b c, ((((w.setCell ⟨mb, 1, none⟩ v).alloc a).alloc b).alloc c).heap[mb]? = some (.cells #[vr, v, tv, .nilIface] 177 (0, 0)) := fun v a b c => by
    rw [(below_alloc3 (w.setCell ⟨mb, 1, none⟩ v) a b c).block _ (by simpa [World.setCell] using l), heap_setCell_at HM.out.blk]; rfl
  have hb5 : ∀ v a b c, ((((w.setCell ⟨mb, 2, none⟩ v).alloc a).alloc b).alloc c).heap[mb]? = some (.cells #[vr, .string s0, v, .nilIface] 177 (0, 0)) := fun v a b c => by
    rw [(below_alloc3 (w.setCell ⟨mb, 2, none⟩ v) a b c).block _ (by simpa [World.setCell] using l), heap_setCell_at HM.out.blk]; rfl
  have c3 : ∀ v a b c, ((((w.setCell ⟨mb, 1, none⟩ v).alloc a).alloc b).alloc c).cell? ⟨mb, 2, none⟩ = some tv := fun v a b c => cell_of_block (hb4 v a b c) 2
  have g3 : ∀ v a b c, ((((w.setCell ⟨mb, 1, none⟩ v).alloc a).alloc b).alloc c).frozen? ⟨mb, 2, none⟩ = false := fun v a b c => frozen_of_block (hb4 v a b c) 2
  have c4 : ∀ v a b c, ((((w.setCell ⟨mb, 2, none⟩ v).alloc a).alloc b).alloc c).cell? ⟨mb, 1, none⟩ = some (.string s0) := fun v a b c => cell_of_block (hb5 v a b c) 1
  have g4 : ∀ v a b c, ((((w.setCell ⟨mb, 2, none⟩ v).alloc a).alloc b).alloc c).frozen? ⟨mb, 1, none⟩ = false := fun v a b c => frozen_of_block (hb5 v a b c) 1
  clear hb3 hb4 hb5
  go_enter_defers Tryz.func60, Tryz.ntmps60
  go_wp2_with fail
  refine calm_wp ?_
  go_region
  all_goals refine calm_done ?_
  all_goals go_wp2_with fail
  all_goals
    refine Calls.mono (HU.out _ (by first | exact tx1 HM.out.blk | exact tx2 HM.out.blk)) ?_
    rintro _ w1 ⟨rfl, HR1, hu1, HX1, HK1⟩
    have z0 := cell_of_block hu1
    have f0 := frozen_of_block hu1
    have l0 := heap_lt' hu1
    have y0 := cell_of_block HX1.out
    have HU1 := hideP hu1
    clear hu1 c1 c2 c3 c4 g1 g2 g3 g4 q fz
    cases o with
    | none =>
      have ho : useV 0 0 none = .agg #[.int .i64 0, .int .i64 0, .int .i64 0, .nilIface] := rfl
      have ho2 : Option.isSome (none : Out) = false := rfl
      rw [ho, ho2]
      go_wp2_with fail
      obtain ⟨X, hX⟩ : ∃ X, X = ((((w1.setCell ⟨w.heap.size + 1, 0, none⟩ (.int .i64 0)).setCell ⟨w.heap.size + 1, 1, none⟩ (.int .i64 0)).setCell ⟨w.heap.size + 1, 2, none⟩ (.int .i64 0)).setCell ⟨w.heap.size + 1, 3, none⟩ (.nilIface)) := ⟨_, rfl⟩
      have hbf : Below w.heap.size w1 X := by
        rw [hX]
        exact ((((Below.refl _ _).setCell (p := ⟨w.heap.size + 1, 0, none⟩) (Nat.le_succ _) _).setCell (p := ⟨w.heap.size + 1, 1, none⟩) (Nat.le_succ _) _).setCell (p := ⟨w.heap.size + 1, 2, none⟩) (Nat.le_succ _) _).setCell (p := ⟨w.heap.size + 1, 3, none⟩) (Nat.le_succ _) _
      have x0 : X.heap[w.heap.size + 1]? = some (.cells #[.int .i64 0, .int .i64 0, .int .i64 0, .nilIface] 108 (0, 0)) := by rw [hX, heap_setCell_at (heap_setCell_at (heap_setCell_at (heap_setCell_at HU1.out _) _) _) _]; rfl
      have xb : X.heap[w.heap.size]? = some (boxO (ptrV mb) 113) := by
        rw [hX, Below.heap_setCell _ _ _ _ (by simp), Below.heap_setCell _ _ _ _ (by simp), Below.heap_setCell _ _ _ _ (by simp), Below.heap_setCell _ _ _ _ (by simp)]; exact HX1.out
      have xr := HR1.out.below hbf l HM.out.size
      rw [← hX]
      have xk := HK1.out.low hbf
      refine leaves_cons (f := 83) (args := #[ptrV w.heap.size]) (by simp) (by simp [go_sem]) ?_
      refine (takeEnd_d X .returning w.heap.size mb vr s _ _ xb xr.blk).mono ?_
      rintro e u' w'' ⟨rfl, rfl, hw⟩
      have hrb : w.heap.size + 1 ≠ mb := by omega
      have hf := xr.ended
      rw [← hw] at hf
      have hk : KpM [mb] w.heap.size w w'' := by rw [hw]; exact (xk.set (by simp) _).set (by simp) _
      refine ⟨_, results_row_tmp rfl _ _ (w.heap.size + 1) _ _ _ _ rfl (by rw [hw, Below.heap_setCell _ _ _ _ hrb, Below.heap_setCell _ _ _ _ hrb]; exact x0) Tryz.underlying108 rfl (by kernel_rfl), ?_⟩
      exact ⟨rfl, hf, hk⟩
    | some x =>
      have hf := nt_form x.2
      obtain ⟨nv, hnv⟩ : ∃ nv, nv = ntV x.2 := ⟨_, rfl⟩
      have hu : useV 0 0 (some x) = .agg #[.int .i64 0, .int .i64 0, .int .i64 x.1, nv] := by rw [hnv]; rfl
      have ho2 : Option.isSome (some x : Out) = true := rfl
      rw [hu, ho2]
      rw [← hnv] at hf
      have HUV := hideP hu
      clear hu ho2 hnv
      rcases hf with rfl | ⟨t, v, rfl⟩
      · go_wp2_with fail
        obtain ⟨X, hX⟩ : ∃ X, X = ((((w1.setCell ⟨w.heap.size + 1, 0, none⟩ (.int .i64 0)).setCell ⟨w.heap.size + 1, 1, none⟩ (.int .i64 0)).setCell ⟨w.heap.size + 1, 2, none⟩ (.int .i64 x.1)).setCell ⟨w.heap.size + 1, 3, none⟩ (.nilIface)) := ⟨_, rfl⟩
        have hbf : Below w.heap.size w1 X := by
          rw [hX]
          exact ((((Below.refl _ _).setCell (p := ⟨w.heap.size + 1, 0, none⟩) (Nat.le_succ _) _).setCell (p := ⟨w.heap.size + 1, 1, none⟩) (Nat.le_succ _) _).setCell (p := ⟨w.heap.size + 1, 2, none⟩) (Nat.le_succ _) _).setCell (p := ⟨w.heap.size + 1, 3, none⟩) (Nat.le_succ _) _
        have x0 : X.heap[w.heap.size + 1]? = some (.cells #[.int .i64 0, .int .i64 0, .int .i64 x.1, .nilIface] 108 (0, 0)) := by rw [hX, heap_setCell_at (heap_setCell_at (heap_setCell_at (heap_setCell_at HU1.out _) _) _) _]; rfl
        have xb : X.heap[w.heap.size]? = some (boxO (ptrV mb) 113) := by
          rw [hX, Below.heap_setCell _ _ _ _ (by simp), Below.heap_setCell _ _ _ _ (by simp), Below.heap_setCell _ _ _ _ (by simp), Below.heap_setCell _ _ _ _ (by simp)]; exact HX1.out
        have xr := HR1.out.below hbf l HM.out.size
        rw [← hX]
        have xk := HK1.out.low hbf
        refine leaves_cons (f := 83) (args := #[ptrV w.heap.size]) (by simp) (by simp [go_sem]) ?_
        refine (takeEnd_d X .returning w.heap.size mb vr s _ _ xb xr.blk).mono ?_
        rintro e u' w'' ⟨rfl, rfl, hw⟩
        have hrb : w.heap.size + 1 ≠ mb := by omega
        have hf := xr.ended
        rw [← hw] at hf
        have hk : KpM [mb] w.heap.size w w'' := by rw [hw]; exact (xk.set (by simp) _).set (by simp) _
        refine ⟨_, results_row_tmp rfl _ _ (w.heap.size + 1) _ _ _ _ rfl (by rw [hw, Below.heap_setCell _ _ _ _ hrb, Below.heap_setCell _ _ _ _ hrb]; exact x0) Tryz.underlying108 rfl (by kernel_rfl), ?_⟩
        exact ⟨by rw [HUV.out]; rfl, hf, hk⟩
      · go_wp2_with fail
        obtain ⟨X, hX⟩ : ∃ X, X = ((((w1.setCell ⟨w.heap.size + 1, 0, none⟩ (.int .i64 0)).setCell ⟨w.heap.size + 1, 1, none⟩ (.int .i64 0)).setCell ⟨w.heap.size + 1, 2, none⟩ (.int .i64 x.1)).setCell ⟨w.heap.size + 1, 3, none⟩ (.iface t v)) := ⟨_, rfl⟩
        have hbf : Below w.heap.size w1 X := by
          rw [hX]
          exact ((((Below.refl _ _).setCell (p := ⟨w.heap.size + 1, 0, none⟩) (Nat.le_succ _) _).setCell (p := ⟨w.heap.size + 1, 1, none⟩) (Nat.le_succ _) _).setCell (p := ⟨w.heap.size + 1, 2, none⟩) (Nat.le_succ _) _).setCell (p := ⟨w.heap.size + 1, 3, none⟩) (Nat.le_succ _) _
        have x0 : X.heap[w.heap.size + 1]? = some (.cells #[.int .i64 0, .int .i64 0, .int .i64 x.1, .iface t v] 108 (0, 0)) := by rw [hX, heap_setCell_at (heap_setCell_at (heap_setCell_at (heap_setCell_at HU1.out _) _) _) _]; rfl
        have xb : X.heap[w.heap.size]? = some (boxO (ptrV mb) 113) := by
          rw [hX, Below.heap_setCell _ _ _ _ (by simp), Below.heap_setCell _ _ _ _ (by simp), Below.heap_setCell _ _ _ _ (by simp), Below.heap_setCell _ _ _ _ (by simp)]; exact HX1.out
        have xr := HR1.out.below hbf l HM.out.size
        rw [← hX]
        have xk := HK1.out.low hbf
        refine leaves_cons (f := 83) (args := #[ptrV w.heap.size]) (by simp) (by simp [go_sem]) ?_
        refine (takeEnd_d X .returning w.heap.size mb vr s _ _ xb xr.blk).mono ?_
        rintro e u' w'' ⟨rfl, rfl, hw⟩
        have hrb : w.heap.size + 1 ≠ mb := by omega
        have hf := xr.ended
        rw [← hw] at hf
        have hk : KpM [mb] w.heap.size w w'' := by rw [hw]; exact (xk.set (by simp) _).set (by simp) _
        refine ⟨_, results_row_tmp rfl _ _ (w.heap.size + 1) _ _ _ _ rfl (by rw [hw, Below.heap_setCell _ _ _ _ hrb, Below.heap_setCell _ _ _ _ hrb]; exact x0) Tryz.underlying108 rfl (by kernel_rfl), ?_⟩
        exact ⟨by rw [HUV.out]; rfl, hf, hk⟩
end Go.Proofs.YtiganlkabilblaaGreatDoor
namespace Go.Proofs.YtiganlkabilblaaGreatDoor
open Go.RowKit Thk
attribute [local go_sem ↓] Go.wp_at_zero Go.wp_at_succ
abbrev makO (mb : Nat) (nv : Value) (n : Nat) : Obj := .cells #[ptrV mb, nv, .int .i64 n] 224 (0, 0)
theorem rem_world {w : World} {kb mb n : Nat} {nv : Value} (h : w.heap[kb]? = some (makO mb nv n)) (a b c : Obj) :
    ((((w.alloc a).alloc b).alloc c).setCell ⟨kb, 2, none⟩ (.int .i64 ((n : Int) + 1))).drew.heap[w.heap.size]? = some a ∧ ((((w.alloc a).alloc b).alloc c).setCell ⟨kb, 2, none⟩ (.int .i64 ((n : Int) + 1))).drew.heap[w.heap.size + 1]? = some b ∧ ((((w.alloc a).alloc b).alloc c).setCell ⟨kb, 2, none⟩ (.int .i64 ((n : Int) + 1))).drew.heap[w.heap.size + 1 + 1]? = some c ∧
    ((((w.alloc a).alloc b).alloc c).setCell ⟨kb, 2, none⟩ (.int .i64 ((n : Int) + 1))).drew.heap[kb]? = some (makO mb nv (n + 1)) ∧ KpM [kb] w.heap.size w ((((w.alloc a).alloc b).alloc c).setCell ⟨kb, 2, none⟩ (.int .i64 ((n : Int) + 1))).drew := by
  have hl := heap_lt h
  have hk : (((w.alloc a).alloc b).alloc c).heap[kb]? = some (makO mb nv n) := by rw [(below_alloc3 w a b c).block _ hl]; exact h
  refine ⟨?_, ?_, ?_, ?_, ?_⟩
  · show (World.setCell _ _ _).heap[w.heap.size]? = _
    rw [Below.heap_setCell _ _ _ _ (by simp; omega)]; exact alloc3_0 w a b c
  · show (World.setCell _ _ _).heap[w.heap.size + 1]? = _
    rw [Below.heap_setCell _ _ _ _ (by simp; omega)]; exact alloc3_1 w a b c
  · show (World.setCell _ _ _).heap[w.heap.size + 1 + 1]? = _
    rw [Below.heap_setCell _ _ _ _ (by simp; omega)]; exact alloc3_2 w a b c
  · show (World.setCell _ _ _).heap[kb]? = _
    rw [heap_setCell_at hk]; rfl
  · have hb := below_alloc3 w a b c
    refine ⟨rfl, rfl, rfl, ?_, fun k hk hn => ?_⟩
    · show w.heap.size ≤ (World.setCell _ _ _).heap.size
      simp [World.setCell]; omega
    · show (World.setCell _ _ _).heap[k]? = _
      rw [Below.heap_setCell _ _ _ _ (by simpa using hn), hb.block _ hk]
set_option maxHeartbeats 8000000 in
set_option maxRecDepth 100000 in
/-- An expression is given its number. -/
theorem remembered_any (w : World) (kb mb n : Nat) (nv : Value) (g : Nat) (caps : Array Value) (hn : n ≤ 100000000) (h : w.heap[kb]? = some (makO mb nv n)) :
    Calls Tryz.prog 150 #[ptrV kb, .func (.func g) #[] caps] w fun e w' => ∃ x : Nat × Nat × Nat, e = .returned (cloV x) ∧ w'.heap[x.1]? = some (boxO (ptrV mb) 113) ∧ w'.heap[x.2.1]? = some (boxO (.int .i64 n) 3) ∧ w'.heap[x.2.2]? = some (boxO (.func (.func g) #[] caps) 226) ∧ w'.heap[kb]? = some (makO mb nv (n + 1)) ∧ KpM [kb] w.heap.size w w' ∧ w.heap.size ≤ x.1 ∧ w.heap.size ≤ x.2.1 ∧ w.heap.size ≤ x.2.2 := by
  have q := cell_of_block h
  have fz := frozen_of_block h
  have l := heap_lt' h
  have H := hideP h
  have hmf : ∀ (fn : Fn) (first cap : Array Value) (w : World), (Instr.makeFunc fn first cap).run Tryz.prog w = .ok (.func fn first cap) w := fun _ _ _ _ => rfl
  have hb3 : ∀ a b c, (((w.alloc a).alloc b).alloc c).heap[kb]? = some (makO mb nv n) := fun a b c => by rw [(below_alloc3 w a b c).block _ (heap_lt h)]; exact h
  have c1 : ∀ a b c, (((w.alloc a).alloc b).alloc c).cell? ⟨kb, 0, none⟩ = some (ptrV mb) := fun a b c => cell_of_block (hb3 a b c) 0
  have c2 : ∀ a b c, (((w.alloc a).alloc b).alloc c).cell? ⟨kb, 2, none⟩ = some (.int .i64 n) := fun a b c => cell_of_block (hb3 a b c) 2
  have g2 : ∀ a b c, (((w.alloc a).alloc b).alloc c).frozen? ⟨kb, 2, none⟩ = false := fun a b c => frozen_of_block (hb3 a b c) 2
  clear h hb3
  go_enter Tryz.func150, Tryz.ntmps150
  go_wp2_with fail
  go_region
  all_goals go_wp2_with fail
  · go_ret
    have hw := rem_world H.out (boxO (.func (.func g) #[] caps) 226) (boxO (ptrV mb) 113) (boxO (.int .i64 n) 3)
    exact ⟨(w.heap.size + 1, w.heap.size + 1 + 1, w.heap.size), rfl, hw.2.1, hw.2.2.1, hw.1, hw.2.2.2.1, hw.2.2.2.2, by show _ ≤ _ + 1; omega, by show _ ≤ _ + 1 + 1; omega, Nat.le_refl _⟩
  · go_ret
    have hw := rem_world H.out (boxO (.func (.func g) #[] caps) 226) (boxO (.int .i64 n) 3) (boxO (ptrV mb) 113)
    exact ⟨(w.heap.size + 1 + 1, w.heap.size + 1, w.heap.size), rfl, hw.2.2.1, hw.2.1, hw.1, hw.2.2.2.1, hw.2.2.2.2, by show _ ≤ _ + 1 + 1; omega, by show _ ≤ _ + 1; omega, Nat.le_refl _⟩
end Go.Proofs.YtiganlkabilblaaGreatDoor
namespace Go.Proofs.YtiganlkabilblaaGreatDoor
open Go.RowKit Thk
/-- The expressions that it is made of have been made. -/
def refs (m : Nat) : Nd → Prop
  | .choice ks => ∀ k ∈ ks, k < m
  | .seq ks => ∀ k ∈ ks, k < m
  | .ahead k _ => k < m
  | .maybe k => k < m
  | .plus k => k < m
  | _ => True
theorem refs_mono {m m' : Nat} (h : m ≤ m') : ∀ {d : Nd}, refs m d → refs m' d
  | .choice _, hr => fun k hk => Nat.lt_of_lt_of_le (hr k hk) h
  | .seq _, hr => fun k hk => Nat.lt_of_lt_of_le (hr k hk) h
  | .ahead _ _, hr => Nat.lt_of_lt_of_le hr h
  | .maybe _, hr => Nat.lt_of_lt_of_le hr h
  | .plus _, hr => Nat.lt_of_lt_of_le hr h
  | .name _, _ => trivial
  | .lit _, _ => trivial
  | .cls _, _ => trivial
  | .any, _ => trivial
theorem clV_app {bx : List (Nat × Nat × Nat)} {k : Nat} (h : k < bx.length) (y : List (Nat × Nat × Nat)) : clV (bx ++ y) k = clV bx k := by
  unfold clV
  rw [List.getD_eq_getElem?_getD, List.getD_eq_getElem?_getD, List.getElem?_append_left h]
/-- The functions that have been made, in memory. -/
def Clo (w : World) (mb : Nat) (N : List Nd) (bx : List (Nat × Nat × Nat)) : Prop := ∀ n d, N[n]? = some d → refs N.length d ∧ ∃ iv, w.heap[(bx.getD n (0, 0, 0)).1]? = some (boxO (ptrV mb) 113) ∧ w.heap[(bx.getD n (0, 0, 0)).2.1]? = some (boxO (.int .i64 n) 3) ∧ w.heap[(bx.getD n (0, 0, 0)).2.2]? = some (boxO iv 226) ∧ Inn w mb bx n iv d
/-- A maker at work; what it has made lies in some blocks. -/
structure Mk (w : World) (kb mb nb : Nat) (N : List Nd) (bx : List (Nat × Nat × Nat)) (S : Nat → Prop) : Prop where
  blk : w.heap[kb]? = some (makO mb (.map (some nb)) N.length)
  mlt : mb < w.heap.size
  len : bx.length = N.length
  nk : ¬ S kb
  lt : ∀ g, S g → g < w.heap.size
  clo : ∀ w' : World, w.heap.size ≤ w'.heap.size → (∀ g, S g → w'.heap[g]? = w.heap[g]?) → Clo w' mb N bx
/-- A world in which what was there is there, but the maker. -/
structure Up (kb : Nat) (w w' : World) : Prop where
  size : w.heap.size ≤ w'.heap.size
  old : ∀ b, b < w.heap.size → b ≠ kb → w'.heap[b]? = w.heap[b]?
theorem Up.of_kpM {kb : Nat} {w w' : World} (h : KpM [kb] w.heap.size w w') : Up kb w w' := ⟨h.size, fun b hb hn => h.block b hb (by simpa using hn)⟩
theorem Up.of_below {kb : Nat} {w w' : World} (h : Below w.heap.size w w') : Up kb w w' := ⟨h.size, fun b hb _ => h.block b hb⟩
theorem Up.box {kb mb nb n : Nat} {w w' : World} (u : Up kb w w') (hk : w.heap[kb]? = some (makO mb (.map (some nb)) n)) {b : Nat} {v : Value} {t : TypeId} (h : w.heap[b]? = some (boxO v t)) : w'.heap[b]? = some (boxO v t) := by
  rw [u.old b (heap_lt h) (by rintro rfl; rw [hk] at h; simp at h)]; exact h
theorem RowC.app {w : World} {mb : Nat} {bx : List (Nat × Nat × Nat)} {ks : List Nat} {a : Option Addr} (h : RowC w mb bx ks a) (hr : ∀ k ∈ ks, k < bx.length) (y : List (Nat × Nat × Nat)) : RowC w mb (bx ++ y) ks a := by
  intro j hj
  obtain ⟨g, h1, h2, h3, h4⟩ := h j hj
  exact ⟨g, h1, h2, h3, by rw [clV_app (hr _ (List.getElem_mem hj))]; exact h4⟩
theorem Inn.app {mb : Nat} {w : World} {bx : List (Nat × Nat × Nat)} {n : Nat} {iv : Value} {d : Nd} (h : Inn w mb bx n iv d) (hr : refs bx.length d) (hn : n < bx.length) (y : List (Nat × Nat × Nat)) : Inn w mb (bx ++ y) n iv d := by
  cases d with
  | choice ks =>
    obtain ⟨bs, a, c, h1, h2, h3, h4⟩ := h
    exact ⟨bs, a, c, h1, h2, h3.app hr y, h4⟩
  | seq ks =>
    obtain ⟨bm, bs, a, c, h1, h2, h3, h4, h5⟩ := h
    exact ⟨bm, bs, a, c, h1, h2, h3, h4.app hr y, h5⟩
  | ahead k wd =>
    obtain ⟨bm, be, bw, h1, h2, h3, h4⟩ := h
    exact ⟨bm, be, bw, h1, h2, by rw [clV_app hr]; exact h3, h4⟩
  | maybe k =>
    obtain ⟨be, h1, h2⟩ := h
    exact ⟨be, h1, by rw [clV_app hr]; exact h2⟩
  | plus k =>
    obtain ⟨be, bp, h1, h2, h3⟩ := h
    exact ⟨be, bp, h1, by rw [clV_app hr]; exact h2, by rw [clV_app hn]; exact h3⟩
  | name i => exact h
  | lit b => exact h
  | cls l => exact h
  | any => exact h
theorem Clo.push {mb : Nat} {N : List Nd} {bx : List (Nat × Nat × Nat)} {w : World} (h : Clo w mb N bx) (hl : bx.length = N.length) {x : Nat × Nat × Nat} {iv : Value} {d : Nd} (hr : refs N.length d)
    (h1 : w.heap[x.1]? = some (boxO (ptrV mb) 113)) (h2 : w.heap[x.2.1]? = some (boxO (.int .i64 N.length) 3)) (h3 : w.heap[x.2.2]? = some (boxO iv 226)) (h4 : Inn w mb (bx ++ [x]) N.length iv d) : Clo w mb (N ++ [d]) (bx ++ [x]) := by
  intro n d' hn
  rw [List.length_append]
  by_cases hlt : n < N.length
  · rw [List.getElem?_append_left hlt] at hn
    obtain ⟨hr', iv', e1, e2, e3, e4⟩ := h n d' hn
    have hbl : n < bx.length := by rw [hl]; exact hlt
    have hg : (bx ++ [x]).getD n (0, 0, 0) = bx.getD n (0, 0, 0) := by
      rw [List.getD_eq_getElem?_getD, List.getD_eq_getElem?_getD, List.getElem?_append_left hbl]
    rw [hg]
    exact ⟨refs_mono (Nat.le_add_right _ _) hr', iv', e1, e2, e3, e4.app (by rw [hl]; exact hr') hbl [x]⟩
  · have hn2 := (List.getElem?_eq_some_iff.mp hn).1
    have he : n = N.length := by simp at hn2; omega
    subst he
    rw [List.getElem?_append_right (Nat.le_refl _), Nat.sub_self] at hn
    simp only [List.getElem?_cons_zero, Option.some.injEq] at hn
    subst hn
    have hg : (bx ++ [x]).getD N.length (0, 0, 0) = x := by
      rw [List.getD_eq_getElem?_getD, List.getElem?_append_right (by rw [hl]; exact Nat.le_refl _), hl, Nat.sub_self]; rfl
    rw [hg]
    exact ⟨refs_mono (Nat.le_add_right _ _) hr, iv, h1, h2, h3, h4⟩
theorem Mk.now {kb mb nb : Nat} {N : List Nd} {bx : List (Nat × Nat × Nat)} {S : Nat → Prop} {w : World} (h : Mk w kb mb nb N bx S) : Clo w mb N bx := h.clo w (Nat.le_refl _) (fun _ _ => rfl)
/-- The blocks that what has been made lies in are as they were. -/
theorem Mk.same {kb mb nb : Nat} {N : List Nd} {bx : List (Nat × Nat × Nat)} {S : Nat → Prop} {w w' : World} (h : Mk w kb mb nb N bx S) (hs : w.heap.size ≤ w'.heap.size) (hg : ∀ g, S g → w'.heap[g]? = w.heap[g]?) (hb : w'.heap[kb]? = w.heap[kb]?) : Mk w' kb mb nb N bx S :=
  ⟨by rw [hb]; exact h.blk, Nat.lt_of_lt_of_le h.mlt hs, h.len, h.nk, fun g x => Nat.lt_of_lt_of_le (h.lt g x) hs, fun w2 h2 h3 => h.clo w2 (Nat.le_trans hs h2) (fun g x => (h3 g x).trans (hg g x))⟩
theorem Mk.below {kb mb nb : Nat} {N : List Nd} {bx : List (Nat × Nat × Nat)} {S : Nat → Prop} {w w' : World} (h : Mk w kb mb nb N bx S) (hb : Below w.heap.size w w') : Mk w' kb mb nb N bx S :=
  h.same hb.size (fun g x => hb.block g (h.lt g x)) (hb.block _ (heap_lt h.blk))
/-- A block of spans. -/
def SpanB (w : World) (g : Nat) : Prop := ∃ cur, w.heap[g]? = some (.cells cur 313 (0, 0))
/-- Which blocks what has been made may lie in now. -/
def GrS (w : World) (S S' : Nat → Prop) : Prop := ∀ g, S' g → S g ∨ w.heap.size ≤ g ∨ SpanB w g
theorem SpanB.back {kb mb nb n g : Nat} {w w' : World} (hk : w.heap[kb]? = some (makO mb (.map (some nb)) n)) (hk' : ∃ m, w'.heap[kb]? = some (makO mb (.map (some nb)) m)) (u : Up kb w w') (h : SpanB w' g) : w.heap.size ≤ g ∨ SpanB w g := by
  rcases Nat.lt_or_ge g w.heap.size with hl | hl
  · obtain ⟨cur, hc⟩ := h
    obtain ⟨m, hk'⟩ := hk'
    refine .inr ⟨cur, ?_⟩
    rw [← u.old g hl (by rintro rfl; rw [hk'] at hc; simp at hc)]; exact hc
  · exact .inl hl
theorem GrS.refl (w : World) (S : Nat → Prop) : GrS w S S := fun _ h => .inl h
theorem GrS.trans {kb mb nb n : Nat} {w w' : World} {S S1 S2 : Nat → Prop} (h1 : GrS w S S1) (h2 : GrS w' S1 S2) (hk : w.heap[kb]? = some (makO mb (.map (some nb)) n)) (hk' : ∃ m, w'.heap[kb]? = some (makO mb (.map (some nb)) m)) (u : Up kb w w') : GrS w S S2 := fun g hg => by
  rcases h2 g hg with h | h | h
  · exact h1 g h
  · exact .inr (.inl (Nat.le_trans u.size h))
  · exact .inr (h.back hk hk' u)
theorem GrS.below {w w' : World} {S S1 S2 : Nat → Prop} (h1 : GrS w S S1) (h2 : GrS w' S1 S2) (hb : Below w.heap.size w w') : GrS w S S2 := fun g hg => by
  rcases h2 g hg with h | h | ⟨cur, hc⟩
  · exact h1 g h
  · exact .inr (.inl (Nat.le_trans hb.size h))
  · rcases Nat.lt_or_ge g w.heap.size with hl | hl
    · exact .inr (.inr ⟨cur, by rw [← hb.block g hl]; exact hc⟩)
    · exact .inr (.inl hl)
end Go.Proofs.YtiganlkabilblaaGreatDoor
namespace Go.Proofs.YtiganlkabilblaaGreatDoor
open Go.RowKit Thk
attribute [local go_sem ↓] Go.wp_at_zero Go.wp_at_succ
/-- One more has been made. -/
abbrev Made1 (kb mb nb : Nat) (N : List Nd) (bx : List (Nat × Nat × Nat)) (S : Nat → Prop) (d : Nd) (w : World) : Ending → World → Prop := fun e w' => ∃ x S', e = .returned (cloV x) ∧ Mk w' kb mb nb (N ++ [d]) (bx ++ [x]) S' ∧ KpM [kb] w.heap.size w w' ∧ GrS w S S'
theorem clV_last {bx : List (Nat × Nat × Nat)} {N : List Nd} (h : bx.length = N.length) (x : Nat × Nat × Nat) : clV (bx ++ [x]) N.length = cloV x := by
  unfold clV
  rw [List.getD_eq_getElem?_getD, List.getElem?_append_right (by rw [h]; exact Nat.le_refl _), h, Nat.sub_self]; rfl
theorem made0 {kb mb nb : Nat} {N : List Nd} {bx : List (Nat × Nat × Nat)} {S : Nat → Prop} {W : World} (h : Mk W kb mb nb N bx S) (hN : N.length ≤ 100000000) (g : Nat) (caps : Array Value) {d : Nd} (hr : refs N.length d) (E : Nat → Prop) (hE : ∀ b, E b → b < W.heap.size ∧ b ≠ kb)
    (hI : ∀ (x : Nat × Nat × Nat) (w' : World), W.heap.size ≤ w'.heap.size → (∀ b, E b → w'.heap[b]? = W.heap[b]?) → Inn w' mb (bx ++ [x]) N.length (.func (.func g) #[] caps) d) :
    Calls Tryz.prog 150 #[ptrV kb, .func (.func g) #[] caps] W fun e w' => ∃ x S', e = .returned (cloV x) ∧ Mk w' kb mb nb (N ++ [d]) (bx ++ [x]) S' ∧ KpM [kb] W.heap.size W w' ∧ ∀ b, S' b → S b ∨ E b ∨ W.heap.size ≤ b := by
  refine (remembered_any W kb mb N.length (.map (some nb)) g caps hN h.blk).mono ?_
  rintro e w' ⟨x, h1, h2, h3, h4, h5, h6, l1, l2, l3⟩
  have hU := Up.of_kpM h6
  have hsz := hU.size
  refine ⟨x, fun b => S b ∨ E b ∨ (W.heap.size ≤ b ∧ b < w'.heap.size), h1, ⟨by rw [List.length_append]; exact h5, Nat.lt_of_lt_of_le h.mlt hsz, by simp [h.len], ?_, ?_, ?_⟩, h6, ?_⟩
  · rintro (h' | h' | h')
    · exact h.nk h'
    · exact (hE _ h').2 rfl
    · have := heap_lt h.blk; omega
  · rintro b (h' | h' | h')
    · have := h.lt b h'; omega
    · have := (hE b h').1; omega
    · exact h'.2
  · intro w2 hs hg
    have hc := h.clo w2 (Nat.le_trans hsz hs) (fun b hb => (hg b (.inl hb)).trans (hU.old b (h.lt b hb) (fun e => h.nk (e ▸ hb))))
    exact hc.push h.len hr ((hg _ (.inr (.inr ⟨l1, heap_lt h2⟩))).trans h2) ((hg _ (.inr (.inr ⟨l2, heap_lt h3⟩))).trans h3) ((hg _ (.inr (.inr ⟨l3, heap_lt h4⟩))).trans h4)
      (hI x w2 (Nat.le_trans hsz hs) (fun b hb => (hg b (.inr (.inl hb))).trans (hU.old b (hE b hb).1 (hE b hb).2)))
  · rintro b (h' | h' | h')
    · exact .inl h'
    · exact .inr (.inl h')
    · exact .inr (.inr h'.1)
theorem made1 {kb mb nb : Nat} {N : List Nd} {bx : List (Nat × Nat × Nat)} {S : Nat → Prop} {w : World} (h : Mk w kb mb nb N bx S) (hN : N.length ≤ 100000000) {W : World} (hB : Below w.heap.size w W) (g : Nat) (caps : Array Value) {d : Nd} (hr : refs N.length d)
    (hI : ∀ (x : Nat × Nat × Nat) (w' : World), (∀ (b : Nat) (v : Value) (t : TypeId), w.heap.size ≤ b → W.heap[b]? = some (boxO v t) → w'.heap[b]? = some (boxO v t)) → (∀ b, SpanB w b → w'.heap[b]? = w.heap[b]?) → Inn w' mb (bx ++ [x]) N.length (.func (.func g) #[] caps) d) :
    Calls Tryz.prog 150 #[ptrV kb, .func (.func g) #[] caps] W (Made1 kb mb nb N bx S d w) := by
  have hsz := hB.size
  have hlt : ∀ b, SpanB w b → b < w.heap.size := fun b ⟨cur, hc⟩ => heap_lt hc
  refine (made0 (h.below hB) hN g caps hr (fun b => (w.heap.size ≤ b ∧ b < W.heap.size) ∨ SpanB w b) ?_ ?_).mono ?_
  · rintro b (h' | h')
    · exact ⟨h'.2, by have := heap_lt h.blk; omega⟩
    · refine ⟨by have := hlt b h'; omega, ?_⟩
      rintro rfl
      obtain ⟨cur, hc⟩ := h'
      rw [h.blk] at hc
      simp at hc
  · intro x w' hs hg
    exact hI x w' (fun b v t hb hh => (hg b (.inl ⟨hb, heap_lt hh⟩)).trans hh) (fun b hb => (hg b (.inr hb)).trans (hB.block b (hlt b hb)))
  · rintro e w' ⟨x, S', h1, h2, h3, h4⟩
    refine ⟨x, S', h1, h2, (KpM.of_below hB).trans (h3.mono hsz), fun b hb => ?_⟩
    rcases h4 b hb with h' | (h' | h') | h'
    · exact .inl h'
    · exact .inr (.inl h'.1)
    · exact .inr (.inr h')
    · exact .inr (.inl (Nat.le_trans hsz h'))
set_option maxHeartbeats 4000000 in
theorem maybe_any {kb mb nb : Nat} {N : List Nd} {bx : List (Nat × Nat × Nat)} {S : Nat → Prop} {w : World} (h : Mk w kb mb nb N bx S) (hN : N.length ≤ 100000000) (j : Nat) (hj : j < N.length) :
    Calls Tryz.prog 200 #[ptrV kb, clV bx j] w (Made1 kb mb nb N bx S (.maybe j) w) := by
  have hjb : j < bx.length := by rw [h.len]; exact hj
  have HM := hideP (made1 h hN (below_alloc w (boxO (clV bx j) 226)) 212 #[ptrV w.heap.size] (d := .maybe j) hj (fun x w' hb _ => ⟨w.heap.size, rfl, by rw [clV_app hjb]; exact hb _ _ _ (Nat.le_refl _) (heap_alloc_same w _)⟩))
  have hmf : ∀ (fn : Fn) (first cap : Array Value) (w : World), (Instr.makeFunc fn first cap).run Tryz.prog w = .ok (.func fn first cap) w := fun _ _ _ _ => rfl
  clear h
  simp only [clV, cloV] at HM ⊢
  generalize (bx.getD j (0, 0, 0)).1 = x1 at *
  generalize (bx.getD j (0, 0, 0)).2.1 = x2 at *
  generalize (bx.getD j (0, 0, 0)).2.2 = x3 at *
  go_enter Tryz.func200, Tryz.ntmps200
  go_wp2_with fail
  refine HM.out.mono ?_
  rintro _ w1 ⟨x, S1, rfl, h1, h2, h3⟩
  go_wp2_with fail
  go_ret
  exact ⟨x, S1, rfl, h1, h2, h3⟩
set_option maxHeartbeats 4000000 in
theorem aheadOf_any {kb mb nb : Nat} {N : List Nd} {bx : List (Nat × Nat × Nat)} {S : Nat → Prop} {w : World} (h : Mk w kb mb nb N bx S) (hN : N.length ≤ 100000000) (j : Nat) (hj : j < N.length) (wd : Bool) :
    Calls Tryz.prog 191 #[ptrV kb, clV bx j, .bool wd] w (Made1 kb mb nb N bx S (.ahead j wd) w) := by
  have hjb : j < bx.length := by rw [h.len]; exact hj
  have q := cell_of_block h.blk
  have l := heap_lt' h.blk
  have HM := hideP (made1 h hN (below_alloc3 w (boxO (clV bx j) 226) (boxO (.bool wd) 4) (boxO (ptrV mb) 113)) 202 #[ptrV (w.heap.size + 1 + 1), ptrV w.heap.size, ptrV (w.heap.size + 1)] (d := .ahead j wd) hj (fun x w' hb _ => ⟨w.heap.size + 1 + 1, w.heap.size, w.heap.size + 1, rfl, hb _ _ _ (by omega) (alloc3_2 w _ _ _), by rw [clV_app hjb]; exact hb _ _ _ (Nat.le_refl _) (alloc3_0 w _ _ _), hb _ _ _ (by omega) (alloc3_1 w _ _ _)⟩))
  have hmf : ∀ (fn : Fn) (first cap : Array Value) (w : World), (Instr.makeFunc fn first cap).run Tryz.prog w = .ok (.func fn first cap) w := fun _ _ _ _ => rfl
  clear h
  simp only [clV, cloV] at HM ⊢
  generalize (bx.getD j (0, 0, 0)).1 = x1 at *
  generalize (bx.getD j (0, 0, 0)).2.1 = x2 at *
  generalize (bx.getD j (0, 0, 0)).2.2 = x3 at *
  go_enter Tryz.func191, Tryz.ntmps191
  go_wp2_with fail
  refine HM.out.mono ?_
  rintro _ w1 ⟨x, S1, rfl, h1, h2, h3⟩
  go_wp2_with fail
  go_ret
  exact ⟨x, S1, rfl, h1, h2, h3⟩
set_option maxHeartbeats 4000000 in
theorem literal_any {kb mb nb : Nat} {N : List Nd} {bx : List (Nat × Nat × Nat)} {S : Nat → Prop} {w : World} (h : Mk w kb mb nb N bx S) (hN : N.length ≤ 100000000) (b : Bytes) (hb : b.length ≤ 20) :
    Calls Tryz.prog 208 #[ptrV kb, .string ⟨b.toArray⟩] w (Made1 kb mb nb N bx S (.lit b) w) := by
  have q := cell_of_block h.blk
  have l := heap_lt' h.blk
  have HM := hideP (made1 h hN (below_alloc2 w (boxO (.string ⟨b.toArray⟩) 9) (boxO (ptrV mb) 113)) 216 #[ptrV (w.heap.size + 1), ptrV w.heap.size] (d := .lit b) trivial (fun x w' hh _ => ⟨w.heap.size + 1, w.heap.size, rfl, hh _ _ _ (by omega) (by have := heap_alloc_same (w.alloc (boxO (.string ⟨b.toArray⟩) 9)) (boxO (ptrV mb) 113); simpa using this), hh _ _ _ (Nat.le_refl _) (by rw [heap_alloc_old _ _ (by simp)]; exact heap_alloc_same w _), hb⟩))
  have hmf : ∀ (fn : Fn) (first cap : Array Value) (w : World), (Instr.makeFunc fn first cap).run Tryz.prog w = .ok (.func fn first cap) w := fun _ _ _ _ => rfl
  clear h
  go_enter Tryz.func208, Tryz.ntmps208
  go_wp2_with fail
  refine HM.out.mono ?_
  rintro _ w1 ⟨x, S1, rfl, h1, h2, h3⟩
  go_wp2_with fail
  go_ret
  exact ⟨x, S1, rfl, h1, h2, h3⟩
set_option maxHeartbeats 4000000 in
theorem singleAny_any {kb mb nb : Nat} {N : List Nd} {bx : List (Nat × Nat × Nat)} {S : Nat → Prop} {w : World} (h : Mk w kb mb nb N bx S) (hN : N.length ≤ 100000000) :
    Calls Tryz.prog 210 #[ptrV kb, .func (.func 211) #[] #[]] w (Made1 kb mb nb N bx S .any w) := by
  have q := cell_of_block h.blk
  have l := heap_lt' h.blk
  have HM := hideP (made1 h hN (below_alloc2 w (boxO (.func (.func 211) #[] #[]) 287) (boxO (ptrV mb) 113)) 220 #[ptrV (w.heap.size + 1), ptrV w.heap.size] (d := .any) trivial (fun x w' hh _ => ⟨w.heap.size + 1, w.heap.size, rfl, hh _ _ _ (by omega) (by have := heap_alloc_same (w.alloc (boxO (.func (.func 211) #[] #[]) 287)) (boxO (ptrV mb) 113); simpa using this), hh _ _ _ (Nat.le_refl _) (by rw [heap_alloc_old _ _ (by simp)]; exact heap_alloc_same w _)⟩))
  have hmf : ∀ (fn : Fn) (first cap : Array Value) (w : World), (Instr.makeFunc fn first cap).run Tryz.prog w = .ok (.func fn first cap) w := fun _ _ _ _ => rfl
  clear h
  go_enter Tryz.func210, Tryz.ntmps210
  go_wp2_with fail
  refine HM.out.mono ?_
  rintro _ w1 ⟨x, S1, rfl, h1, h2, h3⟩
  go_wp2_with fail
  go_ret
  exact ⟨x, S1, rfl, h1, h2, h3⟩
set_option maxHeartbeats 4000000 in
theorem singleCls_any {kb mb nb : Nat} {N : List Nd} {bx : List (Nat × Nat × Nat)} {S : Nat → Prop} {w w0 : World} (h : Mk w0 kb mb nb N bx S) (hB : Below w0.heap.size w0 w) (hN : N.length ≤ 100000000) (bs : Nat) (u : Value) (l : List Span) (hbs : w.heap[bs]? = some (boxO u 235)) (hle : w0.heap.size ≤ bs) (hs : Spans w0 0 u l) (hl : l.length ≤ 20) (hkb : w.heap[kb]? = some (makO mb (.map (some nb)) N.length)) :
    Calls Tryz.prog 210 #[ptrV kb, .func (.func 217) #[] #[ptrV bs]] w (Made1 kb mb nb N bx S (.cls l) w0) := by
  have q := cell_of_block hkb
  have lk := heap_lt' hkb
  have hne : bs < w.heap.size := heap_lt hbs
  have hsz := hB.size
  have HM := hideP (made1 h hN (W := (w.alloc (boxO (.func (.func 217) #[] #[ptrV bs]) 287)).alloc (boxO (ptrV mb) 113)) (hB.trans ((below_alloc2 w _ _).mono hB.size)) 220 #[ptrV (w.heap.size + 1), ptrV w.heap.size] (d := .cls l) trivial (fun x w' hh hu => ⟨w.heap.size + 1, w.heap.size, bs, u, rfl, hh _ _ _ (by omega) (by have := heap_alloc_same (w.alloc (boxO (.func (.func 217) #[] #[ptrV bs]) 287)) (boxO (ptrV mb) 113); simpa using this), hh _ _ _ (by omega) (by rw [heap_alloc_old _ _ (by simp)]; exact heap_alloc_same w _), hh _ _ _ hle (by rw [(below_alloc2 w _ _).block _ hne]; exact hbs), own_blocks hs (fun g hg => hu g (own_block_type hs hg)), hl⟩))
  have hmf : ∀ (fn : Fn) (first cap : Array Value) (w : World), (Instr.makeFunc fn first cap).run Tryz.prog w = .ok (.func fn first cap) w := fun _ _ _ _ => rfl
  clear h hB hs hbs hkb hle hsz
  go_enter Tryz.func210, Tryz.ntmps210
  go_wp2_with fail
  refine HM.out.mono ?_
  rintro _ w1 ⟨x, S1, rfl, h1, h2, h3⟩
  go_wp2_with fail
  go_ret
  exact ⟨x, S1, rfl, h1, h2, h3⟩
set_option maxHeartbeats 4000000 in
theorem classOf_any {kb mb nb : Nat} {N : List Nd} {bx : List (Nat × Nat × Nat)} {S : Nat → Prop} {w : World} (h : Mk w kb mb nb N bx S) (hN : N.length ≤ 100000000) (u : Value) (l : List Span) (hs : Spans w 0 u l) (hl : l.length ≤ 20) :
    Calls Tryz.prog 209 #[ptrV kb, u] w (Made1 kb mb nb N bx S (.cls l) w) := by
  have HM := hideP (singleCls_any h (below_alloc w (boxO u 235)) hN w.heap.size u l (heap_alloc_same w _) (Nat.le_refl _) hs hl (by rw [heap_alloc_old _ _ (heap_lt h.blk)]; exact h.blk))
  have hmf : ∀ (fn : Fn) (first cap : Array Value) (w : World), (Instr.makeFunc fn first cap).run Tryz.prog w = .ok (.func fn first cap) w := fun _ _ _ _ => rfl
  obtain ⟨ua, uc, rfl⟩ := own_form hs
  clear h hs
  go_enter Tryz.func209, Tryz.ntmps209
  go_wp2_with fail
  refine HM.out.mono ?_
  rintro _ w1 ⟨x, S1, rfl, h1, h2, h3⟩
  go_wp2_with fail
  go_ret
  exact ⟨x, S1, rfl, h1, h2, h3⟩
end Go.Proofs.YtiganlkabilblaaGreatDoor
namespace Go.Proofs.YtiganlkabilblaaGreatDoor
open Go.RowKit Thk
attribute [local go_sem ↓] Go.wp_at_zero Go.wp_at_succ
set_option maxHeartbeats 4000000 in
theorem plusOf_any {kb mb nb : Nat} {N : List Nd} {bx : List (Nat × Nat × Nat)} {S : Nat → Prop} {w : World} (h : Mk w kb mb nb N bx S) (hN : N.length ≤ 100000000) (j : Nat) (hj : j < N.length) :
    Calls Tryz.prog 201 #[ptrV kb, clV bx j] w (Made1 kb mb nb N bx S (.plus j) w) := by
  have hjb : j < bx.length := by rw [h.len]; exact hj
  have l := heap_lt' h.blk
  obtain ⟨W, hW⟩ : ∃ W, W = (w.alloc (boxO (clV bx j) 226)).alloc (boxO .nilFunc 226) := ⟨_, rfl⟩
  have hB : Below w.heap.size w W := by rw [hW]; exact below_alloc2 _ _ _
  have hk : W.heap[kb]? = some (makO mb (.map (some nb)) N.length) := by rw [hB.block _ (heap_lt h.blk)]; exact h.blk
  have w0 : W.heap[w.heap.size]? = some (boxO (clV bx j) 226) := by rw [hW, heap_alloc_old _ _ (by simp)]; exact heap_alloc_same _ _
  have w1 : W.heap[w.heap.size + 1]? = some (boxO .nilFunc 226) := by
    rw [hW]
    have := heap_alloc_same (w.alloc (boxO (clV bx j) 226)) (boxO .nilFunc 226)
    simpa using this
  have HR := hideP (remembered_any W kb mb N.length (.map (some nb)) 213 #[ptrV w.heap.size, ptrV (w.heap.size + 1)] hN hk)
  have hmf : ∀ (fn : Fn) (first cap : Array Value) (w : World), (Instr.makeFunc fn first cap).run Tryz.prog w = .ok (.func fn first cap) w := fun _ _ _ _ => rfl
  have hsf : ∀ (a : Addr) (fn : Fn) (x c : Array Value) (W : World), (store a (.func fn x c)).run Tryz.prog W = stored Tryz.prog W a (.func fn x c) .plain := fun a fn x c W => run_store Tryz.prog W a _ _ rfl
  have HM := hideP h
  have HB := hideP hB
  have HK := hideP hk
  have H0 := hideP w0
  have H1 := hideP w1
  have HW := hideP hW
  have hcl : clV bx j = cloV (bx.getD j (0, 0, 0)) := rfl
  have HCL := hideP hcl
  rw [hcl]
  clear h hB hk w0 w1 hW hcl
  generalize hx : bx.getD j (0, 0, 0) = xx at *
  clear hx
  have hW := HW.out
  rw [HCL.out] at hW
  go_enter Tryz.func201, Tryz.ntmps201
  go_wp2_with fail
  rw [← hW]
  clear hW
  refine HR.out.mono ?_
  rintro _ w2 ⟨x, rfl, h2, h3, h4, h5, h6, i1, i2, i3⟩
  have hU := Up.of_kpM h6
  have y0 := hU.box HK.out H0.out
  have y1 := hU.box HK.out H1.out
  have z1 := cell_of_block y1
  have f1 := frozen_of_block y1
  have l1 := heap_lt' y1
  have HY0 := hideP y0
  have HY1 := hideP y1
  have H2 := hideP h2
  have H3 := hideP h3
  have H4 := hideP h4
  have H5 := hideP h5
  have H6 := hideP h6
  have HI := hideP (And.intro i1 (And.intro i2 i3))
  clear h2 h3 h4 h5 h6 hU y0 y1 i1 i2 i3
  simp only [cloV]
  go_wp2_with fail
  go_ret
  have n1 : x.1 ≠ w.heap.size + 1 := fun e => by have := H2.out; rw [e, HY1.out] at this; simp at this
  have n2 : x.2.1 ≠ w.heap.size + 1 := fun e => by have := H3.out; rw [e, HY1.out] at this; simp at this
  have n3 : x.2.2 ≠ w.heap.size + 1 := fun e => by have := H4.out; rw [e, HY1.out] at this; simp at this
  have nk : kb ≠ w.heap.size + 1 := by omega
  have hK : KpM [kb] w.heap.size w (w2.setCell ⟨w.heap.size + 1, 0, none⟩ (cloV x)) := ((KpM.of_below HB.out).trans (H6.out.mono HB.out.size)).low ((Below.refl _ _).setCell (p := ⟨w.heap.size + 1, 0, none⟩) (Nat.le_succ _) _)
  obtain ⟨w3, hw3⟩ : ∃ w3, w3 = w2.setCell ⟨w.heap.size + 1, 0, none⟩ (cloV x) := ⟨_, rfl⟩
  have k5 : w3.heap[kb]? = some (makO mb (.map (some nb)) (N.length + 1)) := by rw [hw3, Below.heap_setCell _ _ _ _ nk]; exact H5.out
  have k2 : w3.heap[x.1]? = some (boxO (ptrV mb) 113) := by rw [hw3, Below.heap_setCell _ _ _ _ n1]; exact H2.out
  have k3 : w3.heap[x.2.1]? = some (boxO (.int .i64 N.length) 3) := by rw [hw3, Below.heap_setCell _ _ _ _ n2]; exact H3.out
  have k4 : w3.heap[x.2.2]? = some (boxO (.func (.func 213) #[] #[ptrV w.heap.size, ptrV (w.heap.size + 1)]) 226) := by rw [hw3, Below.heap_setCell _ _ _ _ n3]; exact H4.out
  have k0 : w3.heap[w.heap.size]? = some (boxO (clV bx j) 226) := by rw [hw3, Below.heap_setCell _ _ _ _ (by simp)]; exact HY0.out
  have k1 : w3.heap[w.heap.size + 1]? = some (boxO (cloV x) 226) := by rw [hw3, heap_setCell_at HY1.out]; rfl
  rw [← hw3] at hK ⊢
  have hU := Up.of_kpM hK
  have hsz := hU.size
  have hBs := HB.out.size
  have hml := HM.out.mlt
  have hkl := heap_lt HM.out.blk
  obtain ⟨i1, i2, i3⟩ := HI.out
  refine ⟨x, fun b => S b ∨ (w.heap.size ≤ b ∧ b < w3.heap.size), rfl, ⟨by rw [List.length_append]; exact k5, by omega, by simp [HM.out.len], ?_, ?_, ?_⟩, hK, ?_⟩
  · rintro (h' | h')
    · exact HM.out.nk h'
    · omega
  · rintro b (h' | h')
    · have := HM.out.lt b h'; omega
    · exact h'.2
  · intro w4 hs hg
    have hc := HM.out.clo w4 (Nat.le_trans hsz hs) (fun b hb => (hg b (.inl hb)).trans (hU.old b (HM.out.lt b hb) (fun e => HM.out.nk (e ▸ hb))))
    refine hc.push HM.out.len hj ((hg _ (.inr ⟨by omega, heap_lt k2⟩)).trans k2) ((hg _ (.inr ⟨by omega, heap_lt k3⟩)).trans k3) ((hg _ (.inr ⟨by omega, heap_lt k4⟩)).trans k4) ⟨w.heap.size, w.heap.size + 1, rfl, ?_, ?_⟩
    · rw [clV_app hjb]; exact (hg _ (.inr ⟨Nat.le_refl _, heap_lt k0⟩)).trans k0
    · rw [clV_last HM.out.len]; exact (hg _ (.inr ⟨Nat.le_succ _, heap_lt k1⟩)).trans k1
  · rintro b (h' | h')
    · exact .inl h'
    · exact .inr (.inl h'.1)
end Go.Proofs.YtiganlkabilblaaGreatDoor
namespace Go.Proofs.YtiganlkabilblaaGreatDoor
open Go.RowKit Thk
attribute [local go_sem ↓] Go.wp_at_zero Go.wp_at_succ
set_option maxHeartbeats 8000000 in
set_option maxRecDepth 100000 in
theorem nameOf_any {kb mb nb : Nat} {N : List Nd} {bx : List (Nat × Nat × Nat)} {S : Nat → Prop} {w : World} (h : Mk w kb mb nb N bx S) (hN : N.length ≤ 100000000) (names : List Bytes) (hnm : MapIs w nb names) (b : Bytes) (hb : b.length ≤ 2000) :
    Calls Tryz.prog 207 #[ptrV kb, .string ⟨b.toArray⟩] w (Made1 kb mb nb N bx S (.name (idx0 names b)) w) := by
  have q := cell_of_block h.blk
  have l := heap_lt' h.blk
  generalize hi : idx0 names b = i
  have HA := hideP (made1 h hN ((below_alloc2 w (boxO (ptrV mb) 113) (boxO (.int .i64 i) 3)).drew) 215 #[ptrV w.heap.size, ptrV (w.heap.size + 1)] (d := .name i) trivial (fun x w' hh _ => ⟨w.heap.size, w.heap.size + 1, rfl, hh _ _ _ (Nat.le_refl _) (by show (World.alloc _ _).heap[w.heap.size]? = _; rw [heap_alloc_old _ _ (by simp)]; exact heap_alloc_same w _), hh _ _ _ (by omega) (by have := heap_alloc_same (w.alloc (boxO (ptrV mb) 113)) (boxO (.int .i64 i) 3); show (World.alloc _ _).heap[w.heap.size + 1]? = _; simpa using this)⟩))
  have HB := hideP (made1 h hN ((below_alloc2 w (boxO (.int .i64 i) 3) (boxO (ptrV mb) 113)).drew) 215 #[ptrV (w.heap.size + 1), ptrV w.heap.size] (d := .name i) trivial (fun x w' hh _ => ⟨w.heap.size + 1, w.heap.size, rfl, hh _ _ _ (by omega) (by have := heap_alloc_same (w.alloc (boxO (.int .i64 i) 3)) (boxO (ptrV mb) 113); show (World.alloc _ _).heap[w.heap.size + 1]? = _; simpa using this), hh _ _ _ (Nat.le_refl _) (by show (World.alloc _ _).heap[w.heap.size]? = _; rw [heap_alloc_old _ _ (by simp)]; exact heap_alloc_same w _)⟩))
  have k1 := (hnm.below (Below.refl _ _).drew).look b hb
  have k3 := fun O => (hnm.below (below_alloc w O).drew).look b hb
  have k5 := fun O P => (hnm.below (below_alloc2 w O P).drew).look b hb
  rw [hi] at k1
  simp only [hi] at k3 k5
  have hmf : ∀ (fn : Fn) (first cap : Array Value) (w : World), (Instr.makeFunc fn first cap).run Tryz.prog w = .ok (.func fn first cap) w := fun _ _ _ _ => rfl
  clear h hnm hi
  go_enter Tryz.func207, Tryz.ntmps207
  go_wp2_with fail
  go_region
  all_goals go_wp2_with fail
  all_goals
    first | with_reducible refine HA.out.mono ?_ | with_reducible refine HB.out.mono ?_
    rintro _ w1 ⟨x, S1, rfl, h1, h2, h3⟩
    go_wp2_with fail
    go_ret
    exact ⟨x, S1, rfl, h1, h2, h3⟩
end Go.Proofs.YtiganlkabilblaaGreatDoor
namespace Thk
/-- What has been made goes on. -/
def Goes (N N' : List Nd) : Prop := ∀ (n : Nat) (d : Nd), N[n]? = some d → N'[n]? = some d
theorem Goes.refl (N : List Nd) : Goes N N := fun _ _ h => h
theorem Goes.trans {A B C : List Nd} (h1 : Goes A B) (h2 : Goes B C) : Goes A C := fun n d h => h2 n d (h1 n d h)
theorem Goes.app (N M : List Nd) : Goes N (N ++ M) := fun n d h => by
  rw [List.getElem?_append_left (List.getElem?_eq_some_iff.mp h).1]; exact h
mutual
theorem DnP.goes {N N' : List Nd} (g : Goes N N') {names : List Bytes} {n : Nat} : ∀ (p : Piece), DnP N names n p → DnP N' names n p
  | .name b, h => by simp only [DnP] at h ⊢; exact g _ _ h
  | .lit b, h => by simp only [DnP] at h ⊢; exact g _ _ h
  | .cls l, h => by simp only [DnP] at h ⊢; exact g _ _ h
  | .any, h => by simp only [DnP] at h ⊢; exact g _ _ h
  | .group c, h => by
    simp only [DnP] at h ⊢
    obtain ⟨ks, h1, h2⟩ := h
    exact ⟨ks, g _ _ h1, DnC.goes g c h2⟩
theorem DnT.goes {N N' : List Nd} (g : Goes N N') {names : List Bytes} {n : Nat} : ∀ (t : Term), DnT N names n t → DnT N' names n t
  | .mk a p b, h => by
    simp only [DnT] at h ⊢
    obtain ⟨i, h1, j, h2, h3⟩ := h
    refine ⟨i, ?_, j, ?_, DnP.goes g p h3⟩
    · split
      · rename_i ha; rw [if_pos ha] at h1; exact h1
      · rename_i ha; rw [if_neg ha] at h1; exact g _ _ h1
    · split
      · rename_i hb; rw [if_pos hb] at h2; exact h2
      · rename_i hb
        rw [if_neg hb] at h2
        split
        · rename_i hc; rw [if_pos hc] at h2; exact g _ _ h2
        · rename_i hc
          rw [if_neg hc] at h2
          split
          · rename_i hd; rw [if_pos hd] at h2; exact g _ _ h2
          · rename_i hd
            rw [if_neg hd] at h2
            obtain ⟨q, h4, h5⟩ := h2
            exact ⟨q, g _ _ h4, g _ _ h5⟩
theorem DnS.goes {N N' : List Nd} (g : Goes N N') {names : List Bytes} {ks : List Nat} : ∀ (s : List Term), DnS N names ks s → DnS N' names ks s
  | [], h => by simp only [DnS] at h ⊢; exact h
  | t :: s, h => by
    simp only [DnS] at h ⊢
    obtain ⟨k, ks', h1, h2, h3⟩ := h
    exact ⟨k, ks', h1, DnT.goes g t h2, DnS.goes g s h3⟩
theorem DnC.goes {N N' : List Nd} (g : Goes N N') {names : List Bytes} {qs : List Nat} : ∀ (c : List (List Term)), DnC N names qs c → DnC N' names qs c
  | [], h => by simp only [DnC] at h ⊢; exact h
  | s :: c, h => by
    simp only [DnC] at h ⊢
    obtain ⟨q, qs', ks, h1, h2, h3, h4⟩ := h
    exact ⟨q, qs', ks, h1, g _ _ h2, DnS.goes g s h3, DnC.goes g c h4⟩
end
theorem DnS.snoc {N : List Nd} {names : List Bytes} : ∀ {s : List Term} {ks : List Nat} {t : Term} {k : Nat}, DnS N names ks s → DnT N names k t → DnS N names (ks ++ [k]) (s ++ [t])
  | [], ks, t, k, h, ht => by
    simp only [DnS] at h
    subst h
    simp only [List.nil_append, DnS]
    exact ⟨k, [], rfl, ht, rfl⟩
  | u :: s, ks, t, k, h, ht => by
    simp only [DnS] at h
    obtain ⟨a, ks', rfl, h2, h3⟩ := h
    simp only [List.cons_append, DnS]
    exact ⟨a, ks' ++ [k], rfl, h2, DnS.snoc h3 ht⟩
theorem DnC.snoc {N : List Nd} {names : List Bytes} : ∀ {c : List (List Term)} {qs : List Nat} {s : List Term} {q : Nat} {ks : List Nat}, DnC N names qs c → N[q]? = some (.seq ks) → DnS N names ks s → DnC N names (qs ++ [q]) (c ++ [s])
  | [], qs, s, q, ks, h, hq, hs => by
    simp only [DnC] at h
    subst h
    simp only [List.nil_append, DnC]
    exact ⟨q, [], ks, rfl, hq, hs, rfl⟩
  | u :: c, qs, s, q, ks, h, hq, hs => by
    simp only [DnC] at h
    obtain ⟨a, qs', ks', rfl, h2, h3, h4⟩ := h
    simp only [List.cons_append, DnC]
    exact ⟨a, qs' ++ [q], ks', rfl, h2, h3, DnC.snoc h4 hq hs⟩
end Thk
namespace Go.Proofs.YtiganlkabilblaaGreatDoor
open Go.RowKit
attribute [local go_sem ↓] Go.wp_at_zero Go.wp_at_succ
abbrev exV (k : Nat) (ia : Option Addr) (n ic : Nat) (tx : ByteArray) (z : Int) (pa : Option Addr) (m pc : Nat) : Value := .agg #[.int .i64 k, .slice ia n ic, .string tx, .int .i64 z, .slice pa m pc]
abbrev exO' (k : Nat) (ia : Option Addr) (n ic : Nat) (tx : ByteArray) (z : Int) (pa : Option Addr) (m pc : Nat) : Obj := .cells #[.int .i64 k, .slice ia n ic, .string tx, .int .i64 z, .slice pa m pc] 149 (0, 0)
theorem ba_get (s : ByteArray) (k : Nat) (h : k < s.size) : s.data.toList[k]? = some s[k] := by
  have : k < s.data.toList.length := h
  rw [List.getElem?_eq_getElem this]
  simp; rfl
set_option maxHeartbeats 4000000 in
set_option maxRecDepth 100000 in
theorem rbytes_any3 (w : World) (tb : Nat) (s : ByteArray) (k : Nat) (ia : Option Addr) (n ic : Nat) (tx : ByteArray) (z : Int) (pa : Option Addr) (m pc : Nat) (htb : tb < w.heap.size) (hin : w.cell? ⟨tb, 2, none⟩ = some (.string s)) (hs : s.size ≤ 1000) :
    Calls Tryz.prog 173 #[.pointer (some ⟨tb, 0, none⟩), exV 3 ia n ic tx z pa m pc, .int .i64 k] w fun e w' => e = .returned (.int .i64 (encR (if k < s.size then some (k + 1) else none))) ∧ Below w.heap.size w w' := by
  by_cases hk : k < s.size
  · have hk' : (k : Int) < s.size := by omega
    rw [if_pos hk]
    have hz : encR (some (k + 1)) = (k : Int) + 1 := by simp [encR]
    rw [hz]
    go_enter Tryz.func173, Tryz.ntmps173
    go_wp2_with fail
    go_ret
    exact ⟨rfl, below_alloc _ _⟩
  · have hk' : ¬ (k : Int) < s.size := by omega
    rw [if_neg hk]
    go_enter Tryz.func173, Tryz.ntmps173
    go_wp2_with fail
    go_ret
    exact ⟨rfl, below_alloc _ _⟩
set_option maxHeartbeats 8000000 in
set_option maxRecDepth 100000 in
theorem rbytes_any2 (w : World) (tb : Nat) (s : ByteArray) (k B : Nat) (rs : List Thk.Span) (ia : Option Addr) (ic : Nat) (tx : ByteArray) (z : Int) (pa : Option Addr) (m pc : Nat) (htb : tb < w.heap.size) (hin : w.cell? ⟨tb, 2, none⟩ = some (.string s)) (hs : s.size ≤ 1000) (hit : Items w B (.slice ia rs.length ic) rs) (hl : rs.length ≤ 1000) :
    Calls Tryz.prog 173 #[.pointer (some ⟨tb, 0, none⟩), exV 2 ia rs.length ic tx z pa m pc, .int .i64 k] w fun e w' => e = .returned (.int .i64 (encR (match s.data.toList[k]? with | none => none | some c => if Thk.inSpan rs c then some (k + 1) else none))) ∧ Below w.heap.size w w' := by
  obtain ⟨pa2, pc2, hv, hc⟩ := hit.gen
  cases hv
  have HC := hideP hc
  clear hit hc
  by_cases hk : k < s.size
  · have hk' : (k : Int) < s.size := by omega
    rw [ba_get s k hk]
    obtain ⟨c, hcc⟩ : ∃ c, c = s[k] := ⟨_, rfl⟩
    rw [← hcc]
    obtain ⟨R, hR⟩ : ∃ R, R = encR (if Thk.inSpan rs c then some (k + 1) else none) := ⟨_, rfl⟩
    simp only []
    rw [← hR]
    have HR : Hid (R = encR (if Thk.inSpan (rs.drop 0) c then some (k + 1) else none)) := hR
    clear hR
    go_enter Tryz.func173, Tryz.ntmps173
    go_wp2_with fail
    go_loopg [7] rs.length (fun mm v wr => ∃ j : Nat, mm = rs.length - j ∧ v = .int .i64 j ∧ j ≤ rs.length ∧ Hid (Below w.heap.size w wr ∧ wr.heap[w.heap.size]? = some (exO' 2 ia rs.length ic tx z pa m pc) ∧ R = encR (if Thk.inSpan (rs.drop j) c then some (k + 1) else none)))
    case atStart => exact ⟨0, by omega, rfl, by omega, below_alloc _ _, heap_alloc_same _ _, HR.out⟩
    case round =>
      obtain ⟨j, rfl, rfl, hj, HI⟩ := hrel
      have q := cell_of_block HI.out.2.1
      have ql := heap_lt' HI.out.2.1
      have hin' : wr.cell? ⟨tb, 2, none⟩ = some (.string s) := by rw [HI.out.1.cell (p := ⟨tb, 2, none⟩) htb]; exact hin
      have htb' : tb < wr.heap.size := by have := HI.out.1.size; omega
      by_cases hlt : j < rs.length
      · have hlt' : (j : Int) < rs.length := by omega
        obtain ⟨pg, rfl, hpg, c0, c1⟩ := HC.out j hlt
        have d0 : wr.cell? ⟨pg, j * 2, none⟩ = some (.int .u8 rs[j].1.toNat) := by rw [HI.out.1.cell (p := ⟨pg, _, none⟩) hpg]; exact c0
        have d1 : wr.cell? ⟨pg, j * 2 + 1, none⟩ = some (.int .u8 rs[j].2.toNat) := by rw [HI.out.1.cell (p := ⟨pg, _, none⟩) hpg]; exact c1
        have hdr : rs.drop j = rs[j] :: rs.drop (j + 1) := List.drop_eq_getElem_cons hlt
        have hstep : Thk.inSpan (rs.drop j) c = ((rs[j].1 ≤ c && c ≤ rs[j].2) || Thk.inSpan (rs.drop (j + 1)) c) := by
          rw [hdr]; unfold Thk.inSpan; rw [List.any_cons]
        have HST := hideP hstep
        generalize rs[j].1 = lo at *
        generalize rs[j].2 = hi at *
        clear c0 c1 hdr hstep
        by_cases h1 : lo ≤ c
        · have h1' : (lo.toNat : Int) ≤ c.toNat := by have := UInt8.le_iff_toNat_le.1 h1; omega
          by_cases h2 : c ≤ hi
          · have h2' : (c.toNat : Int) ≤ hi.toNat := by have := UInt8.le_iff_toNat_le.1 h2; omega
            have hRR : R = (k : Int) + 1 := by
              rw [HI.out.2.2, HST.out]
              simp [h1, h2, encR]
            subst hRR
            rw [hcc] at h1' h2'
            go_wp2_with fail
            go_quiet (fail)
            go_wp2_with fail
            go_ret
            exact ⟨rfl, below_drewN HI.out.1 _⟩
          · have h2' : decide ((c.toNat : Int) ≤ hi.toNat) = false := by
              rw [decide_eq_false_iff_not]; intro e; apply h2; apply UInt8.le_iff_toNat_le.2; omega
            have HN : Hid (R = encR (if Thk.inSpan (rs.drop (j + 1)) c then some (k + 1) else none)) := by
              show _ = _
              rw [HI.out.2.2, HST.out]
              simp [h2]
            have h2n : ¬ c.toNat ≤ hi.toNat := fun e => h2 (UInt8.le_iff_toNat_le.2 e)
            have h2a : decide (c.toNat ≤ hi.toNat) = false := by simpa using h2n
            have h2b : ¬ (c.toNat : Int) ≤ hi.toNat := by omega
            have h2d : (hi.toNat : Int) < c.toNat := by omega
            rw [hcc] at h1' h2' h2n h2a h2b h2d
            clear h1 h2
            go_wp2_with fail
            go_quiet (fail)
            go_wp2_with fail
            go_roundg (rs.length - (j + 1))
            case measure => omega
            case rel => exact ⟨j + 1, rfl, by go_num, by omega, below_drewN HI.out.1 _, HI.out.2.1, HN.out⟩
        · have h1' : decide ((lo.toNat : Int) ≤ c.toNat) = false := by
            rw [decide_eq_false_iff_not]; intro e; apply h1; apply UInt8.le_iff_toNat_le.2; omega
          have HN : Hid (R = encR (if Thk.inSpan (rs.drop (j + 1)) c then some (k + 1) else none)) := by
            show _ = _
            rw [HI.out.2.2, HST.out]
            simp [h1]
          have h1n : ¬ lo.toNat ≤ c.toNat := fun e => h1 (UInt8.le_iff_toNat_le.2 e)
          have h1a : decide (lo.toNat ≤ c.toNat) = false := by simpa using h1n
          have h1b : ¬ (lo.toNat : Int) ≤ c.toNat := by omega
          have h1d : (c.toNat : Int) < lo.toNat := by omega
          rw [hcc] at h1' h1n h1a h1b h1d
          clear h1
          go_wp2_with fail
          go_quiet (fail)
          go_wp2_with fail
          go_roundg (rs.length - (j + 1))
          case measure => omega
          case rel => exact ⟨j + 1, rfl, by go_num, by omega, below_drewN HI.out.1 _, HI.out.2.1, HN.out⟩
      · have hlt' : ¬ (j : Int) < rs.length := by omega
        have hRR : R = -1 := by
          rw [HI.out.2.2, List.drop_of_length_le (by omega)]
          simp [Thk.inSpan, encR]
        subst hRR
        go_wp2_with fail
        go_ret
        exact ⟨rfl, HI.out.1⟩
  · have hk' : ¬ (k : Int) < s.size := by omega
    have hkd : decide ((k : Int) < s.size) = false := by simpa using hk'
    rw [List.getElem?_eq_none (show s.data.toList.length ≤ k from by show s.size ≤ k; omega)]
    go_enter Tryz.func173, Tryz.ntmps173
    go_wp2_with fail
    go_loopg [7] 0 (fun mm v wr => mm = 0 ∧ v = .int .i64 0 ∧ Hid (Below w.heap.size w wr ∧ wr.heap[w.heap.size]? = some (exO' 2 ia rs.length ic tx z pa m pc)))
    case atStart => exact ⟨rfl, rfl, below_alloc _ _, heap_alloc_same _ _⟩
    case round =>
      obtain ⟨rfl, rfl, HI⟩ := hrel
      have q := cell_of_block HI.out.2
      have ql := heap_lt' HI.out.2
      have hin' : wr.cell? ⟨tb, 2, none⟩ = some (.string s) := by rw [HI.out.1.cell (p := ⟨tb, 2, none⟩) htb]; exact hin
      have htb' : tb < wr.heap.size := by have := HI.out.1.size; omega
      by_cases h0 : (0 : Int) < rs.length
      · go_wp2_with fail
        go_ret
        exact ⟨rfl, HI.out.1⟩
      · have h0' : decide ((0 : Int) < rs.length) = false := by simpa using h0
        go_wp2_with fail
        go_ret
        exact ⟨rfl, HI.out.1⟩
end Go.Proofs.YtiganlkabilblaaGreatDoor
namespace Go.Proofs.YtiganlkabilblaaGreatDoor
open Go.RowKit
attribute [local go_sem ↓] Go.wp_at_zero Go.wp_at_succ
theorem pre_step (a : UInt8) (l m : List UInt8) (c : UInt8) : (a :: l).isPrefixOf (c :: m) = ((a == c) && l.isPrefixOf m) := rfl
set_option maxHeartbeats 8000000 in
set_option maxRecDepth 100000 in
theorem rbytes_any1 (w : World) (tb : Nat) (s : ByteArray) (k B : Nat) (rs : List Thk.Span) (ia : Option Addr) (ic : Nat) (tx : ByteArray) (z : Int) (pa : Option Addr) (m pc : Nat) (htb : tb < w.heap.size) (hin : w.cell? ⟨tb, 2, none⟩ = some (.string s)) (hs : s.size ≤ 1000) (hit : Items w B (.slice ia rs.length ic) rs) (hl : rs.length ≤ 1000) (hk : k ≤ s.size) :
    Calls Tryz.prog 173 #[.pointer (some ⟨tb, 0, none⟩), exV 1 ia rs.length ic tx z pa m pc, .int .i64 k] w fun e w' => e = .returned (.int .i64 (encR (if (rs.map (·.1)).isPrefixOf (s.data.toList.drop k) then some (k + rs.length) else none))) ∧ Below w.heap.size w w' := by
  obtain ⟨pa2, pc2, hv, hc⟩ := hit.gen
  cases hv
  have HC := hideP hc
  clear hit hc
  obtain ⟨R, hR⟩ : ∃ R, R = encR (if (rs.map (·.1)).isPrefixOf (s.data.toList.drop k) then some (k + rs.length) else none) := ⟨_, rfl⟩
  rw [← hR]
  have HR : Hid (R = encR (if ((rs.drop 0).map (·.1)).isPrefixOf (s.data.toList.drop (k + 0)) then some (k + rs.length) else none)) := hR
  clear hR
  go_enter Tryz.func173, Tryz.ntmps173
  go_wp2_with fail
  go_loopg [8] rs.length (fun mm v wr => ∃ j : Nat, mm = rs.length - j ∧ v = .int .i64 j ∧ j ≤ rs.length ∧ Hid (Below w.heap.size w wr ∧ wr.heap[w.heap.size]? = some (exO' 1 ia rs.length ic tx z pa m pc) ∧ R = encR (if ((rs.drop j).map (·.1)).isPrefixOf (s.data.toList.drop (k + j)) then some (k + rs.length) else none)))
  case atStart => exact ⟨0, by omega, rfl, by omega, below_alloc _ _, heap_alloc_same _ _, HR.out⟩
  case round =>
    obtain ⟨j, rfl, rfl, hj, HI⟩ := hrel
    have q := cell_of_block HI.out.2.1
    have ql := heap_lt' HI.out.2.1
    have hin' : wr.cell? ⟨tb, 2, none⟩ = some (.string s) := by rw [HI.out.1.cell (p := ⟨tb, 2, none⟩) htb]; exact hin
    have htb' : tb < wr.heap.size := by have := HI.out.1.size; omega
    by_cases hlt : j < rs.length
    · have hlt' : (j : Int) < rs.length := by omega
      obtain ⟨pg, rfl, hpg, c0, c1⟩ := HC.out j hlt
      have d0 : wr.cell? ⟨pg, j * 2, none⟩ = some (.int .u8 rs[j].1.toNat) := by rw [HI.out.1.cell (p := ⟨pg, _, none⟩) hpg]; exact c0
      have hdr : (rs.drop j).map (·.1) = rs[j].1 :: (rs.drop (j + 1)).map (·.1) := by rw [List.drop_eq_getElem_cons hlt]; rfl
      clear c0 c1
      by_cases hin2 : k + j < s.size
      · have hin3 : (k : Int) + j < s.size := by omega
        have hin4 : decide ((s.size : Int) ≤ (k : Int) + j) = false := by simp; omega
        have hin5 : ¬ (s.size : Int) ≤ (k : Int) + j := by omega
        have hcs : s.data.toList.drop (k + j) = s[k + j] :: s.data.toList.drop (k + (j + 1)) := by
          have h0 : k + j < s.data.toList.length := hin2
          rw [List.drop_eq_getElem_cons h0]
          congr 1
        have hst : ((rs.drop j).map (·.1)).isPrefixOf (s.data.toList.drop (k + j)) = ((rs[j].1 == s[k + j]) && ((rs.drop (j + 1)).map (·.1)).isPrefixOf (s.data.toList.drop (k + (j + 1)))) := by
          rw [hdr, hcs, pre_step]
        have HST := hideP hst
        have hti : ((k : Int) + (j : Int)).toNat = k + j := by omega
        have hw : wrap64 ((k : Int) + (j : Int)) = (k : Int) + j := IntWalk.wrap64_in _ ⟨by omega, by omega⟩
        have hnn : (0 : Int) ≤ (k : Int) + j := by omega
        have hsg : ∀ h : ((k : Int) + (j : Int)).toNat < s.size, (s[((k : Int) + (j : Int)).toNat]'h) = s[k + j] := fun h => by congr 1
        generalize rs[j].1 = lo at *
        clear hdr hcs hst
        by_cases h1 : lo = s[k + j]
        · have h1' : (s[k + j].toNat : Int) = lo.toNat := by rw [h1]
          have h1b : ((s[k + j].toNat : Int) != (lo.toNat : Int)) = false := by rw [h1]; simp
          have HN : Hid (R = encR (if ((rs.drop (j + 1)).map (·.1)).isPrefixOf (s.data.toList.drop (k + (j + 1))) then some (k + rs.length) else none)) := by
            show _ = _
            rw [HI.out.2.2, HST.out, h1]
            simp
          clear h1 h1'
          go_wp2_with fail
          go_quiet (fail)
          go_wp2_with fail
          go_roundg (rs.length - (j + 1))
          case measure => omega
          case rel => exact ⟨j + 1, rfl, by go_num, by omega, below_drewN HI.out.1 _, HI.out.2.1, HN.out⟩
        · have h1n : ¬ s[k + j].toNat = lo.toNat := fun e => h1 (UInt8.toNat_inj.1 e).symm
          have h1b : ((s[k + j].toNat : Int) != (lo.toNat : Int)) = true := by rw [bne_iff_ne]; omega
          have hRR : R = -1 := by
            rw [HI.out.2.2, HST.out]
            have : (lo == s[k + j]) = false := by simpa using h1
            rw [this]; rfl
          subst hRR
          clear h1
          go_wp2_with fail
          go_quiet (fail)
          go_wp2_with fail
          go_ret
          exact ⟨rfl, below_drewN HI.out.1 _⟩
      · have hin3 : (s.size : Int) ≤ (k : Int) + j := by omega
        have hin4 : decide ((s.size : Int) ≤ (k : Int) + j) = true := by simp; omega
        have hw : wrap64 ((k : Int) + (j : Int)) = (k : Int) + j := IntWalk.wrap64_in _ ⟨by omega, by omega⟩
        have hRR : R = -1 := by
          rw [HI.out.2.2, hdr, List.drop_of_length_le (show s.data.toList.length ≤ k + j from by show s.size ≤ k + j; omega)]
          rfl
        subst hRR
        clear hdr
        go_wp2_with fail
        go_quiet (fail)
        go_wp2_with fail
        go_ret
        exact ⟨rfl, below_drewN HI.out.1 _⟩
    · have hlt' : ¬ (j : Int) < rs.length := by omega
      have hRR : R = (k : Int) + rs.length := by
        rw [HI.out.2.2, List.drop_of_length_le (by omega)]
        simp [encR]
      subst hRR
      go_wp2_with fail
      go_ret
      exact ⟨rfl, HI.out.1⟩
end Go.Proofs.YtiganlkabilblaaGreatDoor
namespace Go.Proofs.YtiganlkabilblaaGreatDoor
open Go.RowKit
attribute [local go_sem ↓] Go.wp_at_zero Go.wp_at_succ
/-- What stands through all trials of one input. -/
structure Env (w0 : World) (B gb : Nat) (vx vr : Value) (ps : List (Thk.RE × Value × Value)) (rs : List (Thk.Bytes × Nat)) (s : ByteArray) (rbs : List Nat) : Prop where
  gm : GM w0 B gb vx vr (ps.map (ruled (nmOf rs))) rs
  fits : Fits ps rs
  rpos : 0 < rs.length
  rle : rs.length ≤ 20
  ple : ps.length ≤ 10000
  sle : s.size ≤ 200
  len : rbs.length = ps.length
abbrev evS (ps : List (Thk.RE × Value × Value)) (rs : List (Thk.Bytes × Nat)) (s : ByteArray) : Nat → REv := evR (xsOf ps) (nmOf rs) (bdOf rs) s.data.toList
abbrev SndS (ps : List (Thk.RE × Value × Value)) (rs : List (Thk.Bytes × Nat)) (s : ByteArray) (M : Tab) : Prop := Snd (xsOf ps) (nmOf rs) (bdOf rs) s.data.toList M
/-- A world in which a trial stands, with what is remembered. -/
structure Stt (w0 : World) (tb eb ec : Nat) (vx vr : Value) (ps : List (Thk.RE × Value × Value)) (rs : List (Thk.Bytes × Nat)) (s : ByteArray) (rbs : List Nat) (w : World) : Prop where
  ex : ∃ M, TrAt w0 w tb eb ec vx vr s rbs M ∧ SndS ps rs s M
theorem Stt.below {w0 : World} {tb eb ec : Nat} {vx vr : Value} {ps : List (Thk.RE × Value × Value)} {rs : List (Thk.Bytes × Nat)} {s : ByteArray} {rbs : List Nat} {w w' : World} (h : Stt w0 tb eb ec vx vr ps rs s rbs w) (hb : Below w.heap.size w w') : Stt w0 tb eb ec vx vr ps rs s rbs w' := by
  obtain ⟨M, h1, h2⟩ := h
  exact ⟨M, h1.kept hb, h2⟩
def TryC (w0 : World) (tb eb ec : Nat) (vx vr : Value) (ps : List (Thk.RE × Value × Value)) (rs : List (Thk.Bytes × Nat)) (s : ByteArray) (rbs : List Nat) (f : Nat) : Prop :=
  ∀ (w : World) (i k : Nat) (v : Option Nat), Stt w0 tb eb ec vx vr ps rs s rbs w → k ≤ s.size → evS ps rs s f i k = some v →
    Calls Tryz.prog 112 #[.pointer (some ⟨tb, 0, none⟩), .int .i64 i, .int .i64 k] w fun e w' => e = .returned (.int .i64 (encR v)) ∧ Stt w0 tb eb ec vx vr ps rs s rbs w' ∧ KpM rbs w.heap.size w w'
def TriedC (w0 : World) (tb eb ec : Nat) (vx vr : Value) (ps : List (Thk.RE × Value × Value)) (rs : List (Thk.Bytes × Nat)) (s : ByteArray) (rbs : List Nat) (f : Nat) : Prop :=
  ∀ (w : World) (i k : Nat) (v : Option Nat), Stt w0 tb eb ec vx vr ps rs s rbs w → k ≤ s.size → evS ps rs s f i k = some v →
    Calls Tryz.prog 148 #[.pointer (some ⟨tb, 0, none⟩), .int .i64 i, .int .i64 k] w fun e w' => e = .returned (.int .i64 (encR v)) ∧ Stt w0 tb eb ec vx vr ps rs s rbs w' ∧ KpM rbs w.heap.size w w'
/-- An expression as it is met in a trial. -/
theorem Stt.exq {w0 : World} {B gb tb eb ec : Nat} {vx vr : Value} {ps : List (Thk.RE × Value × Value)} {rs : List (Thk.Bytes × Nat)} {s : ByteArray} {rbs : List Nat} {w : World} (hE : Env w0 B gb vx vr ps rs s rbs) (h : Stt w0 tb eb ec vx vr ps rs s rbs w) {k : Nat} {e : Thk.RE} (hx : (xsOf ps)[k]? = some e) (ho : okE (nmOf rs) e = true) :
    ∃ (xg xc : Nat) (ia : Option Addr) (ic : Nat) (pa : Option Addr) (pc : Nat), k < ps.length ∧ vx = .slice (some ⟨xg, 0, none⟩) ps.length xc ∧ xg < w.heap.size ∧ w.cell? ⟨xg, k * 5, none⟩ = some (.int .i64 e.kind) ∧ w.cell? ⟨xg, k * 5 + 1, none⟩ = some (.slice ia e.items.length ic) ∧ w.cell? ⟨xg, k * 5 + 2, none⟩ = some (.string ⟨e.text.toArray⟩) ∧ w.cell? ⟨xg, k * 5 + 3, none⟩ = some (.int .i64 (rfE (nmOf rs) e 0)) ∧ w.cell? ⟨xg, k * 5 + 4, none⟩ = some (.slice pa e.parts.length pc) ∧
      e.parts.length ≤ 9223372036854775807 ∧ (∀ j (hj : j < e.parts.length), ∃ pg, pa = some ⟨pg, 0, none⟩ ∧ pg < w0.heap.size ∧ w0.cell? ⟨pg, j, none⟩ = some (.int .i64 e.parts[j])) ∧ Items w B (.slice ia e.items.length ic) e.items ∧ e.items.length ≤ 20 ∧ (∀ p ∈ e.parts, p < ps.length) ∧ (6 < e.kind → ∃ p, e.parts = [p]) ∧ (e.kind = 4 → (nmOf rs).contains e.text = true) := by
  have hoE : e.items.length ≤ 20 ∧ (e.kind = 4 → (nmOf rs).contains e.text = true) := by
    simp only [okE, Bool.and_eq_true, decide_eq_true_eq, Bool.or_eq_true, bne_iff_ne] at ho
    exact ⟨ho.1.2, fun h4 => ho.2.resolve_left (fun h => h h4)⟩
  obtain ⟨M, hT, _⟩ := h
  obtain ⟨xg, xc, ia, ic, pa, pc, hi, rfl, hxl, c0, c1, c2, c3, c4, hpl, hpn, hpc, hit⟩ := hE.gm.exq hx
  have hs := hT.size
  have hcell : ∀ o, w.cell? ⟨xg, o, none⟩ = w0.cell? ⟨xg, o, none⟩ := fun o => World.cell?_of_block (a := ⟨xg, o, none⟩) (hT.old xg hxl)
  have hmem : ∃ p ∈ ps, p.1 = e := by
    rw [List.getElem?_map, List.getElem?_eq_getElem hi] at hx
    exact ⟨ps[k], List.getElem_mem hi, by simpa using hx⟩
  obtain ⟨p, hp, rfl⟩ := hmem
  have hf := hE.fits.ex p hp
  refine ⟨xg, xc, ia, ic, pa, pc, hi, rfl, by omega, (hcell _).trans c0, (hcell _).trans c1, (hcell _).trans c2, (hcell _).trans c3, (hcell _).trans c4, hpn, hpc, own_blocks hit (fun b hb => hT.old b (hit.lt b hb).2), hoE.1, hf.1, hf.2.1, hoE.2⟩
theorem Stt.cells {w0 : World} {tb eb ec : Nat} {vx vr : Value} {ps : List (Thk.RE × Value × Value)} {rs : List (Thk.Bytes × Nat)} {s : ByteArray} {rbs : List Nat} {w : World} (h : Stt w0 tb eb ec vx vr ps rs s rbs w) : tb < w.heap.size ∧ w0.heap.size ≤ w.heap.size ∧ (∀ b, b < w0.heap.size → w.heap[b]? = w0.heap[b]?) ∧ ∀ o, w.cell? ⟨tb, o, none⟩ = (#[vx, vr, .string s, .slice (some ⟨eb, 0, none⟩) rbs.length ec] : Array Value)[o]? := by
  obtain ⟨M, hT, _⟩ := h
  exact ⟨heap_lt hT.blk, hT.size, hT.old, cell_of_block hT.blk⟩
set_option maxHeartbeats 8000000 in
set_option maxRecDepth 100000 in
/-- Literals, classes, any byte. -/
theorem tried_bytes {w0 : World} {B gb tb eb ec : Nat} {vx vr : Value} {ps : List (Thk.RE × Value × Value)} {rs : List (Thk.Bytes × Nat)} {s : ByteArray} {rbs : List Nat} (hE : Env w0 B gb vx vr ps rs s rbs) (w : World) (i k : Nat) (e : Thk.RE) (h : Stt w0 tb eb ec vx vr ps rs s rbs w) (hk : k ≤ s.size) (hx : (xsOf ps)[i]? = some e) (hok : okE (nmOf rs) e = true) (hkd : e.kind = 1 ∨ e.kind = 2 ∨ e.kind = 3) :
    Calls Tryz.prog 148 #[.pointer (some ⟨tb, 0, none⟩), .int .i64 i, .int .i64 k] w fun e' w' => e' = .returned (.int .i64 (encR (bytesR s.data.toList e k))) ∧ Stt w0 tb eb ec vx vr ps rs s rbs w' ∧ KpM rbs w.heap.size w w' := by
  obtain ⟨xg, xc, ia, ic, pa, pc, hi, rfl, hxl, c0, c1, c2, c3, c4, hpn, hpc, hit, hil, _, _, _⟩ := h.exq hE hx hok
  obtain ⟨htl, hsz, hold, q⟩ := h.cells
  have hsl := hE.sle
  have hpl := hE.ple
  have hil' : (i : Int) < ps.length := by omega
  have q2 := q 2
  have hb : ∀ O : Obj, Calls Tryz.prog 173 #[.pointer (some ⟨tb, 0, none⟩), exV e.kind ia e.items.length ic ⟨e.text.toArray⟩ (rfE (nmOf rs) e 0) pa e.parts.length pc, .int .i64 k] (w.alloc O) fun e' w' => e' = .returned (.int .i64 (encR (bytesR s.data.toList e k))) ∧ Below (w.alloc O).heap.size (w.alloc O) w' := by
    intro O
    have t1 : tb < (w.alloc O).heap.size := by simp; omega
    have t2 : (w.alloc O).cell? ⟨tb, 2, none⟩ = some (.string s) := by rw [World.cell?_alloc_lt _ _ _ htl]; exact q2
    have t3 := hit.below (below_alloc w O)
    unfold bytesR
    rcases hkd with hk1 | hk1 | hk1
    · rw [if_neg (by omega), if_neg (by omega), hk1]
      exact rbytes_any1 _ tb s k B e.items ia ic _ _ pa _ pc t1 t2 (by omega) t3 (by omega) hk
    · rw [if_neg (by omega), if_pos hk1, hk1]
      exact rbytes_any2 _ tb s k B e.items ia ic _ _ pa _ pc t1 t2 (by omega) t3 (by omega)
    · rw [if_pos hk1, hk1]
      exact rbytes_any3 _ tb s k ia _ ic _ _ pa _ pc t1 t2 (by omega)
  have HB := hideP hb
  have HST := hideP h
  clear hb hit hpc h hx hE hok
  generalize encR (bytesR s.data.toList e k) = R at *
  generalize e.items.length = il at *
  generalize e.parts.length = pl at *
  generalize rfE (nmOf rs) e 0 = z at *
  generalize e.text = tx at *
  generalize e.kind = K at *
  rcases hkd with rfl | rfl | rfl
  all_goals
    go_enter Tryz.func148, Tryz.ntmps148
    go_wp2_with fail
    refine (HB.out _).mono ?_
    rintro _ w1 ⟨rfl, hb1⟩
    have HB1 := hideP ((below_alloc w _).trans (hb1.mono (by simp)))
    clear hb1
    go_wp2_with fail
    go_ret
    exact ⟨rfl, HST.out.below HB1.out, KpM.of_below HB1.out⟩
end Go.Proofs.YtiganlkabilblaaGreatDoor
namespace Go.Proofs.YtiganlkabilblaaGreatDoor
open Go.RowKit
attribute [local go_sem ↓] Go.wp_at_zero Go.wp_at_succ
theorem Stt.fresh {w0 : World} {tb eb ec : Nat} {vx vr : Value} {ps : List (Thk.RE × Value × Value)} {rs : List (Thk.Bytes × Nat)} {s : ByteArray} {rbs : List Nat} {w : World} (h : Stt w0 tb eb ec vx vr ps rs s rbs w) : ∀ b ∈ rbs, b < w.heap.size := by
  obtain ⟨M, hT, _⟩ := h
  intro b hb
  obtain ⟨i, hi, rfl⟩ := List.getElem_of_mem hb
  exact heap_lt (hT.row i hi)
theorem KpM.own {rbs : List Nat} {w w1 : World} {O : Obj} (hf : ∀ b ∈ rbs, b < w.heap.size) (h : KpM rbs (w.alloc O).heap.size (w.alloc O) w1) : w1.heap[w.heap.size]? = some O := by
  rw [h.block _ (by simp) (fun hb => by have := hf _ hb; omega)]
  exact heap_alloc_same _ _
theorem KpM.alloc {rbs : List Nat} {w w1 : World} {O : Obj} (h : KpM rbs (w.alloc O).heap.size (w.alloc O) w1) : KpM rbs w.heap.size w w1 := KpM.go (KpM.of_below (below_alloc w O)) h
set_option maxHeartbeats 8000000 in
set_option maxRecDepth 100000 in
/-- A name. -/
theorem tried_name {w0 : World} {B gb tb eb ec : Nat} {vx vr : Value} {ps : List (Thk.RE × Value × Value)} {rs : List (Thk.Bytes × Nat)} {s : ByteArray} {rbs : List Nat} (hE : Env w0 B gb vx vr ps rs s rbs) (f : Nat) (hT : TryC w0 tb eb ec vx vr ps rs s rbs f) (w : World) (i k : Nat) (e : Thk.RE) (v : Option Nat) (h : Stt w0 tb eb ec vx vr ps rs s rbs w) (hk : k ≤ s.size) (hx : (xsOf ps)[i]? = some e) (hok : okE (nmOf rs) e = true) (hkd : e.kind = 4) (hv : evS ps rs s f ((bdOf rs).getD (idx0 (nmOf rs) e.text) 0) k = some v) :
    Calls Tryz.prog 148 #[.pointer (some ⟨tb, 0, none⟩), .int .i64 i, .int .i64 k] w fun e' w' => e' = .returned (.int .i64 (encR v)) ∧ Stt w0 tb eb ec vx vr ps rs s rbs w' ∧ KpM rbs w.heap.size w w' := by
  obtain ⟨xg, xc, ia, ic, pa, pc, hi, rfl, hxl, c0, c1, c2, c3, c4, hpn, hpc, hit, hil, _, _, hkn⟩ := h.exq hE hx hok
  obtain ⟨htl, hsz, hold, q⟩ := h.cells
  have hpl := hE.ple
  have hrl := hE.rle
  have hil' : (i : Int) < ps.length := by omega
  have hcn := hkn hkd
  have hrf := rfE_name (names := nmOf rs) hkd
  rw [if_pos hcn] at hrf
  have hx0 : idx0 (nmOf rs) e.text = (nmOf rs).idxOf e.text := by unfold idx0; rw [if_pos hcn]
  rw [hx0] at hv
  have hxl2 : (nmOf rs).idxOf e.text < rs.length := by
    have := List.idxOf_lt_length_iff.2 (show e.text ∈ nmOf rs by simpa using hcn)
    simpa using this
  rw [hrf] at c3
  obtain ⟨x, hxx⟩ : ∃ x, x = (nmOf rs).idxOf e.text := ⟨_, rfl⟩
  rw [← hxx] at c3 hv hxl2
  have hbd : (bdOf rs).getD x 0 = rs[x].2 := by
    rw [List.getD_eq_getElem?_getD, List.getElem?_map, List.getElem?_eq_getElem hxl2]; rfl
  rw [hbd] at hv
  obtain ⟨rg, rc, hvr, _, hrgl⟩ := hE.gm.ruAt hE.rpos
  have hgm := hE.gm
  subst hvr
  have d1 := (hgm.ruCells x hxl2).2
  have d1' : w.cell? ⟨rg, x * 2 + 1, none⟩ = some (.int .i64 rs[x].2) := by rw [World.cell?_of_block (a := ⟨rg, _, none⟩) (hold rg hrgl)]; exact d1
  have hrg2 : rg < w.heap.size := by omega
  have hxl3 : (x : Int) < rs.length := by omega
  have hxn : ¬ (x : Int) < 0 := by omega
  have htry := fun (O : Obj) (q : Nat) => hT ((w.alloc O).drewN q) rs[x].2 k v (h.below (below_drewN (below_alloc w O) q)) hk hv
  have HTR := hideP htry
  have HF := hideP h.fresh
  have q0 : w.cell? ⟨tb, 0, none⟩ = some (.slice (some ⟨xg, 0, none⟩) ps.length xc) := q 0
  have q1 : w.cell? ⟨tb, 1, none⟩ = some (.slice (some ⟨rg, 0, none⟩) rs.length rc) := q 1
  generalize rs[x].2 = bd at *
  generalize encR v = R at *
  rw [hkd] at c0
  clear hok hit hpc h hx hE hkn hcn hrf hx0 hxx hbd hgm d1 htry hT hv q hold hkd
  generalize e.items.length = il at *
  generalize e.parts.length = pl at *
  generalize e.text = tx at *
  go_enter Tryz.func148, Tryz.ntmps148
  go_wp2_with fail
  go_region_with (go_at_call 112; refine (HTR.out _ 1).mono ?_; rintro _ w1 ⟨rfl, hs1, hk1⟩; have HS1 := hideP hs1; have HK1 := hideP hk1; clear hs1 hk1)
  all_goals go_wp2_with fail
  all_goals
    go_ret
    exact ⟨rfl, HS1.out, KpM.go (KpM.of_below (below_drewN (below_alloc w _) 1)) HK1.out⟩
end Go.Proofs.YtiganlkabilblaaGreatDoor
namespace Go.Proofs.YtiganlkabilblaaGreatDoor
open Go.RowKit Thk
/-- The grammar is kept while expressions are made. -/
theorem sm_up {A : Nat → Prop} {kb mb nb n : Nat} {w w' : World} (h : w.heap[kb]? = some (makO mb (.map (some nb)) n)) (u : Up kb w w') (hA : ∀ g, A g → g ≠ kb) : Sm A w w' := by
  refine ⟨fun v l hs => own_blocks hs (fun g hg => u.old g (hs.lt g hg).2 ?_), fun g hg hag => u.old g hg (hA g hag)⟩
  rintro rfl
  obtain ⟨cur, hc⟩ := own_block_type hs hg
  rw [h] at hc
  simp at hc
theorem MapIs.up {kb mb nb n : Nat} {names : List Bytes} {w w' : World} (hm : MapIs w nb names) (h : w.heap[kb]? = some (makO mb (.map (some nb)) n)) (u : Up kb w w') : MapIs w' nb names := by
  refine hm.same (u.old nb hm.lt ?_)
  rintro rfl
  obtain ⟨D, ⟨es, clock, h1, _⟩, _⟩ := hm
  rw [h1] at h
  simp at h
/-- What a maker makes of a thing: an expression of some number, and others with it. -/
abbrev Mak (kb mb nb : Nat) (N : List Nd) (bx : List (Nat × Nat × Nat)) (S : Nat → Prop) (wt : Nat) (P : List Nd → Nat → Prop) (w : World) : Ending → World → Prop := fun e w' => ∃ N' y n x S', e = .returned (cloV x) ∧ x = (bx ++ y).getD n (0, 0, 0) ∧ n < N'.length ∧ Mk w' kb mb nb N' (bx ++ y) S' ∧ Goes N N' ∧ N'.length ≤ N.length + wt ∧ P N' n ∧ KpM [kb] w.heap.size w w' ∧ GrS w S S'
theorem Made1.mak {kb mb nb : Nat} {N : List Nd} {bx : List (Nat × Nat × Nat)} {S : Nat → Prop} {wt : Nat} {P : List Nd → Nat → Prop} {d : Nd} {w0 w w' : World} {e : Ending} (hb : Below w0.heap.size w0 w) (hl : bx.length = N.length) (hP : P (N ++ [d]) N.length) (hw : 1 ≤ wt) (h : Made1 kb mb nb N bx S d w e w') : Mak kb mb nb N bx S wt P w0 e w' := by
  obtain ⟨x, S', rfl, h1, h2, h3⟩ := h
  refine ⟨N ++ [d], [x], N.length, x, S', rfl, ?_, by simp, h1, Goes.app _ _, by simp; omega, hP, (KpM.of_below hb).trans (h2.mono hb.size), (GrS.refl _ _).below h3 hb⟩
  rw [List.getD_eq_getElem?_getD, List.getElem?_append_right (by rw [hl]; exact Nat.le_refl _), hl, Nat.sub_self]; rfl
theorem last_get (N : List Nd) (d : Nd) : (N ++ [d])[N.length]? = some d := by simp
/-- One more behind others. -/
theorem Mak.then1 {kb mb nb : Nat} {N N1 : List Nd} {bx y : List (Nat × Nat × Nat)} {S S1 : Nat → Prop} {wt wt1 : Nat} {P : List Nd → Nat → Prop} {d : Nd} {w w1 w2 : World} {e : Ending} (hk : w.heap[kb]? = some (makO mb (.map (some nb)) N.length)) (hk1 : w1.heap[kb]? = some (makO mb (.map (some nb)) N1.length)) (hg : Goes N N1) (hl : (bx ++ y).length = N1.length) (hn : N1.length ≤ N.length + wt1) (hK : KpM [kb] w.heap.size w w1) (hS : GrS w S S1) (hP : P (N1 ++ [d]) N1.length) (hw : wt1 + 1 ≤ wt) (h : Made1 kb mb nb N1 (bx ++ y) S1 d w1 e w2) : Mak kb mb nb N bx S wt P w e w2 := by
  obtain ⟨x, S', rfl, h1, h2, h3⟩ := h
  refine ⟨N1 ++ [d], y ++ [x], N1.length, x, S', rfl, ?_, by simp, by rw [← List.append_assoc]; exact h1, hg.trans (Goes.app _ _), by simp; omega, hP, hK.go h2, hS.trans h3 hk ⟨_, hk1⟩ (Up.of_kpM hK)⟩
  rw [← List.append_assoc, List.getD_eq_getElem?_getD, List.getElem?_append_right (by rw [hl]; exact Nat.le_refl _), hl, Nat.sub_self]; rfl
theorem dnI_goes {N N' : List Nd} (g : Goes N N') {names : List Bytes} {i : Nat} {p : Piece} {b : UInt8} (h : DnI N names i p b) : DnI N' names i p b := by
  have h1 : DnT N names i (.mk 0 p b) := by simp only [DnT]; exact ⟨i, by simp, h⟩
  have h2 := DnT.goes g _ h1
  simp only [DnT] at h2
  obtain ⟨i', h3, h4⟩ := h2
  have h5 : i = i' := by simpa using h3
  subst h5
  exact h4
def MakP (k : Nat) : Prop := ∀ (w : World) (kb mb nb : Nat) (N : List Nd) (bx : List (Nat × Nat × Nat)) (S : Nat → Prop) (names : List Bytes) (A : Nat → Prop) (p : Piece) (v : Value), Mk w kb mb nb N bx S → MapIs w nb names → RPiece w A p v → (∀ g, A g → g ≠ kb) → depP p ≤ k → okP p → N.length + (2 * wtP p + 1) ≤ 100000000 → wtP p ≤ 500000 →
  Calls Tryz.prog 199 #[ptrV kb, v] w (Mak kb mb nb N bx S (2 * wtP p + 1) (fun N' n => DnP N' names n p) w)
def MakI (k : Nat) : Prop := ∀ (w : World) (kb mb nb : Nat) (N : List Nd) (bx : List (Nat × Nat × Nat)) (S : Nat → Prop) (names : List Bytes) (A : Nat → Prop) (a : UInt8) (p : Piece) (b : UInt8) (v : Value), Mk w kb mb nb N bx S → MapIs w nb names → RPiece w A p v → (∀ g, A g → g ≠ kb) → depP p ≤ k → okT (.mk a p b) → N.length + (2 * wtP p + 3) ≤ 100000000 → wtP p ≤ 500000 →
  Calls Tryz.prog 190 #[ptrV kb, termV (.mk a p b) v] w (Mak kb mb nb N bx S (2 * wtP p + 3) (fun N' n => DnI N' names n p b) w)
def MakT (k : Nat) : Prop := ∀ (w : World) (kb mb nb : Nat) (N : List Nd) (bx : List (Nat × Nat × Nat)) (S : Nat → Prop) (names : List Bytes) (A : Nat → Prop) (t : Term) (v : Value), Mk w kb mb nb N bx S → MapIs w nb names → RTerm w A t v → (∀ g, A g → g ≠ kb) → depT t ≤ k → okT t → N.length + 2 * wtT t ≤ 100000000 → wtT t ≤ 500000 →
  Calls Tryz.prog 174 #[ptrV kb, termV t v] w (Mak kb mb nb N bx S (2 * wtT t) (fun N' n => DnT N' names n t) w)
def MakS (k : Nat) : Prop := ∀ (w : World) (kb mb nb : Nat) (N : List Nd) (bx : List (Nat × Nat × Nat)) (S : Nat → Prop) (names : List Bytes) (A : Nat → Prop) (s : List Term) (u : Value), Mk w kb mb nb N bx S → MapIs w nb names → RSeq w A s u → (∀ g, A g → g ≠ kb) → depS s ≤ k → okS s → N.length + 2 * wtS s ≤ 100000000 → wtS s ≤ 500000 →
  Calls Tryz.prog 149 #[ptrV kb, u] w (Mak kb mb nb N bx S (2 * wtS s) (fun N' n => ∃ ks, N'[n]? = some (.seq ks) ∧ DnS N' names ks s) w)
def MakC (k : Nat) : Prop := ∀ (w : World) (kb mb nb : Nat) (N : List Nd) (bx : List (Nat × Nat × Nat)) (S : Nat → Prop) (names : List Bytes) (A : Nat → Prop) (c : List (List Term)) (u : Value), Mk w kb mb nb N bx S → MapIs w nb names → RChoice w A c u → (∀ g, A g → g ≠ kb) → depC c ≤ k → okC c → N.length + 2 * wtC c ≤ 100000000 → wtC c ≤ 500000 →
  Calls Tryz.prog 119 #[ptrV kb, u] w (Mak kb mb nb N bx S (2 * wtC c) (fun N' n => DnP N' names n (.group c)) w)
/-- The weight of the first terms, of the first sequences. -/
def sumT : List Term → Nat
  | [] => 0
  | t :: s => 1 + wtT t + sumT s
def sumS : List (List Term) → Nat
  | [] => 0
  | s :: c => 3 + wtS s + sumS c
theorem sumT_eq : ∀ s : List Term, wtS s = sumT s + 2
  | [] => rfl
  | t :: s => by have := sumT_eq s; simp only [wtS, sumT]; omega
theorem sumS_eq : ∀ c : List (List Term), c ≠ [] → wtC c = sumS c
  | [], h => absurd rfl h
  | [s], _ => by simp only [wtC, sumS]; omega
  | s :: s2 :: c, _ => by have := sumS_eq (s2 :: c) (by simp); simp only [wtC, sumS] at *; omega
theorem sumT_snoc : ∀ (s : List Term) (t : Term), sumT (s ++ [t]) = sumT s + (1 + wtT t)
  | [], t => by simp [sumT]
  | u :: s, t => by have := sumT_snoc s t; simp only [List.cons_append, sumT]; omega
theorem sumS_snoc : ∀ (c : List (List Term)) (s : List Term), sumS (c ++ [s]) = sumS c + (3 + wtS s)
  | [], t => by simp [sumS]
  | u :: c, s => by have := sumS_snoc c s; simp only [List.cons_append, sumS]; omega
theorem sumT_take (s : List Term) (j : Nat) (hj : j < s.length) : sumT (s.take (j + 1)) = sumT (s.take j) + (1 + wtT s[j]) := by
  rw [List.take_succ_eq_append_getElem hj, sumT_snoc]
theorem sumS_take (c : List (List Term)) (j : Nat) (hj : j < c.length) : sumS (c.take (j + 1)) = sumS (c.take j) + (3 + wtS c[j]) := by
  rw [List.take_succ_eq_append_getElem hj, sumS_snoc]
theorem sumT_app : ∀ (s t : List Term), sumT (s ++ t) = sumT s + sumT t
  | [], t => by simp [sumT]
  | u :: s, t => by have := sumT_app s t; simp only [List.cons_append, sumT]; omega
theorem sumS_app : ∀ (s t : List (List Term)), sumS (s ++ t) = sumS s + sumS t
  | [], t => by simp [sumS]
  | u :: s, t => by have := sumS_app s t; simp only [List.cons_append, sumS]; omega
theorem sumT_le (s : List Term) (j : Nat) : sumT (s.take j) ≤ sumT s := by
  conv => rhs; rw [← List.take_append_drop j s]
  rw [sumT_app]; omega
theorem sumS_le (s : List (List Term)) (j : Nat) : sumS (s.take j) ≤ sumS s := by
  conv => rhs; rw [← List.take_append_drop j s]
  rw [sumS_app]; omega
theorem swtS_len : ∀ (s : List Term), s.length ≤ sumT s
  | [] => by simp
  | t :: s => by have := swtS_len s; simp only [sumT, List.length_cons]; omega
theorem swtC_len : ∀ (c : List (List Term)), c.length ≤ sumS c
  | [] => by simp
  | t :: s => by have := swtC_len s; simp only [sumS, List.length_cons]; omega
theorem okS_get : ∀ {s : List Term}, okS s → ∀ (j : Nat) (hj : j < s.length), okT s[j]
  | t :: s, h, 0, _ => by simp only [okS] at h; exact h.1
  | t :: s, h, j + 1, hj => by simp only [okS] at h; exact okS_get h.2 j (by simpa using hj)
theorem okC_get : ∀ {c : List (List Term)}, okC c → ∀ (j : Nat) (hj : j < c.length), okS c[j]
  | t :: s, h, 0, _ => by simp only [okC] at h; exact h.1
  | t :: s, h, j + 1, hj => by simp only [okC] at h; exact okC_get h.2 j (by simpa using hj)
end Go.Proofs.YtiganlkabilblaaGreatDoor
namespace Go.Proofs.YtiganlkabilblaaGreatDoor
open Go.RowKit Thk
attribute [local go_sem ↓] Go.wp_at_zero Go.wp_at_succ
theorem clo_at {kb mb nb : Nat} {N : List Nd} {bx : List (Nat × Nat × Nat)} {n : Nat} {x : Nat × Nat × Nat} {S : Nat → Prop} {d : Nd} {F : FuncId} {w : World} (hx : x = bx.getD n (0, 0, 0)) (h : Calls Tryz.prog F #[ptrV kb, clV bx n] w (Made1 kb mb nb N bx S d w)) : Calls Tryz.prog F #[ptrV kb, cloV x] w (Made1 kb mb nb N bx S d w) := by
  rw [hx]; exact h
set_option maxHeartbeats 8000000 in
set_option maxRecDepth 100000 in
theorem item_step (k : Nat) (hP : MakP k) : MakI k := by
  intro w kb mb nb N bx S names A a p b v h hnm ht hA hk hok hN hw
  obtain ⟨vt, vx, rfl⟩ := RPiece.oneCell ht
  simp only [okT] at hok
  simp only [termV, Thk.Term.ahead, Thk.Term.behind]
  have HPC := hideP (fun O => hP (w.alloc O) kb mb nb N bx S names A p (.iface vt vx) (h.below (below_alloc w O)) (hnm.below (below_alloc w O)) (RPiece.kept (sm_below (below_alloc w O)) p _ ht) hA hk hok.2.2 (by omega) hw)
  have hkl := heap_lt h.blk
  have hob := hok.2.1
  have HN := hideP hN
  have HKB := hideP h.blk
  clear h hnm ht hok hP hk hN hA
  rcases hob with rfl | rfl | rfl | rfl
  · go_enter Tryz.func190, Tryz.ntmps190
    go_wp2_with fail
    refine (HPC.out _).mono ?_
    rintro _ w1 ⟨N1, y, n, x, S1, rfl, hx, hn, h1, hg, hl, hd, hK, hS⟩
    have o2 : w1.cell? ⟨w.heap.size, 2, none⟩ = some (.int .u8 0) := cell_of_block (KpM.own (by simpa using hkl) hK) 2
    have HK := hideP hK.alloc
    have HS := hideP ((GrS.refl _ _).below hS (below_alloc w _))
    have HK1 := hideP h1.blk
    have HR : Hid (DnI N1 names n p 0) := hideP ⟨n, by simp, hd⟩
    have HX := hideP hx
    clear hK hd HK1 hx
    go_wp2_with fail
    go_ret
    exact ⟨N1, y, n, x, S1, rfl, HX.out, hn, h1, hg, by omega, HR.out, HK.out, (GrS.refl _ _).below hS (below_alloc _ _)⟩
  · go_enter Tryz.func190, Tryz.ntmps190
    go_wp2_with fail
    refine (HPC.out _).mono ?_
    rintro _ w1 ⟨N1, y, n, x, S1, rfl, hx, hn, h1, hg, hl, hd, hK, hS⟩
    have o2 : w1.cell? ⟨w.heap.size, 2, none⟩ = some (.int .u8 63) := cell_of_block (KpM.own (by simpa using hkl) hK) 2
    have HK := hideP hK.alloc
    have HS := hideP ((GrS.refl _ _).below hS (below_alloc w _))
    have HK1 := hideP h1.blk
    have HM := hideP (clo_at hx (maybe_any h1 (by have := HN.out; omega) n hn))
    have HR : Hid (DnI (N1 ++ [Nd.maybe n]) names N1.length p 63) := hideP ⟨n, by simp, DnP.goes (Goes.app _ _) p hd⟩
    have HL := hideP h1.len
    clear hK hd h1 hx hS
    simp only [cloV] at HM ⊢
    go_wp2_with fail
    refine HM.out.mono ?_
    rintro _ w2 hm
    have hmk := Mak.then1 (wt := 2 * wtP p + 3) (P := fun N' n => DnI N' names n p 63) HKB.out HK1.out hg HL.out hl HK.out HS.out HR.out (by omega) hm
    obtain ⟨x2, S2, rfl, h2, h3, h4⟩ := hm
    go_wp2_with fail
    go_ret
    exact hmk
  · go_enter Tryz.func190, Tryz.ntmps190
    go_wp2_with fail
    refine (HPC.out _).mono ?_
    rintro _ w1 ⟨N1, y, n, x, S1, rfl, hx, hn, h1, hg, hl, hd, hK, hS⟩
    have o2 : w1.cell? ⟨w.heap.size, 2, none⟩ = some (.int .u8 42) := cell_of_block (KpM.own (by simpa using hkl) hK) 2
    have HK := hideP hK.alloc
    have HS := hideP ((GrS.refl _ _).below hS (below_alloc w _))
    have HK1 := hideP h1.blk
    have HM := hideP (clo_at hx (plusOf_any h1 (by have := HN.out; omega) n hn))
    have HR : Hid (DnI (N1 ++ [Nd.plus n] ++ [Nd.maybe N1.length]) names (N1 ++ [Nd.plus n]).length p 42) := hideP ⟨n, by
      rw [if_neg (by decide), if_neg (by decide), if_neg (by decide)]
      exact ⟨N1.length, by simp, by simp⟩, DnP.goes ((Goes.app _ _).trans (Goes.app _ _)) p hd⟩
    have HL := hideP h1.len
    clear hK hd h1 hx hS
    simp only [cloV] at HM ⊢
    go_wp2_with fail
    refine HM.out.mono ?_
    rintro _ w2 ⟨x2, S2, rfl, h2, h3, h4⟩
    have HK2 := hideP (HK.out.go h3)
    have HK12 := hideP h2.blk
    have HS2 := hideP (HS.out.trans h4 HKB.out ⟨_, HK1.out⟩ (Up.of_kpM HK.out))
    have hx2 : x2 = (bx ++ (y ++ [x2])).getD N1.length (0, 0, 0) := by
      rw [← List.append_assoc, List.getD_eq_getElem?_getD, List.getElem?_append_right (by rw [HL.out]; exact Nat.le_refl _), HL.out, Nat.sub_self]; rfl
    rw [List.append_assoc] at h2
    have HM2 := hideP (clo_at hx2 (maybe_any h2 (by have := HN.out; simp; omega) N1.length (by simp)))
    have HL2 := hideP h2.len
    clear h2 h3 h4 hx2 HM
    simp only [cloV] at HM2 ⊢
    go_wp2_with fail
    refine HM2.out.mono ?_
    rintro _ w3 hm
    have hmk := Mak.then1 (wt := 2 * wtP p + 3) (wt1 := 2 * wtP p + 2) (P := fun N' n => DnI N' names n p 42) HKB.out HK12.out (hg.trans (Goes.app _ _)) HL2.out (by simp; omega) HK2.out HS2.out HR.out (by omega) hm
    obtain ⟨x3, S3, rfl, _, _, _⟩ := hm
    go_wp2_with fail
    go_ret
    exact hmk
  · go_enter Tryz.func190, Tryz.ntmps190
    go_wp2_with fail
    refine (HPC.out _).mono ?_
    rintro _ w1 ⟨N1, y, n, x, S1, rfl, hx, hn, h1, hg, hl, hd, hK, hS⟩
    have o2 : w1.cell? ⟨w.heap.size, 2, none⟩ = some (.int .u8 43) := cell_of_block (KpM.own (by simpa using hkl) hK) 2
    have HK := hideP hK.alloc
    have HS := hideP ((GrS.refl _ _).below hS (below_alloc w _))
    have HK1 := hideP h1.blk
    have HM := hideP (clo_at hx (plusOf_any h1 (by have := HN.out; omega) n hn))
    have HR : Hid (DnI (N1 ++ [Nd.plus n]) names N1.length p 43) := hideP ⟨n, by rw [if_neg (by decide), if_neg (by decide), if_pos rfl]; simp, DnP.goes (Goes.app _ _) p hd⟩
    have HL := hideP h1.len
    clear hK hd h1 hx hS
    simp only [cloV] at HM ⊢
    go_wp2_with fail
    refine HM.out.mono ?_
    rintro _ w2 hm
    have hmk := Mak.then1 (wt := 2 * wtP p + 3) (P := fun N' n => DnI N' names n p 43) HKB.out HK1.out hg HL.out hl HK.out HS.out HR.out (by omega) hm
    obtain ⟨x2, S2, rfl, h2, h3, h4⟩ := hm
    go_wp2_with fail
    go_ret
    exact hmk
end Go.Proofs.YtiganlkabilblaaGreatDoor
namespace Go.Proofs.YtiganlkabilblaaGreatDoor
open Go.RowKit Thk
attribute [local go_sem ↓] Go.wp_at_zero Go.wp_at_succ
set_option maxHeartbeats 8000000 in
set_option maxRecDepth 100000 in
theorem term_step (k : Nat) (hI : MakI k) : MakT k := by
  intro w kb mb nb N bx S names A t v h hnm ht hA hk hok hN hw
  obtain ⟨a, p, b⟩ := t
  simp only [RTerm] at ht
  simp only [depT] at hk
  simp only [wtT] at hN hw ⊢
  obtain ⟨vt, vx, rfl⟩ := RPiece.oneCell ht
  simp only [termV, Thk.Term.ahead, Thk.Term.behind]
  have HPC := hideP (fun O => hI (w.alloc O) kb mb nb N bx S names A a p b (.iface vt vx) (h.below (below_alloc w O)) (hnm.below (below_alloc w O)) (RPiece.kept (sm_below (below_alloc w O)) p _ ht) hA hk hok (by omega) (by omega))
  simp only [termV, Thk.Term.ahead, Thk.Term.behind] at HPC
  have hkl := heap_lt h.blk
  simp only [okT] at hok
  have hoa := hok.1
  have HN := hideP hN
  have HKB := hideP h.blk
  clear h hnm ht hok hI hk hN hA
  rcases hoa with rfl | rfl | rfl
  · go_enter Tryz.func174, Tryz.ntmps174
    go_wp2_with fail
    refine (HPC.out _).mono ?_
    rintro _ w1 ⟨N1, y, n, x, S1, rfl, hx, hn, h1, hg, hl, hd, hK, hS⟩
    have o2 : w1.cell? ⟨w.heap.size, 0, none⟩ = some (.int .u8 0) := cell_of_block (KpM.own (by simpa using hkl) hK) 0
    have HK := hideP hK.alloc
    have HS := hideP ((GrS.refl _ _).below hS (below_alloc w _))
    have HK1 := hideP h1.blk
    have HR : Hid (DnT N1 names n (.mk 0 p b)) := hideP (by simp only [DnT]; exact ⟨n, by simp, hd⟩)
    have HX := hideP hx
    clear hK hd HK1 hx
    go_wp2_with fail
    go_ret
    exact ⟨N1, y, n, x, S1, rfl, HX.out, hn, h1, hg, by omega, HR.out, HK.out, (GrS.refl _ _).below hS (below_alloc _ _)⟩
  · go_enter Tryz.func174, Tryz.ntmps174
    go_wp2_with fail
    refine (HPC.out _).mono ?_
    rintro _ w1 ⟨N1, y, n, x, S1, rfl, hx, hn, h1, hg, hl, hd, hK, hS⟩
    have o2 : w1.cell? ⟨w.heap.size, 0, none⟩ = some (.int .u8 38) := cell_of_block (KpM.own (by simpa using hkl) hK) 0
    have HK := hideP hK.alloc
    have HS := hideP ((GrS.refl _ _).below hS (below_alloc w _))
    have HK1 := hideP h1.blk
    have HM : Hid (Calls Tryz.prog 191 #[ptrV kb, cloV x, .bool true] w1 (Made1 kb mb nb N1 (bx ++ y) S1 (.ahead n true) w1)) := hideP (by have := aheadOf_any h1 (by have := HN.out; omega) n hn true; rw [hx]; exact this)
    have HR : Hid (DnT (N1 ++ [Nd.ahead n true]) names N1.length (.mk 38 p b)) := hideP (by
      have hgo := dnI_goes (Goes.app N1 [Nd.ahead n true]) hd
      simp only [DnT]
      exact ⟨n, by rw [if_neg (by decide)]; simp, hgo⟩)
    have HL := hideP h1.len
    clear hK hd h1 hx hS
    simp only [cloV] at HM ⊢
    go_wp2_with fail
    refine HM.out.mono ?_
    rintro _ w2 hm
    have hmk := Mak.then1 (wt := 2 * (2 + wtP p)) (P := fun N' n => DnT N' names n (.mk 38 p b)) HKB.out HK1.out hg HL.out hl HK.out HS.out HR.out (by omega) hm
    obtain ⟨x2, S2, rfl, h2, h3, h4⟩ := hm
    go_wp2_with fail
    go_ret
    exact hmk
  · go_enter Tryz.func174, Tryz.ntmps174
    go_wp2_with fail
    refine (HPC.out _).mono ?_
    rintro _ w1 ⟨N1, y, n, x, S1, rfl, hx, hn, h1, hg, hl, hd, hK, hS⟩
    have o2 : w1.cell? ⟨w.heap.size, 0, none⟩ = some (.int .u8 33) := cell_of_block (KpM.own (by simpa using hkl) hK) 0
    have HK := hideP hK.alloc
    have HS := hideP ((GrS.refl _ _).below hS (below_alloc w _))
    have HK1 := hideP h1.blk
    have HM : Hid (Calls Tryz.prog 191 #[ptrV kb, cloV x, .bool false] w1 (Made1 kb mb nb N1 (bx ++ y) S1 (.ahead n false) w1)) := hideP (by have := aheadOf_any h1 (by have := HN.out; omega) n hn false; rw [hx]; exact this)
    have HR : Hid (DnT (N1 ++ [Nd.ahead n false]) names N1.length (.mk 33 p b)) := hideP (by
      have hgo := dnI_goes (Goes.app N1 [Nd.ahead n false]) hd
      simp only [DnT]
      exact ⟨n, by rw [if_neg (by decide)]; simp, hgo⟩)
    have HL := hideP h1.len
    clear hK hd h1 hx hS
    simp only [cloV] at HM ⊢
    go_wp2_with fail
    refine HM.out.mono ?_
    rintro _ w2 hm
    have hmk := Mak.then1 (wt := 2 * (2 + wtP p)) (P := fun N' n => DnT N' names n (.mk 33 p b)) HKB.out HK1.out hg HL.out hl HK.out HS.out HR.out (by omega) hm
    obtain ⟨x2, S2, rfl, h2, h3, h4⟩ := hm
    go_wp2_with fail
    go_ret
    exact hmk
end Go.Proofs.YtiganlkabilblaaGreatDoor
