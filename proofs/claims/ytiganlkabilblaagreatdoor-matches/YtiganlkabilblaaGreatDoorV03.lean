import Derived.Test.YtiganlkabilblaaGreatDoorV02
import Derived.Test.YtiganlkabilblaaGreatDoorV00
import Derived.Deep.RegionHeldLaw
import Derived.Deep.RegionLaw
import Derived.Deep.DrawnRows
import Derived.BigQuiet
import Derived.Deep.CutRange
import Derived.Laws.StructEq
import Derived.Test.YtiganlkabilblaaGreatDoorV01
set_option linter.all false
namespace Go.Proofs.YtiganlkabilblaaGreatDoor
open Go.RowKit
structure RCls (s : ByteArray) (k : Nat) (X : List Thk.Span × Nat) (w : World) (j : Nat) (xs : List Thk.Span) (v : Value) (wr : World) : Prop where
  le : k + 1 + j ≤ s.size
  len : xs.length ≤ j
  own : Items wr (w.heap.size + 2) v xs
  tok : wr.heap[w.heap.size + 1]? = some (rtokO 4 k 0 ⟨#[]⟩ v)
  res : wr.heap[w.heap.size]? = some (rtokO 0 0 0 ⟨#[]⟩ (.slice none 0 0))
  below : Below w.heap.size w wr
  size : w.heap.size + 2 ≤ wr.heap.size
  all : X = (xs ++ (Thk.spansL (s.data.toList.drop (k + 1 + j))).1, j + (Thk.spansL (s.data.toList.drop (k + 1 + j))).2)
theorem RCls.tok2 {s : ByteArray} {k : Nat} {X : List Thk.Span × Nat} {w : World} {j : Nat} {xs : List Thk.Span} {v : Value} {wr : World} (h : RCls s k X w j xs v wr) {w2 : World} {O : Obj} (hg : (wr.alloc O).grownBy w2 v.ownBlock) :
    w2.heap[w.heap.size + 1]? = some (rtokO 4 k 0 ⟨#[]⟩ v) := by
  have := h.size
  rw [hg.block _ (by simp; omega) (fun e => by have := (h.own.lt _ e.symm).1; omega), heap_alloc_old _ _ (by omega)]; exact h.tok
theorem RCls.next {s : ByteArray} {k : Nat} {X : List Thk.Span × Nat} {w : World} {j : Nat} {xs : List Thk.Span} {v : Value} {wr : World} (h : RCls s k X w j xs v wr) {w2 : World} {O : Obj} {c : Thk.Span} {n : Nat} {g cap : Nat}
    (hc : Thk.spanL (s.data.toList.drop (k + 1 + j)) = some (c, n)) (ho : w2.ownsRow (w.heap.size + 2) 303 2 (.slice (some ⟨g, 0, none⟩) (xs.length + 1) cap) (xs.length + 1) (xs.flatMap spanC ++ spanC c)) (hg : (wr.alloc O).grownBy w2 v.ownBlock) :
    Hid (RCls s k X w (j + n) (xs ++ [c]) (.slice (some ⟨g, 0, none⟩) (xs.length + 1) cap) (w2.setCell ⟨w.heap.size + 1, 4, none⟩ (.slice (some ⟨g, 0, none⟩) (xs.length + 1) cap))) := by
  have hsz := h.size
  have hz2' := hg.size
  simp at hz2'
  have hle := spanL_le hc
  rw [List.length_drop, show s.data.toList.length = s.size from rfl] at hle
  have hl1 := h.le
  have hl2 := h.len
  have hr2 : w2.heap[w.heap.size]? = some (rtokO 0 0 0 ⟨#[]⟩ (.slice none 0 0)) := by
    rw [hg.block _ (by simp; omega) (fun e => by have := (h.own.lt _ e.symm).1; omega), heap_alloc_old _ _ (by omega)]; exact h.res
  refine ⟨by omega, by simp; omega, ?_, ?_, ?_, ?_, by simp; omega, ?_⟩
  · refine own_set ?_ (by omega)
    simpa using ho
  · rw [setCell_block (h.tok2 hg)]; rfl
  · rw [Below.heap_setCell _ _ _ _ (by simp)]; exact hr2
  · exact ((h.below.alloc (by omega) _).grown hg (by simp; omega) (fun b hb => by have := (h.own.lt b hb).1; omega)).setCell (by simp) _
  · rw [h.all, spansL_some hc, List.drop_drop, show k + 1 + j + n = k + 1 + (j + n) from by omega]
    simp
    omega
set_option maxHeartbeats 4000000 in
set_option maxRecDepth 100000 in
theorem rclass_any (s : ByteArray) (k : Nat) (w : World) (hs : s.size ≤ 2000) (hk : k < s.size) :
    Calls Tryz.prog 139 #[.string s, .int .i64 k] w fun e w' => ∃ v,
      e = .returned (rtokV { Thk.clsT (s.data.toList.drop (k + 1)) with place := k } v) ∧ Below w.heap.size w w' ∧ Items w' w.heap.size v (ritems (Thk.clsT (s.data.toList.drop (k + 1)))) := by
  obtain ⟨X, hX⟩ : ∃ X, X = Thk.spansL (s.data.toList.drop (k + 1)) := ⟨_, rfl⟩
  obtain ⟨T, hT⟩ : ∃ T, T = Thk.clsT (s.data.toList.drop (k + 1)) := ⟨_, rfl⟩
  obtain ⟨C, hC⟩ : ∃ C, C = Thk.closesL (s.data.toList.drop (k + 1)) X.2 93 X.1.length := ⟨_, rfl⟩
  rw [← hT]
  have HT : Hid (T = if C then ⟨.cls, 0, X.2 + 2, [], X.1⟩ else Thk.badT) := by rw [hC, hX]; exact hT
  have HX : Hid (X = Thk.spansL (s.data.toList.drop (k + 1))) := hX
  have HC : Hid (C = Thk.closesL (s.data.toList.drop (k + 1)) X.2 93 X.1.length) := hC
  clear hX hT hC
  obtain ⟨i0, hi, hz0, hz1, hz2⟩ := info_parts Tryz.infoItem
  go_enter Tryz.func139, Tryz.ntmps139
  go_wp2_with fail
  go_loopg [6, 7, 8, 9] (s.size - (k + 1)) (fun m i _ _ _ wr => ∃ (j : Nat) (xs : List Thk.Span) (v : Value), m = s.size - (k + 1 + j) ∧ i = .int .i64 ↑(k + 1 + j) ∧ Hid (RCls s k X w j xs v wr))
  case atStart =>
    refine ⟨0, [], .slice none 0 0, rfl, by go_num, ?_⟩
    refine ⟨by omega, by simp, World.ownsRow_nil _ _ _ _, ?_, ?_, ?_, by simp, ?_⟩
    · rw [show w.heap.size + 1 = (w.alloc (rtokO 0 0 0 ⟨#[]⟩ (.slice none 0 0))).heap.size from by simp]; exact heap_alloc_new _ _
    · rw [heap_alloc_old _ _ (by simp)]; exact heap_alloc_new _ _
    · exact ((Below.refl _ _).alloc (Nat.le_refl _) _).alloc (by simp) _
    · rw [HX.out]; simp
  case round =>
    obtain ⟨j, xs, v, rfl, rfl, hR⟩ := hrel
    have hR1 := hR.out.le
    have hq := cell_of_block hR.out.tok
    have hf := frozen_of_block hR.out.tok
    have hqr := cell_of_block hR.out.res
    have hfr := frozen_of_block hR.out.res
    have hown : wr.ownsRow (w.heap.size + 2) 303 2 v xs.length (xs.flatMap spanC) := hR.out.own
    have hxl := hR.out.len
    have hsz := hR.out.size
    obtain ⟨va, vc, hv⟩ := own_form hown
    subst hv
    have hchar := fun (j : Nat) (hj : j ≤ s.size) (o : Option (UInt8 × Nat)) (h : Thk.charL [93, 45] (s.data.toList.drop j) = o) => rchar_of s ⟨#[93, 45]⟩ ⟨#[110, 116, 92, 93, 45]⟩ j wr hj hs rfl (by decide) (by decide) h
    by_cases hgo : ∃ h : k + 1 + j < s.size, s[k + 1 + j] ≠ 93
    · obtain ⟨hlt, hne⟩ := hgo
      have tq : ((s[k + 1 + j].toNat : Int) != 93) = true := by rw [bne_iff_ne]; intro e; apply hne; apply UInt8.toNat_inj.1; rw [show (93 : UInt8).toNat = 93 from rfl]; omega
      cases hc : Thk.charL [93, 45] (s.data.toList.drop (k + 1 + j)) with
      | none =>
        have hcall := hchar _ hR1 _ hc
        rw [chv_none] at hcall
        have hsp : Thk.spanL (s.data.toList.drop (k + 1 + j)) = none := by unfold Thk.spanL; rw [hc]
        clear hc hchar
        have hD : X = (xs, j) := by rw [hR.out.all, spansL_none hsp]; simp
        subst hD
        have hCf : C = false := by
          rw [HC.out]; unfold Thk.closesL
          simp only []
          rw [getElem?_drop' s (k + 1) j hlt]
          simp [hne]
        subst hCf
        have e1 := HT.out
        simp at e1
        subst e1
        have HB := hR.out.below
        clear hsp hne HT HC HX hR hown hq hf
        go_wp2_with fail
        refine hcall.mono ?_
        rintro e w' ⟨rfl, hw⟩
        replace hw := hw.symm; subst hw
        go_wp2_with fail
        refine bodyPost_ret (v := rtokV { Thk.badT with place := k } (.slice none 0 0)) (by simp [results, Tryz.results139, go_sem, bad_place, hqr, show w.heap.size < wr.heap.size from by omega]) rfl ⟨.slice none 0 0, rfl, ?_, World.ownsRow_nil _ _ _ _⟩
        exact ((((HB.setCell (Nat.le_refl _) _).setCell (Nat.le_refl _) _).setCell (Nat.le_refl _) _).setCell (Nat.le_refl _) _).setCell (Nat.le_refl _) _
      | some p =>
        obtain ⟨lo, n⟩ := p
        have hcall := hchar _ hR1 _ hc
        rw [chv_some] at hcall
        have hle := charL_le hc
        rw [List.length_drop, show s.data.toList.length = s.size from rfl] at hle
        obtain ⟨hn1, hn2⟩ := hle
        have ht : ((n : Int) == 0) = false := beq_eq_false_iff_ne.2 (by omega)
        by_cases hd : ∃ h : k + 1 + j + n < s.size, s[k + 1 + j + n] = 45
        · obtain ⟨hlt2, h45⟩ := hd
          have t45 : ((s[k + 1 + j + n].toNat : Int) == 45) = true := by rw [h45]; rfl
          have hspe : Thk.spanL (s.data.toList.drop (k + 1 + j)) = (match Thk.charL [93, 45] (s.data.toList.drop (k + 1 + j + n + 1)) with | none => none | some (hi, m) => if lo ≤ hi then some ((lo, hi), n + 1 + m) else none) := by
            unfold Thk.spanL
            rw [hc]
            simp only []
            rw [getElem?_drop' s (k + 1 + j) n hlt2, if_pos (by rw [h45]), List.drop_drop]
            rfl
          clear h45 hc
          cases hc2 : Thk.charL [93, 45] (s.data.toList.drop (k + 1 + j + n + 1)) with
          | none =>
            have hcall2 := hchar _ (by omega) _ hc2
            rw [chv_none] at hcall2
            simp only [show ((k + 1 + j + n + 1 : Nat) : Int) = (k : Int) + 1 + j + n + 1 from by omega] at hcall2
            have hsp : Thk.spanL (s.data.toList.drop (k + 1 + j)) = none := by rw [hspe, hc2]
            clear hc2 hspe hchar
            have hD : X = (xs, j) := by rw [hR.out.all, spansL_none hsp]; simp
            subst hD
            have hCf : C = false := by
              rw [HC.out]; unfold Thk.closesL
              simp only []
              rw [getElem?_drop' s (k + 1) j hlt]
              simp [hne]
            subst hCf
            have e1 := HT.out
            simp at e1
            subst e1
            have HB := hR.out.below
            clear hsp hne HT HC HX hR hown hq hf
            go_wp2_with fail
            refine hcall.mono ?_
            rintro e w' ⟨rfl, hw⟩
            replace hw := hw.symm; subst hw
            go_wp2_with fail
            refine hcall2.mono ?_
            rintro e w' ⟨rfl, hw⟩
            replace hw := hw.symm; subst hw
            go_wp2_with fail
            refine bodyPost_ret (v := rtokV { Thk.badT with place := k } (.slice none 0 0)) (by simp [results, Tryz.results139, go_sem, bad_place, hqr, show w.heap.size < wr.heap.size from by omega]) rfl ⟨.slice none 0 0, rfl, ?_, World.ownsRow_nil _ _ _ _⟩
            exact ((((HB.setCell (Nat.le_refl _) _).setCell (Nat.le_refl _) _).setCell (Nat.le_refl _) _).setCell (Nat.le_refl _) _).setCell (Nat.le_refl _) _
          | some p =>
            obtain ⟨hi', m⟩ := p
            have hcall2 := hchar _ (by omega) _ hc2
            rw [chv_some] at hcall2
            simp only [show ((k + 1 + j + n + 1 : Nat) : Int) = (k : Int) + 1 + j + n + 1 from by omega] at hcall2
            have hle := charL_le hc2
            rw [List.length_drop, show s.data.toList.length = s.size from rfl] at hle
            obtain ⟨hm1, hm2⟩ := hle
            have t3 : ((m : Int) == 0) = false := beq_eq_false_iff_ne.2 (by omega)
            rw [hc2] at hspe
            simp only [] at hspe
            by_cases h4 : lo ≤ hi'
            · have t4 : ¬ (hi'.toNat : Int) < lo.toNat := by rw [UInt8.le_iff_toNat_le] at h4; omega
              have HSP : Hid (Thk.spanL (s.data.toList.drop (k + 1 + j)) = some ((lo, hi'), n + 1 + m)) := by rw [if_pos h4] at hspe; exact hspe
              clear h4 hspe hc2 hchar hne
              go_wp2_with fail
              refine hcall.mono ?_
              rintro e w' ⟨rfl, hw⟩
              replace hw := hw.symm; subst hw
              go_wp2_with fail
              refine hcall2.mono ?_
              rintro e w' ⟨rfl, hw⟩
              replace hw := hw.symm; subst hw
              clear hcall hcall2
              go_wp2_with (first | (at_builtin; refine wpList_append_lies _ rfl _ _ 147 rfl (w.heap.size + 2) 303 i0 _ 2 2 Tryz.underlying147 hi hz0 hz1 hz2 rfl (by decide) _ _ _ rfl (hown.alloc _) ⟨wr.heap.size, 0, none⟩ 1 1 (spanC (lo, hi')) rfl rfl ?c1 ?c2 (by decide) ?c3 ?c4 ?c5 _ rfl ?_))
              case c1 => first | exact cell_two_new' _ _ _ _ | exact fun _ _ h => h
              case c2 => intro u hu; simp [spanC] at hu; rcases hu with rfl | rfl <;> rfl
              case c3 => unfold maxLen; omega
              case c4 => omega
              case c5 => first | omega | (simp; omega)
              intro g cap w2 hown' hgrow hat hgl
              have hN := hR.out.next HSP.out hown' hgrow
              have ht2 := hR.out.tok2 hgrow
              have hq2 := cell_of_block ht2
              have hf2 := frozen_of_block ht2
              clear hown' hgrow hown hR hq hf hqr hfr ht2
              go_wp2_with fail
              go_roundg (s.size - (k + 1 + (j + (n + 1 + m))))
              case measure => omega
              case rel => exact ⟨j + (n + 1 + m), xs ++ [(lo, hi')], _, rfl, by go_num, hN⟩
            · have t4 : (hi'.toNat : Int) < lo.toNat := by rw [UInt8.le_iff_toNat_le] at h4; omega
              have hsp : Thk.spanL (s.data.toList.drop (k + 1 + j)) = none := by rw [if_neg h4] at hspe; exact hspe
              clear h4 hspe hc2 hchar
              have hD : X = (xs, j) := by rw [hR.out.all, spansL_none hsp]; simp
              subst hD
              have hCf : C = false := by
                rw [HC.out]; unfold Thk.closesL
                simp only []
                rw [getElem?_drop' s (k + 1) j hlt]
                simp [hne]
              subst hCf
              have e1 := HT.out
              simp at e1
              subst e1
              have HB := hR.out.below
              clear hsp hne HT HC HX hR hown hq hf
              go_wp2_with fail
              refine hcall.mono ?_
              rintro e w' ⟨rfl, hw⟩
              replace hw := hw.symm; subst hw
              go_wp2_with fail
              refine hcall2.mono ?_
              rintro e w' ⟨rfl, hw⟩
              replace hw := hw.symm; subst hw
              go_wp2_with fail
              refine bodyPost_ret (v := rtokV { Thk.badT with place := k } (.slice none 0 0)) (by simp [results, Tryz.results139, go_sem, bad_place, hqr, show w.heap.size < wr.heap.size from by omega]) rfl ⟨.slice none 0 0, rfl, ?_, World.ownsRow_nil _ _ _ _⟩
              exact ((((HB.setCell (Nat.le_refl _) _).setCell (Nat.le_refl _) _).setCell (Nat.le_refl _) _).setCell (Nat.le_refl _) _).setCell (Nat.le_refl _) _
        · have HSP : Hid (Thk.spanL (s.data.toList.drop (k + 1 + j)) = some ((lo, lo), n)) := by
            show _ = _
            unfold Thk.spanL
            rw [hc]
            simp only []
            rw [if_neg]
            by_cases h : k + 1 + j + n < s.size
            · rw [getElem?_drop' s (k + 1 + j) n h]
              intro e
              exact hd ⟨h, by simpa using e⟩
            · rw [getElem?_drop_end s (k + 1 + j) n (by omega)]; simp
          clear hc hchar hne
          by_cases hlt2 : k + 1 + j + n < s.size
          · have t45 : ((s[k + 1 + j + n].toNat : Int) == 45) = false := by
              rw [beq_eq_false_iff_ne]; intro e; apply hd; refine ⟨hlt2, ?_⟩; apply UInt8.toNat_inj.1; rw [show (45 : UInt8).toNat = 45 from rfl]; omega
            clear hd
            go_wp2_with fail
            refine hcall.mono ?_
            rintro e w' ⟨rfl, hw⟩
            replace hw := hw.symm; subst hw
            clear hcall
            go_wp2_with (first | (at_builtin; refine wpList_append_lies _ rfl _ _ 147 rfl (w.heap.size + 2) 303 i0 _ 2 2 Tryz.underlying147 hi hz0 hz1 hz2 rfl (by decide) _ _ _ rfl (hown.alloc _) ⟨wr.heap.size, 0, none⟩ 1 1 (spanC (lo, lo)) rfl rfl ?c1 ?c2 (by decide) ?c3 ?c4 ?c5 _ rfl ?_))
            case c1 => first | exact cell_two_new' _ _ _ _ | exact fun _ _ h => h
            case c2 => intro u hu; simp [spanC] at hu; subst hu; rfl
            case c3 => unfold maxLen; omega
            case c4 => omega
            case c5 => first | omega | (simp; omega)
            intro g cap w2 hown' hgrow hat hgl
            have hN := hR.out.next HSP.out hown' hgrow
            have ht2 := hR.out.tok2 hgrow
            have hq2 := cell_of_block ht2
            have hf2 := frozen_of_block ht2
            clear hown' hgrow hown hR hq hf hqr hfr ht2
            go_wp2_with fail
            go_roundg (s.size - (k + 1 + (j + (n))))
            case measure => omega
            case rel => exact ⟨j + (n), xs ++ [(lo, lo)], _, rfl, by go_num, hN⟩
          · clear hd
            go_wp2_with fail
            refine hcall.mono ?_
            rintro e w' ⟨rfl, hw⟩
            replace hw := hw.symm; subst hw
            clear hcall
            go_wp2_with (first | (at_builtin; refine wpList_append_lies _ rfl _ _ 147 rfl (w.heap.size + 2) 303 i0 _ 2 2 Tryz.underlying147 hi hz0 hz1 hz2 rfl (by decide) _ _ _ rfl (hown.alloc _) ⟨wr.heap.size, 0, none⟩ 1 1 (spanC (lo, lo)) rfl rfl ?c1 ?c2 (by decide) ?c3 ?c4 ?c5 _ rfl ?_))
            case c1 => first | exact cell_two_new' _ _ _ _ | exact fun _ _ h => h
            case c2 => intro u hu; simp [spanC] at hu; subst hu; rfl
            case c3 => unfold maxLen; omega
            case c4 => omega
            case c5 => first | omega | (simp; omega)
            intro g cap w2 hown' hgrow hat hgl
            have hN := hR.out.next HSP.out hown' hgrow
            have ht2 := hR.out.tok2 hgrow
            have hq2 := cell_of_block ht2
            have hf2 := frozen_of_block ht2
            clear hown' hgrow hown hR hq hf hqr hfr ht2
            go_wp2_with fail
            go_roundg (s.size - (k + 1 + (j + (n))))
            case measure => omega
            case rel => exact ⟨j + (n), xs ++ [(lo, lo)], _, rfl, by go_num, hN⟩
    · have hsp : Thk.spanL (s.data.toList.drop (k + 1 + j)) = none := by
        unfold Thk.spanL
        by_cases hlt : k + 1 + j < s.size
        · have h39 : s[k + 1 + j] = 93 := by
            by_cases h : s[k + 1 + j] = 93
            · exact h
            · exact absurd ⟨hlt, h⟩ hgo
          rw [drop_cons s _ hlt, h39]; rfl
        · rw [drop_end s _ (by omega)]; rfl
      have hD : X = (xs, j) := by rw [hR.out.all, spansL_none hsp]; simp
      clear hsp hchar
      subst hD
      have HB := hR.out.below
      by_cases hlt : k + 1 + j < s.size
      · have h39 : s[k + 1 + j] = 93 := by
          by_cases h : s[k + 1 + j] = 93
          · exact h
          · exact absurd ⟨hlt, h⟩ hgo
        have tq : ((s[k + 1 + j].toNat : Int) != 93) = false := by rw [h39]; rfl
        have hCe : C = (decide (1 ≤ xs.length) && decide (xs.length ≤ 20)) := by
          rw [HC.out]; unfold Thk.closesL
          simp only []
          rw [getElem?_drop' s (k + 1) j hlt, h39]
          simp
        clear hgo h39
        by_cases h1 : 1 ≤ xs.length
        · by_cases h20 : xs.length ≤ 20
          · have hCt : C = true := by rw [hCe]; simp [h1, h20]
            subst hCt
            have e1 := HT.out
            simp only [if_true] at e1
            subst e1
            have HI : Hid (Items wr (w.heap.size + 2) (.slice va xs.length vc) xs) := hR.out.own
            clear HT HC HX hR hown hCe
            go_wp2_with fail
            refine bodyPost_ret (v := .agg #[.int .i64 4, .int .i64 k, .int .i64 ↑(k + (j + 2)), .string ⟨#[]⟩, .slice va xs.length vc]) (by simp [results, Tryz.results139, go_sem, hqr, hq, show w.heap.size < wr.heap.size from by omega]; omega) rfl ⟨.slice va xs.length vc, rfl, ?_, ?_⟩
            · exact (((((HB.setCell (by simp) _).setCell (Nat.le_refl _) _).setCell (Nat.le_refl _) _).setCell (Nat.le_refl _) _).setCell (Nat.le_refl _) _).setCell (Nat.le_refl _) _
            · have hI := HI.out
              refine own_mono (own_set (own_set (own_set (own_set (own_set (own_set hI ?_) ?_) ?_) ?_) ?_) ?_) (by omega : w.heap.size ≤ w.heap.size + 2) <;> omega
          · have hCf : C = false := by rw [hCe]; simp [h20]
            subst hCf
            have e1 := HT.out
            simp at e1
            subst e1
            clear HT HC HX hR hown hCe
            go_wp2_with fail
            refine bodyPost_ret (v := rtokV { Thk.badT with place := k } (.slice none 0 0)) (by simp [results, Tryz.results139, go_sem, bad_place, hqr, show w.heap.size < wr.heap.size from by omega]) rfl ⟨.slice none 0 0, rfl, ?_, World.ownsRow_nil _ _ _ _⟩
            exact ((((HB.setCell (Nat.le_refl _) _).setCell (Nat.le_refl _) _).setCell (Nat.le_refl _) _).setCell (Nat.le_refl _) _).setCell (Nat.le_refl _) _
        · have hCf : C = false := by rw [hCe]; simp [h1]
          subst hCf
          have e1 := HT.out
          simp at e1
          subst e1
          clear HT HC HX hR hown hCe
          go_wp2_with fail
          refine bodyPost_ret (v := rtokV { Thk.badT with place := k } (.slice none 0 0)) (by simp [results, Tryz.results139, go_sem, bad_place, hqr, show w.heap.size < wr.heap.size from by omega]) rfl ⟨.slice none 0 0, rfl, ?_, World.ownsRow_nil _ _ _ _⟩
          exact ((((HB.setCell (Nat.le_refl _) _).setCell (Nat.le_refl _) _).setCell (Nat.le_refl _) _).setCell (Nat.le_refl _) _).setCell (Nat.le_refl _) _
      · have hCf : C = false := by
          rw [HC.out]; unfold Thk.closesL
          simp only []
          rw [getElem?_drop_end s (k + 1) j (by omega)]
          rfl
        subst hCf
        have e1 := HT.out
        simp at e1
        subst e1
        clear HT HC HX hR hown hgo
        go_wp2_with fail
        refine bodyPost_ret (v := rtokV { Thk.badT with place := k } (.slice none 0 0)) (by simp [results, Tryz.results139, go_sem, bad_place, hqr, show w.heap.size < wr.heap.size from by omega]) rfl ⟨.slice none 0 0, rfl, ?_, World.ownsRow_nil _ _ _ _⟩
        exact ((((HB.setCell (Nat.le_refl _) _).setCell (Nat.le_refl _) _).setCell (Nat.le_refl _) _).setCell (Nat.le_refl _) _).setCell (Nat.le_refl _) _
end Go.Proofs.YtiganlkabilblaaGreatDoor
namespace Go.Proofs.YtiganlkabilblaaGreatDoor
open Go.RowKit
attribute [local go_sem ↓] Go.wp_at_zero Go.wp_at_succ
theorem Tryz.infoExpr : (Tryz.prog.info? 149).map (fun i => (i.zero, i.size, i.bytes)) = some (some (.agg #[.int .i64 0, .slice none 0 0, .string ⟨#[]⟩, .int .i64 0, .slice none 0 0]), 5, 80) := by kernel_rfl
def exC (p : Thk.RE × Value × Value) : List Value := [.int .i64 p.1.kind, p.2.1, .string ⟨p.1.text.toArray⟩, .int .i64 p.1.rule, p.2.2]
def ruC (r : Thk.Bytes × Nat) : List Value := [.string ⟨r.1.toArray⟩, .int .i64 r.2]
def opC (p : Thk.OP × Value × Value) : List Value := [p.2.1, p.2.2, .string ⟨p.1.sign.toArray⟩]
def intV (n : Nat) : Value := .int .i64 n
def Ints (w : World) (B : Nat) (v : Value) (ns : List Nat) : Prop := w.ownsRow B 3 1 v ns.length (ns.map intV)
abbrev rdO (vx vr vo : Value) (sg : Thk.Bytes) (may : Bool) : Obj := .cells #[vx, vr, vo, .string ⟨sg.toArray⟩, .bool may] 204 (0, 0)
/-- What add asks and gives. -/
structure AddEnd (w : World) (B rb : Nat) (vx vr vo : Value) (sg : Thk.Bytes) (may : Bool) (cs news : List Value) (n : Nat) (w' : World) (g cap : Nat) : Prop where
  blk : w'.heap[rb]? = some (rdO (.slice (some ⟨g, 0, none⟩) (n + 1) cap) vr vo sg may)
  own : w'.ownsRow B 149 5 (.slice (some ⟨g, 0, none⟩) (n + 1) cap) (n + 1) (cs ++ news)
  at_ : vx.ownBlock = some g ∨ w.heap.size ≤ g
  size : w.heap.size ≤ w'.heap.size
  same : ∀ k, k < w.heap.size → k ≠ rb → some k ≠ vx.ownBlock → w'.heap[k]? = w.heap[k]?
  os : w'.os = w.os
  tape : w'.tape = w.tape
  output : w'.output = w.output
theorem own_set_ne {w : World} {b o : Nat} {u : Value} {base : Nat} {e : TypeId} {size : Nat} {v : Value} {n : Nat} {xs : List Value} (h : w.ownsRow base e size v n xs) (hb : v.ownBlock ≠ some b) : (w.setCell ⟨b, o, none⟩ u).ownsRow base e size v n xs :=
  own_blocks h (fun g hg => Below.heap_setCell _ _ _ _ (fun e => hb (by rw [hg, e])))
theorem addEnd_of {w : World} {B rb : Nat} {xa : Option Addr} {xc n : Nat} {vr vo : Value} {sg : Thk.Bytes} {may : Bool} {cs news : List Value} {O1 O2 : Obj} {w1 : World} {g cap : Nat}
    (hr : w.heap[rb]? = some (rdO (.slice xa n xc) vr vo sg may)) (hne : ∀ g, (Value.slice xa n xc).ownBlock = some g → g ≠ rb)
    (ho : w1.ownsRow B 149 5 (.slice (some ⟨g, 0, none⟩) (n + 1) cap) (n + 1) (cs ++ news)) (hg : ((w.alloc O1).alloc O2).drew.grownBy w1 (Value.slice xa n xc).ownBlock)
    (hat : (Value.slice xa n xc).ownBlock = some g ∨ g = w.heap.size + 2) :
    AddEnd w B rb (.slice xa n xc) vr vo sg may cs news n (w1.setCell ⟨rb, 0, none⟩ (.slice (some ⟨g, 0, none⟩) (n + 1) cap)) g cap := by
  have hrl := heap_lt' hr
  have hsz := hg.size
  rw [show (((w.alloc O1).alloc O2).drew).heap.size = w.heap.size + 2 from by show ((w.alloc O1).alloc O2).heap.size = _; simp] at hsz
  have hgr : g ≠ rb := by rcases hat with h | h
                          · exact hne g h
                          · omega
  have hold : ∀ k, k < w.heap.size → some k ≠ (Value.slice xa n xc).ownBlock → w1.heap[k]? = w.heap[k]? := by
    intro k hk hk2
    rw [hg.block k (by show k < ((w.alloc O1).alloc O2).heap.size; simp; omega) hk2]
    show ((w.alloc O1).alloc O2).heap[k]? = _
    rw [heap_alloc_old _ _ (by simp; omega), heap_alloc_old _ _ hk]
  have hr1 : w1.heap[rb]? = some (rdO (.slice xa n xc) vr vo sg may) := by rw [hold rb hrl (fun e => hne rb e.symm rfl)]; exact hr
  refine ⟨?_, ?_, ?_, by simp; omega, ?_, hg.os, hg.tape, hg.output⟩
  · rw [setCell_block hr1]; rfl
  · exact own_set_ne ho (by simpa [Value.ownBlock] using hgr)
  · rcases hat with h | h
    · exact .inl h
    · right; omega
  · intro k hk h1 h2
    rw [Below.heap_setCell _ _ _ _ h1]; exact hold k hk h2
set_option maxHeartbeats 4000000 in
set_option maxRecDepth 100000 in
theorem radd_any (w : World) (B rb : Nat) (xa : Option Addr) (xc n : Nat) (vr vo : Value) (sg : Thk.Bytes) (may : Bool) (cs : List Value) (k : Nat) (ia : Option Addr) (il ic : Nat) (t : ByteArray) (r : Int) (pa : Option Addr) (pl pc : Nat)
    (hr : w.heap[rb]? = some (rdO (.slice xa n xc) vr vo sg may)) (hown : w.ownsRow B 149 5 (.slice xa n xc) n cs) (hn : n ≤ 100000) (hB : B ≤ rb) :
    Calls Tryz.prog 102 #[.pointer (some ⟨rb, 0, none⟩), .agg #[.int .i64 k, .slice ia il ic, .string t, .int .i64 r, .slice pa pl pc]] w fun e w' =>
      ∃ g cap, e = .returned (.int .i64 n) ∧ AddEnd w B rb (.slice xa n xc) vr vo sg may cs [.int .i64 k, .slice ia il ic, .string t, .int .i64 r, .slice pa pl pc] n w' g cap := by
  obtain ⟨i0, hi, hz0, hz1, hz2⟩ := info_parts Tryz.infoExpr
  have hq := cell_of_block hr
  have hf := frozen_of_block hr
  have hrl := heap_lt' hr
  have c0 := hq 0
  have hlt := fun g e => (hown.lt g e).2
  have hge := fun g e => (hown.lt g e).1
  have hne : ∀ g, (Value.slice xa n xc).ownBlock = some g → g ≠ rb := by
    intro g hg e
    subst e
    rcases hown.2 with ⟨hv, _⟩ | ⟨g', cap', cur, hv, _, hg', _⟩
    · rw [hv] at hg; simp [Value.ownBlock] at hg
    · rw [hv] at hg; simp [Value.ownBlock] at hg; subst hg; rw [hr] at hg'; simp at hg'
  have n1 : some rb ≠ (Value.slice xa n xc).ownBlock := fun e => hne _ e.symm rfl
  have n2 : some w.heap.size ≠ (Value.slice xa n xc).ownBlock := fun e => Nat.lt_irrefl _ (hlt _ e.symm)
  have hnb : (((w.alloc (.cells #[.int .i64 k, .slice ia il ic, .string t, .int .i64 r, .slice pa pl pc] 149)).alloc (.cells #[.int .i64 k, .slice ia il ic, .string t, .int .i64 r, .slice pa pl pc] 149)).drew).heap[w.heap.size + 1]? = some (.cells #[.int .i64 k, .slice ia il ic, .string t, .int .i64 r, .slice pa pl pc] 149 (0, 0)) := by
    show ((w.alloc _).alloc _).heap[_]? = _
    rw [show w.heap.size + 1 = (w.alloc (.cells #[.int .i64 k, .slice ia il ic, .string t, .int .i64 r, .slice pa pl pc] 149)).heap.size from by simp]; exact heap_alloc_new _ _
  have HNB := (show Hid _ from hnb)
  have z1 : (w.alloc (.cells #[.int .i64 k, .slice ia il ic, .string t, .int .i64 r, .slice pa pl pc] 149)).frozen? ⟨rb, 0, none⟩ = false := by rw [World.frozen?_alloc_old _ _ _ (by simp only []; omega)]; exact hf 0
  have z2 : ((w.alloc (.cells #[.int .i64 k, .slice ia il ic, .string t, .int .i64 r, .slice pa pl pc] 149)).alloc (.cells #[.int .i64 k, .slice ia il ic, .string t, .int .i64 r, .slice pa pl pc] 149)).frozen? ⟨rb, 0, none⟩ = false := by rw [World.frozen?_alloc_old _ _ _ (by simp; omega)]; exact z1
  have H1 : Hid (∀ u ∈ [Value.int .i64 k, .slice ia il ic, .string t, .int .i64 r, .slice pa pl pc], u.oneCell' = true) := by
    intro u hu
    simp at hu
    rcases hu with rfl | rfl | rfl | rfl | rfl <;> rfl
  have HNE : Hid (∀ g, (Value.slice xa n xc).ownBlock = some g → g ≠ rb) := hne
  have z3 : (((w.alloc (.cells #[.int .i64 k, .slice ia il ic, .string t, .int .i64 r, .slice pa pl pc] 149)).alloc (.cells #[.int .i64 k, .slice ia il ic, .string t, .int .i64 r, .slice pa pl pc] 149)).drew).cell? ⟨rb, 0, none⟩ = some (.slice xa n xc) := by
    show ((w.alloc _).alloc _).cell? _ = _
    rw [World.cell?_alloc_lt _ _ _ (by simp; omega), World.cell?_alloc_lt _ _ _ (by simp only []; omega)]; exact c0
  have HR : Hid (w.heap[rb]? = some (rdO (.slice xa n xc) vr vo sg may)) := hr
  have HOWN : Hid (w.ownsRow B 149 5 (.slice xa n xc) n cs) := hown
  have HM : Hid (n + 1 ≤ maxLen) := by show _ ≤ _; unfold maxLen; omega
  clear hne hr hown hlt hge hq hnb
  go_enter Tryz.func102, Tryz.ntmps102
  go_wp2_with fail
  go_region_law
    ((refine step_append_lies _ (by rfl) _ _ _ (by rfl) B 149 i0 _ 5 80 Tryz.underlying82 hi hz0 hz1 hz2 (by rfl) (by decide) _ _ _ (by rfl) ((HOWN.out.alloc _).alloc _) ⟨w.heap.size + 1, 0, none⟩ 1 1 [.int .i64 k, .slice ia il ic, .string t, .int .i64 r, .slice pa pl pc] (by rfl) (by rfl) (World.news_of_block HNB.out) H1.out (by decide) HM.out (by omega) (by simp; omega) (w.heap.size + 2) (by simp) ?_; intro g cap w1 hown1 hgrow hat hlt; have y1 := (hgrow.frozen_far ⟨rb, 0, none⟩ (by simp; omega) n1).trans z2; have y2 : w1.cell? ⟨rb, 0, none⟩ = some (.slice xa n xc) := (hgrow.cell_far ⟨rb, 0, none⟩ (by simp; omega) n1).trans z3; have HA := addEnd_of HR.out HNE.out hown1 hgrow hat; clear hown1 hgrow hat))
  all_goals go_wp2_with fail
  all_goals
    go_ret
    exact ⟨_, _, by simp, HA⟩
end Go.Proofs.YtiganlkabilblaaGreatDoor
namespace Go.Proofs.YtiganlkabilblaaGreatDoor
open Go.RowKit
/-- All blocks but b are as they were. -/
structure Chg (b : Nat) (w w' : World) : Prop where
  os : w'.os = w.os
  tape : w'.tape = w.tape
  output : w'.output = w.output
  size : w.heap.size ≤ w'.heap.size
  same : ∀ k, k < w.heap.size → k ≠ b → w'.heap[k]? = w.heap[k]?
theorem Chg.set (b o : Nat) (u : Value) (w : World) : Chg b w (w.setCell ⟨b, o, none⟩ u) := ⟨rfl, rfl, rfl, by simp, fun k _ h => Below.heap_setCell _ _ _ _ h⟩
theorem Chg.grown {b : Nat} {w w' : World} {row : Option Nat} (h : w.grownBy w' row) (hr : ∀ k, row = some k → k = b) : Chg b w w' :=
  ⟨h.os, h.tape, h.output, h.size, fun k hk hb => h.block k hk (fun e => hb (hr k e.symm))⟩
theorem Chg.of_below {b : Nat} {w w' : World} (h : Below w.heap.size w w') : Chg b w w' := ⟨h.os, h.tape, h.output, h.size, fun k hk _ => h.block k hk⟩
theorem own_keep {b : Nat} {w w' : World} (c : Chg b w w') {base : Nat} {e : TypeId} {size : Nat} {v : Value} {n : Nat} {xs : List Value} (h : w.ownsRow base e size v n xs) (hb : v.ownBlock ≠ some b) : w'.ownsRow base e size v n xs :=
  own_blocks h (fun g hg => c.same g (h.lt g hg).2 (fun e => hb (by rw [hg, e])))
theorem own_ty {w : World} {base : Nat} {e : TypeId} {size : Nat} {v : Value} {n : Nat} {xs : List Value} (h : w.ownsRow base e size v n xs) {b : Nat} {cs : Array Value} {t : TypeId} {fr : Nat × Nat} (hb : w.heap[b]? = some (.cells cs t fr)) (ht : e ≠ t) : v.ownBlock ≠ some b := by
  intro hv
  rcases h.2 with ⟨rfl, _⟩ | ⟨g, cap, cur, rfl, _, hg, _⟩
  · simp [Value.ownBlock] at hv
  · simp [Value.ownBlock] at hv; subst hv; rw [hg] at hb; simp at hb; exact ht hb.2.1
theorem own_blk {w : World} {base : Nat} {e : TypeId} {size : Nat} {v : Value} {n : Nat} {xs : List Value} (h : w.ownsRow base e size v n xs) {b : Nat} (hv : v.ownBlock = some b) : ∃ cs, w.heap[b]? = some (.cells cs e (0, 0)) := by
  rcases h.2 with ⟨rfl, _⟩ | ⟨g, cap, cur, rfl, _, hg, _⟩
  · simp [Value.ownBlock] at hv
  · simp [Value.ownBlock] at hv; subst hv; exact ⟨_, hg⟩
theorem own_ty2 {w : World} {base : Nat} {e : TypeId} {size : Nat} {v : Value} {n : Nat} {xs : List Value} (h : w.ownsRow base e size v n xs) {base' : Nat} {e' : TypeId} {size' : Nat} {v' : Value} {n' : Nat} {xs' : List Value} (h' : w.ownsRow base' e' size' v' n' xs') (ht : e ≠ e') {b : Nat} (hv : v'.ownBlock = some b) : v.ownBlock ≠ some b := by
  obtain ⟨cs, hb⟩ := own_blk h' hv
  exact own_ty h hb ht
/-- What a call on the reading leaves as it was: what lies below B, and the blocks of other types. -/
def rdTys : List TypeId := [204, 149, 90, 209, 3]
structure KT (B : Nat) (w w' : World) : Prop where
  os : w'.os = w.os
  tape : w'.tape = w.tape
  output : w'.output = w.output
  size : w.heap.size ≤ w'.heap.size
  low : ∀ k, k < B → w'.heap[k]? = w.heap[k]?
  ty : ∀ (k : Nat) (cs : Array Value) (t : TypeId) (fr : Nat × Nat), w.heap[k]? = some (Obj.cells cs t fr) → t ∉ rdTys → w'.heap[k]? = w.heap[k]?
theorem KT.refl (B : Nat) (w : World) : KT B w w := ⟨rfl, rfl, rfl, Nat.le_refl _, fun _ _ => rfl, fun _ _ _ _ _ _ => rfl⟩
theorem KT.trans {B : Nat} {a b c : World} (h : KT B a b) (k : KT B b c) : KT B a c :=
  ⟨k.os.trans h.os, k.tape.trans h.tape, k.output.trans h.output, Nat.le_trans h.size k.size, fun i hi => (k.low i hi).trans (h.low i hi), fun i cs t fr hi ht => (k.ty i cs t fr ((h.ty i cs t fr hi ht).trans hi) ht).trans (h.ty i cs t fr hi ht)⟩
theorem KT.alloc (B : Nat) (w : World) (hB : B ≤ w.heap.size) (o : Obj) : KT B w (w.alloc o) :=
  ⟨rfl, rfl, rfl, by simp, fun k hk => heap_alloc_old _ _ (by omega), fun k cs t fr hk _ => heap_alloc_old _ _ (heap_lt' hk)⟩
theorem KT.drew {B : Nat} {a w : World} (h : KT B a w) : KT B a w.drew := ⟨h.os, h.tape, h.output, h.size, h.low, h.ty⟩
theorem KT.drewN {B : Nat} {a w : World} (h : KT B a w) (q : Nat) : KT B a (w.drewN q) := ⟨h.os, h.tape, h.output, h.size, h.low, h.ty⟩
theorem KT.chg {B b : Nat} {w w' : World} (c : Chg b w w') (hs : B ≤ w.heap.size) (hB : B ≤ b) (ht : ∀ (cs : Array Value) (t : TypeId) (fr : Nat × Nat), w.heap[b]? = some (Obj.cells cs t fr) → t ∈ rdTys) : KT B w w' :=
  ⟨c.os, c.tape, c.output, c.size, fun k hk => c.same k (by omega) (by omega), fun k cs t fr hk htt => c.same k (heap_lt' hk) (fun e => by subst e; exact htt (ht cs t fr hk))⟩
/-- What lies in memory: the rows' values, with the reading's state. -/
structure MV where
  vx : Value
  vr : Value
  vo : Value
  xs : List (Thk.RE × Value × Value)
  rs : List (Thk.Bytes × Nat)
  os : List (Thk.OP × Value × Value)
  sign : Thk.Bytes
  may : Bool
def MV.st (M : MV) : Thk.ST := ⟨M.xs.map (·.1), M.rs, M.os.map (·.1), M.sign, M.may⟩
def Lab (lab : Nat → Nat) (v : Value) (l : Nat) : Prop := ∀ g, v.ownBlock = some g → lab g = l
structure Mem (w : World) (B rb : Nat) (M : MV) (lab : Nat → Nat) (P : Nat → Prop) : Prop where
  ge : B ≤ rb
  blk : w.heap[rb]? = some (rdO M.vx M.vr M.vo M.sign M.may)
  ex : w.ownsRow B 149 5 M.vx M.xs.length (M.xs.flatMap exC)
  ru : w.ownsRow B 90 2 M.vr M.rs.length (M.rs.flatMap ruC)
  op : w.ownsRow B 209 3 M.vo M.os.length (M.os.flatMap opC)
  items : ∀ p ∈ M.xs, Items w B p.2.1 p.1.items
  parts : ∀ p ∈ M.xs, Ints w B p.2.2 p.1.parts ∧ ∀ g, p.2.2.ownBlock = some g → P (lab g)
  opens : ∀ k (h : k < M.os.length), Ints w B M.os[k].2.1 M.os[k].1.seqs ∧ Lab lab M.os[k].2.1 (2 * k + 1) ∧ Ints w B M.os[k].2.2 M.os[k].1.terms ∧ Lab lab M.os[k].2.2 (2 * k + 2)
theorem Mem.lt {w : World} {B rb : Nat} {M : MV} {lab : Nat → Nat} {P : Nat → Prop} (h : Mem w B rb M lab P) : rb < w.heap.size := heap_lt' h.blk
/-- All old blocks as they were: new labels may be given to new blocks. -/
theorem Mem.below {w w' : World} {B rb : Nat} {M : MV} {lab lab' : Nat → Nat} {P : Nat → Prop} (h : Mem w B rb M lab P) (hb : Below w.heap.size w w') (hl : ∀ g, g < w.heap.size → lab' g = lab g) : Mem w' B rb M lab' P := by
  refine ⟨h.ge, by rw [hb.block rb h.lt]; exact h.blk, own_below h.ex hb, own_below h.ru hb, own_below h.op hb, fun p hp => own_below (h.items p hp) hb, ?_, ?_⟩
  · intro p hp
    obtain ⟨h1, h2⟩ := h.parts p hp
    exact ⟨own_below h1 hb, fun g hg => by rw [hl g (h1.lt g hg).2]; exact h2 g hg⟩
  · intro k hk
    obtain ⟨h1, h2, h3, h4⟩ := h.opens k hk
    exact ⟨own_below h1 hb, fun g hg => by rw [hl g (h1.lt g hg).2]; exact h2 g hg, own_below h3 hb, fun g hg => by rw [hl g (h3.lt g hg).2]; exact h4 g hg⟩
/-- One expression more. -/
theorem Mem.add {w w' : World} {B rb : Nat} {M : MV} {lab : Nat → Nat} {P : Nat → Prop} (h : Mem w B rb M lab P) {g cap : Nat} {re : Thk.RE} {iv pv : Value} (he : AddEnd w B rb M.vx M.vr M.vo M.sign M.may (M.xs.flatMap exC) (exC (re, iv, pv)) M.xs.length w' g cap)
    (hi : Items w B iv re.items) (hp : Ints w B pv re.parts) (hl : ∀ b, pv.ownBlock = some b → P (lab b)) :
    Mem w' B rb { M with vx := .slice (some ⟨g, 0, none⟩) (M.xs.length + 1) cap, xs := M.xs ++ [(re, iv, pv)] } lab P ∧ KT B w w' := by
  have hk : ∀ {e : TypeId} {sz : Nat} {u : Value} {n : Nat} {cs : List Value}, w.ownsRow B e sz u n cs → e ≠ 149 → e ≠ 204 → w'.ownsRow B e sz u n cs := by
    intro e sz u n cs hu h1 h2
    refine own_blocks hu (fun b hb => he.same b (hu.lt b hb).2 ?_ ?_)
    · intro e1; subst e1; exact own_ty hu h.blk h2 hb
    · intro e1; exact own_ty2 hu h.ex h1 e1.symm hb
  have hB := h.ge
  have hr := h.lt
  refine ⟨⟨h.ge, he.blk, by simpa using he.own, hk h.ru (by decide) (by decide), hk h.op (by decide) (by decide), ?_, ?_, ?_⟩, ⟨he.os, he.tape, he.output, he.size, ?_, ?_⟩⟩
  · intro p hpm
    rcases List.mem_append.1 hpm with hpm | hpm
    · exact hk (h.items p hpm) (by decide) (by decide)
    · simp at hpm; subst hpm; exact hk hi (by decide) (by decide)
  · intro p hpm
    rcases List.mem_append.1 hpm with hpm | hpm
    · obtain ⟨h1, h2⟩ := h.parts p hpm
      exact ⟨hk h1 (by decide) (by decide), h2⟩
    · simp at hpm; subst hpm; exact ⟨hk hp (by decide) (by decide), hl⟩
  · intro k hk'
    obtain ⟨h1, h2, h3, h4⟩ := h.opens k hk'
    exact ⟨hk h1 (by decide) (by decide), h2, hk h3 (by decide) (by decide), h4⟩
  · intro k hk'
    refine he.same k (by omega) (by omega) (fun e => ?_)
    have := (h.ex.lt k e.symm).1
    omega
  · intro k cs t fr hk' ht
    refine he.same k (heap_lt' hk') ?_ ?_
    · intro e; subst e; rw [h.blk] at hk'; simp at hk'; rw [← hk'.2.1] at ht; exact ht (by decide)
    · intro e
      obtain ⟨cs', hc⟩ := own_blk h.ex e.symm
      rw [hk'] at hc; simp at hc; rw [hc.2.1] at ht; exact ht (by decide)
/-- A cell of the reading itself that is no row. -/
theorem Mem.setSign {w : World} {B rb : Nat} {M : MV} {lab : Nat → Nat} {P : Nat → Prop} (h : Mem w B rb M lab P) (s : Thk.Bytes) : Mem (w.setCell ⟨rb, 3, none⟩ (.string ⟨s.toArray⟩)) B rb { M with sign := s } lab P ∧ KT B w (w.setCell ⟨rb, 3, none⟩ (.string ⟨s.toArray⟩)) := by
  have c := Chg.set rb 3 (.string ⟨s.toArray⟩) w
  refine ⟨⟨h.ge, by rw [setCell_block h.blk]; rfl, own_keep c h.ex (own_ty h.ex h.blk (by decide)), own_keep c h.ru (own_ty h.ru h.blk (by decide)), own_keep c h.op (own_ty h.op h.blk (by decide)), fun p hp => own_keep c (h.items p hp) (own_ty (h.items p hp) h.blk (by decide)), fun p hp => ⟨own_keep c (h.parts p hp).1 (own_ty (h.parts p hp).1 h.blk (by decide)), (h.parts p hp).2⟩, ?_⟩, KT.chg c (by have := h.lt; have := h.ge; omega) h.ge (fun cs t fr hb => by rw [h.blk] at hb; simp at hb; rw [← hb.2.1]; decide)⟩
  intro k hk
  obtain ⟨h1, h2, h3, h4⟩ := h.opens k hk
  exact ⟨own_keep c h1 (own_ty h1 h.blk (by decide)), h2, own_keep c h3 (own_ty h3 h.blk (by decide)), h4⟩
theorem Mem.setMay {w : World} {B rb : Nat} {M : MV} {lab : Nat → Nat} {P : Nat → Prop} (h : Mem w B rb M lab P) (s : Bool) : Mem (w.setCell ⟨rb, 4, none⟩ (.bool s)) B rb { M with may := s } lab P ∧ KT B w (w.setCell ⟨rb, 4, none⟩ (.bool s)) := by
  have c := Chg.set rb 4 (.bool s) w
  refine ⟨⟨h.ge, by rw [setCell_block h.blk]; rfl, own_keep c h.ex (own_ty h.ex h.blk (by decide)), own_keep c h.ru (own_ty h.ru h.blk (by decide)), own_keep c h.op (own_ty h.op h.blk (by decide)), fun p hp => own_keep c (h.items p hp) (own_ty (h.items p hp) h.blk (by decide)), fun p hp => ⟨own_keep c (h.parts p hp).1 (own_ty (h.parts p hp).1 h.blk (by decide)), (h.parts p hp).2⟩, ?_⟩, KT.chg c (by have := h.lt; have := h.ge; omega) h.ge (fun cs t fr hb => by rw [h.blk] at hb; simp at hb; rw [← hb.2.1]; decide)⟩
  intro k hk
  obtain ⟨h1, h2, h3, h4⟩ := h.opens k hk
  exact ⟨own_keep c h1 (own_ty h1 h.blk (by decide)), h2, own_keep c h3 (own_ty h3 h.blk (by decide)), h4⟩
theorem opC_len (ps : List (Thk.OP × Value × Value)) : (ps.flatMap opC).length = ps.length * 3 := by
  induction ps with
  | nil => rfl
  | cons x xs ih => simp [opC, ih] at *; omega
theorem ruC_len (ps : List (Thk.Bytes × Nat)) : (ps.flatMap ruC).length = ps.length * 2 := by
  induction ps with
  | nil => rfl
  | cons x xs ih => simp [ruC, ih] at *; omega
/-- The open row's block; its innermost's cells. -/
theorem Mem.topAt {w : World} {B rb : Nat} {M : MV} {lab : Nat → Nat} {P : Nat → Prop} (h : Mem w B rb M lab P) {mr : List (Thk.OP × Value × Value)} {m : Thk.OP × Value × Value} (ho : M.os = mr ++ [m]) :
    ∃ og oc, M.vo = .slice (some ⟨og, 0, none⟩) (mr.length + 1) oc ∧ B ≤ og ∧ og < w.heap.size ∧ og ≠ rb ∧ w.cell? ⟨og, mr.length * 3, none⟩ = some m.2.1 ∧ w.cell? ⟨og, mr.length * 3 + 1, none⟩ = some m.2.2 ∧ w.cell? ⟨og, mr.length * 3 + 2, none⟩ = some (.string ⟨m.1.sign.toArray⟩) ∧ ∀ o, w.frozen? ⟨og, o, none⟩ = false := by
  have hop := h.op
  have hl : M.os.length = mr.length + 1 := by rw [ho]; simp
  rw [hl] at hop
  obtain ⟨og, oc, hv, hb, hlt⟩ := hop.form (by omega)
  rw [hv] at hop
  have hg : ∀ j, j < 3 → w.cell? ⟨og, mr.length * 3 + j, none⟩ = (opC m)[j]? := by
    intro j hj
    rw [hop.cellAt _ (by omega), ho, List.flatMap_append, List.getElem?_append_right (by rw [opC_len]; omega), opC_len, show mr.length * 3 + j - mr.length * 3 = j from by omega]
    simp
  refine ⟨og, oc, hv, hb, hlt, ?_, hg 0 (by decide), hg 1 (by decide), hg 2 (by decide), fun o => hop.frozenAt o⟩
  intro e; subst e
  have := own_ty hop h.blk (by decide)
  simp [Value.ownBlock] at this
theorem opC_set (mr : List (Thk.OP × Value × Value)) (m : Thk.OP × Value × Value) (j : Nat) (hj : j < 3) (u : Value) : ((mr ++ [m]).flatMap opC).set (mr.length * 3 + j) u = mr.flatMap opC ++ (opC m).set j u := by
  rw [List.flatMap_append, List.set_append_right _ _ (by rw [opC_len]; omega), opC_len, show mr.length * 3 + j - mr.length * 3 = j from by omega]
  simp
/-- A cell of the innermost that is being read is set: its row is given. -/
theorem Mem.setTop {w : World} {B rb : Nat} {M : MV} {lab : Nat → Nat} {P : Nat → Prop} (h : Mem w B rb M lab P) {mr : List (Thk.OP × Value × Value)} {m m' : Thk.OP × Value × Value} (ho : M.os = mr ++ [m]) {og oc : Nat} (hv : M.vo = .slice (some ⟨og, 0, none⟩) (mr.length + 1) oc)
    (j : Nat) (hj : j < 3) (u : Value) (hm : (opC m).set j u = opC m') (lab' : Nat → Nat) (P' : Nat → Prop)
    (hparts : ∀ p ∈ M.xs, ∀ g, p.2.2.ownBlock = some g → g < w.heap.size → P' (lab' g)) (hlab : ∀ k (hk : k < mr.length), Lab lab' mr[k].2.1 (2 * k + 1) ∧ Lab lab' mr[k].2.2 (2 * k + 2))
    (hs : Ints w B m'.2.1 m'.1.seqs ∧ Lab lab' m'.2.1 (2 * mr.length + 1)) (ht : Ints w B m'.2.2 m'.1.terms ∧ Lab lab' m'.2.2 (2 * mr.length + 2)) :
    Mem (w.setCell ⟨og, mr.length * 3 + j, none⟩ u) B rb { M with os := mr ++ [m'] } lab' P' ∧ KT B w (w.setCell ⟨og, mr.length * 3 + j, none⟩ u) := by
  have c := Chg.set og (mr.length * 3 + j) u w
  have hop := h.op
  have hl : M.os.length = mr.length + 1 := by rw [ho]; simp
  rw [hl, hv] at hop
  obtain ⟨cs, hob⟩ := own_blk hop (b := og) rfl
  have hnr : rb ≠ og := by
    intro e; subst e
    have := own_ty hop h.blk (by decide)
    simp [Value.ownBlock] at this
  have hst := (hop.stored (mr.length * 3 + j) u).1
  refine ⟨⟨h.ge, by rw [c.same rb h.lt hnr]; exact h.blk, own_keep c h.ex (own_ty h.ex hob (by decide)), own_keep c h.ru (own_ty h.ru hob (by decide)), ?_, fun p hp => own_keep c (h.items p hp) (own_ty (h.items p hp) hob (by decide)), fun p hp => ⟨own_keep c (h.parts p hp).1 (own_ty (h.parts p hp).1 hob (by decide)), fun g hg => hparts p hp g hg ((h.parts p hp).1.lt g hg).2⟩, ?_⟩, KT.chg c (by have := h.lt; have := h.ge; omega) (hop.lt og rfl).1 (fun cs' t fr hb => by rw [hob] at hb; simp at hb; rw [← hb.2.1]; decide)⟩
  · simp only [hv, List.length_append, List.length_singleton]
    rw [ho, opC_set mr m j hj u, hm] at hst
    simpa using hst
  · intro k hk
    simp only [] at hk ⊢
    by_cases hkm : k < mr.length
    · rw [List.getElem_append_left hkm]
      obtain ⟨h1, _, h3, _⟩ := h.opens k (by rw [hl]; omega)
      simp only [ho, List.getElem_append_left hkm] at h1 h3
      exact ⟨own_keep c h1 (own_ty h1 hob (by decide)), (hlab k hkm).1, own_keep c h3 (own_ty h3 hob (by decide)), (hlab k hkm).2⟩
    · have hke : k = mr.length := by simp at hk; omega
      subst hke
      rw [List.getElem_append_right (Nat.le_refl _)]
      simp only [Nat.sub_self, List.getElem_cons_zero]
      exact ⟨own_keep c hs.1 (own_ty hs.1 hob (by decide)), hs.2, own_keep c ht.1 (own_ty ht.1 hob (by decide)), ht.2⟩
end Go.Proofs.YtiganlkabilblaaGreatDoor
namespace Go.Proofs.YtiganlkabilblaaGreatDoor
open Go.RowKit
attribute [local go_sem ↓] Go.wp_at_zero Go.wp_at_succ
theorem Tryz.infoInt : (Tryz.prog.info? 3).map (fun i => (i.zero, i.size, i.bytes)) = some (some (.int .i64 0), 1, 8) := by kernel_rfl
def okSg (b : Thk.Bytes) : Prop := b = [63] ∨ b = [42] ∨ b = [43] ∨ b = [38] ∨ b = [33]
theorem rkindOf_any (b : Thk.Bytes) (hb : okSg b) (w : World) :
    Calls Tryz.prog 143 #[.string ⟨b.toArray⟩] w fun e w' => e = .returned (.int .i64 (Thk.sgnKind b)) ∧ w' = w := by
  rcases hb with rfl | rfl | rfl | rfl | rfl
  all_goals
    go_enter Tryz.func143, Tryz.ntmps143
    go_wp2_with fail
    go_ret
    exact ⟨rfl, rfl⟩
/-- A row of numbers grows: the others stay. -/
theorem Mem.grown {w w1 : World} {B rb : Nat} {M : MV} {lab : Nat → Nat} {P : Nat → Prop} (h : Mem w B rb M lab P) {base : Nat} {v : Value} {n : Nat} {cs : List Value} (hv : w.ownsRow base 3 1 v n cs) (hg : w.grownBy w1 v.ownBlock) (l : Nat) (hl : Lab lab v l) (hP : ¬ P l) :
    w1.heap[rb]? = some (rdO M.vx M.vr M.vo M.sign M.may) ∧ w1.ownsRow B 149 5 M.vx M.xs.length (M.xs.flatMap exC) ∧ w1.ownsRow B 90 2 M.vr M.rs.length (M.rs.flatMap ruC) ∧ w1.ownsRow B 209 3 M.vo M.os.length (M.os.flatMap opC) ∧
    (∀ p ∈ M.xs, Items w1 B p.2.1 p.1.items) ∧ (∀ p ∈ M.xs, Ints w1 B p.2.2 p.1.parts) ∧ (∀ k (h : k < M.os.length), (2 * k + 1 ≠ l → Ints w1 B M.os[k].2.1 M.os[k].1.seqs) ∧ (2 * k + 2 ≠ l → Ints w1 B M.os[k].2.2 M.os[k].1.terms)) ∧
    (∀ (k : Nat) (cs : Array Value) (t : TypeId) (fr : Nat × Nat), w.heap[k]? = some (Obj.cells cs t fr) → t ∉ rdTys → w1.heap[k]? = w.heap[k]?) := by
  have hty : ∀ {e : TypeId} {sz : Nat} {u : Value} {n' : Nat} {cs' : List Value}, w.ownsRow B e sz u n' cs' → e ≠ 3 → w1.ownsRow B e sz u n' cs' := by
    intro e sz u n' cs' hu he
    exact own_blocks hu (fun b hb => hg.block b (hu.lt b hb).2 (fun e1 => own_ty2 hu hv he e1.symm hb))
  have hi : ∀ {u : Value} {ns : List Nat} {l' : Nat}, Ints w B u ns → Lab lab u l' → l' ≠ l → Ints w1 B u ns := by
    intro u ns l' hu hlu hne
    exact own_blocks hu (fun b hb => hg.block b (hu.lt b hb).2 (fun e1 => hne (by rw [← hlu b hb, ← hl b e1.symm])))
  refine ⟨?_, hty h.ex (by decide), hty h.ru (by decide), hty h.op (by decide), fun p hp => hty (h.items p hp) (by decide), ?_, ?_, ?_⟩
  · rw [hg.block rb h.lt (fun e => own_ty hv h.blk (by decide) e.symm)]; exact h.blk
  · intro p hp
    obtain ⟨h1, h2⟩ := h.parts p hp
    exact own_blocks h1 (fun b hb => hg.block b (h1.lt b hb).2 (fun e1 => hP (by rw [← hl b e1.symm]; exact h2 b hb)))
  · intro k hk
    obtain ⟨h1, h2, h3, h4⟩ := h.opens k hk
    exact ⟨fun hne => hi h1 h2 hne, fun hne => hi h3 h4 hne⟩
  · intro k cs' t fr hk ht
    refine hg.block k (heap_lt' hk) (fun e => ?_)
    obtain ⟨cs2, hc⟩ := own_blk hv e.symm
    rw [hk] at hc; simp at hc; rw [hc.2.1] at ht; exact ht (by decide)
def upd (lab : Nat → Nat) (g l : Nat) : Nat → Nat := fun b => if b = g then l else lab b
/-- A term more in the innermost. -/
theorem Mem.pushTerm {w w1 : World} {B rb : Nat} {M : MV} {lab : Nat → Nat} {P : Nat → Prop} (h : Mem w B rb M lab P) {mr : List (Thk.OP × Value × Value)} {m : Thk.OP × Value × Value} (ho : M.os = mr ++ [m]) {og oc : Nat} (hv : M.vo = .slice (some ⟨og, 0, none⟩) (mr.length + 1) oc)
    (hP : ¬ P (2 * mr.length + 2)) {e g cap : Nat} (hown : w1.ownsRow B 3 1 (.slice (some ⟨g, 0, none⟩) (m.1.terms.length + 1) cap) (m.1.terms.length + 1) (m.1.terms.map intV ++ [intV e])) (hg : w.grownBy w1 m.2.2.ownBlock) (hat : m.2.2.ownBlock = some g ∨ g = w.heap.size) :
    Mem (w1.setCell ⟨og, mr.length * 3 + 1, none⟩ (.slice (some ⟨g, 0, none⟩) (m.1.terms.length + 1) cap)) B rb { M with os := mr ++ [({ m.1 with terms := m.1.terms ++ [e] }, m.2.1, .slice (some ⟨g, 0, none⟩) (m.1.terms.length + 1) cap)] } (upd lab g (2 * mr.length + 2)) P ∧
      KT B w (w1.setCell ⟨og, mr.length * 3 + 1, none⟩ (.slice (some ⟨g, 0, none⟩) (m.1.terms.length + 1) cap)) := by
  have hl : mr.length < M.os.length := by rw [ho]; simp
  obtain ⟨h1, h2, h3, h4⟩ := h.opens mr.length hl
  have hm : M.os[mr.length]'hl = m := by simp only [ho]; rw [List.getElem_append_right (Nat.le_refl _)]; simp
  rw [hm] at h1 h2 h3 h4
  have hup : ∀ b l, b < w.heap.size → lab b = l → (b = g → l = 2 * mr.length + 2) → upd lab g (2 * mr.length + 2) b = l := by
    intro b l hb hlb hbg
    unfold upd
    by_cases hx : b = g
    · rw [if_pos hx, hbg hx]
    · rw [if_neg hx]; exact hlb
  have hgl : ∀ b, b < w.heap.size → b = g → lab b = 2 * mr.length + 2 := by
    intro b hb e1
    rcases hat with hat | hat
    · rw [e1]; exact h4 g hat
    · omega
  have hu : ∀ b, b < w.heap.size → upd lab g (2 * mr.length + 2) b = lab b := fun b hb => hup b _ hb rfl (hgl b hb)
  obtain ⟨g1, g2, g3, g4, g5, g6, g7, g8⟩ := h.grown h3 hg _ h4 hP
  -- the world behind the append
  have c := Chg.set og (mr.length * 3 + 1) (.slice (some ⟨g, 0, none⟩) (m.1.terms.length + 1) cap) w1
  have hle : M.os.length = mr.length + 1 := by rw [ho]; simp
  rw [hle, hv] at g4
  obtain ⟨cs, hob⟩ := own_blk g4 (b := og) rfl
  have hnr : rb ≠ og := by
    intro e1; subst e1
    have := own_ty g4 g1 (by decide)
    simp [Value.ownBlock] at this
  have hst := (g4.stored (mr.length * 3 + 1) (.slice (some ⟨g, 0, none⟩) (m.1.terms.length + 1) cap)).1
  have hw1 := hg.size
  refine ⟨⟨h.ge, by rw [c.same rb (by have := h.lt; omega) hnr]; exact g1, own_keep c g2 (own_ty g2 hob (by decide)), own_keep c g3 (own_ty g3 hob (by decide)), ?_, fun p hp => own_keep c (g5 p hp) (own_ty (g5 p hp) hob (by decide)), fun p hp => ⟨own_keep c (g6 p hp) (own_ty (g6 p hp) hob (by decide)), fun b hb => by rw [hu b ((h.parts p hp).1.lt b hb).2]; exact (h.parts p hp).2 b hb⟩, ?_⟩, ?_⟩
  · simp only [hv, List.length_append, List.length_singleton]
    rw [ho, opC_set mr m 1 (by decide)] at hst
    simpa [opC] using hst
  · intro k hk
    simp only [] at hk ⊢
    by_cases hkm : k < mr.length
    · rw [List.getElem_append_left hkm]
      obtain ⟨i1, i2, i3, i4⟩ := h.opens k (by omega)
      obtain ⟨j1, j2⟩ := g7 k (by omega)
      simp only [ho, List.getElem_append_left hkm] at i1 i2 i3 i4 j1 j2
      exact ⟨own_keep c (j1 (by omega)) (own_ty (j1 (by omega)) hob (by decide)), fun b hb => by rw [hu b (i1.lt b hb).2]; exact i2 b hb, own_keep c (j2 (by omega)) (own_ty (j2 (by omega)) hob (by decide)), fun b hb => by rw [hu b (i3.lt b hb).2]; exact i4 b hb⟩
    · have hke : k = mr.length := by simp at hk; omega
      subst hke
      rw [List.getElem_append_right (Nat.le_refl _)]
      simp only [Nat.sub_self, List.getElem_cons_zero]
      obtain ⟨j1, j2⟩ := g7 mr.length (by omega)
      rw [hm] at j1
      have hnew : Ints w1 B (.slice (some ⟨g, 0, none⟩) (m.1.terms.length + 1) cap) (m.1.terms ++ [e]) := by unfold Ints; simpa using hown
      exact ⟨own_keep c (j1 (by omega)) (own_ty (j1 (by omega)) hob (by decide)), fun b hb => by rw [hu b (h1.lt b hb).2]; exact h2 b hb, own_keep c hnew (own_ty hnew hob (by decide)), fun b hb => by simp [Value.ownBlock] at hb; subst hb; simp [upd]⟩
  · refine KT.trans ⟨hg.os, hg.tape, hg.output, hg.size, ?_, g8⟩ (KT.chg c (by have := h.lt; have := h.ge; omega) (g4.lt og rfl).1 (fun cs' t fr hb => by rw [hob] at hb; simp at hb; rw [← hb.2.1]; decide))
    intro k hk
    refine hg.block k (by have := h.lt; have := h.ge; omega) (fun e1 => ?_)
    have := (h3.lt k e1.symm).1
    omega
def RdPost (w : World) (B rb : Nat) (S' : Thk.ST) (v : Value) (e : Ending) (w' : World) : Prop :=
  e = .returned v ∧ ∃ M' lab', Mem w' B rb M' lab' (· = 0) ∧ KT B w w' ∧ M'.st = S'
set_option maxHeartbeats 4000000 in
set_option maxRecDepth 100000 in
/-- term, no sign ahead. -/
theorem rterm0_any (w : World) (B rb : Nat) (M : MV) (lab : Nat → Nat) (h : Mem w B rb M lab (· = 0)) (mr : List (Thk.OP × Value × Value)) (m : Thk.OP × Value × Value) (ho : M.os = mr ++ [m]) (e : Nat) (hb1 : m.1.terms.length ≤ 100000) (hb2 : mr.length ≤ 100000) :
    Calls Tryz.prog 101 #[.pointer (some ⟨rb, 0, none⟩), .int .i64 e, .string ⟨#[]⟩] w fun e' w' => RdPost w B rb (M.st.push e) (.tuple #[]) e' w' := by
  obtain ⟨i0, hi, hz0, hz1, hz2⟩ := info_parts Tryz.infoInt
  obtain ⟨og, oc, hv, hgB, hol, hor, q0, q1, q2, qf⟩ := h.topAt ho
  have hq := cell_of_block h.blk
  have hf := frozen_of_block h.blk
  have c2 := hq 2
  simp only [hv] at c2
  have hrl := h.lt
  have hge := h.ge
  have hlen : mr.length < M.os.length := by rw [ho]; simp
  obtain ⟨h1, h2, h3, h4⟩ := h.opens mr.length hlen
  have hm : M.os[mr.length]'hlen = m := by simp only [ho]; rw [List.getElem_append_right (Nat.le_refl _)]; simp
  rw [hm] at h3 h4
  obtain ⟨ta, tc, hvt⟩ := own_form h3
  rw [hvt] at q1
  have hown : w.ownsRow B 3 1 (.slice ta m.1.terms.length tc) m.1.terms.length (m.1.terms.map intV) := by rw [← hvt]; exact h3
  have H : Hid (Mem w B rb M lab (· = 0)) := h
  have HO : Hid (M.os = mr ++ [m]) := ho
  have HV : Hid (M.vo = .slice (some ⟨og, 0, none⟩) (mr.length + 1) oc) := hv
  have HT : Hid (m.2.2 = .slice ta m.1.terms.length tc) := hvt
  have HML : Hid (m.1.terms.length + 1 ≤ maxLen) := by show _ ≤ _; unfold maxLen; omega
  have hL : (mr.length : Int) < (mr.length : Int) + 1 := by omega
  have f4 := hf 4
  have c4 : w.cell? ⟨rb, 4, none⟩ = some (.bool M.may) := hq 4
  clear h ho hv hvt h1 h2 h3 h4 hm hq hf
  go_enter Tryz.func101, Tryz.ntmps101
  go_wp2_with fail
  go_quiet (fail)
  go_wp2_with (first | (at_builtin; refine wpList_append_lies _ rfl _ _ 40 rfl B 3 i0 _ 1 8 Tryz.underlying40 hi hz0 hz1 hz2 rfl (by decide) _ _ _ rfl (hown.alloc _) ⟨w.heap.size, 0, none⟩ 1 1 [intV e] rfl rfl ?c1 ?c2 (by decide) HML.out ?c4 ?c5 (w.heap.size + 1) (by simp) ?_))
  case c1 => exact cell_one_new _ _ _
  case c2 => intro u hu; simp at hu; subst hu; rfl
  case c4 => omega
  case c5 => simp; omega
  intro g cap w1 hown' hgrow hat hgl
  have hMW := H.out.below (lab' := lab) (w' := (w.drewN nq).alloc (.cells #[.int .i64 e] 3)) ((below_drewN (Below.refl _ _) nq).alloc (by simp) _) (fun _ _ => rfl)
  have hPT := hMW.pushTerm HO.out HV.out (by simp) hown' (by rw [HT.out]; exact hgrow) (by rw [HT.out]; simpa using hat)
  have hrow : ∀ k, k < w.heap.size → (∀ cs, w.heap[k]? ≠ some (Obj.cells cs 3 (0, 0))) → w1.heap[k]? = w.heap[k]? := by
    intro k hk hty
    rw [hgrow.block k (by simp; omega) ?_]
    · exact heap_alloc_old _ _ (by simpa using hk)
    · intro e1
      obtain ⟨cs, hcs⟩ := own_blk hown e1.symm
      exact hty cs hcs
  have hrbk : w1.heap[rb]? = w.heap[rb]? := hrow rb hrl (fun cs hcs => by rw [H.out.blk] at hcs; simp at hcs)
  have hogk : w1.heap[og]? = w.heap[og]? := by
    have hop := H.out.op
    rw [HV.out] at hop
    obtain ⟨cs', hcs'⟩ := own_blk hop (b := og) rfl
    exact hrow og hol (fun cs hcs => by rw [hcs'] at hcs; simp at hcs)
  have d1 : w1.cell? ⟨og, mr.length * 3 + 1, none⟩ = some (.slice ta m.1.terms.length tc) := (World.cell?_of_block hogk).trans q1
  have d2 : w1.frozen? ⟨og, mr.length * 3 + 1, none⟩ = false := (World.frozen?_of_block hogk).trans (qf _)
  have d3 : w1.cell? ⟨rb, 4, none⟩ = some (.bool M.may) := (World.cell?_of_block hrbk).trans c4
  have d4 : w1.frozen? ⟨rb, 4, none⟩ = false := (World.frozen?_of_block hrbk).trans f4
  have HE := (show Hid _ from hPT)
  clear hMW hPT hrow hrbk hogk hown hown' hgrow hat
  go_wp2_with fail
  obtain ⟨hM1, hK1⟩ := HE.out
  obtain ⟨hM2, hK2⟩ := hM1.setMay true
  go_end0
  refine ⟨rfl, _, _, hM2, ?_, ?_⟩
  · exact (((KT.refl B w).drewN nq).trans (KT.alloc B _ (by simp; omega) _)).trans (hK1.trans hK2)
  · simp [MV.st, Thk.ST.push, Thk.ST.setTop, Thk.ST.top, HO.out, List.getLastD_concat]
set_option maxHeartbeats 8000000 in
set_option maxRecDepth 100000 in
/-- term, a sign ahead. -/
theorem rterm1_any (w : World) (B rb : Nat) (M : MV) (lab : Nat → Nat) (h : Mem w B rb M lab (· = 0)) (mr : List (Thk.OP × Value × Value)) (m : Thk.OP × Value × Value) (ho : M.os = mr ++ [m]) (e : Nat) (sg : Thk.Bytes) (hsg : okSg sg) (hb0 : M.xs.length ≤ 100000) (hb1 : m.1.terms.length ≤ 100000) (hb2 : mr.length ≤ 100000) :
    Calls Tryz.prog 101 #[.pointer (some ⟨rb, 0, none⟩), .int .i64 e, .string ⟨sg.toArray⟩] w fun e' w' => RdPost w B rb ((M.st.add (Thk.wrapE (Thk.sgnKind sg) e)).push M.xs.length) (.tuple #[]) e' w' := by
  obtain ⟨i0, hi, hz0, hz1, hz2⟩ := info_parts Tryz.infoInt
  have hko := fun w => rkindOf_any sg hsg w
  have hne : List.isEmpty sg = false := by rcases hsg with rfl | rfl | rfl | rfl | rfl <;> rfl
  have hadd := fun (w' : World) (lab' : Nat → Nat) (hM : Mem w' B rb M lab' (· = 0)) (xa : Option Addr) (xc : Nat) (hx : M.vx = .slice xa M.xs.length xc) (pa : Option Addr) (pl pc : Nat) =>
    radd_any w' B rb xa xc M.xs.length M.vr M.vo M.sign M.may (M.xs.flatMap exC) (Thk.sgnKind sg) none 0 0 ⟨#[]⟩ 0 pa pl pc (by rw [← hx]; exact hM.blk) (by rw [← hx]; exact hM.ex) hb0 hM.ge
  obtain ⟨xa, xc, hx⟩ := own_form h.ex
  have hB0 : B ≤ w.heap.size := by have := h.lt; have := h.ge; omega
  have hM1 := h.below (w' := w.alloc (.cells #[.int .i64 e] 3)) (lab' := upd lab w.heap.size 0) (below_alloc _ _) (fun g hg => by unfold upd; rw [if_neg (by omega)])
  have had := hadd _ _ hM1 xa xc hx (some ⟨w.heap.size, 0, none⟩) 1 1
  have HM1 := (show Hid _ from hM1)
  have HX := (show Hid _ from hx)
  have HO0 := (show Hid _ from ho)
  clear hadd hM1 hx h
  go_enter Tryz.func101, Tryz.ntmps101
  go_wp2_with fail
  refine (hko _).mono ?_
  rintro e1 w' ⟨rfl, hw⟩
  replace hw := hw.symm
  subst hw
  clear hko
  go_wp2_with fail
  refine had.mono ?_
  rintro e1 w2 ⟨xg, xcap, rfl, hAE⟩
  have hint : Ints (w.alloc (.cells #[.int .i64 e] 3)) B (.slice (some ⟨w.heap.size, 0, none⟩) 1 1) [e] := World.ownsRow_lit w #[.int .i64 e] 1 hB0 (by decide) rfl
  have h2 := HM1.out.add (re := Thk.wrapE (Thk.sgnKind sg) e) (iv := .slice none 0 0) (pv := .slice (some ⟨w.heap.size, 0, none⟩) 1 1) (by rw [HX.out]; exact hAE) (World.ownsRow_nil _ _ _ _) hint (fun b hb => by simp [Value.ownBlock] at hb; subst hb; simp [upd])
  obtain ⟨h, hKA⟩ := h2
  have HKA : Hid (KT B w w2) := (KT.alloc B w hB0 _).trans hKA
  have ho : M.os = mr ++ [m] := HO0.out
  obtain ⟨M2, hM2⟩ : ∃ M2, M2 = ({ M with vx := .slice (some ⟨xg, 0, none⟩) (M.xs.length + 1) xcap, xs := M.xs ++ [(Thk.wrapE (Thk.sgnKind sg) e, .slice none 0 0, .slice (some ⟨w.heap.size, 0, none⟩) 1 1)] } : MV) := ⟨_, rfl⟩
  rw [← hM2] at h
  have ho2 : M2.os = mr ++ [m] := by rw [hM2]; exact ho
  have HST : Hid (M2.st = M.st.add (Thk.wrapE (Thk.sgnKind sg) e)) := by rw [hM2]; show _ = _; simp [MV.st, Thk.ST.add]
  have HXL : Hid (M2.xs.length = M.xs.length + 1) := by rw [hM2]; show _ = _; simp
  have HO0 := ho2
  clear hAE hKA hint had hM2 ho HM1 HX
  obtain ⟨lab2, hlab2⟩ : ∃ l, l = upd lab w.heap.size 0 := ⟨_, rfl⟩
  rw [← hlab2] at h
  clear hlab2
  have ho := ho2
  clear ho2 HO0
  obtain ⟨og, oc, hv, hgB, hol, hor, q0, q1, q2, qf⟩ := h.topAt ho
  have hq := cell_of_block h.blk
  have hf := frozen_of_block h.blk
  have c2 := hq 2
  simp only [hv] at c2
  have hrl := h.lt
  have hge := h.ge
  have hlen : mr.length < M2.os.length := by rw [ho]; simp
  obtain ⟨h1, h2, h3, h4⟩ := h.opens mr.length hlen
  have hm : M2.os[mr.length]'hlen = m := by simp only [ho]; rw [List.getElem_append_right (Nat.le_refl _)]; simp
  rw [hm] at h3 h4
  obtain ⟨ta, tc, hvt⟩ := own_form h3
  rw [hvt] at q1
  have hown : w2.ownsRow B 3 1 (.slice ta m.1.terms.length tc) m.1.terms.length (m.1.terms.map intV) := by rw [← hvt]; exact h3
  have H : Hid (Mem w2 B rb M2 lab2 (· = 0)) := h
  have HO : Hid (M2.os = mr ++ [m]) := ho
  have HV : Hid (M2.vo = .slice (some ⟨og, 0, none⟩) (mr.length + 1) oc) := hv
  have HT : Hid (m.2.2 = .slice ta m.1.terms.length tc) := hvt
  have HML : Hid (m.1.terms.length + 1 ≤ maxLen) := by show _ ≤ _; unfold maxLen; omega
  have hL : (mr.length : Int) < (mr.length : Int) + 1 := by omega
  have f4 := hf 4
  have c4 : w2.cell? ⟨rb, 4, none⟩ = some (.bool M2.may) := hq 4
  clear h ho hv hvt h1 h2 h3 h4 hm hq hf
  go_wp2_with fail
  go_quiet (fail)
  go_wp2_with (first | (at_builtin; refine wpList_append_lies _ rfl _ _ 40 rfl B 3 i0 _ 1 8 Tryz.underlying40 hi hz0 hz1 hz2 rfl (by decide) _ _ _ rfl (hown.alloc _) ⟨w2.heap.size, 0, none⟩ 1 1 [intV M.xs.length] rfl rfl ?c1 ?c2 (by decide) HML.out ?c4 ?c5 (w2.heap.size + 1) (by simp) ?_))
  case c1 => exact cell_one_new _ _ _
  case c2 => intro u hu; simp at hu; subst hu; rfl
  case c4 => omega
  case c5 => simp; omega
  intro g cap w1 hown' hgrow hat hgl
  have hMW := H.out.below (lab' := lab2) (w' := (w2.drewN nq).alloc (.cells #[.int .i64 M.xs.length] 3)) ((below_drewN (Below.refl _ _) nq).alloc (by simp) _) (fun _ _ => rfl)
  have hPT := hMW.pushTerm HO.out HV.out (by simp) hown' (by rw [HT.out]; exact hgrow) (by rw [HT.out]; simpa using hat)
  have hrow : ∀ k, k < w2.heap.size → (∀ cs, w2.heap[k]? ≠ some (Obj.cells cs 3 (0, 0))) → w1.heap[k]? = w2.heap[k]? := by
    intro k hk hty
    rw [hgrow.block k (by simp; omega) ?_]
    · exact heap_alloc_old _ _ (by simpa using hk)
    · intro e1
      obtain ⟨cs, hcs⟩ := own_blk hown e1.symm
      exact hty cs hcs
  have hrbk : w1.heap[rb]? = w2.heap[rb]? := hrow rb hrl (fun cs hcs => by rw [H.out.blk] at hcs; simp at hcs)
  have hogk : w1.heap[og]? = w2.heap[og]? := by
    have hop := H.out.op
    rw [HV.out] at hop
    obtain ⟨cs', hcs'⟩ := own_blk hop (b := og) rfl
    exact hrow og hol (fun cs hcs => by rw [hcs'] at hcs; simp at hcs)
  have d1 : w1.cell? ⟨og, mr.length * 3 + 1, none⟩ = some (.slice ta m.1.terms.length tc) := (World.cell?_of_block hogk).trans q1
  have d2 : w1.frozen? ⟨og, mr.length * 3 + 1, none⟩ = false := (World.frozen?_of_block hogk).trans (qf _)
  have d3 : w1.cell? ⟨rb, 4, none⟩ = some (.bool M2.may) := (World.cell?_of_block hrbk).trans c4
  have d4 : w1.frozen? ⟨rb, 4, none⟩ = false := (World.frozen?_of_block hrbk).trans f4
  have HE := (show Hid _ from hPT)
  clear hMW hPT hrow hrbk hogk hown hown' hgrow hat
  go_wp2_with fail
  obtain ⟨hM1, hK1⟩ := HE.out
  obtain ⟨hM2, hK2⟩ := hM1.setMay true
  go_end0
  refine ⟨rfl, _, _, hM2, ?_, ?_⟩
  · exact HKA.out.trans ((((KT.refl B w2).drewN nq).trans (KT.alloc B _ (by simp; omega) _)).trans (hK1.trans hK2))
  · rw [← HST.out]
    simp [MV.st, Thk.ST.push, Thk.ST.setTop, Thk.ST.top, HO.out, List.getLastD_concat]
end Go.Proofs.YtiganlkabilblaaGreatDoor
namespace Go.Proofs.YtiganlkabilblaaGreatDoor
open Go.RowKit
attribute [local go_sem ↓] Go.wp_at_zero Go.wp_at_succ
theorem Mem.weaken {w : World} {B rb : Nat} {M : MV} {lab : Nat → Nat} {P P' : Nat → Prop} (h : Mem w B rb M lab P) (hp : ∀ l, P l → P' l) : Mem w B rb M lab P' :=
  ⟨h.ge, h.blk, h.ex, h.ru, h.op, h.items, fun p hpm => ⟨(h.parts p hpm).1, fun g hg => hp _ ((h.parts p hpm).2 g hg)⟩, h.opens⟩
theorem Mem.topCells {w : World} {B rb : Nat} {M : MV} {lab : Nat → Nat} {P : Nat → Prop} (h : Mem w B rb M lab P) {mr : List (Thk.OP × Value × Value)} {m : Thk.OP × Value × Value} (ho : M.os = mr ++ [m]) {og oc : Nat} (hv : M.vo = .slice (some ⟨og, 0, none⟩) (mr.length + 1) oc) :
    og < w.heap.size ∧ w.cell? ⟨og, mr.length * 3, none⟩ = some m.2.1 ∧ w.cell? ⟨og, mr.length * 3 + 1, none⟩ = some m.2.2 ∧ w.cell? ⟨og, mr.length * 3 + 2, none⟩ = some (.string ⟨m.1.sign.toArray⟩) ∧ (∀ o, w.frozen? ⟨og, o, none⟩ = false) ∧ (∃ cs, w.heap[og]? = some (.cells cs 209 (0, 0))) ∧
      Ints w B m.2.1 m.1.seqs ∧ Lab lab m.2.1 (2 * mr.length + 1) ∧ Ints w B m.2.2 m.1.terms ∧ Lab lab m.2.2 (2 * mr.length + 2) := by
  obtain ⟨og', oc', hv', _, hol, _, q0, q1, q2, qf⟩ := h.topAt ho
  rw [hv] at hv'
  simp at hv'
  obtain ⟨rfl, rfl⟩ := hv'
  have hop := h.op
  rw [hv] at hop
  have hlen : mr.length < M.os.length := by rw [ho]; simp
  have hm : M.os[mr.length]'hlen = m := by simp only [ho]; rw [List.getElem_append_right (Nat.le_refl _)]; simp
  have h4 := h.opens mr.length hlen
  rw [hm] at h4
  exact ⟨hol, q0, q1, q2, qf, own_blk hop rfl, h4⟩
/-- A sequence more in the innermost. -/
theorem Mem.pushSeq {w w1 : World} {B rb : Nat} {M : MV} {lab : Nat → Nat} {P : Nat → Prop} (h : Mem w B rb M lab P) {mr : List (Thk.OP × Value × Value)} {m : Thk.OP × Value × Value} (ho : M.os = mr ++ [m]) {og oc : Nat} (hv : M.vo = .slice (some ⟨og, 0, none⟩) (mr.length + 1) oc)
    (hP : ¬ P (2 * mr.length + 1)) {e g cap : Nat} (hown : w1.ownsRow B 3 1 (.slice (some ⟨g, 0, none⟩) (m.1.seqs.length + 1) cap) (m.1.seqs.length + 1) (m.1.seqs.map intV ++ [intV e])) (hg : w.grownBy w1 m.2.1.ownBlock) (hat : m.2.1.ownBlock = some g ∨ g = w.heap.size) :
    Mem (w1.setCell ⟨og, mr.length * 3, none⟩ (.slice (some ⟨g, 0, none⟩) (m.1.seqs.length + 1) cap)) B rb { M with os := mr ++ [({ m.1 with seqs := m.1.seqs ++ [e] }, .slice (some ⟨g, 0, none⟩) (m.1.seqs.length + 1) cap, m.2.2)] } (upd lab g (2 * mr.length + 1)) P ∧
      KT B w (w1.setCell ⟨og, mr.length * 3, none⟩ (.slice (some ⟨g, 0, none⟩) (m.1.seqs.length + 1) cap)) := by
  have hl : mr.length < M.os.length := by rw [ho]; simp
  obtain ⟨h1, h2, h3, h4⟩ := h.opens mr.length hl
  have hm : M.os[mr.length]'hl = m := by simp only [ho]; rw [List.getElem_append_right (Nat.le_refl _)]; simp
  rw [hm] at h1 h2 h3 h4
  have hup : ∀ b l, b < w.heap.size → lab b = l → (b = g → l = 2 * mr.length + 1) → upd lab g (2 * mr.length + 1) b = l := by
    intro b l hb hlb hbg
    unfold upd
    by_cases hx : b = g
    · rw [if_pos hx, hbg hx]
    · rw [if_neg hx]; exact hlb
  have hgl : ∀ b, b < w.heap.size → b = g → lab b = 2 * mr.length + 1 := by
    intro b hb e1
    rcases hat with hat | hat
    · rw [e1]; exact h2 g hat
    · omega
  have hu : ∀ b, b < w.heap.size → upd lab g (2 * mr.length + 1) b = lab b := fun b hb => hup b _ hb rfl (hgl b hb)
  obtain ⟨g1, g2, g3, g4, g5, g6, g7, g8⟩ := h.grown h1 hg _ h2 hP
  -- the world behind the append
  have c := Chg.set og (mr.length * 3) (.slice (some ⟨g, 0, none⟩) (m.1.seqs.length + 1) cap) w1
  have hle : M.os.length = mr.length + 1 := by rw [ho]; simp
  rw [hle, hv] at g4
  obtain ⟨cs, hob⟩ := own_blk g4 (b := og) rfl
  have hnr : rb ≠ og := by
    intro e1; subst e1
    have := own_ty g4 g1 (by decide)
    simp [Value.ownBlock] at this
  have hst := (g4.stored (mr.length * 3) (.slice (some ⟨g, 0, none⟩) (m.1.seqs.length + 1) cap)).1
  have hw1 := hg.size
  refine ⟨⟨h.ge, by rw [c.same rb (by have := h.lt; omega) hnr]; exact g1, own_keep c g2 (own_ty g2 hob (by decide)), own_keep c g3 (own_ty g3 hob (by decide)), ?_, fun p hp => own_keep c (g5 p hp) (own_ty (g5 p hp) hob (by decide)), fun p hp => ⟨own_keep c (g6 p hp) (own_ty (g6 p hp) hob (by decide)), fun b hb => by rw [hu b ((h.parts p hp).1.lt b hb).2]; exact (h.parts p hp).2 b hb⟩, ?_⟩, ?_⟩
  · simp only [hv, List.length_append, List.length_singleton]
    have hst := hst; rw [ho, show mr.length * 3 = mr.length * 3 + 0 from rfl, opC_set mr m 0 (by decide)] at hst
    simpa [opC] using hst
  · intro k hk
    simp only [] at hk ⊢
    by_cases hkm : k < mr.length
    · rw [List.getElem_append_left hkm]
      obtain ⟨i1, i2, i3, i4⟩ := h.opens k (by omega)
      obtain ⟨j1, j2⟩ := g7 k (by omega)
      simp only [ho, List.getElem_append_left hkm] at i1 i2 i3 i4 j1 j2
      exact ⟨own_keep c (j1 (by omega)) (own_ty (j1 (by omega)) hob (by decide)), fun b hb => by rw [hu b (i1.lt b hb).2]; exact i2 b hb, own_keep c (j2 (by omega)) (own_ty (j2 (by omega)) hob (by decide)), fun b hb => by rw [hu b (i3.lt b hb).2]; exact i4 b hb⟩
    · have hke : k = mr.length := by simp at hk; omega
      subst hke
      rw [List.getElem_append_right (Nat.le_refl _)]
      simp only [Nat.sub_self, List.getElem_cons_zero]
      obtain ⟨j1, j2⟩ := g7 mr.length (by omega)
      rw [hm] at j2
      have hnew : Ints w1 B (.slice (some ⟨g, 0, none⟩) (m.1.seqs.length + 1) cap) (m.1.seqs ++ [e]) := by unfold Ints; simpa using hown
      exact ⟨own_keep c hnew (own_ty hnew hob (by decide)), fun b hb => by simp [Value.ownBlock] at hb; subst hb; simp [upd], own_keep c (j2 (by omega)) (own_ty (j2 (by omega)) hob (by decide)), fun b hb => by rw [hu b (h3.lt b hb).2]; exact h4 b hb⟩
  · refine KT.trans ⟨hg.os, hg.tape, hg.output, hg.size, ?_, g8⟩ (KT.chg c (by have := h.lt; have := h.ge; omega) (g4.lt og rfl).1 (fun cs' t fr hb => by rw [hob] at hb; simp at hb; rw [← hb.2.1]; decide))
    intro k hk
    refine hg.block k (by have := h.lt; have := h.ge; omega) (fun e1 => ?_)
    have := (h1.lt k e1.symm).1
    omega
/-- The innermost's terms go: their row has been handed on. -/
theorem Mem.nilTerms {w : World} {B rb : Nat} {M : MV} {lab : Nat → Nat} {mr : List (Thk.OP × Value × Value)} (h : Mem w B rb M lab (fun l => l = 0 ∨ l = 2 * mr.length + 2)) {m : Thk.OP × Value × Value} (ho : M.os = mr ++ [m]) {og oc : Nat} (hv : M.vo = .slice (some ⟨og, 0, none⟩) (mr.length + 1) oc) :
    Mem (w.setCell ⟨og, mr.length * 3 + 1, none⟩ (.slice none 0 0)) B rb { M with os := mr ++ [({ m.1 with terms := [] }, m.2.1, .slice none 0 0)] } (fun b => if lab b = 2 * mr.length + 2 then 0 else lab b) (· = 0) ∧ KT B w (w.setCell ⟨og, mr.length * 3 + 1, none⟩ (.slice none 0 0)) := by
  have hlen : mr.length < M.os.length := by rw [ho]; simp
  have hm : M.os[mr.length]'hlen = m := by simp only [ho]; rw [List.getElem_append_right (Nat.le_refl _)]; simp
  obtain ⟨h1, h2, h3, h4⟩ := h.opens mr.length hlen
  rw [hm] at h1 h2 h3 h4
  refine h.setTop ho hv 1 (by decide) (.slice none 0 0) (by simp [opC]) _ _ ?_ ?_ ?_ ?_
  · intro p hp g hg _
    rcases (h.parts p hp).2 g hg with h0 | h0
    · simp only [h0]; split <;> rfl
    · simp only [h0, if_true]
  · intro k hk
    obtain ⟨i1, i2, i3, i4⟩ := h.opens k (by omega)
    simp only [ho, List.getElem_append_left hk] at i1 i2 i3 i4
    refine ⟨fun b hb => ?_, fun b hb => ?_⟩
    · have e1 := i2 b hb; simp only []; rw [e1, if_neg (by omega)]
    · have e1 := i4 b hb; simp only []; rw [e1, if_neg (by omega)]
  · exact ⟨h1, fun b hb => by have e1 := h2 b hb; simp only []; rw [e1, if_neg (by omega)]⟩
  · exact ⟨World.ownsRow_nil _ _ _ _, fun b hb => by simp [Value.ownBlock] at hb⟩
theorem Mem.drew {w : World} {B rb : Nat} {M : MV} {lab : Nat → Nat} {P : Nat → Prop} (h : Mem w B rb M lab P) : Mem w.drew B rb M lab P := h.below (Below.refl _ _).drew (fun _ _ => rfl)
theorem Mem.drewN {w : World} {B rb : Nat} {M : MV} {lab : Nat → Nat} {P : Nat → Prop} (h : Mem w B rb M lab P) (q : Nat) : Mem (w.drewN q) B rb M lab P := h.below (below_drewN (Below.refl _ _) q) (fun _ _ => rfl)
set_option maxHeartbeats 8000000 in
set_option maxRecDepth 100000 in
theorem rslash_any (w : World) (B rb : Nat) (M : MV) (lab : Nat → Nat) (h : Mem w B rb M lab (· = 0)) (mr : List (Thk.OP × Value × Value)) (m : Thk.OP × Value × Value) (ho : M.os = mr ++ [m]) (hb0 : M.xs.length ≤ 100000) (hb1 : m.1.seqs.length ≤ 100000) (hb2 : mr.length ≤ 100000) :
    Calls Tryz.prog 141 #[.pointer (some ⟨rb, 0, none⟩)] w fun e' w' => RdPost w B rb M.st.slash (.tuple #[]) e' w' := by
  obtain ⟨i0, hi, hz0, hz1, hz2⟩ := info_parts Tryz.infoInt
  obtain ⟨og, oc, hv, hgB, hol, hor, q0, q1, q2, qf⟩ := h.topAt ho
  have c2 : w.cell? ⟨rb, 2, none⟩ = some M.vo := cell_of_block h.blk 2
  rw [hv] at c2
  obtain ⟨h1, h2, h3, h4⟩ := (h.topCells ho hv).2.2.2.2.2.2
  obtain ⟨ta, tc, hvt⟩ := own_form h3
  rw [hvt] at q1
  obtain ⟨xa, xc, hx⟩ := own_form h.ex
  have had := fun q => radd_any (w.drewN q) B rb xa xc M.xs.length M.vr M.vo M.sign M.may (M.xs.flatMap exC) 5 none 0 0 ⟨#[]⟩ 0 ta m.1.terms.length tc (by rw [← hx]; exact (h.drewN q).blk) (by rw [← hx]; exact (h.drewN q).ex) hb0 h.ge
  have hrl := h.lt
  have hge := h.ge
  have hL : (mr.length : Int) < (mr.length : Int) + 1 := by omega
  have H : Hid (Mem w B rb M lab (· = 0)) := h
  have HO : Hid (M.os = mr ++ [m]) := ho
  have HV : Hid (M.vo = .slice (some ⟨og, 0, none⟩) (mr.length + 1) oc) := hv
  have HT : Hid (m.2.2 = .slice ta m.1.terms.length tc) := hvt
  have HX := (show Hid _ from hx)
  have HML : Hid (m.1.seqs.length + 1 ≤ maxLen) := by show _ ≤ _; unfold maxLen; omega
  clear h ho hv hvt h1 h2 h3 h4 hx q0 q2
  go_enter Tryz.func141, Tryz.ntmps141
  go_wp2_with fail
  go_quiet (fail)
  go_wp2_with fail
  refine (had _).mono ?_
  rintro e1 w2 ⟨xg, xcap, rfl, hAE⟩
  have h2 := ((H.out.drewN nq).weaken (P' := fun l => l = 0 ∨ l = 2 * mr.length + 2) (fun l hl => .inl hl)).add (re := ⟨5, [], [], 0, m.1.terms⟩) (iv := .slice none 0 0) (pv := m.2.2) (by rw [HX.out, HT.out]; exact hAE) (World.ownsRow_nil _ _ _ _) ((H.out.drewN nq).topCells HO.out HV.out).2.2.2.2.2.2.2.2.1 (fun b hb => .inr (((H.out.drewN nq).topCells HO.out HV.out).2.2.2.2.2.2.2.2.2 b hb))
  obtain ⟨hM2, hKA⟩ := h2
  have HKA : Hid (KT B w w2) := ((KT.refl B w).drewN nq).trans hKA
  obtain ⟨M2, hM2e⟩ : ∃ M2, M2 = ({ M with vx := .slice (some ⟨xg, 0, none⟩) (M.xs.length + 1) xcap, xs := M.xs ++ [(⟨5, [], [], 0, m.1.terms⟩, .slice none 0 0, m.2.2)] } : MV) := ⟨_, rfl⟩
  rw [← hM2e] at hM2
  have ho2 : M2.os = mr ++ [m] := by rw [hM2e]; exact HO.out
  have hv2 : M2.vo = .slice (some ⟨og, 0, none⟩) (mr.length + 1) oc := by rw [hM2e]; exact HV.out
  have HST : Hid (M2.st = M.st.add ⟨5, [], [], 0, m.1.terms⟩) := by rw [hM2e]; show _ = _; simp [MV.st, Thk.ST.add]
  obtain ⟨k0, k1, k2, k3, kf, ⟨ocs, hoc⟩, k4, k5, k6, k7⟩ := hM2.topCells ho2 hv2
  obtain ⟨sa, sc, hvs⟩ := own_form k4
  rw [hvs] at k1
  have hown : w2.ownsRow B 3 1 (.slice sa m.1.seqs.length sc) m.1.seqs.length (m.1.seqs.map intV) := by rw [← hvs]; exact k4
  have HS := (show Hid _ from hvs)
  have HM2 := (show Hid _ from hM2)
  have HO2 := (show Hid _ from ho2)
  have HV2 := (show Hid _ from hv2)
  have HOC := (show Hid _ from hoc)
  have hB2 : B ≤ w2.heap.size := by have := hM2.lt; omega
  clear had hAE hKA hM2 hM2e ho2 hv2 hvs k4 k5 k6 k7 k3 q1 hoc
  go_wp2_with (first | (at_builtin; refine wpList_append_lies _ rfl _ _ 40 rfl B 3 i0 _ 1 8 Tryz.underlying40 hi hz0 hz1 hz2 rfl (by decide) _ _ _ rfl (hown.alloc _) ⟨w2.heap.size, 0, none⟩ 1 1 [intV M.xs.length] rfl rfl ?c1 ?c2 (by decide) HML.out ?c4 ?c5 (w2.heap.size + 1) (by simp) ?_))
  case c1 => exact cell_one_new _ _ _
  case c2 => intro u hu; simp at hu; subst hu; rfl
  case c4 => omega
  case c5 => simp; omega
  intro g cap w3 hown' hgrow hat hgl
  have hMW := HM2.out.below (lab' := lab) (w' := w2.alloc (.cells #[.int .i64 M.xs.length] 3)) (below_alloc _ _) (fun _ _ => rfl)
  have hPS := hMW.pushSeq HO2.out HV2.out (by simp) hown' (by rw [HS.out]; exact hgrow) (by rw [HS.out]; simpa using hat)
  have hogk : w3.heap[og]? = w2.heap[og]? := by
    rw [hgrow.block og (by simp; omega) (fun e1 => own_ty hown HOC.out (by decide) e1.symm)]
    exact heap_alloc_old _ _ k0
  have d0 : w3.cell? ⟨og, mr.length * 3, none⟩ = some (.slice sa m.1.seqs.length sc) := (World.cell?_of_block hogk).trans k1
  have d1 : w3.cell? ⟨og, mr.length * 3 + 1, none⟩ = some m.2.2 := (World.cell?_of_block hogk).trans k2
  have df : ∀ o, w3.frozen? ⟨og, o, none⟩ = false := fun o => (World.frozen?_of_block hogk).trans (kf _)
  have HPS := (show Hid _ from hPS)
  clear hMW hPS hogk hown hown' hgrow hat k1 k2 kf
  go_wp2_with fail
  obtain ⟨hM3, hK3⟩ := HPS.out
  obtain ⟨hM4, hK4⟩ := hM3.nilTerms (m := ({ m.1 with seqs := m.1.seqs ++ [M.xs.length] }, .slice (some ⟨g, 0, none⟩) (m.1.seqs.length + 1) cap, m.2.2)) rfl HV2.out
  go_end0
  refine ⟨rfl, _, _, hM4, ?_, ?_⟩
  · exact HKA.out.trans ((KT.alloc B w2 hB2 _).trans (hK3.trans hK4))
  · have e1 : M.st.top = m.1 := by simp [MV.st, Thk.ST.top, HO.out, List.getLastD_concat]
    have e2 : M.st.xs.length = M.xs.length := by simp [MV.st]
    unfold Thk.ST.slash
    rw [e1, e2, ← HST.out]
    simp [MV.st, Thk.ST.setTop, HO2.out]
end Go.Proofs.YtiganlkabilblaaGreatDoor
namespace Go.Proofs.YtiganlkabilblaaGreatDoor
open Go.RowKit
attribute [local go_sem ↓] Go.wp_at_zero Go.wp_at_succ
theorem os_split {M : MV} {l : List Thk.OP} {o : Thk.OP} (h : M.st.os = l ++ [o]) : ∃ mr m, M.os = mr ++ [m] ∧ mr.map (·.1) = l ∧ m.1 = o := by
  have h' : M.os.map (·.1) = l ++ [o] := h
  rw [List.map_eq_append_iff] at h'
  obtain ⟨l1, l2, h1, h2, h3⟩ := h'
  match l2, h3 with
  | [m], h3 => exact ⟨l1, m, h1, h2, by simpa using h3⟩
/-- The innermost ends: its sequences' row is handed on. -/
theorem Mem.pop {w : World} {B rb : Nat} {M : MV} {lab : Nat → Nat} (h : Mem w B rb M lab (· = 0)) {mr : List (Thk.OP × Value × Value)} {m : Thk.OP × Value × Value} (ho : M.os = mr ++ [m]) {og oc : Nat} (hv : M.vo = .slice (some ⟨og, 0, none⟩) (mr.length + 1) oc) :
    Mem (w.setCell ⟨rb, 2, none⟩ (.slice (some ⟨og, 0, none⟩) mr.length oc)) B rb { M with vo := .slice (some ⟨og, 0, none⟩) mr.length oc, os := mr } (fun b => if lab b = 2 * mr.length + 1 then 0 else lab b) (· = 0) ∧ KT B w (w.setCell ⟨rb, 2, none⟩ (.slice (some ⟨og, 0, none⟩) mr.length oc)) ∧
      Ints (w.setCell ⟨rb, 2, none⟩ (.slice (some ⟨og, 0, none⟩) mr.length oc)) B m.2.1 m.1.seqs ∧ Lab (fun b => if lab b = 2 * mr.length + 1 then 0 else lab b) m.2.1 0 := by
  have c := Chg.set rb 2 (.slice (some ⟨og, 0, none⟩) mr.length oc) w
  have hlen : mr.length < M.os.length := by rw [ho]; simp
  obtain ⟨h1, h2, h3, h4⟩ := (h.topCells ho hv).2.2.2.2.2.2
  have hop := h.op
  rw [hv, ho] at hop
  have hop' : w.ownsRow B 209 3 (.slice (some ⟨og, 0, none⟩) mr.length oc) mr.length (mr.flatMap opC) := by
    refine ownsRow_pop (last := opC m) (by rw [opC_len]) ?_
    simpa using hop
  refine ⟨⟨h.ge, by rw [setCell_block h.blk]; rfl, own_keep c h.ex (own_ty h.ex h.blk (by decide)), own_keep c h.ru (own_ty h.ru h.blk (by decide)), own_keep c hop' (own_ty hop' h.blk (by decide)), fun p hp => own_keep c (h.items p hp) (own_ty (h.items p hp) h.blk (by decide)), fun p hp => ⟨own_keep c (h.parts p hp).1 (own_ty (h.parts p hp).1 h.blk (by decide)), fun g hg => ?_⟩, ?_⟩, KT.chg c (by have := h.lt; have := h.ge; omega) h.ge (fun cs t fr hb => by rw [h.blk] at hb; simp at hb; rw [← hb.2.1]; decide), own_keep c h1 (own_ty h1 h.blk (by decide)), fun g hg => ?_⟩
  · have e1 : lab g = 0 := (h.parts p hp).2 g hg
    show (if lab g = _ then 0 else lab g) = 0
    rw [e1]; split <;> rfl
  · intro k hk
    simp only [] at hk ⊢
    obtain ⟨i1, i2, i3, i4⟩ := h.opens k (by omega)
    simp only [ho, List.getElem_append_left hk] at i1 i2 i3 i4
    refine ⟨own_keep c i1 (own_ty i1 h.blk (by decide)), fun b hb => ?_, own_keep c i3 (own_ty i3 h.blk (by decide)), fun b hb => ?_⟩
    · have e1 := i2 b hb; simp only []; rw [e1, if_neg (by omega)]
    · have e1 := i4 b hb; simp only []; rw [e1, if_neg (by omega)]
  · have e1 := h2 g hg; simp only []; rw [e1, if_pos rfl]
set_option maxHeartbeats 8000000 in
set_option maxRecDepth 100000 in
theorem rclosed_any (w : World) (B rb : Nat) (M : MV) (lab : Nat → Nat) (h : Mem w B rb M lab (· = 0)) (mr0 : List (Thk.OP × Value × Value)) (m0 : Thk.OP × Value × Value) (ho : M.os = mr0 ++ [m0]) (hb0 : M.xs.length ≤ 90000) (hb1 : m0.1.seqs.length ≤ 90000) (hb2 : mr0.length ≤ 90000) :
    Calls Tryz.prog 140 #[.pointer (some ⟨rb, 0, none⟩)] w fun e' w' => RdPost w B rb M.st.closed (.tuple #[.int .i64 ↑(M.xs.length + 1), .string ⟨m0.1.sign.toArray⟩]) e' w' := by
  have hsl := rslash_any w B rb M lab h mr0 m0 ho (by omega) (by omega) (by omega)
  have e1 : M.st.top = m0.1 := by simp [MV.st, Thk.ST.top, ho, List.getLastD_concat]
  have e2 : M.st.xs.length = M.xs.length := by simp [MV.st]
  have hso : M.st.slash.os = mr0.map (·.1) ++ [⟨m0.1.seqs ++ [M.xs.length], [], m0.1.sign⟩] := by
    unfold Thk.ST.slash
    rw [e1, e2]
    simp [MV.st, Thk.ST.setTop, Thk.ST.add, ho]
  have HCL : Hid (M.st.closed = ({ M.st.slash with os := mr0.map (·.1) } : Thk.ST).add ⟨6, [], [], 0, m0.1.seqs ++ [M.xs.length]⟩) := by
    show _ = _
    unfold Thk.ST.closed
    rw [e1, e2, show M.st.os.dropLast = mr0.map (·.1) from by simp [MV.st, ho]]
  have hsx : M.st.slash.xs.length = M.xs.length + 1 := by
    unfold Thk.ST.slash
    simp [Thk.ST.setTop, Thk.ST.add, MV.st]
  have HSO := (show Hid _ from hso)
  have HSX := (show Hid _ from hsx)
  clear h ho hso e1 e2 hsx
  go_enter Tryz.func140, Tryz.ntmps140
  go_wp2_with fail
  refine hsl.mono ?_
  rintro e1 w1 ⟨rfl, M1, lab1, hM1, hK1, hS1⟩
  obtain ⟨mr, m, ho, hmr, hm1⟩ := os_split (M := M1) (by rw [hS1]; exact HSO.out)
  have hxl : M1.xs.length = M.xs.length + 1 := by
    have := HSX.out; rw [← hS1] at this; simpa [MV.st] using this
  have hmrl : mr.length = mr0.length := by rw [← List.length_map (f := (·.1)), hmr]; simp
  have hL1 : mr.length ≤ 90000 := by omega
  have hrl := hM1.lt
  have hge := hM1.ge
  obtain ⟨og, oc, hv, hgB, hol, hor, q0, q1, q2, qf⟩ := hM1.topAt ho
  have c2 : w1.cell? ⟨rb, 2, none⟩ = some M1.vo := cell_of_block hM1.blk 2
  have f2 : w1.frozen? ⟨rb, 2, none⟩ = false := frozen_of_block hM1.blk 2
  rw [hv] at c2
  obtain ⟨h1, h2, h3, h4⟩ := (hM1.topCells ho hv).2.2.2.2.2.2
  have hse : m.1.seqs = m0.1.seqs ++ [M.xs.length] := by rw [hm1]
  have hte : m.1.sign = m0.1.sign := by rw [hm1]
  obtain ⟨sa, sc, hvs⟩ := own_form h1
  obtain ⟨ta, tc, hvt⟩ := own_form h3
  rw [hvs] at q0
  rw [hvt] at q1
  rw [hte] at q2
  have hL : (mr.length : Int) < (mr.length : Int) + 1 := by omega
  have hcap : (mr.length : Int) ≤ (oc : Int) := by
    have hop := hM1.op
    rw [hv, ho] at hop
    rcases hop.2 with ⟨hx, _⟩ | ⟨g', cap', cur, hx, _, _, hnc, _⟩
    · simp at hx
    · simp at hx; obtain ⟨_, rfl⟩ := hx; simp at hnc; omega
  have HM1 : Hid (Mem w1 B rb M1 lab1 (· = 0)) := hM1
  have HO : Hid (M1.os = mr ++ [m]) := ho
  have HV : Hid (M1.vo = .slice (some ⟨og, 0, none⟩) (mr.length + 1) oc) := hv
  have HVS := (show Hid _ from hvs)
  have HVT := (show Hid _ from hvt)
  have HSE := (show Hid _ from hse)
  have HS1 : Hid (M1.st = M.st.slash) := hS1
  have HXL := (show Hid _ from hxl)
  have HMR := (show Hid _ from hmr)
  have HK1 := (show Hid _ from hK1)
  clear hsl hM1 ho hv hvs hvt hse hS1 hm1 hte hmr hK1 hmrl h1 h2 h3 h4
  go_wp2_with fail
  go_region
  go_wp2_with fail
  go_region
  go_wp2_with fail
  have hpop := HM1.out.pop HO.out HV.out
  obtain ⟨hMp, hKp, hIp, hLp⟩ := hpop
  generalize hWe : ((w1.setCell ⟨rb, 2, none⟩ (.slice (some ⟨og, 0, none⟩) mr.length oc)).alloc (.cells #[.slice sa m.1.seqs.length sc, .slice ta m.1.terms.length tc, .string ⟨m0.1.sign.toArray⟩] 209)).drew.drew = W
  have hbW : Below (w1.setCell ⟨rb, 2, none⟩ (.slice (some ⟨og, 0, none⟩) mr.length oc)).heap.size (w1.setCell ⟨rb, 2, none⟩ (.slice (some ⟨og, 0, none⟩) mr.length oc)) W := by
    rw [← hWe]; exact ((below_alloc _ _).drew).drew
  have hMW := hMp.below hbW (fun _ _ => rfl)
  have hIW : Ints W B m.2.1 m.1.seqs := own_below hIp hbW
  have hKW : KT B w1 W := by
    rw [← hWe]
    exact ((hKp.trans (KT.alloc B _ (by simp; omega) _)).drew).drew
  have hoW : W.heap[w1.heap.size]? = some (.cells #[.slice sa m.1.seqs.length sc, .slice ta m.1.terms.length tc, .string ⟨m0.1.sign.toArray⟩] 209 (0, 0)) := by
    rw [← hWe]
    show ((w1.setCell _ _).alloc _).heap[_]? = _
    rw [show w1.heap.size = (w1.setCell ⟨rb, 2, none⟩ (.slice (some ⟨og, 0, none⟩) mr.length oc)).heap.size from by simp]; exact heap_alloc_new _ _
  have hszW : W.heap.size = w1.heap.size + 1 := by rw [← hWe]; show ((w1.setCell _ _).alloc _).heap.size = _; simp
  clear hWe hbW hMp hKp hIp c2 f2 q0 q1 q2 qf
  obtain ⟨Mp, hMpe⟩ : ∃ Mp, Mp = ({ M1 with vo := .slice (some ⟨og, 0, none⟩) mr.length oc, os := mr } : MV) := ⟨_, rfl⟩
  obtain ⟨labp, hlabe⟩ : ∃ l, l = (fun b => if lab1 b = 2 * mr.length + 1 then 0 else lab1 b) := ⟨_, rfl⟩
  rw [← hMpe, ← hlabe] at hMW
  rw [← hlabe] at hLp
  have hxp : Mp.xs.length = M.xs.length + 1 := by rw [hMpe]; exact HXL.out
  have HSTp : Hid (Mp.st = ({ M.st.slash with os := mr0.map (·.1) } : Thk.ST)) := by
    show _ = _
    rw [hMpe, ← HS1.out, ← HMR.out]
    rfl
  obtain ⟨xa, xc, hx⟩ := own_form hMW.ex
  have had1 := radd_any W.drew B rb xa xc Mp.xs.length Mp.vr Mp.vo Mp.sign Mp.may (Mp.xs.flatMap exC) 6 none 0 0 ⟨#[]⟩ 0 sa m.1.seqs.length sc (by rw [← hx]; exact hMW.blk) (by rw [← hx]; exact hMW.ex) (by omega) hMW.ge
  simp only [show ((6 : Nat) : Int) = 6 from rfl] at had1
  have o0 : W.cell? ⟨w1.heap.size, 0, none⟩ = some (.slice sa m.1.seqs.length sc) := cell_of_block hoW 0
  have o2 : W.cell? ⟨w1.heap.size, 2, none⟩ = some (.string ⟨m0.1.sign.toArray⟩) := cell_of_block hoW 2
  have HMW : Hid (Mem W B rb Mp labp (· = 0)) := hMW
  have HIW := (show Hid _ from hIW)
  have HLP := (show Hid _ from hLp)
  have HKW := (show Hid _ from hKW)
  have HOW := (show Hid _ from hoW)
  have HX := (show Hid _ from hx)
  have hne : some w1.heap.size ≠ (Value.slice xa Mp.xs.length xc).ownBlock := fun e1 => by
    have := own_ty hMW.ex hoW (by decide)
    rw [hx] at this
    exact this e1.symm
  have HNE := (show Hid _ from hne)
  have hrl2 : rb < w1.heap.size := hrl
  clear hMW hIW hLp hKW hoW hMpe hlabe hx hne
  go_region_with (go_at_call 102; go_loud (refine had1.mono ?_; rintro e1 w2 ⟨xg, xcap, rfl, hAE⟩; have y2 : w2.cell? ⟨w1.heap.size, 2, none⟩ = some (.string ⟨m0.1.sign.toArray⟩) := (World.cell?_of_block (hAE.same w1.heap.size (by simp; omega) (by omega) HNE.out)).trans o2))
  all_goals go_wp2_with fail
  all_goals
    have hend := HMW.out.drew.add (re := ⟨6, [], [], 0, m.1.seqs⟩) (iv := .slice none 0 0) (pv := m.2.1) (by rw [HX.out, HVS.out]; exact hAE) (World.ownsRow_nil _ _ _ _) HIW.out (fun b hb => HLP.out b hb)
    go_ret2
    refine ⟨rfl, _, _, hend.1, ?_, ?_⟩
    · exact HK1.out.trans (HKW.out.trans ((KT.refl B W).drew.trans hend.2))
    · rw [HCL.out, ← HSTp.out, ← HSE.out]
      simp [MV.st, Thk.ST.add]
end Go.Proofs.YtiganlkabilblaaGreatDoor
namespace Go.Proofs.YtiganlkabilblaaGreatDoor
open Go.RowKit
attribute [local go_sem ↓] Go.wp_at_zero Go.wp_at_succ
theorem exC_get (ps : List (Thk.RE × Value × Value)) (i j : Nat) (hi : i < ps.length) (hj : j < 5) : (ps.flatMap exC)[i * 5 + j]? = (exC ps[i])[j]? := by
  induction ps generalizing i with
  | nil => simp at hi
  | cons p ps ih =>
    have hl : (exC p).length = 5 := rfl
    cases i with
    | zero =>
      simp only [List.flatMap_cons, Nat.zero_mul, Nat.zero_add, List.getElem_cons_zero]
      rw [List.getElem?_append_left (by omega)]
    | succ i =>
      simp only [List.flatMap_cons, List.getElem_cons_succ]
      rw [List.getElem?_append_right (by omega), hl, show (i + 1) * 5 + j - 5 = i * 5 + j from by omega]
      exact ih i (by simpa using hi)
theorem exC_set (ps : List (Thk.RE × Value × Value)) (i j : Nat) (hi : i < ps.length) (hj : j < 5) (u : Value) (q : Thk.RE × Value × Value) (hq : (exC ps[i]).set j u = exC q) : (ps.flatMap exC).set (i * 5 + j) u = (ps.set i q).flatMap exC := by
  induction ps generalizing i with
  | nil => simp at hi
  | cons p ps ih =>
    have hl : (exC p).length = 5 := rfl
    cases i with
    | zero =>
      simp only [List.flatMap_cons, Nat.zero_mul, Nat.zero_add, List.set_cons_zero]
      rw [List.set_append_left _ _ (by omega)]
      simp only [List.getElem_cons_zero] at hq
      rw [hq]
    | succ i =>
      simp only [List.flatMap_cons, List.set_cons_succ]
      rw [List.set_append_right _ _ (by omega), hl, show (i + 1) * 5 + j - 5 = i * 5 + j from by omega]
      simp only [List.getElem_cons_succ] at hq
      rw [ih i (by simpa using hi) hq]
theorem Mem.exAt {w : World} {B rb : Nat} {M : MV} {lab : Nat → Nat} {P : Nat → Prop} (h : Mem w B rb M lab P) (hn : 0 < M.xs.length) :
    ∃ xg xc, M.vx = .slice (some ⟨xg, 0, none⟩) M.xs.length xc ∧ B ≤ xg ∧ xg < w.heap.size ∧ (∃ cs, w.heap[xg]? = some (.cells cs 149 (0, 0))) ∧ (∀ o, w.frozen? ⟨xg, o, none⟩ = false) ∧
      ∀ k (hk : k < M.xs.length), w.cell? ⟨xg, k * 5, none⟩ = some (.int .i64 M.xs[k].1.kind) ∧ w.cell? ⟨xg, k * 5 + 1, none⟩ = some M.xs[k].2.1 ∧ w.cell? ⟨xg, k * 5 + 2, none⟩ = some (.string ⟨M.xs[k].1.text.toArray⟩) ∧ w.cell? ⟨xg, k * 5 + 3, none⟩ = some (.int .i64 M.xs[k].1.rule) ∧ w.cell? ⟨xg, k * 5 + 4, none⟩ = some M.xs[k].2.2 := by
  have hex := h.ex
  obtain ⟨xg, xc, hv, hb, hl⟩ := hex.form hn
  rw [hv] at hex
  refine ⟨xg, xc, hv, hb, hl, own_blk hex rfl, fun o => hex.frozenAt o, fun k hk => ?_⟩
  have hc : ∀ j, j < 5 → w.cell? ⟨xg, k * 5 + j, none⟩ = (exC M.xs[k])[j]? := fun j hj => by rw [hex.cellAt _ (by omega), exC_get _ _ _ hk hj]
  exact ⟨hc 0 (by decide), hc 1 (by decide), hc 2 (by decide), hc 3 (by decide), hc 4 (by decide)⟩
/-- An expression's parts anew. -/
theorem Mem.setParts {w : World} {B rb : Nat} {M : MV} {lab : Nat → Nat} (h : Mem w B rb M lab (· = 0)) {k : Nat} (hk : k < M.xs.length) {xg xc : Nat} (hv : M.vx = .slice (some ⟨xg, 0, none⟩) M.xs.length xc) {pv : Value} {ns : List Nat} (hp : Ints w B pv ns) (hl : Lab lab pv 0) :
    Mem (w.setCell ⟨xg, k * 5 + 4, none⟩ pv) B rb { M with xs := M.xs.set k ({ M.xs[k].1 with parts := ns }, M.xs[k].2.1, pv) } lab (· = 0) ∧ KT B w (w.setCell ⟨xg, k * 5 + 4, none⟩ pv) := by
  have c := Chg.set xg (k * 5 + 4) pv w
  have hex := h.ex
  rw [hv] at hex
  obtain ⟨cs, hxb⟩ := own_blk hex (b := xg) rfl
  have hnr : rb ≠ xg := by
    intro e1; subst e1
    have := own_ty hex h.blk (by decide)
    simp [Value.ownBlock] at this
  have hst := (hex.stored (k * 5 + 4) pv).1
  rw [exC_set M.xs k 4 hk (by decide) pv ({ M.xs[k].1 with parts := ns }, M.xs[k].2.1, pv) rfl] at hst
  have hmem : ∀ p ∈ M.xs.set k ({ M.xs[k].1 with parts := ns }, M.xs[k].2.1, pv), p ∈ M.xs ∨ p = ({ M.xs[k].1 with parts := ns }, M.xs[k].2.1, pv) := fun p hp => List.mem_or_eq_of_mem_set hp
  refine ⟨⟨h.ge, by rw [c.same rb h.lt hnr]; exact h.blk, ?_, own_keep c h.ru (own_ty h.ru hxb (by decide)), own_keep c h.op (own_ty h.op hxb (by decide)), ?_, ?_, ?_⟩, KT.chg c (by have := h.lt; have := h.ge; omega) (hex.lt xg rfl).1 (fun cs' t fr hb => by rw [hxb] at hb; simp at hb; rw [← hb.2.1]; decide)⟩
  · simp only [hv, List.length_set]; exact hst
  · intro p hpm
    rcases hmem p hpm with hpm | rfl
    · exact own_keep c (h.items p hpm) (own_ty (h.items p hpm) hxb (by decide))
    · have := h.items M.xs[k] (List.getElem_mem hk)
      exact own_keep c this (own_ty this hxb (by decide))
  · intro p hpm
    rcases hmem p hpm with hpm | rfl
    · exact ⟨own_keep c (h.parts p hpm).1 (own_ty (h.parts p hpm).1 hxb (by decide)), (h.parts p hpm).2⟩
    · exact ⟨own_keep c hp (own_ty hp hxb (by decide)), hl⟩
  · intro j hj
    obtain ⟨h1, h2, h3, h4⟩ := h.opens j hj
    exact ⟨own_keep c h1 (own_ty h1 hxb (by decide)), h2, own_keep c h3 (own_ty h3 hxb (by decide)), h4⟩
/-- The innermost's last term anew. -/
theorem Mem.setLast {w : World} {B rb : Nat} {M : MV} {lab : Nat → Nat} (h : Mem w B rb M lab (· = 0)) {mr : List (Thk.OP × Value × Value)} {m : Thk.OP × Value × Value} (ho : M.os = mr ++ [m]) {tl : List Nat} {k : Nat} (ht : m.1.terms = tl ++ [k]) {tg tc : Nat} (hv : m.2.2 = .slice (some ⟨tg, 0, none⟩) (tl.length + 1) tc) (n : Nat) :
    Mem (w.setCell ⟨tg, tl.length, none⟩ (.int .i64 n)) B rb { M with os := mr ++ [({ m.1 with terms := tl ++ [n] }, m.2.1, m.2.2)] } lab (· = 0) ∧ KT B w (w.setCell ⟨tg, tl.length, none⟩ (.int .i64 n)) := by
  have c := Chg.set tg tl.length (.int .i64 n) w
  have hlen : mr.length < M.os.length := by rw [ho]; simp
  have hle : M.os.length = mr.length + 1 := by rw [ho]; simp
  have hm : M.os[mr.length]'hlen = m := by simp only [ho]; rw [List.getElem_append_right (Nat.le_refl _)]; simp
  obtain ⟨h1, h2, h3, h4⟩ := h.opens mr.length hlen
  rw [hm] at h1 h2 h3 h4
  have hlt : lab tg = 2 * mr.length + 2 := h4 tg (by rw [hv]; rfl)
  have h3' : w.ownsRow B 3 1 (.slice (some ⟨tg, 0, none⟩) (tl.length + 1) tc) (tl.length + 1) ((tl ++ [k]).map intV) := by
    have h3 := h3; unfold Ints at h3; rw [hv, ht] at h3; simpa using h3
  obtain ⟨cs, htb⟩ := own_blk h3' (b := tg) rfl
  have hst := (h3'.stored tl.length (.int .i64 n)).1
  have hnr : rb ≠ tg := by
    intro e1; subst e1
    have := own_ty h3' h.blk (by decide)
    simp [Value.ownBlock] at this
  have hlb : ∀ (v : Value) (l : Nat), Lab lab v l → l ≠ 2 * mr.length + 2 → v.ownBlock ≠ some tg := by
    intro v l hv hl e1
    have := hv tg e1
    omega
  refine ⟨⟨h.ge, by rw [c.same rb h.lt hnr]; exact h.blk, own_keep c h.ex (own_ty h.ex htb (by decide)), own_keep c h.ru (own_ty h.ru htb (by decide)), ?_, fun p hp => own_keep c (h.items p hp) (own_ty (h.items p hp) htb (by decide)), fun p hp => ⟨own_keep c (h.parts p hp).1 (hlb _ 0 (h.parts p hp).2 (by omega)), (h.parts p hp).2⟩, ?_⟩, KT.chg c (by have := h.lt; have := h.ge; omega) (h3'.lt tg rfl).1 (fun cs' t fr hb => by rw [htb] at hb; simp at hb; rw [← hb.2.1]; decide)⟩
  · have hop := h.op
    rw [ho] at hop
    have := own_keep c hop (own_ty hop htb (by decide))
    simpa [opC] using this
  · intro j hj
    simp only [] at hj ⊢
    by_cases hjm : j < mr.length
    · rw [List.getElem_append_left hjm]
      obtain ⟨i1, i2, i3, i4⟩ := h.opens j (by omega)
      simp only [ho, List.getElem_append_left hjm] at i1 i2 i3 i4
      exact ⟨own_keep c i1 (hlb _ _ i2 (by omega)), i2, own_keep c i3 (hlb _ _ i4 (by omega)), i4⟩
    · have hje : j = mr.length := by simp at hj; omega
      subst hje
      rw [List.getElem_append_right (Nat.le_refl _)]
      simp only [Nat.sub_self, List.getElem_cons_zero]
      refine ⟨own_keep c h1 (hlb _ _ h2 (by omega)), h2, ?_, h4⟩
      unfold Ints
      rw [hv]
      have e1 : ((tl ++ [k]).map intV).set tl.length (.int .i64 n) = (tl ++ [n]).map intV := by
        rw [List.map_append, List.set_append_right _ _ (by simp)]
        simp [intV]
      rw [e1] at hst
      simpa using hst
end Go.Proofs.YtiganlkabilblaaGreatDoor
namespace Go.Proofs.YtiganlkabilblaaGreatDoor
open Go.RowKit
attribute [local go_sem ↓] Go.wp_at_zero Go.wp_at_succ
abbrev gramO (vx vr : Value) : Obj := .cells #[vx, vr] 85 (0, 0)
/-- A grammar of the reference in memory. -/
structure GM (w : World) (B gb : Nat) (vx vr : Value) (ps : List (Thk.RE × Value × Value)) (rs : List (Thk.Bytes × Nat)) : Prop where
  blk : w.heap[gb]? = some (gramO vx vr)
  ex : w.ownsRow B 149 5 vx ps.length (ps.flatMap exC)
  ru : w.ownsRow B 90 2 vr rs.length (rs.flatMap ruC)
  items : ∀ p ∈ ps, Items w B p.2.1 p.1.items
  parts : ∀ p ∈ ps, Ints w B p.2.2 p.1.parts
theorem GM.lt {w : World} {B gb : Nat} {vx vr : Value} {ps : List (Thk.RE × Value × Value)} {rs : List (Thk.Bytes × Nat)} (h : GM w B gb vx vr ps rs) : gb < w.heap.size := heap_lt' h.blk
theorem GM.kept {w w' : World} {B gb : Nat} {vx vr : Value} {ps : List (Thk.RE × Value × Value)} {rs : List (Thk.Bytes × Nat)} (h : GM w B gb vx vr ps rs) (hb : ∀ k, k < w.heap.size → w'.heap[k]? = w.heap[k]?) : GM w' B gb vx vr ps rs :=
  ⟨by rw [hb gb h.lt]; exact h.blk, own_blocks h.ex (fun b e => hb b (h.ex.lt b e).2), own_blocks h.ru (fun b e => hb b (h.ru.lt b e).2), fun p hp => own_blocks (h.items p hp) (fun b e => hb b ((h.items p hp).lt b e).2), fun p hp => own_blocks (h.parts p hp) (fun b e => hb b ((h.parts p hp).lt b e).2)⟩
theorem GM.below {w w' : World} {B gb : Nat} {vx vr : Value} {ps : List (Thk.RE × Value × Value)} {rs : List (Thk.Bytes × Nat)} (h : GM w B gb vx vr ps rs) (hb : Below w.heap.size w w') : GM w' B gb vx vr ps rs := h.kept hb.block
theorem GM.exAt {w : World} {B gb : Nat} {vx vr : Value} {ps : List (Thk.RE × Value × Value)} {rs : List (Thk.Bytes × Nat)} (h : GM w B gb vx vr ps rs) (hn : 0 < ps.length) :
    ∃ xg xc, vx = .slice (some ⟨xg, 0, none⟩) ps.length xc ∧ B ≤ xg ∧ xg < w.heap.size ∧ ps.length ≤ maxLen := by
  have hex := h.ex
  rcases hex.2 with ⟨_, h0⟩ | ⟨g, cap, cur, rfl, hB, hg, h1, h2, _⟩
  · omega
  · exact ⟨g, cap, rfl, hB, heap_lt' hg, by omega⟩
theorem GM.exCells {w : World} {B gb : Nat} {vr : Value} {ps : List (Thk.RE × Value × Value)} {rs : List (Thk.Bytes × Nat)} {xg n xc : Nat} (h : GM w B gb (.slice (some ⟨xg, 0, none⟩) n xc) vr ps rs) :
    (∀ o, w.frozen? ⟨xg, o, none⟩ = false) ∧
      ∀ k (hk : k < ps.length), w.cell? ⟨xg, k * 5, none⟩ = some (.int .i64 ps[k].1.kind) ∧ w.cell? ⟨xg, k * 5 + 1, none⟩ = some ps[k].2.1 ∧ w.cell? ⟨xg, k * 5 + 2, none⟩ = some (.string ⟨ps[k].1.text.toArray⟩) ∧ w.cell? ⟨xg, k * 5 + 3, none⟩ = some (.int .i64 ps[k].1.rule) ∧ w.cell? ⟨xg, k * 5 + 4, none⟩ = some ps[k].2.2 := by
  have hex := h.ex
  have hv : n = ps.length := by
    rcases hex.2 with ⟨h0, _⟩ | ⟨g, cap, cur, h0, _⟩
    · cases h0
    · cases h0; rfl
  subst hv
  refine ⟨fun o => hex.frozenAt o, fun k hk => ?_⟩
  have hc : ∀ j, j < 5 → w.cell? ⟨xg, k * 5 + j, none⟩ = (exC ps[k])[j]? := fun j hj => by rw [hex.cellAt _ (by omega), exC_get _ _ _ hk hj]
  exact ⟨hc 0 (by decide), hc 1 (by decide), hc 2 (by decide), hc 3 (by decide), hc 4 (by decide)⟩
theorem ruC_get (ps : List (Thk.Bytes × Nat)) (i j : Nat) (hi : i < ps.length) (hj : j < 2) : (ps.flatMap ruC)[i * 2 + j]? = (ruC ps[i])[j]? := by
  induction ps generalizing i with
  | nil => simp at hi
  | cons p ps ih =>
    have hl : (ruC p).length = 2 := rfl
    cases i with
    | zero =>
      simp only [List.flatMap_cons, Nat.zero_mul, Nat.zero_add, List.getElem_cons_zero]
      rw [List.getElem?_append_left (by omega)]
    | succ i =>
      simp only [List.flatMap_cons, List.getElem_cons_succ]
      rw [List.getElem?_append_right (by omega), hl, show (i + 1) * 2 + j - 2 = i * 2 + j from by omega]
      exact ih i (by simpa using hi)
theorem GM.ruAt {w : World} {B gb : Nat} {vx vr : Value} {ps : List (Thk.RE × Value × Value)} {rs : List (Thk.Bytes × Nat)} (h : GM w B gb vx vr ps rs) (hn : 0 < rs.length) :
    ∃ rg rc, vr = .slice (some ⟨rg, 0, none⟩) rs.length rc ∧ B ≤ rg ∧ rg < w.heap.size := by
  have hex := h.ru
  rcases hex.2 with ⟨_, h0⟩ | ⟨g, cap, cur, rfl, hB, hg, h1, h2, _⟩
  · omega
  · exact ⟨g, cap, rfl, hB, heap_lt' hg⟩
theorem GM.ruCells {w : World} {B gb : Nat} {vx : Value} {ps : List (Thk.RE × Value × Value)} {rs : List (Thk.Bytes × Nat)} {rg n rc : Nat} (h : GM w B gb vx (.slice (some ⟨rg, 0, none⟩) n rc) ps rs) :
    ∀ k (hk : k < rs.length), w.cell? ⟨rg, k * 2, none⟩ = some (.string ⟨rs[k].1.toArray⟩) ∧ w.cell? ⟨rg, k * 2 + 1, none⟩ = some (.int .i64 rs[k].2) := by
  have hex := h.ru
  have hv : n = rs.length := by
    rcases hex.2 with ⟨h0, _⟩ | ⟨g, cap, cur, h0, _⟩
    · cases h0
    · cases h0; rfl
  subst hv
  intro k hk
  have hc : ∀ j, j < 2 → w.cell? ⟨rg, k * 2 + j, none⟩ = (ruC rs[k])[j]? := fun j hj => by rw [hex.cellAt _ (by omega), ruC_get _ _ _ hk hj]
  exact ⟨hc 0 (by decide), hc 1 (by decide)⟩
theorem GM.setRule {w : World} {B gb : Nat} {vr : Value} {ps : List (Thk.RE × Value × Value)} {rs : List (Thk.Bytes × Nat)} {xg n xc : Nat} (h : GM w B gb (.slice (some ⟨xg, 0, none⟩) n xc) vr ps rs) {i : Nat} (hi : i < ps.length) (r : Int) :
    GM (w.setCell ⟨xg, i * 5 + 3, none⟩ (.int .i64 r)) B gb (.slice (some ⟨xg, 0, none⟩) n xc) vr (ps.set i ({ ps[i].1 with rule := r }, ps[i].2)) rs := by
  have c := Chg.set xg (i * 5 + 3) (.int .i64 r) w
  have hex := h.ex
  have hv : n = ps.length := by
    rcases hex.2 with ⟨h0, _⟩ | ⟨g, cap, cur, h0, _⟩
    · cases h0
    · cases h0; rfl
  subst hv
  obtain ⟨cs, hxb⟩ := own_blk hex (b := xg) rfl
  have hng : gb ≠ xg := by
    intro e1; subst e1
    rw [h.blk] at hxb; simp at hxb
  have hst := (hex.stored (i * 5 + 3) (.int .i64 r)).1
  rw [exC_set ps i 3 hi (by decide) (.int .i64 r) ({ ps[i].1 with rule := r }, ps[i].2) rfl] at hst
  have hmem : ∀ p ∈ ps.set i ({ ps[i].1 with rule := r }, ps[i].2), p ∈ ps ∨ p = ({ ps[i].1 with rule := r }, ps[i].2) := fun p hp => List.mem_or_eq_of_mem_set hp
  refine ⟨by rw [c.same gb h.lt hng]; exact h.blk, by rw [List.length_set]; exact hst, own_keep c h.ru (own_ty h.ru hxb (by decide)), fun p hp => ?_, fun p hp => ?_⟩
  · rcases hmem p hp with hp | rfl
    · exact own_keep c (h.items p hp) (own_ty (h.items p hp) hxb (by decide))
    · have := h.items ps[i] (List.getElem_mem hi)
      exact own_keep c this (own_ty this hxb (by decide))
  · rcases hmem p hp with hp | rfl
    · exact own_keep c (h.parts p hp) (own_ty (h.parts p hp) hxb (by decide))
    · have := h.parts ps[i] (List.getElem_mem hi)
      exact own_keep c this (own_ty this hxb (by decide))
/-- The first rule from k on that has a name. -/
def rf (names : List Thk.Bytes) (b : Thk.Bytes) (k : Nat) : Int := if (names.drop k).contains b then ((k + (names.drop k).idxOf b : Nat) : Int) else -1
theorem rf_step (names : List Thk.Bytes) (b : Thk.Bytes) (k : Nat) (hk : k < names.length) : rf names b k = if names[k] = b then (k : Int) else rf names b (k + 1) := by
  unfold rf
  rw [List.drop_eq_getElem_cons hk]
  by_cases h : names[k] = b
  · rw [if_pos h, if_pos (by simp [h])]; simp [h]
  · have hb : (b == names[k]) = false := by simpa using fun e => h e.symm
    have hb' : (names[k] == b) = false := by simpa using h
    rw [if_neg h, List.contains_cons, hb, Bool.false_or, List.idxOf_cons, hb']
    simp only [cond_false]
    rw [show k + ((names.drop (k + 1)).idxOf b + 1) = k + 1 + (names.drop (k + 1)).idxOf b from by omega]
theorem rf_end (names : List Thk.Bytes) (b : Thk.Bytes) (k : Nat) (hk : names.length ≤ k) : rf names b k = -1 := by
  unfold rf; rw [List.drop_eq_nil_of_le hk]; rfl
/-- The rule of an expression, from rule k on. -/
def rfE (names : List Thk.Bytes) (e : Thk.RE) (k : Nat) : Int := if e.kind = 4 then rf names e.text k else -1
def ruled (names : List Thk.Bytes) (p : Thk.RE × Value × Value) : Thk.RE × Value × Value := ({ p.1 with rule := rfE names p.1 0 }, p.2)
structure NmAt (names : List Thk.Bytes) (ps qs : List (Thk.RE × Value × Value)) (i : Nat) : Prop where
  len : qs.length = ps.length
  lo : ∀ j, j < i → qs[j]? = (ps[j]?).map (ruled names)
  hi : ∀ j, i ≤ j → qs[j]? = ps[j]?
theorem NmAt.next {names : List Thk.Bytes} {ps qs : List (Thk.RE × Value × Value)} {i : Nat} (h : NmAt names ps qs i) (hi : i < qs.length) : NmAt names ps (qs.set i ({ qs[i].1 with rule := rfE names qs[i].1 0 }, qs[i].2)) (i + 1) := by
  have e := h.hi i (Nat.le_refl _)
  refine ⟨by simp [h.len], ?_, ?_⟩
  · intro j hj
    rw [List.getElem?_set]
    by_cases hij : i = j
    · subst hij
      rw [if_pos rfl, if_pos hi, ← e, List.getElem?_eq_getElem hi]; rfl
    · rw [if_neg hij]; exact h.lo j (by omega)
  · intro j hj
    rw [List.getElem?_set, if_neg (by omega)]; exact h.hi j (by omega)
theorem NmAt.done {names : List Thk.Bytes} {ps qs : List (Thk.RE × Value × Value)} (h : NmAt names ps qs ps.length) : qs = ps.map (ruled names) := by
  apply List.ext_getElem?
  intro j
  rw [List.getElem?_map]
  by_cases hj : j < ps.length
  · exact h.lo j hj
  · rw [h.hi j (by omega), List.getElem?_eq_none (by omega)]; rfl
end Go.Proofs.YtiganlkabilblaaGreatDoor
namespace Go.Proofs.YtiganlkabilblaaGreatDoor
open Go.RowKit Thk
attribute [local go_sem ↓] Go.wp_at_zero Go.wp_at_succ
/-- What is noted, as a value. -/
def ntV : Nt → Value
  | .nil => .nilIface
  | .use i a b m => .iface 108 (.agg #[.int .i64 i, .int .i64 a, .int .i64 b, ntV m])
  | .pair a b => .iface 342 (.agg #[ntV a, ntV b])
def endO : Out → Nat
  | none => 0
  | some x => x.1
def noteO : Out → Nt
  | none => .nil
  | some x => x.2
/-- An outcome, a trial, a key, as values. -/
abbrev outV (r : Out) : Value := .agg #[.int .i64 (endO r), .bool r.isSome]
abbrev triV (r : Out) : Value := .agg #[.int .i64 (endO r), .bool r.isSome, ntV (noteO r)]
abbrev spotV (n k : Nat) : Value := .agg #[.int .i64 n, .int .i64 k]
theorem check_spot (b : Bool) (n k : Int) (w : World) : (Instr.checkKey b 10000 328 (.agg #[.int .i64 n, .int .i64 k])).run Tryz.prog w = .ok () w := by kernel_rfl
theorem equal_spot (a b c d : Int) (w : World) : (Op.equal 328 (.agg #[.int .i64 a, .int .i64 b]) (.agg #[.int .i64 c, .int .i64 d])).run Tryz.prog w = .ok (a == c && b == d) w := by
  unfold Op.equal
  rw [show Op.maxDepth = 9999 + 1 from rfl, run_equalIn_agg w 9999 328 _ _ (by kernel_rfl) (by kernel_rfl)]
  rw [show (Tryz.prog.fieldsOf 328).toList = [{ name := "expression", type := 3, offset := 0, embedded := false, tag := "", pkgPath := "thicket/match", byteOffset := 0 }, { name := "place", type := 3, offset := 1, embedded := false, tag := "", pkgPath := "thicket/match", byteOffset := 8 }] by kernel_rfl]
  have p1 : ∀ (x y : Int) (w : World) , (part 3 #[.int .i64 x, .int .i64 y] 0).run Tryz.prog w = .ok (.int .i64 x) w := fun _ _ w => by kernel_rfl
  have p2 : ∀ (x y : Int) (w : World) , (part 3 #[.int .i64 x, .int .i64 y] 1).run Tryz.prog w = .ok (.int .i64 y) w := fun _ _ w => by kernel_rfl
  have e1 : ∀ (x y : Int) (w : World), (Op.equalIn 9999 3 (.int .i64 x) (.int .i64 y)).run Tryz.prog w = .ok (x == y) w := fun x y w => run_equalIn_int w 9998 3 .i64 .i64 x y Tryz.underlying3
  simp only [Op.eqFields, Sem.run_bind, Sem.run_ite, p1, p2, e1, Result.andThen_ok, Sem.run_pure]
  cases (a == c) <;> cases (b == d) <;> simp
/-- What has been tried. -/
abbrev Memo := List ((Nat × Nat) × Out)
def memoC (L : Memo) : List (Value × Value) := L.map fun p => (spotV p.1.1 p.1.2, triV p.2)
def memoAt (L : Memo) (n k : Nat) : Option Out := (L.find? (fun p => p.1.1 == n && p.1.2 == k)).map (·.2)
/-- The map of what has been tried. -/
def MemoIs (w : World) (tb : Nat) (L : Memo) : Prop := ∃ es clock, w.heap[tb]? = some (.map es clock) ∧ es.toList.map (fun x => (x.key, x.val)) = memoC L
theorem beq_cast (a b : Nat) : ((a : Int) == (b : Int)) = (a == b) := by
  rw [Bool.eq_iff_iff, beq_iff_eq, beq_iff_eq]; omega
theorem asking (n k : Nat) (w : World) : ∀ (es : List MapEntry) (L : Memo) (i : Nat), es.map (fun x => (x.key, x.val)) = memoC L →
    (Instr.findAsking 328 (spotV n k) es i).run Tryz.prog w = (match memoAt L n k with
      | none => .ok none w
      | some r => .ok (some (i + L.findIdx (fun p => p.1.1 == n && p.1.2 == k), triV r)) w)
  | [], L, i, h => by
    have : L = [] := by
      cases L with
      | nil => rfl
      | cons a L => simp [memoC] at h
    subst this
    simp [Instr.findAsking, memoAt]
  | e :: es, [], i, h => by simp [memoC] at h
  | e :: es, p :: L, i, h => by
    simp only [memoC, List.map_cons, List.cons.injEq, Prod.mk.injEq] at h
    obtain ⟨⟨h1, h2⟩, h3⟩ := h
    have ih := asking n k w es L (i + 1) h3
    have heq := equal_spot (n : Int) (k : Int) (p.1.1 : Int) (p.1.2 : Int) w
    simp only [Instr.findAsking, Sem.run_bind, h1]
    rw [heq]
    simp only [Result.andThen_ok, beq_cast]
    have hsw : (n == p.1.1 && k == p.1.2) = (p.1.1 == n && p.1.2 == k) := by
      rw [Bool.eq_iff_iff]
      simp only [Bool.and_eq_true, beq_iff_eq]
      constructor <;> rintro ⟨a, b⟩ <;> exact ⟨a.symm, b.symm⟩
    rw [hsw]
    cases hb : (p.1.1 == n && p.1.2 == k) with
    | true =>
      simp only [if_true, Sem.run_pure, memoAt, List.find?_cons, hb, List.findIdx_cons]
      simp [h2]
    | false =>
      simp only [Bool.false_eq_true, if_false, memoAt, List.find?_cons, hb, List.findIdx_cons]
      rw [ih]
      simp only [memoAt, cond_false]
      cases hm : Option.map (fun x => x.2) (L.find? (fun p => p.1.1 == n && p.1.2 == k)) with
      | none => rfl
      | some r =>
        simp only []
        rw [show i + 1 + L.findIdx (fun p => p.1.1 == n && p.1.2 == k) = i + (L.findIdx (fun p => p.1.1 == n && p.1.2 == k) + 1) from by omega]
theorem finding (n k : Nat) (w : World) (es : List MapEntry) (L : Memo) (h : es.map (fun x => (x.key, x.val)) = memoC L) :
    (Instr.findKey 328 (spotV n k) es).run Tryz.prog w = (match memoAt L n k with
      | none => .ok none w
      | some r => .ok (some (L.findIdx (fun p => p.1.1 == n && p.1.2 == k), triV r)) w) := by
  unfold Instr.findKey
  simp only [Sem.run_bind, run_underlying Tryz.underlying328, Result.andThen_ok]
  cases es with
  | nil =>
    have : L = [] := by
      cases L with
      | nil => rfl
      | cons a L => simp [memoC] at h
    subst this
    simp [Instr.findNow, memoAt]
  | cons e es =>
    simp only [Instr.findNow, Instr.sameNow]
    have := asking n k w (e :: es) L 0 h
    rw [this]
    simp
theorem MemoIs.look {w : World} {tb : Nat} {L : Memo} (h : MemoIs w tb L) (n k : Nat) :
    (Instr.lookup 174 (.map (some tb)) (spotV n k) true).run Tryz.prog w = .ok (.tuple #[triV ((memoAt L n k).getD none), .bool (memoAt L n k).isSome]) w := by
  obtain ⟨es, clock, hb, hl⟩ := h
  have hz : ∀ w, (zeroValue 231).run Tryz.prog w = .ok (.agg #[.int .i64 0, .bool false, .nilIface]) w := fun w => Tryz.zeroValue231 w
  have hck := check_spot es.isEmpty (n : Int) (k : Int) w
  have hfd := finding n k w es.toList L hl
  cases hm : memoAt L n k with
  | none =>
    rw [hm] at hfd
    simp only [] at hfd
    simp [Instr.lookup, run_underlying Tryz.underlying174, MapKept.run_getObj_map hb, hck, hfd, hz, Result.andThen, endO, noteO, ntV]
  | some r =>
    rw [hm] at hfd
    simp only [] at hfd
    simp [Instr.lookup, run_underlying Tryz.underlying174, MapKept.run_getObj_map hb, hck, hfd, Result.andThen]
/-- The world in which a block is another. -/
abbrev putB (w : World) (b : Nat) (o : Obj) : World := { w with heap := w.heap.setIfInBounds b o }
theorem MemoIs.put {w : World} {tb : Nat} {L : Memo} (h : MemoIs w tb L) (n k : Nat) (r : Out) (hn : memoAt L n k = none) :
    ∃ o, (Instr.mapUpdate 174 (.map (some tb)) (spotV n k) (triV r)).run Tryz.prog w = .ok () (putB w tb o) ∧ MemoIs (putB w tb o) tb (L ++ [((n, k), r)]) := by
  obtain ⟨es, clock, hb, hl⟩ := h
  have hck := check_spot false (n : Int) (k : Int) w
  have hfd := finding n k w es.toList L hl
  rw [hn] at hfd
  simp only [] at hfd
  refine ⟨.map (es.push { key := spotV n k, val := triV r, born := clock }) (clock + 1), ?_, (es.push { key := spotV n k, val := triV r, born := clock }), clock + 1, ?_, ?_⟩
  · simp [Instr.mapUpdate, run_underlying Tryz.underlying174, MapKept.run_getObj_map hb, hck, hfd, Result.andThen, MapKept.run_setObj_map _ hb]
  · have hlt := heap_lt hb
    show (w.heap.setIfInBounds tb _)[tb]? = _
    rw [Array.getElem?_setIfInBounds_self_of_lt hlt]
  · rw [Array.toList_push, List.map_append, hl]
    simp [memoC]
end Go.Proofs.YtiganlkabilblaaGreatDoor
namespace Go.Proofs.YtiganlkabilblaaGreatDoor
open Thk
abbrev REv := Nat → Nat → Option (Option Nat)
def seqR (F : REv) : List Nat → Nat → Option (Option Nat)
  | [], k => some (some k)
  | j :: js, k => match F j k with
    | none => none
    | some none => some none
    | some (some e) => seqR F js e
def chR (F : REv) : List Nat → Nat → Option (Option Nat)
  | [], _ => some none
  | j :: js, k => match F j k with
    | none => none
    | some none => chR F js k
    | some (some e) => some (some e)
/-- The loop of repetitions: what came last, and where the one ahead of it ended. -/
def repR (F : REv) (j : Nat) : Nat → Option Nat → Nat → Option (Option Nat)
  | 0, _, _ => none
  | _ + 1, none, k => some (some k)
  | c + 1, some e, _ => match F j e with
    | none => none
    | some n => repR F j c n e
def bytesR (inp : Bytes) (e : RE) (k : Nat) : Option Nat :=
  if e.kind = 3 then (if k < inp.length then some (k + 1) else none)
  else if e.kind = 2 then (match inp[k]? with | none => none | some c => if inSpan e.items c then some (k + 1) else none)
  else if (e.items.map (·.1)).isPrefixOf (inp.drop k) then some (k + e.items.length) else none
def wrapR (F : REv) (cnt : Nat) (e : RE) (k : Nat) : Option (Option Nat) :=
  match F (e.parts.headD 0) k with
  | none => none
  | some n =>
    if e.kind = 7 then some (some (n.getD k))
    else if e.kind = 10 then some (if n.isSome then some k else none)
    else if e.kind = 11 then some (if n.isSome then none else some k)
    else if e.kind = 9 ∧ n = none then some none
    else repR F (e.parts.headD 0) cnt n k
def bodyR (names : List Bytes) (bodies : List Nat) (inp : Bytes) (F : REv) (cnt : Nat) (e : RE) (k : Nat) : Option (Option Nat) :=
  if e.kind ≤ 3 then some (bytesR inp e k)
  else if e.kind = 4 then F (bodies.getD (idx0 names e.text) 0) k
  else if e.kind = 5 then seqR F e.parts k
  else if e.kind = 6 then chR F e.parts k
  else wrapR F cnt e k
/-- Is it an expression at all? -/
def okE (names : List Bytes) (e : RE) : Bool := decide (1 ≤ e.kind) && decide (e.kind ≤ 11) && decide (e.items.length ≤ 20) && (e.kind != 4 || names.contains e.text)
def evR (xs : List RE) (names : List Bytes) (bodies : List Nat) (inp : Bytes) : Nat → REv
  | 0, _, _ => none
  | f + 1, i, k => match xs[i]? with
    | none => none
    | some e => if okE names e then bodyR names bodies inp (evR xs names bodies inp f) f e k else none
def Le (F G : REv) : Prop := ∀ i k v, F i k = some v → G i k = some v
theorem seqR_mono {F G : REv} (h : Le F G) : ∀ js k v, seqR F js k = some v → seqR G js k = some v
  | [], k, v, e => e
  | j :: js, k, v, e => by
    simp only [seqR] at e ⊢
    cases hF : F j k with
    | none => rw [hF] at e; cases e
    | some o =>
      rw [h j k o hF]
      rw [hF] at e
      cases o with
      | none => exact e
      | some x => exact seqR_mono h js x v e
theorem chR_mono {F G : REv} (h : Le F G) : ∀ js k v, chR F js k = some v → chR G js k = some v
  | [], k, v, e => e
  | j :: js, k, v, e => by
    simp only [chR] at e ⊢
    cases hF : F j k with
    | none => rw [hF] at e; cases e
    | some o =>
      rw [h j k o hF]
      rw [hF] at e
      cases o with
      | none => exact chR_mono h js k v e
      | some x => exact e
theorem repR_mono {F G : REv} (h : Le F G) (j : Nat) : ∀ c d o k v, c ≤ d → repR F j c o k = some v → repR G j d o k = some v
  | 0, _, _, _, _, _, e => by simp [repR] at e
  | c + 1, 0, _, _, _, hc, _ => by omega
  | c + 1, d + 1, none, k, v, _, e => by simpa [repR] using e
  | c + 1, d + 1, some x, k, v, hc, e => by
    simp only [repR] at e ⊢
    cases hF : F j x with
    | none => rw [hF] at e; cases e
    | some o =>
      rw [h j x o hF]
      rw [hF] at e
      exact repR_mono h j c d o x v (by omega) e
theorem wrapR_mono {F G : REv} (h : Le F G) {c d : Nat} (hc : c ≤ d) {e : RE} {k : Nat} {v : Option Nat} (hv : wrapR F c e k = some v) : wrapR G d e k = some v := by
  unfold wrapR at hv ⊢
  cases hF : F (e.parts.headD 0) k with
  | none => rw [hF] at hv; cases hv
  | some o =>
    rw [h _ _ _ hF]
    rw [hF] at hv
    simp only [] at hv ⊢
    by_cases h7 : e.kind = 7
    · rw [if_pos h7] at hv ⊢; exact hv
    rw [if_neg h7] at hv ⊢
    by_cases h10 : e.kind = 10
    · rw [if_pos h10] at hv ⊢; exact hv
    rw [if_neg h10] at hv ⊢
    by_cases h11 : e.kind = 11
    · rw [if_pos h11] at hv ⊢; exact hv
    rw [if_neg h11] at hv ⊢
    by_cases h9 : e.kind = 9 ∧ o = none
    · rw [if_pos h9] at hv ⊢; exact hv
    rw [if_neg h9] at hv ⊢
    exact repR_mono h _ c d _ _ _ hc hv
theorem bodyR_mono {names : List Bytes} {bodies : List Nat} {inp : Bytes} {F G : REv} (h : Le F G) {c d : Nat} (hc : c ≤ d) {e : RE} {k : Nat} {v : Option Nat} (hv : bodyR names bodies inp F c e k = some v) : bodyR names bodies inp G d e k = some v := by
  unfold bodyR at hv ⊢
  by_cases h3 : e.kind ≤ 3
  · rw [if_pos h3] at hv ⊢; exact hv
  rw [if_neg h3] at hv ⊢
  by_cases h4 : e.kind = 4
  · rw [if_pos h4] at hv ⊢; exact h _ _ _ hv
  rw [if_neg h4] at hv ⊢
  by_cases h5 : e.kind = 5
  · rw [if_pos h5] at hv ⊢; exact seqR_mono h _ _ _ hv
  rw [if_neg h5] at hv ⊢
  by_cases h6 : e.kind = 6
  · rw [if_pos h6] at hv ⊢; exact chR_mono h _ _ _ hv
  rw [if_neg h6] at hv ⊢
  exact wrapR_mono h hc hv
theorem evR_step (xs : List RE) (names : List Bytes) (bodies : List Nat) (inp : Bytes) : ∀ f, Le (evR xs names bodies inp f) (evR xs names bodies inp (f + 1))
  | 0 => by intro i k v h; simp [evR] at h
  | f + 1 => by
    intro i k v h
    simp only [evR] at h ⊢
    cases hx : xs[i]? with
    | none => rw [hx] at h; cases h
    | some e =>
      rw [hx] at h
      simp only [] at h ⊢
      split at h
      · rename_i ho; rw [if_pos ho]; exact bodyR_mono (evR_step xs names bodies inp f) (Nat.le_succ f) h
      · cases h
theorem evR_mono {xs : List RE} {names : List Bytes} {bodies : List Nat} {inp : Bytes} {f d : Nat} (hf : f ≤ d) : Le (evR xs names bodies inp f) (evR xs names bodies inp d) := by
  induction d with
  | zero => have : f = 0 := by omega
            subst this; intro i k v h; exact h
  | succ d ih =>
    by_cases h : f = d + 1
    · subst h; intro i k v h; exact h
    · intro i k v hv; exact evR_step xs names bodies inp d i k v (ih (by omega) i k v hv)
theorem evR_det {xs : List RE} {names : List Bytes} {bodies : List Nat} {inp : Bytes} {f d i k : Nat} {v u : Option Nat} (h1 : evR xs names bodies inp f i k = some v) (h2 : evR xs names bodies inp d i k = some u) : v = u := by
  have a := evR_mono (Nat.le_max_left f d) i k v h1
  have b := evR_mono (Nat.le_max_right f d) i k u h2
  rw [a] at b
  exact Option.some.inj b
/-- What an expression of the reference is to be. -/
def DenI (xs : List RE) (i : Nat) (p : Piece) (b : UInt8) : Prop := (if b = 0 then DenP xs i p else ∃ j, xs[i]? = some (wrapE (sgnKind [b]) j) ∧ DenP xs j p) ∧ (b = 0 ∨ b = 63 ∨ b = 42 ∨ b = 43)
def fin (r : Out) : Option Nat := r.map (·.1)
/-- It comes out at an expression, with enough breath. -/
def Sim (xs : List RE) (names : List Bytes) (bodies : List Nat) (inp : Bytes) : Ex → Nat → Out → Prop
  | .P p, k, r => ∀ i, DenP xs i p → ∃ f, evR xs names bodies inp f i k = some (fin r)
  | .Q p, k, r => ∀ i, DenP xs i p → ∃ f n, (∀ d, f ≤ d → evR xs names bodies inp d i k = some n) ∧ (match r with
      | none => n = none
      | some (e, _) => n ≠ none ∧ ∀ d c x, f ≤ d → f ≤ c → repR (evR xs names bodies inp d) i c n x = some (some e))
  | .I p b, k, r => ∀ i, DenI xs i p b → ∃ f, evR xs names bodies inp f i k = some (fin r)
  | .T t, k, r => ∀ i, DenT xs i t → ∃ f, evR xs names bodies inp f i k = some (fin r)
  | .S s _, k, r => ∀ is, DenS xs is s → ∃ f, ∀ d, f ≤ d → seqR (evR xs names bodies inp d) is k = some (fin r)
  | .C c, k, r => ∀ is, DenC xs is c → ∃ f, ∀ d, f ≤ d → chR (evR xs names bodies inp d) is k = some (fin r)
theorem evR_at {xs : List RE} {names : List Bytes} {bodies : List Nat} {inp : Bytes} {i : Nat} {e : RE} (h : xs[i]? = some e) (ho : okE names e = true) (f k : Nat) : evR xs names bodies inp (f + 1) i k = bodyR names bodies inp (evR xs names bodies inp f) f e k := by
  simp only [evR, h, ho, if_true]
theorem fin_name (i k : Nat) (r : Out) : fin (nameOut i k r) = fin r := by
  cases r with
  | none => rfl
  | some x =>
    obtain ⟨e, m⟩ := x
    unfold nameOut fin
    simp only []
    split <;> rfl
theorem fin_byte (inp : Bytes) (k : Nat) (f : UInt8 → Bool) : fin (byteOut inp k f) = match inp[k]? with
    | none => none
    | some c => if f c then some (k + 1) else none := by
  unfold byteOut fin
  cases inp[k]? with
  | none => rfl
  | some c => simp only []; split <;> rfl
theorem sgn63 : sgnKind [63] = 7 := by decide
theorem sgn42 : sgnKind [42] = 8 := by decide
theorem sgn43 : sgnKind [43] = 9 := by decide
theorem sgn38 : sgnKind [38] = 10 := by decide
theorem sgn33 : sgnKind [33] = 11 := by decide
theorem okE_wrap (names : List Bytes) {s j : Nat} (hs : 7 ≤ s ∧ s ≤ 11) : okE names (wrapE s j) = true := by
  have h4 : (s != 4) = true := by rw [bne_iff_ne]; omega
  have h1 : decide (1 ≤ s) = true := by rw [decide_eq_true_eq]; omega
  have h2 : decide (s ≤ 11) = true := by rw [decide_eq_true_eq]; omega
  unfold okE wrapE
  simp only [h1, h2, h4]
  rfl
theorem wrap_at {xs : List RE} {names : List Bytes} {bodies : List Nat} {inp : Bytes} {i j s : Nat} (h : xs[i]? = some (wrapE s j)) (hs : 7 ≤ s ∧ s ≤ 11) (f k : Nat) : evR xs names bodies inp (f + 1) i k = wrapR (evR xs names bodies inp f) f (wrapE s j) k := by
  rw [evR_at h (okE_wrap _ hs)]
  unfold bodyR
  rw [if_neg (by simp only [wrapE]; omega), if_neg (by simp only [wrapE]; omega), if_neg (by simp only [wrapE]; omega), if_neg (by simp only [wrapE]; omega)]
theorem wrapR8 {F : REv} {c j k : Nat} {n : Option Nat} (h : F j k = some n) : wrapR F c (wrapE 8 j) k = repR F j c n k := by
  unfold wrapR
  simp [wrapE, h]
theorem wrapR9 {F : REv} {c j k : Nat} {n : Option Nat} (h : F j k = some n) : wrapR F c (wrapE 9 j) k = if n = none then some none else repR F j c n k := by
  unfold wrapR
  simp [wrapE, h]
theorem Ev.sim {g : List Rule} {inp : Bytes} {xs : List RE} {rs : List (Bytes × Nat)} (hR : DenR xs rs g) {x : Ex} {k : Nat} {r : Out} (h : Ev g inp x k r) : Sim xs (rs.map (·.1)) (rs.map (·.2)) inp x k r := by
  have hnames : rs.map (·.1) = namesOf g := DenR.names rs g hR
  induction h with
  | cnil =>
    intro is hd
    simp only [DenC] at hd
    subst hd
    exact ⟨0, fun d _ => rfl⟩
  | @chit s c k x _ ih =>
    intro is hd
    simp only [DenC] at hd
    obtain ⟨q, qs, ks, rfl, h1, h2, h3⟩ := hd
    obtain ⟨f, hf⟩ := ih ks h2
    refine ⟨f + 1, fun d hd => ?_⟩
    obtain ⟨d', rfl⟩ : ∃ d', d = d' + 1 := ⟨d - 1, by omega⟩
    simp only [chR]
    rw [evR_at h1 (by simp [okE])]
    unfold bodyR
    rw [if_neg (by simp), if_neg (by simp), if_pos (by simp)]
    simp only []
    rw [hf d' (by omega)]
    rfl
  | @cmiss s c k r _ _ ih1 ih2 =>
    intro is hd
    simp only [DenC] at hd
    obtain ⟨q, qs, ks, rfl, h1, h2, h3⟩ := hd
    obtain ⟨f, hf⟩ := ih1 ks h2
    obtain ⟨f2, hf2⟩ := ih2 qs h3
    refine ⟨max f f2 + 1, fun d hd => ?_⟩
    obtain ⟨d', rfl⟩ : ∃ d', d = d' + 1 := ⟨d - 1, by omega⟩
    simp only [chR]
    rw [evR_at h1 (by simp [okE])]
    unfold bodyR
    rw [if_neg (by simp), if_neg (by simp), if_pos (by simp)]
    simp only []
    rw [hf d' (by omega)]
    simp only [fin, Option.map_none]
    exact hf2 (d' + 1) (by omega)
  | snil =>
    intro is hd
    simp only [DenS] at hd
    subst hd
    exact ⟨0, fun d _ => rfl⟩
  | @sfail t s acc k _ ih =>
    intro is hd
    simp only [DenS] at hd
    obtain ⟨q, qs, rfl, h1, h2⟩ := hd
    obtain ⟨f, hf⟩ := ih q h1
    refine ⟨f, fun d hd => ?_⟩
    simp only [seqR]
    rw [evR_mono hd _ _ _ hf]
    rfl
  | @sstep t s acc k e m r _ _ ih1 ih2 =>
    intro is hd
    simp only [DenS] at hd
    obtain ⟨q, qs, rfl, h1, h2⟩ := hd
    obtain ⟨f, hf⟩ := ih1 q h1
    obtain ⟨f2, hf2⟩ := ih2 qs h2
    refine ⟨max f f2, fun d hd => ?_⟩
    simp only [seqR]
    rw [evR_mono (show f ≤ d by omega) _ _ _ hf]
    exact hf2 d (by omega)
  | @tplain p b k r _ ih =>
    intro i hd
    simp only [DenT] at hd
    obtain ⟨i', j, h1, h2, h3, h4, h5⟩ := hd
    rw [if_pos trivial] at h1
    subst h1
    refine ih i ⟨?_, h4⟩
    by_cases hb : b = 0
    · rw [if_pos hb] at h2 ⊢; subst h2; exact h3
    · rw [if_neg hb] at h2 ⊢; exact ⟨j, h2, h3⟩
  | @tand p b k r _ ih =>
    intro i hd
    simp only [DenT] at hd
    obtain ⟨i', j, h1, h2, h3, h4, h5⟩ := hd
    rw [if_neg (by decide)] at h1
    obtain ⟨f, hf⟩ := ih i' ⟨by
      by_cases hb : b = 0
      · rw [if_pos hb] at h2 ⊢; subst h2; exact h3
      · rw [if_neg hb] at h2 ⊢; exact ⟨j, h2, h3⟩, h4⟩
    rw [sgn38] at h1
    refine ⟨f + 1, ?_⟩
    rw [wrap_at h1 ⟨by omega, by omega⟩]
    unfold wrapR
    simp only [wrapE, List.headD_cons]
    rw [hf]
    simp only []
    rw [if_neg (by decide)]
    simp only [if_true]
    unfold lookOut fin
    cases r <;> simp
  | @tnot p b k r _ ih =>
    intro i hd
    simp only [DenT] at hd
    obtain ⟨i', j, h1, h2, h3, h4, h5⟩ := hd
    rw [if_neg (by decide)] at h1
    obtain ⟨f, hf⟩ := ih i' ⟨by
      by_cases hb : b = 0
      · rw [if_pos hb] at h2 ⊢; subst h2; exact h3
      · rw [if_neg hb] at h2 ⊢; exact ⟨j, h2, h3⟩, h4⟩
    rw [sgn33] at h1
    refine ⟨f + 1, ?_⟩
    rw [wrap_at h1 ⟨by omega, by omega⟩]
    unfold wrapR
    simp only [wrapE, List.headD_cons]
    rw [hf]
    simp only []
    rw [if_neg (by decide), if_neg (by decide)]
    simp only [if_true]
    unfold lookOut fin
    cases r <;> simp
  | iplain _ ih =>
    intro i hd
    have := hd.1
    rw [if_pos rfl] at this
    exact ih i this
  | @imaybe p k r _ ih =>
    intro i hd
    have := hd.1
    rw [if_neg (by decide)] at this
    obtain ⟨j, h1, h2⟩ := this
    obtain ⟨f, hf⟩ := ih j h2
    rw [sgn63] at h1
    refine ⟨f + 1, ?_⟩
    rw [wrap_at h1 ⟨by omega, by omega⟩]
    unfold wrapR
    simp only [wrapE, List.headD_cons]
    rw [hf]
    simp only [if_true]
    unfold maybeOut fin
    cases r <;> simp
  | @istar p k r _ ih =>
    intro i hd
    have := hd.1
    rw [if_neg (by decide)] at this
    obtain ⟨j, h1, h2⟩ := this
    obtain ⟨f, n, hf, hr⟩ := ih j h2
    rw [sgn42] at h1
    refine ⟨f + 1 + 1, ?_⟩
    rw [wrap_at h1 ⟨by omega, by omega⟩, wrapR8 (hf (f + 1) (by omega))]
    unfold maybeOut fin
    cases r with
    | none =>
      simp only [] at hr
      subst hr
      simp [repR]
    | some x =>
      obtain ⟨e, m⟩ := x
      simp only [] at hr
      rw [hr.2 (f + 1) (f + 1) k (by omega) (by omega)]
      simp
  | @iplus p k r _ ih =>
    intro i hd
    have := hd.1
    rw [if_neg (by decide)] at this
    obtain ⟨j, h1, h2⟩ := this
    obtain ⟨f, n, hf, hr⟩ := ih j h2
    rw [sgn43] at h1
    refine ⟨f + 1 + 1, ?_⟩
    rw [wrap_at h1 ⟨by omega, by omega⟩, wrapR9 (hf (f + 1) (by omega))]
    unfold fin
    cases r with
    | none =>
      simp only [] at hr
      subst hr
      simp
    | some x =>
      obtain ⟨e, m⟩ := x
      simp only [] at hr
      rw [if_neg hr.1, hr.2 (f + 1) (f + 1) k (by omega) (by omega)]
      simp
  | qno _ ih =>
    intro i hd
    obtain ⟨f, hf⟩ := ih i hd
    exact ⟨f, none, fun d h => evR_mono h _ _ _ hf, rfl⟩
  | @qlast p k e m _ _ ih1 ih2 =>
    intro i hd
    obtain ⟨f, hf⟩ := ih1 i hd
    obtain ⟨f2, n2, hf2, hn2⟩ := ih2 i hd
    simp only [] at hn2
    subst hn2
    refine ⟨max f f2 + 2, some e, fun d h => evR_mono (by omega) _ _ _ hf, by simp, ?_⟩
    intro d c x h1 h2
    obtain ⟨c', rfl⟩ : ∃ c', c = c' + 1 + 1 := ⟨c - 2, by omega⟩
    simp only [repR]
    rw [hf2 d (by omega)]
    simp [repR]
  | @qmore p k e m e2 m2 _ _ ih1 ih2 =>
    intro i hd
    obtain ⟨f, hf⟩ := ih1 i hd
    obtain ⟨f2, n2, hf2, hn2⟩ := ih2 i hd
    simp only [] at hn2
    refine ⟨max f f2 + 1, some e, fun d h => evR_mono (by omega) _ _ _ hf, by simp, ?_⟩
    intro d c x h1 h2
    obtain ⟨c', rfl⟩ : ∃ c', c = c' + 1 := ⟨c - 1, by omega⟩
    simp only [repR]
    rw [hf2 d (by omega)]
    exact hn2.2 d c' e (by omega) (by omega)
  | @pname b k r hlt hc _ ih =>
    intro i hd
    simp only [DenP] at hd
    have hb := ((DenR.get rs g hR).2 _ hlt).2
    simp only [DenP] at hb
    obtain ⟨qs, hq1, hq2⟩ := hb
    obtain ⟨f, hf⟩ := ih qs hq2
    refine ⟨f + 1 + 1, ?_⟩
    rw [evR_at hd (by rw [hnames]; simp [okE] at hc ⊢; exact hc)]
    unfold bodyR
    rw [if_neg (by simp), if_pos (by simp)]
    simp only []
    rw [hnames, evR_at hq1 (by simp [okE])]
    unfold bodyR
    rw [if_neg (by simp), if_neg (by simp), if_neg (by simp), if_pos (by simp)]
    simp only []
    rw [fin_name, ← hnames]
    exact hf f (Nat.le_refl _)
  | @plit b k hb =>
    intro i hd
    simp only [DenP] at hd
    refine ⟨1, ?_⟩
    rw [evR_at hd (by simp [okE]; exact hb)]
    unfold bodyR
    rw [if_pos (by simp)]
    unfold bytesR litOut fin
    rw [if_neg (by simp), if_neg (by simp)]
    simp only [List.map_map, List.length_map]
    have : List.map ((fun x : Span => x.1) ∘ fun c => (c, c)) b = b := by
      conv => rhs; rw [← List.map_id b]
      apply List.map_congr_left
      intro a _; rfl
    rw [this]
    split <;> rfl
  | @pcls l k hb =>
    intro i hd
    simp only [DenP] at hd
    refine ⟨1, ?_⟩
    rw [evR_at hd (by simp [okE]; exact hb), fin_byte]
    unfold bodyR
    rw [if_pos (by simp)]
    unfold bytesR
    rw [if_neg (by simp), if_pos (by simp)]
  | @pany k =>
    intro i hd
    simp only [DenP] at hd
    refine ⟨1, ?_⟩
    rw [evR_at hd (by simp [okE]), fin_byte]
    unfold bodyR
    rw [if_pos (by simp)]
    unfold bytesR
    rw [if_pos (by simp)]
    by_cases hk : k < inp.length
    · rw [if_pos hk, List.getElem?_eq_getElem hk]; rfl
    · rw [if_neg hk, List.getElem?_eq_none (by omega)]
  | @pgroup c k r _ ih =>
    intro i hd
    simp only [DenP] at hd
    obtain ⟨qs, h1, h2⟩ := hd
    obtain ⟨f, hf⟩ := ih qs h2
    refine ⟨f + 1, ?_⟩
    rw [evR_at h1 (by simp [okE])]
    unfold bodyR
    rw [if_neg (by simp), if_neg (by simp), if_neg (by simp), if_pos (by simp)]
    exact hf f (Nat.le_refl _)
end Go.Proofs.YtiganlkabilblaaGreatDoor
namespace Go.Proofs.YtiganlkabilblaaGreatDoor
open Go.RowKit
attribute [local go_sem ↓] Go.wp_at_zero Go.wp_at_succ
theorem hideP {p : Prop} (h : p) : Hid p := h
set_option maxHeartbeats 8000000 in
set_option maxRecDepth 100000 in
theorem rbehindB_any (w : World) (B rb : Nat) (M : MV) (lab : Nat → Nat) (h : Mem w B rb M lab (· = 0)) (mr : List (Thk.OP × Value × Value)) (m : Thk.OP × Value × Value) (ho : M.os = mr ++ [m]) (tl : List Nat) (k : Nat) (ht : m.1.terms = tl ++ [k]) (hk : k < M.xs.length)
    (hkind : M.xs[k].1.kind ≠ 10 ∧ M.xs[k].1.kind ≠ 11) (sg : Thk.Bytes) (hsg : okSg sg) (hb0 : M.xs.length ≤ 90000) (hb1 : tl.length ≤ 90000) (hb2 : mr.length ≤ 90000) :
    Calls Tryz.prog 142 #[.pointer (some ⟨rb, 0, none⟩), .string ⟨sg.toArray⟩] w fun e' w' => RdPost w B rb (M.st.behind sg) (.tuple #[]) e' w' := by
  have HKX := hkind
  obtain ⟨og, oc, hv, hgB, hol, hor, q0, q1, q2, qf⟩ := h.topAt ho
  have c2 : w.cell? ⟨rb, 2, none⟩ = some M.vo := cell_of_block h.blk 2
  have c4 : w.cell? ⟨rb, 4, none⟩ = some (.bool M.may) := cell_of_block h.blk 4
  have f4 : w.frozen? ⟨rb, 4, none⟩ = false := frozen_of_block h.blk 4
  rw [hv] at c2
  obtain ⟨h1, h2, h3, h4⟩ := (h.topCells ho hv).2.2.2.2.2.2
  have h3' := h3
  unfold Ints at h3'
  rw [ht] at h3'
  obtain ⟨tg, tc, hvt, _, htl⟩ := h3'.form (by simp)
  rw [hvt] at h3' q1
  have ck : w.cell? ⟨tg, tl.length, none⟩ = some (.int .i64 k) := by
    rw [h3'.cellAt _ (by simp)]; simp [intV]
  obtain ⟨xg, xc, hx, hxB, hxl, ⟨xcs, hxb⟩, hxf, hxc⟩ := h.exAt (by omega)
  obtain ⟨x0, x1, x2, x3, x4⟩ := hxc k hk
  have c0 : w.cell? ⟨rb, 0, none⟩ = some M.vx := cell_of_block h.blk 0
  rw [hx] at c0
  have hpi := (h.parts M.xs[k] (List.getElem_mem hk)).1
  have hii := h.items M.xs[k] (List.getElem_mem hk)
  obtain ⟨ia, ic, hvi⟩ := own_form hii
  obtain ⟨pa, pc, hvp⟩ := own_form hpi
  obtain ⟨x, hxe⟩ : ∃ x, x = M.xs[k] := ⟨_, rfl⟩
  rw [← hxe] at x0 x1 x2 x3 x4 hpi hii hvi hvp HKX
  rw [hvi] at x1
  rw [hvp] at x4
  simp only [List.length_append, List.length_singleton] at q1 hvt htl h3'
  have hrl := h.lt
  have hge := h.ge
  have hL : (mr.length : Int) < (mr.length : Int) + 1 := by omega
  have hT : (tl.length : Int) < (tl.length : Int) + 1 := by omega
  have hK : (k : Int) < (M.xs.length : Int) := by omega
  have H : Hid (Mem w B rb M lab (· = 0)) := h
  have HO : Hid (M.os = mr ++ [m]) := ho
  have HV : Hid (M.vo = .slice (some ⟨og, 0, none⟩) (mr.length + 1) oc) := hv
  have HTT : Hid (m.1.terms = tl ++ [k]) := ht
  have HVT : Hid (m.2.2 = .slice (some ⟨tg, 0, none⟩) (tl.length + 1) tc) := hvt
  have HX : Hid (M.vx = .slice (some ⟨xg, 0, none⟩) M.xs.length xc) := hx
  have HXE : Hid (x = M.xs[k]) := hxe
  have k10 : ((x.1.kind : Int) == 10) = false := beq_eq_false_iff_ne.2 (by omega)
  have k11 : ((x.1.kind : Int) == 11) = false := beq_eq_false_iff_ne.2 (by omega)
  have hko := fun w => rkindOf_any sg hsg w
  have had := fun (W : World) (labW : Nat → Nat) (hM : Mem W B rb M labW (· = 0)) (pa : Option Addr) (pl pc : Nat) =>
    radd_any W B rb (some ⟨xg, 0, none⟩) xc M.xs.length M.vr M.vo M.sign M.may (M.xs.flatMap exC) (Thk.sgnKind sg) none 0 0 ⟨#[]⟩ 0 pa pl pc (by rw [← hx]; exact hM.blk) (by rw [← hx]; exact hM.ex) (by omega) hM.ge
  have hngo : some og ≠ (Value.slice (some ⟨xg, 0, none⟩) M.xs.length xc).ownBlock := fun e1 => own_ty2 h.ex h.op (by decide) (b := og) (by rw [hv]; rfl) (by rw [hx]; exact e1.symm)
  have hngt : some tg ≠ (Value.slice (some ⟨xg, 0, none⟩) M.xs.length xc).ownBlock := fun e1 => own_ty2 h.ex h3' (by decide) (b := tg) rfl (by rw [hx]; exact e1.symm)
  have hogt : og ≠ tg := fun e1 => own_ty2 h3' h.op (by decide) (b := og) (by rw [hv]; rfl) (by rw [e1]; rfl)
  have htog : tg ≠ og := fun e1 => hogt e1.symm
  have htr : tg ≠ rb := fun e1 => own_ty h3' h.blk (by decide) (by rw [← e1]; rfl)
  have HFT : Hid (w.frozen? ⟨tg, tl.length, none⟩ = false) := h3'.frozenAt _
  have HKK : Hid (x.1.kind ≠ 10 ∧ x.1.kind ≠ 11) := HKX
  clear h ho hv ht hvt hx hxe hpi hii hvi hvp h1 h2 h3 h3' h4 hxc hkind q0 q2
  go_enter Tryz.func142, Tryz.ntmps142
  go_wp2_with fail
  go_quiet (fail)
  go_wp2_with fail
  go_quiet (fail)
  generalize hWe : (w.drewN _).drewN _ = W
  have hcc : ∀ a, w.cell? a = W.cell? a := fun a => by rw [← hWe]; rfl
  have hff : ∀ a, w.frozen? a = W.frozen? a := fun a => by rw [← hWe]; rfl
  have hhh : W.heap = w.heap := by rw [← hWe]; rfl
  simp only [hcc] at c0 c2 c4 q1 ck x0 x1 x2 x3 x4
  simp only [hff] at f4 qf hxf HFT
  have HW : Hid (Mem W B rb M lab (· = 0)) := by rw [← hWe]; exact (H.out.drewN _).drewN _
  have HKW : Hid (KT B w W) := by rw [← hWe]; exact ((KT.refl B w).drewN _).drewN _
  have hol : og < W.heap.size := by rw [hhh]; exact hol
  have htl : tg < W.heap.size := by rw [hhh]; exact htl
  have hxl : xg < W.heap.size := by rw [hhh]; exact hxl
  have hrl : rb < W.heap.size := by rw [hhh]; exact hrl
  clear hWe hcc hff hhh H
  go_wp2_with fail
  generalize hWe : W.alloc (.cells #[.int .i64 x.1.kind, .slice ia x.1.items.length ic, .string ⟨x.1.text.toArray⟩, .int .i64 x.1.rule, .slice pa x.1.parts.length pc] 149) = W1
  have hb1W : Below W.heap.size W W1 := by rw [← hWe]; exact below_alloc _ _
  have hsz1 : W1.heap.size = W.heap.size + 1 := by rw [← hWe]; simp
  have hM1 := HW.out.below (lab' := lab) hb1W (fun _ _ => rfl)
  have hK1 : KT B W W1 := by rw [← hWe]; exact KT.alloc B W (by omega) _
  have cc : ∀ b o, b < W.heap.size → W1.cell? ⟨b, o, none⟩ = W.cell? ⟨b, o, none⟩ := (bcell hb1W).1
  have cf : ∀ b o, b < W.heap.size → W1.frozen? ⟨b, o, none⟩ = W.frozen? ⟨b, o, none⟩ := (bcell hb1W).2
  have d1 : W1.cell? ⟨og, mr.length * 3 + 1, none⟩ = some (.slice (some ⟨tg, 0, none⟩) (tl.length + 1) tc) := (cc _ _ hol).trans q1
  have d2 : W1.cell? ⟨tg, tl.length, none⟩ = some (.int .i64 k) := (cc _ _ htl).trans ck
  have d3 : W1.cell? ⟨rb, 4, none⟩ = some (.bool M.may) := (cc _ _ hrl).trans c4
  have d4 : W1.frozen? ⟨rb, 4, none⟩ = false := (cf _ _ hrl).trans f4
  have d5 : W1.frozen? ⟨tg, tl.length, none⟩ = false := (cf _ _ htl).trans HFT.out
  have hM2 := (hM1.below (lab' := upd lab W1.heap.size 0) (w' := W1.alloc (.cells #[.int .i64 k] 3)) (below_alloc _ _) (fun g hg => by unfold upd; rw [if_neg (by omega)])).drew
  have hadX := had _ _ hM2 (some ⟨W1.heap.size, 0, none⟩) 1 1
  have HM2 := hideP hM2
  have HADX := hideP hadX
  have HKO : Hid (∀ w, Calls Tryz.prog 143 #[.string ⟨sg.toArray⟩] w fun e w' => e = .returned (.int .i64 (Thk.sgnKind sg)) ∧ w' = w) := hko
  have p1 : ((W1.alloc (.cells #[.int .i64 k] 3)).drew).cell? ⟨og, mr.length * 3 + 1, none⟩ = some (.slice (some ⟨tg, 0, none⟩) (tl.length + 1) tc) := (World.cell?_alloc_lt _ _ _ (show og < W1.heap.size by omega)).trans d1
  have p2 : ((W1.alloc (.cells #[.int .i64 k] 3)).drew).cell? ⟨tg, tl.length, none⟩ = some (.int .i64 k) := (World.cell?_alloc_lt _ _ _ (show tg < W1.heap.size by omega)).trans d2
  have p3 : ((W1.alloc (.cells #[.int .i64 k] 3)).drew).frozen? ⟨tg, tl.length, none⟩ = false := (World.frozen?_alloc_old _ _ _ (show tg ≠ W1.heap.size by omega)).trans d5
  have HP1 := hideP p1
  have HP2 := hideP p2
  have HP3 := hideP p3
  have HL1 : Hid (og < ((W1.alloc (.cells #[.int .i64 k] 3)).drew).heap.size ∧ tg < ((W1.alloc (.cells #[.int .i64 k] 3)).drew).heap.size ∧ og ≠ rb ∧ tg ≠ rb) := by
    have e1 : ((W1.alloc (.cells #[.int .i64 k] 3)).drew).heap.size = W1.heap.size + 1 := by show (W1.alloc _).heap.size = _; simp
    exact ⟨by rw [e1]; omega, by rw [e1]; omega, hor, htr⟩
  clear p1 p2 p3
  have HNG := (show Hid (some og ≠ (Value.slice (some ⟨xg, 0, none⟩) M.xs.length xc).ownBlock ∧ some tg ≠ (Value.slice (some ⟨xg, 0, none⟩) M.xs.length xc).ownBlock) from ⟨hngo, hngt⟩)
  have HK1 := (show Hid _ from hK1)
  have hB1 : B ≤ W1.heap.size := by omega
  clear hWe hb1W hM1 hM2 hK1 cc cf c0 c2 c4 q1 ck x0 x1 x2 x3 x4 f4 qf hxf had HFT hadX hko d2 d3 d4 d5 hngo hngt k10 k11 HKX hsz1
  have hw0 : IntKind.i64.wrap (tl.length : Int) = (tl.length : Int) := by
    unfold IntKind.wrap
    simp [IntKind.signed, IntKind.bits]
    omega
  have hw1 : (0 : Int) ≤ (tl.length : Int) := by omega
  go_region_held (fun w' => w'.cell? ⟨og, mr.length * 3 + 1, none⟩ = some (.slice (some ⟨tg, 0, none⟩) (tl.length + 1) tc)) (go_keep)
    (first | (go_at_call 143; refine (HKO.out _).mono ?_; rintro e1 w' ⟨rfl, hw⟩; replace hw := hw.symm; subst hw) | (go_at_call 102; go_loud (refine HADX.out.mono ?_; rintro e1 w2 ⟨xg2, xcap, rfl, hAE⟩; have HAE := hideP hAE; have y1 := (World.cell?_of_block (a := ⟨og, mr.length * 3 + 1, none⟩) (hAE.same og HL1.out.1 HL1.out.2.2.1 HNG.out.1)).trans HP1.out; have y2 := (World.cell?_of_block (a := ⟨tg, tl.length, none⟩) (hAE.same tg HL1.out.2.1 HL1.out.2.2.2 HNG.out.2)).trans HP2.out; have y5 := (World.frozen?_of_block (a := ⟨tg, tl.length, none⟩) (hAE.same tg HL1.out.2.1 HL1.out.2.2.2 HNG.out.2)).trans HP3.out; clear hAE)))
  all_goals (have y3 : w2.cell? ⟨rb, 4, none⟩ = some (.bool M.may) := cell_of_block HAE.out.blk 4; have y4 : w2.frozen? ⟨rb, 4, none⟩ = false := frozen_of_block HAE.out.blk 4)
  all_goals go_wp2_with fail
  all_goals
    have hint : Ints ((W1.alloc (.cells #[.int .i64 k] 3)).drew) B (.slice (some ⟨W1.heap.size, 0, none⟩) 1 1) [k] := own_below (World.ownsRow_lit W1 #[.int .i64 k] 1 hB1 (by decide) rfl) (Below.refl _ _).drew
    obtain ⟨hA1, hKA⟩ := HM2.out.add (re := Thk.wrapE (Thk.sgnKind sg) k) (iv := .slice none 0 0) (pv := .slice (some ⟨W1.heap.size, 0, none⟩) 1 1) (by rw [HX.out]; exact HAE.out) (World.ownsRow_nil _ _ _ _) hint (fun b hb => by simp [Value.ownBlock] at hb; subst hb; simp [upd])
    obtain ⟨hA2, hKB⟩ := hA1.setLast (mr := mr) (m := m) HO.out HTT.out HVT.out M.xs.length
    obtain ⟨hA3, hKC⟩ := hA2.setMay false
    go_end0
    refine ⟨rfl, _, _, hA3, ?_, ?_⟩
    · exact HKW.out.trans (HK1.out.trans ((((KT.alloc B W1 hB1 _)).drew).trans (hKA.trans (hKB.trans hKC))))
    · have e1 : M.st.top = m.1 := by simp [MV.st, Thk.ST.top, HO.out, List.getLastD_concat]
      have e2 : M.st.xs.getD k Thk.RE.z = x.1 := by rw [HXE.out]; simp [MV.st, hk]
      have e3 : M.st.xs.length = M.xs.length := by simp [MV.st]
      unfold Thk.ST.behind
      simp only [e1, HTT.out, List.getLastD_concat, e2, e3]
      rw [if_neg (by have := HKK.out; omega)]
      simp [MV.st, Thk.ST.add, Thk.ST.setTop, HO.out]
set_option maxHeartbeats 8000000 in
set_option maxRecDepth 100000 in
theorem rbehindA_any (w : World) (B rb : Nat) (M : MV) (lab : Nat → Nat) (h : Mem w B rb M lab (· = 0)) (mr : List (Thk.OP × Value × Value)) (m : Thk.OP × Value × Value) (ho : M.os = mr ++ [m]) (tl : List Nat) (k : Nat) (ht : m.1.terms = tl ++ [k]) (hk : k < M.xs.length)
    (hkind : (M.xs[k].1.kind = 10 ∨ M.xs[k].1.kind = 11) ∧ M.xs[k].1.parts ≠ []) (sg : Thk.Bytes) (hsg : okSg sg) (hb0 : M.xs.length ≤ 90000) (hb1 : tl.length ≤ 90000) (hb2 : mr.length ≤ 90000) :
    Calls Tryz.prog 142 #[.pointer (some ⟨rb, 0, none⟩), .string ⟨sg.toArray⟩] w fun e' w' => RdPost w B rb (M.st.behind sg) (.tuple #[]) e' w' := by
  have HKX := hkind
  obtain ⟨og, oc, hv, hgB, hol, hor, q0, q1, q2, qf⟩ := h.topAt ho
  have c2 : w.cell? ⟨rb, 2, none⟩ = some M.vo := cell_of_block h.blk 2
  have c4 : w.cell? ⟨rb, 4, none⟩ = some (.bool M.may) := cell_of_block h.blk 4
  have f4 : w.frozen? ⟨rb, 4, none⟩ = false := frozen_of_block h.blk 4
  rw [hv] at c2
  obtain ⟨h1, h2, h3, h4⟩ := (h.topCells ho hv).2.2.2.2.2.2
  have h3' := h3
  unfold Ints at h3'
  rw [ht] at h3'
  obtain ⟨tg, tc, hvt, _, htl⟩ := h3'.form (by simp)
  rw [hvt] at h3' q1
  have ck : w.cell? ⟨tg, tl.length, none⟩ = some (.int .i64 k) := by
    rw [h3'.cellAt _ (by simp)]; simp [intV]
  obtain ⟨xg, xc, hx, hxB, hxl, ⟨xcs, hxb⟩, hxf, hxc⟩ := h.exAt (by omega)
  obtain ⟨x0, x1, x2, x3, x4⟩ := hxc k hk
  have c0 : w.cell? ⟨rb, 0, none⟩ = some M.vx := cell_of_block h.blk 0
  rw [hx] at c0
  have hpi := (h.parts M.xs[k] (List.getElem_mem hk)).1
  have hii := h.items M.xs[k] (List.getElem_mem hk)
  obtain ⟨ia, ic, hvi⟩ := own_form hii
  obtain ⟨pa, pc, hvp⟩ := own_form hpi
  obtain ⟨x, hxe⟩ : ∃ x, x = M.xs[k] := ⟨_, rfl⟩
  rw [← hxe] at x0 x1 x2 x3 x4 hpi hii hvi hvp HKX
  rw [hvi] at x1
  rw [hvp] at x4
  simp only [List.length_append, List.length_singleton] at q1 hvt htl h3'
  have hrl := h.lt
  have hge := h.ge
  have hL : (mr.length : Int) < (mr.length : Int) + 1 := by omega
  have hT : (tl.length : Int) < (tl.length : Int) + 1 := by omega
  have hK : (k : Int) < (M.xs.length : Int) := by omega
  have H : Hid (Mem w B rb M lab (· = 0)) := h
  have HO : Hid (M.os = mr ++ [m]) := ho
  have HV : Hid (M.vo = .slice (some ⟨og, 0, none⟩) (mr.length + 1) oc) := hv
  have HTT : Hid (m.1.terms = tl ++ [k]) := ht
  have HVT : Hid (m.2.2 = .slice (some ⟨tg, 0, none⟩) (tl.length + 1) tc) := hvt
  have HX : Hid (M.vx = .slice (some ⟨xg, 0, none⟩) M.xs.length xc) := hx
  have HXE : Hid (x = M.xs[k]) := hxe
  obtain ⟨p, ps, hps⟩ : ∃ p ps, x.1.parts = p :: ps := by
    cases hc : x.1.parts with
    | nil => exact absurd hc HKX.2
    | cons p ps => exact ⟨p, ps, rfl⟩
  have hpi' := hpi
  unfold Ints at hpi'
  rw [hps] at hpi'
  obtain ⟨pg, pcap, hvp2, _, hpl⟩ := hpi'.form (by simp)
  rw [hvp2] at hpi'
  have cp : w.cell? ⟨pg, 0, none⟩ = some (.int .i64 p) := by
    rw [hpi'.cellAt _ (by simp)]; simp [intV]
  have x4 : w.cell? ⟨xg, k * 5 + 4, none⟩ = some (.slice (some ⟨pg, 0, none⟩) (ps.length + 1) pcap) := by rw [x4, ← hvp, hvp2]; simp
  have hpl' : (0 : Int) < (ps.length : Int) + 1 := by omega
  have HPS : Hid (x.1.parts = p :: ps) := hps
  have HFT : Hid (True) := trivial
  have hkk : ((x.1.kind : Int) == 10) = true ∨ (((x.1.kind : Int) == 10) = false ∧ ((x.1.kind : Int) == 11) = true) := by
    rcases HKX.1 with h | h <;> rw [h]
    · left; rfl
    · right; exact ⟨rfl, rfl⟩
  have HKK : Hid (x.1.kind = 10 ∨ x.1.kind = 11) := HKX.1
  have hko := fun w => rkindOf_any sg hsg w
  have had := fun (W : World) (labW : Nat → Nat) (hM : Mem W B rb M labW (· = 0)) (pa : Option Addr) (pl pc : Nat) =>
    radd_any W B rb (some ⟨xg, 0, none⟩) xc M.xs.length M.vr M.vo M.sign M.may (M.xs.flatMap exC) (Thk.sgnKind sg) none 0 0 ⟨#[]⟩ 0 pa pl pc (by rw [← hx]; exact hM.blk) (by rw [← hx]; exact hM.ex) (by omega) hM.ge
  have hk1 : (k : Int) < (M.xs.length : Int) + 1 := by omega
  have hpgx : pg ≠ xg := fun e1 => own_ty hpi' hxb (by decide) (by rw [← e1]; rfl)
  have hpgr : pg ≠ rb := fun e1 => own_ty hpi' h.blk (by decide) (by rw [← e1]; rfl)
  clear h ho hv ht hvt hx hxe hpi hpi' hps hvp2 hii hvi hvp h1 h2 h3 h3' h4 hxc hkind q0 q2 HKX
  go_enter Tryz.func142, Tryz.ntmps142
  go_wp2_with fail
  go_quiet (fail)
  go_wp2_with fail
  go_quiet (fail)
  generalize hWe : (w.drewN _).drewN _ = W
  have hcc : ∀ a, w.cell? a = W.cell? a := fun a => by rw [← hWe]; rfl
  have hff : ∀ a, w.frozen? a = W.frozen? a := fun a => by rw [← hWe]; rfl
  have hhh : W.heap = w.heap := by rw [← hWe]; rfl
  simp only [hcc] at c0 c2 c4 q1 ck x0 x1 x2 x3 x4 cp
  simp only [hff] at f4 qf hxf
  have HW : Hid (Mem W B rb M lab (· = 0)) := by rw [← hWe]; exact (H.out.drewN _).drewN _
  have HKW : Hid (KT B w W) := by rw [← hWe]; exact ((KT.refl B w).drewN _).drewN _
  have hrl : rb < W.heap.size := by rw [hhh]; exact hrl
  have hxl : xg < W.heap.size := by rw [hhh]; exact hxl
  have hpl : pg < W.heap.size := by rw [hhh]; exact hpl
  clear hWe hcc hff hhh H q1 ck qf
  rcases hkk with kk | ⟨k1, k2⟩
  all_goals
    go_wp2_with fail
    generalize hWe : W.alloc (.cells #[.int .i64 x.1.kind, .slice ia x.1.items.length ic, .string ⟨x.1.text.toArray⟩, .int .i64 x.1.rule, .slice (some ⟨pg, 0, none⟩) (ps.length + 1) pcap] 149) = W1
    have hb1W : Below W.heap.size W W1 := by rw [← hWe]; exact below_alloc _ _
    have hsz1 : W1.heap.size = W.heap.size + 1 := by rw [← hWe]; simp
    have hM1 := HW.out.below (lab' := lab) hb1W (fun _ _ => rfl)
    have hK1 : KT B W W1 := by rw [← hWe]; exact KT.alloc B W (by omega) _
    have cc : ∀ b o, b < W.heap.size → W1.cell? ⟨b, o, none⟩ = W.cell? ⟨b, o, none⟩ := (bcell hb1W).1
    have d0 : W1.cell? ⟨pg, 0, none⟩ = some (.int .i64 p) := (cc _ _ hpl).trans cp
    have d1 : W1.cell? ⟨W.heap.size, 4, none⟩ = some (.slice (some ⟨pg, 0, none⟩) (ps.length + 1) pcap) := by rw [← hWe]; simp
    have hlt1 : W.heap.size < W1.heap.size := by omega
    have hpl1 : pg < W1.heap.size := by omega
    have hM2 := (hM1.below (lab' := upd lab W1.heap.size 0) (w' := W1.alloc (.cells #[.int .i64 p] 3)) (below_alloc _ _) (fun g hg => by unfold upd; rw [if_neg (by omega)])).drew
    have hadX := had _ _ hM2 (some ⟨W1.heap.size, 0, none⟩) 1 1
    have HM2 := hideP hM2
    have HADX := hideP hadX
    have HKO := hideP hko
    have HK1 := hideP hK1
    have hB1 : B ≤ W1.heap.size := by omega
    have p1 : ((W1.alloc (.cells #[.int .i64 p] 3)).drew).cell? ⟨W.heap.size, 4, none⟩ = some (.slice (some ⟨pg, 0, none⟩) (ps.length + 1) pcap) := (World.cell?_alloc_lt _ _ _ (show W.heap.size < W1.heap.size by omega)).trans d1
    have p2 : ((W1.alloc (.cells #[.int .i64 p] 3)).drew).cell? ⟨pg, 0, none⟩ = some (.int .i64 p) := (World.cell?_alloc_lt _ _ _ (show pg < W1.heap.size by omega)).trans d0
    have e1 : ((W1.alloc (.cells #[.int .i64 p] 3)).drew).heap.size = W1.heap.size + 1 := by show (W1.alloc _).heap.size = _; simp
    have HP1 := hideP p1
    have HP2 := hideP p2
    have HN1 : Hid (W.heap.size < ((W1.alloc (.cells #[.int .i64 p] 3)).drew).heap.size ∧ W.heap.size ≠ rb ∧ some W.heap.size ≠ (Value.slice (some ⟨xg, 0, none⟩) M.xs.length xc).ownBlock) := ⟨by rw [e1]; omega, by omega, by simp [Value.ownBlock]; omega⟩
    have HN2 : Hid (pg < ((W1.alloc (.cells #[.int .i64 p] 3)).drew).heap.size ∧ pg ≠ rb ∧ some pg ≠ (Value.slice (some ⟨xg, 0, none⟩) M.xs.length xc).ownBlock) := ⟨by rw [e1]; omega, hpgr, by simpa [Value.ownBlock] using hpgx⟩
    clear p1 p2 e1
    clear hWe hb1W hM1 hM2 hK1 cc c0 c2 c4 x0 x1 x2 x3 x4 f4 hxf hadX hsz1 cp
    go_region_held (fun w' => w'.cell? ⟨W.heap.size, 4, none⟩ = some (.slice (some ⟨pg, 0, none⟩) (ps.length + 1) pcap) ∧ w'.cell? ⟨pg, 0, none⟩ = some (.int .i64 p)) (go_keep) (first | (go_at_call 143; refine (HKO.out _).mono ?_; rintro e1 w' ⟨rfl, hw⟩; replace hw := hw.symm; subst hw) | (go_at_call 102; go_loud (refine HADX.out.mono ?_; rintro e1 w2 ⟨xg2, xcap, rfl, hAE⟩; have HAE := hideP hAE; have y1 := (World.cell?_of_block (a := ⟨W.heap.size, 4, none⟩) (hAE.same W.heap.size HN1.out.1 HN1.out.2.1 HN1.out.2.2)).trans HP1.out; have y2 := (World.cell?_of_block (a := ⟨pg, 0, none⟩) (hAE.same pg HN2.out.1 HN2.out.2.1 HN2.out.2.2)).trans HP2.out; clear hAE)))
    all_goals
      have hint : Ints ((W1.alloc (.cells #[.int .i64 p] 3)).drew) B (.slice (some ⟨W1.heap.size, 0, none⟩) 1 1) [p] := own_below (World.ownsRow_lit W1 #[.int .i64 p] 1 hB1 (by decide) rfl) (Below.refl _ _).drew
      obtain ⟨hA1, hKA⟩ := HM2.out.add (re := Thk.wrapE (Thk.sgnKind sg) p) (iv := .slice none 0 0) (pv := .slice (some ⟨W1.heap.size, 0, none⟩) 1 1) (by rw [HX.out]; exact HAE.out) (World.ownsRow_nil _ _ _ _) hint (fun b hb => by simp [Value.ownBlock] at hb; subst hb; simp [upd])
      have hsz2 := HAE.out.size
      have hlab := fun g (hg : g < w2.heap.size) => (show upd (upd lab W1.heap.size 0) w2.heap.size 0 g = upd lab W1.heap.size 0 g by rw [upd, if_neg (by omega)])
      have hA1' := hA1.below (w' := w2.alloc (.cells #[.int .i64 M.xs.length] 3)) (lab' := upd (upd lab W1.heap.size 0) w2.heap.size 0) (below_alloc _ _) hlab
      have hB2 : B ≤ w2.heap.size := by have := hA1.lt; have := hA1.ge; omega
      have hint2 : Ints (w2.alloc (.cells #[.int .i64 M.xs.length] 3)) B (.slice (some ⟨w2.heap.size, 0, none⟩) 1 1) [M.xs.length] := World.ownsRow_lit w2 #[.int .i64 M.xs.length] 1 hB2 (by decide) rfl
      obtain ⟨hA2, hKB⟩ := hA1'.setParts (k := k) (xg := xg2) (xc := xcap) (by simp; omega) (by simp) hint2 (fun b hb => by simp [Value.ownBlock] at hb; subst hb; simp [upd])
      obtain ⟨xg', xc', hx', _, hxl', _, hxf', hxc'⟩ := hA1.exAt (by simp)
      simp only [List.length_append, List.length_singleton, Value.slice.injEq, Option.some.injEq, Addr.mk.injEq, and_true, true_and] at hx'
      obtain ⟨rfl, rfl⟩ := hx'
      have z4 := (hxc' k (by simp; omega)).2.2.2.2
      have zf := hxf' (k * 5 + 4)
      have z0 : w2.cell? ⟨rb, 0, none⟩ = some (.slice (some ⟨xg2, 0, none⟩) (M.xs.length + 1) xcap) := cell_of_block HAE.out.blk 0
      have y3 : w2.cell? ⟨rb, 4, none⟩ = some (.bool M.may) := cell_of_block HAE.out.blk 4
      have y4 : w2.frozen? ⟨rb, 4, none⟩ = false := frozen_of_block HAE.out.blk 4
      have hrl2 : rb < w2.heap.size := heap_lt' HAE.out.blk
      have hxr2 : xg2 ≠ rb := fun e1 => own_ty hA1.ex hA1.blk (by decide) (by rw [← e1]; rfl)
      have HA2 := hideP hA2
      have HKE : Hid (KT B w (w2.alloc (.cells #[.int .i64 M.xs.length] 3))) := HKW.out.trans (HK1.out.trans ((((KT.alloc B W1 hB1 _)).drew).trans (hKA.trans (KT.alloc B w2 hB2 _))))
      have HKB := hideP hKB
      clear hA1 hA1' hA2 hKA hKB hlab hint hint2 hxc' hxf'
    all_goals go_wp2_with fail
    all_goals
      obtain ⟨hA3, hKC⟩ := HA2.out.setMay false
      have ew : ((w2.alloc (.cells #[.int .i64 M.xs.length] 3)).setCell ⟨xg2, k * 5 + 4, none⟩ (.slice (some ⟨w2.heap.size, 0, none⟩) 1 1)).setCell ⟨rb, 4, none⟩ (.bool false) = ((w2.setCell ⟨xg2, k * 5 + 4, none⟩ (.slice (some ⟨w2.heap.size, 0, none⟩) 1 1)).setCell ⟨rb, 4, none⟩ (.bool false)).alloc (.cells #[.int .i64 M.xs.length] 3) := by
        rw [World.setCell_alloc_past _ _ _ _ hxl', World.setCell_alloc_past _ _ _ _ (by simpa using hrl2)]
      rw [ew] at hA3
      have hKE := HKE.out.trans (HKB.out.trans hKC)
      rw [ew] at hKE
      go_end0
      refine ⟨rfl, _, _, hA3, hKE, ?_⟩
      have e1 : M.st.top = m.1 := by simp [MV.st, Thk.ST.top, HO.out, List.getLastD_concat]
      have e2 : M.st.xs.getD k Thk.RE.z = x.1 := by rw [HXE.out]; simp [MV.st, hk]
      have e3 : M.st.xs.length = M.xs.length := by simp [MV.st]
      unfold Thk.ST.behind
      simp only [e1, HTT.out, List.getLastD_concat, e2, e3]
      rw [if_pos HKK.out]
      have hps := HPS.out
      rw [HXE.out] at hps
      simp [MV.st, HXE.out, List.map_set, hk, hps]
end Go.Proofs.YtiganlkabilblaaGreatDoor
namespace Go.Proofs.YtiganlkabilblaaGreatDoor
open Go.RowKit
attribute [local go_sem ↓] Go.wp_at_zero Go.wp_at_succ
/-- A row of numbers, whether it is nil or not. -/
theorem Ints.gen {w : World} {B : Nat} {v : Value} {ns : List Nat} (h : Ints w B v ns) : ∃ pa pc, v = .slice pa ns.length pc ∧ ns.length ≤ 9223372036854775807 ∧ ∀ j (hj : j < ns.length), ∃ pg, pa = some ⟨pg, 0, none⟩ ∧ pg < w.heap.size ∧ w.cell? ⟨pg, j, none⟩ = some (.int .i64 ns[j]) := by
  have h' := h
  rcases h'.2 with ⟨rfl, h0⟩ | ⟨g, cap, cur, rfl, _, hg, h1, h2, _⟩
  · exact ⟨none, 0, by rw [h0], by omega, fun j hj => by omega⟩
  · refine ⟨_, cap, rfl, by unfold maxLen at h2; omega, fun j hj => ⟨g, rfl, heap_lt' hg, ?_⟩⟩
    have := h.cellAt (g := g) j (by omega)
    rw [this]; simp [hj, intV]
theorem rfE_name {names : List Thk.Bytes} {e : Thk.RE} (hk : e.kind = 4) : rfE names e 0 = if names.contains e.text then ((names.idxOf e.text : Nat) : Int) else -1 := by
  unfold rfE rf; rw [if_pos hk]; simp
/-- What is asked of the grammar's numbers. -/
structure Fits (ps : List (Thk.RE × Value × Value)) (rs : List (Thk.Bytes × Nat)) : Prop where
  ex : ∀ p ∈ ps, p.1.Fit ps.length
  ru : ∀ r ∈ rs, r.2 < ps.length
abbrev xsOf (ps : List (Thk.RE × Value × Value)) : List Thk.RE := ps.map (·.1)
abbrev nmOf (rs : List (Thk.Bytes × Nat)) : List Thk.Bytes := rs.map (·.1)
abbrev bdOf (rs : List (Thk.Bytes × Nat)) : List Nat := rs.map (·.2)
/-- An expression of the grammar, its cells. -/
theorem GM.exp {w : World} {B gb : Nat} {vx vr : Value} {ps : List (Thk.RE × Value × Value)} {rs : List (Thk.Bytes × Nat)} {names : List Thk.Bytes} (h : GM w B gb vx vr (ps.map (ruled names)) rs) {i : Nat} (hi : i < ps.length) :
    ∃ (p : Thk.RE × Value × Value) (xg xc : Nat) (ia : Option Addr) (ic : Nat) (pa : Option Addr) (pc : Nat), ps[i]? = some p ∧ p ∈ ps ∧ vx = .slice (some ⟨xg, 0, none⟩) ps.length xc ∧ xg < w.heap.size ∧ w.cell? ⟨xg, i * 5, none⟩ = some (.int .i64 p.1.kind) ∧ w.cell? ⟨xg, i * 5 + 1, none⟩ = some (.slice ia p.1.items.length ic) ∧ w.cell? ⟨xg, i * 5 + 2, none⟩ = some (.string ⟨p.1.text.toArray⟩) ∧ w.cell? ⟨xg, i * 5 + 3, none⟩ = some (.int .i64 (rfE names p.1 0)) ∧ w.cell? ⟨xg, i * 5 + 4, none⟩ = some (.slice pa p.1.parts.length pc) ∧
      ps.length ≤ 9223372036854775807 ∧ p.1.parts.length ≤ 9223372036854775807 ∧ ∀ j (hj : j < p.1.parts.length), ∃ pg, pa = some ⟨pg, 0, none⟩ ∧ pg < w.heap.size ∧ w.cell? ⟨pg, j, none⟩ = some (.int .i64 p.1.parts[j]) := by
  obtain ⟨xg, xc, rfl, hxB, hxl, hmx⟩ := h.exAt (by simp; omega)
  have hi' : i < (ps.map (ruled names)).length := by simpa using hi
  obtain ⟨c0, c1, c2, c3, c4⟩ := h.exCells.2 i hi'
  have hpm : ps[i] ∈ ps := List.getElem_mem hi
  have hrd : (ps.map (ruled names))[i]'hi' = ruled names ps[i] := by rw [List.getElem_map]
  rw [hrd] at c0 c1 c2 c3 c4
  have hmem : ruled names ps[i] ∈ ps.map (ruled names) := List.mem_map_of_mem hpm
  obtain ⟨ia, ic, hvi⟩ := own_form (h.items _ hmem)
  obtain ⟨pa, pc, hvp, hpn, hpc⟩ := (h.parts _ hmem).gen
  rw [hvi] at c1
  rw [hvp] at c4
  refine ⟨ps[i], xg, xc, ia, ic, pa, pc, List.getElem?_eq_getElem hi, hpm, by rw [List.length_map], hxl, c0, c1, c2, c3, c4, by unfold maxLen at hmx; simp at hmx; omega, hpn, hpc⟩
theorem bools_cell {w : World} {lb : Nat} {l : List Bool} (h : w.heap[lb]? = some (boolsO l)) (j : Nat) (hj : j < l.length) : w.cell? ⟨lb, j, none⟩ = some (.bool (l.getD j false)) := by
  rw [cell_of_block h]
  simp [hj, List.getD_eq_getElem?_getD]
end Go.Proofs.YtiganlkabilblaaGreatDoor
namespace Go.Proofs.YtiganlkabilblaaGreatDoor
open Go.RowKit
attribute [local go_sem ↓] Go.wp_at_zero Go.wp_at_succ
theorem spanC_get (ps : List Thk.Span) (i j : Nat) (hi : i < ps.length) (hj : j < 2) : (ps.flatMap spanC)[i * 2 + j]? = (spanC ps[i])[j]? := by
  induction ps generalizing i with
  | nil => simp at hi
  | cons p ps ih =>
    have hl : (spanC p).length = 2 := rfl
    cases i with
    | zero =>
      simp only [List.flatMap_cons, Nat.zero_mul, Nat.zero_add, List.getElem_cons_zero]
      rw [List.getElem?_append_left (by omega)]
    | succ i =>
      simp only [List.flatMap_cons, List.getElem_cons_succ]
      rw [List.getElem?_append_right (by omega), hl, show (i + 1) * 2 + j - 2 = i * 2 + j from by omega]
      exact ih i (by simpa using hi)
theorem Items.gen {w : World} {B : Nat} {v : Value} {rs : List Thk.Span} (h : Items w B v rs) : ∃ pa pc, v = .slice pa rs.length pc ∧ ∀ j (hj : j < rs.length), ∃ pg, pa = some ⟨pg, 0, none⟩ ∧ pg < w.heap.size ∧ w.cell? ⟨pg, j * 2, none⟩ = some (.int .u8 rs[j].1.toNat) ∧ w.cell? ⟨pg, j * 2 + 1, none⟩ = some (.int .u8 rs[j].2.toNat) := by
  have h' := h
  rcases h'.2 with ⟨rfl, h0⟩ | ⟨g, cap, cur, rfl, _, hg, h1, h2, _⟩
  · exact ⟨none, 0, by rw [h0], fun j hj => by omega⟩
  · refine ⟨_, cap, rfl, fun j hj => ⟨g, rfl, heap_lt' hg, ?_, ?_⟩⟩
    · have := h.cellAt (g := g) (j * 2 + 0) (by omega)
      rw [spanC_get _ _ _ hj (by decide)] at this; exact this
    · have := h.cellAt (g := g) (j * 2 + 1) (by omega)
      rw [spanC_get _ _ _ hj (by decide)] at this; exact this
end Go.Proofs.YtiganlkabilblaaGreatDoor
namespace Thk
def small (t : Tok) : Prop := t.text.length ≤ 20 ∧ t.spans.length ≤ 20
def Small (ts : List Tok) : Prop := ∀ t ∈ ts, small t
mutual
def wtP : Piece → Nat
  | .name b => b.length
  | .lit b => 2 + 2 * b.length
  | .cls l => 2 + 5 * l.length
  | .any => 1
  | .group c => 2 + wtC c
def wtT : Term → Nat
  | .mk _ p _ => 2 + wtP p
def wtS : List Term → Nat
  | [] => 2
  | t :: s => 1 + wtT t + wtS s
def wtC : List (List Term) → Nat
  | [] => 1000000
  | [s] => 3 + wtS s
  | s :: c => 3 + wtS s + wtC c
 end
theorem wtC_le (s : List Term) (c : List (List Term)) : wtC (s :: c) ≤ 3 + wtS s + wtC c := by
  cases c with
  | nil => simp only [wtC]; omega
  | cons s2 c => simp only [wtC]; omega
theorem Small.tail {ts : List Tok} (h : Small ts) : Small ts.tail := fun t ht => h t (List.mem_of_mem_tail ht)
theorem Small.ahead {ts : List Tok} (h : Small ts) : Small (aheadOf ts).2 := by
  unfold aheadOf
  repeat' split
  all_goals first | exact h | exact h.tail
theorem Small.behind {ts : List Tok} (h : Small ts) : Small (behindOf ts).2 := by
  unfold behindOf
  repeat' split
  all_goals first | exact h | exact h.tail
def WP1 (ts : List Tok) (r : Res Piece) : Prop := Small ts → ∀ p rest, r = .ok p rest → wtP p + 200 * rest.length + 50 ≤ 200 * ts.length ∧ Small rest
def WP2 (ts : List Tok) (r : Res Term) : Prop := Small ts → ∀ p rest, r = .ok p rest → wtT p + 200 * rest.length + 40 ≤ 200 * ts.length ∧ Small rest
def WP3 (ts : List Tok) (r : Res Seq) : Prop := Small ts → ∀ p rest, r = .ok p rest → wtS p + 200 * rest.length ≤ 200 * ts.length + 2 ∧ Small rest
def WP4 (ts : List Tok) (r : Res Choice) : Prop := Small ts → ∀ p rest, r = .ok p rest → wtC p + 200 * rest.length ≤ 200 * ts.length + 10 ∧ Small rest
theorem hd_sign_ne {ts : List Tok} {c : UInt8} (h : (hd ts).kind = .sign c) : 1 ≤ ts.length := by
  cases ts with
  | nil => simp [hd, badT] at h
  | cons t ts => simp
theorem wp_plain {ts : List Tok} {p : Piece} (h : plainPiece (hd ts) = some p) : WP1 ts (.ok p ts.tail) := by
  intro hs p' rest e
  cases e
  cases ts with
  | nil => simp [hd, plainPiece, badT] at h
  | cons t ts =>
    have ht := hs t (by simp)
    obtain ⟨h1, h2⟩ := ht
    refine ⟨?_, hs.tail⟩
    simp only [hd, List.headD_cons] at h
    unfold plainPiece at h
    split at h
    · cases h; simp [wtP]; omega
    · cases h; simp [wtP]; omega
    · cases h; simp [wtP]; omega
    · split at h
      · cases h; simp [wtP]; omega
      · cases h
    · cases h
theorem PChoice.wt {d : Nat} {ts : List Tok} {c : Choice} {rest : List Tok} (h : PChoice d ts (.ok c rest)) (hs : Small ts) : wtC c + 200 * rest.length ≤ 200 * ts.length + 10 ∧ Small rest := by
  refine (PChoice.rec (motive_1 := fun _ ts r _ => WP1 ts r) (motive_2 := fun _ ts r _ => WP2 ts r) (motive_3 := fun _ ts r _ => WP3 ts r) (motive_4 := fun _ ts r _ => WP4 ts r) ?_ ?_ ?_ ?_ ?_ ?_ ?_ ?_ ?_ ?_ ?_ ?_ ?_ ?_ ?_ ?_ h : WP4 ts (.ok c rest)) hs c rest rfl
  · intro d ts p h; exact wp_plain h
  · intro d ts h h' hs p rest e; cases e
  · intro ts h hs p rest e; cases e
  · intro d ts c rest h1 h2 h3 h4 ih hs p rest' e
    cases e
    obtain ⟨i1, i2⟩ := ih hs.tail _ _ rfl
    have n1 := hd_sign_ne h1
    have n2 := hd_sign_ne h4
    refine ⟨?_, i2.tail⟩
    simp only [wtP, List.length_tail] at i1 ⊢
    omega
  · intros; intro hs p rest e; cases e
  · intros; intro hs p rest e; cases e
  · intro d ts p rest h ih hs t rest' e
    cases e
    obtain ⟨i1, i2⟩ := ih hs.ahead _ _ rfl
    have h1 := ahead_len ts
    have h2 := behind_len rest
    refine ⟨?_, i2.behind⟩
    simp only [wtT]
    omega
  · intros; intro hs p rest e; cases e
  · intro d ts h hs p rest e
    cases e
    refine ⟨?_, hs⟩
    simp only [wtS]
    omega
  · intro d ts t rest s rest' h1 h2 h3 ih1 ih2 hs p r e
    cases e
    obtain ⟨i1, i2⟩ := ih1 hs _ _ rfl
    obtain ⟨j1, j2⟩ := ih2 i2 _ _ rfl
    refine ⟨?_, j2⟩
    simp only [wtS]
    omega
  · intros; intro hs p rest e; cases e
  · intros; intro hs p rest e; cases e
  · intro d ts s rest h1 h2 ih hs p r e
    cases e
    obtain ⟨i1, i2⟩ := ih hs _ _ rfl
    refine ⟨?_, i2⟩
    simp only [wtC]
    omega
  · intro d ts s rest c rest' h1 h2 h3 ih1 ih2 hs p r e
    cases e
    obtain ⟨i1, i2⟩ := ih1 hs _ _ rfl
    obtain ⟨j1, j2⟩ := ih2 i2.tail _ _ rfl
    have n1 := hd_sign_ne h2
    refine ⟨?_, j2⟩
    have hw := wtC_le s c
    simp only [List.length_tail] at *
    omega
  · intros; intro hs p rest e; cases e
  · intros; intro hs p rest e; cases e
theorem closes_le {l : Bytes} {n : Nat} {m : UInt8} {k : Nat} (h : closesL l n m k = true) : k ≤ 20 := by
  unfold closesL at h
  simp at h
  omega
theorem tokL_small (l : Bytes) : small (tokL l) := by
  have hb : small badT := ⟨by simp [badT], by simp [badT]⟩
  cases l with
  | nil => exact ⟨by simp [tokL], by simp [tokL]⟩
  | cons c t =>
    simp only [tokL]
    split
    · unfold nameT
      split
      · exact hb
      · refine ⟨?_, by simp⟩
        rw [List.length_take]; omega
    · split
      · exact ⟨by simp, by simp⟩
      · split
        · unfold litT
          split
          · rename_i h; exact ⟨closes_le h, by simp⟩
          · exact hb
        · split
          · unfold clsT
            split
            · rename_i h; exact ⟨by simp, closes_le h⟩
            · exact hb
          · split
            · exact ⟨by simp, by simp⟩
            · exact hb
theorem toksF_small : ∀ (f pos : Nat) (l : Bytes), Small (toksF f pos l)
  | 0, _, _ => by intro t ht; simp [toksF] at ht
  | f + 1, pos, l => by
    intro t ht
    simp only [toksF, List.mem_cons] at ht
    rcases ht with rfl | ht
    · exact tokL_small _
    · split at ht
      · simp at ht
      · exact toksF_small f _ _ t ht
theorem PRule.wt {n : Nat} {ts : List Tok} {r : Rule} {rest : List Tok} (h : PRule n ts (.ok r rest)) (hs : Small ts) : wtC r.choice ≤ 200 * ts.length + 10 ∧ r.name.length ≤ 20 ∧ rest.length ≤ ts.length ∧ Small rest := by
  cases h with
  | ok hk _ _ hc =>
    obtain ⟨i1, i2⟩ := hc.wt hs.tail.tail
    have hn := hc.nc
    simp only [List.length_tail] at i1 hn
    refine ⟨by simp only []; omega, ?_, by omega, i2⟩
    cases ts with
    | nil => simp [hd, badT]
    | cons t ts => simp only [hd, List.headD_cons]; exact (hs t (by simp)).1
theorem PGram.wt {n : Nat} {ts : List Tok} {g : List Rule} (h : PGram n ts (.ok g)) (hs : Small ts) : ∀ r ∈ g, wtC r.choice ≤ 200 * ts.length + 10 ∧ r.name.length ≤ 20 := by
  generalize hres : (Except.ok g : Except (Nat × Nat) (List Rule)) = res at h
  induction h generalizing g with
  | last hr hk =>
    cases hres
    intro r hr'
    simp only [List.mem_singleton] at hr'
    subst hr'
    have := hr.wt hs
    exact ⟨this.1, this.2.1⟩
  | more hr hk _ ih =>
    cases hres
    intro r hr'
    have h1 := hr.wt hs
    rcases List.mem_cons.1 hr' with rfl | hr'
    · exact ⟨h1.1, h1.2.1⟩
    · have := ih h1.2.2.2 rfl r hr'
      omega
  | err hr => cases hres
  | later _ _ _ _ => cases hres
theorem gram_wt {l : Bytes} {g : List Rule} (h : PGram 0 (toks l) (.ok g)) (hl : l.length ≤ 2000) : ∀ r ∈ g, wtC r.choice ≤ 500000 ∧ r.name.length ≤ 20 := by
  intro r hr
  have h1 := h.wt (toksF_small _ _ _) r hr
  have h2 := toks_len l
  omega
end Thk
namespace Go.Proofs.YtiganlkabilblaaGreatDoor
open Go.RowKit
attribute [local go_sem ↓] Go.wp_at_zero Go.wp_at_succ
/-- An expression of the grammar, its cells and its items. -/
theorem GM.exq {w : World} {B gb : Nat} {vx vr : Value} {ps : List (Thk.RE × Value × Value)} {rs : List (Thk.Bytes × Nat)} {names : List Thk.Bytes} (h : GM w B gb vx vr (ps.map (ruled names)) rs) {k : Nat} {e : Thk.RE} (hx : (xsOf ps)[k]? = some e) :
    ∃ (xg xc : Nat) (ia : Option Addr) (ic : Nat) (pa : Option Addr) (pc : Nat), k < ps.length ∧ vx = .slice (some ⟨xg, 0, none⟩) ps.length xc ∧ xg < w.heap.size ∧ w.cell? ⟨xg, k * 5, none⟩ = some (.int .i64 e.kind) ∧ w.cell? ⟨xg, k * 5 + 1, none⟩ = some (.slice ia e.items.length ic) ∧ w.cell? ⟨xg, k * 5 + 2, none⟩ = some (.string ⟨e.text.toArray⟩) ∧ w.cell? ⟨xg, k * 5 + 3, none⟩ = some (.int .i64 (rfE names e 0)) ∧ w.cell? ⟨xg, k * 5 + 4, none⟩ = some (.slice pa e.parts.length pc) ∧
      ps.length ≤ 9223372036854775807 ∧ e.parts.length ≤ 9223372036854775807 ∧ (∀ j (hj : j < e.parts.length), ∃ pg, pa = some ⟨pg, 0, none⟩ ∧ pg < w.heap.size ∧ w.cell? ⟨pg, j, none⟩ = some (.int .i64 e.parts[j])) ∧ Items w B (.slice ia e.items.length ic) e.items := by
  have hi : k < ps.length := by
    have := (List.getElem?_eq_some_iff.1 hx).1
    simpa using this
  have hep : e = ps[k].1 := by
    rw [List.getElem?_map, List.getElem?_eq_getElem hi] at hx
    simpa using hx.symm
  subst hep
  obtain ⟨xg, xc, rfl, hxB, hxl, hmx⟩ := h.exAt (by simp; omega)
  have hi' : k < (ps.map (ruled names)).length := by simpa using hi
  obtain ⟨c0, c1, c2, c3, c4⟩ := h.exCells.2 k hi'
  have hpm : ps[k] ∈ ps := List.getElem_mem hi
  have hrd : (ps.map (ruled names))[k]'hi' = ruled names ps[k] := by rw [List.getElem_map]
  rw [hrd] at c0 c1 c2 c3 c4
  have hmem : ruled names ps[k] ∈ ps.map (ruled names) := List.mem_map_of_mem hpm
  obtain ⟨ia, ic, hvi⟩ := own_form (h.items _ hmem)
  obtain ⟨pa, pc, hvp, hpn, hpc⟩ := (h.parts _ hmem).gen
  have hit := h.items _ hmem
  rw [hvi] at c1 hit
  rw [hvp] at c4
  exact ⟨xg, xc, ia, ic, pa, pc, hi, by rw [List.length_map], hxl, c0, c1, c2, c3, c4, by unfold maxLen at hmx; simp at hmx; omega, hpn, hpc, hit⟩
theorem Items.below {w w' : World} {B : Nat} {v : Value} {rs : List Thk.Span} (h : Items w B v rs) (hb : Below w.heap.size w w') : Items w' B v rs := own_below h hb
end Go.Proofs.YtiganlkabilblaaGreatDoor
