import Derived.Test.YtjmcdklhaieldaaGreatDoorRA
import Derived.Test.YtjmcdklhaieldaaGreatDoorGA
import Derived.Deep.AppendLies
import Derived.Deep.LoopGhost
set_option linter.all false
namespace Go.Proofs.YtjmcdklhaieldaaGreatDoor
open Go.RowKit

theorem Tryz.infoItem : (Tryz.prog.info? 275).map (fun i => (i.zero, i.size, i.bytes)) = some (some (.agg #[.int .u8 0, .int .u8 0]), 2, 2) := by kernel_rfl

def rkind : Thk.TK → Nat
  | .name => 1
  | .arrow => 2
  | .lit => 3
  | .cls => 4
  | .sign _ => 5
  | .fin => 6
  | .bad => 7
def rtext (t : Thk.Tok) : List UInt8 :=
  match t.kind with
  | .name => t.text
  | .sign c => [c]
  | _ => []
def rend (t : Thk.Tok) : Nat := if t.kind.last then 0 else t.place + t.size
def dup (c : UInt8) : Thk.Span := (c, c)
def ritems (t : Thk.Tok) : List Thk.Span :=
  match t.kind with
  | .lit => t.text.map dup
  | .cls => t.spans
  | _ => []

/-- A token of the reference: its items' slice is v. -/
def rtokV (t : Thk.Tok) (v : Value) : Value := .agg #[.int .i64 (rkind t.kind), .int .i64 t.place, .int .i64 (rend t), .string ⟨(rtext t).toArray⟩, v]
abbrev rtokO (k p e : Int) (s : ByteArray) (v : Value) : Obj := .cells #[.int .i64 k, .int .i64 p, .int .i64 e, .string s, v] 177

/-- The slice v holds the items. -/
def Items (w : World) (B : Nat) (v : Value) (xs : List Thk.Span) : Prop := w.ownsRow B 275 2 v xs.length (xs.flatMap spanC)

theorem heap_lt' {w : World} {b : Nat} {o : Obj} (h : w.heap[b]? = some o) : b < w.heap.size := by
  rcases Nat.lt_or_ge b w.heap.size with h' | h'
  · exact h'
  · rw [Array.getElem?_eq_none h'] at h; cases h

structure RLit (s : ByteArray) (k : Nat) (X : Thk.Bytes × Nat) (w : World) (j : Nat) (xs : List UInt8) (v : Value) (wr : World) : Prop where
  le : k + 1 + j ≤ s.size
  len : xs.length ≤ j
  own : Items wr (w.heap.size + 2) v (xs.map dup)
  tok : wr.heap[w.heap.size + 1]? = some (rtokO 3 k 0 ⟨#[]⟩ v)
  res : wr.heap[w.heap.size]? = some (rtokO 0 0 0 ⟨#[]⟩ (.slice none 0 0))
  below : Below w.heap.size w wr
  size : w.heap.size + 2 ≤ wr.heap.size
  all : X = (xs ++ (Thk.charsL [39] (s.data.toList.drop (k + 1 + j))).1, j + (Thk.charsL [39] (s.data.toList.drop (k + 1 + j))).2)

theorem bad_place (k : Nat) : rtokV { Thk.badT with place := k } (.slice none 0 0) = .agg #[.int .i64 7, .int .i64 k, .int .i64 0, .string ⟨#[]⟩, .slice none 0 0] := rfl

theorem setCell_block {w : World} {b o : Nat} {cs : Array Value} {e : TypeId} {fr : Nat × Nat} (h : w.heap[b]? = some (.cells cs e fr)) (u : Value) : (w.setCell ⟨b, o, none⟩ u).heap[b]? = some (.cells (cs.setIfInBounds o u) e fr) := by
  simp [World.setCell, Array.getElem?_modify, h]

theorem own_set {w : World} {b o : Nat} {u : Value} {base : Nat} {e : TypeId} {size : Nat} {v : Value} {n : Nat} {xs : List Value} (h : w.ownsRow base e size v n xs) (hb : b < base) : (w.setCell ⟨b, o, none⟩ u).ownsRow base e size v n xs := ownsRow_setCell_below h hb u

set_option maxHeartbeats 2000000 in
set_option maxRecDepth 100000 in
theorem rliteral_any (s : ByteArray) (k : Nat) (w : World) (hs : s.size ≤ 2000) (hk : k < s.size) :
    Calls Tryz.prog 116 #[.string s, .int .i64 k] w fun e w' => ∃ v,
      e = .returned (rtokV { Thk.litT (s.data.toList.drop (k + 1)) with place := k } v) ∧ Below w.heap.size w w' ∧ Items w' w.heap.size v (ritems (Thk.litT (s.data.toList.drop (k + 1)))) := by
  obtain ⟨X, hX⟩ : ∃ X, X = Thk.charsL [39] (s.data.toList.drop (k + 1)) := ⟨_, rfl⟩
  obtain ⟨T, hT⟩ : ∃ T, T = Thk.litT (s.data.toList.drop (k + 1)) := ⟨_, rfl⟩
  obtain ⟨C, hC⟩ : ∃ C, C = Thk.closesL (s.data.toList.drop (k + 1)) X.2 39 X.1.length := ⟨_, rfl⟩
  rw [← hT]
  have HT : Hid (T = if C then ⟨.lit, 0, X.2 + 2, X.1, []⟩ else Thk.badT) := by rw [hC, hX]; exact hT
  have HX : Hid (X = Thk.charsL [39] (s.data.toList.drop (k + 1))) := hX
  have HC : Hid (C = Thk.closesL (s.data.toList.drop (k + 1)) X.2 39 X.1.length) := hC
  clear hX hT hC
  obtain ⟨i0, hi, hz0, hz1, hz2⟩ := info_parts Tryz.infoItem
  go_enter Tryz.func116, Tryz.ntmps116
  go_wp2_with fail
  go_loopg [6, 7, 8] (s.size - (k + 1)) (fun m i _ _ wr => ∃ (j : Nat) (xs : List UInt8) (v : Value), m = s.size - (k + 1 + j) ∧ i = .int .i64 ↑(k + 1 + j) ∧ Hid (RLit s k X w j xs v wr))
  case atStart =>
    refine ⟨0, [], .slice none 0 0, rfl, by go_num, ?_⟩
    refine ⟨by omega, by simp, World.ownsRow_nil _ _ _ _, ?_, ?_, ?_, by simp, ?_⟩
    · rw [show w.heap.size + 1 = (w.alloc (rtokO 0 0 0 ⟨#[]⟩ (.slice none 0 0))).heap.size from by simp]; exact heap_alloc_new _ _
    · rw [heap_alloc_old _ _ (by simp)]; exact heap_alloc_new _ _
    · exact ((Below.refl _ _).alloc (Nat.le_refl _) _).alloc (by simp) _
    · rw [HX.out]; simp
  case round =>
    obtain ⟨j, xs, v, rfl, rfl, hR⟩ := hrel
    have hR1 := hR.out.le
    have hq := cell_of_block hR.out.tok
    have hf := frozen_of_block hR.out.tok
    have hqr := cell_of_block hR.out.res
    have hfr := frozen_of_block hR.out.res
    have hown : wr.ownsRow (w.heap.size + 2) 275 2 v (xs.map dup).length ((xs.map dup).flatMap spanC) := hR.out.own
    have hxl := hR.out.len
    have hsz := hR.out.size
    obtain ⟨va, vc, hv⟩ := own_form hown
    rw [List.length_map] at hv
    subst hv
    by_cases hgo : ∃ h : k + 1 + j < s.size, s[k + 1 + j] ≠ 39
    · obtain ⟨hlt, hne⟩ := hgo
      have tq : ((s[k + 1 + j].toNat : Int) != 39) = true := by rw [bne_iff_ne]; intro e; apply hne; apply UInt8.toNat_inj.1; rw [show (39 : UInt8).toNat = 39 from rfl]; omega
      cases hc : Thk.charL [39] (s.data.toList.drop (k + 1 + j)) with
      | some p =>
        obtain ⟨c, n⟩ := p
        have HCC : Hid (Thk.charL [39] (s.data.toList.drop (k + 1 + j)) = some (c, n)) := hc
        have hcall := rchar_of s ⟨#[39]⟩ ⟨#[110, 116, 92, 39]⟩ (k + 1 + j) wr (by omega) hs rfl (by decide) (by decide) hc
        rw [chv_some] at hcall
        clear hc
        have hpos := (charL_le HCC.out).1
        have hle := (charL_le HCC.out).2
        rw [List.length_drop, show s.data.toList.length = s.size from rfl] at hle
        have ht : ((n : Int) == 0) = false := beq_eq_false_iff_ne.2 (by omega)
        clear hne
        go_wp2_with fail
        refine hcall.mono ?_
        rintro e w' ⟨rfl, rfl⟩
        go_wp2_with (first | (at_builtin; refine wpList_append_lies _ rfl _ _ 124 rfl (w.heap.size + 2) 275 i0 _ 2 2 Tryz.underlying124 hi hz0 hz1 hz2 rfl (by decide) _ _ _ rfl (hown.alloc _) ⟨w'.heap.size, 0, none⟩ 1 1 (spanC (dup c)) rfl rfl ?c1 ?c2 (by decide) ?c3 ?c4 ?c5 _ rfl ?_))
        case c1 => exact cell_two_new' _ _ _ _
        case c2 => intro u hu; simp [spanC, dup] at hu; subst hu; rfl
        case c3 => simp; unfold maxLen; omega
        case c4 => simp; omega
        case c5 => simp; omega
        intro g cap w2 hown' hgrow hat hgl
        have hz2' := hgrow.size
        simp at hz2'
        have ht2 : w2.heap[w.heap.size + 1]? = some (rtokO 3 k 0 ⟨#[]⟩ (.slice va xs.length vc)) := by
          rw [hgrow.block _ (by simp; omega) (fun e => by have := (hown.lt _ e.symm).1; omega), heap_alloc_old _ _ (by omega)]; exact hR.out.tok
        have hr2 : w2.heap[w.heap.size]? = some (rtokO 0 0 0 ⟨#[]⟩ (.slice none 0 0)) := by
          rw [hgrow.block _ (by simp; omega) (fun e => by have := (hown.lt _ e.symm).1; omega), heap_alloc_old _ _ (by omega)]; exact hR.out.res
        have hq2 := cell_of_block ht2
        have hf2 := frozen_of_block ht2
        have hN : Hid (RLit s k X w (j + n) (xs ++ [c]) (.slice (some ⟨g, 0, none⟩) (xs.length + 1) cap) (w2.setCell ⟨w.heap.size + 1, 4, none⟩ (.slice (some ⟨g, 0, none⟩) (xs.length + 1) cap))) := by
          refine ⟨by omega, by simp; omega, ?_, ?_, ?_, ?_, by simp; omega, ?_⟩
          · refine own_set ?_ (by omega)
            simpa using hown'
          · rw [setCell_block ht2]; rfl
          · rw [Below.heap_setCell _ _ _ _ (by simp)]; exact hr2
          · exact ((hR.out.below.alloc (by omega) _).grown hgrow (by simp; omega) (fun b hb => by have := (hown.lt b hb).1; omega)).setCell (by simp) _
          · rw [hR.out.all, charsL_some HCC.out, List.drop_drop, show k + 1 + j + n = k + 1 + (j + n) from by omega]
            simp
            omega
        clear hown' hgrow hown hR hq hf hqr hfr ht2 hr2 hcall
        go_wp2_with fail
        go_roundg (s.size - (k + 1 + (j + n)))
        case measure => omega
        case rel => exact ⟨j + n, xs ++ [c], _, rfl, by go_num, hN⟩
      | none =>
        have hcall := rchar_of s ⟨#[39]⟩ ⟨#[110, 116, 92, 39]⟩ (k + 1 + j) wr (by omega) hs rfl (by decide) (by decide) hc
        rw [chv_none] at hcall
        have hD : X = (xs, j) := by rw [hR.out.all, charsL_none hc]; simp
        clear hc
        subst hD
        have hCf : C = false := by
          rw [HC.out]; unfold Thk.closesL
          simp only []
          rw [getElem?_drop' s (k + 1) j hlt]
          simp [hne]
        subst hCf
        have e1 := HT.out
        simp at e1
        subst e1
        have HB := hR.out.below
        clear hne HT HC HX hR hown hq hf
        go_wp2_with fail
        refine hcall.mono ?_
        rintro e w' ⟨rfl, rfl⟩
        go_wp2_with fail
        refine bodyPost_ret (v := rtokV { Thk.badT with place := k } (.slice none 0 0)) (by simp [results, Tryz.results116, go_sem, bad_place, hqr, show w.heap.size < w'.heap.size from by omega]) rfl ⟨.slice none 0 0, rfl, ?_, World.ownsRow_nil _ _ _ _⟩
        exact ((((HB.setCell (Nat.le_refl _) _).setCell (Nat.le_refl _) _).setCell (Nat.le_refl _) _).setCell (Nat.le_refl _) _).setCell (Nat.le_refl _) _
    · have hc : Thk.charL [39] (s.data.toList.drop (k + 1 + j)) = none := by
        by_cases hlt : k + 1 + j < s.size
        · have h39 : s[k + 1 + j] = 39 := by
            by_cases h : s[k + 1 + j] = 39
            · exact h
            · exact absurd ⟨hlt, h⟩ hgo
          rw [drop_cons s _ hlt, h39]; rfl
        · rw [drop_end s _ (by omega)]; rfl
      have hD : X = (xs, j) := by rw [hR.out.all, charsL_none hc]; simp
      clear hc
      subst hD
      have HB := hR.out.below
      by_cases hlt : k + 1 + j < s.size
      · have h39 : s[k + 1 + j] = 39 := by
          by_cases h : s[k + 1 + j] = 39
          · exact h
          · exact absurd ⟨hlt, h⟩ hgo
        have tq : ((s[k + 1 + j].toNat : Int) != 39) = false := by rw [h39]; rfl
        have hCe : C = (decide (1 ≤ xs.length) && decide (xs.length ≤ 20)) := by
          rw [HC.out]; unfold Thk.closesL
          simp only []
          rw [getElem?_drop' s (k + 1) j hlt, h39]
          simp
        clear hgo h39
        by_cases h1 : 1 ≤ xs.length
        · by_cases h20 : xs.length ≤ 20
          · have hCt : C = true := by rw [hCe]; simp [h1, h20]
            subst hCt
            have e1 := HT.out
            simp only [if_true] at e1
            subst e1
            have HI : Hid (Items wr (w.heap.size + 2) (.slice va xs.length vc) (xs.map dup)) := hR.out.own
            clear HT HC HX hR hown hCe
            go_wp2_with fail
            refine bodyPost_ret (v := .agg #[.int .i64 3, .int .i64 k, .int .i64 ↑(k + (j + 2)), .string ⟨#[]⟩, .slice va xs.length vc]) (by simp [results, Tryz.results116, go_sem, hqr, hq, show w.heap.size < wr.heap.size from by omega]; omega) rfl ⟨.slice va xs.length vc, rfl, ?_, ?_⟩
            · exact (((((HB.setCell (by simp) _).setCell (Nat.le_refl _) _).setCell (Nat.le_refl _) _).setCell (Nat.le_refl _) _).setCell (Nat.le_refl _) _).setCell (Nat.le_refl _) _
            · have hI := HI.out
              refine own_mono (own_set (own_set (own_set (own_set (own_set (own_set hI ?_) ?_) ?_) ?_) ?_) ?_) (by omega : w.heap.size ≤ w.heap.size + 2) <;> omega
          · have hCf : C = false := by rw [hCe]; simp [h20]
            subst hCf
            have e1 := HT.out
            simp at e1
            subst e1
            clear HT HC HX hR hown hCe
            go_wp2_with fail
            refine bodyPost_ret (v := rtokV { Thk.badT with place := k } (.slice none 0 0)) (by simp [results, Tryz.results116, go_sem, bad_place, hqr, show w.heap.size < wr.heap.size from by omega]) rfl ⟨.slice none 0 0, rfl, ?_, World.ownsRow_nil _ _ _ _⟩
            exact ((((HB.setCell (Nat.le_refl _) _).setCell (Nat.le_refl _) _).setCell (Nat.le_refl _) _).setCell (Nat.le_refl _) _).setCell (Nat.le_refl _) _
        · have hCf : C = false := by rw [hCe]; simp [h1]
          subst hCf
          have e1 := HT.out
          simp at e1
          subst e1
          clear HT HC HX hR hown hCe
          go_wp2_with fail
          refine bodyPost_ret (v := rtokV { Thk.badT with place := k } (.slice none 0 0)) (by simp [results, Tryz.results116, go_sem, bad_place, hqr, show w.heap.size < wr.heap.size from by omega]) rfl ⟨.slice none 0 0, rfl, ?_, World.ownsRow_nil _ _ _ _⟩
          exact ((((HB.setCell (Nat.le_refl _) _).setCell (Nat.le_refl _) _).setCell (Nat.le_refl _) _).setCell (Nat.le_refl _) _).setCell (Nat.le_refl _) _
      · have hCf : C = false := by
          rw [HC.out]; unfold Thk.closesL
          simp only []
          rw [getElem?_drop_end s (k + 1) j (by omega)]
          rfl
        subst hCf
        have e1 := HT.out
        simp at e1
        subst e1
        clear HT HC HX hR hown hgo
        go_wp2_with fail
        refine bodyPost_ret (v := rtokV { Thk.badT with place := k } (.slice none 0 0)) (by simp [results, Tryz.results116, go_sem, bad_place, hqr, show w.heap.size < wr.heap.size from by omega]) rfl ⟨.slice none 0 0, rfl, ?_, World.ownsRow_nil _ _ _ _⟩
        exact ((((HB.setCell (Nat.le_refl _) _).setCell (Nat.le_refl _) _).setCell (Nat.le_refl _) _).setCell (Nat.le_refl _) _).setCell (Nat.le_refl _) _
end Go.Proofs.YtjmcdklhaieldaaGreatDoor
