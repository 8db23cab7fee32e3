import Derived.Test.YtkbepcjgadkfaaaGreatDoorUA
import Derived.Deep.RegionHeldLaw
import Derived.Deep.RegionLaw
import Derived.Deep.DrawnRows
set_option linter.all false
namespace Go.Proofs.YtkbepcjgadkfaaaGreatDoor
open Go.RowKit
attribute [local go_sem ↓] Go.wp_at_zero Go.wp_at_succ

theorem Tryz.infoARule : (Tryz.prog.info? 122).map (fun i => (i.zero, i.size, i.bytes)) = some (some (.agg #[.string ⟨#[]⟩, .bool false]), 2, 24) := by kernel_rfl

/-- What is told of a grammar. -/
def tellL (names : List Thk.Bytes) (E : List Bool) : List (Thk.Bytes × Bool) := names.zip E

structure RuRel (w : World) (gb lb : Nat) (vx vr : Value) (l : List Bool) (L : List (Thk.Bytes × Bool)) (i : Nat) (v : Value) (W wr : World) : Prop where
  below : Below W.heap.size W wr
  out : Told wr W.heap.size v (L.take i)

theorem told_snoc {w1 : World} {B : Nat} {L : List (Thk.Bytes × Bool)} {i : Nat} (hi : i < L.length) {g cap : Nat} (h : w1.ownsRow B 122 2 (.slice (some ⟨g, 0, none⟩) ((L.take i).length + 1) cap) ((L.take i).length + 1) ((L.take i).flatMap aruC ++ [.string ⟨L[i].1.toArray⟩, .bool L[i].2])) : Told w1 B (.slice (some ⟨g, 0, none⟩) ((L.take i).length + 1) cap) (L.take (i + 1)) := by
  have e : L.take (i + 1) = L.take i ++ [L[i]] := List.take_succ_eq_append_getElem hi
  unfold Told
  rw [e, List.flatMap_append, List.length_append]
  exact h

theorem ru_next {W wr w2 : World} {O : Obj} {L : List (Thk.Bytes × Bool)} {i : Nat} {oa : Option Addr} {oc : Nat} {nm : Thk.Bytes} {b : Bool} {g2 cap2 : Nat} (hB : Below W.heap.size W wr) (ho : wr.ownsRow W.heap.size 122 2 (.slice oa i oc) i ((L.take i).flatMap aruC)) (hi : i < L.length) (hL : L[i] = (nm, b))
    (hown : w2.ownsRow W.heap.size 122 2 (.slice (some ⟨g2, 0, none⟩) (i + 1) cap2) (i + 1) ((L.take i).flatMap aruC ++ [.string ⟨nm.toArray⟩, .bool b])) (hg : ((wr.alloc O).drew).grownBy w2 (Value.slice oa i oc).ownBlock) :
    Below W.heap.size W w2 ∧ Told w2 W.heap.size (.slice (some ⟨g2, 0, none⟩) (i + 1) cap2) (L.take (i + 1)) := by
  have hs := hB.size
  have hs2 := hg.size
  have e1 : ((wr.alloc O).drew).heap.size = wr.heap.size + 1 := by show (wr.alloc O).heap.size = _; simp
  rw [e1] at hs2
  refine ⟨⟨hg.os.trans hB.os, hg.tape.trans hB.tape, hg.output.trans hB.output, by omega, fun k hk => ?_⟩, ?_⟩
  · rw [hg.block k (by rw [e1]; omega) (fun e => by have := (ho.lt k e.symm).1; omega)]
    show (wr.alloc O).heap[k]? = _
    rw [heap_alloc_old _ _ (by omega)]; exact hB.block k hk
  · have htl : (L.take i).length = i := by rw [List.length_take]; omega
    have := told_snoc (w1 := w2) (B := W.heap.size) hi (g := g2) (cap := cap2) (by rw [htl, hL]; exact hown)
    rw [htl] at this; exact this

set_option maxHeartbeats 16000000 in
set_option maxRecDepth 100000 in
theorem rrules_any (s : ByteArray) (w : World) (hs : s.size ≤ maxLen) (r : Except (Nat × Nat) (List Thk.Rule)) (hP : PRead s.data.toList r) :
    Calls Tryz.prog 30 #[.string s] w fun e w' => Below w.heap.size w w' ∧ ∃ res, PAll s.data.toList res ∧ match res with
      | .ok (g, E) => ∃ v, e = .returned (.tuple #[v, .int .i64 0]) ∧ Told w' w.heap.size v (tellL (namesOf g) E)
      | .error (er, _) => er ≠ 0 ∧ e = .returned (.tuple #[.slice none 0 0, .int .i64 er]) := by
  have hld := rload_any s w hs r hP
  clear hP
  go_enter Tryz.func30, Tryz.ntmps30
  go_wp2_with fail
  refine hld.mono ?_
  rintro e w1 ⟨hb, res, hP, hE⟩
  have HB := hideP hb
  have HP := hideP hP
  have hz := hb.size
  clear hld hb hP
  cases res with
  | error x =>
    obtain ⟨er, p⟩ := x
    obtain ⟨h0, xa, xn, xc, ra, rn, rc, rfl⟩ := hE
    have h1 : ¬ (er : Int) = 0 := by omega
    go_wp2_with fail
    go_ret2
    exact ⟨HB.out.alloc hz _, .error (er, p), HP.out, h0, rfl⟩
  | ok x =>
    obtain ⟨g, E⟩ := x
    obtain ⟨vx, vr, gb, lb, ps, rs, l, rfl, hok⟩ := hE
    obtain ⟨xa, xc, hvx⟩ := own_form hok.mem.ex
    rw [List.length_map] at hvx
    obtain ⟨rg, rc, hvr, _, hrgl⟩ := hok.mem.ruAt hok.rpos
    subst hvx
    subst hvr
    obtain ⟨i0, hi0, hz0, hz1, hz2⟩ := info_parts Tryz.infoARule
    have hlbl := heap_lt' hok.row
    have hrle := hok.rle
    have hpl := hok.ple
    obtain ⟨W, hW⟩ : ∃ W, W = w1.alloc (gramO (.slice xa ps.length xc) (.slice (some ⟨rg, 0, none⟩) rs.length rc)) := ⟨_, rfl⟩
    have hWb : Below w1.heap.size w1 W := by rw [hW]; exact below_alloc _ _
    have hWg : W.heap[w1.heap.size]? = some (gramO (.slice xa ps.length xc) (.slice (some ⟨rg, 0, none⟩) rs.length rc)) := by rw [hW]; exact heap_alloc_same _ _
    have hWs : W.heap.size = w1.heap.size + 1 := by rw [hW]; simp
    have HOK := hideP hok
    have HWB := hideP hWb
    have HWG := hideP hWg
    have HM0 : Hid (Told W W.heap.size (.slice none 0 0) ((tellL (namesOf g) E).take 0)) := World.ownsRow_nil _ _ _ _
    clear hok hWb hWg
    go_wp2_with fail
    rw [← hW]
    clear hW
    go_loopg [8, 9] rs.length (fun m vo vi wr => ∃ i : Nat, m = rs.length - i ∧ vi = .int .i64 i ∧ i ≤ rs.length ∧ Hid (Below W.heap.size W wr ∧ Told wr W.heap.size vo ((tellL (namesOf g) E).take i)))
    case atStart => exact ⟨0, by omega, rfl, by omega, Below.refl _ _, HM0.out⟩
    case round =>
      obtain ⟨i, rfl, rfl, hi, HI⟩ := hrel
      have hgr : wr.heap[w1.heap.size]? = some (gramO (.slice xa ps.length xc) (.slice (some ⟨rg, 0, none⟩) rs.length rc)) := by rw [HI.out.1.block _ (by omega)]; exact HWG.out
      have q := cell_of_block hgr
      have hgl := heap_lt' hgr
      by_cases hlt : i < rs.length
      · have hlt' : (i : Int) < rs.length := by omega
        have hig : i < (tellL (namesOf g) E).length := by
          have h1 : (namesOf g).length = rs.length := by rw [← DenR.names rs g HOK.out.den]; simp
          have h2 : E.length = rs.length := by rw [HOK.out.eof]; simp [Eof]
          simp [tellL, h1, h2]; exact hlt
        have hLi : (tellL (namesOf g) E)[i] = (rs[i].1, l.getD rs[i].2 false) := by
          have h1 : (namesOf g)[i]? = some rs[i].1 := by rw [← DenR.names rs g HOK.out.den]; simp [hlt]
          have h2 : E[i]? = some (l.getD rs[i].2 false) := by rw [HOK.out.eof]; simp [Eof, hlt]
          have h3 : (tellL (namesOf g) E)[i]? = some (rs[i].1, l.getD rs[i].2 false) := by
            unfold tellL
            rw [List.getElem?_zip_eq_some]
            exact ⟨h1, h2⟩
          rw [List.getElem?_eq_getElem hig] at h3
          exact Option.some.inj h3
        have hbr : wr.heap[rg]? = w1.heap[rg]? := by rw [HI.out.1.block _ (by omega)]; exact HWB.out.block _ hrgl
        have hbl : wr.heap[lb]? = w1.heap[lb]? := by rw [HI.out.1.block _ (by omega)]; exact HWB.out.block _ hlbl
        obtain ⟨d0, d1⟩ := HOK.out.mem.ruCells i hlt
        have d0' : wr.cell? ⟨rg, i * 2, none⟩ = some (.string ⟨rs[i].1.toArray⟩) := by rw [World.cell?_of_block (a := ⟨rg, _, none⟩) hbr]; exact d0
        have d1' : wr.cell? ⟨rg, i * 2 + 1, none⟩ = some (.int .i64 rs[i].2) := by rw [World.cell?_of_block (a := ⟨rg, _, none⟩) hbr]; exact d1
        have hbd := HOK.out.fits.ru rs[i] (List.getElem_mem hlt)
        have hbd' : (rs[i].2 : Int) < ps.length := by omega
        have hlc := bools_cell (hbl.trans HOK.out.row) rs[i].2 (by rw [HOK.out.len]; exact hbd)
        obtain ⟨oa, oc, hvo⟩ := own_form HI.out.2
        have htl : (List.take i (tellL (namesOf g) E)).length = i := by rw [List.length_take]; omega
        rw [htl] at hvo
        subst hvo
        obtain ⟨b, hb⟩ : ∃ b, b = l.getD rs[i].2 false := ⟨_, rfl⟩
        rw [← hb] at hlc hLi
        have HOWN : Hid (wr.ownsRow W.heap.size 122 2 (.slice oa i oc) i ((List.take i (tellL (namesOf g) E)).flatMap aruC)) := by
          have := HI.out.2
          unfold Told at this
          rw [htl] at this; exact this
        have HLI := hideP hLi
        have HIG := hideP hig
        have HTL := hideP htl
        have HNB : Hid (((wr.alloc (.cells #[.string ⟨rs[i].1.toArray⟩, .bool b] 122)).drew).heap[wr.heap.size]? = some (.cells #[.string ⟨rs[i].1.toArray⟩, .bool b] 122 (0, 0))) := heap_alloc_same wr _
        have H1 : Hid (∀ u ∈ [Value.string ⟨rs[i].1.toArray⟩, .bool b], u.oneCell' = true) := by
          intro u hu; simp at hu; rcases hu with rfl | rfl <;> rfl
        have HML : Hid (i + 1 ≤ maxLen) := by show _ ≤ _; unfold maxLen; omega
        have hsz := HI.out.1.size
        clear d0 d1 hb hLi htl hbr hbl hgr
        go_wp2_with fail
        go_region_law
          ((refine step_append_lies _ (by rfl) _ _ _ (by rfl) W.heap.size 122 i0 _ 2 24 Tryz.underlying76 hi0 hz0 hz1 hz2 (by rfl) (by decide) _ _ _ (by rfl) (HOWN.out.alloc _) ⟨wr.heap.size, 0, none⟩ 1 1 [.string ⟨rs[i].1.toArray⟩, .bool b] (by rfl) (by rfl) (World.news_of_block HNB.out) H1.out (by decide) HML.out (by omega) (by simp; omega) (wr.heap.size + 1) (by simp) ?_; intro g2 cap2 w2 hown1 hgrow hat hlt2; have HA := hideP (ru_next HI.out.1 HOWN.out hig HLI.out hown1 hgrow); clear hown1 hgrow hat))
        all_goals go_wp2_with fail
        all_goals
          go_roundg (rs.length - (i + 1))
          case measure => omega
          case rel => exact ⟨i + 1, rfl, by go_num, by omega, HA⟩
      · have hlt' : ¬ (i : Int) < rs.length := by omega
        have hie : i = rs.length := by omega
        have hll : (tellL (namesOf g) E).length ≤ i := by
          have h1 : (namesOf g).length = rs.length := by rw [← DenR.names rs g HOK.out.den]; simp
          simp [tellL, h1]; omega
        have hfin : Told wr W.heap.size u8 (tellL (namesOf g) E) := by
          have := HI.out.2
          rw [List.take_of_length_le hll] at this; exact this
        have HF := hideP (own_mono hfin (show w.heap.size ≤ W.heap.size by omega))
        have HBF : Hid (Below w.heap.size w wr) := (HB.out.trans (HWB.out.mono hz)).trans (HI.out.1.mono (by omega))
        clear hfin hll
        go_wp2_with fail
        go_ret2
        exact ⟨HBF.out, .ok (g, E), HP.out, _, rfl, HF.out⟩
end Go.Proofs.YtkbepcjgadkfaaaGreatDoor
