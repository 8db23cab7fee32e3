import Derived.Test.YtkbepcjgadkfaaaGreatDoorU3
set_option linter.all false
namespace Go.Proofs.YtkbepcjgadkfaaaGreatDoor
open Go.RowKit
attribute [local go_sem ↓] Go.wp_at_zero Go.wp_at_succ

theorem PAll.err0 {l : List UInt8} {er p : Nat} (h : PAll l (.error (er, p))) : er ≠ 0 := by
  cases h with
  | text h => exact read_err0 h
  | rules _ h => cases h <;> simp

theorem make_rules (n : Nat) (hn : n ≤ 20) (w : World) : ∃ cur : Array Value, cur.size = n * 2 ∧ (Instr.makeSlice 76 (.int .i64 0) (.int .i64 n)).run Tryz.prog w = .ok (.slice (some ⟨w.heap.size, 0, none⟩) 0 n) (w.alloc (.cells cur 122)) := by
  obtain ⟨i0, hi, hz0, hz1, hz2⟩ := info_parts Tryz.infoARule
  refine ⟨madeCells (Value.agg #[.string ⟨#[]⟩, .bool false]).cells (((n : Nat) : Int).toNat * i0.size), ?_, ?_⟩
  · rw [size_madeCells, hz1]; simp
  · have h := run_make (P := Tryz.prog) w 76 122 i0 _ Tryz.underlying76 hi hz0 .i64 .i64 0 (n : Int) (by omega) (by omega) (by rw [hz2]; omega) (by omega)
    simpa using h

theorem grown_cell {w5 w6 : World} {O : Obj} {row : Option Nat} {a : Addr} {u : Value} (hg : (w5.alloc O).grownBy w6 row) (h : w5.cell? a = some u) (hn : some a.block ≠ row) : w6.cell? a = some u :=
  hg.cell (by rw [World.cell?_alloc_lt _ _ _ (World.block_lt_of_cell? _ _ h)]; exact h) hn

theorem pu_next {W wr w5 w6 : World} {O1 O2 : Obj} {L : List (Thk.Bytes × Bool)} {i : Nat} {oa : Option Addr} {oc : Nat} {nm : Thk.Bytes} {b : Bool} {g2 cap2 : Nat} (hB : Below W.heap.size W wr) (ho : wr.ownsRow W.heap.size 122 2 (.slice oa i oc) i ((L.take i).flatMap aruC)) (hi : i < L.length) (hL : L[i] = (nm, b))
    (h5 : Below ((wr.alloc O1).drew).heap.size ((wr.alloc O1).drew) w5)
    (hown : w6.ownsRow W.heap.size 122 2 (.slice (some ⟨g2, 0, none⟩) (i + 1) cap2) (i + 1) ((L.take i).flatMap aruC ++ [.string ⟨nm.toArray⟩, .bool b])) (hg : (w5.alloc O2).grownBy w6 (Value.slice oa i oc).ownBlock) :
    Below W.heap.size W w6 ∧ Told w6 W.heap.size (.slice (some ⟨g2, 0, none⟩) (i + 1) cap2) (L.take (i + 1)) := by
  have hs := hB.size
  have e1 : ((wr.alloc O1).drew).heap.size = wr.heap.size + 1 := by show (wr.alloc O1).heap.size = _; simp
  have hs5 := h5.size
  rw [e1] at hs5
  have hs2 := hg.size
  simp at hs2
  refine ⟨⟨hg.os.trans (h5.os.trans hB.os), hg.tape.trans (h5.tape.trans hB.tape), hg.output.trans (h5.output.trans hB.output), by omega, fun k hk => ?_⟩, ?_⟩
  · rw [hg.block k (by simp; omega) (fun e => by have := (ho.lt k e.symm).1; omega), heap_alloc_old _ _ (by omega), h5.block k (by rw [e1]; omega)]
    show (wr.alloc O1).heap[k]? = _
    rw [heap_alloc_old _ _ (by omega)]; exact hB.block k hk
  · have htl : (L.take i).length = i := by rw [List.length_take]; omega
    have := told_snoc (w1 := w6) (B := W.heap.size) hi (g := g2) (cap := cap2) (by rw [htl, hL]; exact hown)
    rw [htl] at this; exact this

set_option maxHeartbeats 16000000 in
set_option maxRecDepth 100000 in
theorem prules_any (s : ByteArray) (w : World) (hs : s.size ≤ maxLen) (hg : ErrLaid w) :
    Calls Tryz.prog 29 #[.string s] w fun e w' => Below w.heap.size w w' ∧ ∃ res, PAll s.data.toList res ∧ match res with
      | .ok (g, E) => ∃ v, e = .returned (.tuple #[v, .int .i64 0]) ∧ Told w' w.heap.size v (tellL (namesOf g) E)
      | .error (er, _) => er ≠ 0 ∧ e = .returned (.tuple #[.slice none 0 0, .int .i64 er]) := by
  have hrd := readAll_any s w hs
  have HG : Hid (ErrLaid w) := hg
  clear hg
  go_enter Tryz.func29, Tryz.ntmps29
  go_wp2_with fail
  refine hrd.mono ?_
  rintro e w1 ⟨res, hP, hb, hE⟩
  have HB : Hid (Below w.heap.size w w1) := hb
  have hs1 := hb.size
  have HP : Hid (PAll s.data.toList res) := hP
  clear hrd hP hb
  cases res with
  | error x =>
    obtain ⟨er, p⟩ := x
    have htd := fun O => told_fault er p (w1.alloc O) (HG.out.below (HB.out.alloc hs1 O))
    have h0 := HP.out.err0
    have h1 : ¬ (er : Int) = 0 := by omega
    simp only [faultV] at hE htd
    subst hE
    go_wp2_with fail
    refine (htd _).mono ?_
    rintro e w2 ⟨rfl, hb2⟩
    have HB2 : Hid (Below w.heap.size w w2) := (HB.out.alloc hs1 _).trans (hb2.mono (by simp; omega))
    clear htd hb2
    go_wp2_with fail
    go_ret2
    exact ⟨HB2.out, .error (er, p), HP.out, h0, rfl⟩
  | ok y =>
    obtain ⟨g, E⟩ := y
    obtain ⟨hg0, hgl, a, cp, mb, eb, rfl, hGr, hFa⟩ := hE
    have htd := fun O => told_nil (w1.alloc O)
    obtain ⟨i0, hi0, hz0, hz1, hz2⟩ := info_parts Tryz.infoARule
    have hgpos : 0 < g.length := List.length_pos_iff.2 hg0
    have hmlt := hFa.map.lt
    have helt := heap_lt hFa.emp
    have hEl : E.length = g.length := by rw [hFa.len]; simp [namesOf]
    have HGR := hideP hGr
    have HFA := hideP hFa
    clear hg0 hGr hFa
    simp only [factsV]
    go_wp2_with fail
    refine (htd _).mono ?_
    rintro e w2 ⟨rfl, hb2⟩
    have hb2' := hb2
    have hz2' := hb2.size
    simp at hz2'
    have hf2 : w2.heap[w1.heap.size]? = some (factsO mb eb g.length) := by rw [hb2.block _ (by simp)]; exact heap_alloc_same _ _
    have HB12 : Hid (Below w1.heap.size w1 w2) := (below_alloc _ _).trans (hb2.mono (by simp))
    have HB2 : Hid (Below w.heap.size w w2) := HB.out.trans (HB12.out.mono hs1)
    obtain ⟨cur, hcs, hmk⟩ := make_rules g.length hgl w2
    have HF2 := hideP hf2
    have HM0 : Hid (Told (w2.alloc (.cells cur 122)) w2.heap.size (.slice (some ⟨w2.heap.size, 0, none⟩) 0 g.length) ((tellL (namesOf g) E).take 0)) := World.ownsRow_made w2 cur g.length (Nat.le_refl _) (by unfold maxLen; omega) hcs
    clear htd hb2 hb2' hf2 hcs
    go_wp2_with fail
    go_loopg [9, 31] g.length (fun m vo vi wr => ∃ i : Nat, m = g.length - i ∧ vi = .int .i64 i ∧ i ≤ g.length ∧ Hid (Below w2.heap.size w2 wr ∧ Told wr w2.heap.size vo ((tellL (namesOf g) E).take i)))
    case atStart => exact ⟨0, by omega, rfl, by omega, below_alloc _ _, HM0.out⟩
    case round =>
      obtain ⟨i, rfl, rfl, hi, HI⟩ := hrel
      have hsr := HI.out.1.size
      have HB1r : Hid (Below w1.heap.size w1 wr) := HB12.out.trans (HI.out.1.mono (by omega))
      have hfr : wr.heap[w1.heap.size]? = some (factsO mb eb g.length) := by rw [HI.out.1.block _ (by omega)]; exact HF2.out
      have qf := cell_of_block hfr 1
      have hfl := heap_lt' hfr
      have HFR := hideP hfr
      clear hfr
      by_cases hlt : i < g.length
      · have hlt' : (i : Int) < g.length := by omega
        have hig : i < (tellL (namesOf g) E).length := by
          have h1 : (namesOf g).length = g.length := by simp [namesOf]
          simp [tellL, h1, hEl]; exact hlt
        obtain ⟨nm, hnm⟩ : ∃ nm, nm = g[i].name := ⟨_, rfl⟩
        obtain ⟨b, hb⟩ : ∃ b, b = E.getD i false := ⟨_, rfl⟩
        have hLi : (tellL (namesOf g) E)[i] = (nm, b) := by
          have h1 : (namesOf g)[i]? = some nm := by simp [namesOf, hlt, hnm]
          have h2 : E[i]? = some b := by rw [hb, List.getD_eq_getElem?_getD, List.getElem?_eq_getElem (by omega)]; rfl
          have h3 : (tellL (namesOf g) E)[i]? = some (nm, b) := by
            unfold tellL
            rw [List.getElem?_zip_eq_some]
            exact ⟨h1, h2⟩
          rw [List.getElem?_eq_getElem hig] at h3
          exact Option.some.inj h3
        obtain ⟨gb, ca, cc, rfl, hgbl, _, c0, c1, _, hnl⟩ := HGR.out.at i hlt
        have hbg : wr.heap[gb]? = w1.heap[gb]? := HB1r.out.block _ hgbl
        have hbe : wr.heap[eb]? = w1.heap[eb]? := HB1r.out.block _ helt
        have c0' : wr.cell? ⟨gb, i * 2, none⟩ = some (.string ⟨nm.toArray⟩) := by rw [World.cell?_of_block (a := ⟨gb, _, none⟩) hbg, hnm]; exact c0
        have c1' : wr.cell? ⟨gb, i * 2 + 1, none⟩ = some (.slice ca g[i].choice.length cc) := by rw [World.cell?_of_block (a := ⟨gb, _, none⟩) hbg]; exact c1
        have e0 : wr.cell? ⟨eb, i, none⟩ = some (.bool b) := by
          rw [World.cell?_of_block (a := ⟨eb, _, none⟩) hbe, hb]
          exact HFA.out.cell i (by simp [namesOf]; exact hlt)
        obtain ⟨oa, oc, hvo⟩ := own_form HI.out.2
        have htl : (List.take i (tellL (namesOf g) E)).length = i := by rw [List.length_take]; omega
        rw [htl] at hvo
        subst hvo
        have HOWN : Hid (wr.ownsRow w2.heap.size 122 2 (.slice oa i oc) i ((List.take i (tellL (namesOf g) E)).flatMap aruC)) := by
          have := HI.out.2
          unfold Told at this
          rw [htl] at this; exact this
        have HLI := hideP hLi
        have HNL : Hid ((ByteArray.mk nm.toArray).size ≤ 100000) := by
          show nm.toArray.size ≤ _
          rw [hnm]; simp; omega
        have hcl := clone_any ⟨nm.toArray⟩ ((wr.alloc (.cells #[.string ⟨nm.toArray⟩, .slice ca g[i].choice.length cc] 113)).drew) HNL.out
        have HCL := hideP hcl
        have HN1 : Hid (some wr.heap.size ≠ (Value.slice oa i oc).ownBlock) := fun e => Nat.lt_irrefl _ (HOWN.out.lt _ e.symm).2
        have HN2 : Hid (some w1.heap.size ≠ (Value.slice oa i oc).ownBlock) := fun e => by have := (HOWN.out.lt _ e.symm).1; omega
        have HN3 : Hid (some eb ≠ (Value.slice oa i oc).ownBlock) := fun e => by have := (HOWN.out.lt _ e.symm).1; omega
        obtain ⟨X, hX⟩ : ∃ X, X = (wr.alloc (.cells #[.string ⟨nm.toArray⟩, .slice ca g[i].choice.length cc] 113)).drew := ⟨_, rfl⟩
        have hXs : X.heap.size = wr.heap.size + 1 := by rw [hX]; show (wr.alloc _).heap.size = _; simp
        have HS1 : Hid (wr.heap.size < X.heap.size) := by show _ < _; omega
        have HS2 : Hid (w1.heap.size < X.heap.size) := by show _ < _; omega
        have HS3 : Hid (eb < X.heap.size) := by show _ < _; omega
        have HS1a : Hid (X.cell? ⟨wr.heap.size, 0, none⟩ = some (.string ⟨nm.toArray⟩)) := by
          show X.cell? _ = _
          rw [hX]; exact (cell_of_block (heap_alloc_same wr _) 0)
        have HS2a : Hid (X.cell? ⟨w1.heap.size, 1, none⟩ = some (.slice (some ⟨eb, 0, none⟩) g.length g.length)) := by
          show X.cell? _ = _
          rw [hX]; show (wr.alloc _).cell? _ = _
          rw [World.cell?_alloc_lt _ _ _ (by show w1.heap.size < _; omega)]; exact qf
        have HS3a : Hid (X.cell? ⟨eb, i, none⟩ = some (.bool b)) := by
          show X.cell? _ = _
          rw [hX]; show (wr.alloc _).cell? _ = _
          rw [World.cell?_alloc_lt _ _ _ (by show eb < _; omega)]; exact e0
        have HOWNX : Hid (X.ownsRow w2.heap.size 122 2 (.slice oa i oc) i ((List.take i (tellL (namesOf g) E)).flatMap aruC)) := by rw [hX]; exact HOWN.out.alloc _
        rw [hX] at HS1 HS2 HS3 HS1a HS2a HS3a HOWNX hXs
        clear hcl hX
        have H1 : Hid (∀ u ∈ [Value.string ⟨nm.toArray⟩, .bool b], u.oneCell' = true) := by
          intro u hu; simp at hu; rcases hu with rfl | rfl <;> rfl
        have HML : Hid (i + 1 ≤ maxLen) := by show _ ≤ _; unfold maxLen; omega
        have hel2 : eb < wr.heap.size := by omega
        have hng : g[i].choice.length = g[i].choice.length := rfl
        clear c0 c1 hb hnm hLi htl hbg hbe hnl hng
        go_wp2_with fail
        go_region_held_law (fun w' => w'.cell? ⟨wr.heap.size, 0, none⟩ = some (.string ⟨nm.toArray⟩) ∧ w'.cell? ⟨w1.heap.size, 1, none⟩ = some (.slice (some ⟨eb, 0, none⟩) g.length g.length) ∧ w'.cell? ⟨eb, i, none⟩ = some (.bool b)) (go_keep)
          (first
            | (go_at_call 52; refine HCL.out.mono ?_; rintro _ w5 ⟨rfl, hb5⟩; have hz5 := hb5.size; have s1 := (hb5.cell (p := ⟨wr.heap.size, 0, none⟩) HS1.out).trans HS1a.out; have s2 := (hb5.cell (p := ⟨w1.heap.size, 1, none⟩) HS2.out).trans HS2a.out; have s3 := (hb5.cell (p := ⟨eb, i, none⟩) HS3.out).trans HS3a.out; have HOWN5 := hideP (own_below HOWNX.out hb5); have HB5 := hideP hb5; clear hb5)
            | (refine step_append_lies _ (by rfl) _ _ _ (by rfl) w2.heap.size 122 i0 _ 2 24 Tryz.underlying76 hi0 hz0 hz1 hz2 (by rfl) (by decide) _ _ _ (by rfl) (HOWN5.out.alloc _) ⟨w5.heap.size, 0, none⟩ 1 1 [.string ⟨nm.toArray⟩, .bool b] (by rfl) (by rfl) (World.news_of_block (heap_alloc_same w5 _)) H1.out (by decide) HML.out (by omega) (by simp; omega) (w5.heap.size + 1) (by simp) ?_; intro g2 cap2 w6 hown1 hgrow hat hlt2; have t1 := grown_cell hgrow s1 HN1.out; have t2 := grown_cell hgrow s2 HN2.out; have t3 := grown_cell hgrow s3 HN3.out; have HA := hideP (pu_next HI.out.1 HOWN.out hig HLI.out HB5.out hown1 hgrow); clear hown1 hgrow hat))
        all_goals go_wp2_with fail
        all_goals
          go_roundg (g.length - (i + 1))
          case measure => omega
          case rel => exact ⟨i + 1, rfl, by go_num, by omega, HA⟩
      · have hlt' : ¬ (i : Int) < g.length := by omega
        have hll : (tellL (namesOf g) E).length ≤ i := by
          have h1 : (namesOf g).length = g.length := by simp [namesOf]
          simp [tellL, h1]; omega
        have hfin : Told wr w2.heap.size u9 (tellL (namesOf g) E) := by
          have := HI.out.2
          rw [List.take_of_length_le hll] at this; exact this
        have HF := hideP (own_mono hfin (show w.heap.size ≤ w2.heap.size by omega))
        have HBF : Hid (Below w.heap.size w wr) := HB2.out.trans (HI.out.1.mono (by omega))
        clear hfin hll
        go_wp2_with fail
        go_ret2
        exact ⟨HBF.out, .ok (g, E), HP.out, _, rfl, HF.out⟩
end Go.Proofs.YtkbepcjgadkfaaaGreatDoor
