import Derived.Test.YtjmcdklhaieldaaGreatDoorQC
import Derived.Deep.RegionHeld
import Derived.Test.YtjmcdklhaieldaaGreatDoorPE
import Derived.Test.YtjmcdklhaieldaaGreatDoorTE
set_option linter.all false
namespace Go.Proofs.YtjmcdklhaieldaaGreatDoor
open Go.RowKit
attribute [local go_sem ↓] Go.wp_at_zero Go.wp_at_succ

abbrev ruleO (nm : Thk.Bytes) (ca : Option Addr) (cl cc : Nat) : Obj := .cells #[.string ⟨nm.toArray⟩, .slice ca cl cc] 119 (0, 0)

set_option maxHeartbeats 16000000 in
set_option maxRecDepth 100000 in
theorem plainText_any (w : World) (A : Nat → Prop) (g : List Thk.Rule) (ga : Addr) (gc : Nat) (h : RGram w A g (.slice (some ga) g.length gc)) (hok : GOk g) (hl : g.length ≤ 20) :
    Calls Tryz.prog 30 #[.slice (some ga) g.length gc] w fun e w' => e = .returned (.string ⟨(prG g).toArray⟩) ∧ Below w.heap.size w w' := by
  have HG := hideP h
  have HOK := hideP hok
  have HS : Hid (BldF w.heap.size w.heap.size (prG (g.take 0)) (w.alloc (.cells #[.pointer none, .slice none 0 0] 115)) ∧ Below w.heap.size w (w.alloc (.cells #[.pointer none, .slice none 0 0] 115))) := ⟨bldF_new w, below_alloc _ _⟩
  clear h hok
  go_enter Tryz.func30, Tryz.ntmps30
  go_wp2_with fail
  go_loopg [8] g.length (fun m v wr => ∃ i : Nat, m = g.length - i ∧ v = .int .i64 i ∧ i ≤ g.length ∧ Hid (BldF w.heap.size w.heap.size (prG (g.take i)) wr ∧ Below w.heap.size w wr))
  case atStart => exact ⟨0, by omega, rfl, by omega, HS⟩
  case round =>
    obtain ⟨i, rfl, rfl, hi, HI⟩ := hrel
    have hsr := HI.out.2.size
    have hbl := HI.out.1.lt
    by_cases hlt : i < g.length
    · have hlt' : (i : Int) < g.length := by omega
      obtain ⟨gb, ca, cc, rfl, hgbl, _, c0, c1, hch, hnl⟩ := HG.out.at i hlt
      have hgi := HOK.out g[i] (List.getElem_mem hlt)
      have c0' : wr.cell? ⟨gb, i * 2, none⟩ = some (.string ⟨g[i].name.toArray⟩) := by rw [HI.out.2.cell (p := ⟨gb, _, none⟩) hgbl]; exact c0
      have c1' : wr.cell? ⟨gb, i * 2 + 1, none⟩ = some (.slice ca g[i].choice.length cc) := by rw [HI.out.2.cell (p := ⟨gb, _, none⟩) hgbl]; exact c1
      have hct := fun (W : World) (hb : Below w.heap.size w W) => choiceText_any W A g[i].choice _ (hch.kept (sm_below hb)) hgi.1
      have hsn := prG_snoc hlt
      have hl2 := prG_take HOK.out hl i
      have hl1 := prR_len hgi
      have hn20 := hgi.2
      have hprR : prR g[i] = ((g[i].name ++ [32, 60, 45, 32]) ++ Thk.prC g[i].choice) ++ [10] := rfl
      rw [hprR] at hsn hl1
      generalize g[i].name = nm at *
      generalize Thk.prC g[i].choice = bd at *
      generalize g[i].choice.length = cl at *
      have a1 : ∀ W : World, (Op.stringOp .add ⟨nm.toArray⟩ ⟨#[32, 60, 45, 32]⟩).run Tryz.prog W = .ok (.string ⟨(nm ++ [32, 60, 45, 32]).toArray⟩) W := fun W => bcat nm [32, 60, 45, 32] (by simp; omega) W
      have a2 : ∀ W : World, (Op.stringOp .add ⟨(nm ++ [32, 60, 45, 32]).toArray⟩ ⟨bd.toArray⟩).run Tryz.prog W = .ok (.string ⟨((nm ++ [32, 60, 45, 32]) ++ bd).toArray⟩) W := fun W => bcat _ bd (by simp; omega) W
      have a3 : ∀ W : World, (Op.stringOp .add ⟨((nm ++ [32, 60, 45, 32]) ++ bd).toArray⟩ ⟨#[10]⟩).run Tryz.prog W = .ok (.string ⟨(((nm ++ [32, 60, 45, 32]) ++ bd) ++ [10]).toArray⟩) W := fun W => bcat _ [10] (by simp; omega) W
      generalize ((nm ++ [32, 60, 45, 32]) ++ bd) ++ [10] = Z at *
      generalize (nm ++ [32, 60, 45, 32]) ++ bd = Y at *
      generalize nm ++ [32, 60, 45, 32] = V at *
      have hbw := fun (W : World) (hb : BldF w.heap.size w.heap.size (prG (g.take i)) W) (hB : w.heap.size ≤ W.heap.size) => bwriteF w.heap.size w.heap.size (prG (g.take i)) ⟨Z.toArray⟩ W hb (by rw [mk_size]; omega) hB
      rw [show (ByteArray.mk Z.toArray).data.toList = Z from by simp] at hbw
      obtain ⟨X, hX⟩ : ∃ X, X = wr.alloc (.cells #[.string ⟨nm.toArray⟩, .slice ca cl cc] 119) := ⟨_, rfl⟩
      have hXb : Below wr.heap.size wr X := by rw [hX]; exact below_alloc _ _
      have HO : Hid (X.heap[wr.heap.size]? = some (ruleO nm ca cl cc)) := by rw [hX]; exact heap_alloc_same _ _
      have s0 : X.cell? ⟨wr.heap.size, 0, none⟩ = some (.string ⟨nm.toArray⟩) := cell_of_block HO.out 0
      have s1 : X.cell? ⟨wr.heap.size, 1, none⟩ = some (.slice ca cl cc) := cell_of_block HO.out 1
      have hXl : wr.heap.size < X.heap.size := heap_lt' HO.out
      have HB := hideP (HI.out.2.trans (hXb.mono hsr))
      have HBL := hideP (HI.out.1.below hXb)
      have HCT := hideP hct
      have HBW := hideP hbw
      have HSN := hideP hsn
      have HNE : Hid (some wr.heap.size ≠ some w.heap.size) := fun e => by have := Option.some.inj e; omega
      have HNT : Hid (∀ (c : Array Value) (fz : Nat × Nat), ruleO nm ca cl cc ≠ .cells c 5 fz) := fun c fz e => by cases e
      clear hct hbw hsn hl1 hl2 hn20 hprR hgi hch c0 c1 hnl hXb
      go_wp2_with fail
      rw [← hX]
      clear hX
      go_region_held (fun w' => w'.cell? ⟨wr.heap.size, 0, none⟩ = some (.string ⟨nm.toArray⟩) ∧ w'.cell? ⟨wr.heap.size, 1, none⟩ = some (.slice ca cl cc)) (go_keep)
        (first
          | (go_at_call 56; refine (HCT.out X.drew HB.out.drew).mono ?_; rintro _ wn ⟨rfl, hb⟩; replace HO : Hid (wn.heap[wr.heap.size]? = some (ruleO nm ca cl cc)) := (hb.block _ hXl).trans HO.out; replace s0 : wn.cell? ⟨wr.heap.size, 0, none⟩ = some (.string ⟨nm.toArray⟩) := cell_of_block HO.out 0; replace s1 : wn.cell? ⟨wr.heap.size, 1, none⟩ = some (.slice ca cl cc) := cell_of_block HO.out 1; replace HB := hideP (HB.out.drew.trans (hb.mono (Nat.le_trans hsr (Nat.le_of_lt hXl)))); replace HBL := hideP (BldF.below (w := X.drew) HBL.out hb); clear hb)
          | (go_at_call 55; refine (HBW.out _ HBL.out HB.out.size).mono ?_; rintro _ wz ⟨rfl, hbz, hbz2, hbz3⟩; replace HO : Hid (wz.heap[wr.heap.size]? = some (ruleO nm ca cl cc)) := hbz3 _ _ HO.out HNE.out HNT.out; replace s0 : wz.cell? ⟨wr.heap.size, 0, none⟩ = some (.string ⟨nm.toArray⟩) := cell_of_block HO.out 0; replace s1 : wz.cell? ⟨wr.heap.size, 1, none⟩ = some (.slice ca cl cc) := cell_of_block HO.out 1; have HBZ := hideP hbz; have HBB := hideP (HB.out.trans hbz2); clear hbz hbz2 hbz3))
      all_goals go_wp2_with fail
      all_goals
        go_roundg (g.length - (i + 1))
        case measure => omega
        case rel => exact ⟨i + 1, rfl, by go_num, by omega, by rw [HSN.out]; exact ⟨HBZ.out, HBB.out⟩⟩
    · have hlt' : ¬ (i : Int) < g.length := by omega
      have htk : g.take i = g := List.take_of_length_le (by omega)
      have hbl2 := HI.out.1
      rw [htk] at hbl2
      have hst := bstringF w.heap.size w.heap.size _ wr hbl2 hsr
      have HST := hideP hst
      clear hst htk hbl2
      go_wp2_with fail
      refine HST.out.mono ?_
      rintro _ w6 ⟨rfl, hb6⟩
      have HB6 := hideP (HI.out.2.trans hb6)
      clear hb6
      go_wp2_with fail
      go_ret
      exact ⟨rfl, HB6.out⟩
end Go.Proofs.YtjmcdklhaieldaaGreatDoor
namespace Go.Proofs.YtjmcdklhaieldaaGreatDoor
open Go.RowKit
attribute [local go_sem ↓] Go.wp_at_zero Go.wp_at_succ

theorem PAll.errNe {l : List UInt8} {er p : Nat} (h : PAll l (.error (er, p))) : er ≠ 0 := by
  cases h with
  | text h => exact read_err0 h
  | rules _ h => cases h <;> simp

set_option maxHeartbeats 16000000 in
set_option maxRecDepth 100000 in
theorem pprint_any (s : ByteArray) (w : World) (hs : s.size ≤ maxLen) (hg : ErrLaid w) :
    Calls Tryz.prog 14 #[.string s] w fun e w' => Below w.heap.size w w' ∧ ∃ res, PAll s.data.toList res ∧ match res with
      | .ok (g, _) => e = .returned (.tuple #[.string ⟨(prG g).toArray⟩, .int .i64 0])
      | .error (er, _) => e = .returned (.tuple #[.string ⟨#[]⟩, .int .i64 er]) := by
  have hrd := readAll_any s w hs
  have HG : Hid (ErrLaid w) := hg
  clear hg
  go_enter Tryz.func14, Tryz.ntmps14
  go_wp2_with fail
  refine hrd.mono ?_
  rintro e w1 ⟨res, hP, hb, hE⟩
  have HB : Hid (Below w.heap.size w w1) := hb
  have hs1 := hb.size
  have HP : Hid (PAll s.data.toList res) := hP
  clear hrd hP hb
  cases res with
  | error x =>
    obtain ⟨er, p⟩ := x
    have htd := fun O => told_fault er p (w1.alloc O) (HG.out.below (HB.out.alloc hs1 O))
    have h0 := HP.out.errNe
    have h1 : ¬ (er : Int) = 0 := by omega
    simp only [faultV] at hE htd
    subst hE
    go_wp2_with fail
    refine (htd _).mono ?_
    rintro e w2 ⟨rfl, hb2⟩
    have HB2 : Hid (Below w.heap.size w w2) := (HB.out.alloc hs1 _).trans (hb2.mono (by simp; omega))
    clear htd hb2
    go_wp2_with fail
    go_ret2
    exact ⟨HB2.out, .error (er, p), HP.out, rfl⟩
  | ok y =>
    obtain ⟨g, E⟩ := y
    obtain ⟨hg0, hgl, a, cp, mb, eb, rfl, hGr, hFa⟩ := hE
    have htd := fun O => told_nil (w1.alloc O)
    have hpt := fun (W : World) (hb : Below w1.heap.size w1 W) => plainText_any W (w.heap.size ≤ ·) g a cp (hGr.kept (sm_below hb)) HP.out.gok hgl
    have HPT := hideP hpt
    clear hg0 hGr hFa hpt
    simp only [factsV]
    go_wp2_with fail
    refine (htd _).mono ?_
    rintro e w2 ⟨rfl, hb2⟩
    have hz2' := hb2.size
    simp at hz2'
    have HB12 : Hid (Below w1.heap.size w1 w2) := (below_alloc _ _).trans (hb2.mono (by simp))
    have HB2 : Hid (Below w.heap.size w w2) := HB.out.trans (HB12.out.mono hs1)
    clear htd hb2
    go_wp2_with fail
    refine (HPT.out w2 HB12.out).mono ?_
    rintro _ w3 ⟨rfl, hb3⟩
    have HB3 := hideP (HB2.out.trans (hb3.mono HB2.out.size))
    clear hb3
    go_wp2_with fail
    go_ret2
    exact ⟨HB3.out, .ok (g, E), HP.out, rfl⟩

set_option maxHeartbeats 4000000 in
theorem prints_any (s : ByteArray) (w : World) (hs : s.size ≤ maxLen) (hg : ErrLaid w) : Calls Tryz.prog 4 #[.string s] w fun e w' => e = .returned (.bool true) ∧ Below w.heap.size w w' := by
  have hck := pprint_any s w hs hg
  have HG := hideP hg
  clear hg
  go_enter Tryz.func4, Tryz.ntmps4
  go_wp2_with fail
  refine hck.mono ?_
  rintro e w1 ⟨hb, res, hP, hE⟩
  obtain ⟨r, hr⟩ : ∃ r, PRead s.data.toList r := by
    cases hP with
    | text h => exact ⟨_, h⟩
    | rules h _ => exact ⟨_, h⟩
    | ok h _ => exact ⟨_, h⟩
  have hrc := rprint_any s w1 hs r hr
  have HB := hideP hb
  have HP := hideP hP
  clear hck hb hP hr
  cases res with
  | error x =>
    obtain ⟨er, p⟩ := x
    simp only [] at hE
    subst hE
    go_wp2_with fail
    refine hrc.mono ?_
    rintro e2 w2 ⟨hb2, res2, hP2, hE2⟩
    have := HP.out.det hP2
    subst this
    simp only [] at hE2
    obtain ⟨_, hE2⟩ := hE2
    subst hE2
    have hb3 : Below w.heap.size w w2 := HB.out.trans (hb2.mono HB.out.size)
    have hkn := known_any w2 (HG.out.below hb3)
    have HB3 := hideP hb3
    clear hrc hP2 hb2 hb3
    go_wp2_with fail
    refine hkn.mono ?_
    rintro _ w4 ⟨rfl, hb4⟩
    have HB4 := hideP (HB3.out.trans (hb4.mono HB3.out.size))
    clear hkn hb4
    go_wp2_with fail
    go_ret
    exact ⟨by simp, HB4.out⟩
  | ok x =>
    obtain ⟨g, E⟩ := x
    simp only [] at hE
    subst hE
    go_wp2_with fail
    refine hrc.mono ?_
    rintro e2 w2 ⟨hb2, res2, hP2, hE2⟩
    have := HP.out.det hP2
    subst this
    simp only [] at hE2
    subst hE2
    have hb3 : Below w.heap.size w w2 := HB.out.trans (hb2.mono HB.out.size)
    have hkn := known_any w2 (HG.out.below hb3)
    have HB3 := hideP hb3
    clear hrc hP2 hb2 hb3
    generalize prG g = Z at *
    go_wp2_with fail
    refine hkn.mono ?_
    rintro _ w4 ⟨rfl, hb4⟩
    have HB4 := hideP (HB3.out.trans (hb4.mono HB3.out.size))
    clear hkn hb4
    go_wp2_with fail
    go_ret
    exact ⟨by simp, HB4.out⟩
end Go.Proofs.YtjmcdklhaieldaaGreatDoor
