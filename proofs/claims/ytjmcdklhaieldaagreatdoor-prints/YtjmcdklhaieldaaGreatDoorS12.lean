import Derived.Test.YtjmcdklhaieldaaGreatDoorSC
import Derived.Deep.OwnRows
set_option linter.all false
namespace Go.Proofs.YtjmcdklhaieldaaGreatDoor
open Go.RowKit Go.WideMaps Go.Maps Go.Deep

theorem Tryz.infoBool : (Tryz.prog.info? 4).map (fun i => (i.zero, i.size, i.bytes)) = some (some (.bool false), 1, 1) := by kernel_rfl
theorem Tryz.infoBools : (Tryz.prog.info? 62).map (fun i => (i.zero, i.size, i.bytes)) = some (some (.slice none 0 0), 1, 24) := by kernel_rfl

def rowsO (rbs : List Nat) (N : Nat) : Obj := .cells (rbs.map (rowV · N) ++ List.replicate (N - rbs.length) (Value.slice none 0 0)).toArray 62 (0, 0)

theorem make_bools (n : Nat) (hn : n ≤ 20) (w : World) : (Instr.makeSlice 62 (.int .i64 n) (.int .i64 n)).run Tryz.prog w = .ok (.slice (some ⟨w.heap.size, 0, none⟩) n n) (w.alloc (boolsO (List.replicate n false))) := by
  rw [run_make_row' 62 4 (.bool false) 1 Tryz.underlying62 Tryz.infoBool rfl .i64 .i64 n (by omega) (by omega) w]
  congr 3
  apply Array.toList_inj.1
  rw [toList_madeCells_one]; simp
theorem make_rows (n : Nat) (hn : n ≤ 20) (w : World) : (Instr.makeSlice 225 (.int .i64 n) (.int .i64 n)).run Tryz.prog w = .ok (.slice (some ⟨w.heap.size, 0, none⟩) n n) (w.alloc (rowsO [] n)) := by
  rw [run_make_row' 225 62 (.slice none 0 0) 24 Tryz.underlying225 Tryz.infoBools rfl .i64 .i64 n (by omega) (by omega) w]
  congr 3
  apply Array.toList_inj.1
  rw [toList_madeCells_one]; simp

/-- Which rules a rule comes first to, by its own names. -/
def dirM (names : List Thk.Bytes) (E : List Bool) (g : List Thk.Rule) : Mat := fun i j => (markL names (List.replicate names.length false) (Thk.firstC (Eb names E) ((g[i]?.map (·.choice)).getD []))).getD j false

theorem row_dir (names : List Thk.Bytes) (E : List Bool) (g : List Thk.Rule) (i : Nat) (hi : i < g.length) : markL names (List.replicate names.length false) (Thk.firstC (Eb names E) g[i].choice) = rowL names.length (dirM names E g i) := by
  apply List.ext_getElem
  · rw [markL_len, rowL_len]; simp
  · intro j h1 h2
    simp only [rowL, List.getElem_map, List.getElem_range, dirM, hi, List.getElem?_eq_getElem, Option.map_some, Option.getD_some]
    rw [List.getD_eq_getElem?_getD, List.getElem?_eq_getElem h1]; rfl

structure ClRel (W : World) (xb N : Nat) (rbs : List Nat) (M : Mat) (wr : World) : Prop where
  kp : Kp xb W.heap.size W wr
  rows : wr.heap[xb]? = some (rowsO rbs N)
  row : ∀ i (h : i < rbs.length), wr.heap[rbs[i]]? = some (boolsO (rowL N (M i)))
  nodup : rbs.Nodup
  new : ∀ b ∈ rbs, W.heap.size ≤ b

theorem rowsO_cell {w : World} {xb N : Nat} {rbs : List Nat} (h : w.heap[xb]? = some (rowsO rbs N)) (hl : rbs.length < N) : w.cell? ⟨xb, rbs.length, none⟩ = some (.slice none 0 0) := by
  rw [cell_of_block h]
  have : 0 < N - rbs.length := by omega
  simp [this]

theorem rowsO_set (rbs : List Nat) (N b : Nat) (hl : rbs.length < N) : Obj.cells ((rbs.map (rowV · N) ++ List.replicate (N - rbs.length) (Value.slice none 0 0)).toArray.setIfInBounds rbs.length (rowV b N)) 62 (0, 0) = rowsO (rbs ++ [b]) N := by
  unfold rowsO
  congr 1
  apply Array.toList_inj.1
  simp only [Array.toList_setIfInBounds]
  rw [List.set_append_right _ _ (by simp)]
  simp only [List.length_map, Nat.sub_self, List.map_append, List.map_cons, List.map_nil, List.append_assoc, List.length_append, List.length_cons, List.length_nil]
  congr 1
  rw [show N - rbs.length = (N - (rbs.length + 1)) + 1 from by omega, List.replicate_succ]
  simp

theorem heap_alloc_at (w : World) (o : Obj) (b : Nat) (hb : b = w.heap.size) : (w.alloc o).heap[b]? = some o := by rw [hb]; exact heap_alloc_same _ _

theorem FactsAt.blocks {w w' : World} {mb eb : Nat} {names : List Thk.Bytes} {E : List Bool} (h : FactsAt w mb eb names E) (h1 : w'.heap[mb]? = w.heap[mb]?) (h2 : w'.heap[eb]? = w.heap[eb]?) : FactsAt w' mb eb names E :=
  ⟨h.map.same h1, by rw [h2]; exact h.emp, h.len, h.pos, h.le⟩

theorem ClRel.next {W : World} {xb N : Nat} {rbs : List Nat} {M : Mat} {wr X w5 : World} (h : ClRel W xb N rbs M wr) (hxb : xb < W.heap.size) (hKX : Kp xb wr.heap.size wr X) (hXs : wr.heap.size + 1 < X.heap.size) (hX : X.heap[xb]? = some (rowsO (rbs ++ [wr.heap.size + 1]) N))
    (hk : Kp (wr.heap.size + 1) X.drew.heap.size X.drew w5) (hf : w5.heap[wr.heap.size + 1]? = some (boolsO (rowL N (M rbs.length)))) : ClRel W xb N (rbs ++ [wr.heap.size + 1]) M w5 := by
  have hs := h.kp.size
  have hlt : ∀ b ∈ rbs, b < wr.heap.size := by
    intro b hb
    obtain ⟨i, hi, rfl⟩ := List.getElem_of_mem hb
    exact heap_lt (h.row i hi)
  have hb5 : ∀ k, k < wr.heap.size → k ≠ xb → w5.heap[k]? = wr.heap[k]? := by
    intro k h1 h2
    rw [hk.block k (by show k < X.heap.size; omega) (by omega)]
    exact hKX.block k h1 h2
  refine ⟨?_, ?_, ?_, ?_, ?_⟩
  · refine h.kp.trans ⟨hk.os.trans hKX.os, hk.tape.trans hKX.tape, hk.output.trans hKX.output, Nat.le_trans hKX.size hk.size, fun k h1 h2 => hb5 k (by omega) h2⟩
  · rw [hk.block xb (by show xb < X.heap.size; omega) (by omega)]; exact hX
  · intro i hi
    rw [List.length_append] at hi
    by_cases h1 : i < rbs.length
    · rw [List.getElem_append_left h1]
      have hm := List.getElem_mem h1
      rw [hb5 _ (hlt _ hm) (by have := h.new _ hm; omega)]
      exact h.row i h1
    · have h2 : i = rbs.length := by simp at hi; omega
      subst h2
      simp
      exact hf
  · rw [List.nodup_append]
    refine ⟨h.nodup, by simp, ?_⟩
    intro a ha b hb
    simp at hb
    have := hlt a ha
    omega
  · intro b hb
    rcases List.mem_append.1 hb with hb | hb
    · exact h.new b hb
    · simp at hb; omega

set_option maxHeartbeats 8000000 in
set_option maxRecDepth 100000 in
theorem checkLeft_any (w : World) (mb eb : Nat) (names : List Thk.Bytes) (E : List Bool) (A : Nat → Prop) (g : List Thk.Rule) (ga : Addr) (gc : Nat) (hF : FactsAt w mb eb names E) (hG : RGram w A g (.slice (some ga) g.length gc)) (hA : ∀ b, A b → b < w.heap.size) (hgn : g.length = names.length) :
    Calls Tryz.prog 74 #[factsV mb eb names.length, .slice (some ga) g.length gc] w fun e w' =>
      Below w.heap.size w w' ∧ ∃ o, e = .returned (faultO 8 o) ∧ (match o with
        | none => ∀ i, i < g.length → Wm (dirM names E g) g.length i i = false
        | some i => i < g.length ∧ Wm (dirM names E g) g.length i i = true ∧ ∀ t, t < i → Wm (dirM names E g) g.length t t = false) := by
  have hle := hF.le
  have hpos := hF.pos
  have hgl : g.length ≤ 20 := by omega
  obtain ⟨W, hW⟩ : ∃ W, W = (w.alloc (factsO mb eb names.length)).alloc (rowsO [] g.length) := ⟨_, rfl⟩
  have hB0 : Below w.heap.size w W := by rw [hW]; exact (below_alloc _ _).alloc (by simp) _
  have hWsz : W.heap.size = w.heap.size + 2 := by rw [hW]; simp
  have hbox : W.heap[w.heap.size]? = some (factsO mb eb names.length) := by rw [hW, heap_alloc_old _ _ (by simp)]; exact heap_alloc_same _ _
  have hxb : W.heap[w.heap.size + 1]? = some (rowsO [] g.length) := by
    rw [hW, show w.heap.size + 1 = (w.alloc (factsO mb eb names.length)).heap.size from by simp]; exact heap_alloc_same _ _
  have HF : Hid (FactsAt W mb eb names E) := hF.below hB0
  have HG : Hid (RGram W A g (.slice (some ga) g.length gc)) := hG.kept (sm_below hB0)
  have HA : Hid (∀ b, A b → b < w.heap.size) := hA
  have HB0 : Hid (Below w.heap.size w W) := hB0
  have HGN : Hid (g.length = names.length) := hgn
  have HX : Hid (W.heap[w.heap.size + 1]? = some (rowsO [] g.length)) := hxb
  have hmk1 := make_rows g.length hgl
  have hmk2 := make_bools g.length hgl
  have hebl : eb < w.heap.size := heap_lt hF.emp
  have hmbl : mb < w.heap.size := hF.map.lt
  clear hF hG hB0 hA hgn hxb
  simp only [factsV]
  go_enter Tryz.func74, Tryz.ntmps74
  go_wp2_with fail
  rw [← hW]
  clear hmk1
  go_loopg [14] g.length (fun m i wr => ∃ (j : Nat) (rbs : List Nat), m = g.length - j ∧ rbs.length = j ∧ j ≤ g.length ∧ i = .int .i64 j ∧ ClRel W (w.heap.size + 1) g.length rbs (dirM names E g) wr)
  case atStart => exact ⟨0, [], rfl, rfl, Nat.zero_le _, rfl, Kp.refl _ _ _, HX.out, by simp, List.nodup_nil, by simp⟩
  case round =>
    obtain ⟨j, rbs, rfl, hrl, hj, rfl, hR⟩ := hrel
    have HR : Hid (ClRel W (w.heap.size + 1) g.length rbs (dirM names E g) wr) := hR
    have HRL : Hid (rbs.length = j) := hrl
    have hszr := hR.kp.size
    have hbx0 : wr.heap[w.heap.size]? = some (factsO mb eb names.length) := by rw [hR.kp.block _ (by omega) (by omega)]; exact hbox
    have hbx := cell_of_block hbx0
    clear hR hbx0 hrl
    by_cases hlt : j < g.length
    · have hSm : Sm A W wr := by
        refine ⟨fun u l hl => own_blocks hl (fun b hb => HR.out.kp.block b (hl.lt b hb).2 ?_), fun b hb ha => HR.out.kp.block b hb (by have := HA.out b ha; omega)⟩
        intro e; subst e
        obtain ⟨cur, h1⟩ := own_block_type hl hb
        rw [HX.out] at h1
        simp [rowsO] at h1
      have hGr : RGram wr A g (.slice (some ga) g.length gc) := HG.out.kept hSm
      obtain ⟨gb, a, c, rfl, hgb, hAgb, c0, c1, hCh, hnm⟩ := hGr.at j hlt
      have hlt' : (j : Int) < g.length := by omega
      have hxc : wr.cell? ⟨w.heap.size + 1, j, none⟩ = some (.slice none 0 0) := by
        have := rowsO_cell HR.out.rows (by rw [HRL.out]; exact hlt)
        rw [HRL.out] at this; exact this
      have hxf := frozen_of_block HR.out.rows j
      have hgbl := HA.out gb hAgb
      have hw9 : w.heap.size < wr.heap.size := by omega
      have hw10 : w.heap.size + 1 < wr.heap.size := by omega
      clear hGr hnm
      go_wp2_with fail
      obtain ⟨X, hX⟩ : ∃ X, X = (((wr.setCell ⟨w.heap.size + 1, j, none⟩ (.slice (some ⟨wr.heap.size + 1, 0, none⟩) g.length g.length)).alloc (.cells #[.string ⟨List.toArray g[j].name⟩, .slice a g[j].choice.length c] 119)).alloc (boolsO (List.replicate g.length false))) := ⟨_, rfl⟩
      have hXsz : X.heap.size = wr.heap.size + 2 := by rw [hX]; simp
      have hKX : Kp (w.heap.size + 1) wr.heap.size wr X := by
        rw [hX]; exact (((Kp.refl _ _ _).setRb _ _).alloc (by simp) _).alloc (by simp) _
      have hKWX : Kp (w.heap.size + 1) W.heap.size W X := HR.out.kp.trans (hKX.mono hszr)
      have hXfb : X.heap[wr.heap.size + 1]? = some (boolsO (List.replicate g.length false)) := by
        rw [hX]; exact heap_alloc_at _ _ _ (by simp)
      have hXxb : X.heap[w.heap.size + 1]? = some (rowsO (rbs ++ [wr.heap.size + 1]) g.length) := by
        rw [hX, heap_alloc_old _ _ (by simp; omega), heap_alloc_old _ _ (by simp; omega)]
        have h1 := HRL.out
        have h2 := rowsO_set rbs g.length (wr.heap.size + 1) (by omega)
        rw [heap_setCell_at (cs := (rbs.map (rowV · g.length) ++ List.replicate (g.length - rbs.length) (Value.slice none 0 0)).toArray) HR.out.rows, ← h2, h1]
        rfl
      have hFX : FactsAt X.drew mb eb names E := HF.out.blocks (hKWX.block mb (by omega) (by omega)) (hKWX.block eb (by omega) (by omega))
      have hSX : Sm A wr X.drew := ⟨fun u l hl => own_blocks hl (fun b hb => hKX.block b (hl.lt b hb).2 (by
          intro e; subst e
          obtain ⟨cur, h1⟩ := own_block_type hl hb
          rw [HR.out.rows] at h1
          simp [rowsO] at h1)), fun b hb ha => hKX.block b hb (by have := HA.out b ha; omega)⟩
      have hch := mark_all (depC g[j].choice) X.drew mb eb (wr.heap.size + 1) names E (List.replicate names.length false) A g[j].choice (.slice a g[j].choice.length c) hFX (by rw [← HGN.out]; exact hXfb) (by simp) (by omega) (hCh.kept hSX) (fun b hb => by have := HA.out b hb; omega) (Nat.le_refl _)
      rw [row_dir names E g j hlt] at hch
      have hch' : Calls Tryz.prog 109 #[.agg #[.map (some mb), .slice (some ⟨eb, 0, none⟩) names.length names.length], .slice a g[j].choice.length c, .slice (some ⟨wr.heap.size + 1, 0, none⟩) g.length g.length] X.drew fun e w' =>
          e = .returned (.tuple #[]) ∧ Kp (wr.heap.size + 1) X.drew.heap.size X.drew w' ∧ w'.heap[wr.heap.size + 1]? = some (boolsO (rowL g.length (dirM names E g j))) := by
        have h1 := hch
        simp only [factsV, rowV] at h1
        rw [HGN.out]
        exact h1
      have q0 : ∀ o, X.cell? ⟨w.heap.size, o, none⟩ = (#[.map (some mb), .slice (some ⟨eb, 0, none⟩) names.length names.length] : Array Value)[o]? := fun o => by
        rw [kp_cell hKX (by omega) (by omega)]; exact hbx o
      have q1 : X.cell? ⟨wr.heap.size, 1, none⟩ = some (.slice a g[j].choice.length c) := by
        rw [hX, World.cell?_alloc_lt _ _ _ (by simp)]
        rw [cell_of_block (heap_alloc_at _ _ _ (by simp))]; rfl
      have q2 : X.cell? ⟨w.heap.size + 1, j, none⟩ = some (.slice (some ⟨wr.heap.size + 1, 0, none⟩) g.length g.length) := by
        rw [cell_of_block hXxb]
        have := HRL.out
        simp [rowV, ← this]
      have HKWX : Hid (Kp (w.heap.size + 1) W.heap.size W X) := hKWX
      have HKX : Hid (Kp (w.heap.size + 1) wr.heap.size wr X) := hKX
      have HXX : Hid (X.heap[w.heap.size + 1]? = some (rowsO (rbs ++ [wr.heap.size + 1]) g.length)) := hXxb
      rw [← hX]
      clear hX hKX hKWX hXfb hXxb hFX hSX hch hCh c0 c1 hxc hxf hbx hmk2
      go_region_with (go_at_call 109; refine hch'.mono ?_; rintro e w5 ⟨rfl, hk5, hf5⟩)
      all_goals
        have hN := HR.out.next (by omega) HKX.out (by omega) HXX.out hk5 (by rw [HRL.out]; exact hf5)
        have hNl : (rbs ++ [wr.heap.size + 1]).length = j + 1 := by have := HRL.out; simp; omega
        have HNN : Hid (ClRel W (w.heap.size + 1) g.length (rbs ++ [wr.heap.size + 1]) (dirM names E g) w5) := hN
        have HNL : Hid ((rbs ++ [wr.heap.size + 1]).length = j + 1) := hNl
        clear hN hNl hk5 hf5 hch'
        go_wp2_with fail
        go_roundg (g.length - (j + 1))
        case measure => omega
        case rel => exact ⟨j + 1, _, rfl, HNL.out, by omega, by go_num, HNN.out⟩
    · have hjg : j = g.length := by omega
      have hrl : rbs.length = g.length := by rw [HRL.out]; exact hjg
      have hMat : MatAt wr (w.heap.size + 1) g.length rbs (dirM names E g) := by
        refine ⟨?_, hrl, HR.out.row, HR.out.nodup⟩
        rw [HR.out.rows]
        unfold rowsO
        rw [hrl]
        simp
      have hsp := spread_any wr (w.heap.size + 1) g.length rbs (dirM names E g) hMat hgl
      have HRLg : Hid (rbs.length = g.length) := hrl
      clear hjg hrl hMat hmk2
      go_wp2_with fail
      refine hsp.mono ?_
      rintro e w2 ⟨rfl, hM2, hK2⟩
      have HM2 : Hid (MatAt w2 (w.heap.size + 1) g.length rbs (Wm (dirM names E g) g.length)) := hM2
      have hBw : Below w.heap.size w w2 := by
        have h1 : Kp (w.heap.size + 1) w.heap.size w wr := (Kp.of HB0.out).trans (HR.out.kp.mono (by omega))
        refine ⟨hK2.os.trans h1.os, hK2.tape.trans h1.tape, hK2.output.trans h1.output, Nat.le_trans h1.size hK2.size, fun k hk => ?_⟩
        rw [hK2.block k (by omega) (fun hm => by have := HR.out.new k hm; omega)]
        exact h1.block k hk (by omega)
      have HBW : Hid (Below w.heap.size w w2) := hBw
      clear hsp hM2 hK2 hBw
      go_wp2_with fail
      go_loopg [38] g.length (fun m i wx => ∃ j : Nat, m = g.length - j ∧ j ≤ g.length ∧ i = .int .i64 j ∧ wx = w2 ∧ Hid (∀ t, t < j → Wm (dirM names E g) g.length t t = false))
      case atStart => exact ⟨0, rfl, Nat.zero_le _, rfl, rfl, fun t ht => by omega⟩
      case round =>
        obtain ⟨t, rfl, ht, rfl, rfl, hno⟩ := hrel
        by_cases hlt2 : t < g.length
        · have htr : t < rbs.length := by rw [HRLg.out]; exact hlt2
          have d1 := HM2.out.cell t htr
          have d2 := HM2.out.at t t htr hlt2
          have hlt2' : (t : Int) < g.length := by omega
          generalize rbs[t] = bt at *
          cases hv : Wm (dirM names E g) g.length t t with
          | true =>
            rw [hv] at d2
            have HV : Hid (Wm (dirM names E g) g.length t t = true) := hv
            clear hv
            go_wp2_with fail
            go_ret
            exact ⟨HBW.out, some t, rfl, hlt2, HV.out, hno.out⟩
          | false =>
            rw [hv] at d2
            have HN : Hid (∀ i, i < t + 1 → Wm (dirM names E g) g.length i i = false) := by
              intro i hi
              by_cases e : i = t
              · subst e; exact hv
              · exact hno.out i (by omega)
            clear hv hno
            go_wp2_with fail
            go_roundg (g.length - (t + 1))
            case measure => omega
            case rel => exact ⟨t + 1, rfl, by omega, by go_num, rfl, HN⟩
        · have HN : Hid (∀ i, i < g.length → Wm (dirM names E g) g.length i i = false) := fun i hi => hno.out i (by omega)
          clear hno
          go_wp2_with fail
          go_ret
          exact ⟨HBW.out, none, rfl, HN.out⟩
end Go.Proofs.YtjmcdklhaieldaaGreatDoor
