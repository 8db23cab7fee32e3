import Derived.Test.YtgfejacimdmkpaaDoorS10
set_option linter.all false
namespace Go.Proofs.YtgfejacimdmkpaaDoor
open Go.RowKit Go.WideMaps Go.Maps

abbrev Mat := Nat → Nat → Bool

/-- Over the middles below m. -/
def Wm (M : Mat) : Nat → Mat
  | 0 => M
  | m + 1 => fun i j => Wm M m i j || (Wm M m i m && Wm M m m j)

theorem Wm_self (M : Mat) (m t : Nat) : Wm M (m + 1) m t = Wm M m m t := by
  simp only [Wm]
  cases Wm M m m m <;> cases Wm M m m t <;> rfl

def rowL (N : Nat) (f : Nat → Bool) : List Bool := (List.range N).map f

theorem rowL_len (N : Nat) (f : Nat → Bool) : (rowL N f).length = N := by simp [rowL]

structure MatAt (w : World) (xb N : Nat) (rbs : List Nat) (M : Mat) : Prop where
  rows : w.heap[xb]? = some (.cells (rbs.map (rowV · N)).toArray 40 (0, 0))
  len : rbs.length = N
  row : ∀ i (h : i < rbs.length), w.heap[rbs[i]]? = some (boolsO (rowL N (M i)))
  nodup : rbs.Nodup

theorem MatAt.congr {w : World} {xb N : Nat} {rbs : List Nat} {M M' : Mat} (h : MatAt w xb N rbs M) (he : ∀ i j, i < N → j < N → M i j = M' i j) : MatAt w xb N rbs M' := by
  refine ⟨h.rows, h.len, fun i hi => ?_, h.nodup⟩
  rw [h.row i hi]
  congr 2
  unfold rowL
  apply List.map_congr_left
  intro j hj
  exact he i j (by rw [← h.len]; exact hi) (by simpa using hj)

structure KpM (rbs : List Nat) (B : Nat) (w w' : World) : Prop where
  os : w'.os = w.os
  tape : w'.tape = w.tape
  output : w'.output = w.output
  size : w.heap.size ≤ w'.heap.size
  block : ∀ k, k < B → k ∉ rbs → w'.heap[k]? = w.heap[k]?

theorem KpM.refl (rbs : List Nat) (B : Nat) (w : World) : KpM rbs B w w := ⟨rfl, rfl, rfl, Nat.le_refl _, fun _ _ _ => rfl⟩
theorem KpM.trans {rbs : List Nat} {B : Nat} {a b c : World} (h : KpM rbs B a b) (k : KpM rbs B b c) : KpM rbs B a c :=
  ⟨k.os.trans h.os, k.tape.trans h.tape, k.output.trans h.output, Nat.le_trans h.size k.size, fun i hi hr => (k.block i hi hr).trans (h.block i hi hr)⟩
theorem KpM.set {rbs : List Nat} {B : Nat} {a w : World} (h : KpM rbs B a w) {b o : Nat} (hb : b ∈ rbs) (u : Value) : KpM rbs B a (w.setCell ⟨b, o, none⟩ u) :=
  h.trans ⟨rfl, rfl, rfl, by simp [World.setCell], fun k _ hr => Below.heap_setCell _ _ _ _ (fun e => hr (e ▸ hb))⟩

theorem MatAt.cell {w : World} {xb N : Nat} {rbs : List Nat} {M : Mat} (h : MatAt w xb N rbs M) (i : Nat) (hi : i < rbs.length) : w.cell? ⟨xb, i, none⟩ = some (.slice (some ⟨rbs[i], 0, none⟩) N N) := by
  rw [cell_of_block h.rows]; simp [hi, rowV]
theorem MatAt.at {w : World} {xb N : Nat} {rbs : List Nat} {M : Mat} (h : MatAt w xb N rbs M) (i j : Nat) (hi : i < rbs.length) (hj : j < N) : w.cell? ⟨rbs[i], j, none⟩ = some (.bool (M i j)) := by
  rw [cell_of_block (h.row i hi)]; simp [rowL, hj]

theorem rowL_set (N : Nat) (f : Nat → Bool) (t : Nat) : (rowL N f).set t true = rowL N (fun j => if j = t then true else f j) := by
  apply List.ext_getElem
  · simp [rowL]
  · intro i h1 h2
    simp only [rowL, List.getElem_set, List.getElem_map, List.getElem_range]
    by_cases e : t = i
    · subst e; simp
    · have : ¬ i = t := fun h => e h.symm
      simp [e, this]

theorem MatAt.set {w : World} {xb N : Nat} {rbs : List Nat} {M : Mat} (h : MatAt w xb N rbs M) (f t : Nat) (hf : f < rbs.length) : MatAt (w.setCell ⟨rbs[f], t, none⟩ (.bool true)) xb N rbs (fun i j => if i = f ∧ j = t then true else M i j) := by
  refine ⟨?_, h.len, fun i hi => ?_, h.nodup⟩
  · rw [Below.heap_setCell]
    · exact h.rows
    · intro e
      have h1 := h.row f hf
      simp only [] at e
      rw [← e, h.rows] at h1
      simp [boolsO] at h1
  · by_cases e : i = f
    · subst e
      rw [heap_setCell_at (h.row i hi), boolsO_set, rowL_set]
      congr 3
      funext j
      by_cases e2 : j = t <;> simp [e2]
    · have hne : rbs[i] ≠ rbs[f] := fun e2 => e ((List.getElem_inj h.nodup).1 e2)
      rw [Below.heap_setCell _ _ _ _ hne, h.row i hi]
      congr 3
      funext j
      simp [e]

theorem MatAt.frozen {w : World} {xb N : Nat} {rbs : List Nat} {M : Mat} (h : MatAt w xb N rbs M) (i : Nat) (hi : i < rbs.length) (o : Nat) : w.frozen? ⟨rbs[i], o, none⟩ = false := frozen_of_block (h.row i hi) o

set_option maxHeartbeats 8000000 in
set_option maxRecDepth 100000 in
theorem spread_any (w : World) (xb N : Nat) (rbs : List Nat) (M : Mat) (hM : MatAt w xb N rbs M) (hN : N ≤ 20) :
    Calls Tryd.prog 40 #[.slice (some ⟨xb, 0, none⟩) N N] w fun e w' => e = .returned (.tuple #[]) ∧ MatAt w' xb N rbs (Wm M N) ∧ KpM rbs w.heap.size w w' := by
  have HL : Hid (rbs.length = N) := hM.len
  have HM0 : Hid (MatAt w xb N rbs M) := hM
  clear hM
  go_enter Tryd.func40, Tryd.ntmps40
  go_wp2_with fail
  go_loopg [7] N (fun n i wr => ∃ m : Nat, n = N - m ∧ m ≤ N ∧ i = .int .i64 m ∧ MatAt wr xb N rbs (Wm M m) ∧ KpM rbs w.heap.size w wr)
  case atStart => exact ⟨0, rfl, Nat.zero_le _, rfl, HM0.out, KpM.refl _ _ _⟩
  case round =>
    obtain ⟨m, rfl, hm, rfl, hA, hK⟩ := hrel
    have HA : Hid (MatAt wr xb N rbs (Wm M m)) := hA
    have HK : Hid (KpM rbs w.heap.size w wr) := hK
    clear hA hK
    by_cases hltm : m < N
    · have hltm' : (m : Int) < N := by omega
      go_wp2_with fail
      go_loopg [12] N (fun n i wx => ∃ f : Nat, n = N - f ∧ f ≤ N ∧ i = .int .i64 f ∧ MatAt wx xb N rbs (fun i j => if i < f then Wm M (m + 1) i j else Wm M m i j) ∧ KpM rbs w.heap.size w wx)
      case atStart => exact ⟨0, rfl, Nat.zero_le _, rfl, HA.out.congr (fun i j _ _ => by simp), HK.out⟩
      case round =>
        obtain ⟨f, rfl, hf, rfl, hA2, hK2⟩ := hrel
        have HA2 : Hid (MatAt wr xb N rbs (fun i j => if i < f then Wm M (m + 1) i j else Wm M m i j)) := hA2
        have HK2 : Hid (KpM rbs w.heap.size w wr) := hK2
        clear hA2 hK2
        by_cases hltf : f < N
        · have hltf' : (f : Int) < N := by omega
          have hfr : f < rbs.length := by rw [HL.out]; exact hltf
          have c1 := HA2.out.cell f hfr
          have c2 := HA2.out.at f m hfr hltm
          simp only [Nat.lt_irrefl, if_false] at c2
          cases hv : Wm M m f m with
          | false =>
            rw [hv] at c2
            have hN1 : MatAt wr xb N rbs (fun i j => if i < f + 1 then Wm M (m + 1) i j else Wm M m i j) := by
              refine HA2.out.congr (fun i j _ _ => ?_)
              by_cases h1 : i < f
              · simp [h1, Nat.lt_succ_of_lt h1]
              · by_cases h2 : i = f
                · subst h2; simp [Wm, hv]
                · have h3 : ¬ i < f + 1 := by omega
                  simp [h1, h3]
            clear hv
            go_wp2_with fail
            go_roundg (N - (f + 1))
            case measure => omega
            case rel => exact ⟨f + 1, rfl, by omega, by go_num, hN1, HK2.out⟩
          | true =>
            rw [hv] at c2
            have HV : Hid (Wm M m f m = true) := hv
            clear hv
            go_wp2_with fail
            go_loopg [25] N (fun n i wy => ∃ t : Nat, n = N - t ∧ t ≤ N ∧ i = .int .i64 t ∧ MatAt wy xb N rbs (fun i j => if i < f then Wm M (m + 1) i j else if i = f ∧ j < t then Wm M (m + 1) i j else Wm M m i j) ∧ KpM rbs w.heap.size w wy)
            case atStart => exact ⟨0, rfl, Nat.zero_le _, rfl, HA2.out.congr (fun i j _ _ => by simp), HK2.out⟩
            case round =>
              obtain ⟨t, rfl, ht, rfl, hA3, hK3⟩ := hrel
              have HA3 : Hid (MatAt wr xb N rbs (fun i j => if i < f then Wm M (m + 1) i j else if i = f ∧ j < t then Wm M (m + 1) i j else Wm M m i j)) := hA3
              have HK3 : Hid (KpM rbs w.heap.size w wr) := hK3
              clear hA3 hK3
              by_cases hltt : t < N
              · have hltt' : (t : Int) < N := by omega
                have hmr : m < rbs.length := by rw [HL.out]; exact hltm
                have d1 := HA3.out.cell f hfr
                have d2 := HA3.out.cell m hmr
                have d3 := HA3.out.at m t hmr hltt
                have d4 := HA3.out.at f t hfr hltt
                have d5 := HA3.out.frozen f hfr t
                have hval : (if m < f then Wm M (m + 1) m t else if m = f ∧ t < t then Wm M (m + 1) m t else Wm M m m t) = Wm M m m t := by
                  rw [Wm_self]; simp
                rw [hval] at d3
                obtain ⟨old, hold⟩ : ∃ old, wr.cell? ⟨rbs[f], t, none⟩ = some (.bool old) := ⟨_, d4⟩
                obtain ⟨bf, hbf⟩ : ∃ b, b = rbs[f] := ⟨_, rfl⟩
                obtain ⟨bm, hbm⟩ : ∃ b, b = rbs[m] := ⟨_, rfl⟩
                have hmem : bf ∈ rbs := by rw [hbf]; exact List.getElem_mem hfr
                have hset := HA3.out.set f t hfr
                rw [← hbf] at d1 d5 hold hset
                rw [← hbm] at d2 d3
                clear d4 hval hbf hbm c1 c2
                cases hv2 : Wm M m m t with
                | false =>
                  rw [hv2] at d3
                  have hN3 : MatAt wr xb N rbs (fun i j => if i < f then Wm M (m + 1) i j else if i = f ∧ j < t + 1 then Wm M (m + 1) i j else Wm M m i j) := by
                    refine HA3.out.congr (fun i j _ _ => ?_)
                    by_cases h1 : i < f
                    · simp [h1]
                    · by_cases h2 : i = f
                      · subst h2
                        by_cases h3 : j < t
                        · simp [h3, Nat.lt_succ_of_lt h3]
                        · by_cases h4 : j = t
                          · subst h4; simp [Wm, hv2]
                          · have h5 : ¬ j < t + 1 := by omega
                            simp [h3, h5]
                      · simp [h1, h2]
                  clear hv2 hset hold
                  go_wp2_with fail
                  go_roundg (N - (t + 1))
                  case measure => omega
                  case rel => exact ⟨t + 1, rfl, by omega, by go_num, hN3, HK3.out⟩
                | true =>
                  rw [hv2] at d3
                  have hN3 : MatAt (wr.setCell ⟨bf, t, none⟩ (.bool true)) xb N rbs (fun i j => if i < f then Wm M (m + 1) i j else if i = f ∧ j < t + 1 then Wm M (m + 1) i j else Wm M m i j) := by
                    refine hset.congr (fun i j _ _ => ?_)
                    by_cases h1 : i < f
                    · have h2 : ¬ i = f := by omega
                      simp [h1, h2]
                    · by_cases h2 : i = f
                      · subst h2
                        by_cases h4 : j = t
                        · subst h4; simp [Wm, hv2, HV.out]
                        · by_cases h3 : j < t
                          · simp [h3, h4, Nat.lt_succ_of_lt h3]
                          · have h5 : ¬ j < t + 1 := by omega
                            simp [h3, h4, h5]
                      · simp [h1, h2]
                  have HK4 : Hid (KpM rbs w.heap.size w (wr.setCell ⟨bf, t, none⟩ (.bool true))) := HK3.out.set hmem _
                  clear hv2 hset
                  go_wp2_with fail
                  go_roundg (N - (t + 1))
                  case measure => omega
                  case rel => exact ⟨t + 1, rfl, by omega, by go_num, hN3, HK4.out⟩
              · have hte : t = N := by omega
                have hN1 : MatAt wr xb N rbs (fun i j => if i < f + 1 then Wm M (m + 1) i j else Wm M m i j) := by
                  refine HA3.out.congr (fun i j _ hj => ?_)
                  by_cases h1 : i < f
                  · simp [h1, Nat.lt_succ_of_lt h1]
                  · by_cases h2 : i = f
                    · subst h2; have : j < t := by omega
                      simp [this]
                    · have h3 : ¬ i < f + 1 := by omega
                      simp [h1, h2, h3]
                clear hte
                go_wp2_with fail
                go_roundg (N - (f + 1))
                case measure => omega
                case rel => exact ⟨f + 1, rfl, by omega, by go_num, hN1, HK3.out⟩
        · have hfe : f = N := by omega
          have hN1 : MatAt wr xb N rbs (Wm M (m + 1)) := by
            refine HA2.out.congr (fun i j hi _ => ?_)
            have : i < f := by omega
            simp [this]
          clear hfe
          go_wp2_with fail
          go_roundg (N - (m + 1))
          case measure => omega
          case rel => exact ⟨m + 1, rfl, by omega, by go_num, hN1, HK2.out⟩
    · have hme : m = N := by omega
      have HE : Hid (MatAt wr xb N rbs (Wm M N)) := by have h := HA.out; rw [hme] at h; exact h
      clear hme
      go_wp2_with fail
      go_end0
      exact ⟨rfl, HE.out, HK.out⟩
end Go.Proofs.YtgfejacimdmkpaaDoor
