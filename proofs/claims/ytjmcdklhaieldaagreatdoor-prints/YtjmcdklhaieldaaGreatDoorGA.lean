import Derived.Test.YtjmcdklhaieldaaGreatDoorWC
import Derived.Deep.QuietTactic
import Derived.BigQuiet
import Derived.RegionTactic
import Derived.BigRegion
import Derived.Deep.RegionWith
set_option linter.all false
namespace Go.Proofs.YtjmcdklhaieldaaGreatDoor
open Go.RowKit

/-- The reader: its block, the tokens' row, the place, the depth. -/
def Rd (w : World) (rb tb tc : Nat) (ps : List (Thk.Tok × Value)) (n d : Nat) : Prop :=
  w.heap[rb]? = some (.cells #[.slice (some ⟨tb, 0, none⟩) ps.length tc, .int .i64 n, .int .i64 d] 154 (0, 0)) ∧
  Toks w 0 (.slice (some ⟨tb, 0, none⟩) ps.length tc) ps ∧ ps.length ≤ 2001 ∧ ∀ p ∈ ps, p.1.text.length ≤ 2000

theorem cell_of_block {w : World} {b : Nat} {cs : Array Value} {e : TypeId} {fr : Nat × Nat} (h : w.heap[b]? = some (.cells cs e fr)) (o : Nat) : w.cell? ⟨b, o, none⟩ = cs[o]? := by
  simp [World.cell?, h]
theorem frozen_of_block {w : World} {b : Nat} {cs : Array Value} {e : TypeId} (h : w.heap[b]? = some (.cells cs e (0, 0))) (o : Nat) : w.frozen? ⟨b, o, none⟩ = false := by
  simp [World.frozen?, h]

theorem flatMap_get (ps : List (Thk.Tok × Value)) (i j : Nat) (hi : i < ps.length) (hj : j < 4) : (ps.flatMap tokC)[i * 4 + j]? = (tokC ps[i])[j]? := by
  induction ps generalizing i with
  | nil => simp at hi
  | cons p ps ih =>
    have hl : (tokC p).length = 4 := rfl
    cases i with
    | zero =>
      simp only [List.flatMap_cons, Nat.zero_mul, Nat.zero_add, List.getElem_cons_zero]
      rw [List.getElem?_append_left (by omega)]
    | succ i =>
      simp only [List.flatMap_cons, List.getElem_cons_succ]
      rw [List.getElem?_append_right (by omega), hl, show (i + 1) * 4 + j - 4 = i * 4 + j from by omega]
      exact ih i (by simpa using hi)

theorem Rd.tok {w : World} {rb tb tc : Nat} {ps : List (Thk.Tok × Value)} {n d : Nat} (h : Rd w rb tb tc ps n d) (i j : Nat) (hi : i < ps.length) (hj : j < 4) :
    w.cell? ⟨tb, i * 4 + j, none⟩ = (tokC ps[i])[j]? := by
  rw [h.2.1.1.cellAt (i * 4 + j) (by omega)]
  exact flatMap_get ps i j hi hj

theorem Rd.tok' {w : World} {rb tb tc : Nat} {ps : List (Thk.Tok × Value)} {n d : Nat} (h : Rd w rb tb tc ps n d) (i : Nat) (hi : i < ps.length) :
    w.cell? ⟨tb, i * 4, none⟩ = some (.int .u8 (kindI ps[i].1.kind)) ∧ w.cell? ⟨tb, i * 4 + 1, none⟩ = some (.int .i64 ps[i].1.place) ∧
    w.cell? ⟨tb, i * 4 + 2, none⟩ = some (.string ⟨ps[i].1.text.toArray⟩) ∧ w.cell? ⟨tb, i * 4 + 3, none⟩ = some ps[i].2 :=
  ⟨h.tok i 0 hi (by decide), h.tok i 1 hi (by decide), h.tok i 2 hi (by decide), h.tok i 3 hi (by decide)⟩

theorem Rd.cells {w : World} {rb tb tc : Nat} {ps : List (Thk.Tok × Value)} {n d : Nat} (h : Rd w rb tb tc ps n d) :
    w.cell? ⟨rb, 0, none⟩ = some (.slice (some ⟨tb, 0, none⟩) ps.length tc) ∧ w.cell? ⟨rb, 1, none⟩ = some (.int .i64 n) ∧ w.cell? ⟨rb, 2, none⟩ = some (.int .i64 d) ∧ ∀ o, w.frozen? ⟨rb, o, none⟩ = false :=
  ⟨cell_of_block h.1 0, cell_of_block h.1 1, cell_of_block h.1 2, frozen_of_block h.1⟩

set_option maxHeartbeats 1000000 in
theorem kind_any (w : World) (rb tb tc : Nat) (ps : List (Thk.Tok × Value)) (n d : Nat) (h : Rd w rb tb tc ps n d) (hn : n < ps.length) :
    Calls Tryz.prog 102 #[.pointer (some ⟨rb, 0, none⟩)] w fun e w' => e = .returned (.int .u8 (kindI ps[n].1.kind)) ∧ ∃ q, w' = w.drewN q := by
  obtain ⟨c0, c1, c2, fz⟩ := h.cells
  obtain ⟨k0, k1, k2, k3⟩ := h.tok' n hn
  have hl := h.2.2.1
  have hn' : (n : Int) < (ps.length : Int) := by omega
  clear h k1 k2 k3 c2 fz
  go_enter Tryz.func102, Tryz.ntmps102
  go_wp2_with fail
  go_quiet (fail)
  go_wp2_with fail
  go_ret
  exact ⟨rfl, _, rfl⟩

set_option maxHeartbeats 1000000 in
theorem refuse_any (w : World) (rb tb tc : Nat) (ps : List (Thk.Tok × Value)) (n d : Nat) (h : Rd w rb tb tc ps n d) (hn : n < ps.length) (er : Int) :
    Calls Tryz.prog 140 #[.pointer (some ⟨rb, 0, none⟩), .int .i64 er] w fun e w' => e = .returned (.iface 104 (.agg #[.int .i64 er, .int .i64 ps[n].1.place])) ∧ ∃ q, w' = w.drewN q := by
  obtain ⟨c0, c1, c2, fz⟩ := h.cells
  obtain ⟨k0, k1, k2, k3⟩ := h.tok' n hn
  have hl := h.2.2.1
  have hn' : (n : Int) < (ps.length : Int) := by omega
  clear h k0 k2 k3 c2 fz
  go_enter Tryz.func140, Tryz.ntmps140
  go_wp2_with fail
  go_quiet (fail)
  go_wp2_with fail
  go_ret
  exact ⟨rfl, _, rfl⟩
end Go.Proofs.YtjmcdklhaieldaaGreatDoor
namespace Go.Proofs.YtjmcdklhaieldaaGreatDoor
open Go.RowKit

/-- Below block B, block rb aside, the world is as it was. -/
structure Kp (rb B : Nat) (w w' : World) : Prop where
  os : w'.os = w.os
  tape : w'.tape = w.tape
  output : w'.output = w.output
  size : w.heap.size ≤ w'.heap.size
  block : ∀ k, k < B → k ≠ rb → w'.heap[k]? = w.heap[k]?

theorem Kp.refl (rb B : Nat) (w : World) : Kp rb B w w := ⟨rfl, rfl, rfl, Nat.le_refl _, fun _ _ _ => rfl⟩
theorem Kp.trans {rb B : Nat} {a b c : World} (h : Kp rb B a b) (k : Kp rb B b c) : Kp rb B a c :=
  ⟨k.os.trans h.os, k.tape.trans h.tape, k.output.trans h.output, Nat.le_trans h.size k.size, fun i hi hr => (k.block i hi hr).trans (h.block i hi hr)⟩
theorem Kp.mono {rb B B' : Nat} {w w' : World} (h : Kp rb B w w') (hB : B' ≤ B) : Kp rb B' w w' := ⟨h.os, h.tape, h.output, h.size, fun k hk hr => h.block k (Nat.lt_of_lt_of_le hk hB) hr⟩
theorem Kp.of {rb B : Nat} {w w' : World} (h : Below B w w') : Kp rb B w w' := ⟨h.os, h.tape, h.output, h.size, fun k hk _ => h.block k hk⟩
theorem Kp.drewN {rb B : Nat} {a w : World} (h : Kp rb B a w) (q : Nat) : Kp rb B a (w.drewN q) := ⟨h.os, h.tape, h.output, h.size, h.block⟩
theorem Kp.drew {rb B : Nat} {a w : World} (h : Kp rb B a w) : Kp rb B a w.drew := ⟨h.os, h.tape, h.output, h.size, h.block⟩
theorem Kp.alloc {rb B : Nat} {a w : World} (h : Kp rb B a w) (hB : B ≤ w.heap.size) (o : Obj) : Kp rb B a (w.alloc o) := h.trans (.of ((Below.refl _ _).alloc hB o))
theorem Kp.setRb {rb B : Nat} {a w : World} (h : Kp rb B a w) (o : Nat) (u : Value) : Kp rb B a (w.setCell ⟨rb, o, none⟩ u) :=
  h.trans ⟨rfl, rfl, rfl, by simp [World.setCell], fun k _ hr => Below.heap_setCell _ _ _ _ hr⟩
theorem Kp.setCell {rb B : Nat} {a w : World} (h : Kp rb B a w) {p : Addr} (hp : B ≤ p.block) (u : Value) : Kp rb B a (w.setCell p u) := h.trans (.of ((Below.refl _ _).setCell hp u))
theorem Kp.grown {rb B : Nat} {a w w' : World} {row : Option Nat} (h : Kp rb B a w) (hg : w.grownBy w' row) (hB : B ≤ w.heap.size) (hr : ∀ k, row = some k → B ≤ k) : Kp rb B a w' :=
  h.trans (.of ((Below.refl _ _).grown hg hB hr))

/-- A row that is owned, of another type than the reader's, stays so where all but the reader's block is kept. -/
theorem own_kp {w w' : World} {rb base : Nat} {e : TypeId} {size : Nat} {v : Value} {n : Nat} {xs : List Value} (h : w.ownsRow base e size v n xs) {cs : Array Value} {fr : Nat × Nat} {t : TypeId} (hr : w.heap[rb]? = some (.cells cs t fr)) (he : e ≠ t)
    (hb : Kp rb w.heap.size w w') : w'.ownsRow base e size v n xs := by
  obtain ⟨h1, h2⟩ := h
  refine ⟨h1, ?_⟩
  rcases h2 with h2 | ⟨g, cap, cur, hv, hg, hh, r⟩
  · exact Or.inl h2
  · refine Or.inr ⟨g, cap, cur, hv, hg, ?_, r⟩
    rw [hb.block g ?_ ?_]; exact hh
    · rcases Nat.lt_or_ge g w.heap.size with h | h
      · exact h
      · rw [Array.getElem?_eq_none h] at hh; cases hh
    · intro e; subst e; rw [hr] at hh; simp at hh; exact he hh.2.1.symm

theorem Rd.lt {w : World} {rb tb tc : Nat} {ps : List (Thk.Tok × Value)} {n d : Nat} (h : Rd w rb tb tc ps n d) : rb < w.heap.size := by
  rcases Nat.lt_or_ge rb w.heap.size with h' | h'
  · exact h'
  · have := h.1; rw [Array.getElem?_eq_none h'] at this; cases this

theorem Rd.kp {w w' : World} {rb tb tc : Nat} {ps : List (Thk.Tok × Value)} {n d n' d' : Nat} (h : Rd w rb tb tc ps n d) (hk : Kp rb w.heap.size w w')
    (hb : w'.heap[rb]? = some (.cells #[.slice (some ⟨tb, 0, none⟩) ps.length tc, .int .i64 n', .int .i64 d'] 154 (0, 0))) : Rd w' rb tb tc ps n' d' :=
  ⟨hb, ⟨own_kp h.2.1.1 h.1 (by decide) hk, fun p hp => own_kp (h.2.1.2 p hp) h.1 (by decide) hk⟩, h.2.2⟩

theorem Rd.below {w w' : World} {rb tb tc : Nat} {ps : List (Thk.Tok × Value)} {n d : Nat} (h : Rd w rb tb tc ps n d) (hb : Below w.heap.size w w') : Rd w' rb tb tc ps n d :=
  h.kp (.of hb) (by rw [hb.block rb h.lt]; exact h.1)

theorem Rd.drewN {w : World} {rb tb tc : Nat} {ps : List (Thk.Tok × Value)} {n d : Nat} (h : Rd w rb tb tc ps n d) (q : Nat) : Rd (w.drewN q) rb tb tc ps n d := h

theorem heap_setCell_at {w : World} {b o : Nat} {cs : Array Value} {e : TypeId} {fr : Nat × Nat} (h : w.heap[b]? = some (.cells cs e fr)) (u : Value) : (w.setCell ⟨b, o, none⟩ u).heap[b]? = some (.cells (cs.setIfInBounds o u) e fr) := by
  simp [World.setCell, Array.getElem?_modify, h]

theorem Rd.set1 {w : World} {rb tb tc : Nat} {ps : List (Thk.Tok × Value)} {n d : Nat} (h : Rd w rb tb tc ps n d) (m : Nat) : Rd (w.setCell ⟨rb, 1, none⟩ (.int .i64 m)) rb tb tc ps m d :=
  h.kp ((Kp.refl _ _ _).setRb _ _) (by rw [heap_setCell_at h.1]; rfl)
theorem Rd.set2 {w : World} {rb tb tc : Nat} {ps : List (Thk.Tok × Value)} {n d : Nat} (h : Rd w rb tb tc ps n d) (m : Nat) : Rd (w.setCell ⟨rb, 2, none⟩ (.int .i64 m)) rb tb tc ps n m :=
  h.kp ((Kp.refl _ _ _).setRb _ _) (by rw [heap_setCell_at h.1]; rfl)

set_option maxHeartbeats 1000000 in
theorem beginsRule_any (w : World) (rb tb tc : Nat) (ps : List (Thk.Tok × Value)) (n d : Nat) (h : Rd w rb tb tc ps n d) (hn : n + 1 < ps.length) (hd : d ≤ 6) :
    Calls Tryz.prog 183 #[.pointer (some ⟨rb, 0, none⟩)] w fun e w' => e = .returned (.bool (decide (d = 0) && (kindI ps[n + 1].1.kind == 3))) ∧ ∃ q, w' = w.drewN q := by
  obtain ⟨c0, c1, c2, fz⟩ := h.cells
  obtain ⟨k0, k1, k2, k3⟩ := h.tok' (n + 1) hn
  have hl := h.2.2.1
  have hn' : (n : Int) + 1 < (ps.length : Int) := by omega
  clear h k1 k2 k3 fz
  by_cases h0 : d = 0
  · subst h0
    go_enter Tryz.func183, Tryz.ntmps183
    go_wp2_with fail
    go_quiet (fail)
    go_wp2_with fail
    go_ret
    exact ⟨by simp, _, rfl⟩
  · have t0 : ((d : Int) == 0) = false := beq_eq_false_iff_ne.2 (by omega)
    rw [decide_eq_false h0]
    go_enter Tryz.func183, Tryz.ntmps183
    go_wp2_with fail
    go_quiet (fail)
    go_wp2_with fail
    go_ret
    exact ⟨by simp, _, rfl⟩

set_option maxHeartbeats 1000000 in
theorem expect_yes (w : World) (rb tb tc : Nat) (ps : List (Thk.Tok × Value)) (n d : Nat) (h : Rd w rb tb tc ps n d) (hn : n < ps.length) (K : Int) (hK : kindI ps[n].1.kind = K) :
    Calls Tryz.prog 139 #[.pointer (some ⟨rb, 0, none⟩), .int .u8 K] w fun e w' => e = .returned (.tuple #[tokV ps[n].1 ps[n].2, .nilIface]) ∧ Rd w' rb tb tc ps (n + 1) d ∧ Kp rb w.heap.size w w' := by
  obtain ⟨c0, c1, c2, fz⟩ := h.cells
  obtain ⟨k0, k1, k2, k3⟩ := h.tok' n hn
  have hl := h.2.2.1
  have hn' : (n : Int) < (ps.length : Int) := by omega
  obtain ⟨a0, b0, e0⟩ := own_form (h.2.1.2 ps[n] (List.getElem_mem hn))
  have tK : (kindI ps[n].1.kind != K) = false := by rw [hK]; simp
  have HK : Hid (kindI ps[n].1.kind = K) := hK
  have hrl := h.lt
  have htl : tb < w.heap.size := ((h.2.1.1.lt tb rfl).2)
  rw [e0] at k3
  have H : Hid (Rd w rb tb tc ps n d) := h
  clear h hK
  go_enter Tryz.func139, Tryz.ntmps139
  go_wp2_with fail
  go_region
  go_wp2_with fail
  refine bodyPost_ret (v := .tuple #[tokV ps[n].1 ps[n].2, .nilIface]) (by simp [results, Tryz.results139, go_sem, tokV, e0]) rfl ⟨rfl, ?_, ?_⟩
  · exact (H.out.set1 (n + 1)).below (((Below.refl _ _).alloc (Nat.le_refl _) _).alloc (by simp) _).drew
  · exact ((((Kp.refl _ _ _).setRb _ _).alloc (by simp) _).alloc (by simp) _).drew

set_option maxHeartbeats 1000000 in
theorem expect_no (w : World) (rb tb tc : Nat) (ps : List (Thk.Tok × Value)) (n d : Nat) (h : Rd w rb tb tc ps n d) (hn : n < ps.length) (K : Int) (hK : kindI ps[n].1.kind ≠ K) :
    Calls Tryz.prog 139 #[.pointer (some ⟨rb, 0, none⟩), .int .u8 K] w fun e w' => e = .returned (.tuple #[tokV ps[n].1 ps[n].2, .iface 104 (.agg #[.int .i64 2, .int .i64 ps[n].1.place])]) ∧ Rd w' rb tb tc ps n d ∧ Kp rb w.heap.size w w' := by
  obtain ⟨c0, c1, c2, fz⟩ := h.cells
  obtain ⟨k0, k1, k2, k3⟩ := h.tok' n hn
  have hl := h.2.2.1
  have hn' : (n : Int) < (ps.length : Int) := by omega
  obtain ⟨a0, b0, e0⟩ := own_form (h.2.1.2 ps[n] (List.getElem_mem hn))
  have tK : (kindI ps[n].1.kind != K) = true := by rw [bne_iff_ne]; exact hK
  have hrl := h.lt
  have htl : tb < w.heap.size := ((h.2.1.1.lt tb rfl).2)
  rw [e0] at k3
  have H : Hid (Rd w rb tb tc ps n d) := h
  clear h hK
  go_enter Tryz.func139, Tryz.ntmps139
  go_wp2_with fail
  go_region
  go_wp2_with fail
  go_region_with (go_at_call 140; refine (refuse_any _ rb tb tc ps n d (by refine H.out.below ?_; repeat (first | exact Below.refl _ _ | refine Below.drew ?_ | refine Below.setCell ?_ (by simp) _ | refine Below.alloc ?_ (by simp; try omega) _)) hn _).mono ?_; rintro e w1 ⟨rfl, q, rfl⟩)
  all_goals go_wp2_with fail
  all_goals
    refine bodyPost_ret (v := .tuple #[tokV ps[n].1 ps[n].2, .iface 104 (.agg #[.int .i64 2, .int .i64 ps[n].1.place])]) (by simp [results, Tryz.results139, go_sem, tokV, e0]) rfl ⟨rfl, ?_, ?_⟩
    · refine H.out.below ?_
      repeat (first | exact Below.refl _ _ | refine Below.drew ?_ | refine below_drewN ?_ _ | refine Below.setCell ?_ (by simp) _ | refine Below.alloc ?_ (by simp; try omega) _)
    · refine Kp.of ?_
      repeat (first | exact Below.refl _ _ | refine Below.drew ?_ | refine below_drewN ?_ _ | refine Below.setCell ?_ (by simp) _ | refine Below.alloc ?_ (by simp; try omega) _)
end Go.Proofs.YtjmcdklhaieldaaGreatDoor
namespace Go.Proofs.YtjmcdklhaieldaaGreatDoor
open Go.RowKit

/-- The tokens from place n on. -/
def tsOf (ps : List (Thk.Tok × Value)) (n : Nat) : List Thk.Tok := (ps.map (·.1)).drop n

def GoodP (ps : List (Thk.Tok × Value)) : Prop := ∀ i (h : i < ps.length), okKind ps[i].1.kind ∧ (ps[i].1.kind.last = false → i + 1 < ps.length)

theorem tsOf_cons {ps : List (Thk.Tok × Value)} {n : Nat} (h : n < ps.length) : tsOf ps n = ps[n].1 :: tsOf ps (n + 1) := by
  unfold tsOf
  rw [List.drop_eq_getElem_cons (by simpa using h)]
  simp
theorem hd_tsOf {ps : List (Thk.Tok × Value)} {n : Nat} (h : n < ps.length) : Thk.hd (tsOf ps n) = ps[n].1 := by rw [tsOf_cons h]; rfl
theorem tl_tsOf {ps : List (Thk.Tok × Value)} {n : Nat} (h : n < ps.length) : (tsOf ps n).tail = tsOf ps (n + 1) := by rw [tsOf_cons h]; rfl

theorem kindI_arrow {k : Thk.TK} (hk : okKind k) : (kindI k == 3) = k.isArrow := by
  cases k with
  | sign c =>
    have := signB_ge hk
    rw [beq_eq_false_iff_ne.2 (by simp only [kindI]; omega)]
    rfl
  | _ => rfl

/-- The nine signs. -/
theorem sign_cases {c : UInt8} (h : Thk.signB c = true) : c = 47 ∨ c = 38 ∨ c = 33 ∨ c = 63 ∨ c = 42 ∨ c = 43 ∨ c = 40 ∨ c = 41 ∨ c = 46 := by
  simpa [Thk.signB] using h

theorem kind_of (w : World) (rb tb tc : Nat) (ps : List (Thk.Tok × Value)) (n d : Nat) (h : Rd w rb tb tc ps n d) (hn : n < ps.length) (K : Int) (hK : kindI ps[n].1.kind = K) :
    Calls Tryz.prog 102 #[.pointer (some ⟨rb, 0, none⟩)] w fun e w' => e = .returned (.int .u8 K) ∧ ∃ q, w' = w.drewN q := hK ▸ kind_any w rb tb tc ps n d h hn

set_option maxHeartbeats 2000000 in
theorem beginsTerm_any (w : World) (rb tb tc : Nat) (ps : List (Thk.Tok × Value)) (n d : Nat) (h : Rd w rb tb tc ps n d) (hg : GoodP ps) (hn : n < ps.length) (hd : d ≤ 6) :
    Calls Tryz.prog 174 #[.pointer (some ⟨rb, 0, none⟩)] w fun e w' => e = .returned (.bool (Thk.begins d (tsOf ps n))) ∧ ∃ q, w' = w.drewN q := by
  obtain ⟨hok, hnx⟩ := hg n hn
  cases hk : ps[n].1.kind with
  | name =>
    have hn1 := hnx (by rw [hk]; rfl)
    have e : Thk.begins d (tsOf ps n) = !(decide (d = 0) && (kindI ps[n + 1].1.kind == 3)) := by
      unfold Thk.begins
      rw [hd_tsOf hn, tl_tsOf hn, hd_tsOf hn1, hk, kindI_arrow (hg (n + 1) hn1).1]
      simp only []
      rfl
    rw [e]
    have hc := kind_of w rb tb tc ps n d h hn 2 (by rw [hk]; rfl)
    have hb := fun q => beginsRule_any (w.drewN q) rb tb tc ps n d (h.drewN q) hn1 hd
    clear e
    generalize (decide (d = 0) && (kindI ps[n + 1].1.kind == 3)) = b at *
    go_enter Tryz.func174, Tryz.ntmps174
    go_wp2_with (first | (go_at_call 102; refine hc.mono ?_; rintro e w1 ⟨rfl, q, rfl⟩) | (go_at_call 183; refine (hb _).mono ?_; rintro e w1 ⟨rfl, q, rfl⟩))
    go_ret
    exact ⟨rfl, _, rfl⟩
  | fin =>
    have e : Thk.begins d (tsOf ps n) = false := by unfold Thk.begins; rw [hd_tsOf hn, hk]
    rw [e]
    have hc := kind_of w rb tb tc ps n d h hn 0 (by rw [hk]; rfl)
    go_enter Tryz.func174, Tryz.ntmps174
    go_wp2_with (first | (go_at_call 102; refine hc.mono ?_; rintro e w1 ⟨rfl, q, rfl⟩))
    go_ret
    exact ⟨rfl, _, rfl⟩
  | bad =>
    have e : Thk.begins d (tsOf ps n) = false := by unfold Thk.begins; rw [hd_tsOf hn, hk]
    rw [e]
    have hc := kind_of w rb tb tc ps n d h hn 1 (by rw [hk]; rfl)
    go_enter Tryz.func174, Tryz.ntmps174
    go_wp2_with (first | (go_at_call 102; refine hc.mono ?_; rintro e w1 ⟨rfl, q, rfl⟩))
    go_ret
    exact ⟨rfl, _, rfl⟩
  | arrow =>
    have e : Thk.begins d (tsOf ps n) = false := by unfold Thk.begins; rw [hd_tsOf hn, hk]
    rw [e]
    have hc := kind_of w rb tb tc ps n d h hn 3 (by rw [hk]; rfl)
    go_enter Tryz.func174, Tryz.ntmps174
    go_wp2_with (first | (go_at_call 102; refine hc.mono ?_; rintro e w1 ⟨rfl, q, rfl⟩))
    go_ret
    exact ⟨rfl, _, rfl⟩
  | lit =>
    have e : Thk.begins d (tsOf ps n) = true := by unfold Thk.begins; rw [hd_tsOf hn, hk]
    rw [e]
    have hc := kind_of w rb tb tc ps n d h hn 4 (by rw [hk]; rfl)
    go_enter Tryz.func174, Tryz.ntmps174
    go_wp2_with (first | (go_at_call 102; refine hc.mono ?_; rintro e w1 ⟨rfl, q, rfl⟩))
    go_ret
    exact ⟨rfl, _, rfl⟩
  | cls =>
    have e : Thk.begins d (tsOf ps n) = true := by unfold Thk.begins; rw [hd_tsOf hn, hk]
    rw [e]
    have hc := kind_of w rb tb tc ps n d h hn 5 (by rw [hk]; rfl)
    go_enter Tryz.func174, Tryz.ntmps174
    go_wp2_with (first | (go_at_call 102; refine hc.mono ?_; rintro e w1 ⟨rfl, q, rfl⟩))
    go_ret
    exact ⟨rfl, _, rfl⟩
  | sign c =>
    rw [hk] at hok
    have e : Thk.begins d (tsOf ps n) = (c == 38 || c == 33 || c == 46 || c == 40) := by unfold Thk.begins; rw [hd_tsOf hn, hk]
    rw [e]
    have hc := kind_of w rb tb tc ps n d h hn c.toNat (by rw [hk]; rfl)
    clear hk e hnx
    rcases sign_cases hok with rfl | rfl | rfl | rfl | rfl | rfl | rfl | rfl | rfl
    all_goals
      simp at hc
      clear hok
      go_enter Tryz.func174, Tryz.ntmps174
      go_wp2_with (first | (go_at_call 102; refine hc.mono ?_; rintro e w1 ⟨rfl, q, rfl⟩))
      go_ret
      exact ⟨rfl, _, rfl⟩
end Go.Proofs.YtjmcdklhaieldaaGreatDoor
namespace Go.Proofs.YtjmcdklhaieldaaGreatDoor
open Go.RowKit

def hitK (ks : List UInt8) (K : Int) : Bool := ks.any fun c => (c.toNat : Int) == K

set_option maxHeartbeats 2000000 in
set_option maxRecDepth 100000 in
theorem sign_any (w : World) (rb tb tc : Nat) (ps : List (Thk.Tok × Value)) (n d : Nat) (h : Rd w rb tb tc ps n d) (hn : n < ps.length) (K : Int) (hK : kindI ps[n].1.kind = K)
    (ks : List UInt8) (kb : Nat) (hks : ks.length ≤ 3) (hcs : ∀ i (hi : i < ks.length), w.cell? ⟨kb, i, none⟩ = some (.int .u8 ks[i].toNat)) :
    Calls Tryz.prog 184 #[.pointer (some ⟨rb, 0, none⟩), .slice (some ⟨kb, 0, none⟩) ks.length ks.length] w fun e w' =>
      (hitK ks K = true → e = .returned (.int .u8 K) ∧ Rd w' rb tb tc ps (n + 1) d) ∧ (hitK ks K = false → e = .returned (.int .u8 0) ∧ Rd w' rb tb tc ps n d) ∧ Kp rb w.heap.size w w' := by
  have hc := fun q => kind_of (w.drewN q) rb tb tc ps n d (h.drewN q) hn K hK
  obtain ⟨c0, c1, c2, fz⟩ := h.cells
  have hl := h.2.2.1
  have H : Hid (Rd w rb tb tc ps n d) := h
  have HC : Hid (∀ i (hi : i < ks.length), w.cell? ⟨kb, i, none⟩ = some (.int .u8 ks[i].toNat)) := hcs
  clear h hK hcs
  go_enter Tryz.func184, Tryz.ntmps184
  go_wp2_with fail
  go_loopw [9] (fun i wr => ∃ (j q : Nat), j ≤ ks.length ∧ i = .int .i64 j ∧ wr = w.drewN q ∧ Hid (∀ t (ht : t < ks.length), t < j → ((ks[t].toNat : Int) == K) = false)) (fun i _ => ks.length - (intOf i).toNat)
  case atStart => exact ⟨0, 0, Nat.zero_le _, rfl, rfl, fun t _ ht => by omega⟩
  case round =>
    obtain ⟨j, q, hj, rfl, rfl, hN⟩ := hrel
    by_cases hlt : j < ks.length
    · have hcj := HC.out j hlt
      have hlt' : (j : Int) < ks.length := by omega
      by_cases hm : K = ks[j].toNat
      · have tm : (K == (ks[j].toNat : Int)) = true := by rw [hm]; simp
        have hhit : hitK ks K = true := by
          unfold hitK; rw [List.any_eq_true]; exact ⟨ks[j], List.getElem_mem hlt, by rw [hm]; simp⟩
        have HF : Hid (hitK ks K = true) := hhit
        have HM : Hid (K = ks[j].toNat) := hm
        clear hm hhit
        go_wp2_with (first | (go_at_call 102; refine (hc _).mono ?_; rintro e w1 ⟨rfl, q, rfl⟩))
        go_ret
        refine ⟨fun _ => ⟨?_, ?_⟩, fun h => ?_, ?_⟩
        · show Ending.returned (Value.int IntKind.u8 _) = _
          rw [HM.out]
        · exact (H.out.set1 (n + 1)).below (below_drewN (Below.refl _ _) _)
        · rw [HF.out] at h; cases h
        · exact ((Kp.refl _ _ _).setRb _ _).drewN _
      · have tm : (K == (ks[j].toNat : Int)) = false := beq_eq_false_iff_ne.2 hm
        have hN' : Hid (∀ t (ht : t < ks.length), t < j + 1 → ((ks[t].toNat : Int) == K) = false) := by
          intro t ht h1
          by_cases e : t = j
          · subst e; exact beq_eq_false_iff_ne.2 (fun e => hm e.symm)
          · exact hN.out t ht (by omega)
        clear hm hN
        go_wp2_with (first | (go_at_call 102; refine (hc _).mono ?_; rintro e w1 ⟨rfl, q, rfl⟩))
        go_roundw
        case rel => exact ⟨j + 1, _, by omega, by go_num, rfl, hN'⟩
        case measure => simp [intOf]; omega
    · have hno : hitK ks K = false := by
        unfold hitK
        rw [List.any_eq_false]
        intro c hc
        obtain ⟨t, ht, rfl⟩ := List.getElem_of_mem hc
        rw [hN.out t ht (by omega)]; simp
      have HF : Hid (hitK ks K = false) := hno
      clear hno hN
      go_wp2_with fail
      go_ret
      refine ⟨fun h => ?_, fun _ => ⟨rfl, ?_⟩, ?_⟩
      · rw [HF.out] at h; cases h
      · exact H.out.drewN _
      · exact (Kp.refl _ _ _).drewN _
end Go.Proofs.YtjmcdklhaieldaaGreatDoor
namespace Go.Proofs.YtjmcdklhaieldaaGreatDoor
open Go.RowKit

def faultV (er p : Nat) : Value := .iface 104 (.agg #[.int .i64 er, .int .i64 p])

/-- A row of cells, in a block that may be. -/
def Row (w : World) (A : Nat → Prop) (e : TypeId) (sz : Nat) (v : Value) (n : Nat) (xs : List Value) : Prop := w.ownsRow 0 e sz v n xs ∧ ∀ g, v.ownBlock = some g → A g

theorem Row.mono {w : World} {A A' : Nat → Prop} {e : TypeId} {sz : Nat} {v : Value} {n : Nat} {xs : List Value} (h : Row w A e sz v n xs) (hA : ∀ g, g < w.heap.size → A g → A' g) : Row w A' e sz v n xs :=
  ⟨h.1, fun g hg => hA g (h.1.lt g hg).2 (h.2 g hg)⟩

theorem own_blocks {w w' : World} {base : Nat} {e : TypeId} {size : Nat} {v : Value} {n : Nat} {xs : List Value} (h : w.ownsRow base e size v n xs) (hb : ∀ g, v.ownBlock = some g → w'.heap[g]? = w.heap[g]?) : w'.ownsRow base e size v n xs := by
  obtain ⟨h1, h2⟩ := h
  refine ⟨h1, ?_⟩
  rcases h2 with h2 | ⟨g, cap, cur, hv, hg, hh, r⟩
  · exact Or.inl h2
  · refine Or.inr ⟨g, cap, cur, hv, hg, ?_, r⟩
    rw [hb g (by rw [hv]; rfl)]; exact hh

theorem Row.kept {w w' : World} {A : Nat → Prop} {e : TypeId} {sz : Nat} {v : Value} {n : Nat} {xs : List Value} (h : Row w A e sz v n xs) (hb : ∀ g, g < w.heap.size → A g → w'.heap[g]? = w.heap[g]?) : Row w' A e sz v n xs :=
  ⟨own_blocks h.1 (fun g hg => hb g (h.1.lt g hg).2 (h.2 g hg)), h.2⟩

def termC : List Thk.Term → List Value → List Value
  | .mk a _ b :: s, v :: vs => .int .u8 a.toNat :: v :: .int .u8 b.toNat :: termC s vs
  | _, _ => []

mutual
def RPiece (w : World) (A : Nat → Prop) : Thk.Piece → Value → Prop
  | .name b, v => v = .iface 221 (.agg #[.string ⟨b.toArray⟩]) ∧ b.length ≤ 2000
  | .lit b, v => v = .iface 292 (.agg #[.string ⟨b.toArray⟩])
  | .cls l, v => ∃ u, v = .iface 294 (.agg #[u]) ∧ Spans w 0 u l
  | .any, v => v = .iface 318 (.agg #[])
  | .group c, v => ∃ u us, v = .iface 268 (.agg #[u]) ∧ Row w A 187 1 u c.length us ∧ RSeqs w A c us
def RTerm (w : World) (A : Nat → Prop) : Thk.Term → Value → Prop
  | .mk _ p _, v => RPiece w A p v
def RTerms (w : World) (A : Nat → Prop) : List Thk.Term → List Value → Prop
  | [], vs => vs = []
  | t :: s, vs => ∃ v vs', vs = v :: vs' ∧ RTerm w A t v ∧ RTerms w A s vs'
def RSeqs (w : World) (A : Nat → Prop) : List (List Thk.Term) → List Value → Prop
  | [], us => us = []
  | s :: c, us => ∃ u us', us = u :: us' ∧ (∃ vs, Row w A 219 3 u s.length (termC s vs) ∧ RTerms w A s vs) ∧ RSeqs w A c us'
 end

def RSeq (w : World) (A : Nat → Prop) (s : Thk.Seq) (u : Value) : Prop := ∃ vs, Row w A 219 3 u s.length (termC s vs) ∧ RTerms w A s vs
def RChoice (w : World) (A : Nat → Prop) (c : Thk.Choice) (u : Value) : Prop := ∃ us, Row w A 187 1 u c.length us ∧ RSeqs w A c us

/-- What is asked of a world that stands for another: the spans' rows, and the blocks that may be, are as they were. -/
structure Sm (A : Nat → Prop) (w w' : World) : Prop where
  spans : ∀ u l, Spans w 0 u l → Spans w' 0 u l
  blocks : ∀ g, g < w.heap.size → A g → w'.heap[g]? = w.heap[g]?

mutual
theorem RPiece.kept {w w' : World} {A : Nat → Prop} (h : Sm A w w') : ∀ (p : Thk.Piece) (v : Value), RPiece w A p v → RPiece w' A p v
  | .name _, _, hp => by simp only [RPiece] at hp ⊢; exact hp
  | .lit _, _, hp => by simp only [RPiece] at hp ⊢; exact hp
  | .cls _, _, hp => by
    simp only [RPiece] at hp ⊢
    obtain ⟨u, hv, hs⟩ := hp
    exact ⟨u, hv, h.spans _ _ hs⟩
  | .any, _, hp => by simp only [RPiece] at hp ⊢; exact hp
  | .group c, _, hp => by
    simp only [RPiece] at hp ⊢
    obtain ⟨u, us, hv, hr, hc⟩ := hp
    exact ⟨u, us, hv, hr.kept h.blocks, RSeqs.kept h c us hc⟩
theorem RTerm.kept {w w' : World} {A : Nat → Prop} (h : Sm A w w') : ∀ (t : Thk.Term) (v : Value), RTerm w A t v → RTerm w' A t v
  | .mk _ p _, v, ht => by simp only [RTerm] at ht ⊢; exact RPiece.kept h p v ht
theorem RTerms.kept {w w' : World} {A : Nat → Prop} (h : Sm A w w') : ∀ (s : List Thk.Term) (vs : List Value), RTerms w A s vs → RTerms w' A s vs
  | [], _, hs => by simp only [RTerms] at hs ⊢; exact hs
  | t :: s, _, hs => by
    simp only [RTerms] at hs ⊢
    obtain ⟨v, vs', hv, ht, hs⟩ := hs
    exact ⟨v, vs', hv, RTerm.kept h t v ht, RTerms.kept h s vs' hs⟩
theorem RSeqs.kept {w w' : World} {A : Nat → Prop} (h : Sm A w w') : ∀ (c : List (List Thk.Term)) (us : List Value), RSeqs w A c us → RSeqs w' A c us
  | [], _, hs => by simp only [RSeqs] at hs ⊢; exact hs
  | s :: c, _, hs => by
    simp only [RSeqs] at hs ⊢
    obtain ⟨u, us', hu, ⟨vs, hr, ht⟩, hc⟩ := hs
    exact ⟨u, us', hu, ⟨vs, hr.kept h.blocks, RTerms.kept h s vs ht⟩, RSeqs.kept h c us' hc⟩
 end

mutual
theorem RPiece.mono {w : World} {A A' : Nat → Prop} (h : ∀ g, g < w.heap.size → A g → A' g) : ∀ (p : Thk.Piece) (v : Value), RPiece w A p v → RPiece w A' p v
  | .name _, _, hp => by simp only [RPiece] at hp ⊢; exact hp
  | .lit _, _, hp => by simp only [RPiece] at hp ⊢; exact hp
  | .cls _, _, hp => by simp only [RPiece] at hp ⊢; exact hp
  | .any, _, hp => by simp only [RPiece] at hp ⊢; exact hp
  | .group c, _, hp => by
    simp only [RPiece] at hp ⊢
    obtain ⟨u, us, hv, hr, hc⟩ := hp
    exact ⟨u, us, hv, hr.mono h, RSeqs.mono h c us hc⟩
theorem RTerm.mono {w : World} {A A' : Nat → Prop} (h : ∀ g, g < w.heap.size → A g → A' g) : ∀ (t : Thk.Term) (v : Value), RTerm w A t v → RTerm w A' t v
  | .mk _ p _, v, ht => by simp only [RTerm] at ht ⊢; exact RPiece.mono h p v ht
theorem RTerms.mono {w : World} {A A' : Nat → Prop} (h : ∀ g, g < w.heap.size → A g → A' g) : ∀ (s : List Thk.Term) (vs : List Value), RTerms w A s vs → RTerms w A' s vs
  | [], _, hs => by simp only [RTerms] at hs ⊢; exact hs
  | t :: s, _, hs => by
    simp only [RTerms] at hs ⊢
    obtain ⟨v, vs', hv, ht, hs⟩ := hs
    exact ⟨v, vs', hv, RTerm.mono h t v ht, RTerms.mono h s vs' hs⟩
theorem RSeqs.mono {w : World} {A A' : Nat → Prop} (h : ∀ g, g < w.heap.size → A g → A' g) : ∀ (c : List (List Thk.Term)) (us : List Value), RSeqs w A c us → RSeqs w A' c us
  | [], _, hs => by simp only [RSeqs] at hs ⊢; exact hs
  | s :: c, _, hs => by
    simp only [RSeqs] at hs ⊢
    obtain ⟨u, us', hu, ⟨vs, hr, ht⟩, hc⟩ := hs
    exact ⟨u, us', hu, ⟨vs, hr.mono h, RTerms.mono h s vs ht⟩, RSeqs.mono h c us' hc⟩
 end

theorem RChoice.kept {w w' : World} {A : Nat → Prop} (h : Sm A w w') {c : Thk.Choice} {u : Value} (hc : RChoice w A c u) : RChoice w' A c u := by
  obtain ⟨us, hr, hs⟩ := hc
  exact ⟨us, hr.kept h.blocks, RSeqs.kept h c us hs⟩
theorem RChoice.mono {w : World} {A A' : Nat → Prop} (h : ∀ g, g < w.heap.size → A g → A' g) {c : Thk.Choice} {u : Value} (hc : RChoice w A c u) : RChoice w A' c u := by
  obtain ⟨us, hr, hs⟩ := hc
  exact ⟨us, hr.mono h, RSeqs.mono h c us hs⟩
theorem RSeq.kept {w w' : World} {A : Nat → Prop} (h : Sm A w w') {c : Thk.Seq} {u : Value} (hc : RSeq w A c u) : RSeq w' A c u := by
  obtain ⟨us, hr, hs⟩ := hc
  exact ⟨us, hr.kept h.blocks, RTerms.kept h c us hs⟩
theorem RSeq.mono {w : World} {A A' : Nat → Prop} (h : ∀ g, g < w.heap.size → A g → A' g) {c : Thk.Seq} {u : Value} (hc : RSeq w A c u) : RSeq w A' c u := by
  obtain ⟨us, hr, hs⟩ := hc
  exact ⟨us, hr.mono h, RTerms.mono h c us hs⟩

theorem termC_append (s : List Thk.Term) (vs : List Value) (h : s.length = vs.length) (a b : UInt8) (p : Thk.Piece) (v : Value) :
    termC (s ++ [.mk a p b]) (vs ++ [v]) = termC s vs ++ [.int .u8 a.toNat, v, .int .u8 b.toNat] := by
  induction s generalizing vs with
  | nil => cases vs with
    | nil => rfl
    | cons _ _ => simp at h
  | cons t s ih => cases vs with
    | nil => simp at h
    | cons u vs =>
      cases t with
      | mk a' p' b' =>
        simp only [List.cons_append, termC]
        rw [ih vs (by simpa using h)]

theorem RTerms.length {w : World} {A : Nat → Prop} : ∀ {s : List Thk.Term} {vs : List Value}, RTerms w A s vs → s.length = vs.length
  | [], _, h => by simp only [RTerms] at h; subst h; rfl
  | t :: s, _, h => by
    simp only [RTerms] at h
    obtain ⟨v, vs', rfl, _, hs⟩ := h
    simp [RTerms.length hs]
theorem RSeqs.length {w : World} {A : Nat → Prop} : ∀ {s : List (List Thk.Term)} {vs : List Value}, RSeqs w A s vs → s.length = vs.length
  | [], _, h => by simp only [RSeqs] at h; subst h; rfl
  | t :: s, _, h => by
    simp only [RSeqs] at h
    obtain ⟨v, vs', rfl, _, hs⟩ := h
    simp [RSeqs.length hs]

theorem RTerms.snoc {w : World} {A : Nat → Prop} {t : Thk.Term} {v : Value} (ht : RTerm w A t v) : ∀ {s : List Thk.Term} {vs : List Value}, RTerms w A s vs → RTerms w A (s ++ [t]) (vs ++ [v])
  | [], _, h => by simp only [RTerms] at h; subst h; simp [RTerms, ht]
  | t' :: s, _, h => by
    simp only [RTerms] at h
    obtain ⟨v', vs', rfl, h1, hs⟩ := h
    simp only [List.cons_append, RTerms]
    exact ⟨v', vs' ++ [v], rfl, h1, RTerms.snoc ht hs⟩
theorem RSeqs.snoc {w : World} {A : Nat → Prop} {t : Thk.Seq} {v : Value} (ht : RSeq w A t v) : ∀ {s : List (List Thk.Term)} {vs : List Value}, RSeqs w A s vs → RSeqs w A (s ++ [t]) (vs ++ [v])
  | [], _, h => by
    simp only [RSeqs] at h; subst h
    simp only [List.nil_append, RSeqs]
    exact ⟨v, [], rfl, ht, rfl⟩
  | t' :: s, _, h => by
    simp only [RSeqs] at h
    obtain ⟨v', vs', rfl, h1, hs⟩ := h
    simp only [List.cons_append, RSeqs]
    exact ⟨v', vs' ++ [v], rfl, h1, RSeqs.snoc ht hs⟩

end Go.Proofs.YtjmcdklhaieldaaGreatDoor
