import Derived.Test.YtjmcdklhaieldaaGreatDoorEA
set_option linter.all false
namespace Go.Proofs.YtjmcdklhaieldaaGreatDoor
open Go.RowKit

/-- What errors.As reads of the package errors. -/
def ErrLaid (w : World) : Prop := w.cell? ⟨0, 0, none⟩ = some (.iface 229 (.agg #[.pointer (some ⟨2, 66, none⟩)]))

theorem ErrLaid.lt {w : World} (h : ErrLaid w) : 0 < w.heap.size := by
  rcases Nat.lt_or_ge 0 w.heap.size with h' | h'
  · exact h'
  · unfold ErrLaid at h; simp [World.cell?, Array.getElem?_eq_none h'] at h
theorem ErrLaid.below {w w' : World} (h : ErrLaid w) (hb : Below w.heap.size w w') : ErrLaid w' := by
  have := hb.cell (p := ⟨0, 0, none⟩) h.lt
  unfold ErrLaid at h ⊢; rw [this]; exact h

set_option maxHeartbeats 4000000 in
theorem told_nil (w : World) : Calls Tryz.prog 28 #[.nilIface] w fun e w' => e = .returned (.tuple #[.int .i64 0, .int .i64 0]) ∧ Below w.heap.size w w' := by
  go_enter Tryz.func28, Tryz.ntmps28
  go_wp2_with (first | (go_at_call 49; refine (as_nil _ _).mono ?_; rintro e w' ⟨rfl, rfl⟩))
  go_ret2
  exact ⟨rfl, below_alloc _ _⟩

set_option maxHeartbeats 4000000 in
theorem told_fault (er p : Nat) (w : World) (hg : ErrLaid w) : Calls Tryz.prog 28 #[faultV er p] w fun e w' => e = .returned (.tuple #[.int .i64 er, .int .i64 p]) ∧ Below w.heap.size w w' := by
  have hB : Below w.heap.size w (w.alloc (.cells #[.int .i64 0, .int .i64 0] 104)) := below_alloc _ _
  have hl := hg.lt
  have ha := as_hit er p 0 0 w.heap.size (w.alloc (.cells #[.int .i64 0, .int .i64 0] 104)) (hg.below hB) (heap_alloc_same _ _)
  simp only [faultV]
  clear hg
  go_enter Tryz.func28, Tryz.ntmps28
  go_wp2_with fail
  refine ha.mono ?_
  rintro e w1 ⟨rfl, h1, hK⟩
  have c0 := cell_of_block h1 0
  have c1 := cell_of_block h1 1
  have HB : Hid (Below w.heap.size w w1) := hB.trans (Kp.below (hK.mono (by simp)) (Nat.le_refl _))
  clear ha hK h1 hB
  go_wp2_with fail
  go_quiet (fail)
  go_wp2_with fail
  go_ret2
  exact ⟨rfl, below_drewN HB.out _⟩
end Go.Proofs.YtjmcdklhaieldaaGreatDoor
namespace Go.Proofs.YtjmcdklhaieldaaGreatDoor
open Go.RowKit

/-- What is wrong with a text, or its grammar, and which of its rules may take nothing. -/
inductive PAll (l : List UInt8) : Except (Nat × Nat) (List Thk.Rule × List Bool) → Prop
  | text {x} : PRead l (.error x) → PAll l (.error x)
  | rules {g x} : PRead l (.ok g) → PLook g (.error x) → PAll l (.error x)
  | ok {g E} : PRead l (.ok g) → PLook g (.ok E) → PAll l (.ok (g, E))

def AllPost (l : List UInt8) (w : World) (e : Ending) (w' : World) : Prop :=
  ∃ res, PAll l res ∧ Below w.heap.size w w' ∧ match res with
    | .ok (g, E) => g ≠ [] ∧ g.length ≤ 20 ∧ ∃ a cp mb eb, e = .returned (.tuple #[.slice (some a) g.length cp, factsV mb eb g.length, .nilIface]) ∧ RGram w' (w.heap.size ≤ ·) g (.slice (some a) g.length cp) ∧ FactsAt w' mb eb (namesOf g) E
    | .error (er, p) => e = .returned (.tuple #[.slice none 0 0, zFacts, faultV er p])

set_option maxHeartbeats 8000000 in
set_option maxRecDepth 100000 in
theorem readAll_any (s : ByteArray) (w : World) (hs : s.size ≤ maxLen) :
    Calls Tryz.prog 27 #[.string s] w fun e w' => AllPost s.data.toList w e w' := by
  have hrd := read_any s (w.alloc zFactsO) hs
  go_enter Tryz.func27, Tryz.ntmps27
  go_wp2_with fail
  refine hrd.mono ?_
  rintro e w1 ⟨res, hP, hb, hE⟩
  have hs1 := hb.size
  simp at hs1
  have hr1 : w1.heap[w.heap.size]? = some zFactsO := by rw [hb.block _ (by simp)]; exact heap_alloc_same _ _
  have q1 := cell_of_block hr1
  have f1 := frozen_of_block hr1
  have hlt1 : w.heap.size < w1.heap.size := by omega
  have HB1 : Hid (Below w.heap.size w w1) := (below_alloc _ _).trans (hb.mono (by simp))
  have HP : Hid (PRead s.data.toList res) := hP
  have HR1 : Hid (w1.heap[w.heap.size]? = some zFactsO) := hr1
  clear hrd hP hr1
  cases res with
  | error x =>
    obtain ⟨er, p⟩ := x
    simp only [faultV] at hE
    subst hE
    clear hb
    go_wp2_with fail
    refine bodyPost_ret (v := .tuple #[.slice none 0 0, zFacts, faultV er p]) (by simp [results, Tryz.results27, go_sem, faultV, q1, hlt1]) rfl ?_
    exact ⟨.error (er, p), .text HP.out, (HB1.out.setCell (Nat.le_refl _) _).setCell (Nat.le_refl _) _, rfl⟩
  | ok g =>
    obtain ⟨hg0, hgl, a, cp, rfl, hG⟩ := hE
    have hlk := look_any w1 _ g a cp hG hgl hg0
    have HG : Hid (RGram w1 ((w.alloc zFactsO).heap.size ≤ ·) g (.slice (some a) g.length cp)) := hG
    clear hG hb
    go_wp2_with fail
    refine hlk.mono ?_
    rintro e w2 ⟨res2, hP2, hb2, hE2⟩
    have hs2 := hb2.size
    have hr2 : w2.heap[w.heap.size]? = some zFactsO := by rw [hb2.block _ hlt1]; exact HR1.out
    have q2 := cell_of_block hr2
    have f2 := frozen_of_block hr2
    have hlt2 : w.heap.size < w2.heap.size := by omega
    have HB2 : Hid (Below w.heap.size w w2) := HB1.out.trans (hb2.mono (by omega))
    have HP2 : Hid (PLook g res2) := hP2
    have HG2 : Hid (RGram w2 ((w.alloc zFactsO).heap.size ≤ ·) g (.slice (some a) g.length cp)) := HG.out.kept (sm_below hb2)
    have HR2 : Hid (w2.heap[w.heap.size]? = some zFactsO) := hr2
    clear hlk hP2 hb2 hr2 q1 f1
    cases res2 with
    | error x =>
      obtain ⟨er, p⟩ := x
      simp only [faultV] at hE2
      subst hE2
      go_wp2_with fail
      refine bodyPost_ret (v := .tuple #[.slice none 0 0, zFacts, faultV er p]) (by simp [results, Tryz.results27, go_sem, faultV, q2, hlt2]) rfl ?_
      exact ⟨.error (er, p), .rules HP.out HP2.out, ((HB2.out.setCell (Nat.le_refl _) _).setCell (Nat.le_refl _) _).alloc (by simp; omega) _, rfl⟩
    | ok E =>
      obtain ⟨mb, eb, rfl, hF⟩ := hE2
      have HF : Hid (FactsAt w2 mb eb (namesOf g) E) := hF
      have hml := hF.map.lt
      have hel := heap_lt hF.emp
      have hmne : mb ≠ w.heap.size := by
        intro e
        obtain ⟨D, ⟨es, cl, h1, _⟩, _⟩ := hF.map
        rw [e, HR2.out] at h1
        simp at h1
      have hene : eb ≠ w.heap.size := by
        intro e
        have h1 := hF.emp
        rw [e, HR2.out] at h1
        simp [boolsO] at h1
      simp only [factsV]
      clear hF
      go_wp2_with fail
      go_region
      all_goals go_wp2_with fail
      refine bodyPost_ret (v := .tuple #[.slice (some a) g.length cp, factsV mb eb g.length, .nilIface]) (by simp [results, Tryz.results27, go_sem, factsV, q2, hlt2]) rfl ?_
      have hbl : ∀ O u1 u2 b, b ≠ w.heap.size → b < w2.heap.size → (((w2.setCell ⟨w.heap.size, 0, none⟩ u1).setCell ⟨w.heap.size, 1, none⟩ u2).alloc O).drew.heap[b]? = w2.heap[b]? := by
        intro O u1 u2 b h1 h2
        show (((w2.setCell ⟨w.heap.size, 0, none⟩ u1).setCell ⟨w.heap.size, 1, none⟩ u2).alloc O).heap[b]? = _
        rw [heap_alloc_old _ _ (by simp; omega), Below.heap_setCell _ _ _ _ h1, Below.heap_setCell _ _ _ _ h1]
      refine ⟨.ok (g, E), .ok HP.out HP2.out, (((HB2.out.setCell (Nat.le_refl _) _).setCell (Nat.le_refl _) _).alloc (by simp; omega) _).drew, hg0, hgl, a, cp, mb, eb, rfl, ?_, ?_⟩
      · have hG3 : RGram (((w2.setCell ⟨w.heap.size, 0, none⟩ (.map (some mb))).setCell ⟨w.heap.size, 1, none⟩ (.slice (some ⟨eb, 0, none⟩) g.length g.length)).alloc (factsO mb eb g.length)).drew ((w.alloc zFactsO).heap.size ≤ ·) g (.slice (some a) g.length cp) := HG2.out.kept ⟨fun u l hl => own_other (b := w.heap.size) hl (fun b h1 h2 => hbl _ _ _ b h1 h2) HR2.out (by decide), fun b h1 h2 => hbl _ _ _ b (by simp at h2; omega) h1⟩
        obtain ⟨vs, h1, h2⟩ := hG3
        exact ⟨vs, h1.mono (fun b _ hb => by simp at hb; omega), RRules.mono (fun b _ hb => by simp at hb; omega) h2⟩
      · exact HF.out.blocks (hbl _ _ _ mb hmne hml) (hbl _ _ _ eb hene hel)

def CheckPost (l : List UInt8) (w : World) (e : Ending) (w' : World) : Prop :=
  Below w.heap.size w w' ∧ ∃ res, PAll l res ∧ match res with
    | .ok _ => e = .returned (.tuple #[.int .i64 0, .int .i64 0])
    | .error (er, p) => e = .returned (.tuple #[.int .i64 er, .int .i64 p])

set_option maxHeartbeats 8000000 in
set_option maxRecDepth 100000 in
theorem check_any (s : ByteArray) (w : World) (hs : s.size ≤ maxLen) (hg : ErrLaid w) :
    Calls Tryz.prog 11 #[.string s] w fun e w' => CheckPost s.data.toList w e w' := by
  have hrd := readAll_any s w hs
  have HG : Hid (ErrLaid w) := hg
  clear hg
  go_enter Tryz.func11, Tryz.ntmps11
  go_wp2_with fail
  refine hrd.mono ?_
  rintro e w1 ⟨res, hP, hb, hE⟩
  have HB : Hid (Below w.heap.size w w1) := hb
  have hs1 := hb.size
  have HP : Hid (PAll s.data.toList res) := hP
  clear hrd hP hb
  cases res with
  | error x =>
    obtain ⟨er, p⟩ := x
    have htd := fun O => told_fault er p (w1.alloc O) (HG.out.below (HB.out.alloc hs1 O))
    simp only [faultV] at hE htd
    subst hE
    go_wp2_with fail
    refine (htd _).mono ?_
    rintro e w2 ⟨rfl, hb2⟩
    have HB2 : Hid (Below w.heap.size w w2) := (HB.out.alloc hs1 _).trans (hb2.mono (by simp; omega))
    clear htd hb2
    go_wp2_with fail
    go_ret2
    exact ⟨HB2.out, .error (er, p), HP.out, rfl⟩
  | ok y =>
    obtain ⟨g, E⟩ := y
    obtain ⟨_, _, a, cp, mb, eb, rfl, _, _⟩ := hE
    have htd := fun O => told_nil (w1.alloc O)
    simp only [factsV]
    go_wp2_with fail
    refine (htd _).mono ?_
    rintro e w2 ⟨rfl, hb2⟩
    have HB2 : Hid (Below w.heap.size w w2) := (HB.out.alloc hs1 _).trans (hb2.mono (by simp; omega))
    clear htd hb2
    go_wp2_with fail
    go_ret2
    exact ⟨HB2.out, .ok (g, E), HP.out, rfl⟩
end Go.Proofs.YtjmcdklhaieldaaGreatDoor
