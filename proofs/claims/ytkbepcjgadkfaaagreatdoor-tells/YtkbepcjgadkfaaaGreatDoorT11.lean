import Derived.Test.YtkbepcjgadkfaaaGreatDoorT10
import Derived.Test.YtkbepcjgadkfaaaGreatDoorKA
set_option linter.all false
namespace Go.Proofs.YtkbepcjgadkfaaaGreatDoor
open Go.RowKit
attribute [local go_sem ↓] Go.wp_at_zero Go.wp_at_succ

/-- The text of the plainest grammar. -/
abbrev kB : List UInt8 := [97, 32, 60, 45, 32, 39, 120, 39, 32, 97, 32, 47, 32, 39, 121, 39]
abbrev kC : Thk.Choice := [[.mk 0 (.lit [120]) 0, .mk 0 (.name [97]) 0], [.mk 0 (.lit [121]) 0]]

theorem k_toks : Thk.toks kB = [⟨.name, 0, 1, [97], []⟩, ⟨.arrow, 2, 2, [], []⟩, ⟨.lit, 5, 3, [120], []⟩, ⟨.name, 9, 1, [97], []⟩, ⟨.sign 47, 11, 1, [], []⟩, ⟨.lit, 13, 3, [121], []⟩, ⟨.fin, 16, 0, [], []⟩] := by rfl

theorem k_gram : Thk.PGram 0 (Thk.toks kB) (.ok [⟨[97], kC⟩]) := by
  rw [k_toks]
  refine .last (rest := [⟨.fin, 16, 0, [], []⟩]) (.ok rfl rfl (by decide) (.more (rest := [⟨.sign 47, 11, 1, [], []⟩, ⟨.lit, 13, 3, [121], []⟩, ⟨.fin, 16, 0, [], []⟩]) ?_ rfl (.last ?_ (by simp [Thk.hd])))) rfl
  · exact .cons rfl (.ok (.plain rfl)) (.cons rfl (.ok (.plain rfl)) (.nil rfl))
  · exact .cons rfl (.ok (.plain rfl)) (.nil rfl)

theorem k_fine (x : Nat × Nat) : ¬ PLook [⟨[97], kC⟩] (.error x) := by
  intro h
  cases h with
  | twice h =>
    obtain ⟨h1, h2, _⟩ := h
    simp [namesOf] at h1
    subst h1
    simp [twiceAt] at h2
  | unknown _ h =>
    obtain ⟨h1, h2, _⟩ := h
    simp at h1
    subst h1
    simp [Thk.someC, Thk.someS, Thk.someT, Thk.someP, unkT, Thk.Term.piece, namesOf] at h2
  | loop _ _ _ _ _ h =>
    obtain ⟨h1, h2, _⟩ := h
    simp at h1
    subst h1
    simp [Thk.someC, Thk.someS, Thk.someT, Thk.someP, loopT, Thk.Term.behind] at h2
  | left _ _ _ _ _ _ h =>
    obtain ⟨h1, h2, _⟩ := h
    simp at h1
    subst h1
    simp [Wm, dirM, Thk.firstC, Thk.firstS, Thk.firstT, Thk.firstP, Thk.emptyT, Thk.emptyP, markL, namesOf] at h2

/-- Check of the reference tells what PAll tells. -/
theorem rcheck_any (s : ByteArray) (w : World) (hs : s.size ≤ maxLen) (r : Except (Nat × Nat) (List Thk.Rule)) (hP : PRead s.data.toList r) :
    Calls Tryz.prog 10 #[.string s] w fun e w' => Below w.heap.size w w' ∧ ∃ res, PAll s.data.toList res ∧ match res with
      | .ok _ => e = .returned (.tuple #[.int .i64 0, .int .i64 0])
      | .error (er, p) => e = .returned (.tuple #[.int .i64 er, .int .i64 p]) := by
  have hld := rload_any s w hs r hP
  clear hP
  go_enter Tryz.func10, Tryz.ntmps10
  go_wp2_with fail
  refine hld.mono ?_
  rintro e w1 ⟨hb, res, hP, hE⟩
  have HB := hideP hb
  have HP := hideP hP
  have hz := hb.size
  clear hld hb hP
  cases res with
  | error x =>
    obtain ⟨er, p⟩ := x
    obtain ⟨_, xa, xn, xc, ra, rn, rc, rfl⟩ := hE
    go_wp2_with fail
    go_ret2
    exact ⟨HB.out.alloc hz _, .error (er, p), HP.out, rfl⟩
  | ok x =>
    obtain ⟨g, E⟩ := x
    obtain ⟨vx, vr, gb, lb, ps, rs, l, rfl, hok⟩ := hE
    obtain ⟨xa, xc, hvx⟩ := own_form hok.mem.ex
    obtain ⟨ra, rc, hvr⟩ := own_form hok.mem.ru
    subst hvx
    subst hvr
    clear hok
    go_wp2_with fail
    go_ret2
    exact ⟨HB.out.alloc hz _, .ok (g, E), HP.out, rfl⟩

theorem known_any (w : World) (hg : ErrLaid w) : Calls Tryz.prog 11 #[] w fun e w' => e = .returned (.bool true) ∧ Below w.heap.size w w' := by
  have hck := check_any ⟨#[97, 32, 60, 45, 32, 39, 120, 39, 32, 97, 32, 47, 32, 39, 121, 39]⟩ w (by decide) hg
  clear hg
  go_enter Tryz.func11, Tryz.ntmps11
  go_wp2_with fail
  refine hck.mono ?_
  rintro e w1 ⟨hb, res, hP, hE⟩
  obtain ⟨y, rfl⟩ := hP.fine (l := kB) (by decide) k_gram k_fine
  simp only [] at hE
  subst hE
  clear hck hP
  go_wp2_with fail
  go_ret
  exact ⟨rfl, hb⟩

set_option maxHeartbeats 4000000 in
theorem checks_any (s : ByteArray) (w : World) (hs : s.size ≤ maxLen) (hg : ErrLaid w) : Calls Tryz.prog 3 #[.string s] w fun e w' => e = .returned (.bool true) ∧ Below w.heap.size w w' := by
  have hck := check_any s w hs hg
  have HG := hideP hg
  clear hg
  go_enter Tryz.func3, Tryz.ntmps3
  go_wp2_with fail
  refine hck.mono ?_
  rintro e w1 ⟨hb, res, hP, hE⟩
  obtain ⟨r, hr⟩ : ∃ r, PRead s.data.toList r := by
    cases hP with
    | text h => exact ⟨_, h⟩
    | rules h _ => exact ⟨_, h⟩
    | ok h _ => exact ⟨_, h⟩
  have hrc := rcheck_any s w1 hs r hr
  have HB := hideP hb
  have HP := hideP hP
  clear hck hb hP hr
  cases res with
  | error x =>
    obtain ⟨er, p⟩ := x
    simp only [] at hE
    subst hE
    go_wp2_with fail
    refine hrc.mono ?_
    rintro e2 w2 ⟨hb2, res2, hP2, hE2⟩
    have := HP.out.det hP2
    subst this
    simp only [] at hE2
    subst hE2
    have hb3 : Below w.heap.size w w2 := HB.out.trans (hb2.mono HB.out.size)
    have hkn := known_any w2 (HG.out.below hb3)
    have HB3 := hideP hb3
    clear hrc hP2 hb2 hb3
    go_wp2_with fail
    refine hkn.mono ?_
    rintro _ w4 ⟨rfl, hb4⟩
    have HB4 := hideP (HB3.out.trans (hb4.mono HB3.out.size))
    clear hkn hb4
    go_wp2_with fail
    go_ret
    exact ⟨by simp, HB4.out⟩
  | ok x =>
    simp only [] at hE
    subst hE
    go_wp2_with fail
    refine hrc.mono ?_
    rintro e2 w2 ⟨hb2, res2, hP2, hE2⟩
    have := HP.out.det hP2
    subst this
    simp only [] at hE2
    subst hE2
    have hb3 : Below w.heap.size w w2 := HB.out.trans (hb2.mono HB.out.size)
    have hkn := known_any w2 (HG.out.below hb3)
    have HB3 := hideP hb3
    clear hrc hP2 hb2 hb3
    go_wp2_with fail
    refine hkn.mono ?_
    rintro _ w4 ⟨rfl, hb4⟩
    have HB4 := hideP (HB3.out.trans (hb4.mono HB3.out.size))
    clear hkn hb4
    go_wp2_with fail
    go_ret
    exact ⟨by simp, HB4.out⟩
end Go.Proofs.YtkbepcjgadkfaaaGreatDoor
