import Derived.Test.YtjmcdklhaieldaaGreatDoorR15
import Derived.Test.YtjmcdklhaieldaaGreatDoorPA
set_option linter.all false
namespace Go.Proofs.YtjmcdklhaieldaaGreatDoor
open Go.RowKit
attribute [local go_sem ↓] Go.wp_at_zero Go.wp_at_succ

def SgAll (w : World) (B rb : Nat) (S : Thk.ST) (c : UInt8) (e' : Ending) (w' : World) : Prop :=
  match S.signs c with
  | .error er => RdErr w B er e' w'
  | .ok S' => RdPost w B rb S' (.int .i64 0) e' w'

theorem okA_of {b : Thk.Bytes} (h : Thk.okSign b) (hne : b ≠ []) : okA b := by
  rcases h with h | h | h
  · exact absurd h hne
  · exact .inl h
  · exact .inr h

theorem okS_of {b : Thk.Bytes} (h : Thk.okSign b) : b = [] ∨ okA b := by
  rcases h with h | h | h
  · exact .inl h
  · exact .inr (.inl h)
  · exact .inr (.inr h)

/-- signs: whatever the sign. -/
theorem rsigns_any (w : World) (B rb : Nat) (M : MV) (lab : Nat → Nat) (h : Mem w B rb M lab (· = 0)) (hok : Thk.StOk M.st) (n : Nat) (hb : Thk.Bd n M.st) (hn : n ≤ 2100) (hne : M.os ≠ []) (c : UInt8) (hc : Thk.signB c = true) :
    Calls Tryz.prog 82 #[.pointer (some ⟨rb, 0, none⟩), .string ⟨#[c]⟩] w fun e' w' => SgAll w B rb M.st c e' w' := by
  obtain ⟨mr, m, ho⟩ : ∃ mr m, M.os = mr ++ [m] := ⟨M.os.dropLast, M.os.getLast hne, (List.dropLast_concat_getLast hne).symm⟩
  have hxl : M.xs.length ≤ 8400 := by have := hb.xs; simp [MV.st] at this; omega
  have hol : M.os.length ≤ 7 := by have := hb.os; simpa [MV.st] using this
  have hmr : mr.length ≤ 6 := by rw [ho] at hol; simp at hol; exact hol
  have hmm : m.1.terms.length ≤ 2100 ∧ m.1.seqs.length ≤ 2100 := by
    have := hb.each m.1 (by simp [MV.st, ho]); omega
  have htop : M.st.top = m.1 := by simp [MV.st, Thk.ST.top, ho, List.getLastD_concat]
  have hsgn : M.st.sign = M.sign := rfl
  have hmay : M.st.may = M.may := rfl
  have hosl : M.st.os.length = M.os.length := by simp [MV.st]
  have hxsl : M.st.xs.length = M.xs.length := by simp [MV.st]
  have hs := hok.sg
  rw [hsgn] at hs
  unfold SgAll
  rcases Thk.sign9 hc with rfl | rfl | rfl | rfl | rfl | rfl | rfl | rfl | rfl
  · by_cases hg : M.sign = []
    · simp only [Thk.ST.signs, hsgn, hg, if_true]
      exact rsigns_slash w B rb M lab h hg mr m ho (by omega) (by omega) (by omega)
    · simp only [Thk.ST.signs, hsgn, hg, if_true, if_false]
      exact rsigns_err1 w B rb M lab h (okA_of hs hg) 47 (.inl rfl)
  · by_cases hg : M.sign = []
    · simp [Thk.ST.signs, hsgn, hg]
      exact rsigns_ahead w B rb M lab h hg 38 (.inl rfl)
    · simp [Thk.ST.signs, hsgn, hg]
      exact rsigns_err1 w B rb M lab h (okA_of hs hg) 38 (.inr (.inl rfl))
  · by_cases hg : M.sign = []
    · simp [Thk.ST.signs, hsgn, hg]
      exact rsigns_ahead w B rb M lab h hg 33 (.inr rfl)
    · simp [Thk.ST.signs, hsgn, hg]
      exact rsigns_err1 w B rb M lab h (okA_of hs hg) 33 (.inr (.inr (.inl rfl)))
  iterate 3
    by_cases hm : M.may = true
    · simp [Thk.ST.signs, hmay, hm]
      obtain ⟨tl, k, x, h1, h2, h3⟩ := hok.may hm
      rw [htop] at h1
      have hk : k < M.xs.length := by rw [← hxsl]; exact (List.getElem?_eq_some_iff.1 h2).1
      have hx : M.xs[k].1 = x := by
        have : M.st.xs[k]? = some M.xs[k].1 := by simp [MV.st, hk]
        rw [this] at h2; exact Option.some.inj h2
      have htl : tl.length ≤ 2100 := by have := hmm.1; rw [h1] at this; simp at this; omega
      exact rsigns_behind w B rb M lab h hm _ (by simp) mr m ho tl k h1 hk (by rw [hx]; exact h3) (by omega) (by omega) (by omega)
    · simp [Thk.ST.signs, hmay, hm]
      exact rsigns_errB w B rb M lab h (by simpa using hm) _ (by simp)
  · by_cases hd : 6 < M.os.length
    · simp [Thk.ST.signs, hosl, hd]
      exact rsigns_deep w B rb M lab h hd
    · simp [Thk.ST.signs, hosl, hd]
      exact rsigns_open w B rb M lab h (by omega)
  · by_cases hg : M.sign = []
    · by_cases hd : 2 ≤ M.os.length
      · simp [Thk.ST.signs, hsgn, hosl, hg, hd, htop, hxsl]
        have hmr0 : mr ≠ [] := by intro e; rw [ho, e] at hd; simp at hd
        obtain ⟨mr', m0, ho'⟩ : ∃ mr' m0, mr = mr' ++ [m0] := ⟨mr.dropLast, mr.getLast hmr0, (List.dropLast_concat_getLast hmr0).symm⟩
        have hm0 : m0.1.terms.length ≤ 2100 := by
          have := hb.each m0.1 (by simp [MV.st, ho, ho']); omega
        have hm' : mr'.length ≤ 6 := by rw [ho'] at hmr; simp at hmr; omega
        exact rsigns_close w B rb M lab h hg mr' m0 m (by rw [ho, ho']) (okS_of (hok.osg m.1 (by simp [MV.st, ho]))) (by omega) (by omega) (by omega) (by omega)
      · simp [Thk.ST.signs, hsgn, hosl, hg, hd]
        exact rsigns_errC w B rb M lab h hg (by omega)
    · simp [Thk.ST.signs, hsgn, hg]
      exact rsigns_err1 w B rb M lab h (okA_of hs hg) 41 (.inr (.inr (.inr rfl)))
  · have e : M.st.signs 46 = .ok (M.st.lay ⟨3, [], [], 0, []⟩) := by simp [Thk.ST.signs]
    rw [e]
    have := rsigns_dot w B rb M lab h mr m ho (okS_of hs) (by omega) (by omega) (by omega)
    simpa [Thk.ST.lay, hsgn, hxsl] using this

abbrev zGram : Value := .agg #[.slice none 0 0, .slice none 0 0]
abbrev zGramO : Obj := .cells #[.slice none 0 0, .slice none 0 0] 73

set_option maxHeartbeats 4000000 in
set_option maxRecDepth 100000 in
theorem rfirst_any (w : World) (rb : Nat) (k p e k' p' e' : Nat) (s s' : ByteArray) (a a' : Option Addr) (n c n' c' : Nat) :
    Calls Tryz.prog 81 #[.pointer (some ⟨rb, 0, none⟩), .agg #[.int .i64 k, .int .i64 p, .int .i64 e, .string s, .slice a n c], .agg #[.int .i64 k', .int .i64 p', .int .i64 e', .string s', .slice a' n' c']] w
      fun en w' => en = .returned (.tuple #[zGram, .int .i64 2, .int .i64 (if k = 1 then (p' : Int) else p)]) ∧ Below w.heap.size w w' := by
  by_cases hk : k = 1
  · subst hk
    go_enter Tryz.func81, Tryz.ntmps81
    go_wp2_with fail
    go_region
    all_goals go_wp2_with fail
    all_goals refine bodyPost_ret (v := .tuple #[zGram, .int .i64 2, .int .i64 p']) (by simp [results, Tryz.results81, go_sem]; done) rfl ⟨by simp, ?_⟩
    all_goals exact ((((below_alloc w _).alloc (by simp) _).alloc (by simp; omega) _)).drew
  · have hk' : ¬ (k : Int) = 1 := by omega
    go_enter Tryz.func81, Tryz.ntmps81
    go_wp2_with fail
    go_region
    all_goals go_wp2_with fail
    all_goals refine bodyPost_ret (v := .tuple #[zGram, .int .i64 2, .int .i64 p]) (by simp [results, Tryz.results81, go_sem]; done) rfl ⟨by simp [hk], ?_⟩
    all_goals exact ((((below_alloc w _).alloc (by simp) _).alloc (by simp; omega) _)).drew
end Go.Proofs.YtjmcdklhaieldaaGreatDoor
