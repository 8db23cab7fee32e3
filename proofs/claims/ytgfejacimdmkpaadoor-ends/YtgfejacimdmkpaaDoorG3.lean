import Derived.Test.YtgfejacimdmkpaaDoorG2
set_option linter.all false
namespace Go.Proofs.YtgfejacimdmkpaaDoor
open Go.RowKit

/-- The tokens from place n on. -/
def tsOf (ps : List (Thk.Tok × Value)) (n : Nat) : List Thk.Tok := (ps.map (·.1)).drop n

def GoodP (ps : List (Thk.Tok × Value)) : Prop := ∀ i (h : i < ps.length), okKind ps[i].1.kind ∧ (ps[i].1.kind.last = false → i + 1 < ps.length)

theorem tsOf_cons {ps : List (Thk.Tok × Value)} {n : Nat} (h : n < ps.length) : tsOf ps n = ps[n].1 :: tsOf ps (n + 1) := by
  unfold tsOf
  rw [List.drop_eq_getElem_cons (by simpa using h)]
  simp
theorem hd_tsOf {ps : List (Thk.Tok × Value)} {n : Nat} (h : n < ps.length) : Thk.hd (tsOf ps n) = ps[n].1 := by rw [tsOf_cons h]; rfl
theorem tl_tsOf {ps : List (Thk.Tok × Value)} {n : Nat} (h : n < ps.length) : (tsOf ps n).tail = tsOf ps (n + 1) := by rw [tsOf_cons h]; rfl

theorem kindI_arrow {k : Thk.TK} (hk : okKind k) : (kindI k == 3) = k.isArrow := by
  cases k with
  | sign c =>
    have := signB_ge hk
    rw [beq_eq_false_iff_ne.2 (by simp only [kindI]; omega)]
    rfl
  | _ => rfl

/-- The nine signs. -/
theorem sign_cases {c : UInt8} (h : Thk.signB c = true) : c = 47 ∨ c = 38 ∨ c = 33 ∨ c = 63 ∨ c = 42 ∨ c = 43 ∨ c = 40 ∨ c = 41 ∨ c = 46 := by
  simpa [Thk.signB] using h

theorem kind_of (w : World) (rb tb tc : Nat) (ps : List (Thk.Tok × Value)) (n d : Nat) (h : Rd w rb tb tc ps n d) (hn : n < ps.length) (K : Int) (hK : kindI ps[n].1.kind = K) :
    Calls Tryd.prog 32 #[.pointer (some ⟨rb, 0, none⟩)] w fun e w' => e = .returned (.int .u8 K) ∧ ∃ q, w' = w.drewN q := hK ▸ kind_any w rb tb tc ps n d h hn

set_option maxHeartbeats 2000000 in
theorem beginsTerm_any (w : World) (rb tb tc : Nat) (ps : List (Thk.Tok × Value)) (n d : Nat) (h : Rd w rb tb tc ps n d) (hg : GoodP ps) (hn : n < ps.length) (hd : d ≤ 6) :
    Calls Tryd.prog 66 #[.pointer (some ⟨rb, 0, none⟩)] w fun e w' => e = .returned (.bool (Thk.begins d (tsOf ps n))) ∧ ∃ q, w' = w.drewN q := by
  obtain ⟨hok, hnx⟩ := hg n hn
  cases hk : ps[n].1.kind with
  | name =>
    have hn1 := hnx (by rw [hk]; rfl)
    have e : Thk.begins d (tsOf ps n) = !(decide (d = 0) && (kindI ps[n + 1].1.kind == 3)) := by
      unfold Thk.begins
      rw [hd_tsOf hn, tl_tsOf hn, hd_tsOf hn1, hk, kindI_arrow (hg (n + 1) hn1).1]
      simp only []
      rfl
    rw [e]
    have hc := kind_of w rb tb tc ps n d h hn 2 (by rw [hk]; rfl)
    have hb := fun q => beginsRule_any (w.drewN q) rb tb tc ps n d (h.drewN q) hn1 hd
    clear e
    generalize (decide (d = 0) && (kindI ps[n + 1].1.kind == 3)) = b at *
    go_enter Tryd.func66, Tryd.ntmps66
    go_wp2_with (first | (go_at_call 32; refine hc.mono ?_; rintro e w1 ⟨rfl, q, rfl⟩) | (go_at_call 68; refine (hb _).mono ?_; rintro e w1 ⟨rfl, q, rfl⟩))
    go_ret
    exact ⟨rfl, _, rfl⟩
  | fin =>
    have e : Thk.begins d (tsOf ps n) = false := by unfold Thk.begins; rw [hd_tsOf hn, hk]
    rw [e]
    have hc := kind_of w rb tb tc ps n d h hn 0 (by rw [hk]; rfl)
    go_enter Tryd.func66, Tryd.ntmps66
    go_wp2_with (first | (go_at_call 32; refine hc.mono ?_; rintro e w1 ⟨rfl, q, rfl⟩))
    go_ret
    exact ⟨rfl, _, rfl⟩
  | bad =>
    have e : Thk.begins d (tsOf ps n) = false := by unfold Thk.begins; rw [hd_tsOf hn, hk]
    rw [e]
    have hc := kind_of w rb tb tc ps n d h hn 1 (by rw [hk]; rfl)
    go_enter Tryd.func66, Tryd.ntmps66
    go_wp2_with (first | (go_at_call 32; refine hc.mono ?_; rintro e w1 ⟨rfl, q, rfl⟩))
    go_ret
    exact ⟨rfl, _, rfl⟩
  | arrow =>
    have e : Thk.begins d (tsOf ps n) = false := by unfold Thk.begins; rw [hd_tsOf hn, hk]
    rw [e]
    have hc := kind_of w rb tb tc ps n d h hn 3 (by rw [hk]; rfl)
    go_enter Tryd.func66, Tryd.ntmps66
    go_wp2_with (first | (go_at_call 32; refine hc.mono ?_; rintro e w1 ⟨rfl, q, rfl⟩))
    go_ret
    exact ⟨rfl, _, rfl⟩
  | lit =>
    have e : Thk.begins d (tsOf ps n) = true := by unfold Thk.begins; rw [hd_tsOf hn, hk]
    rw [e]
    have hc := kind_of w rb tb tc ps n d h hn 4 (by rw [hk]; rfl)
    go_enter Tryd.func66, Tryd.ntmps66
    go_wp2_with (first | (go_at_call 32; refine hc.mono ?_; rintro e w1 ⟨rfl, q, rfl⟩))
    go_ret
    exact ⟨rfl, _, rfl⟩
  | cls =>
    have e : Thk.begins d (tsOf ps n) = true := by unfold Thk.begins; rw [hd_tsOf hn, hk]
    rw [e]
    have hc := kind_of w rb tb tc ps n d h hn 5 (by rw [hk]; rfl)
    go_enter Tryd.func66, Tryd.ntmps66
    go_wp2_with (first | (go_at_call 32; refine hc.mono ?_; rintro e w1 ⟨rfl, q, rfl⟩))
    go_ret
    exact ⟨rfl, _, rfl⟩
  | sign c =>
    rw [hk] at hok
    have e : Thk.begins d (tsOf ps n) = (c == 38 || c == 33 || c == 46 || c == 40) := by unfold Thk.begins; rw [hd_tsOf hn, hk]
    rw [e]
    have hc := kind_of w rb tb tc ps n d h hn c.toNat (by rw [hk]; rfl)
    clear hk e hnx
    rcases sign_cases hok with rfl | rfl | rfl | rfl | rfl | rfl | rfl | rfl | rfl
    all_goals
      simp at hc
      clear hok
      go_enter Tryd.func66, Tryd.ntmps66
      go_wp2_with (first | (go_at_call 32; refine hc.mono ?_; rintro e w1 ⟨rfl, q, rfl⟩))
      go_ret
      exact ⟨rfl, _, rfl⟩
end Go.Proofs.YtgfejacimdmkpaaDoor
