import Derived.Test.YtjmcdklhaieldaaGreatDoorR8
set_option linter.all false
namespace Go.Proofs.YtjmcdklhaieldaaGreatDoor
open Go.RowKit
attribute [local go_sem ↓] Go.wp_at_zero Go.wp_at_succ

theorem Mem.weaken {w : World} {B rb : Nat} {M : MV} {lab : Nat → Nat} {P P' : Nat → Prop} (h : Mem w B rb M lab P) (hp : ∀ l, P l → P' l) : Mem w B rb M lab P' :=
  ⟨h.ge, h.blk, h.ex, h.ru, h.op, h.items, fun p hpm => ⟨(h.parts p hpm).1, fun g hg => hp _ ((h.parts p hpm).2 g hg)⟩, h.opens⟩

theorem Mem.topCells {w : World} {B rb : Nat} {M : MV} {lab : Nat → Nat} {P : Nat → Prop} (h : Mem w B rb M lab P) {mr : List (Thk.OP × Value × Value)} {m : Thk.OP × Value × Value} (ho : M.os = mr ++ [m]) {og oc : Nat} (hv : M.vo = .slice (some ⟨og, 0, none⟩) (mr.length + 1) oc) :
    og < w.heap.size ∧ w.cell? ⟨og, mr.length * 3, none⟩ = some m.2.1 ∧ w.cell? ⟨og, mr.length * 3 + 1, none⟩ = some m.2.2 ∧ w.cell? ⟨og, mr.length * 3 + 2, none⟩ = some (.string ⟨m.1.sign.toArray⟩) ∧ (∀ o, w.frozen? ⟨og, o, none⟩ = false) ∧ (∃ cs, w.heap[og]? = some (.cells cs 180 (0, 0))) ∧
      Ints w B m.2.1 m.1.seqs ∧ Lab lab m.2.1 (2 * mr.length + 1) ∧ Ints w B m.2.2 m.1.terms ∧ Lab lab m.2.2 (2 * mr.length + 2) := by
  obtain ⟨og', oc', hv', _, hol, _, q0, q1, q2, qf⟩ := h.topAt ho
  rw [hv] at hv'
  simp at hv'
  obtain ⟨rfl, rfl⟩ := hv'
  have hop := h.op
  rw [hv] at hop
  have hlen : mr.length < M.os.length := by rw [ho]; simp
  have hm : M.os[mr.length]'hlen = m := by simp only [ho]; rw [List.getElem_append_right (Nat.le_refl _)]; simp
  have h4 := h.opens mr.length hlen
  rw [hm] at h4
  exact ⟨hol, q0, q1, q2, qf, own_blk hop rfl, h4⟩

/-- A sequence more in the innermost. -/
theorem Mem.pushSeq {w w1 : World} {B rb : Nat} {M : MV} {lab : Nat → Nat} {P : Nat → Prop} (h : Mem w B rb M lab P) {mr : List (Thk.OP × Value × Value)} {m : Thk.OP × Value × Value} (ho : M.os = mr ++ [m]) {og oc : Nat} (hv : M.vo = .slice (some ⟨og, 0, none⟩) (mr.length + 1) oc)
    (hP : ¬ P (2 * mr.length + 1)) {e g cap : Nat} (hown : w1.ownsRow B 3 1 (.slice (some ⟨g, 0, none⟩) (m.1.seqs.length + 1) cap) (m.1.seqs.length + 1) (m.1.seqs.map intV ++ [intV e])) (hg : w.grownBy w1 m.2.1.ownBlock) (hat : m.2.1.ownBlock = some g ∨ g = w.heap.size) :
    Mem (w1.setCell ⟨og, mr.length * 3, none⟩ (.slice (some ⟨g, 0, none⟩) (m.1.seqs.length + 1) cap)) B rb { M with os := mr ++ [({ m.1 with seqs := m.1.seqs ++ [e] }, .slice (some ⟨g, 0, none⟩) (m.1.seqs.length + 1) cap, m.2.2)] } (upd lab g (2 * mr.length + 1)) P ∧
      KT B w (w1.setCell ⟨og, mr.length * 3, none⟩ (.slice (some ⟨g, 0, none⟩) (m.1.seqs.length + 1) cap)) := by
  have hl : mr.length < M.os.length := by rw [ho]; simp
  obtain ⟨h1, h2, h3, h4⟩ := h.opens mr.length hl
  have hm : M.os[mr.length]'hl = m := by simp only [ho]; rw [List.getElem_append_right (Nat.le_refl _)]; simp
  rw [hm] at h1 h2 h3 h4
  have hup : ∀ b l, b < w.heap.size → lab b = l → (b = g → l = 2 * mr.length + 1) → upd lab g (2 * mr.length + 1) b = l := by
    intro b l hb hlb hbg
    unfold upd
    by_cases hx : b = g
    · rw [if_pos hx, hbg hx]
    · rw [if_neg hx]; exact hlb
  have hgl : ∀ b, b < w.heap.size → b = g → lab b = 2 * mr.length + 1 := by
    intro b hb e1
    rcases hat with hat | hat
    · rw [e1]; exact h2 g hat
    · omega
  have hu : ∀ b, b < w.heap.size → upd lab g (2 * mr.length + 1) b = lab b := fun b hb => hup b _ hb rfl (hgl b hb)
  obtain ⟨g1, g2, g3, g4, g5, g6, g7, g8⟩ := h.grown h1 hg _ h2 hP
  -- the world behind the append
  have c := Chg.set og (mr.length * 3) (.slice (some ⟨g, 0, none⟩) (m.1.seqs.length + 1) cap) w1
  have hle : M.os.length = mr.length + 1 := by rw [ho]; simp
  rw [hle, hv] at g4
  obtain ⟨cs, hob⟩ := own_blk g4 (b := og) rfl
  have hnr : rb ≠ og := by
    intro e1; subst e1
    have := own_ty g4 g1 (by decide)
    simp [Value.ownBlock] at this
  have hst := (g4.stored (mr.length * 3) (.slice (some ⟨g, 0, none⟩) (m.1.seqs.length + 1) cap)).1
  have hw1 := hg.size
  refine ⟨⟨h.ge, by rw [c.same rb (by have := h.lt; omega) hnr]; exact g1, own_keep c g2 (own_ty g2 hob (by decide)), own_keep c g3 (own_ty g3 hob (by decide)), ?_, fun p hp => own_keep c (g5 p hp) (own_ty (g5 p hp) hob (by decide)), fun p hp => ⟨own_keep c (g6 p hp) (own_ty (g6 p hp) hob (by decide)), fun b hb => by rw [hu b ((h.parts p hp).1.lt b hb).2]; exact (h.parts p hp).2 b hb⟩, ?_⟩, ?_⟩
  · simp only [hv, List.length_append, List.length_singleton]
    have hst := hst; rw [ho, show mr.length * 3 = mr.length * 3 + 0 from rfl, opC_set mr m 0 (by decide)] at hst
    simpa [opC] using hst
  · intro k hk
    simp only [] at hk ⊢
    by_cases hkm : k < mr.length
    · rw [List.getElem_append_left hkm]
      obtain ⟨i1, i2, i3, i4⟩ := h.opens k (by omega)
      obtain ⟨j1, j2⟩ := g7 k (by omega)
      simp only [ho, List.getElem_append_left hkm] at i1 i2 i3 i4 j1 j2
      exact ⟨own_keep c (j1 (by omega)) (own_ty (j1 (by omega)) hob (by decide)), fun b hb => by rw [hu b (i1.lt b hb).2]; exact i2 b hb, own_keep c (j2 (by omega)) (own_ty (j2 (by omega)) hob (by decide)), fun b hb => by rw [hu b (i3.lt b hb).2]; exact i4 b hb⟩
    · have hke : k = mr.length := by simp at hk; omega
      subst hke
      rw [List.getElem_append_right (Nat.le_refl _)]
      simp only [Nat.sub_self, List.getElem_cons_zero]
      obtain ⟨j1, j2⟩ := g7 mr.length (by omega)
      rw [hm] at j2
      have hnew : Ints w1 B (.slice (some ⟨g, 0, none⟩) (m.1.seqs.length + 1) cap) (m.1.seqs ++ [e]) := by unfold Ints; simpa using hown
      exact ⟨own_keep c hnew (own_ty hnew hob (by decide)), fun b hb => by simp [Value.ownBlock] at hb; subst hb; simp [upd], own_keep c (j2 (by omega)) (own_ty (j2 (by omega)) hob (by decide)), fun b hb => by rw [hu b (h3.lt b hb).2]; exact h4 b hb⟩
  · refine KT.trans ⟨hg.os, hg.tape, hg.output, hg.size, ?_, g8⟩ (KT.chg c (by have := h.lt; have := h.ge; omega) (g4.lt og rfl).1 (fun cs' t fr hb => by rw [hob] at hb; simp at hb; rw [← hb.2.1]; decide))
    intro k hk
    refine hg.block k (by have := h.lt; have := h.ge; omega) (fun e1 => ?_)
    have := (h1.lt k e1.symm).1
    omega


/-- The innermost's terms go: their row has been handed on. -/
theorem Mem.nilTerms {w : World} {B rb : Nat} {M : MV} {lab : Nat → Nat} {mr : List (Thk.OP × Value × Value)} (h : Mem w B rb M lab (fun l => l = 0 ∨ l = 2 * mr.length + 2)) {m : Thk.OP × Value × Value} (ho : M.os = mr ++ [m]) {og oc : Nat} (hv : M.vo = .slice (some ⟨og, 0, none⟩) (mr.length + 1) oc) :
    Mem (w.setCell ⟨og, mr.length * 3 + 1, none⟩ (.slice none 0 0)) B rb { M with os := mr ++ [({ m.1 with terms := [] }, m.2.1, .slice none 0 0)] } (fun b => if lab b = 2 * mr.length + 2 then 0 else lab b) (· = 0) ∧ KT B w (w.setCell ⟨og, mr.length * 3 + 1, none⟩ (.slice none 0 0)) := by
  have hlen : mr.length < M.os.length := by rw [ho]; simp
  have hm : M.os[mr.length]'hlen = m := by simp only [ho]; rw [List.getElem_append_right (Nat.le_refl _)]; simp
  obtain ⟨h1, h2, h3, h4⟩ := h.opens mr.length hlen
  rw [hm] at h1 h2 h3 h4
  refine h.setTop ho hv 1 (by decide) (.slice none 0 0) (by simp [opC]) _ _ ?_ ?_ ?_ ?_
  · intro p hp g hg _
    rcases (h.parts p hp).2 g hg with h0 | h0
    · simp only [h0]; split <;> rfl
    · simp only [h0, if_true]
  · intro k hk
    obtain ⟨i1, i2, i3, i4⟩ := h.opens k (by omega)
    simp only [ho, List.getElem_append_left hk] at i1 i2 i3 i4
    refine ⟨fun b hb => ?_, fun b hb => ?_⟩
    · have e1 := i2 b hb; simp only []; rw [e1, if_neg (by omega)]
    · have e1 := i4 b hb; simp only []; rw [e1, if_neg (by omega)]
  · exact ⟨h1, fun b hb => by have e1 := h2 b hb; simp only []; rw [e1, if_neg (by omega)]⟩
  · exact ⟨World.ownsRow_nil _ _ _ _, fun b hb => by simp [Value.ownBlock] at hb⟩

theorem Mem.drew {w : World} {B rb : Nat} {M : MV} {lab : Nat → Nat} {P : Nat → Prop} (h : Mem w B rb M lab P) : Mem w.drew B rb M lab P := h.below (Below.refl _ _).drew (fun _ _ => rfl)
theorem Mem.drewN {w : World} {B rb : Nat} {M : MV} {lab : Nat → Nat} {P : Nat → Prop} (h : Mem w B rb M lab P) (q : Nat) : Mem (w.drewN q) B rb M lab P := h.below (below_drewN (Below.refl _ _) q) (fun _ _ => rfl)

set_option maxHeartbeats 8000000 in
set_option maxRecDepth 100000 in
theorem rslash_any (w : World) (B rb : Nat) (M : MV) (lab : Nat → Nat) (h : Mem w B rb M lab (· = 0)) (mr : List (Thk.OP × Value × Value)) (m : Thk.OP × Value × Value) (ho : M.os = mr ++ [m]) (hb0 : M.xs.length ≤ 100000) (hb1 : m.1.seqs.length ≤ 100000) (hb2 : mr.length ≤ 100000) :
    Calls Tryz.prog 119 #[.pointer (some ⟨rb, 0, none⟩)] w fun e' w' => RdPost w B rb M.st.slash (.tuple #[]) e' w' := by
  obtain ⟨i0, hi, hz0, hz1, hz2⟩ := info_parts Tryz.infoInt
  obtain ⟨og, oc, hv, hgB, hol, hor, q0, q1, q2, qf⟩ := h.topAt ho
  have c2 : w.cell? ⟨rb, 2, none⟩ = some M.vo := cell_of_block h.blk 2
  rw [hv] at c2
  obtain ⟨h1, h2, h3, h4⟩ := (h.topCells ho hv).2.2.2.2.2.2
  obtain ⟨ta, tc, hvt⟩ := own_form h3
  rw [hvt] at q1
  obtain ⟨xa, xc, hx⟩ := own_form h.ex
  have had := fun q => radd_any (w.drewN q) B rb xa xc M.xs.length M.vr M.vo M.sign M.may (M.xs.flatMap exC) 5 none 0 0 ⟨#[]⟩ 0 ta m.1.terms.length tc (by rw [← hx]; exact (h.drewN q).blk) (by rw [← hx]; exact (h.drewN q).ex) hb0 h.ge
  have hrl := h.lt
  have hge := h.ge
  have hL : (mr.length : Int) < (mr.length : Int) + 1 := by omega
  have H : Hid (Mem w B rb M lab (· = 0)) := h
  have HO : Hid (M.os = mr ++ [m]) := ho
  have HV : Hid (M.vo = .slice (some ⟨og, 0, none⟩) (mr.length + 1) oc) := hv
  have HT : Hid (m.2.2 = .slice ta m.1.terms.length tc) := hvt
  have HX := (show Hid _ from hx)
  have HML : Hid (m.1.seqs.length + 1 ≤ maxLen) := by show _ ≤ _; unfold maxLen; omega
  clear h ho hv hvt h1 h2 h3 h4 hx q0 q2
  go_enter Tryz.func119, Tryz.ntmps119
  go_wp2_with fail
  go_quiet (fail)
  go_wp2_with fail
  refine (had _).mono ?_
  rintro e1 w2 ⟨xg, xcap, rfl, hAE⟩
  have h2 := ((H.out.drewN nq).weaken (P' := fun l => l = 0 ∨ l = 2 * mr.length + 2) (fun l hl => .inl hl)).add (re := ⟨5, [], [], 0, m.1.terms⟩) (iv := .slice none 0 0) (pv := m.2.2) (by rw [HX.out, HT.out]; exact hAE) (World.ownsRow_nil _ _ _ _) ((H.out.drewN nq).topCells HO.out HV.out).2.2.2.2.2.2.2.2.1 (fun b hb => .inr (((H.out.drewN nq).topCells HO.out HV.out).2.2.2.2.2.2.2.2.2 b hb))
  obtain ⟨hM2, hKA⟩ := h2
  have HKA : Hid (KT B w w2) := ((KT.refl B w).drewN nq).trans hKA
  obtain ⟨M2, hM2e⟩ : ∃ M2, M2 = ({ M with vx := .slice (some ⟨xg, 0, none⟩) (M.xs.length + 1) xcap, xs := M.xs ++ [(⟨5, [], [], 0, m.1.terms⟩, .slice none 0 0, m.2.2)] } : MV) := ⟨_, rfl⟩
  rw [← hM2e] at hM2
  have ho2 : M2.os = mr ++ [m] := by rw [hM2e]; exact HO.out
  have hv2 : M2.vo = .slice (some ⟨og, 0, none⟩) (mr.length + 1) oc := by rw [hM2e]; exact HV.out
  have HST : Hid (M2.st = M.st.add ⟨5, [], [], 0, m.1.terms⟩) := by rw [hM2e]; show _ = _; simp [MV.st, Thk.ST.add]
  obtain ⟨k0, k1, k2, k3, kf, ⟨ocs, hoc⟩, k4, k5, k6, k7⟩ := hM2.topCells ho2 hv2
  obtain ⟨sa, sc, hvs⟩ := own_form k4
  rw [hvs] at k1
  have hown : w2.ownsRow B 3 1 (.slice sa m.1.seqs.length sc) m.1.seqs.length (m.1.seqs.map intV) := by rw [← hvs]; exact k4
  have HS := (show Hid _ from hvs)
  have HM2 := (show Hid _ from hM2)
  have HO2 := (show Hid _ from ho2)
  have HV2 := (show Hid _ from hv2)
  have HOC := (show Hid _ from hoc)
  have hB2 : B ≤ w2.heap.size := by have := hM2.lt; omega
  clear had hAE hKA hM2 hM2e ho2 hv2 hvs k4 k5 k6 k7 k3 q1 hoc
  go_wp2_with (first | (at_builtin; refine wpList_append_lies _ rfl _ _ 38 rfl B 3 i0 _ 1 8 Tryz.underlying38 hi hz0 hz1 hz2 rfl (by decide) _ _ _ rfl (hown.alloc _) ⟨w2.heap.size, 0, none⟩ 1 1 [intV M.xs.length] rfl rfl ?c1 ?c2 (by decide) HML.out ?c4 ?c5 (w2.heap.size + 1) (by simp) ?_))
  case c1 => exact cell_one_new _ _ _
  case c2 => intro u hu; simp at hu; subst hu; rfl
  case c4 => omega
  case c5 => simp; omega
  intro g cap w3 hown' hgrow hat hgl
  have hMW := HM2.out.below (lab' := lab) (w' := w2.alloc (.cells #[.int .i64 M.xs.length] 3)) (below_alloc _ _) (fun _ _ => rfl)
  have hPS := hMW.pushSeq HO2.out HV2.out (by simp) hown' (by rw [HS.out]; exact hgrow) (by rw [HS.out]; simpa using hat)
  have hogk : w3.heap[og]? = w2.heap[og]? := by
    rw [hgrow.block og (by simp; omega) (fun e1 => own_ty hown HOC.out (by decide) e1.symm)]
    exact heap_alloc_old _ _ k0
  have d0 : w3.cell? ⟨og, mr.length * 3, none⟩ = some (.slice sa m.1.seqs.length sc) := (World.cell?_of_block hogk).trans k1
  have d1 : w3.cell? ⟨og, mr.length * 3 + 1, none⟩ = some m.2.2 := (World.cell?_of_block hogk).trans k2
  have df : ∀ o, w3.frozen? ⟨og, o, none⟩ = false := fun o => (World.frozen?_of_block hogk).trans (kf _)
  have HPS := (show Hid _ from hPS)
  clear hMW hPS hogk hown hown' hgrow hat k1 k2 kf
  go_wp2_with fail
  obtain ⟨hM3, hK3⟩ := HPS.out
  obtain ⟨hM4, hK4⟩ := hM3.nilTerms (m := ({ m.1 with seqs := m.1.seqs ++ [M.xs.length] }, .slice (some ⟨g, 0, none⟩) (m.1.seqs.length + 1) cap, m.2.2)) rfl HV2.out
  go_end0
  refine ⟨rfl, _, _, hM4, ?_, ?_⟩
  · exact HKA.out.trans ((KT.alloc B w2 hB2 _).trans (hK3.trans hK4))
  · have e1 : M.st.top = m.1 := by simp [MV.st, Thk.ST.top, HO.out, List.getLastD_concat]
    have e2 : M.st.xs.length = M.xs.length := by simp [MV.st]
    unfold Thk.ST.slash
    rw [e1, e2, ← HST.out]
    simp [MV.st, Thk.ST.setTop, HO2.out]
end Go.Proofs.YtjmcdklhaieldaaGreatDoor
