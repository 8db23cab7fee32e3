import Derived.Test.YtjmcdklhaieldaaGreatDoorRD
set_option linter.all false
namespace Go.Proofs.YtjmcdklhaieldaaGreatDoor
open Go.RowKit
attribute [local go_sem ↓] Go.wp_at_zero Go.wp_at_succ

theorem Tryz.infoRRule : (Tryz.prog.info? 78).map (fun i => (i.zero, i.size, i.bytes)) = some (some (.agg #[.string ⟨#[]⟩, .int .i64 0]), 2, 24) := by kernel_rfl

/-- One open choice more. -/
theorem Mem.pushOpen {w w1 : World} {B rb : Nat} {M : MV} {lab : Nat → Nat} (h : Mem w B rb M lab (· = 0)) {sg : Thk.Bytes} {g cap : Nat}
    (hown : w1.ownsRow B 180 3 (.slice (some ⟨g, 0, none⟩) (M.os.length + 1) cap) (M.os.length + 1) (M.os.flatMap opC ++ [.slice none 0 0, .slice none 0 0, .string ⟨sg.toArray⟩])) (hg : w.grownBy w1 M.vo.ownBlock) (hat : M.vo.ownBlock = some g ∨ g = w.heap.size) :
    Mem (w1.setCell ⟨rb, 2, none⟩ (.slice (some ⟨g, 0, none⟩) (M.os.length + 1) cap)) B rb { M with vo := .slice (some ⟨g, 0, none⟩) (M.os.length + 1) cap, os := M.os ++ [(⟨[], [], sg⟩, .slice none 0 0, .slice none 0 0)] } lab (· = 0) ∧ KT B w (w1.setCell ⟨rb, 2, none⟩ (.slice (some ⟨g, 0, none⟩) (M.os.length + 1) cap)) := by
  have hty : ∀ {e : TypeId} {sz : Nat} {u : Value} {n' : Nat} {cs' : List Value}, w.ownsRow B e sz u n' cs' → e ≠ 180 → w1.ownsRow B e sz u n' cs' := by
    intro e sz u n' cs' hu he
    exact own_blocks hu (fun b hb => hg.block b (hu.lt b hb).2 (fun e1 => own_ty2 hu h.op he e1.symm hb))
  have hrb1 : w1.heap[rb]? = some (rdO M.vx M.vr M.vo M.sign M.may) := by
    rw [hg.block rb h.lt (fun e => own_ty h.op h.blk (by decide) e.symm)]; exact h.blk
  have c := Chg.set rb 2 (.slice (some ⟨g, 0, none⟩) (M.os.length + 1) cap) w1
  have hge := h.ge
  have hlt := h.lt
  have hkeep : ∀ {e : TypeId} {sz : Nat} {u : Value} {n' : Nat} {cs' : List Value}, w1.ownsRow B e sz u n' cs' → e ≠ 175 → (w1.setCell ⟨rb, 2, none⟩ (.slice (some ⟨g, 0, none⟩) (M.os.length + 1) cap)).ownsRow B e sz u n' cs' := fun hu he => own_keep c hu (own_ty hu hrb1 he)
  refine ⟨⟨h.ge, by rw [setCell_block hrb1]; rfl, hkeep (hty h.ex (by decide)) (by decide), hkeep (hty h.ru (by decide)) (by decide), ?_, fun p hp => hkeep (hty (h.items p hp) (by decide)) (by decide), fun p hp => ⟨hkeep (hty (h.parts p hp).1 (by decide)) (by decide), (h.parts p hp).2⟩, ?_⟩, ?_⟩
  · have := hkeep hown (by decide)
    simpa [opC] using this
  · intro k hk
    simp only [] at hk ⊢
    by_cases hkm : k < M.os.length
    · rw [List.getElem_append_left hkm]
      obtain ⟨i1, i2, i3, i4⟩ := h.opens k hkm
      exact ⟨hkeep (hty i1 (by decide)) (by decide), i2, hkeep (hty i3 (by decide)) (by decide), i4⟩
    · have hke : k = M.os.length := by simp at hk; omega
      subst hke
      rw [List.getElem_append_right (Nat.le_refl _)]
      simp only [Nat.sub_self, List.getElem_cons_zero]
      exact ⟨World.ownsRow_nil _ _ _ _, fun b hb => by simp [Value.ownBlock] at hb, World.ownsRow_nil _ _ _ _, fun b hb => by simp [Value.ownBlock] at hb⟩
  · refine KT.trans ⟨hg.os, hg.tape, hg.output, hg.size, ?_, ?_⟩ (KT.chg c (by have := hg.size; omega) h.ge (fun cs t fr hb => by rw [hrb1] at hb; simp at hb; rw [← hb.2.1]; decide))
    · intro k hk
      refine hg.block k (by omega) (fun e1 => ?_)
      have := (h.op.lt k e1.symm).1
      omega
    · intro k cs t fr hk ht
      refine hg.block k (heap_lt' hk) (fun e => ?_)
      obtain ⟨cs2, hc⟩ := own_blk h.op e.symm
      rw [hk] at hc; simp at hc; rw [hc.2.1] at ht; exact ht (by decide)

/-- One rule more. -/
theorem Mem.pushRule {w w1 : World} {B rb : Nat} {M : MV} {lab : Nat → Nat} (h : Mem w B rb M lab (· = 0)) {nm : Thk.Bytes} {g cap : Nat}
    (hown : w1.ownsRow B 78 2 (.slice (some ⟨g, 0, none⟩) (M.rs.length + 1) cap) (M.rs.length + 1) (M.rs.flatMap ruC ++ [.string ⟨nm.toArray⟩, .int .i64 0])) (hg : w.grownBy w1 M.vr.ownBlock) (hat : M.vr.ownBlock = some g ∨ g = w.heap.size) :
    Mem (w1.setCell ⟨rb, 1, none⟩ (.slice (some ⟨g, 0, none⟩) (M.rs.length + 1) cap)) B rb { M with vr := .slice (some ⟨g, 0, none⟩) (M.rs.length + 1) cap, rs := M.rs ++ [(nm, 0)] } lab (· = 0) ∧ KT B w (w1.setCell ⟨rb, 1, none⟩ (.slice (some ⟨g, 0, none⟩) (M.rs.length + 1) cap)) := by
  have hty : ∀ {e : TypeId} {sz : Nat} {u : Value} {n' : Nat} {cs' : List Value}, w.ownsRow B e sz u n' cs' → e ≠ 78 → w1.ownsRow B e sz u n' cs' := by
    intro e sz u n' cs' hu he
    exact own_blocks hu (fun b hb => hg.block b (hu.lt b hb).2 (fun e1 => own_ty2 hu h.ru he e1.symm hb))
  have hrb1 : w1.heap[rb]? = some (rdO M.vx M.vr M.vo M.sign M.may) := by
    rw [hg.block rb h.lt (fun e => own_ty h.ru h.blk (by decide) e.symm)]; exact h.blk
  have c := Chg.set rb 1 (.slice (some ⟨g, 0, none⟩) (M.rs.length + 1) cap) w1
  have hge := h.ge
  have hlt := h.lt
  have hkeep : ∀ {e : TypeId} {sz : Nat} {u : Value} {n' : Nat} {cs' : List Value}, w1.ownsRow B e sz u n' cs' → e ≠ 175 → (w1.setCell ⟨rb, 1, none⟩ (.slice (some ⟨g, 0, none⟩) (M.rs.length + 1) cap)).ownsRow B e sz u n' cs' := fun hu he => own_keep c hu (own_ty hu hrb1 he)
  refine ⟨⟨h.ge, by rw [setCell_block hrb1]; rfl, hkeep (hty h.ex (by decide)) (by decide), ?_, hkeep (hty h.op (by decide)) (by decide), fun p hp => hkeep (hty (h.items p hp) (by decide)) (by decide), fun p hp => ⟨hkeep (hty (h.parts p hp).1 (by decide)) (by decide), (h.parts p hp).2⟩, ?_⟩, ?_⟩
  · have := hkeep hown (by decide)
    simpa [ruC] using this
  · intro k hk
    obtain ⟨i1, i2, i3, i4⟩ := h.opens k hk
    exact ⟨hkeep (hty i1 (by decide)) (by decide), i2, hkeep (hty i3 (by decide)) (by decide), i4⟩
  · refine KT.trans ⟨hg.os, hg.tape, hg.output, hg.size, ?_, ?_⟩ (KT.chg c (by have := hg.size; omega) h.ge (fun cs t fr hb => by rw [hrb1] at hb; simp at hb; rw [← hb.2.1]; decide))
    · intro k hk
      refine hg.block k (by omega) (fun e1 => ?_)
      have := (h.ru.lt k e1.symm).1
      omega
    · intro k cs t fr hk ht
      refine hg.block k (heap_lt' hk) (fun e => ?_)
      obtain ⟨cs2, hc⟩ := own_blk h.ru e.symm
      rw [hk] at hc; simp at hc; rw [hc.2.1] at ht; exact ht (by decide)

set_option maxHeartbeats 4000000 in
set_option maxRecDepth 100000 in
theorem rsigns_open (w : World) (B rb : Nat) (M : MV) (lab : Nat → Nat) (h : Mem w B rb M lab (· = 0)) (hd : M.os.length ≤ 6) :
    Calls Tryz.prog 82 #[.pointer (some ⟨rb, 0, none⟩), .string ⟨#[40]⟩] w fun e' w' => RdPost w B rb { M.st with os := M.st.os ++ [⟨[], [], M.sign⟩], sign := [], may := false } (.int .i64 0) e' w' := by
  obtain ⟨i0, hi, hz0, hz1, hz2⟩ := info_parts Tryz.infoOpen
  obtain ⟨c3, c4, c2, fz⟩ := h.c3
  obtain ⟨oa, oc, hv⟩ := own_form h.op
  rw [hv] at c2
  have hown : w.ownsRow B 180 3 (.slice oa M.os.length oc) M.os.length (M.os.flatMap opC) := by rw [← hv]; exact h.op
  have hd' : ¬ (6 : Int) < (M.os.length : Int) := by omega
  have hge := h.ge
  have hlt := h.lt
  have f2 := fz 2
  have f3 := fz 3
  have f4 := fz 4
  have H := hideP h
  have HV := hideP hv
  have HML : Hid (M.os.length + 1 ≤ maxLen) := by show _ ≤ _; unfold maxLen; omega
  clear h hv fz
  go_enter Tryz.func82, Tryz.ntmps82
  go_wp2_with (first | (at_builtin; refine wpList_append_lies _ rfl _ _ 173 rfl B 180 i0 _ 3 64 Tryz.underlying173 hi hz0 hz1 hz2 rfl (by decide) _ _ _ rfl (hown.alloc _) ⟨w.heap.size, 0, none⟩ 1 1 [.slice none 0 0, .slice none 0 0, .string ⟨M.sign.toArray⟩] rfl rfl ?c1 ?c2 (by decide) HML.out ?c4 ?c5 (w.heap.size + 1) (by simp) ?_))
  case c2 => first | exact ⟨rfl, rfl⟩ | (intro u hu; simp at hu; rcases hu with rfl | rfl <;> rfl)
  case c4 => omega
  case c5 => first | omega | (simp; omega)
  intro g cap w1 hown' hgrow hat hgl
  have hMW := H.out.below (lab' := lab) (w' := w.alloc (.cells #[.slice none 0 0, .slice none 0 0, .string ⟨M.sign.toArray⟩] 180)) (below_alloc _ _) (fun _ _ => rfl)
  have hPO := hMW.pushOpen hown' (by rw [HV.out]; exact hgrow) (by rw [HV.out]; simpa using hat)
  have hrb1 : w1.heap[rb]? = some (rdO M.vx M.vr M.vo M.sign M.may) := by
    rw [hgrow.block rb (by simp; omega) (fun e => by rw [← HV.out] at e; exact own_ty H.out.op H.out.blk (by decide) e.symm)]
    rw [heap_alloc_old _ _ hlt]; exact H.out.blk
  have d2 : w1.cell? ⟨rb, 2, none⟩ = some M.vo := cell_of_block hrb1 2
  have d3 : w1.cell? ⟨rb, 3, none⟩ = some (.string ⟨M.sign.toArray⟩) := cell_of_block hrb1 3
  have d4 : w1.cell? ⟨rb, 4, none⟩ = some (.bool M.may) := cell_of_block hrb1 4
  have df := frozen_of_block hrb1
  have HPO := hideP hPO
  clear hMW hPO hrb1 hown hown' hgrow hat c2 c3 c4 f2 f3 f4
  go_wp2_with fail
  obtain ⟨h1, k1⟩ := HPO.out
  obtain ⟨h2, k2⟩ := h1.setSign []
  obtain ⟨h3, k3⟩ := h2.setMay false
  go_ret
  refine ⟨rfl, _, _, h3, (KT.alloc B w (by omega) _).trans (k1.trans (k2.trans k3)), ?_⟩
  simp [MV.st]

set_option maxHeartbeats 4000000 in
set_option maxRecDepth 100000 in
theorem rsigns_dot (w : World) (B rb : Nat) (M : MV) (lab : Nat → Nat) (h : Mem w B rb M lab (· = 0)) (mr : List (Thk.OP × Value × Value)) (m : Thk.OP × Value × Value) (ho : M.os = mr ++ [m]) (hsg : M.sign = [] ∨ okA M.sign)
    (hb0 : M.xs.length ≤ 90000) (hb1 : m.1.terms.length ≤ 90000) (hb2 : mr.length ≤ 90000) :
    Calls Tryz.prog 82 #[.pointer (some ⟨rb, 0, none⟩), .string ⟨#[46]⟩] w fun e' w' => RdPost w B rb ((({ M.st with sign := [] } : Thk.ST).add ⟨3, [], [], 0, []⟩).term M.xs.length M.sign) (.int .i64 0) e' w' := by
  obtain ⟨c3, c4, c2, fz⟩ := h.c3
  obtain ⟨h1, k1⟩ := h.setSign []
  obtain ⟨xa, xc, hx⟩ := own_form h.ex
  have had := radd_any _ B rb xa xc M.xs.length M.vr M.vo [] M.may (M.xs.flatMap exC) 3 none 0 0 ⟨#[]⟩ 0 none 0 0 (by rw [← hx]; exact h1.blk) (by rw [← hx]; exact h1.ex) (by omega) h1.ge
  simp only [show ((3 : Nat) : Int) = 3 from rfl] at had
  have H1 := hideP h1
  have K1 := hideP k1
  have HX := hideP hx
  have HO := hideP ho
  have f3 := fz 3
  clear h h1 k1 hx ho fz
  go_enter Tryz.func82, Tryz.ntmps82
  go_wp2_with fail
  refine had.mono ?_
  rintro e1 w1 ⟨xg, xcap, rfl, hAE⟩
  obtain ⟨hM1, hK1⟩ := H1.out.add (re := ⟨3, [], [], 0, []⟩) (iv := .slice none 0 0) (pv := .slice none 0 0) (by rw [HX.out]; exact hAE) (World.ownsRow_nil _ _ _ _) (World.ownsRow_nil _ _ _ _) (fun b hb => by simp [Value.ownBlock] at hb)
  have htm := rterm_any w1 B rb _ lab hM1 mr m HO.out M.xs.length M.sign hsg (by simp; omega) (by omega) (by omega)
  have HK1 := hideP hK1
  clear had hAE hM1 hK1
  go_wp2_with fail
  refine htm.mono ?_
  rintro e1 w2 ⟨rfl, M2, lab2, hM2, hK2, hS2⟩
  have HE : Hid (∃ M' lab', Mem w2 B rb M' lab' (· = 0) ∧ KT B w w2 ∧ M'.st = (({ M.st with sign := [] } : Thk.ST).add ⟨3, [], [], 0, []⟩).term M.xs.length M.sign) := ⟨M2, lab2, hM2, K1.out.trans (HK1.out.trans hK2), by rw [hS2]; simp [MV.st, Thk.ST.add]⟩
  clear htm hM2 hK2 hS2
  go_wp2_with fail
  go_ret
  exact ⟨rfl, HE.out⟩
end Go.Proofs.YtjmcdklhaieldaaGreatDoor
