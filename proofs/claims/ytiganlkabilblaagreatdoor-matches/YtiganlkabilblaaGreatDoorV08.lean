import Derived.Test.YtiganlkabilblaaGreatDoorV03
import Derived.Test.YtiganlkabilblaaGreatDoorV07
import Derived.Test.YtiganlkabilblaaGreatDoorV01
set_option linter.all false
namespace Go.Proofs.YtiganlkabilblaaGreatDoor
open Go.RowKit
attribute [local go_sem ↓] Go.wp_at_zero Go.wp_at_succ
theorem Tryz.infoOpen : (Tryz.prog.info? 209).map (fun i => (i.zero, i.size, i.bytes)) = some (some (.agg #[.slice none 0 0, .slice none 0 0, .string ⟨#[]⟩]), 3, 64) := by kernel_rfl
def RdErr (w : World) (B : Nat) (er : Nat) (e : Ending) (w' : World) : Prop := e = .returned (.int .i64 er) ∧ KT B w w'
def okA (b : Thk.Bytes) : Prop := b = [38] ∨ b = [33]
theorem Mem.c3 {w : World} {B rb : Nat} {M : MV} {lab : Nat → Nat} {P : Nat → Prop} (h : Mem w B rb M lab P) : w.cell? ⟨rb, 3, none⟩ = some (.string ⟨M.sign.toArray⟩) ∧ w.cell? ⟨rb, 4, none⟩ = some (.bool M.may) ∧ w.cell? ⟨rb, 2, none⟩ = some M.vo ∧ (∀ o, w.frozen? ⟨rb, o, none⟩ = false) := ⟨cell_of_block h.blk 3, cell_of_block h.blk 4, cell_of_block h.blk 2, frozen_of_block h.blk⟩
set_option maxHeartbeats 4000000 in
set_option maxRecDepth 100000 in
/-- A sign ahead stands already: / & and ! can't. -/
theorem rsigns_err1 (w : World) (B rb : Nat) (M : MV) (lab : Nat → Nat) (h : Mem w B rb M lab (· = 0)) (hs : okA M.sign) (c : UInt8) (hc : c = 47 ∨ c = 38 ∨ c = 33 ∨ c = 41) :
    Calls Tryz.prog 100 #[.pointer (some ⟨rb, 0, none⟩), .string ⟨#[c]⟩] w fun e' w' => RdErr w B 2 e' w' := by
  obtain ⟨c3, c4, c2, fz⟩ := h.c3
  clear h
  rcases hs with hs | hs <;> rw [hs] at c3 <;> rcases hc with rfl | rfl | rfl | rfl
  all_goals
    go_enter Tryz.func100, Tryz.ntmps100
    go_wp2_with fail
    go_ret
    exact ⟨rfl, KT.refl _ _⟩
set_option maxHeartbeats 4000000 in
set_option maxRecDepth 100000 in
theorem rsigns_ahead (w : World) (B rb : Nat) (M : MV) (lab : Nat → Nat) (h : Mem w B rb M lab (· = 0)) (hs : M.sign = []) (c : UInt8) (hc : c = 38 ∨ c = 33) :
    Calls Tryz.prog 100 #[.pointer (some ⟨rb, 0, none⟩), .string ⟨#[c]⟩] w fun e' w' => RdPost w B rb { M.st with sign := [c], may := false } (.int .i64 0) e' w' := by
  obtain ⟨c3, c4, c2, fz⟩ := h.c3
  rw [hs] at c3
  have H := hideP h
  clear h
  rcases hc with rfl | rfl
  all_goals
    go_enter Tryz.func100, Tryz.ntmps100
    go_wp2_with fail
    go_ret
  · obtain ⟨h1, k1⟩ := H.out.setSign [38]
    obtain ⟨h2, k2⟩ := h1.setMay false
    exact ⟨rfl, _, _, h2, k1.trans k2, rfl⟩
  · obtain ⟨h1, k1⟩ := H.out.setSign [33]
    obtain ⟨h2, k2⟩ := h1.setMay false
    exact ⟨rfl, _, _, h2, k1.trans k2, rfl⟩
set_option maxHeartbeats 4000000 in
set_option maxRecDepth 100000 in
theorem rsigns_slash (w : World) (B rb : Nat) (M : MV) (lab : Nat → Nat) (h : Mem w B rb M lab (· = 0)) (hs : M.sign = []) (mr : List (Thk.OP × Value × Value)) (m : Thk.OP × Value × Value) (ho : M.os = mr ++ [m]) (hb0 : M.xs.length ≤ 90000) (hb1 : m.1.seqs.length ≤ 90000) (hb2 : mr.length ≤ 90000) :
    Calls Tryz.prog 100 #[.pointer (some ⟨rb, 0, none⟩), .string ⟨#[47]⟩] w fun e' w' => RdPost w B rb { M.st.slash with may := false } (.int .i64 0) e' w' := by
  obtain ⟨c3, c4, c2, fz⟩ := h.c3
  rw [hs] at c3
  have hsl := rslash_any w B rb M lab h mr m ho (by omega) (by omega) (by omega)
  clear h
  go_enter Tryz.func100, Tryz.ntmps100
  go_wp2_with fail
  refine hsl.mono ?_
  rintro e1 w1 ⟨rfl, M1, lab1, hM1, hK1, hS1⟩
  obtain ⟨d3, d4, d2, dz⟩ := hM1.c3
  have HM1 := hideP hM1
  have HK1 := hideP hK1
  have HS1 := hideP hS1
  clear hsl hM1 hK1 hS1
  go_wp2_with fail
  obtain ⟨h2, k2⟩ := HM1.out.setMay false
  go_ret
  refine ⟨rfl, _, _, h2, HK1.out.trans k2, ?_⟩
  rw [← HS1.out]
  rfl
set_option maxHeartbeats 4000000 in
set_option maxRecDepth 100000 in
theorem rsigns_errB (w : World) (B rb : Nat) (M : MV) (lab : Nat → Nat) (h : Mem w B rb M lab (· = 0)) (hm : M.may = false) (c : UInt8) (hc : c = 63 ∨ c = 42 ∨ c = 43) :
    Calls Tryz.prog 100 #[.pointer (some ⟨rb, 0, none⟩), .string ⟨#[c]⟩] w fun e' w' => RdErr w B 2 e' w' := by
  obtain ⟨c3, c4, c2, fz⟩ := h.c3
  rw [hm] at c4
  clear h
  rcases hc with rfl | rfl | rfl
  all_goals
    go_enter Tryz.func100, Tryz.ntmps100
    go_wp2_with fail
    go_ret
    exact ⟨rfl, KT.refl _ _⟩
set_option maxHeartbeats 4000000 in
set_option maxRecDepth 100000 in
theorem rsigns_behind (w : World) (B rb : Nat) (M : MV) (lab : Nat → Nat) (h : Mem w B rb M lab (· = 0)) (hm : M.may = true) (c : UInt8) (hc : c = 63 ∨ c = 42 ∨ c = 43)
    (mr : List (Thk.OP × Value × Value)) (m : Thk.OP × Value × Value) (ho : M.os = mr ++ [m]) (tl : List Nat) (k : Nat) (ht : m.1.terms = tl ++ [k]) (hk : k < M.xs.length) (hkind : (M.xs[k].1.kind = 10 ∨ M.xs[k].1.kind = 11) → M.xs[k].1.parts ≠ [])
    (hb0 : M.xs.length ≤ 90000) (hb1 : tl.length ≤ 90000) (hb2 : mr.length ≤ 90000) :
    Calls Tryz.prog 100 #[.pointer (some ⟨rb, 0, none⟩), .string ⟨#[c]⟩] w fun e' w' => RdPost w B rb (M.st.behind [c]) (.int .i64 0) e' w' := by
  obtain ⟨c3, c4, c2, fz⟩ := h.c3
  rw [hm] at c4
  have hsg : okSg [c] := by rcases hc with rfl | rfl | rfl <;> simp [okSg]
  have hbe : Calls Tryz.prog 142 #[.pointer (some ⟨rb, 0, none⟩), .string ⟨[c].toArray⟩] w fun e' w' => RdPost w B rb (M.st.behind [c]) (.tuple #[]) e' w' := by
    by_cases hkk : M.xs[k].1.kind = 10 ∨ M.xs[k].1.kind = 11
    · exact rbehindA_any w B rb M lab h mr m ho tl k ht hk ⟨hkk, hkind hkk⟩ [c] hsg hb0 hb1 hb2
    · exact rbehindB_any w B rb M lab h mr m ho tl k ht hk ⟨fun e => hkk (.inl e), fun e => hkk (.inr e)⟩ [c] hsg hb0 hb1 hb2
  clear h hkind hsg
  rcases hc with rfl | rfl | rfl
  all_goals
    go_enter Tryz.func100, Tryz.ntmps100
    go_wp2_with fail
    refine hbe.mono ?_
    rintro e1 w1 ⟨rfl, M1, lab1, hM1, hK1, hS1⟩
    have HE : Hid (∃ M' lab', Mem w1 B rb M' lab' (· = 0) ∧ KT B w w1 ∧ M'.st = _) := ⟨M1, lab1, hM1, hK1, hS1⟩
    clear hbe hM1 hK1 hS1
    go_wp2_with fail
    go_ret
    exact ⟨rfl, HE.out⟩
set_option maxHeartbeats 4000000 in
set_option maxRecDepth 100000 in
theorem rsigns_deep (w : World) (B rb : Nat) (M : MV) (lab : Nat → Nat) (h : Mem w B rb M lab (· = 0)) (hd : 6 < M.os.length) :
    Calls Tryz.prog 100 #[.pointer (some ⟨rb, 0, none⟩), .string ⟨#[40]⟩] w fun e' w' => RdErr w B 3 e' w' := by
  obtain ⟨c3, c4, c2, fz⟩ := h.c3
  obtain ⟨oa, oc, hv⟩ := own_form h.op
  rw [hv] at c2
  have hd' : (6 : Int) < (M.os.length : Int) := by omega
  clear h hv
  go_enter Tryz.func100, Tryz.ntmps100
  go_wp2_with fail
  go_ret
  exact ⟨rfl, KT.refl _ _⟩
set_option maxHeartbeats 4000000 in
set_option maxRecDepth 100000 in
theorem rsigns_errC (w : World) (B rb : Nat) (M : MV) (lab : Nat → Nat) (h : Mem w B rb M lab (· = 0)) (hs : M.sign = []) (hd : M.os.length < 2) :
    Calls Tryz.prog 100 #[.pointer (some ⟨rb, 0, none⟩), .string ⟨#[41]⟩] w fun e' w' => RdErr w B 2 e' w' := by
  obtain ⟨c3, c4, c2, fz⟩ := h.c3
  rw [hs] at c3
  obtain ⟨oa, oc, hv⟩ := own_form h.op
  rw [hv] at c2
  have hd' : (M.os.length : Int) < 2 := by omega
  clear h hv
  go_enter Tryz.func100, Tryz.ntmps100
  go_wp2_with fail
  go_ret
  exact ⟨rfl, KT.refl _ _⟩
/-- term, with whatever sign. -/
theorem rterm_any (w : World) (B rb : Nat) (M : MV) (lab : Nat → Nat) (h : Mem w B rb M lab (· = 0)) (mr : List (Thk.OP × Value × Value)) (m : Thk.OP × Value × Value) (ho : M.os = mr ++ [m]) (e : Nat) (sg : Thk.Bytes) (hsg : sg = [] ∨ okA sg) (hb0 : M.xs.length ≤ 100000) (hb1 : m.1.terms.length ≤ 100000) (hb2 : mr.length ≤ 100000) :
    Calls Tryz.prog 101 #[.pointer (some ⟨rb, 0, none⟩), .int .i64 e, .string ⟨sg.toArray⟩] w fun e' w' => RdPost w B rb (M.st.term e sg) (.tuple #[]) e' w' := by
  have e3 : M.st.xs.length = M.xs.length := by simp [MV.st]
  unfold Thk.ST.term
  rcases hsg with rfl | hsg
  · rw [if_pos rfl]
    exact rterm0_any w B rb M lab h mr m ho e hb1 hb2
  · have hok : okSg sg := by rcases hsg with rfl | rfl <;> simp [okSg]
    rw [if_neg (by rcases hsg with rfl | rfl <;> simp), e3]
    exact rterm1_any w B rb M lab h mr m ho e sg hok hb0 hb1 hb2
set_option maxHeartbeats 4000000 in
set_option maxRecDepth 100000 in
theorem rsigns_close (w : World) (B rb : Nat) (M : MV) (lab : Nat → Nat) (h : Mem w B rb M lab (· = 0)) (hs : M.sign = []) (mr : List (Thk.OP × Value × Value)) (m0 m : Thk.OP × Value × Value) (ho : M.os = mr ++ [m0] ++ [m]) (hsg : m.1.sign = [] ∨ okA m.1.sign)
    (hb0 : M.xs.length ≤ 80000) (hb1 : m.1.seqs.length ≤ 80000) (hb2 : mr.length ≤ 80000) (hb3 : m0.1.terms.length ≤ 80000) :
    Calls Tryz.prog 100 #[.pointer (some ⟨rb, 0, none⟩), .string ⟨#[41]⟩] w fun e' w' => RdPost w B rb (M.st.closed.term (M.xs.length + 1) m.1.sign) (.int .i64 0) e' w' := by
  obtain ⟨c3, c4, c2, fz⟩ := h.c3
  rw [hs] at c3
  obtain ⟨oa, oc, hv⟩ := own_form h.op
  rw [hv] at c2
  have hd' : ¬ (M.os.length : Int) < 2 := by rw [ho]; simp; omega
  have hcl := rclosed_any w B rb M lab h (mr ++ [m0]) m ho (by omega) (by omega) (by simp; omega)
  have hos : M.st.closed.os = mr.map (·.1) ++ [m0.1] := by
    show M.st.os.dropLast = _
    simp [MV.st, ho]
  have hxl : M.st.closed.xs.length = M.xs.length + 2 := by
    unfold Thk.ST.closed Thk.ST.slash
    simp [Thk.ST.add, Thk.ST.setTop, MV.st]
  have HOS := hideP hos
  have HXL := hideP hxl
  clear h hv hos hxl ho
  go_enter Tryz.func100, Tryz.ntmps100
  go_wp2_with fail
  refine hcl.mono ?_
  rintro e1 w1 ⟨rfl, M1, lab1, hM1, hK1, hS1⟩
  obtain ⟨mr1, m1, ho1, hmr1, hm1⟩ := os_split (M := M1) (by rw [hS1]; exact HOS.out)
  have hx1 : M1.xs.length = M.xs.length + 2 := by have := HXL.out; rw [← hS1] at this; simpa [MV.st] using this
  have hl1 : mr1.length = mr.length := by rw [← List.length_map (f := (·.1)), hmr1]; simp
  have htm := rterm_any w1 B rb M1 lab1 hM1 mr1 m1 ho1 (M.xs.length + 1) m.1.sign hsg (by omega) (by rw [hm1]; omega) (by omega)
  rw [hS1] at htm
  have HK1 := hideP hK1
  clear hcl hM1 hS1 ho1 hK1 hx1 hl1 hmr1 hm1
  go_wp2_with fail
  refine htm.mono ?_
  rintro e1 w2 ⟨rfl, M2, lab2, hM2, hK2, hS2⟩
  have HE : Hid (∃ M' lab', Mem w2 B rb M' lab' (· = 0) ∧ KT B w w2 ∧ M'.st = M.st.closed.term (M.xs.length + 1) m.1.sign) := ⟨M2, lab2, hM2, HK1.out.trans hK2, hS2⟩
  clear htm hM2 hK2 hS2
  go_wp2_with fail
  go_ret
  exact ⟨rfl, HE.out⟩
end Go.Proofs.YtiganlkabilblaaGreatDoor
namespace Go.Proofs.YtiganlkabilblaaGreatDoor
open Go.RowKit
attribute [local go_sem ↓] Go.wp_at_zero Go.wp_at_succ
theorem Tryz.infoRRule : (Tryz.prog.info? 90).map (fun i => (i.zero, i.size, i.bytes)) = some (some (.agg #[.string ⟨#[]⟩, .int .i64 0]), 2, 24) := by kernel_rfl
/-- One open choice more. -/
theorem Mem.pushOpen {w w1 : World} {B rb : Nat} {M : MV} {lab : Nat → Nat} (h : Mem w B rb M lab (· = 0)) {sg : Thk.Bytes} {g cap : Nat}
    (hown : w1.ownsRow B 209 3 (.slice (some ⟨g, 0, none⟩) (M.os.length + 1) cap) (M.os.length + 1) (M.os.flatMap opC ++ [.slice none 0 0, .slice none 0 0, .string ⟨sg.toArray⟩])) (hg : w.grownBy w1 M.vo.ownBlock) (hat : M.vo.ownBlock = some g ∨ g = w.heap.size) :
    Mem (w1.setCell ⟨rb, 2, none⟩ (.slice (some ⟨g, 0, none⟩) (M.os.length + 1) cap)) B rb { M with vo := .slice (some ⟨g, 0, none⟩) (M.os.length + 1) cap, os := M.os ++ [(⟨[], [], sg⟩, .slice none 0 0, .slice none 0 0)] } lab (· = 0) ∧ KT B w (w1.setCell ⟨rb, 2, none⟩ (.slice (some ⟨g, 0, none⟩) (M.os.length + 1) cap)) := by
  have hty : ∀ {e : TypeId} {sz : Nat} {u : Value} {n' : Nat} {cs' : List Value}, w.ownsRow B e sz u n' cs' → e ≠ 209 → w1.ownsRow B e sz u n' cs' := by
    intro e sz u n' cs' hu he
    exact own_blocks hu (fun b hb => hg.block b (hu.lt b hb).2 (fun e1 => own_ty2 hu h.op he e1.symm hb))
  have hrb1 : w1.heap[rb]? = some (rdO M.vx M.vr M.vo M.sign M.may) := by
    rw [hg.block rb h.lt (fun e => own_ty h.op h.blk (by decide) e.symm)]; exact h.blk
  have c := Chg.set rb 2 (.slice (some ⟨g, 0, none⟩) (M.os.length + 1) cap) w1
  have hge := h.ge
  have hlt := h.lt
  have hkeep : ∀ {e : TypeId} {sz : Nat} {u : Value} {n' : Nat} {cs' : List Value}, w1.ownsRow B e sz u n' cs' → e ≠ 204 → (w1.setCell ⟨rb, 2, none⟩ (.slice (some ⟨g, 0, none⟩) (M.os.length + 1) cap)).ownsRow B e sz u n' cs' := fun hu he => own_keep c hu (own_ty hu hrb1 he)
  refine ⟨⟨h.ge, by rw [setCell_block hrb1]; rfl, hkeep (hty h.ex (by decide)) (by decide), hkeep (hty h.ru (by decide)) (by decide), ?_, fun p hp => hkeep (hty (h.items p hp) (by decide)) (by decide), fun p hp => ⟨hkeep (hty (h.parts p hp).1 (by decide)) (by decide), (h.parts p hp).2⟩, ?_⟩, ?_⟩
  · have := hkeep hown (by decide)
    simpa [opC] using this
  · intro k hk
    simp only [] at hk ⊢
    by_cases hkm : k < M.os.length
    · rw [List.getElem_append_left hkm]
      obtain ⟨i1, i2, i3, i4⟩ := h.opens k hkm
      exact ⟨hkeep (hty i1 (by decide)) (by decide), i2, hkeep (hty i3 (by decide)) (by decide), i4⟩
    · have hke : k = M.os.length := by simp at hk; omega
      subst hke
      rw [List.getElem_append_right (Nat.le_refl _)]
      simp only [Nat.sub_self, List.getElem_cons_zero]
      exact ⟨World.ownsRow_nil _ _ _ _, fun b hb => by simp [Value.ownBlock] at hb, World.ownsRow_nil _ _ _ _, fun b hb => by simp [Value.ownBlock] at hb⟩
  · refine KT.trans ⟨hg.os, hg.tape, hg.output, hg.size, ?_, ?_⟩ (KT.chg c (by have := hg.size; omega) h.ge (fun cs t fr hb => by rw [hrb1] at hb; simp at hb; rw [← hb.2.1]; decide))
    · intro k hk
      refine hg.block k (by omega) (fun e1 => ?_)
      have := (h.op.lt k e1.symm).1
      omega
    · intro k cs t fr hk ht
      refine hg.block k (heap_lt' hk) (fun e => ?_)
      obtain ⟨cs2, hc⟩ := own_blk h.op e.symm
      rw [hk] at hc; simp at hc; rw [hc.2.1] at ht; exact ht (by decide)
/-- One rule more. -/
theorem Mem.pushRule {w w1 : World} {B rb : Nat} {M : MV} {lab : Nat → Nat} (h : Mem w B rb M lab (· = 0)) {nm : Thk.Bytes} {g cap : Nat}
    (hown : w1.ownsRow B 90 2 (.slice (some ⟨g, 0, none⟩) (M.rs.length + 1) cap) (M.rs.length + 1) (M.rs.flatMap ruC ++ [.string ⟨nm.toArray⟩, .int .i64 0])) (hg : w.grownBy w1 M.vr.ownBlock) (hat : M.vr.ownBlock = some g ∨ g = w.heap.size) :
    Mem (w1.setCell ⟨rb, 1, none⟩ (.slice (some ⟨g, 0, none⟩) (M.rs.length + 1) cap)) B rb { M with vr := .slice (some ⟨g, 0, none⟩) (M.rs.length + 1) cap, rs := M.rs ++ [(nm, 0)] } lab (· = 0) ∧ KT B w (w1.setCell ⟨rb, 1, none⟩ (.slice (some ⟨g, 0, none⟩) (M.rs.length + 1) cap)) := by
  have hty : ∀ {e : TypeId} {sz : Nat} {u : Value} {n' : Nat} {cs' : List Value}, w.ownsRow B e sz u n' cs' → e ≠ 90 → w1.ownsRow B e sz u n' cs' := by
    intro e sz u n' cs' hu he
    exact own_blocks hu (fun b hb => hg.block b (hu.lt b hb).2 (fun e1 => own_ty2 hu h.ru he e1.symm hb))
  have hrb1 : w1.heap[rb]? = some (rdO M.vx M.vr M.vo M.sign M.may) := by
    rw [hg.block rb h.lt (fun e => own_ty h.ru h.blk (by decide) e.symm)]; exact h.blk
  have c := Chg.set rb 1 (.slice (some ⟨g, 0, none⟩) (M.rs.length + 1) cap) w1
  have hge := h.ge
  have hlt := h.lt
  have hkeep : ∀ {e : TypeId} {sz : Nat} {u : Value} {n' : Nat} {cs' : List Value}, w1.ownsRow B e sz u n' cs' → e ≠ 204 → (w1.setCell ⟨rb, 1, none⟩ (.slice (some ⟨g, 0, none⟩) (M.rs.length + 1) cap)).ownsRow B e sz u n' cs' := fun hu he => own_keep c hu (own_ty hu hrb1 he)
  refine ⟨⟨h.ge, by rw [setCell_block hrb1]; rfl, hkeep (hty h.ex (by decide)) (by decide), ?_, hkeep (hty h.op (by decide)) (by decide), fun p hp => hkeep (hty (h.items p hp) (by decide)) (by decide), fun p hp => ⟨hkeep (hty (h.parts p hp).1 (by decide)) (by decide), (h.parts p hp).2⟩, ?_⟩, ?_⟩
  · have := hkeep hown (by decide)
    simpa [ruC] using this
  · intro k hk
    obtain ⟨i1, i2, i3, i4⟩ := h.opens k hk
    exact ⟨hkeep (hty i1 (by decide)) (by decide), i2, hkeep (hty i3 (by decide)) (by decide), i4⟩
  · refine KT.trans ⟨hg.os, hg.tape, hg.output, hg.size, ?_, ?_⟩ (KT.chg c (by have := hg.size; omega) h.ge (fun cs t fr hb => by rw [hrb1] at hb; simp at hb; rw [← hb.2.1]; decide))
    · intro k hk
      refine hg.block k (by omega) (fun e1 => ?_)
      have := (h.ru.lt k e1.symm).1
      omega
    · intro k cs t fr hk ht
      refine hg.block k (heap_lt' hk) (fun e => ?_)
      obtain ⟨cs2, hc⟩ := own_blk h.ru e.symm
      rw [hk] at hc; simp at hc; rw [hc.2.1] at ht; exact ht (by decide)
set_option maxHeartbeats 4000000 in
set_option maxRecDepth 100000 in
theorem rsigns_open (w : World) (B rb : Nat) (M : MV) (lab : Nat → Nat) (h : Mem w B rb M lab (· = 0)) (hd : M.os.length ≤ 6) :
    Calls Tryz.prog 100 #[.pointer (some ⟨rb, 0, none⟩), .string ⟨#[40]⟩] w fun e' w' => RdPost w B rb { M.st with os := M.st.os ++ [⟨[], [], M.sign⟩], sign := [], may := false } (.int .i64 0) e' w' := by
  obtain ⟨i0, hi, hz0, hz1, hz2⟩ := info_parts Tryz.infoOpen
  obtain ⟨c3, c4, c2, fz⟩ := h.c3
  obtain ⟨oa, oc, hv⟩ := own_form h.op
  rw [hv] at c2
  have hown : w.ownsRow B 209 3 (.slice oa M.os.length oc) M.os.length (M.os.flatMap opC) := by rw [← hv]; exact h.op
  have hd' : ¬ (6 : Int) < (M.os.length : Int) := by omega
  have hge := h.ge
  have hlt := h.lt
  have f2 := fz 2
  have f3 := fz 3
  have f4 := fz 4
  have H := hideP h
  have HV := hideP hv
  have HML : Hid (M.os.length + 1 ≤ maxLen) := by show _ ≤ _; unfold maxLen; omega
  clear h hv fz
  go_enter Tryz.func100, Tryz.ntmps100
  go_wp2_with (first | (at_builtin; refine wpList_append_lies _ rfl _ _ 202 rfl B 209 i0 _ 3 64 Tryz.underlying202 hi hz0 hz1 hz2 rfl (by decide) _ _ _ rfl (hown.alloc _) ⟨w.heap.size, 0, none⟩ 1 1 [.slice none 0 0, .slice none 0 0, .string ⟨M.sign.toArray⟩] rfl rfl ?c1 ?c2 (by decide) HML.out ?c4 ?c5 (w.heap.size + 1) (by simp) ?_))
  case c2 => first | exact ⟨rfl, rfl⟩ | (intro u hu; simp at hu; rcases hu with rfl | rfl <;> rfl)
  case c4 => omega
  case c5 => first | omega | (simp; omega)
  intro g cap w1 hown' hgrow hat hgl
  have hMW := H.out.below (lab' := lab) (w' := w.alloc (.cells #[.slice none 0 0, .slice none 0 0, .string ⟨M.sign.toArray⟩] 209)) (below_alloc _ _) (fun _ _ => rfl)
  have hPO := hMW.pushOpen hown' (by rw [HV.out]; exact hgrow) (by rw [HV.out]; simpa using hat)
  have hrb1 : w1.heap[rb]? = some (rdO M.vx M.vr M.vo M.sign M.may) := by
    rw [hgrow.block rb (by simp; omega) (fun e => by rw [← HV.out] at e; exact own_ty H.out.op H.out.blk (by decide) e.symm)]
    rw [heap_alloc_old _ _ hlt]; exact H.out.blk
  have d2 : w1.cell? ⟨rb, 2, none⟩ = some M.vo := cell_of_block hrb1 2
  have d3 : w1.cell? ⟨rb, 3, none⟩ = some (.string ⟨M.sign.toArray⟩) := cell_of_block hrb1 3
  have d4 : w1.cell? ⟨rb, 4, none⟩ = some (.bool M.may) := cell_of_block hrb1 4
  have df := frozen_of_block hrb1
  have HPO := hideP hPO
  clear hMW hPO hrb1 hown hown' hgrow hat c2 c3 c4 f2 f3 f4
  go_wp2_with fail
  obtain ⟨h1, k1⟩ := HPO.out
  obtain ⟨h2, k2⟩ := h1.setSign []
  obtain ⟨h3, k3⟩ := h2.setMay false
  go_ret
  refine ⟨rfl, _, _, h3, (KT.alloc B w (by omega) _).trans (k1.trans (k2.trans k3)), ?_⟩
  simp [MV.st]
set_option maxHeartbeats 4000000 in
set_option maxRecDepth 100000 in
theorem rsigns_dot (w : World) (B rb : Nat) (M : MV) (lab : Nat → Nat) (h : Mem w B rb M lab (· = 0)) (mr : List (Thk.OP × Value × Value)) (m : Thk.OP × Value × Value) (ho : M.os = mr ++ [m]) (hsg : M.sign = [] ∨ okA M.sign)
    (hb0 : M.xs.length ≤ 90000) (hb1 : m.1.terms.length ≤ 90000) (hb2 : mr.length ≤ 90000) :
    Calls Tryz.prog 100 #[.pointer (some ⟨rb, 0, none⟩), .string ⟨#[46]⟩] w fun e' w' => RdPost w B rb ((({ M.st with sign := [] } : Thk.ST).add ⟨3, [], [], 0, []⟩).term M.xs.length M.sign) (.int .i64 0) e' w' := by
  obtain ⟨c3, c4, c2, fz⟩ := h.c3
  obtain ⟨h1, k1⟩ := h.setSign []
  obtain ⟨xa, xc, hx⟩ := own_form h.ex
  have had := radd_any _ B rb xa xc M.xs.length M.vr M.vo [] M.may (M.xs.flatMap exC) 3 none 0 0 ⟨#[]⟩ 0 none 0 0 (by rw [← hx]; exact h1.blk) (by rw [← hx]; exact h1.ex) (by omega) h1.ge
  simp only [show ((3 : Nat) : Int) = 3 from rfl] at had
  have H1 := hideP h1
  have K1 := hideP k1
  have HX := hideP hx
  have HO := hideP ho
  have f3 := fz 3
  clear h h1 k1 hx ho fz
  go_enter Tryz.func100, Tryz.ntmps100
  go_wp2_with fail
  refine had.mono ?_
  rintro e1 w1 ⟨xg, xcap, rfl, hAE⟩
  obtain ⟨hM1, hK1⟩ := H1.out.add (re := ⟨3, [], [], 0, []⟩) (iv := .slice none 0 0) (pv := .slice none 0 0) (by rw [HX.out]; exact hAE) (World.ownsRow_nil _ _ _ _) (World.ownsRow_nil _ _ _ _) (fun b hb => by simp [Value.ownBlock] at hb)
  have htm := rterm_any w1 B rb _ lab hM1 mr m HO.out M.xs.length M.sign hsg (by simp; omega) (by omega) (by omega)
  have HK1 := hideP hK1
  clear had hAE hM1 hK1
  go_wp2_with fail
  refine htm.mono ?_
  rintro e1 w2 ⟨rfl, M2, lab2, hM2, hK2, hS2⟩
  have HE : Hid (∃ M' lab', Mem w2 B rb M' lab' (· = 0) ∧ KT B w w2 ∧ M'.st = (({ M.st with sign := [] } : Thk.ST).add ⟨3, [], [], 0, []⟩).term M.xs.length M.sign) := ⟨M2, lab2, hM2, K1.out.trans (HK1.out.trans hK2), by rw [hS2]; simp [MV.st, Thk.ST.add]⟩
  clear htm hM2 hK2 hS2
  go_wp2_with fail
  go_ret
  exact ⟨rfl, HE.out⟩
end Go.Proofs.YtiganlkabilblaaGreatDoor
namespace Go.Proofs.YtiganlkabilblaaGreatDoor
open Go.RowKit
attribute [local go_sem ↓] Go.wp_at_zero Go.wp_at_succ
def SgAll (w : World) (B rb : Nat) (S : Thk.ST) (c : UInt8) (e' : Ending) (w' : World) : Prop :=
  match S.signs c with
  | .error er => RdErr w B er e' w'
  | .ok S' => RdPost w B rb S' (.int .i64 0) e' w'
theorem okA_of {b : Thk.Bytes} (h : Thk.okSign b) (hne : b ≠ []) : okA b := by
  rcases h with h | h | h
  · exact absurd h hne
  · exact .inl h
  · exact .inr h
theorem okS_of {b : Thk.Bytes} (h : Thk.okSign b) : b = [] ∨ okA b := by
  rcases h with h | h | h
  · exact .inl h
  · exact .inr (.inl h)
  · exact .inr (.inr h)
/-- signs: whatever the sign. -/
theorem rsigns_any (w : World) (B rb : Nat) (M : MV) (lab : Nat → Nat) (h : Mem w B rb M lab (· = 0)) (hok : Thk.StOk M.st) (n : Nat) (hb : Thk.Bd n M.st) (hn : n ≤ 2100) (hne : M.os ≠ []) (c : UInt8) (hc : Thk.signB c = true) :
    Calls Tryz.prog 100 #[.pointer (some ⟨rb, 0, none⟩), .string ⟨#[c]⟩] w fun e' w' => SgAll w B rb M.st c e' w' := by
  obtain ⟨mr, m, ho⟩ : ∃ mr m, M.os = mr ++ [m] := ⟨M.os.dropLast, M.os.getLast hne, (List.dropLast_concat_getLast hne).symm⟩
  have hxl : M.xs.length ≤ 8400 := by have := hb.xs; simp [MV.st] at this; omega
  have hol : M.os.length ≤ 7 := by have := hb.os; simpa [MV.st] using this
  have hmr : mr.length ≤ 6 := by rw [ho] at hol; simp at hol; exact hol
  have hmm : m.1.terms.length ≤ 2100 ∧ m.1.seqs.length ≤ 2100 := by
    have := hb.each m.1 (by simp [MV.st, ho]); omega
  have htop : M.st.top = m.1 := by simp [MV.st, Thk.ST.top, ho, List.getLastD_concat]
  have hsgn : M.st.sign = M.sign := rfl
  have hmay : M.st.may = M.may := rfl
  have hosl : M.st.os.length = M.os.length := by simp [MV.st]
  have hxsl : M.st.xs.length = M.xs.length := by simp [MV.st]
  have hs := hok.sg
  rw [hsgn] at hs
  unfold SgAll
  rcases Thk.sign9 hc with rfl | rfl | rfl | rfl | rfl | rfl | rfl | rfl | rfl
  · by_cases hg : M.sign = []
    · simp only [Thk.ST.signs, hsgn, hg, if_true]
      exact rsigns_slash w B rb M lab h hg mr m ho (by omega) (by omega) (by omega)
    · simp only [Thk.ST.signs, hsgn, hg, if_true, if_false]
      exact rsigns_err1 w B rb M lab h (okA_of hs hg) 47 (.inl rfl)
  · by_cases hg : M.sign = []
    · simp [Thk.ST.signs, hsgn, hg]
      exact rsigns_ahead w B rb M lab h hg 38 (.inl rfl)
    · simp [Thk.ST.signs, hsgn, hg]
      exact rsigns_err1 w B rb M lab h (okA_of hs hg) 38 (.inr (.inl rfl))
  · by_cases hg : M.sign = []
    · simp [Thk.ST.signs, hsgn, hg]
      exact rsigns_ahead w B rb M lab h hg 33 (.inr rfl)
    · simp [Thk.ST.signs, hsgn, hg]
      exact rsigns_err1 w B rb M lab h (okA_of hs hg) 33 (.inr (.inr (.inl rfl)))
  iterate 3
    by_cases hm : M.may = true
    · simp [Thk.ST.signs, hmay, hm]
      obtain ⟨tl, k, x, h1, h2, h3⟩ := hok.may hm
      rw [htop] at h1
      have hk : k < M.xs.length := by rw [← hxsl]; exact (List.getElem?_eq_some_iff.1 h2).1
      have hx : M.xs[k].1 = x := by
        have : M.st.xs[k]? = some M.xs[k].1 := by simp [MV.st, hk]
        rw [this] at h2; exact Option.some.inj h2
      have htl : tl.length ≤ 2100 := by have := hmm.1; rw [h1] at this; simp at this; omega
      exact rsigns_behind w B rb M lab h hm _ (by simp) mr m ho tl k h1 hk (by rw [hx]; exact h3) (by omega) (by omega) (by omega)
    · simp [Thk.ST.signs, hmay, hm]
      exact rsigns_errB w B rb M lab h (by simpa using hm) _ (by simp)
  · by_cases hd : 6 < M.os.length
    · simp [Thk.ST.signs, hosl, hd]
      exact rsigns_deep w B rb M lab h hd
    · simp [Thk.ST.signs, hosl, hd]
      exact rsigns_open w B rb M lab h (by omega)
  · by_cases hg : M.sign = []
    · by_cases hd : 2 ≤ M.os.length
      · simp [Thk.ST.signs, hsgn, hosl, hg, hd, htop, hxsl]
        have hmr0 : mr ≠ [] := by intro e; rw [ho, e] at hd; simp at hd
        obtain ⟨mr', m0, ho'⟩ : ∃ mr' m0, mr = mr' ++ [m0] := ⟨mr.dropLast, mr.getLast hmr0, (List.dropLast_concat_getLast hmr0).symm⟩
        have hm0 : m0.1.terms.length ≤ 2100 := by
          have := hb.each m0.1 (by simp [MV.st, ho, ho']); omega
        have hm' : mr'.length ≤ 6 := by rw [ho'] at hmr; simp at hmr; omega
        exact rsigns_close w B rb M lab h hg mr' m0 m (by rw [ho, ho']) (okS_of (hok.osg m.1 (by simp [MV.st, ho]))) (by omega) (by omega) (by omega) (by omega)
      · simp [Thk.ST.signs, hsgn, hosl, hg, hd]
        exact rsigns_errC w B rb M lab h hg (by omega)
    · simp [Thk.ST.signs, hsgn, hg]
      exact rsigns_err1 w B rb M lab h (okA_of hs hg) 41 (.inr (.inr (.inr rfl)))
  · have e : M.st.signs 46 = .ok (M.st.lay ⟨3, [], [], 0, []⟩) := by simp [Thk.ST.signs]
    rw [e]
    have := rsigns_dot w B rb M lab h mr m ho (okS_of hs) (by omega) (by omega) (by omega)
    simpa [Thk.ST.lay, hsgn, hxsl] using this
abbrev zGram : Value := .agg #[.slice none 0 0, .slice none 0 0]
abbrev zGramO : Obj := .cells #[.slice none 0 0, .slice none 0 0] 85
set_option maxHeartbeats 4000000 in
set_option maxRecDepth 100000 in
theorem rfirst_any (w : World) (rb : Nat) (k p e k' p' e' : Nat) (s s' : ByteArray) (a a' : Option Addr) (n c n' c' : Nat) :
    Calls Tryz.prog 99 #[.pointer (some ⟨rb, 0, none⟩), .agg #[.int .i64 k, .int .i64 p, .int .i64 e, .string s, .slice a n c], .agg #[.int .i64 k', .int .i64 p', .int .i64 e', .string s', .slice a' n' c']] w
      fun en w' => en = .returned (.tuple #[zGram, .int .i64 2, .int .i64 (if k = 1 then (p' : Int) else p)]) ∧ Below w.heap.size w w' := by
  by_cases hk : k = 1
  · subst hk
    go_enter Tryz.func99, Tryz.ntmps99
    go_wp2_with fail
    go_region
    all_goals go_wp2_with fail
    all_goals refine bodyPost_ret (v := .tuple #[zGram, .int .i64 2, .int .i64 p']) (by simp [results, Tryz.results99, go_sem]; done) rfl ⟨by simp, ?_⟩
    all_goals exact ((((below_alloc w _).alloc (by simp) _).alloc (by simp; omega) _)).drew
  · have hk' : ¬ (k : Int) = 1 := by omega
    go_enter Tryz.func99, Tryz.ntmps99
    go_wp2_with fail
    go_region
    all_goals go_wp2_with fail
    all_goals refine bodyPost_ret (v := .tuple #[zGram, .int .i64 2, .int .i64 p]) (by simp [results, Tryz.results99, go_sem]; done) rfl ⟨by simp [hk], ?_⟩
    all_goals exact ((((below_alloc w _).alloc (by simp) _).alloc (by simp; omega) _)).drew
end Go.Proofs.YtiganlkabilblaaGreatDoor
namespace Go.Proofs.YtiganlkabilblaaGreatDoor
open Go.RowKit
theorem tokL_sign {c : UInt8} {t : List UInt8} (h : Thk.signB c = true) : Thk.tokL (c :: t) = ⟨.sign c, 0, 1, [], []⟩ := by
  have h' := h
  simp [Thk.signB] at h'
  have h1 : Thk.isLet c = false := by rcases h' with rfl | rfl | rfl | rfl | rfl | rfl | rfl | rfl | rfl <;> decide
  have h2 : c ≠ 60 ∧ c ≠ 39 ∧ c ≠ 91 := by rcases h' with rfl | rfl | rfl | rfl | rfl | rfl | rfl | rfl | rfl <;> decide
  simp [Thk.tokL, h1, h2.1, h2.2.1, h2.2.2, h]
theorem let_iff (c : UInt8) : Thk.isLet c = true ↔ 97 ≤ c.toNat ∧ c.toNat ≤ 122 := by
  unfold Thk.isLet
  simp [UInt8.le_iff_toNat_le]
theorem let_not {c : UInt8} (h : Thk.isLet c = true) : c ≠ 60 ∧ c ≠ 39 ∧ c ≠ 91 ∧ Thk.signB c = false := by
  rw [let_iff] at h
  have h60 : c ≠ 60 := by rintro rfl; simp at h
  have h39 : c ≠ 39 := by rintro rfl; simp at h
  have h91 : c ≠ 91 := by rintro rfl; simp at h
  refine ⟨h60, h39, h91, ?_⟩
  cases hs : Thk.signB c with
  | false => rfl
  | true =>
    simp [Thk.signB] at hs
    rcases hs with rfl | rfl | rfl | rfl | rfl | rfl | rfl | rfl | rfl <;> simp at h
theorem extract_one (s : ByteArray) (k : Nat) (h : k < s.size) : s.extract k (k + 1) = ⟨[s[k]].toArray⟩ := by
  rw [extract_take, drop_cons s k h]; rfl
def NextPost (s : ByteArray) (k : Nat) (w : World) (e : Ending) (w' : World) : Prop := ∃ v,
  e = .returned (rtokV (tokAt k (s.data.toList.drop k)) v) ∧ Below w.heap.size w w' ∧ Items w' w.heap.size v (ritems (tokAt k (s.data.toList.drop k)))
set_option maxHeartbeats 4000000 in
set_option maxRecDepth 100000 in
theorem rnext_any (s : ByteArray) (k : Nat) (w : World) (hs : s.size ≤ 2000) (hk : k ≤ s.size) :
    Calls Tryz.prog 97 #[.string s, .int .i64 k] w fun e w' => NextPost s k w e w' := by
  unfold NextPost
  rw [tokAt_drop]
  have hbl := blk_le false (s.data.toList.drop k)
  rw [List.length_drop, show s.data.toList.length = s.size from rfl] at hbl
  obtain ⟨r, hr⟩ : ∃ r, r = k + Thk.blk false (s.data.toList.drop k) := ⟨_, rfl⟩
  rw [← hr]
  have hrs : r ≤ s.size := by omega
  have hblk := fun w => rblanks_of s k r w hk hs (show Hid _ from hr.symm)
  clear hr hbl
  by_cases hlt : r < s.size
  · have hsg := fun r' (h : Thk.signB s[r] = r') w => rhas_of ⟨#[47, 38, 33, 63, 42, 43, 40, 41, 46]⟩ s[r] r' w (by decide) h
    rw [drop_cons s r hlt]
    cases hS : Thk.signB s[r] with
    | true =>
      have hsg := hsg _ hS
      rw [tokL_sign hS]
      have HX := (show Hid _ from extract_one s r hlt)
      clear hS
      go_enter Tryz.func97, Tryz.ntmps97
      go_wp2_with fail
      refine (hblk _).mono ?_
      rintro e w' ⟨rfl, rfl⟩
      go_wp2_with fail
      refine (hsg _).mono ?_
      rintro e w' ⟨rfl, rfl⟩
      go_wp2_with fail
      refine bodyPost_ret (v := .agg #[.int .i64 5, .int .i64 r, .int .i64 ↑(r + 1), .string (s.extract r (r + 1)), .slice none 0 0]) (by simp [results, Tryz.results97, go_sem]) rfl ⟨.slice none 0 0, ?_, ?_, World.ownsRow_nil _ _ _ _⟩
      · rw [HX.out]; rfl
      · exact below_alloc _ _
    | false =>
      have hsg := hsg _ hS
      by_cases hA : s[r] = 60 ∧ ∃ h : r + 1 < s.size, s[r + 1] = 45
      · obtain ⟨h60, hlt1, h45⟩ := hA
        have hT : Thk.tokL (s[r] :: s.data.toList.drop (r + 1)) = ⟨.arrow, 0, 2, [], []⟩ := by
          rw [drop_cons s (r + 1) hlt1, h60, h45]; rfl
        rw [hT]
        have t60 := u8_beq_true h60 60 rfl
        have t45 := u8_beq_true h45 45 rfl
        clear hS h60 h45 hT
        go_enter Tryz.func97, Tryz.ntmps97
        go_wp2_with fail
        refine (hblk _).mono ?_
        rintro e w' ⟨rfl, rfl⟩
        go_wp2_with fail
        refine (hsg _).mono ?_
        rintro e w' ⟨rfl, rfl⟩
        go_wp2_with fail
        refine bodyPost_ret (v := .agg #[.int .i64 2, .int .i64 r, .int .i64 ↑(r + 2), .string ⟨#[]⟩, .slice none 0 0]) (by simp [results, Tryz.results97, go_sem]) rfl ⟨.slice none 0 0, ?_, ?_, World.ownsRow_nil _ _ _ _⟩
        · rfl
        · exact below_alloc _ _
      · have hAL : ¬ (s[r] = 60 ∧ (s.data.toList.drop (r + 1)).head? = some 45) := by
          rintro ⟨h1, h2⟩
          apply hA
          refine ⟨h1, ?_⟩
          by_cases h : r + 1 < s.size
          · rw [drop_cons s (r + 1) h] at h2
            exact ⟨h, by simpa using h2⟩
          · rw [drop_end s (r + 1) (by omega)] at h2; simp at h2
        -- what the walk needs of the arrow's test
        have hAw : ((s[r].toNat : Int) == 60) = false ∨ (((s[r].toNat : Int) == 60) = true ∧ ¬ r + 1 < s.size) ∨ (((s[r].toNat : Int) == 60) = true ∧ ∃ h : r + 1 < s.size, ((s[r + 1].toNat : Int) == 45) = false) := by
          by_cases h1 : s[r] = 60
          · by_cases h2 : r + 1 < s.size
            · refine .inr (.inr ⟨u8_beq_true h1 60 rfl, h2, u8_beq_false (fun e => hA ⟨h1, h2, e⟩) 45 rfl⟩)
            · exact .inr (.inl ⟨u8_beq_true h1 60 rfl, h2⟩)
          · exact .inl (u8_beq_false h1 60 rfl)
        by_cases h39 : s[r] = 39
        · have hT : Thk.tokL (s[r] :: s.data.toList.drop (r + 1)) = Thk.litT (s.data.toList.drop (r + 1)) := by
            simp only [Thk.tokL]
            rw [if_neg (by rw [h39]; decide), if_neg hAL, if_pos h39]
          rw [hT]
          have hlit := fun w => rliteral_any s r w hs hlt
          have t60 : ((s[r].toNat : Int) == 60) = false := by rw [h39]; rfl
          have t39 := u8_beq_true h39 39 rfl
          obtain ⟨T, hTT⟩ : ∃ T, T = Thk.litT (s.data.toList.drop (r + 1)) := ⟨_, rfl⟩
          simp only [← hTT] at hlit ⊢
          clear hS h39 hT hAw hAL hA hTT
          go_enter Tryz.func97, Tryz.ntmps97
          go_wp2_with fail
          refine (hblk _).mono ?_
          rintro e w' ⟨rfl, rfl⟩
          go_wp2_with fail
          refine (hsg _).mono ?_
          rintro e w' ⟨rfl, rfl⟩
          go_wp2_with fail
          refine (hlit _).mono ?_
          rintro e w1 ⟨v, rfl, hb, hI⟩
          have hI' : w1.ownsRow (w.heap.size + 1) 303 2 v (ritems T).length ((ritems T).flatMap spanC) := by simpa [Items] using hI
          obtain ⟨va, vc, hv⟩ := own_form hI'
          rw [hv] at hI' ⊢
          have hsz := hb.size
          simp at hsz
          have hres : w1.heap[w.heap.size]? = some (rtokO 0 0 0 ⟨#[]⟩ (.slice none 0 0)) := by
            rw [hb.block _ (by simp)]; exact heap_alloc_new _ _
          have hqr := cell_of_block hres
          have hfr := frozen_of_block hres
          have HB : Hid (Below w.heap.size w w1) := (below_alloc _ _).trans (hb.mono (by simp))
          have HI : Hid (w1.ownsRow (w.heap.size + 1) 303 2 (.slice va (ritems T).length vc) (ritems T).length ((ritems T).flatMap spanC)) := hI'
          clear hb hI hI' hv hres hlit
          simp only [rtokV]
          go_wp2_with fail
          refine bodyPost_ret (v := rtokV { T with place := r } (.slice va (ritems T).length vc)) (by simp [results, Tryz.results97, go_sem, rtokV, hqr, show w.heap.size < w1.heap.size from by omega]) rfl ⟨.slice va (ritems T).length vc, rfl, ?_, ?_⟩
          · exact ((((HB.out.setCell (Nat.le_refl _) _).setCell (Nat.le_refl _) _).setCell (Nat.le_refl _) _).setCell (Nat.le_refl _) _).setCell (Nat.le_refl _) _
          · exact own_mono (own_set (own_set (own_set (own_set (own_set HI.out (by omega)) (by omega)) (by omega)) (by omega)) (by omega)) (by omega : w.heap.size ≤ w.heap.size + 1)
        · have t39 := u8_beq_false h39 39 rfl
          by_cases h91 : s[r] = 91
          · have hT : Thk.tokL (s[r] :: s.data.toList.drop (r + 1)) = Thk.clsT (s.data.toList.drop (r + 1)) := by
              simp only [Thk.tokL]
              rw [if_neg (by rw [h91]; decide), if_neg hAL, if_neg h39, if_pos h91]
            rw [hT]
            have hlit := fun w => rclass_any s r w hs hlt
            have t60 : ((s[r].toNat : Int) == 60) = false := by rw [h91]; rfl
            have t91 := u8_beq_true h91 91 rfl
            obtain ⟨T, hTT⟩ : ∃ T, T = Thk.clsT (s.data.toList.drop (r + 1)) := ⟨_, rfl⟩
            simp only [← hTT] at hlit ⊢
            clear hS h39 h91 hT hAw hAL hA hTT
            go_enter Tryz.func97, Tryz.ntmps97
            go_wp2_with fail
            refine (hblk _).mono ?_
            rintro e w' ⟨rfl, rfl⟩
            go_wp2_with fail
            refine (hsg _).mono ?_
            rintro e w' ⟨rfl, rfl⟩
            go_wp2_with fail
            refine (hlit _).mono ?_
            rintro e w1 ⟨v, rfl, hb, hI⟩
            have hI' : w1.ownsRow (w.heap.size + 1) 303 2 v (ritems T).length ((ritems T).flatMap spanC) := by simpa [Items] using hI
            obtain ⟨va, vc, hv⟩ := own_form hI'
            rw [hv] at hI' ⊢
            have hsz := hb.size
            simp at hsz
            have hres : w1.heap[w.heap.size]? = some (rtokO 0 0 0 ⟨#[]⟩ (.slice none 0 0)) := by
              rw [hb.block _ (by simp)]; exact heap_alloc_new _ _
            have hqr := cell_of_block hres
            have hfr := frozen_of_block hres
            have HB : Hid (Below w.heap.size w w1) := (below_alloc _ _).trans (hb.mono (by simp))
            have HI : Hid (w1.ownsRow (w.heap.size + 1) 303 2 (.slice va (ritems T).length vc) (ritems T).length ((ritems T).flatMap spanC)) := hI'
            clear hb hI hI' hv hres hlit
            simp only [rtokV]
            go_wp2_with fail
            refine bodyPost_ret (v := rtokV { T with place := r } (.slice va (ritems T).length vc)) (by simp [results, Tryz.results97, go_sem, rtokV, hqr, show w.heap.size < w1.heap.size from by omega]) rfl ⟨.slice va (ritems T).length vc, rfl, ?_, ?_⟩
            · exact ((((HB.out.setCell (Nat.le_refl _) _).setCell (Nat.le_refl _) _).setCell (Nat.le_refl _) _).setCell (Nat.le_refl _) _).setCell (Nat.le_refl _) _
            · exact own_mono (own_set (own_set (own_set (own_set (own_set HI.out (by omega)) (by omega)) (by omega)) (by omega)) (by omega)) (by omega : w.heap.size ≤ w.heap.size + 1)
          · have t91 := u8_beq_false h91 91 rfl
            cases hL : Thk.isLet s[r] with
            | false =>
              have hT : Thk.tokL (s[r] :: s.data.toList.drop (r + 1)) = Thk.badT := by
                simp only [Thk.tokL]
                rw [if_neg (by rw [hL]; simp), if_neg hAL, if_neg h39, if_neg h91, if_neg (by rw [hS]; simp)]
              rw [hT]
              have hl : (s[r].toNat : Int) < 97 ∨ (¬ (s[r].toNat : Int) < 97 ∧ (122 : Int) < s[r].toNat) := by
                have h : ¬ (97 ≤ s[r].toNat ∧ s[r].toNat ≤ 122) := by rw [← let_iff, hL]; simp
                omega
              clear hS h39 h91 hT hAL hA hL
              rcases hl with l1 | ⟨l1, l2⟩ <;> rcases hAw with a1 | ⟨a1, a2⟩ | ⟨a1, a2, a3⟩
              all_goals
                go_enter Tryz.func97, Tryz.ntmps97
                go_wp2_with fail
                refine (hblk _).mono ?_
                rintro e w' ⟨rfl, rfl⟩
                go_wp2_with fail
                refine (hsg _).mono ?_
                rintro e w' ⟨rfl, rfl⟩
                go_wp2_with fail
                refine bodyPost_ret (v := .agg #[.int .i64 7, .int .i64 r, .int .i64 0, .string ⟨#[]⟩, .slice none 0 0]) (by simp [results, Tryz.results97, go_sem]) rfl ⟨.slice none 0 0, ?_, ?_, World.ownsRow_nil _ _ _ _⟩
                · rfl
                · exact below_alloc _ _
            | true =>
              have hT : Thk.tokL (s[r] :: s.data.toList.drop (r + 1)) = Thk.nameT (s.data.toList.drop r) := by
                simp only [Thk.tokL]
                rw [if_pos hL, drop_cons s r hlt]
              rw [hT]
              have hle := letN_le (s.data.toList.drop r)
              have hx := extract_take s r (Thk.letN (s.data.toList.drop r))
              rw [List.length_drop, show s.data.toList.length = s.size from rfl] at hle
              have t60 : ((s[r].toNat : Int) == 60) = false := u8_beq_false (let_not hL).1 60 rfl
              have hl := (let_iff _).1 hL
              have l1 : ¬ (s[r].toNat : Int) < 97 := by omega
              have l2 : ¬ (122 : Int) < s[r].toNat := by omega
              obtain ⟨N, hN⟩ : ∃ N, N = Thk.letN (s.data.toList.drop r) := ⟨_, rfl⟩
              obtain ⟨T, hTT⟩ : ∃ T, T = Thk.nameT (s.data.toList.drop r) := ⟨_, rfl⟩
              have hT1 : 12 < N → T = Thk.badT := by intro h; rw [hTT]; unfold Thk.nameT; rw [← hN, if_pos h]
              have hT2 : N ≤ 12 → T = ⟨.name, 0, N, (s.data.toList.drop r).take N, []⟩ := by intro h; rw [hTT]; unfold Thk.nameT; rw [← hN, if_neg (by omega)]
              rw [← hN] at hle hx
              rw [← hTT]
              have HT1 : Hid (12 < N → T = Thk.badT) := hT1
              have HT2 : Hid (N ≤ 12 → T = ⟨.name, 0, N, (s.data.toList.drop r).take N, []⟩) := hT2
              have HN : Hid (N = Thk.letN (s.data.toList.drop r)) := hN
              have HX : Hid (s.extract r (r + N) = ⟨((s.data.toList.drop r).take N).toArray⟩) := hx
              clear hN hx hTT hT1 hT2 hS h39 h91 hT hAL hA hL hl hAw
              go_enter Tryz.func97, Tryz.ntmps97
              go_wp2_with fail
              refine (hblk _).mono ?_
              rintro e w' ⟨rfl, rfl⟩
              go_wp2_with fail
              refine (hsg _).mono ?_
              rintro e w' ⟨rfl, rfl⟩
              go_wp2_with fail
              go_loop [7] (fun i => ∃ j : Nat, j ≤ N ∧ i = .int .i64 ↑(r + j) ∧ Hid (N = j + Thk.letN (s.data.toList.drop (r + j)))) (fun i => s.size - (intOf i).toNat)
              case atStart => exact ⟨0, Nat.zero_le _, rfl, by rw [Nat.zero_add, Nat.add_zero]; exact HN⟩
              case round =>
                obtain ⟨j, hj, rfl, hH⟩ := hrel
                by_cases hc : ∃ hlt : r + j < s.size, Thk.isLet s[r + j] = true
                · obtain ⟨hltj, hc⟩ := hc
                  have h1 : j + 1 ≤ N ∧ Hid (N = (j + 1) + Thk.letN (s.data.toList.drop (r + (j + 1)))) := by
                    have h := hH.out
                    rw [drop_cons s (r + j) hltj] at h
                    simp only [Thk.letN, hc, if_true] at h
                    exact ⟨by omega, show _ = _ by rw [show r + (j + 1) = r + j + 1 from rfl]; omega⟩
                  have hl := (let_iff _).1 hc
                  have m1 : (97 : Int) ≤ s[r + j].toNat := by omega
                  have m2 : (s[r + j].toNat : Int) ≤ 122 := by omega
                  clear hc hl
                  go_wp2_with fail
                  go_round
                  case rel => exact ⟨j + 1, h1.1, by go_num, h1.2⟩
                  case measure => simp [intOf]; omega
                · have h1 : j = N := by
                    have h := hH.out
                    by_cases hltj : r + j < s.size
                    · have hc' : Thk.isLet s[r + j] = false := by
                        cases hx : Thk.isLet s[r + j] with
                        | false => rfl
                        | true => exact absurd ⟨hltj, hx⟩ hc
                      rw [drop_cons s (r + j) hltj] at h
                      simp [Thk.letN, hc'] at h
                      exact h.symm
                    · rw [drop_end s (r + j) (by omega)] at h
                      simpa [Thk.letN] using h.symm
                  have hcw : ¬ r + j < s.size ∨ (∃ h : r + j < s.size, (97 : Int) ≤ s[r + j].toNat ∧ ¬ (s[r + j].toNat : Int) ≤ 122) ∨ (∃ h : r + j < s.size, ¬ (97 : Int) ≤ s[r + j].toNat) := by
                    by_cases hltj : r + j < s.size
                    · have hc' : ¬ (97 ≤ s[r + j].toNat ∧ s[r + j].toNat ≤ 122) := by rw [← let_iff]; intro h; exact hc ⟨hltj, h⟩
                      by_cases h97 : 97 ≤ s[r + j].toNat
                      · exact .inr (.inl ⟨hltj, by omega, by omega⟩)
                      · exact .inr (.inr ⟨hltj, by omega⟩)
                    · exact .inl hltj
                  clear hc hH
                  subst h1
                  have hrj : r + j ≤ s.size := by omega
                  by_cases h12 : 12 < j
                  · have e1 := HT1.out h12
                    subst e1
                    clear HT1 HT2 HX HN
                    rcases hcw with q1 | ⟨q1, q2, q3⟩ | ⟨q1, q2⟩
                    all_goals
                      go_wp2_with fail
                      refine bodyPost_ret (v := .agg #[.int .i64 7, .int .i64 r, .int .i64 0, .string ⟨#[]⟩, .slice none 0 0]) (by simp [results, Tryz.results97, go_sem]) rfl ⟨.slice none 0 0, ?_, ?_, World.ownsRow_nil _ _ _ _⟩
                      · rfl
                      · exact below_alloc _ _
                  · have e1 := HT2.out (by omega)
                    subst e1
                    rcases hcw with q1 | ⟨q1, q2, q3⟩ | ⟨q1, q2⟩
                    all_goals
                      go_wp2_with fail
                      refine bodyPost_ret (v := .agg #[.int .i64 1, .int .i64 r, .int .i64 ↑(r + j), .string (s.extract r (r + j)), .slice none 0 0]) (by simp [results, Tryz.results97, go_sem]) rfl ⟨.slice none 0 0, ?_, ?_, World.ownsRow_nil _ _ _ _⟩
                      · rw [HX.out]; rfl
                      · exact below_alloc _ _
  · rw [drop_end s r (by omega)]
    have hrr : r = s.size := by omega
    subst hrr
    go_enter Tryz.func97, Tryz.ntmps97
    go_wp2_with fail
    refine (hblk _).mono ?_
    rintro e w' ⟨rfl, rfl⟩
    go_wp2_with fail
    refine bodyPost_ret (v := .agg #[.int .i64 6, .int .i64 s.size, .int .i64 0, .string ⟨#[]⟩, .slice none 0 0]) (by simp [results, Tryz.results97, go_sem]) rfl ⟨.slice none 0 0, ?_, ?_, World.ownsRow_nil _ _ _ _⟩
    · rfl
    · exact below_alloc _ _
end Go.Proofs.YtiganlkabilblaaGreatDoor
