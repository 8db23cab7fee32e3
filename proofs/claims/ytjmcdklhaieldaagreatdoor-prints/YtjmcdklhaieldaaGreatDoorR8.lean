import Derived.Test.YtjmcdklhaieldaaGreatDoorRB
set_option linter.all false
namespace Go.Proofs.YtjmcdklhaieldaaGreatDoor
open Go.RowKit
attribute [local go_sem ↓] Go.wp_at_zero Go.wp_at_succ

theorem Tryz.infoInt : (Tryz.prog.info? 3).map (fun i => (i.zero, i.size, i.bytes)) = some (some (.int .i64 0), 1, 8) := by kernel_rfl

def okSg (b : Thk.Bytes) : Prop := b = [63] ∨ b = [42] ∨ b = [43] ∨ b = [38] ∨ b = [33]

theorem rkindOf_any (b : Thk.Bytes) (hb : okSg b) (w : World) :
    Calls Tryz.prog 121 #[.string ⟨b.toArray⟩] w fun e w' => e = .returned (.int .i64 (Thk.sgnKind b)) ∧ w' = w := by
  rcases hb with rfl | rfl | rfl | rfl | rfl
  all_goals
    go_enter Tryz.func121, Tryz.ntmps121
    go_wp2_with fail
    go_ret
    exact ⟨rfl, rfl⟩

/-- A row of numbers grows: the others stay. -/
theorem Mem.grown {w w1 : World} {B rb : Nat} {M : MV} {lab : Nat → Nat} {P : Nat → Prop} (h : Mem w B rb M lab P) {base : Nat} {v : Value} {n : Nat} {cs : List Value} (hv : w.ownsRow base 3 1 v n cs) (hg : w.grownBy w1 v.ownBlock) (l : Nat) (hl : Lab lab v l) (hP : ¬ P l) :
    w1.heap[rb]? = some (rdO M.vx M.vr M.vo M.sign M.may) ∧ w1.ownsRow B 126 5 M.vx M.xs.length (M.xs.flatMap exC) ∧ w1.ownsRow B 78 2 M.vr M.rs.length (M.rs.flatMap ruC) ∧ w1.ownsRow B 180 3 M.vo M.os.length (M.os.flatMap opC) ∧
    (∀ p ∈ M.xs, Items w1 B p.2.1 p.1.items) ∧ (∀ p ∈ M.xs, Ints w1 B p.2.2 p.1.parts) ∧ (∀ k (h : k < M.os.length), (2 * k + 1 ≠ l → Ints w1 B M.os[k].2.1 M.os[k].1.seqs) ∧ (2 * k + 2 ≠ l → Ints w1 B M.os[k].2.2 M.os[k].1.terms)) ∧
    (∀ (k : Nat) (cs : Array Value) (t : TypeId) (fr : Nat × Nat), w.heap[k]? = some (Obj.cells cs t fr) → t ∉ rdTys → w1.heap[k]? = w.heap[k]?) := by
  have hty : ∀ {e : TypeId} {sz : Nat} {u : Value} {n' : Nat} {cs' : List Value}, w.ownsRow B e sz u n' cs' → e ≠ 3 → w1.ownsRow B e sz u n' cs' := by
    intro e sz u n' cs' hu he
    exact own_blocks hu (fun b hb => hg.block b (hu.lt b hb).2 (fun e1 => own_ty2 hu hv he e1.symm hb))
  have hi : ∀ {u : Value} {ns : List Nat} {l' : Nat}, Ints w B u ns → Lab lab u l' → l' ≠ l → Ints w1 B u ns := by
    intro u ns l' hu hlu hne
    exact own_blocks hu (fun b hb => hg.block b (hu.lt b hb).2 (fun e1 => hne (by rw [← hlu b hb, ← hl b e1.symm])))
  refine ⟨?_, hty h.ex (by decide), hty h.ru (by decide), hty h.op (by decide), fun p hp => hty (h.items p hp) (by decide), ?_, ?_, ?_⟩
  · rw [hg.block rb h.lt (fun e => own_ty hv h.blk (by decide) e.symm)]; exact h.blk
  · intro p hp
    obtain ⟨h1, h2⟩ := h.parts p hp
    exact own_blocks h1 (fun b hb => hg.block b (h1.lt b hb).2 (fun e1 => hP (by rw [← hl b e1.symm]; exact h2 b hb)))
  · intro k hk
    obtain ⟨h1, h2, h3, h4⟩ := h.opens k hk
    exact ⟨fun hne => hi h1 h2 hne, fun hne => hi h3 h4 hne⟩
  · intro k cs' t fr hk ht
    refine hg.block k (heap_lt' hk) (fun e => ?_)
    obtain ⟨cs2, hc⟩ := own_blk hv e.symm
    rw [hk] at hc; simp at hc; rw [hc.2.1] at ht; exact ht (by decide)

def upd (lab : Nat → Nat) (g l : Nat) : Nat → Nat := fun b => if b = g then l else lab b

/-- A term more in the innermost. -/
theorem Mem.pushTerm {w w1 : World} {B rb : Nat} {M : MV} {lab : Nat → Nat} {P : Nat → Prop} (h : Mem w B rb M lab P) {mr : List (Thk.OP × Value × Value)} {m : Thk.OP × Value × Value} (ho : M.os = mr ++ [m]) {og oc : Nat} (hv : M.vo = .slice (some ⟨og, 0, none⟩) (mr.length + 1) oc)
    (hP : ¬ P (2 * mr.length + 2)) {e g cap : Nat} (hown : w1.ownsRow B 3 1 (.slice (some ⟨g, 0, none⟩) (m.1.terms.length + 1) cap) (m.1.terms.length + 1) (m.1.terms.map intV ++ [intV e])) (hg : w.grownBy w1 m.2.2.ownBlock) (hat : m.2.2.ownBlock = some g ∨ g = w.heap.size) :
    Mem (w1.setCell ⟨og, mr.length * 3 + 1, none⟩ (.slice (some ⟨g, 0, none⟩) (m.1.terms.length + 1) cap)) B rb { M with os := mr ++ [({ m.1 with terms := m.1.terms ++ [e] }, m.2.1, .slice (some ⟨g, 0, none⟩) (m.1.terms.length + 1) cap)] } (upd lab g (2 * mr.length + 2)) P ∧
      KT B w (w1.setCell ⟨og, mr.length * 3 + 1, none⟩ (.slice (some ⟨g, 0, none⟩) (m.1.terms.length + 1) cap)) := by
  have hl : mr.length < M.os.length := by rw [ho]; simp
  obtain ⟨h1, h2, h3, h4⟩ := h.opens mr.length hl
  have hm : M.os[mr.length]'hl = m := by simp only [ho]; rw [List.getElem_append_right (Nat.le_refl _)]; simp
  rw [hm] at h1 h2 h3 h4
  have hup : ∀ b l, b < w.heap.size → lab b = l → (b = g → l = 2 * mr.length + 2) → upd lab g (2 * mr.length + 2) b = l := by
    intro b l hb hlb hbg
    unfold upd
    by_cases hx : b = g
    · rw [if_pos hx, hbg hx]
    · rw [if_neg hx]; exact hlb
  have hgl : ∀ b, b < w.heap.size → b = g → lab b = 2 * mr.length + 2 := by
    intro b hb e1
    rcases hat with hat | hat
    · rw [e1]; exact h4 g hat
    · omega
  have hu : ∀ b, b < w.heap.size → upd lab g (2 * mr.length + 2) b = lab b := fun b hb => hup b _ hb rfl (hgl b hb)
  obtain ⟨g1, g2, g3, g4, g5, g6, g7, g8⟩ := h.grown h3 hg _ h4 hP
  -- the world behind the append
  have c := Chg.set og (mr.length * 3 + 1) (.slice (some ⟨g, 0, none⟩) (m.1.terms.length + 1) cap) w1
  have hle : M.os.length = mr.length + 1 := by rw [ho]; simp
  rw [hle, hv] at g4
  obtain ⟨cs, hob⟩ := own_blk g4 (b := og) rfl
  have hnr : rb ≠ og := by
    intro e1; subst e1
    have := own_ty g4 g1 (by decide)
    simp [Value.ownBlock] at this
  have hst := (g4.stored (mr.length * 3 + 1) (.slice (some ⟨g, 0, none⟩) (m.1.terms.length + 1) cap)).1
  have hw1 := hg.size
  refine ⟨⟨h.ge, by rw [c.same rb (by have := h.lt; omega) hnr]; exact g1, own_keep c g2 (own_ty g2 hob (by decide)), own_keep c g3 (own_ty g3 hob (by decide)), ?_, fun p hp => own_keep c (g5 p hp) (own_ty (g5 p hp) hob (by decide)), fun p hp => ⟨own_keep c (g6 p hp) (own_ty (g6 p hp) hob (by decide)), fun b hb => by rw [hu b ((h.parts p hp).1.lt b hb).2]; exact (h.parts p hp).2 b hb⟩, ?_⟩, ?_⟩
  · simp only [hv, List.length_append, List.length_singleton]
    rw [ho, opC_set mr m 1 (by decide)] at hst
    simpa [opC] using hst
  · intro k hk
    simp only [] at hk ⊢
    by_cases hkm : k < mr.length
    · rw [List.getElem_append_left hkm]
      obtain ⟨i1, i2, i3, i4⟩ := h.opens k (by omega)
      obtain ⟨j1, j2⟩ := g7 k (by omega)
      simp only [ho, List.getElem_append_left hkm] at i1 i2 i3 i4 j1 j2
      exact ⟨own_keep c (j1 (by omega)) (own_ty (j1 (by omega)) hob (by decide)), fun b hb => by rw [hu b (i1.lt b hb).2]; exact i2 b hb, own_keep c (j2 (by omega)) (own_ty (j2 (by omega)) hob (by decide)), fun b hb => by rw [hu b (i3.lt b hb).2]; exact i4 b hb⟩
    · have hke : k = mr.length := by simp at hk; omega
      subst hke
      rw [List.getElem_append_right (Nat.le_refl _)]
      simp only [Nat.sub_self, List.getElem_cons_zero]
      obtain ⟨j1, j2⟩ := g7 mr.length (by omega)
      rw [hm] at j1
      have hnew : Ints w1 B (.slice (some ⟨g, 0, none⟩) (m.1.terms.length + 1) cap) (m.1.terms ++ [e]) := by unfold Ints; simpa using hown
      exact ⟨own_keep c (j1 (by omega)) (own_ty (j1 (by omega)) hob (by decide)), fun b hb => by rw [hu b (h1.lt b hb).2]; exact h2 b hb, own_keep c hnew (own_ty hnew hob (by decide)), fun b hb => by simp [Value.ownBlock] at hb; subst hb; simp [upd]⟩
  · refine KT.trans ⟨hg.os, hg.tape, hg.output, hg.size, ?_, g8⟩ (KT.chg c (by have := h.lt; have := h.ge; omega) (g4.lt og rfl).1 (fun cs' t fr hb => by rw [hob] at hb; simp at hb; rw [← hb.2.1]; decide))
    intro k hk
    refine hg.block k (by have := h.lt; have := h.ge; omega) (fun e1 => ?_)
    have := (h3.lt k e1.symm).1
    omega

def RdPost (w : World) (B rb : Nat) (S' : Thk.ST) (v : Value) (e : Ending) (w' : World) : Prop :=
  e = .returned v ∧ ∃ M' lab', Mem w' B rb M' lab' (· = 0) ∧ KT B w w' ∧ M'.st = S'

set_option maxHeartbeats 4000000 in
set_option maxRecDepth 100000 in
/-- term, no sign ahead. -/
theorem rterm0_any (w : World) (B rb : Nat) (M : MV) (lab : Nat → Nat) (h : Mem w B rb M lab (· = 0)) (mr : List (Thk.OP × Value × Value)) (m : Thk.OP × Value × Value) (ho : M.os = mr ++ [m]) (e : Nat) (hb1 : m.1.terms.length ≤ 100000) (hb2 : mr.length ≤ 100000) :
    Calls Tryz.prog 83 #[.pointer (some ⟨rb, 0, none⟩), .int .i64 e, .string ⟨#[]⟩] w fun e' w' => RdPost w B rb (M.st.push e) (.tuple #[]) e' w' := by
  obtain ⟨i0, hi, hz0, hz1, hz2⟩ := info_parts Tryz.infoInt
  obtain ⟨og, oc, hv, hgB, hol, hor, q0, q1, q2, qf⟩ := h.topAt ho
  have hq := cell_of_block h.blk
  have hf := frozen_of_block h.blk
  have c2 := hq 2
  simp only [hv] at c2
  have hrl := h.lt
  have hge := h.ge
  have hlen : mr.length < M.os.length := by rw [ho]; simp
  obtain ⟨h1, h2, h3, h4⟩ := h.opens mr.length hlen
  have hm : M.os[mr.length]'hlen = m := by simp only [ho]; rw [List.getElem_append_right (Nat.le_refl _)]; simp
  rw [hm] at h3 h4
  obtain ⟨ta, tc, hvt⟩ := own_form h3
  rw [hvt] at q1
  have hown : w.ownsRow B 3 1 (.slice ta m.1.terms.length tc) m.1.terms.length (m.1.terms.map intV) := by rw [← hvt]; exact h3
  have H : Hid (Mem w B rb M lab (· = 0)) := h
  have HO : Hid (M.os = mr ++ [m]) := ho
  have HV : Hid (M.vo = .slice (some ⟨og, 0, none⟩) (mr.length + 1) oc) := hv
  have HT : Hid (m.2.2 = .slice ta m.1.terms.length tc) := hvt
  have HML : Hid (m.1.terms.length + 1 ≤ maxLen) := by show _ ≤ _; unfold maxLen; omega
  have hL : (mr.length : Int) < (mr.length : Int) + 1 := by omega
  have f4 := hf 4
  have c4 : w.cell? ⟨rb, 4, none⟩ = some (.bool M.may) := hq 4
  clear h ho hv hvt h1 h2 h3 h4 hm hq hf
  go_enter Tryz.func83, Tryz.ntmps83
  go_wp2_with fail
  go_quiet (fail)
  go_wp2_with (first | (at_builtin; refine wpList_append_lies _ rfl _ _ 38 rfl B 3 i0 _ 1 8 Tryz.underlying38 hi hz0 hz1 hz2 rfl (by decide) _ _ _ rfl (hown.alloc _) ⟨w.heap.size, 0, none⟩ 1 1 [intV e] rfl rfl ?c1 ?c2 (by decide) HML.out ?c4 ?c5 (w.heap.size + 1) (by simp) ?_))
  case c1 => exact cell_one_new _ _ _
  case c2 => intro u hu; simp at hu; subst hu; rfl
  case c4 => omega
  case c5 => simp; omega
  intro g cap w1 hown' hgrow hat hgl
  have hMW := H.out.below (lab' := lab) (w' := (w.drewN nq).alloc (.cells #[.int .i64 e] 3)) ((below_drewN (Below.refl _ _) nq).alloc (by simp) _) (fun _ _ => rfl)
  have hPT := hMW.pushTerm HO.out HV.out (by simp) hown' (by rw [HT.out]; exact hgrow) (by rw [HT.out]; simpa using hat)
  have hrow : ∀ k, k < w.heap.size → (∀ cs, w.heap[k]? ≠ some (Obj.cells cs 3 (0, 0))) → w1.heap[k]? = w.heap[k]? := by
    intro k hk hty
    rw [hgrow.block k (by simp; omega) ?_]
    · exact heap_alloc_old _ _ (by simpa using hk)
    · intro e1
      obtain ⟨cs, hcs⟩ := own_blk hown e1.symm
      exact hty cs hcs
  have hrbk : w1.heap[rb]? = w.heap[rb]? := hrow rb hrl (fun cs hcs => by rw [H.out.blk] at hcs; simp at hcs)
  have hogk : w1.heap[og]? = w.heap[og]? := by
    have hop := H.out.op
    rw [HV.out] at hop
    obtain ⟨cs', hcs'⟩ := own_blk hop (b := og) rfl
    exact hrow og hol (fun cs hcs => by rw [hcs'] at hcs; simp at hcs)
  have d1 : w1.cell? ⟨og, mr.length * 3 + 1, none⟩ = some (.slice ta m.1.terms.length tc) := (World.cell?_of_block hogk).trans q1
  have d2 : w1.frozen? ⟨og, mr.length * 3 + 1, none⟩ = false := (World.frozen?_of_block hogk).trans (qf _)
  have d3 : w1.cell? ⟨rb, 4, none⟩ = some (.bool M.may) := (World.cell?_of_block hrbk).trans c4
  have d4 : w1.frozen? ⟨rb, 4, none⟩ = false := (World.frozen?_of_block hrbk).trans f4
  have HE := (show Hid _ from hPT)
  clear hMW hPT hrow hrbk hogk hown hown' hgrow hat
  go_wp2_with fail
  obtain ⟨hM1, hK1⟩ := HE.out
  obtain ⟨hM2, hK2⟩ := hM1.setMay true
  go_end0
  refine ⟨rfl, _, _, hM2, ?_, ?_⟩
  · exact (((KT.refl B w).drewN nq).trans (KT.alloc B _ (by simp; omega) _)).trans (hK1.trans hK2)
  · simp [MV.st, Thk.ST.push, Thk.ST.setTop, Thk.ST.top, HO.out, List.getLastD_concat]

set_option maxHeartbeats 8000000 in
set_option maxRecDepth 100000 in
/-- term, a sign ahead. -/
theorem rterm1_any (w : World) (B rb : Nat) (M : MV) (lab : Nat → Nat) (h : Mem w B rb M lab (· = 0)) (mr : List (Thk.OP × Value × Value)) (m : Thk.OP × Value × Value) (ho : M.os = mr ++ [m]) (e : Nat) (sg : Thk.Bytes) (hsg : okSg sg) (hb0 : M.xs.length ≤ 100000) (hb1 : m.1.terms.length ≤ 100000) (hb2 : mr.length ≤ 100000) :
    Calls Tryz.prog 83 #[.pointer (some ⟨rb, 0, none⟩), .int .i64 e, .string ⟨sg.toArray⟩] w fun e' w' => RdPost w B rb ((M.st.add (Thk.wrapE (Thk.sgnKind sg) e)).push M.xs.length) (.tuple #[]) e' w' := by
  obtain ⟨i0, hi, hz0, hz1, hz2⟩ := info_parts Tryz.infoInt
  have hko := fun w => rkindOf_any sg hsg w
  have hne : List.isEmpty sg = false := by rcases hsg with rfl | rfl | rfl | rfl | rfl <;> rfl
  have hadd := fun (w' : World) (lab' : Nat → Nat) (hM : Mem w' B rb M lab' (· = 0)) (xa : Option Addr) (xc : Nat) (hx : M.vx = .slice xa M.xs.length xc) (pa : Option Addr) (pl pc : Nat) =>
    radd_any w' B rb xa xc M.xs.length M.vr M.vo M.sign M.may (M.xs.flatMap exC) (Thk.sgnKind sg) none 0 0 ⟨#[]⟩ 0 pa pl pc (by rw [← hx]; exact hM.blk) (by rw [← hx]; exact hM.ex) hb0 hM.ge
  obtain ⟨xa, xc, hx⟩ := own_form h.ex
  have hB0 : B ≤ w.heap.size := by have := h.lt; have := h.ge; omega
  have hM1 := h.below (w' := w.alloc (.cells #[.int .i64 e] 3)) (lab' := upd lab w.heap.size 0) (below_alloc _ _) (fun g hg => by unfold upd; rw [if_neg (by omega)])
  have had := hadd _ _ hM1 xa xc hx (some ⟨w.heap.size, 0, none⟩) 1 1
  have HM1 := (show Hid _ from hM1)
  have HX := (show Hid _ from hx)
  have HO0 := (show Hid _ from ho)
  clear hadd hM1 hx h
  go_enter Tryz.func83, Tryz.ntmps83
  go_wp2_with fail
  refine (hko _).mono ?_
  rintro e1 w' ⟨rfl, hw⟩
  replace hw := hw.symm
  subst hw
  clear hko
  go_wp2_with fail
  refine had.mono ?_
  rintro e1 w2 ⟨xg, xcap, rfl, hAE⟩
  have hint : Ints (w.alloc (.cells #[.int .i64 e] 3)) B (.slice (some ⟨w.heap.size, 0, none⟩) 1 1) [e] := World.ownsRow_lit w #[.int .i64 e] 1 hB0 (by decide) rfl
  have h2 := HM1.out.add (re := Thk.wrapE (Thk.sgnKind sg) e) (iv := .slice none 0 0) (pv := .slice (some ⟨w.heap.size, 0, none⟩) 1 1) (by rw [HX.out]; exact hAE) (World.ownsRow_nil _ _ _ _) hint (fun b hb => by simp [Value.ownBlock] at hb; subst hb; simp [upd])
  obtain ⟨h, hKA⟩ := h2
  have HKA : Hid (KT B w w2) := (KT.alloc B w hB0 _).trans hKA
  have ho : M.os = mr ++ [m] := HO0.out
  obtain ⟨M2, hM2⟩ : ∃ M2, M2 = ({ M with vx := .slice (some ⟨xg, 0, none⟩) (M.xs.length + 1) xcap, xs := M.xs ++ [(Thk.wrapE (Thk.sgnKind sg) e, .slice none 0 0, .slice (some ⟨w.heap.size, 0, none⟩) 1 1)] } : MV) := ⟨_, rfl⟩
  rw [← hM2] at h
  have ho2 : M2.os = mr ++ [m] := by rw [hM2]; exact ho
  have HST : Hid (M2.st = M.st.add (Thk.wrapE (Thk.sgnKind sg) e)) := by rw [hM2]; show _ = _; simp [MV.st, Thk.ST.add]
  have HXL : Hid (M2.xs.length = M.xs.length + 1) := by rw [hM2]; show _ = _; simp
  have HO0 := ho2
  clear hAE hKA hint had hM2 ho HM1 HX
  obtain ⟨lab2, hlab2⟩ : ∃ l, l = upd lab w.heap.size 0 := ⟨_, rfl⟩
  rw [← hlab2] at h
  clear hlab2
  have ho := ho2
  clear ho2 HO0
  obtain ⟨og, oc, hv, hgB, hol, hor, q0, q1, q2, qf⟩ := h.topAt ho
  have hq := cell_of_block h.blk
  have hf := frozen_of_block h.blk
  have c2 := hq 2
  simp only [hv] at c2
  have hrl := h.lt
  have hge := h.ge
  have hlen : mr.length < M2.os.length := by rw [ho]; simp
  obtain ⟨h1, h2, h3, h4⟩ := h.opens mr.length hlen
  have hm : M2.os[mr.length]'hlen = m := by simp only [ho]; rw [List.getElem_append_right (Nat.le_refl _)]; simp
  rw [hm] at h3 h4
  obtain ⟨ta, tc, hvt⟩ := own_form h3
  rw [hvt] at q1
  have hown : w2.ownsRow B 3 1 (.slice ta m.1.terms.length tc) m.1.terms.length (m.1.terms.map intV) := by rw [← hvt]; exact h3
  have H : Hid (Mem w2 B rb M2 lab2 (· = 0)) := h
  have HO : Hid (M2.os = mr ++ [m]) := ho
  have HV : Hid (M2.vo = .slice (some ⟨og, 0, none⟩) (mr.length + 1) oc) := hv
  have HT : Hid (m.2.2 = .slice ta m.1.terms.length tc) := hvt
  have HML : Hid (m.1.terms.length + 1 ≤ maxLen) := by show _ ≤ _; unfold maxLen; omega
  have hL : (mr.length : Int) < (mr.length : Int) + 1 := by omega
  have f4 := hf 4
  have c4 : w2.cell? ⟨rb, 4, none⟩ = some (.bool M2.may) := hq 4
  clear h ho hv hvt h1 h2 h3 h4 hm hq hf
  go_wp2_with fail
  go_quiet (fail)
  go_wp2_with (first | (at_builtin; refine wpList_append_lies _ rfl _ _ 38 rfl B 3 i0 _ 1 8 Tryz.underlying38 hi hz0 hz1 hz2 rfl (by decide) _ _ _ rfl (hown.alloc _) ⟨w2.heap.size, 0, none⟩ 1 1 [intV M.xs.length] rfl rfl ?c1 ?c2 (by decide) HML.out ?c4 ?c5 (w2.heap.size + 1) (by simp) ?_))
  case c1 => exact cell_one_new _ _ _
  case c2 => intro u hu; simp at hu; subst hu; rfl
  case c4 => omega
  case c5 => simp; omega
  intro g cap w1 hown' hgrow hat hgl
  have hMW := H.out.below (lab' := lab2) (w' := (w2.drewN nq).alloc (.cells #[.int .i64 M.xs.length] 3)) ((below_drewN (Below.refl _ _) nq).alloc (by simp) _) (fun _ _ => rfl)
  have hPT := hMW.pushTerm HO.out HV.out (by simp) hown' (by rw [HT.out]; exact hgrow) (by rw [HT.out]; simpa using hat)
  have hrow : ∀ k, k < w2.heap.size → (∀ cs, w2.heap[k]? ≠ some (Obj.cells cs 3 (0, 0))) → w1.heap[k]? = w2.heap[k]? := by
    intro k hk hty
    rw [hgrow.block k (by simp; omega) ?_]
    · exact heap_alloc_old _ _ (by simpa using hk)
    · intro e1
      obtain ⟨cs, hcs⟩ := own_blk hown e1.symm
      exact hty cs hcs
  have hrbk : w1.heap[rb]? = w2.heap[rb]? := hrow rb hrl (fun cs hcs => by rw [H.out.blk] at hcs; simp at hcs)
  have hogk : w1.heap[og]? = w2.heap[og]? := by
    have hop := H.out.op
    rw [HV.out] at hop
    obtain ⟨cs', hcs'⟩ := own_blk hop (b := og) rfl
    exact hrow og hol (fun cs hcs => by rw [hcs'] at hcs; simp at hcs)
  have d1 : w1.cell? ⟨og, mr.length * 3 + 1, none⟩ = some (.slice ta m.1.terms.length tc) := (World.cell?_of_block hogk).trans q1
  have d2 : w1.frozen? ⟨og, mr.length * 3 + 1, none⟩ = false := (World.frozen?_of_block hogk).trans (qf _)
  have d3 : w1.cell? ⟨rb, 4, none⟩ = some (.bool M2.may) := (World.cell?_of_block hrbk).trans c4
  have d4 : w1.frozen? ⟨rb, 4, none⟩ = false := (World.frozen?_of_block hrbk).trans f4
  have HE := (show Hid _ from hPT)
  clear hMW hPT hrow hrbk hogk hown hown' hgrow hat
  go_wp2_with fail
  obtain ⟨hM1, hK1⟩ := HE.out
  obtain ⟨hM2, hK2⟩ := hM1.setMay true
  go_end0
  refine ⟨rfl, _, _, hM2, ?_, ?_⟩
  · exact HKA.out.trans ((((KT.refl B w2).drewN nq).trans (KT.alloc B _ (by simp; omega) _)).trans (hK1.trans hK2))
  · rw [← HST.out]
    simp [MV.st, Thk.ST.push, Thk.ST.setTop, Thk.ST.top, HO.out, List.getLastD_concat]
end Go.Proofs.YtjmcdklhaieldaaGreatDoor
