import Derived.Test.YtjmcdklhaieldaaGreatDoorR9
set_option linter.all false
namespace Go.Proofs.YtjmcdklhaieldaaGreatDoor
open Go.RowKit
attribute [local go_sem ↓] Go.wp_at_zero Go.wp_at_succ

theorem os_split {M : MV} {l : List Thk.OP} {o : Thk.OP} (h : M.st.os = l ++ [o]) : ∃ mr m, M.os = mr ++ [m] ∧ mr.map (·.1) = l ∧ m.1 = o := by
  have h' : M.os.map (·.1) = l ++ [o] := h
  rw [List.map_eq_append_iff] at h'
  obtain ⟨l1, l2, h1, h2, h3⟩ := h'
  match l2, h3 with
  | [m], h3 => exact ⟨l1, m, h1, h2, by simpa using h3⟩

/-- The innermost ends: its sequences' row is handed on. -/
theorem Mem.pop {w : World} {B rb : Nat} {M : MV} {lab : Nat → Nat} (h : Mem w B rb M lab (· = 0)) {mr : List (Thk.OP × Value × Value)} {m : Thk.OP × Value × Value} (ho : M.os = mr ++ [m]) {og oc : Nat} (hv : M.vo = .slice (some ⟨og, 0, none⟩) (mr.length + 1) oc) :
    Mem (w.setCell ⟨rb, 2, none⟩ (.slice (some ⟨og, 0, none⟩) mr.length oc)) B rb { M with vo := .slice (some ⟨og, 0, none⟩) mr.length oc, os := mr } (fun b => if lab b = 2 * mr.length + 1 then 0 else lab b) (· = 0) ∧ KT B w (w.setCell ⟨rb, 2, none⟩ (.slice (some ⟨og, 0, none⟩) mr.length oc)) ∧
      Ints (w.setCell ⟨rb, 2, none⟩ (.slice (some ⟨og, 0, none⟩) mr.length oc)) B m.2.1 m.1.seqs ∧ Lab (fun b => if lab b = 2 * mr.length + 1 then 0 else lab b) m.2.1 0 := by
  have c := Chg.set rb 2 (.slice (some ⟨og, 0, none⟩) mr.length oc) w
  have hlen : mr.length < M.os.length := by rw [ho]; simp
  obtain ⟨h1, h2, h3, h4⟩ := (h.topCells ho hv).2.2.2.2.2.2
  have hop := h.op
  rw [hv, ho] at hop
  have hop' : w.ownsRow B 180 3 (.slice (some ⟨og, 0, none⟩) mr.length oc) mr.length (mr.flatMap opC) := by
    refine ownsRow_pop (last := opC m) (by rw [opC_len]) ?_
    simpa using hop
  refine ⟨⟨h.ge, by rw [setCell_block h.blk]; rfl, own_keep c h.ex (own_ty h.ex h.blk (by decide)), own_keep c h.ru (own_ty h.ru h.blk (by decide)), own_keep c hop' (own_ty hop' h.blk (by decide)), fun p hp => own_keep c (h.items p hp) (own_ty (h.items p hp) h.blk (by decide)), fun p hp => ⟨own_keep c (h.parts p hp).1 (own_ty (h.parts p hp).1 h.blk (by decide)), fun g hg => ?_⟩, ?_⟩, KT.chg c (by have := h.lt; have := h.ge; omega) h.ge (fun cs t fr hb => by rw [h.blk] at hb; simp at hb; rw [← hb.2.1]; decide), own_keep c h1 (own_ty h1 h.blk (by decide)), fun g hg => ?_⟩
  · have e1 : lab g = 0 := (h.parts p hp).2 g hg
    show (if lab g = _ then 0 else lab g) = 0
    rw [e1]; split <;> rfl
  · intro k hk
    simp only [] at hk ⊢
    obtain ⟨i1, i2, i3, i4⟩ := h.opens k (by omega)
    simp only [ho, List.getElem_append_left hk] at i1 i2 i3 i4
    refine ⟨own_keep c i1 (own_ty i1 h.blk (by decide)), fun b hb => ?_, own_keep c i3 (own_ty i3 h.blk (by decide)), fun b hb => ?_⟩
    · have e1 := i2 b hb; simp only []; rw [e1, if_neg (by omega)]
    · have e1 := i4 b hb; simp only []; rw [e1, if_neg (by omega)]
  · have e1 := h2 g hg; simp only []; rw [e1, if_pos rfl]

set_option maxHeartbeats 8000000 in
set_option maxRecDepth 100000 in
theorem rclosed_any (w : World) (B rb : Nat) (M : MV) (lab : Nat → Nat) (h : Mem w B rb M lab (· = 0)) (mr0 : List (Thk.OP × Value × Value)) (m0 : Thk.OP × Value × Value) (ho : M.os = mr0 ++ [m0]) (hb0 : M.xs.length ≤ 90000) (hb1 : m0.1.seqs.length ≤ 90000) (hb2 : mr0.length ≤ 90000) :
    Calls Tryz.prog 118 #[.pointer (some ⟨rb, 0, none⟩)] w fun e' w' => RdPost w B rb M.st.closed (.tuple #[.int .i64 ↑(M.xs.length + 1), .string ⟨m0.1.sign.toArray⟩]) e' w' := by
  have hsl := rslash_any w B rb M lab h mr0 m0 ho (by omega) (by omega) (by omega)
  have e1 : M.st.top = m0.1 := by simp [MV.st, Thk.ST.top, ho, List.getLastD_concat]
  have e2 : M.st.xs.length = M.xs.length := by simp [MV.st]
  have hso : M.st.slash.os = mr0.map (·.1) ++ [⟨m0.1.seqs ++ [M.xs.length], [], m0.1.sign⟩] := by
    unfold Thk.ST.slash
    rw [e1, e2]
    simp [MV.st, Thk.ST.setTop, Thk.ST.add, ho]
  have HCL : Hid (M.st.closed = ({ M.st.slash with os := mr0.map (·.1) } : Thk.ST).add ⟨6, [], [], 0, m0.1.seqs ++ [M.xs.length]⟩) := by
    show _ = _
    unfold Thk.ST.closed
    rw [e1, e2, show M.st.os.dropLast = mr0.map (·.1) from by simp [MV.st, ho]]
  have hsx : M.st.slash.xs.length = M.xs.length + 1 := by
    unfold Thk.ST.slash
    simp [Thk.ST.setTop, Thk.ST.add, MV.st]
  have HSO := (show Hid _ from hso)
  have HSX := (show Hid _ from hsx)
  clear h ho hso e1 e2 hsx
  go_enter Tryz.func118, Tryz.ntmps118
  go_wp2_with fail
  refine hsl.mono ?_
  rintro e1 w1 ⟨rfl, M1, lab1, hM1, hK1, hS1⟩
  obtain ⟨mr, m, ho, hmr, hm1⟩ := os_split (M := M1) (by rw [hS1]; exact HSO.out)
  have hxl : M1.xs.length = M.xs.length + 1 := by
    have := HSX.out; rw [← hS1] at this; simpa [MV.st] using this
  have hmrl : mr.length = mr0.length := by rw [← List.length_map (f := (·.1)), hmr]; simp
  have hL1 : mr.length ≤ 90000 := by omega
  have hrl := hM1.lt
  have hge := hM1.ge
  obtain ⟨og, oc, hv, hgB, hol, hor, q0, q1, q2, qf⟩ := hM1.topAt ho
  have c2 : w1.cell? ⟨rb, 2, none⟩ = some M1.vo := cell_of_block hM1.blk 2
  have f2 : w1.frozen? ⟨rb, 2, none⟩ = false := frozen_of_block hM1.blk 2
  rw [hv] at c2
  obtain ⟨h1, h2, h3, h4⟩ := (hM1.topCells ho hv).2.2.2.2.2.2
  have hse : m.1.seqs = m0.1.seqs ++ [M.xs.length] := by rw [hm1]
  have hte : m.1.sign = m0.1.sign := by rw [hm1]
  obtain ⟨sa, sc, hvs⟩ := own_form h1
  obtain ⟨ta, tc, hvt⟩ := own_form h3
  rw [hvs] at q0
  rw [hvt] at q1
  rw [hte] at q2
  have hL : (mr.length : Int) < (mr.length : Int) + 1 := by omega
  have hcap : (mr.length : Int) ≤ (oc : Int) := by
    have hop := hM1.op
    rw [hv, ho] at hop
    rcases hop.2 with ⟨hx, _⟩ | ⟨g', cap', cur, hx, _, _, hnc, _⟩
    · simp at hx
    · simp at hx; obtain ⟨_, rfl⟩ := hx; simp at hnc; omega
  have HM1 : Hid (Mem w1 B rb M1 lab1 (· = 0)) := hM1
  have HO : Hid (M1.os = mr ++ [m]) := ho
  have HV : Hid (M1.vo = .slice (some ⟨og, 0, none⟩) (mr.length + 1) oc) := hv
  have HVS := (show Hid _ from hvs)
  have HVT := (show Hid _ from hvt)
  have HSE := (show Hid _ from hse)
  have HS1 : Hid (M1.st = M.st.slash) := hS1
  have HXL := (show Hid _ from hxl)
  have HMR := (show Hid _ from hmr)
  have HK1 := (show Hid _ from hK1)
  clear hsl hM1 ho hv hvs hvt hse hS1 hm1 hte hmr hK1 hmrl h1 h2 h3 h4
  go_wp2_with fail
  go_region
  go_wp2_with fail
  go_region
  go_wp2_with fail
  have hpop := HM1.out.pop HO.out HV.out
  obtain ⟨hMp, hKp, hIp, hLp⟩ := hpop
  generalize hWe : ((w1.setCell ⟨rb, 2, none⟩ (.slice (some ⟨og, 0, none⟩) mr.length oc)).alloc (.cells #[.slice sa m.1.seqs.length sc, .slice ta m.1.terms.length tc, .string ⟨m0.1.sign.toArray⟩] 180)).drew.drew = W
  have hbW : Below (w1.setCell ⟨rb, 2, none⟩ (.slice (some ⟨og, 0, none⟩) mr.length oc)).heap.size (w1.setCell ⟨rb, 2, none⟩ (.slice (some ⟨og, 0, none⟩) mr.length oc)) W := by
    rw [← hWe]; exact ((below_alloc _ _).drew).drew
  have hMW := hMp.below hbW (fun _ _ => rfl)
  have hIW : Ints W B m.2.1 m.1.seqs := own_below hIp hbW
  have hKW : KT B w1 W := by
    rw [← hWe]
    exact ((hKp.trans (KT.alloc B _ (by simp; omega) _)).drew).drew
  have hoW : W.heap[w1.heap.size]? = some (.cells #[.slice sa m.1.seqs.length sc, .slice ta m.1.terms.length tc, .string ⟨m0.1.sign.toArray⟩] 180 (0, 0)) := by
    rw [← hWe]
    show ((w1.setCell _ _).alloc _).heap[_]? = _
    rw [show w1.heap.size = (w1.setCell ⟨rb, 2, none⟩ (.slice (some ⟨og, 0, none⟩) mr.length oc)).heap.size from by simp]; exact heap_alloc_new _ _
  have hszW : W.heap.size = w1.heap.size + 1 := by rw [← hWe]; show ((w1.setCell _ _).alloc _).heap.size = _; simp
  clear hWe hbW hMp hKp hIp c2 f2 q0 q1 q2 qf
  obtain ⟨Mp, hMpe⟩ : ∃ Mp, Mp = ({ M1 with vo := .slice (some ⟨og, 0, none⟩) mr.length oc, os := mr } : MV) := ⟨_, rfl⟩
  obtain ⟨labp, hlabe⟩ : ∃ l, l = (fun b => if lab1 b = 2 * mr.length + 1 then 0 else lab1 b) := ⟨_, rfl⟩
  rw [← hMpe, ← hlabe] at hMW
  rw [← hlabe] at hLp
  have hxp : Mp.xs.length = M.xs.length + 1 := by rw [hMpe]; exact HXL.out
  have HSTp : Hid (Mp.st = ({ M.st.slash with os := mr0.map (·.1) } : Thk.ST)) := by
    show _ = _
    rw [hMpe, ← HS1.out, ← HMR.out]
    rfl
  obtain ⟨xa, xc, hx⟩ := own_form hMW.ex
  have had1 := radd_any W.drew B rb xa xc Mp.xs.length Mp.vr Mp.vo Mp.sign Mp.may (Mp.xs.flatMap exC) 6 none 0 0 ⟨#[]⟩ 0 sa m.1.seqs.length sc (by rw [← hx]; exact hMW.blk) (by rw [← hx]; exact hMW.ex) (by omega) hMW.ge
  simp only [show ((6 : Nat) : Int) = 6 from rfl] at had1
  have o0 : W.cell? ⟨w1.heap.size, 0, none⟩ = some (.slice sa m.1.seqs.length sc) := cell_of_block hoW 0
  have o2 : W.cell? ⟨w1.heap.size, 2, none⟩ = some (.string ⟨m0.1.sign.toArray⟩) := cell_of_block hoW 2
  have HMW : Hid (Mem W B rb Mp labp (· = 0)) := hMW
  have HIW := (show Hid _ from hIW)
  have HLP := (show Hid _ from hLp)
  have HKW := (show Hid _ from hKW)
  have HOW := (show Hid _ from hoW)
  have HX := (show Hid _ from hx)
  have hne : some w1.heap.size ≠ (Value.slice xa Mp.xs.length xc).ownBlock := fun e1 => by
    have := own_ty hMW.ex hoW (by decide)
    rw [hx] at this
    exact this e1.symm
  have HNE := (show Hid _ from hne)
  have hrl2 : rb < w1.heap.size := hrl
  clear hMW hIW hLp hKW hoW hMpe hlabe hx hne
  go_region_with (go_at_call 84; go_loud (refine had1.mono ?_; rintro e1 w2 ⟨xg, xcap, rfl, hAE⟩; have y2 : w2.cell? ⟨w1.heap.size, 2, none⟩ = some (.string ⟨m0.1.sign.toArray⟩) := (World.cell?_of_block (hAE.same w1.heap.size (by simp; omega) (by omega) HNE.out)).trans o2))
  all_goals go_wp2_with fail
  all_goals
    have hend := HMW.out.drew.add (re := ⟨6, [], [], 0, m.1.seqs⟩) (iv := .slice none 0 0) (pv := m.2.1) (by rw [HX.out, HVS.out]; exact hAE) (World.ownsRow_nil _ _ _ _) HIW.out (fun b hb => HLP.out b hb)
    go_ret2
    refine ⟨rfl, _, _, hend.1, ?_, ?_⟩
    · exact HK1.out.trans (HKW.out.trans ((KT.refl B W).drew.trans hend.2))
    · rw [HCL.out, ← HSTp.out, ← HSE.out]
      simp [MV.st, Thk.ST.add]
end Go.Proofs.YtjmcdklhaieldaaGreatDoor
namespace Go.Proofs.YtjmcdklhaieldaaGreatDoor
open Go.RowKit
attribute [local go_sem ↓] Go.wp_at_zero Go.wp_at_succ

theorem exC_get (ps : List (Thk.RE × Value × Value)) (i j : Nat) (hi : i < ps.length) (hj : j < 5) : (ps.flatMap exC)[i * 5 + j]? = (exC ps[i])[j]? := by
  induction ps generalizing i with
  | nil => simp at hi
  | cons p ps ih =>
    have hl : (exC p).length = 5 := rfl
    cases i with
    | zero =>
      simp only [List.flatMap_cons, Nat.zero_mul, Nat.zero_add, List.getElem_cons_zero]
      rw [List.getElem?_append_left (by omega)]
    | succ i =>
      simp only [List.flatMap_cons, List.getElem_cons_succ]
      rw [List.getElem?_append_right (by omega), hl, show (i + 1) * 5 + j - 5 = i * 5 + j from by omega]
      exact ih i (by simpa using hi)

theorem exC_set (ps : List (Thk.RE × Value × Value)) (i j : Nat) (hi : i < ps.length) (hj : j < 5) (u : Value) (q : Thk.RE × Value × Value) (hq : (exC ps[i]).set j u = exC q) : (ps.flatMap exC).set (i * 5 + j) u = (ps.set i q).flatMap exC := by
  induction ps generalizing i with
  | nil => simp at hi
  | cons p ps ih =>
    have hl : (exC p).length = 5 := rfl
    cases i with
    | zero =>
      simp only [List.flatMap_cons, Nat.zero_mul, Nat.zero_add, List.set_cons_zero]
      rw [List.set_append_left _ _ (by omega)]
      simp only [List.getElem_cons_zero] at hq
      rw [hq]
    | succ i =>
      simp only [List.flatMap_cons, List.set_cons_succ]
      rw [List.set_append_right _ _ (by omega), hl, show (i + 1) * 5 + j - 5 = i * 5 + j from by omega]
      simp only [List.getElem_cons_succ] at hq
      rw [ih i (by simpa using hi) hq]

theorem Mem.exAt {w : World} {B rb : Nat} {M : MV} {lab : Nat → Nat} {P : Nat → Prop} (h : Mem w B rb M lab P) (hn : 0 < M.xs.length) :
    ∃ xg xc, M.vx = .slice (some ⟨xg, 0, none⟩) M.xs.length xc ∧ B ≤ xg ∧ xg < w.heap.size ∧ (∃ cs, w.heap[xg]? = some (.cells cs 126 (0, 0))) ∧ (∀ o, w.frozen? ⟨xg, o, none⟩ = false) ∧
      ∀ k (hk : k < M.xs.length), w.cell? ⟨xg, k * 5, none⟩ = some (.int .i64 M.xs[k].1.kind) ∧ w.cell? ⟨xg, k * 5 + 1, none⟩ = some M.xs[k].2.1 ∧ w.cell? ⟨xg, k * 5 + 2, none⟩ = some (.string ⟨M.xs[k].1.text.toArray⟩) ∧ w.cell? ⟨xg, k * 5 + 3, none⟩ = some (.int .i64 M.xs[k].1.rule) ∧ w.cell? ⟨xg, k * 5 + 4, none⟩ = some M.xs[k].2.2 := by
  have hex := h.ex
  obtain ⟨xg, xc, hv, hb, hl⟩ := hex.form hn
  rw [hv] at hex
  refine ⟨xg, xc, hv, hb, hl, own_blk hex rfl, fun o => hex.frozenAt o, fun k hk => ?_⟩
  have hc : ∀ j, j < 5 → w.cell? ⟨xg, k * 5 + j, none⟩ = (exC M.xs[k])[j]? := fun j hj => by rw [hex.cellAt _ (by omega), exC_get _ _ _ hk hj]
  exact ⟨hc 0 (by decide), hc 1 (by decide), hc 2 (by decide), hc 3 (by decide), hc 4 (by decide)⟩

/-- An expression's parts anew. -/
theorem Mem.setParts {w : World} {B rb : Nat} {M : MV} {lab : Nat → Nat} (h : Mem w B rb M lab (· = 0)) {k : Nat} (hk : k < M.xs.length) {xg xc : Nat} (hv : M.vx = .slice (some ⟨xg, 0, none⟩) M.xs.length xc) {pv : Value} {ns : List Nat} (hp : Ints w B pv ns) (hl : Lab lab pv 0) :
    Mem (w.setCell ⟨xg, k * 5 + 4, none⟩ pv) B rb { M with xs := M.xs.set k ({ M.xs[k].1 with parts := ns }, M.xs[k].2.1, pv) } lab (· = 0) ∧ KT B w (w.setCell ⟨xg, k * 5 + 4, none⟩ pv) := by
  have c := Chg.set xg (k * 5 + 4) pv w
  have hex := h.ex
  rw [hv] at hex
  obtain ⟨cs, hxb⟩ := own_blk hex (b := xg) rfl
  have hnr : rb ≠ xg := by
    intro e1; subst e1
    have := own_ty hex h.blk (by decide)
    simp [Value.ownBlock] at this
  have hst := (hex.stored (k * 5 + 4) pv).1
  rw [exC_set M.xs k 4 hk (by decide) pv ({ M.xs[k].1 with parts := ns }, M.xs[k].2.1, pv) rfl] at hst
  have hmem : ∀ p ∈ M.xs.set k ({ M.xs[k].1 with parts := ns }, M.xs[k].2.1, pv), p ∈ M.xs ∨ p = ({ M.xs[k].1 with parts := ns }, M.xs[k].2.1, pv) := fun p hp => List.mem_or_eq_of_mem_set hp
  refine ⟨⟨h.ge, by rw [c.same rb h.lt hnr]; exact h.blk, ?_, own_keep c h.ru (own_ty h.ru hxb (by decide)), own_keep c h.op (own_ty h.op hxb (by decide)), ?_, ?_, ?_⟩, KT.chg c (by have := h.lt; have := h.ge; omega) (hex.lt xg rfl).1 (fun cs' t fr hb => by rw [hxb] at hb; simp at hb; rw [← hb.2.1]; decide)⟩
  · simp only [hv, List.length_set]; exact hst
  · intro p hpm
    rcases hmem p hpm with hpm | rfl
    · exact own_keep c (h.items p hpm) (own_ty (h.items p hpm) hxb (by decide))
    · have := h.items M.xs[k] (List.getElem_mem hk)
      exact own_keep c this (own_ty this hxb (by decide))
  · intro p hpm
    rcases hmem p hpm with hpm | rfl
    · exact ⟨own_keep c (h.parts p hpm).1 (own_ty (h.parts p hpm).1 hxb (by decide)), (h.parts p hpm).2⟩
    · exact ⟨own_keep c hp (own_ty hp hxb (by decide)), hl⟩
  · intro j hj
    obtain ⟨h1, h2, h3, h4⟩ := h.opens j hj
    exact ⟨own_keep c h1 (own_ty h1 hxb (by decide)), h2, own_keep c h3 (own_ty h3 hxb (by decide)), h4⟩

/-- The innermost's last term anew. -/
theorem Mem.setLast {w : World} {B rb : Nat} {M : MV} {lab : Nat → Nat} (h : Mem w B rb M lab (· = 0)) {mr : List (Thk.OP × Value × Value)} {m : Thk.OP × Value × Value} (ho : M.os = mr ++ [m]) {tl : List Nat} {k : Nat} (ht : m.1.terms = tl ++ [k]) {tg tc : Nat} (hv : m.2.2 = .slice (some ⟨tg, 0, none⟩) (tl.length + 1) tc) (n : Nat) :
    Mem (w.setCell ⟨tg, tl.length, none⟩ (.int .i64 n)) B rb { M with os := mr ++ [({ m.1 with terms := tl ++ [n] }, m.2.1, m.2.2)] } lab (· = 0) ∧ KT B w (w.setCell ⟨tg, tl.length, none⟩ (.int .i64 n)) := by
  have c := Chg.set tg tl.length (.int .i64 n) w
  have hlen : mr.length < M.os.length := by rw [ho]; simp
  have hle : M.os.length = mr.length + 1 := by rw [ho]; simp
  have hm : M.os[mr.length]'hlen = m := by simp only [ho]; rw [List.getElem_append_right (Nat.le_refl _)]; simp
  obtain ⟨h1, h2, h3, h4⟩ := h.opens mr.length hlen
  rw [hm] at h1 h2 h3 h4
  have hlt : lab tg = 2 * mr.length + 2 := h4 tg (by rw [hv]; rfl)
  have h3' : w.ownsRow B 3 1 (.slice (some ⟨tg, 0, none⟩) (tl.length + 1) tc) (tl.length + 1) ((tl ++ [k]).map intV) := by
    have h3 := h3; unfold Ints at h3; rw [hv, ht] at h3; simpa using h3
  obtain ⟨cs, htb⟩ := own_blk h3' (b := tg) rfl
  have hst := (h3'.stored tl.length (.int .i64 n)).1
  have hnr : rb ≠ tg := by
    intro e1; subst e1
    have := own_ty h3' h.blk (by decide)
    simp [Value.ownBlock] at this
  have hlb : ∀ (v : Value) (l : Nat), Lab lab v l → l ≠ 2 * mr.length + 2 → v.ownBlock ≠ some tg := by
    intro v l hv hl e1
    have := hv tg e1
    omega
  refine ⟨⟨h.ge, by rw [c.same rb h.lt hnr]; exact h.blk, own_keep c h.ex (own_ty h.ex htb (by decide)), own_keep c h.ru (own_ty h.ru htb (by decide)), ?_, fun p hp => own_keep c (h.items p hp) (own_ty (h.items p hp) htb (by decide)), fun p hp => ⟨own_keep c (h.parts p hp).1 (hlb _ 0 (h.parts p hp).2 (by omega)), (h.parts p hp).2⟩, ?_⟩, KT.chg c (by have := h.lt; have := h.ge; omega) (h3'.lt tg rfl).1 (fun cs' t fr hb => by rw [htb] at hb; simp at hb; rw [← hb.2.1]; decide)⟩
  · have hop := h.op
    rw [ho] at hop
    have := own_keep c hop (own_ty hop htb (by decide))
    simpa [opC] using this
  · intro j hj
    simp only [] at hj ⊢
    by_cases hjm : j < mr.length
    · rw [List.getElem_append_left hjm]
      obtain ⟨i1, i2, i3, i4⟩ := h.opens j (by omega)
      simp only [ho, List.getElem_append_left hjm] at i1 i2 i3 i4
      exact ⟨own_keep c i1 (hlb _ _ i2 (by omega)), i2, own_keep c i3 (hlb _ _ i4 (by omega)), i4⟩
    · have hje : j = mr.length := by simp at hj; omega
      subst hje
      rw [List.getElem_append_right (Nat.le_refl _)]
      simp only [Nat.sub_self, List.getElem_cons_zero]
      refine ⟨own_keep c h1 (hlb _ _ h2 (by omega)), h2, ?_, h4⟩
      unfold Ints
      rw [hv]
      have e1 : ((tl ++ [k]).map intV).set tl.length (.int .i64 n) = (tl ++ [n]).map intV := by
        rw [List.map_append, List.set_append_right _ _ (by simp)]
        simp [intV]
      rw [e1] at hst
      simpa using hst
end Go.Proofs.YtjmcdklhaieldaaGreatDoor
