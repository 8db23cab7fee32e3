import Derived.Test.YtjmcdklhaieldaaGreatDoorRC
import Derived.Test.YtjmcdklhaieldaaGreatDoorR12
set_option linter.all false
namespace Go.Proofs.YtjmcdklhaieldaaGreatDoor
open Go.RowKit
attribute [local go_sem ↓] Go.wp_at_zero Go.wp_at_succ

theorem hideR {p : Prop} (h : p) : Hid p := h

theorem ruC_set (rr : List (Thk.Bytes × Nat)) (r : Thk.Bytes × Nat) (u : Nat) : ((rr ++ [r]).flatMap ruC).set (rr.length * 2 + 1) (.int .i64 u) = (rr ++ [(r.1, u)]).flatMap ruC := by
  rw [List.flatMap_append, List.set_append_right _ _ (by rw [ruC_len]; omega), ruC_len, show rr.length * 2 + 1 - rr.length * 2 = 1 from by omega, List.flatMap_append]
  simp [ruC]

/-- The last rule's body anew. -/
theorem Mem.setBody {w : World} {B rb : Nat} {M : MV} {lab : Nat → Nat} (h : Mem w B rb M lab (· = 0)) {rr : List (Thk.Bytes × Nat)} {r : Thk.Bytes × Nat} (hr : M.rs = rr ++ [r]) {rg rc : Nat} (hv : M.vr = .slice (some ⟨rg, 0, none⟩) (rr.length + 1) rc) (n : Nat) :
    Mem (w.setCell ⟨rg, rr.length * 2 + 1, none⟩ (.int .i64 n)) B rb { M with rs := rr ++ [(r.1, n)] } lab (· = 0) ∧ KT B w (w.setCell ⟨rg, rr.length * 2 + 1, none⟩ (.int .i64 n)) := by
  have c := Chg.set rg (rr.length * 2 + 1) (.int .i64 n) w
  have hru := h.ru
  rw [hv, hr] at hru
  obtain ⟨cs, hrb⟩ := own_blk hru (b := rg) rfl
  have hnr : rb ≠ rg := by
    intro e1; subst e1
    have := own_ty hru h.blk (by decide)
    simp [Value.ownBlock] at this
  have hru' : w.ownsRow B 78 2 (.slice (some ⟨rg, 0, none⟩) (rr.length + 1) rc) (rr.length + 1) ((rr ++ [r]).flatMap ruC) := by simpa using hru
  have hst := (hru'.stored (rr.length * 2 + 1) (.int .i64 n)).1
  rw [ruC_set] at hst
  refine ⟨⟨h.ge, by rw [c.same rb h.lt hnr]; exact h.blk, own_keep c h.ex (own_ty h.ex hrb (by decide)), ?_, own_keep c h.op (own_ty h.op hrb (by decide)), fun p hp => own_keep c (h.items p hp) (own_ty (h.items p hp) hrb (by decide)), fun p hp => ⟨own_keep c (h.parts p hp).1 (own_ty (h.parts p hp).1 hrb (by decide)), (h.parts p hp).2⟩, ?_⟩, KT.chg c (by have := h.lt; have := h.ge; omega) (hru.lt rg rfl).1 (fun cs' t fr hb => by rw [hrb] at hb; simp at hb; rw [← hb.2.1]; decide)⟩
  · simp only [hv, List.length_append, List.length_singleton]; exact hst
  · intro j hj
    obtain ⟨h1, h2, h3, h4⟩ := h.opens j hj
    exact ⟨own_keep c h1 (own_ty h1 hrb (by decide)), h2, own_keep c h3 (own_ty h3 hrb (by decide)), h4⟩






set_option maxHeartbeats 8000000 in
set_option maxRecDepth 100000 in
theorem rrule1_any (w : World) (B rb : Nat) (M : MV) (lab : Nat → Nat) (h : Mem w B rb M lab (· = 0)) (rr : List (Thk.Bytes × Nat)) (r : Thk.Bytes × Nat) (hrs : M.rs = rr ++ [r]) (mr : List (Thk.OP × Value × Value)) (m : Thk.OP × Value × Value) (ho : M.os = mr ++ [m]) (hb0 : M.xs.length ≤ 90000) (hb1 : m.1.seqs.length ≤ 90000) (hb2 : mr.length ≤ 90000) (hb3 : rr.length ≤ 90000) :
    Calls Tryz.prog 80 #[.pointer (some ⟨rb, 0, none⟩)] w fun e' w' => RdPost w B rb { M.st.closed with rs := rr ++ [(r.1, M.xs.length + 1)] } (.tuple #[]) e' w' := by
  have hcl := rclosed_any w B rb M lab h mr m ho hb0 hb1 hb2
  have c1 : w.cell? ⟨rb, 1, none⟩ = some M.vr := cell_of_block h.blk 1
  have hru := h.ru
  rw [hrs] at hru
  obtain ⟨rg, rc, hv, _, _⟩ := hru.form (by simp)
  rw [hv] at c1
  have hlr : (rr ++ [r]).length = rr.length + 1 := by simp
  rw [hlr] at c1
  have hcr : M.st.closed.rs = rr ++ [r] := by
    show M.st.rs = _
    exact hrs
  have HCR := hideR hcr
  have hp0 : (0 : Int) < (rr.length : Int) + 1 := by omega
  clear h hrs ho hru hv hlr hcr
  go_enter Tryz.func80, Tryz.ntmps80
  go_wp2_with fail
  refine hcl.mono ?_
  rintro e1 w1 ⟨rfl, M1, lab1, hM1, hK1, hS1⟩
  have hr1 : M1.rs = rr ++ [r] := by
    have e1 : M1.st.rs = M1.rs := rfl
    rw [← e1, hS1]; exact HCR.out
  have hru1 := hM1.ru
  rw [hr1] at hru1
  obtain ⟨rg1, rc1, hv1, hgB, hgl⟩ := hru1.form (by simp)
  have hlr : (rr ++ [r]).length = rr.length + 1 := by simp
  rw [hlr] at hv1
  have d1 : w1.cell? ⟨rb, 1, none⟩ = some M1.vr := cell_of_block hM1.blk 1
  rw [hv1] at d1
  have hru2 := hru1
  rw [hv1] at hru2
  simp only [hlr] at hru2
  have d2 : w1.cell? ⟨rg1, rr.length * 2 + 1, none⟩ = some (.int .i64 r.2) := by
    rw [hru2.cellAt _ (by omega), List.flatMap_append, List.getElem?_append_right (by rw [ruC_len]; omega), ruC_len, show rr.length * 2 + 1 - rr.length * 2 = 1 from by omega]
    simp [ruC]
  have d3 : w1.frozen? ⟨rg1, rr.length * 2 + 1, none⟩ = false := hru2.frozenAt _
  have hL : (rr.length : Int) < (rr.length : Int) + 1 := by omega
  have HM1 := hideR hM1
  have HR1 := hideR hr1
  have HV1 := hideR hv1
  have HK1 := hideR hK1
  have HS1 := hideR hS1
  have hrl := hM1.lt
  clear hcl hM1 hr1 hru1 hv1 hlr hru2 hK1 hS1 c1
  go_wp2_with fail
  go_region
  go_wp2_with fail
  obtain ⟨hM2, hK2⟩ := HM1.out.setBody HR1.out HV1.out (M.xs.length + 1)
  have hM2 := hM2.drew
  have hK2 := hK2.drew
  go_end0
  refine ⟨rfl, _, _, hM2, HK1.out.trans hK2, ?_⟩
  have e1 := HS1.out
  rw [← e1]
  rfl

set_option maxHeartbeats 8000000 in
set_option maxRecDepth 100000 in
theorem rrule0_any (w : World) (B rb : Nat) (M : MV) (lab : Nat → Nat) (h : Mem w B rb M lab (· = 0)) (hrs : M.rs = []) :
    Calls Tryz.prog 80 #[.pointer (some ⟨rb, 0, none⟩)] w fun e' w' => e' = .returned (.tuple #[]) ∧ w' = w := by
  have c1 : w.cell? ⟨rb, 1, none⟩ = some M.vr := cell_of_block h.blk 1
  have hru := h.ru
  rw [hrs] at hru
  obtain ⟨ra, rc, hv⟩ := own_form hru
  rw [hv] at c1
  simp only [List.length_nil] at c1
  clear h hrs hru hv
  go_enter Tryz.func80, Tryz.ntmps80
  go_wp2_with fail
  go_end0
  exact ⟨rfl, rfl⟩
end Go.Proofs.YtjmcdklhaieldaaGreatDoor
namespace Go.Proofs.YtjmcdklhaieldaaGreatDoor
open Go.RowKit
attribute [local go_sem ↓] Go.wp_at_zero Go.wp_at_succ

theorem Tryz.infoOpen : (Tryz.prog.info? 180).map (fun i => (i.zero, i.size, i.bytes)) = some (some (.agg #[.slice none 0 0, .slice none 0 0, .string ⟨#[]⟩]), 3, 64) := by kernel_rfl

def RdErr (w : World) (B : Nat) (er : Nat) (e : Ending) (w' : World) : Prop := e = .returned (.int .i64 er) ∧ KT B w w'

def okA (b : Thk.Bytes) : Prop := b = [38] ∨ b = [33]

theorem Mem.c3 {w : World} {B rb : Nat} {M : MV} {lab : Nat → Nat} {P : Nat → Prop} (h : Mem w B rb M lab P) : w.cell? ⟨rb, 3, none⟩ = some (.string ⟨M.sign.toArray⟩) ∧ w.cell? ⟨rb, 4, none⟩ = some (.bool M.may) ∧ w.cell? ⟨rb, 2, none⟩ = some M.vo ∧ (∀ o, w.frozen? ⟨rb, o, none⟩ = false) := ⟨cell_of_block h.blk 3, cell_of_block h.blk 4, cell_of_block h.blk 2, frozen_of_block h.blk⟩

set_option maxHeartbeats 4000000 in
set_option maxRecDepth 100000 in
/-- A sign ahead stands already: / & and ! can't. -/
theorem rsigns_err1 (w : World) (B rb : Nat) (M : MV) (lab : Nat → Nat) (h : Mem w B rb M lab (· = 0)) (hs : okA M.sign) (c : UInt8) (hc : c = 47 ∨ c = 38 ∨ c = 33 ∨ c = 41) :
    Calls Tryz.prog 82 #[.pointer (some ⟨rb, 0, none⟩), .string ⟨#[c]⟩] w fun e' w' => RdErr w B 2 e' w' := by
  obtain ⟨c3, c4, c2, fz⟩ := h.c3
  clear h
  rcases hs with hs | hs <;> rw [hs] at c3 <;> rcases hc with rfl | rfl | rfl | rfl
  all_goals
    go_enter Tryz.func82, Tryz.ntmps82
    go_wp2_with fail
    go_ret
    exact ⟨rfl, KT.refl _ _⟩

set_option maxHeartbeats 4000000 in
set_option maxRecDepth 100000 in
theorem rsigns_ahead (w : World) (B rb : Nat) (M : MV) (lab : Nat → Nat) (h : Mem w B rb M lab (· = 0)) (hs : M.sign = []) (c : UInt8) (hc : c = 38 ∨ c = 33) :
    Calls Tryz.prog 82 #[.pointer (some ⟨rb, 0, none⟩), .string ⟨#[c]⟩] w fun e' w' => RdPost w B rb { M.st with sign := [c], may := false } (.int .i64 0) e' w' := by
  obtain ⟨c3, c4, c2, fz⟩ := h.c3
  rw [hs] at c3
  have H := hideP h
  clear h
  rcases hc with rfl | rfl
  all_goals
    go_enter Tryz.func82, Tryz.ntmps82
    go_wp2_with fail
    go_ret
  · obtain ⟨h1, k1⟩ := H.out.setSign [38]
    obtain ⟨h2, k2⟩ := h1.setMay false
    exact ⟨rfl, _, _, h2, k1.trans k2, rfl⟩
  · obtain ⟨h1, k1⟩ := H.out.setSign [33]
    obtain ⟨h2, k2⟩ := h1.setMay false
    exact ⟨rfl, _, _, h2, k1.trans k2, rfl⟩

set_option maxHeartbeats 4000000 in
set_option maxRecDepth 100000 in
theorem rsigns_slash (w : World) (B rb : Nat) (M : MV) (lab : Nat → Nat) (h : Mem w B rb M lab (· = 0)) (hs : M.sign = []) (mr : List (Thk.OP × Value × Value)) (m : Thk.OP × Value × Value) (ho : M.os = mr ++ [m]) (hb0 : M.xs.length ≤ 90000) (hb1 : m.1.seqs.length ≤ 90000) (hb2 : mr.length ≤ 90000) :
    Calls Tryz.prog 82 #[.pointer (some ⟨rb, 0, none⟩), .string ⟨#[47]⟩] w fun e' w' => RdPost w B rb { M.st.slash with may := false } (.int .i64 0) e' w' := by
  obtain ⟨c3, c4, c2, fz⟩ := h.c3
  rw [hs] at c3
  have hsl := rslash_any w B rb M lab h mr m ho (by omega) (by omega) (by omega)
  clear h
  go_enter Tryz.func82, Tryz.ntmps82
  go_wp2_with fail
  refine hsl.mono ?_
  rintro e1 w1 ⟨rfl, M1, lab1, hM1, hK1, hS1⟩
  obtain ⟨d3, d4, d2, dz⟩ := hM1.c3
  have HM1 := hideP hM1
  have HK1 := hideP hK1
  have HS1 := hideP hS1
  clear hsl hM1 hK1 hS1
  go_wp2_with fail
  obtain ⟨h2, k2⟩ := HM1.out.setMay false
  go_ret
  refine ⟨rfl, _, _, h2, HK1.out.trans k2, ?_⟩
  rw [← HS1.out]
  rfl

set_option maxHeartbeats 4000000 in
set_option maxRecDepth 100000 in
theorem rsigns_errB (w : World) (B rb : Nat) (M : MV) (lab : Nat → Nat) (h : Mem w B rb M lab (· = 0)) (hm : M.may = false) (c : UInt8) (hc : c = 63 ∨ c = 42 ∨ c = 43) :
    Calls Tryz.prog 82 #[.pointer (some ⟨rb, 0, none⟩), .string ⟨#[c]⟩] w fun e' w' => RdErr w B 2 e' w' := by
  obtain ⟨c3, c4, c2, fz⟩ := h.c3
  rw [hm] at c4
  clear h
  rcases hc with rfl | rfl | rfl
  all_goals
    go_enter Tryz.func82, Tryz.ntmps82
    go_wp2_with fail
    go_ret
    exact ⟨rfl, KT.refl _ _⟩

set_option maxHeartbeats 4000000 in
set_option maxRecDepth 100000 in
theorem rsigns_behind (w : World) (B rb : Nat) (M : MV) (lab : Nat → Nat) (h : Mem w B rb M lab (· = 0)) (hm : M.may = true) (c : UInt8) (hc : c = 63 ∨ c = 42 ∨ c = 43)
    (mr : List (Thk.OP × Value × Value)) (m : Thk.OP × Value × Value) (ho : M.os = mr ++ [m]) (tl : List Nat) (k : Nat) (ht : m.1.terms = tl ++ [k]) (hk : k < M.xs.length) (hkind : (M.xs[k].1.kind = 10 ∨ M.xs[k].1.kind = 11) → M.xs[k].1.parts ≠ [])
    (hb0 : M.xs.length ≤ 90000) (hb1 : tl.length ≤ 90000) (hb2 : mr.length ≤ 90000) :
    Calls Tryz.prog 82 #[.pointer (some ⟨rb, 0, none⟩), .string ⟨#[c]⟩] w fun e' w' => RdPost w B rb (M.st.behind [c]) (.int .i64 0) e' w' := by
  obtain ⟨c3, c4, c2, fz⟩ := h.c3
  rw [hm] at c4
  have hsg : okSg [c] := by rcases hc with rfl | rfl | rfl <;> simp [okSg]
  have hbe : Calls Tryz.prog 120 #[.pointer (some ⟨rb, 0, none⟩), .string ⟨[c].toArray⟩] w fun e' w' => RdPost w B rb (M.st.behind [c]) (.tuple #[]) e' w' := by
    by_cases hkk : M.xs[k].1.kind = 10 ∨ M.xs[k].1.kind = 11
    · exact rbehindA_any w B rb M lab h mr m ho tl k ht hk ⟨hkk, hkind hkk⟩ [c] hsg hb0 hb1 hb2
    · exact rbehindB_any w B rb M lab h mr m ho tl k ht hk ⟨fun e => hkk (.inl e), fun e => hkk (.inr e)⟩ [c] hsg hb0 hb1 hb2
  clear h hkind hsg
  rcases hc with rfl | rfl | rfl
  all_goals
    go_enter Tryz.func82, Tryz.ntmps82
    go_wp2_with fail
    refine hbe.mono ?_
    rintro e1 w1 ⟨rfl, M1, lab1, hM1, hK1, hS1⟩
    have HE : Hid (∃ M' lab', Mem w1 B rb M' lab' (· = 0) ∧ KT B w w1 ∧ M'.st = _) := ⟨M1, lab1, hM1, hK1, hS1⟩
    clear hbe hM1 hK1 hS1
    go_wp2_with fail
    go_ret
    exact ⟨rfl, HE.out⟩

set_option maxHeartbeats 4000000 in
set_option maxRecDepth 100000 in
theorem rsigns_deep (w : World) (B rb : Nat) (M : MV) (lab : Nat → Nat) (h : Mem w B rb M lab (· = 0)) (hd : 6 < M.os.length) :
    Calls Tryz.prog 82 #[.pointer (some ⟨rb, 0, none⟩), .string ⟨#[40]⟩] w fun e' w' => RdErr w B 3 e' w' := by
  obtain ⟨c3, c4, c2, fz⟩ := h.c3
  obtain ⟨oa, oc, hv⟩ := own_form h.op
  rw [hv] at c2
  have hd' : (6 : Int) < (M.os.length : Int) := by omega
  clear h hv
  go_enter Tryz.func82, Tryz.ntmps82
  go_wp2_with fail
  go_ret
  exact ⟨rfl, KT.refl _ _⟩

set_option maxHeartbeats 4000000 in
set_option maxRecDepth 100000 in
theorem rsigns_errC (w : World) (B rb : Nat) (M : MV) (lab : Nat → Nat) (h : Mem w B rb M lab (· = 0)) (hs : M.sign = []) (hd : M.os.length < 2) :
    Calls Tryz.prog 82 #[.pointer (some ⟨rb, 0, none⟩), .string ⟨#[41]⟩] w fun e' w' => RdErr w B 2 e' w' := by
  obtain ⟨c3, c4, c2, fz⟩ := h.c3
  rw [hs] at c3
  obtain ⟨oa, oc, hv⟩ := own_form h.op
  rw [hv] at c2
  have hd' : (M.os.length : Int) < 2 := by omega
  clear h hv
  go_enter Tryz.func82, Tryz.ntmps82
  go_wp2_with fail
  go_ret
  exact ⟨rfl, KT.refl _ _⟩

/-- term, with whatever sign. -/
theorem rterm_any (w : World) (B rb : Nat) (M : MV) (lab : Nat → Nat) (h : Mem w B rb M lab (· = 0)) (mr : List (Thk.OP × Value × Value)) (m : Thk.OP × Value × Value) (ho : M.os = mr ++ [m]) (e : Nat) (sg : Thk.Bytes) (hsg : sg = [] ∨ okA sg) (hb0 : M.xs.length ≤ 100000) (hb1 : m.1.terms.length ≤ 100000) (hb2 : mr.length ≤ 100000) :
    Calls Tryz.prog 83 #[.pointer (some ⟨rb, 0, none⟩), .int .i64 e, .string ⟨sg.toArray⟩] w fun e' w' => RdPost w B rb (M.st.term e sg) (.tuple #[]) e' w' := by
  have e3 : M.st.xs.length = M.xs.length := by simp [MV.st]
  unfold Thk.ST.term
  rcases hsg with rfl | hsg
  · rw [if_pos rfl]
    exact rterm0_any w B rb M lab h mr m ho e hb1 hb2
  · have hok : okSg sg := by rcases hsg with rfl | rfl <;> simp [okSg]
    rw [if_neg (by rcases hsg with rfl | rfl <;> simp), e3]
    exact rterm1_any w B rb M lab h mr m ho e sg hok hb0 hb1 hb2

set_option maxHeartbeats 4000000 in
set_option maxRecDepth 100000 in
theorem rsigns_close (w : World) (B rb : Nat) (M : MV) (lab : Nat → Nat) (h : Mem w B rb M lab (· = 0)) (hs : M.sign = []) (mr : List (Thk.OP × Value × Value)) (m0 m : Thk.OP × Value × Value) (ho : M.os = mr ++ [m0] ++ [m]) (hsg : m.1.sign = [] ∨ okA m.1.sign)
    (hb0 : M.xs.length ≤ 80000) (hb1 : m.1.seqs.length ≤ 80000) (hb2 : mr.length ≤ 80000) (hb3 : m0.1.terms.length ≤ 80000) :
    Calls Tryz.prog 82 #[.pointer (some ⟨rb, 0, none⟩), .string ⟨#[41]⟩] w fun e' w' => RdPost w B rb (M.st.closed.term (M.xs.length + 1) m.1.sign) (.int .i64 0) e' w' := by
  obtain ⟨c3, c4, c2, fz⟩ := h.c3
  rw [hs] at c3
  obtain ⟨oa, oc, hv⟩ := own_form h.op
  rw [hv] at c2
  have hd' : ¬ (M.os.length : Int) < 2 := by rw [ho]; simp; omega
  have hcl := rclosed_any w B rb M lab h (mr ++ [m0]) m ho (by omega) (by omega) (by simp; omega)
  have hos : M.st.closed.os = mr.map (·.1) ++ [m0.1] := by
    show M.st.os.dropLast = _
    simp [MV.st, ho]
  have hxl : M.st.closed.xs.length = M.xs.length + 2 := by
    unfold Thk.ST.closed Thk.ST.slash
    simp [Thk.ST.add, Thk.ST.setTop, MV.st]
  have HOS := hideP hos
  have HXL := hideP hxl
  clear h hv hos hxl ho
  go_enter Tryz.func82, Tryz.ntmps82
  go_wp2_with fail
  refine hcl.mono ?_
  rintro e1 w1 ⟨rfl, M1, lab1, hM1, hK1, hS1⟩
  obtain ⟨mr1, m1, ho1, hmr1, hm1⟩ := os_split (M := M1) (by rw [hS1]; exact HOS.out)
  have hx1 : M1.xs.length = M.xs.length + 2 := by have := HXL.out; rw [← hS1] at this; simpa [MV.st] using this
  have hl1 : mr1.length = mr.length := by rw [← List.length_map (f := (·.1)), hmr1]; simp
  have htm := rterm_any w1 B rb M1 lab1 hM1 mr1 m1 ho1 (M.xs.length + 1) m.1.sign hsg (by omega) (by rw [hm1]; omega) (by omega)
  rw [hS1] at htm
  have HK1 := hideP hK1
  clear hcl hM1 hS1 ho1 hK1 hx1 hl1 hmr1 hm1
  go_wp2_with fail
  refine htm.mono ?_
  rintro e1 w2 ⟨rfl, M2, lab2, hM2, hK2, hS2⟩
  have HE : Hid (∃ M' lab', Mem w2 B rb M' lab' (· = 0) ∧ KT B w w2 ∧ M'.st = M.st.closed.term (M.xs.length + 1) m.1.sign) := ⟨M2, lab2, hM2, HK1.out.trans hK2, hS2⟩
  clear htm hM2 hK2 hS2
  go_wp2_with fail
  go_ret
  exact ⟨rfl, HE.out⟩
end Go.Proofs.YtjmcdklhaieldaaGreatDoor
