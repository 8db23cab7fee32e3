import Derived.Test.YtjmcdklhaieldaaGreatDoorP8
import Derived.Test.YtjmcdklhaieldaaGreatDoorPB
import Derived.Deep.RegionHeld
set_option linter.all false
namespace Go.Proofs.YtjmcdklhaieldaaGreatDoor
open Go.RowKit
attribute [local go_sem ↓] Go.wp_at_zero Go.wp_at_succ

theorem jS_snoc (x : Thk.Bytes) : ∀ l : List Thk.Bytes, jS (l ++ [x]) = if l = [] then x else jS l ++ (32 :: x)
  | [] => by simp [jS]
  | [a] => by simp [jS]
  | a :: b :: l => by
    have ih := jS_snoc x (b :: l)
    rw [if_neg (by simp)] at ih ⊢
    simp only [List.cons_append, jS] at *
    rw [ih]; simp
theorem jC_snoc (x : List Thk.Bytes) : ∀ l : List (List Thk.Bytes), jC (l ++ [x]) = if l = [] then jSq x else jC l ++ ([32, 47, 32] ++ jSq x)
  | [] => by simp [jC]
  | [a] => by simp [jC]
  | a :: b :: l => by
    have ih := jC_snoc x (b :: l)
    rw [if_neg (by simp)] at ih ⊢
    simp only [List.cons_append, jC] at *
    rw [ih]; simp

theorem take_snoc {β : Type} {l : List β} {t : Nat} (h : t < l.length) : l.take (t + 1) = l.take t ++ [l[t]] := List.take_succ_eq_append_getElem h
theorem take_nil {β : Type} {l : List β} {t : Nat} (h : t < l.length) : l.take t = [] ↔ t = 0 := by
  constructor
  · intro e
    have := congrArg List.length e
    rw [List.length_take, List.length_nil] at this
    omega
  · rintro rfl; rfl

theorem jS_le (l : List Thk.Bytes) : ∀ n t, l.length - t = n → (jS (l.take t)).length ≤ (jS l).length
  | 0, t, h => by rw [List.take_of_length_le (by omega)]; exact Nat.le_refl _
  | n + 1, t, h => by
    have hl : t < l.length := by omega
    have ih := jS_le l n (t + 1) (by omega)
    rw [take_snoc hl, jS_snoc] at ih
    split at ih
    · rename_i e; rw [e]; simp [jS]
    · rw [List.length_append] at ih; omega
theorem jC_le (l : List (List Thk.Bytes)) : ∀ n t, l.length - t = n → (jC (l.take t)).length ≤ (jC l).length
  | 0, t, h => by rw [List.take_of_length_le (by omega)]; exact Nat.le_refl _
  | n + 1, t, h => by
    have hl : t < l.length := by omega
    have ih := jC_le l n (t + 1) (by omega)
    rw [take_snoc hl, jC_snoc] at ih
    split at ih
    · rename_i e; rw [e]; simp [jC]
    · rw [List.length_append] at ih; omega

theorem hcat (a b : Thk.Bytes) (h : a.length + b.length ≤ 2000000) (W : World) : (Op.stringOp .add ⟨a.toArray⟩ ⟨b.toArray⟩).run Tryz.prog W = .ok (.string ⟨(a ++ b).toArray⟩) W := by
  rw [run_string_add_sum W _ _ (by show a.toArray.size + b.toArray.size ≤ _; simp; omega)]
  exact congrArg (fun b => Result.ok (Value.string b) W) (bs_app a b)

structure ChW (w : World) (B gb : Nat) (vx vr : Value) (ps : List (Thk.RE × Value × Value)) (rs : List (Thk.Bytes × Nat)) (O : Obj) (wr : World) : Prop where
  mem : GM wr B gb vx vr (ps.map (ruled (nmOf rs))) rs
  own : wr.heap[w.heap.size]? = some O
  below : Below w.heap.size w wr
  kept : ∀ b, b < w.heap.size → wr.heap[b]? = w.heap[b]?

theorem ChW.go {w : World} {B gb : Nat} {vx vr : Value} {ps : List (Thk.RE × Value × Value)} {rs : List (Thk.Bytes × Nat)} {O : Obj} {wr w2 : World} (h : ChW w B gb vx vr ps rs O wr) (hb : Below wr.heap.size wr w2) : ChW w B gb vx vr ps rs O w2 := by
  have hs := h.below.size
  exact ⟨h.mem.below hb, by rw [hb.block _ (heap_lt' h.own)]; exact h.own, h.below.trans (hb.mono hs), fun b hlt => by rw [hb.block b (by omega)]; exact h.kept b hlt⟩

abbrev seqO (ia : Option Addr) (ic : Nat) (z : Int) (pa : Option Addr) (n pc : Nat) : Obj := .cells #[.int .i64 5, .slice ia 0 ic, .string ⟨#[]⟩, .int .i64 z, .slice pa n pc] 126 (0, 0)

set_option maxHeartbeats 32000000 in
set_option maxRecDepth 100000 in
theorem pchoice_any (B gb : Nat) (vx vr : Value) (ps : List (Thk.RE × Value × Value)) (rs : List (Thk.Bytes × Nat)) (k : Nat) (qs : List Nat) (sss : List (List Thk.Bytes)) (hx : (xsOf ps)[k]? = some ⟨6, [], [], 0, qs⟩) (hall : AllR (SeqR (xsOf ps) (RetT B gb vx vr ps rs)) qs sss) (hl : (jC sss).length ≤ 600000) : RetC B gb vx vr ps rs k (jC sss) := by
  intro w h
  obtain ⟨xg, xc, ia, ic, pa, pc, hi, rfl, hxl, c0, c1, c2, c3, c4, hpl, hpn, hpc, hit⟩ := h.exq hx
  have hgl := h.lt
  have q := cell_of_block h.blk
  have hkl : (k : Int) < ps.length := by omega
  simp only [List.length_nil] at c0 c1 c2 c3 c4 hpn hpc
  have c0' : w.cell? ⟨xg, k * 5, none⟩ = some (.int .i64 6) := c0
  generalize rfE (nmOf rs) _ 0 = z1 at c3
  obtain ⟨O, hO⟩ : ∃ O, O = Obj.cells #[.int .i64 6, .slice ia 0 ic, .string ⟨#[]⟩, .int .i64 z1, .slice pa qs.length pc] 126 (0, 0) := ⟨_, rfl⟩
  have HS : Hid (ChW w B gb (.slice (some ⟨xg, 0, none⟩) ps.length xc) vr ps rs O (w.alloc O)) := ⟨h.below (below_alloc _ _), heap_alloc_same _ _, below_alloc _ _, fun b hb => heap_alloc_old _ _ hb⟩
  have hslen := hall.len
  have HALL := hideP hall
  have HL := hideP hl
  have HPC := hideP hpc
  have HSL := hideP hslen
  have HO := hideP hO
  clear hx h hit hpc hall hl hslen c0
  subst hO
  go_enter Tryz.func31, Tryz.ntmps31
  go_wp2_with fail
  go_loopg [5, 7] qs.length (fun m vo vk wr => ∃ t : Nat, m = qs.length - t ∧ vo = .string ⟨(jC (sss.take t)).toArray⟩ ∧ vk = .int .i64 t ∧ t ≤ qs.length ∧ Hid (ChW w B gb (.slice (some ⟨xg, 0, none⟩) ps.length xc) vr ps rs (Obj.cells #[.int .i64 6, .slice ia 0 ic, .string ⟨#[]⟩, .int .i64 z1, .slice pa qs.length pc] 126 (0, 0)) wr))
  case atStart => exact ⟨0, by omega, rfl, rfl, by omega, HS⟩
  case round =>
    obtain ⟨t, rfl, rfl, rfl, ht, HI⟩ := hrel
    obtain ⟨wo, hwo⟩ : ∃ wo, wo = wr := ⟨_, rfl⟩
    subst hwo
    have eo := cell_of_block HI.out.own
    have elt := heap_lt' HI.out.own
    obtain ⟨P, hP⟩ : ∃ P, P = jC (sss.take t) := ⟨_, rfl⟩
    rw [← hP]
    by_cases hlt : t < qs.length
    · have hlt' : (t : Int) < qs.length := by omega
      have hts : t < sss.length := by have := HSL.out; omega
      obtain ⟨pg, hpa, hpg, hpcell⟩ := HPC.out t hlt
      have hpcell2 : wo.cell? ⟨pg, t, none⟩ = some (.int .i64 qs[t]) := by rw [World.cell?_of_block (a := ⟨pg, t, none⟩) (HI.out.kept pg hpg)]; exact hpcell
      subst hpa
      obtain ⟨ks, hks, hts2⟩ := HALL.out.get t hlt hts
      obtain ⟨xg', xc', ia', ic', pa', pc', hi', hv, hxl', d0, d1, d2, d3, d4, hpl', hpn', hpc', _⟩ := HI.out.mem.exq hks
      cases hv
      simp only [List.length_nil] at d0 d1 d2 d3 d4 hpn' hpc'
      have d0' : wo.cell? ⟨xg, qs[t] * 5, none⟩ = some (.int .i64 5) := d0
      have hql : (qs[t] : Int) < ps.length := by omega
      generalize rfE (nmOf rs) _ 0 = z2 at d3
      have q2 := cell_of_block HI.out.mem.blk
      have hgl2 := HI.out.mem.lt
      obtain ⟨ss, hss⟩ : ∃ ss, ss = sss[t] := ⟨_, rfl⟩
      rw [← hss] at hts2
      have hklen := hts2.len
      have HKS := hideP hts2
      have HKL := hideP hklen
      have HPC2 := hideP hpc'
      have hjl : (jC (sss.take (t + 1))).length ≤ 600000 := Nat.le_trans (jC_le sss _ (t + 1) rfl) HL.out
      rw [take_snoc hts, jC_snoc, ← hss] at hjl
      have hpn2 : ks.length ≤ 9223372036854775807 := hpn'
      have hpgs : pg < wo.heap.size := by have := HI.out.below.size; omega
      obtain ⟨M, hM⟩ : ∃ M, M = ks.length := ⟨_, rfl⟩
      rw [← hM] at d4 hpn2
      have HM := hideP hM
      clear d0 hpcell hts2 hks hpc' hklen hpl' hpn' hM
      by_cases ht0 : t = 0
      · have ht0' : ¬ (0 : Int) < t := by omega
        obtain ⟨base, hbase⟩ : ∃ base, base = P := ⟨_, rfl⟩
        rw [if_pos ((take_nil hts).2 ht0)] at hjl
        have HNX : Hid (base ++ jSq ss = jC (sss.take (t + 1))) := by
          show _ = _
          rw [take_snoc hts, jC_snoc, if_pos ((take_nil hts).2 ht0), hbase, hP, (take_nil hts).2 ht0, ← hss]
          rfl
        have hbl : base.length + (jSq ss).length ≤ 600000 := by
          rw [hbase, hP, (take_nil hts).2 ht0]; simp [jC]; exact hjl
        rw [← hbase]
        clear hP hss hbase hjl ht0
        go_wp2_with fail
        go_region
        all_goals
          obtain ⟨W2, hW2⟩ : ∃ W2, W2 = (wo.alloc (seqO ia' ic' z2 pa' M pc')).drew := ⟨_, rfl⟩
          rw [← hW2]
          have hB2 : Below wo.heap.size wo W2 := by rw [hW2]; exact (below_alloc _ _).drew
          have hO2 : W2.heap[wo.heap.size]? = some (seqO ia' ic' z2 pa' M pc') := by rw [hW2]; exact heap_alloc_same wo _
          have hs2 : W2.heap.size = wo.heap.size + 1 := by rw [hW2]; show (wo.alloc _).heap.size = _; simp
          have HC2 := hideP (HI.out.go hB2)
          have e2 := cell_of_block hO2
          have l2 := heap_lt' hO2
          have HB2 := hideP hB2
          have HO2 := hideP hO2
          clear hW2 hB2 hO2 HI eo hpcell2 q2 d1 d2 d3 d4 d0'
          by_cases hM0 : M = 0
          · subst hM0
            have hss0 : ss = [] := List.length_eq_zero_iff.1 (by have := HKL.out; have := HM.out; omega)
            obtain ⟨base2, hbase2⟩ : ∃ base2, base2 = base ++ [40, 41] := ⟨_, rfl⟩
            have hadd2 : ∀ W : World, (Op.stringOp .add ⟨base.toArray⟩ ⟨#[40, 41]⟩).run Tryz.prog W = .ok (.string ⟨base2.toArray⟩) W := by
              intro W
              rw [hbase2]
              exact hcat base [40, 41] (by simp; omega) W
            have HLN : Hid (0 ≠ 0 → base2.length + (jS ss).length ≤ 600000) := fun h => absurd rfl h
            have HFN : Hid (base2 ++ jS ss = base ++ jSq ss) := by show _ = _; rw [hbase2, hss0]; simp [jS, jSq]
            clear hbase2 hbl hss0
            go_wp2_with fail
            clear hadd2
            go_loopg [5, 9] 0 (fun m vo vj wr => ∃ j : Nat, m = 0 - j ∧ vo = .string ⟨(base2 ++ jS (ss.take j)).toArray⟩ ∧ vj = .int .i64 j ∧ j ≤ 0 ∧ Hid (Below W2.heap.size W2 wr))
            case atStart => exact ⟨0, by omega, by simp [jS], rfl, by omega, Below.refl _ _⟩
            case round =>
              obtain ⟨j, rfl, rfl, rfl, hj, HJ⟩ := hrel
              have hszj := HJ.out.size
              have h8 : wr.heap[wo.heap.size]? = some (seqO ia' ic' z2 pa' 0 pc') := by rw [HJ.out.block _ (by omega)]; exact HO2.out
              have e8 := cell_of_block h8
              have l8 := heap_lt' h8
              have HCJ := hideP (HC2.out.go HJ.out)
              obtain ⟨P2, hP2⟩ : ∃ P2, P2 = base2 ++ jS (ss.take j) := ⟨_, rfl⟩
              rw [← hP2]
              clear h8
              by_cases hjl : j < 0
              · exact absurd hjl (Nat.not_lt_zero _)
              · have hjl' : ¬ (j : Int) < 0 := by omega
                have hfin : P2 = jC (sss.take (t + 1)) := by
                  rw [hP2, List.take_of_length_le (by have := HKL.out; have := HM.out; omega), HFN.out, HNX.out]
                have HF := hideP hfin
                clear hP2 hfin
                go_wp2_with fail
                go_roundg (qs.length - (t + 1))
                case measure => omega
                case rel => exact ⟨t + 1, rfl, congrArg (fun l => Value.string ⟨List.toArray l⟩) HF.out, by go_num, by omega, HCJ⟩
          · have hM0' : ((M : Int) == 0) = false := by simpa using hM0
            have hM1 : ¬ (M : Int) = 0 := by omega
            obtain ⟨base2, hbase2⟩ : ∃ base2, base2 = base := ⟨_, rfl⟩
            rw [← hbase2]
            have hssn : ss ≠ [] := fun e => by have := HKL.out; have := HM.out; rw [e] at *; simp at *; omega
            have hjq : jSq ss = jS ss := by
              cases ss with
              | nil => exact absurd rfl hssn
              | cons a l => rfl
            have HLN : Hid (M ≠ 0 → base2.length + (jS ss).length ≤ 600000) := fun _ => by rw [hbase2, ← hjq]; exact hbl
            have HFN : Hid (base2 ++ jS ss = base ++ jSq ss) := by show _ = _; rw [hbase2, hjq]
            clear hbase2 hbl hssn hjq
            go_wp2_with fail
            go_loopg [5, 9] M (fun m vo vj wr => ∃ j : Nat, m = M - j ∧ vo = .string ⟨(base2 ++ jS (ss.take j)).toArray⟩ ∧ vj = .int .i64 j ∧ j ≤ M ∧ Hid (Below W2.heap.size W2 wr))
            case atStart => exact ⟨0, by omega, by simp [jS], rfl, by omega, Below.refl _ _⟩
            case round =>
              obtain ⟨j, rfl, rfl, rfl, hj, HJ⟩ := hrel
              have hszj := HJ.out.size
              have h8 : wr.heap[wo.heap.size]? = some (seqO ia' ic' z2 pa' M pc') := by rw [HJ.out.block _ (by omega)]; exact HO2.out
              have e8 := cell_of_block h8
              have l8 := heap_lt' h8
              have HCJ := hideP (HC2.out.go HJ.out)
              obtain ⟨P2, hP2⟩ : ∃ P2, P2 = base2 ++ jS (ss.take j) := ⟨_, rfl⟩
              rw [← hP2]
              clear h8
              by_cases hjl : j < M
              · have hjl' : (j : Int) < M := by omega
                have hjk : j < ks.length := by have := HM.out; omega
                have hjs : j < ss.length := by have := HKL.out; omega
                obtain ⟨pg2, rfl, hpg2, hcell⟩ := HPC2.out j hjk
                have hcell2 : wr.cell? ⟨pg2, j, none⟩ = some (.int .i64 ks[j]) := by
                  rw [World.cell?_of_block (a := ⟨pg2, j, none⟩) (HJ.out.block pg2 (by show pg2 < _; omega)), World.cell?_of_block (a := ⟨pg2, j, none⟩) (HB2.out.block pg2 hpg2)]
                  exact hcell
                have hcall := HKS.out.get j hjk hjs wr HCJ.out.mem
                have hlen2 : base2.length + (jS (ss.take (j + 1))).length ≤ 600000 := by
                  have h1 := jS_le ss _ (j + 1) rfl
                  have h2 := HLN.out (by omega)
                  omega
                obtain ⟨x, hx⟩ : ∃ x, x = ss[j] := ⟨_, rfl⟩
                rw [← hx] at hcall
                rw [take_snoc hjs, jS_snoc, ← hx] at hlen2
                by_cases hj0 : j = 0
                · have hj0' : ¬ (0 : Int) < j := by omega
                  have he : ss.take j = [] := (take_nil hjs).2 hj0
                  rw [if_pos he] at hlen2
                  have hadd : ∀ W : World, (Op.stringOp .add ⟨P2.toArray⟩ ⟨x.toArray⟩).run Tryz.prog W = .ok (.string ⟨(P2 ++ x).toArray⟩) W := fun W => hcat P2 x (by rw [hP2, he]; simp [jS]; omega) W
                  have HEQ : Hid (P2 ++ x = base2 ++ jS (ss.take (j + 1))) := by
                    show _ = _
                    rw [take_snoc hjs, jS_snoc, if_pos he, hP2, he, hx]; simp [jS]
                  clear hP2 hx hlen2 hj0 he hcell
                  go_wp2_with fail
                  refine hcall.mono ?_
                  rintro _ w5 ⟨rfl, hb5⟩
                  have HB5 := hideP (HJ.out.trans (hb5.mono hszj))
                  clear hb5 hcall
                  go_wp2_with fail
                  go_roundg (M - (j + 1))
                  case measure => omega
                  case rel => exact ⟨j + 1, rfl, congrArg (fun l => Value.string ⟨List.toArray l⟩) HEQ.out, by go_num, by omega, HB5⟩
                · have hj0' : (0 : Int) < j := by omega
                  have he : ss.take j ≠ [] := fun e => hj0 ((take_nil hjs).1 e)
                  rw [if_neg he] at hlen2
                  have hadd1 : ∀ W : World, (Op.stringOp .add ⟨P2.toArray⟩ ⟨#[32]⟩).run Tryz.prog W = .ok (.string ⟨(P2 ++ [32]).toArray⟩) W := fun W => hcat P2 [32] (by rw [hP2]; simp at hlen2 ⊢; omega) W
                  have hadd : ∀ W : World, (Op.stringOp .add ⟨(P2 ++ [32]).toArray⟩ ⟨x.toArray⟩).run Tryz.prog W = .ok (.string ⟨((P2 ++ [32]) ++ x).toArray⟩) W := fun W => hcat (P2 ++ [32]) x (by rw [hP2]; simp at hlen2 ⊢; omega) W
                  have HEQ : Hid ((P2 ++ [32]) ++ x = base2 ++ jS (ss.take (j + 1))) := by
                    show _ = _
                    rw [take_snoc hjs, jS_snoc, if_neg he, hP2, hx]; simp
                  generalize P2 ++ [32] = P3 at *
                  clear hP2 hx hlen2 he hcell
                  go_wp2_with fail
                  refine hcall.mono ?_
                  rintro _ w5 ⟨rfl, hb5⟩
                  have HB5 := hideP (HJ.out.trans (hb5.mono hszj))
                  clear hb5 hcall
                  go_wp2_with fail
                  go_roundg (M - (j + 1))
                  case measure => omega
                  case rel => exact ⟨j + 1, rfl, congrArg (fun l => Value.string ⟨List.toArray l⟩) HEQ.out, by go_num, by omega, HB5⟩
              · have hjl' : ¬ (j : Int) < M := by omega
                have hfin : P2 = jC (sss.take (t + 1)) := by
                  rw [hP2, List.take_of_length_le (by have := HKL.out; have := HM.out; omega), HFN.out, HNX.out]
                have HF := hideP hfin
                clear hP2 hfin
                go_wp2_with fail
                go_roundg (qs.length - (t + 1))
                case measure => omega
                case rel => exact ⟨t + 1, rfl, congrArg (fun l => Value.string ⟨List.toArray l⟩) HF.out, by go_num, by omega, HCJ⟩
      · have ht0' : (0 : Int) < t := by omega
        obtain ⟨base, hbase⟩ : ∃ base, base = P ++ [32, 47, 32] := ⟨_, rfl⟩
        rw [if_neg (fun e => ht0 ((take_nil hts).1 e))] at hjl
        have HNX : Hid (base ++ jSq ss = jC (sss.take (t + 1))) := by
          show _ = _
          rw [take_snoc hts, jC_snoc, if_neg (fun e => ht0 ((take_nil hts).1 e)), hbase, hP, ← hss]
          simp
        have hbl : base.length + (jSq ss).length ≤ 600000 := by
          rw [hbase, hP]
          simp only [List.length_append, List.length_cons, List.length_nil] at hjl ⊢
          omega
        have hadd : ∀ W : World, (Op.stringOp .add ⟨P.toArray⟩ ⟨#[32, 47, 32]⟩).run Tryz.prog W = .ok (.string ⟨base.toArray⟩) W := by
          intro W
          rw [hbase]
          exact hcat P [32, 47, 32] (by rw [hbase, List.length_append] at hbl; simp at hbl ⊢; omega) W
        clear hP hss hbase hjl
        go_wp2_with fail
        clear hadd
        go_region
        all_goals
          obtain ⟨W2, hW2⟩ : ∃ W2, W2 = (wo.alloc (seqO ia' ic' z2 pa' M pc')).drew := ⟨_, rfl⟩
          rw [← hW2]
          have hB2 : Below wo.heap.size wo W2 := by rw [hW2]; exact (below_alloc _ _).drew
          have hO2 : W2.heap[wo.heap.size]? = some (seqO ia' ic' z2 pa' M pc') := by rw [hW2]; exact heap_alloc_same wo _
          have hs2 : W2.heap.size = wo.heap.size + 1 := by rw [hW2]; show (wo.alloc _).heap.size = _; simp
          have HC2 := hideP (HI.out.go hB2)
          have e2 := cell_of_block hO2
          have l2 := heap_lt' hO2
          have HB2 := hideP hB2
          have HO2 := hideP hO2
          clear hW2 hB2 hO2 HI eo hpcell2 q2 d1 d2 d3 d4 d0'
          by_cases hM0 : M = 0
          · subst hM0
            have hss0 : ss = [] := List.length_eq_zero_iff.1 (by have := HKL.out; have := HM.out; omega)
            obtain ⟨base2, hbase2⟩ : ∃ base2, base2 = base ++ [40, 41] := ⟨_, rfl⟩
            have hadd2 : ∀ W : World, (Op.stringOp .add ⟨base.toArray⟩ ⟨#[40, 41]⟩).run Tryz.prog W = .ok (.string ⟨base2.toArray⟩) W := by
              intro W
              rw [hbase2]
              exact hcat base [40, 41] (by simp; omega) W
            have HLN : Hid (0 ≠ 0 → base2.length + (jS ss).length ≤ 600000) := fun h => absurd rfl h
            have HFN : Hid (base2 ++ jS ss = base ++ jSq ss) := by show _ = _; rw [hbase2, hss0]; simp [jS, jSq]
            clear hbase2 hbl hss0
            go_wp2_with fail
            clear hadd2
            go_loopg [5, 9] 0 (fun m vo vj wr => ∃ j : Nat, m = 0 - j ∧ vo = .string ⟨(base2 ++ jS (ss.take j)).toArray⟩ ∧ vj = .int .i64 j ∧ j ≤ 0 ∧ Hid (Below W2.heap.size W2 wr))
            case atStart => exact ⟨0, by omega, by simp [jS], rfl, by omega, Below.refl _ _⟩
            case round =>
              obtain ⟨j, rfl, rfl, rfl, hj, HJ⟩ := hrel
              have hszj := HJ.out.size
              have h8 : wr.heap[wo.heap.size]? = some (seqO ia' ic' z2 pa' 0 pc') := by rw [HJ.out.block _ (by omega)]; exact HO2.out
              have e8 := cell_of_block h8
              have l8 := heap_lt' h8
              have HCJ := hideP (HC2.out.go HJ.out)
              obtain ⟨P2, hP2⟩ : ∃ P2, P2 = base2 ++ jS (ss.take j) := ⟨_, rfl⟩
              rw [← hP2]
              clear h8
              by_cases hjl : j < 0
              · exact absurd hjl (Nat.not_lt_zero _)
              · have hjl' : ¬ (j : Int) < 0 := by omega
                have hfin : P2 = jC (sss.take (t + 1)) := by
                  rw [hP2, List.take_of_length_le (by have := HKL.out; have := HM.out; omega), HFN.out, HNX.out]
                have HF := hideP hfin
                clear hP2 hfin
                go_wp2_with fail
                go_roundg (qs.length - (t + 1))
                case measure => omega
                case rel => exact ⟨t + 1, rfl, congrArg (fun l => Value.string ⟨List.toArray l⟩) HF.out, by go_num, by omega, HCJ⟩
          · have hM0' : ((M : Int) == 0) = false := by simpa using hM0
            have hM1 : ¬ (M : Int) = 0 := by omega
            obtain ⟨base2, hbase2⟩ : ∃ base2, base2 = base := ⟨_, rfl⟩
            rw [← hbase2]
            have hssn : ss ≠ [] := fun e => by have := HKL.out; have := HM.out; rw [e] at *; simp at *; omega
            have hjq : jSq ss = jS ss := by
              cases ss with
              | nil => exact absurd rfl hssn
              | cons a l => rfl
            have HLN : Hid (M ≠ 0 → base2.length + (jS ss).length ≤ 600000) := fun _ => by rw [hbase2, ← hjq]; exact hbl
            have HFN : Hid (base2 ++ jS ss = base ++ jSq ss) := by show _ = _; rw [hbase2, hjq]
            clear hbase2 hbl hssn hjq
            go_wp2_with fail
            go_loopg [5, 9] M (fun m vo vj wr => ∃ j : Nat, m = M - j ∧ vo = .string ⟨(base2 ++ jS (ss.take j)).toArray⟩ ∧ vj = .int .i64 j ∧ j ≤ M ∧ Hid (Below W2.heap.size W2 wr))
            case atStart => exact ⟨0, by omega, by simp [jS], rfl, by omega, Below.refl _ _⟩
            case round =>
              obtain ⟨j, rfl, rfl, rfl, hj, HJ⟩ := hrel
              have hszj := HJ.out.size
              have h8 : wr.heap[wo.heap.size]? = some (seqO ia' ic' z2 pa' M pc') := by rw [HJ.out.block _ (by omega)]; exact HO2.out
              have e8 := cell_of_block h8
              have l8 := heap_lt' h8
              have HCJ := hideP (HC2.out.go HJ.out)
              obtain ⟨P2, hP2⟩ : ∃ P2, P2 = base2 ++ jS (ss.take j) := ⟨_, rfl⟩
              rw [← hP2]
              clear h8
              by_cases hjl : j < M
              · have hjl' : (j : Int) < M := by omega
                have hjk : j < ks.length := by have := HM.out; omega
                have hjs : j < ss.length := by have := HKL.out; omega
                obtain ⟨pg2, rfl, hpg2, hcell⟩ := HPC2.out j hjk
                have hcell2 : wr.cell? ⟨pg2, j, none⟩ = some (.int .i64 ks[j]) := by
                  rw [World.cell?_of_block (a := ⟨pg2, j, none⟩) (HJ.out.block pg2 (by show pg2 < _; omega)), World.cell?_of_block (a := ⟨pg2, j, none⟩) (HB2.out.block pg2 hpg2)]
                  exact hcell
                have hcall := HKS.out.get j hjk hjs wr HCJ.out.mem
                have hlen2 : base2.length + (jS (ss.take (j + 1))).length ≤ 600000 := by
                  have h1 := jS_le ss _ (j + 1) rfl
                  have h2 := HLN.out (by omega)
                  omega
                obtain ⟨x, hx⟩ : ∃ x, x = ss[j] := ⟨_, rfl⟩
                rw [← hx] at hcall
                rw [take_snoc hjs, jS_snoc, ← hx] at hlen2
                by_cases hj0 : j = 0
                · have hj0' : ¬ (0 : Int) < j := by omega
                  have he : ss.take j = [] := (take_nil hjs).2 hj0
                  rw [if_pos he] at hlen2
                  have hadd : ∀ W : World, (Op.stringOp .add ⟨P2.toArray⟩ ⟨x.toArray⟩).run Tryz.prog W = .ok (.string ⟨(P2 ++ x).toArray⟩) W := fun W => hcat P2 x (by rw [hP2, he]; simp [jS]; omega) W
                  have HEQ : Hid (P2 ++ x = base2 ++ jS (ss.take (j + 1))) := by
                    show _ = _
                    rw [take_snoc hjs, jS_snoc, if_pos he, hP2, he, hx]; simp [jS]
                  clear hP2 hx hlen2 hj0 he hcell
                  go_wp2_with fail
                  refine hcall.mono ?_
                  rintro _ w5 ⟨rfl, hb5⟩
                  have HB5 := hideP (HJ.out.trans (hb5.mono hszj))
                  clear hb5 hcall
                  go_wp2_with fail
                  go_roundg (M - (j + 1))
                  case measure => omega
                  case rel => exact ⟨j + 1, rfl, congrArg (fun l => Value.string ⟨List.toArray l⟩) HEQ.out, by go_num, by omega, HB5⟩
                · have hj0' : (0 : Int) < j := by omega
                  have he : ss.take j ≠ [] := fun e => hj0 ((take_nil hjs).1 e)
                  rw [if_neg he] at hlen2
                  have hadd1 : ∀ W : World, (Op.stringOp .add ⟨P2.toArray⟩ ⟨#[32]⟩).run Tryz.prog W = .ok (.string ⟨(P2 ++ [32]).toArray⟩) W := fun W => hcat P2 [32] (by rw [hP2]; simp at hlen2 ⊢; omega) W
                  have hadd : ∀ W : World, (Op.stringOp .add ⟨(P2 ++ [32]).toArray⟩ ⟨x.toArray⟩).run Tryz.prog W = .ok (.string ⟨((P2 ++ [32]) ++ x).toArray⟩) W := fun W => hcat (P2 ++ [32]) x (by rw [hP2]; simp at hlen2 ⊢; omega) W
                  have HEQ : Hid ((P2 ++ [32]) ++ x = base2 ++ jS (ss.take (j + 1))) := by
                    show _ = _
                    rw [take_snoc hjs, jS_snoc, if_neg he, hP2, hx]; simp
                  generalize P2 ++ [32] = P3 at *
                  clear hP2 hx hlen2 he hcell
                  go_wp2_with fail
                  refine hcall.mono ?_
                  rintro _ w5 ⟨rfl, hb5⟩
                  have HB5 := hideP (HJ.out.trans (hb5.mono hszj))
                  clear hb5 hcall
                  go_wp2_with fail
                  go_roundg (M - (j + 1))
                  case measure => omega
                  case rel => exact ⟨j + 1, rfl, congrArg (fun l => Value.string ⟨List.toArray l⟩) HEQ.out, by go_num, by omega, HB5⟩
              · have hjl' : ¬ (j : Int) < M := by omega
                have hfin : P2 = jC (sss.take (t + 1)) := by
                  rw [hP2, List.take_of_length_le (by have := HKL.out; have := HM.out; omega), HFN.out, HNX.out]
                have HF := hideP hfin
                clear hP2 hfin
                go_wp2_with fail
                go_roundg (qs.length - (t + 1))
                case measure => omega
                case rel => exact ⟨t + 1, rfl, congrArg (fun l => Value.string ⟨List.toArray l⟩) HF.out, by go_num, by omega, HCJ⟩
    · have hlt' : ¬ (t : Int) < qs.length := by omega
      have hfin : P = jC sss := by rw [hP, List.take_of_length_le (by have := HSL.out; omega)]
      have HF := hideP hfin
      clear hfin hP
      go_wp2_with fail
      go_ret
      exact ⟨congrArg (fun l => Ending.returned (Value.string ⟨List.toArray l⟩)) HF.out, HI.out.below⟩
end Go.Proofs.YtjmcdklhaieldaaGreatDoor
