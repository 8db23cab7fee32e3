import Derived.Test.YtiganlkabilblaaGreatDoorV06
import Derived.Deep.RegionHeldLaw
import Derived.Deep.AppendLies
import Derived.Test.YtiganlkabilblaaGreatDoorV03
import Derived.Deep.QuietTactic
import Derived.BigQuiet
import Derived.RegionTactic
import Derived.BigRegion
import Derived.Deep.RegionHeld
import Derived.Test.YtiganlkabilblaaGreatDoorV00
import Derived.Shelf.Strings.OnBuilder
import Derived.Test.YtiganlkabilblaaGreatDoorV01
import Derived.Shelf.Strings.BuilderK
import Derived.Test.YtiganlkabilblaaGreatDoorV02
import Derived.Laws.AppendOwnNone
import Derived.Deep.Upon
set_option linter.all false
namespace Go.Proofs.YtiganlkabilblaaGreatDoor
open Go.RowKit Thk
/-- A call of a Go function, as one step of a region that draws. -/
theorem step_call {P : Program} {ops : Array Oper} {o : Oper} {a : Act} {w : World} {K : Act → World → Prop} {Q : Exit → Act → World → Prop} {E : Prop} (hgd : o.guard = none) (f : FuncId) (args : Array Value) (hx : (execOp a.eval o).run P w = .ok (.enter f args) w) {R : Value → World → Prop}
    (hc : Calls P f args w fun e w' => ∃ v, e = .returned v ∧ R v w') (h : ∀ v w', R v w' → K (a.put o.dst v) w') : if Region.wanted o (yielded ops a.tmps) = true then Oper.wp P o a w K Q else E := by
  have hw : Region.wanted o (yielded ops a.tmps) = true := by simp [Region.wanted, hgd]
  rw [if_pos hw]
  unfold Oper.wp
  rw [hx]
  simp only [Oper.upon]
  refine hc.mono ?_
  rintro e w' ⟨v, rfl, hR⟩
  exact h v w' hR
/-- A list of expressions is being made. -/
structure LpM (w : World) (kb mb nb : Nat) (N : List Nd) (bx : List (Nat × Nat × Nat)) (S : Nat → Prop) (wt : Nat) (P : List Nd → List Nat → Prop) (i : Nat) (a : Option Addr) (c : Nat) (wr : World) (N' : List Nd) (y : List (Nat × Nat × Nat)) (ks : List Nat) (S' : Nat → Prop) : Prop where
  mkr : Mk wr kb mb nb N' (bx ++ y) S'
  goes : Goes N N'
  cnt : N'.length ≤ N.length + wt
  ok : P N' ks
  lt : ∀ k ∈ ks, k < N'.length
  len : ks.length = i
  box : wr.heap[w.heap.size]? = some (boxO (.slice a i c) 175)
  row : wr.ownsRow (w.heap.size + 1) 226 1 (.slice a i c) i (ks.map (clV (bx ++ y)))
  nbx : ¬ S' w.heap.size
  nr : ∀ g, (Value.slice a i c).ownBlock = some g → ¬ S' g
  kp : KpM [kb] w.heap.size w wr
  gr : GrS w S S'
theorem LpM.start {w : World} {kb mb nb : Nat} {N : List Nd} {bx : List (Nat × Nat × Nat)} {S : Nat → Prop} {P : List Nd → List Nat → Prop} (h : Mk w kb mb nb N bx S) (hP : P N []) : LpM w kb mb nb N bx S 0 P 0 none 0 (w.alloc (boxO (.slice none 0 0) 175)) N [] [] S := by
  refine ⟨by rw [List.append_nil]; exact h.below (below_alloc _ _), Goes.refl _, by omega, hP, by simp, rfl, heap_alloc_same _ _, World.ownsRow_nil _ _ _ _, fun hs => by have := h.lt _ hs; omega, by simp [Value.ownBlock], KpM.of_below (below_alloc _ _), GrS.refl _ _⟩
theorem map_clV {bx y2 : List (Nat × Nat × Nat)} {ks : List Nat} (h : ∀ k ∈ ks, k < bx.length) : ks.map (clV (bx ++ y2)) = ks.map (clV bx) := List.map_congr_left (fun k hk => clV_app (h k hk) y2)
theorem LpM.call {w wr wA w1 : World} {kb mb nb : Nat} {N N' N2 : List Nd} {bx y y2 : List (Nat × Nat × Nat)} {S S' S2 : Nat → Prop} {wt wt2 : Nat} {P : List Nd → List Nat → Prop} {i : Nat} {a : Option Addr} {c : Nat} {ks : List Nat} (h : LpM w kb mb nb N bx S wt P i a c wr N' y ks S') (hkl : kb < w.heap.size) (hkw : w.heap[kb]? = some (makO mb (.map (some nb)) N.length))
    (hA : Below wr.heap.size wr wA) (h1 : Mk w1 kb mb nb N2 ((bx ++ y) ++ y2) S2) (hg : Goes N' N2) (hn : N2.length ≤ N'.length + wt2) (hK : KpM [kb] wA.heap.size wA w1) (hS : GrS wA S' S2) (hP : P N2 ks) (hlen : N'.length ≤ N2.length) : LpM w kb mb nb N bx S (wt + wt2) P i a c w1 N2 (y ++ y2) ks S2 := by
  have hKr : KpM [kb] wr.heap.size wr w1 := (KpM.of_below hA).trans (hK.mono hA.size)
  have hbl := heap_lt h.box
  have hSr : GrS wr S' S2 := (GrS.refl _ _).below hS hA
  have hcnt := h.cnt
  refine ⟨by rw [← List.append_assoc]; exact h1, h.goes.trans hg, by omega, hP, fun k hk => Nat.lt_of_lt_of_le (h.lt k hk) hlen, h.len, ?_, ?_, ?_, ?_, h.kp.go hKr, h.gr.trans hSr hkw ⟨_, h.mkr.blk⟩ (Up.of_kpM h.kp)⟩
  · rw [hKr.block _ hbl (by simp; omega)]; exact h.box
  · rw [← List.append_assoc, map_clV (fun k hk => by rw [h.mkr.len]; exact h.lt k hk)]
    exact own_blocks h.row (fun g hgb => hKr.block g (h.row.lt g hgb).2 (by have := (h.row.lt g hgb).1; simp; omega))
  · intro hs
    rcases hSr _ hs with h' | h' | ⟨cur, h'⟩
    · exact h.nbx h'
    · omega
    · rw [h.box] at h'; simp at h'
  · intro g hgb hs
    rcases hSr _ hs with h' | h' | ⟨cur, h'⟩
    · exact h.nr g hgb h'
    · have := (h.row.lt g hgb).2; omega
    · obtain ⟨cur2, hc⟩ := own_block_type h.row hgb
      rw [hc] at h'; simp at h'
theorem LpM.put {w w1 w5 : World} {kb mb nb : Nat} {N N' : List Nd} {bx y : List (Nat × Nat × Nat)} {S S' : Nat → Prop} {wt : Nat} {P P' : List Nd → List Nat → Prop} {i : Nat} {a va : Option Addr} {c vc : Nat} {ks : List Nat} {O : Obj} {n : Nat} {x : Nat × Nat × Nat} (h : LpM w kb mb nb N bx S wt P i a c w1 N' y ks S') (hkl : kb < w.heap.size)
    (hx : x = (bx ++ y).getD n (0, 0, 0)) (hn : n < N'.length) (hP : P' N' (ks ++ [n])) (hown : w5.ownsRow (w.heap.size + 1) 226 1 (.slice va (i + 1) vc) (i + 1) (ks.map (clV (bx ++ y)) ++ [cloV x])) (hgrow : (w1.alloc O).grownBy w5 (Value.slice a i c).ownBlock) (hat : (Value.slice va (i + 1) vc).ownBlock = (Value.slice a i c).ownBlock ∨ (Value.slice va (i + 1) vc).ownBlock = some (w1.alloc O).heap.size) :
    LpM w kb mb nb N bx S wt P' (i + 1) va vc (w5.setCell ⟨w.heap.size, 0, none⟩ (.slice va (i + 1) vc)) N' y (ks ++ [n]) S' := by
  have hs2 := hgrow.size
  simp at hs2
  have hbl := heap_lt h.box
  have hks := h.kp.size
  have hb5 : ∀ g, g < w1.heap.size → some g ≠ (Value.slice a i c).ownBlock → w5.heap[g]? = w1.heap[g]? := fun g hg hne => by
    rw [hgrow.block g (by simp; omega) hne, heap_alloc_old _ _ hg]
  have hbox5 : w5.heap[w.heap.size]? = some (boxO (.slice a i c) 175) := by
    rw [hb5 _ hbl (fun e => by have := (h.row.lt _ e.symm).1; omega)]; exact h.box
  have hsz6 : (w5.setCell ⟨w.heap.size, 0, none⟩ (.slice va (i + 1) vc)).heap.size = w5.heap.size := by simp [World.setCell]
  refine ⟨h.mkr.same (by rw [hsz6]; omega) (fun g hg => ?_) ?_, h.goes, h.cnt, hP, ?_, by simp [h.len], ?_, ?_, h.nbx, ?_, ?_, h.gr⟩
  · rw [Below.heap_setCell _ _ _ _ (fun e => by subst e; exact h.nbx hg)]
    exact hb5 g (h.mkr.lt g hg) (fun e => h.nr g e.symm hg)
  · rw [Below.heap_setCell _ _ _ _ (by simp; omega)]
    exact hb5 kb (by omega) (fun e => by have := (h.row.lt _ e.symm).1; omega)
  · intro k hk
    rcases List.mem_append.1 hk with hk | hk
    · exact h.lt k hk
    · simp at hk; subst hk; exact hn
  · rw [heap_setCell_at hbox5]; rfl
  · rw [List.map_append]
    have he : [n].map (clV (bx ++ y)) = [cloV x] := by simp [clV, hx]
    rw [he]
    exact own_blocks hown (fun g hg => Below.heap_setCell _ _ _ _ (by have := (hown.lt g hg).1; simp; omega))
  · intro g hg hs
    rcases hat with e | e
    · exact h.nr g (by rw [← e]; exact hg) hs
    · have h1 := h.mkr.lt g hs
      rw [e] at hg
      simp at hg
      omega
  · refine ⟨hgrow.os.trans h.kp.os, hgrow.tape.trans h.kp.tape, hgrow.output.trans h.kp.output, by rw [hsz6]; omega, fun k hk hn => ?_⟩
    rw [Below.heap_setCell _ _ _ _ (by simp; omega), hb5 k (by omega) (fun e => by have := (h.row.lt _ e.symm).1; omega)]
    exact h.kp.block k hk hn
/-- The list is there for good. -/
theorem LpM.rowC {w wr w' : World} {kb mb nb : Nat} {N N' : List Nd} {bx y : List (Nat × Nat × Nat)} {S S' : Nat → Prop} {wt : Nat} {P : List Nd → List Nat → Prop} {i : Nat} {a : Option Addr} {c : Nat} {ks : List Nat} (h : LpM w kb mb nb N bx S wt P i a c wr N' y ks S') (hml : mb < w.heap.size) (hs : wr.heap.size ≤ w'.heap.size) (hg : ∀ g, (Value.slice a i c).ownBlock = some g → w'.heap[g]? = wr.heap[g]?) (x : Nat × Nat × Nat) : RowC w' mb (bx ++ y ++ [x]) ks a := by
  intro j hj
  have hlen := h.len
  obtain ⟨g, ha, hcs, hgl⟩ := own_at h.row (by omega)
  have hob : (Value.slice a i c).ownBlock = some g := by rw [ha]; rfl
  refine ⟨g, ha, by omega, by have := (h.row.lt g hob).1; omega, ?_⟩
  rw [clV_app (by rw [h.mkr.len]; exact h.lt _ (List.getElem_mem hj))]
  have := hcs j (by omega)
  simp only [World.cell?] at this ⊢
  rw [hg g hob, this, List.getElem?_map, List.getElem?_eq_getElem hj]
  rfl
theorem LpM.seq {w wr : World} {kb mb nb : Nat} {N N' : List Nd} {bx y : List (Nat × Nat × Nat)} {S S' : Nat → Prop} {wt : Nat} {P : List Nd → List Nat → Prop} {i : Nat} {a : Option Addr} {c : Nat} {ks : List Nat} (h : LpM w kb mb nb N bx S wt P i a c wr N' y ks S') (hml : mb < w.heap.size) (hkl : kb < w.heap.size) (hN : N'.length ≤ 100000000) (hi : i ≤ 1000000) :
    Calls Tryz.prog 150 #[ptrV kb, .func (.func 175) #[] #[ptrV wr.heap.size, ptrV w.heap.size]] (wr.alloc (boxO (ptrV mb) 113)) fun e w' => ∃ x S2, e = .returned (cloV x) ∧ Mk w' kb mb nb (N' ++ [.seq ks]) (bx ++ (y ++ [x])) S2 ∧ KpM [kb] w.heap.size w w' ∧ GrS w S S2 := by
  have hbl := heap_lt h.box
  have hlen := h.len
  refine (made0 (h.mkr.below (below_alloc wr (boxO (ptrV mb) 113))) hN 175 #[ptrV wr.heap.size, ptrV w.heap.size] (d := .seq ks) h.lt (fun b => b = w.heap.size ∨ b = wr.heap.size ∨ (Value.slice a i c).ownBlock = some b) ?_ ?_).mono ?_
  · rintro b (rfl | rfl | hb)
    · exact ⟨by simp; omega, by omega⟩
    · exact ⟨by simp, by omega⟩
    · have := h.row.lt b hb
      exact ⟨by simp; omega, by omega⟩
  · intro x w' hs hE
    simp at hs
    refine ⟨wr.heap.size, w.heap.size, a, c, rfl, ?_, ?_, h.rowC hml (by omega) (fun g hg => ?_) x, by omega⟩
    · rw [hE _ (.inr (.inl rfl))]; exact heap_alloc_same _ _
    · rw [hE _ (.inl rfl), heap_alloc_old _ _ hbl, hlen]; exact h.box
    · rw [hE _ (.inr (.inr hg)), heap_alloc_old _ _ (h.row.lt g hg).2]
  · rintro e w' ⟨x, S2, h1, h2, h3, h4⟩
    refine ⟨x, S2, h1, by rw [← List.append_assoc]; exact h2, h.kp.go (KpM.alloc h3), fun b hb => ?_⟩
    rcases h4 b hb with h' | (h' | h' | h') | h'
    · exact h.gr b h'
    · exact .inr (.inl (by omega))
    · exact .inr (.inl (by omega))
    · exact .inr (.inl (by have := (h.row.lt b h').1; omega))
    · simp at h'
      exact .inr (.inl (by omega))
theorem LpM.choice {w wr : World} {kb mb nb : Nat} {N N' : List Nd} {bx y : List (Nat × Nat × Nat)} {S S' : Nat → Prop} {wt : Nat} {P : List Nd → List Nat → Prop} {i : Nat} {a : Option Addr} {c : Nat} {ks : List Nat} (h : LpM w kb mb nb N bx S wt P i a c wr N' y ks S') (hml : mb < w.heap.size) (hkl : kb < w.heap.size) (hN : N'.length ≤ 100000000) (hi : i ≤ 1000000) :
    Calls Tryz.prog 150 #[ptrV kb, .func (.func 151) #[] #[ptrV w.heap.size]] wr fun e w' => ∃ x S2, e = .returned (cloV x) ∧ Mk w' kb mb nb (N' ++ [.choice ks]) (bx ++ (y ++ [x])) S2 ∧ KpM [kb] w.heap.size w w' ∧ GrS w S S2 := by
  have hbl := heap_lt h.box
  have hlen := h.len
  refine (made0 h.mkr hN 151 #[ptrV w.heap.size] (d := .choice ks) h.lt (fun b => b = w.heap.size ∨ (Value.slice a i c).ownBlock = some b) ?_ ?_).mono ?_
  · rintro b (rfl | hb)
    · exact ⟨hbl, by omega⟩
    · have := h.row.lt b hb
      exact ⟨by omega, by omega⟩
  · intro x w' hs hE
    refine ⟨w.heap.size, a, c, rfl, ?_, h.rowC hml hs (fun g hg => hE _ (.inr hg)) x, by omega⟩
    rw [hE _ (.inl rfl), hlen]; exact h.box
  · rintro e w' ⟨x, S2, h1, h2, h3, h4⟩
    refine ⟨x, S2, h1, by rw [← List.append_assoc]; exact h2, h.kp.go h3, fun b hb => ?_⟩
    rcases h4 b hb with h' | (h' | h') | h'
    · exact h.gr b h'
    · exact .inr (.inl (by omega))
    · exact .inr (.inl (by have := (h.row.lt b h').1; omega))
    · exact .inr (.inl (by omega))
end Go.Proofs.YtiganlkabilblaaGreatDoor
namespace Go.Proofs.YtiganlkabilblaaGreatDoor
open Go.RowKit Thk
attribute [local go_sem ↓] Go.wp_at_zero Go.wp_at_succ
theorem Tryz.infoExprF : (Tryz.prog.info? 226).map (fun i => (i.zero, i.size, i.bytes)) = some (some .nilFunc, 1, 8) := by kernel_rfl
theorem grownC {w5 w6 : World} {O : Obj} {row : Option Nat} {a : Addr} {u : Value} (hg : (w5.alloc O).grownBy w6 row) (h : w5.cell? a = some u) (hn : some a.block ≠ row) : w6.cell? a = some u :=
  hg.cell (by rw [World.cell?_alloc_lt _ _ _ (World.block_lt_of_cell? _ _ h)]; exact h) hn
theorem LpM.wt {w : World} {kb mb nb : Nat} {N : List Nd} {bx : List (Nat × Nat × Nat)} {S : Nat → Prop} {wt wt' : Nat} {P : List Nd → List Nat → Prop} {i : Nat} {a : Option Addr} {c : Nat} {wr : World} {N' : List Nd} {y : List (Nat × Nat × Nat)} {ks : List Nat} {S' : Nat → Prop} (h : LpM w kb mb nb N bx S wt P i a c wr N' y ks S') (hw : wt ≤ wt') : LpM w kb mb nb N bx S wt' P i a c wr N' y ks S' :=
  { h with cnt := Nat.le_trans h.cnt (by omega) }
theorem LpM.upTo {w : World} {kb mb nb : Nat} {N : List Nd} {bx : List (Nat × Nat × Nat)} {S : Nat → Prop} {wt : Nat} {P : List Nd → List Nat → Prop} {i : Nat} {a : Option Addr} {c : Nat} {wr X : World} {N' : List Nd} {y : List (Nat × Nat × Nat)} {ks : List Nat} {S' : Nat → Prop} (h : LpM w kb mb nb N bx S wt P i a c wr N' y ks S') (hX : Below wr.heap.size wr X) : Up kb w X :=
  Up.of_kpM (h.kp.go (KpM.of_below hX))
theorem LpM.lenLe {w w1 : World} {kb mb nb : Nat} {N N' N2 : List Nd} {bx y y2 : List (Nat × Nat × Nat)} {S S' S2 : Nat → Prop} {wt : Nat} {P : List Nd → List Nat → Prop} {i : Nat} {a : Option Addr} {c : Nat} {wr : World} {ks : List Nat} (h : LpM w kb mb nb N bx S wt P i a c wr N' y ks S') (h1 : Mk w1 kb mb nb N2 ((bx ++ y) ++ y2) S2) : N'.length ≤ N2.length := by
  have e1 := h.mkr.len
  have e2 := h1.len
  rw [List.length_append] at e2
  omega
theorem row_ne {w : World} {kb mb nb n g sz m : Nat} {e : TypeId} {v : Value} {xs : List Value} (hk : w.heap[kb]? = some (makO mb (.map (some nb)) n)) (he : e ≠ 224) (hs : w.ownsRow 0 e sz v m xs) (hg : v.ownBlock = some g) : g ≠ kb := by
  rintro rfl
  obtain ⟨cur, hc⟩ := own_block_type hs hg
  rw [hk] at hc
  simp only [Option.some.injEq, Obj.cells.injEq] at hc
  exact he hc.2.1.symm
set_option maxHeartbeats 16000000 in
set_option maxRecDepth 100000 in
theorem sequence_step (k : Nat) (hT : MakT k) : MakS k := by
  intro w kb mb nb N bx S names A s u h hnm hs hA hk hok hN hw
  obtain ⟨vs, ⟨hrow, hAr⟩, hts⟩ := hs
  obtain ⟨ua, uc, rfl⟩ := own_form hrow
  have hmf : ∀ (fn : Fn) (first cap : Array Value) (w : World), (Instr.makeFunc fn first cap).run Tryz.prog w = .ok (.func fn first cap) w := fun _ _ _ _ => rfl
  have HVL : Hid (s.length = vs.length) := RTerms.length hts
  obtain ⟨i0, hi0, hz0, hz1, hz2⟩ := info_parts Tryz.infoExprF
  have hsl := swtS_len s
  have hse := sumT_eq s
  have hn1 : s.length ≤ 500000 := by omega
  have hkl := heap_lt h.blk
  have hml := h.mlt
  have HKB := hideP h.blk
  have HNM := hideP hnm
  have HTS := hideP hts
  have HROW := hideP hrow
  have HK := hideP hk
  have HOK := hideP hok
  have HW := hideP hw
  have HNN := hideP hN
  have HSE := hideP hse
  have H0 := hideP (LpM.start (P := fun N' ks => DnS N' names ks (s.take 0)) h (by simp [DnS]))
  clear h hnm hts hrow hAr hk hok hw hN hsl hse
  go_enter Tryz.func149, Tryz.ntmps149
  go_wp2_with fail
  go_loopg [11] s.length (fun m vi wr => ∃ (i : Nat) (a : Option Addr) (c : Nat) (N' : List Nd) (y : List (Nat × Nat × Nat)) (ks : List Nat) (S' : Nat → Prop), m = s.length - i ∧ vi = .int .i64 i ∧ i ≤ s.length ∧ Hid (LpM w kb mb nb N bx S (2 * sumT (s.take i)) (fun N' ks => DnS N' names ks (s.take i)) i a c wr N' y ks S'))
  case atStart => exact ⟨0, none, 0, N, [], [], S, by omega, rfl, by omega, H0⟩
  case round =>
    obtain ⟨i, a, c, N', y, ks, S', rfl, rfl, hi, HI⟩ := hrel
    have hsr := HI.out.kp.size
    have hbl := heap_lt HI.out.box
    have b0 : wr.cell? ⟨w.heap.size, 0, none⟩ = some (.slice a i c) := cell_of_block HI.out.box 0
    by_cases hlt : i < s.length
    · have hlt' : (i : Int) < s.length := by omega
      have hjv : i < vs.length := by have := HVL.out; omega
      obtain ⟨g, hua, hcs, hgl⟩ := own_at HROW.out (by omega)
      subst hua
      have hgk : g ≠ kb := row_ne HKB.out (by decide) HROW.out rfl
      have hbg : wr.heap[g]? = w.heap[g]? := HI.out.kp.block g hgl (by simpa using hgk)
      obtain ⟨t0, t1, t2⟩ := termC_get s vs HVL.out i hlt
      have c0 : wr.cell? ⟨g, i * 3, none⟩ = some (.int .u8 s[i].ahead.toNat) := by rw [World.cell?_of_block (a := ⟨g, _, none⟩) hbg, hcs _ (by omega)]; exact t0
      have c1 : wr.cell? ⟨g, i * 3 + 1, none⟩ = some (vs[i]'hjv) := by rw [World.cell?_of_block (a := ⟨g, _, none⟩) hbg, hcs _ (by omega)]; exact t1
      have c2 : wr.cell? ⟨g, i * 3 + 2, none⟩ = some (.int .u8 s[i].behind.toNat) := by rw [World.cell?_of_block (a := ⟨g, _, none⟩) hbg, hcs _ (by omega)]; exact t2
      have htr := RTerms.get HTS.out i hlt hjv
      have hst := sumT_take s i hlt
      have hsle := sumT_le s (i + 1)
      have HPC : Hid (∀ X, Below wr.heap.size wr X → Calls Tryz.prog 174 #[ptrV kb, termV s[i] (vs[i]'hjv)] X (Mak kb mb nb N' (bx ++ y) S' (2 * wtT s[i]) (fun N2 n => DnT N2 names n s[i]) X)) := hideP (fun X hX => by
        have hu := HI.out.upTo hX
        have hcn := HI.out.cnt
        have hse := HSE.out
        have hnn := HNN.out
        have hww := HW.out
        exact hT X kb mb nb N' (bx ++ y) S' names A s[i] (vs[i]'hjv) (HI.out.mkr.below hX) (HNM.out.up HKB.out hu) (RTerm.kept (sm_up HKB.out hu hA) _ _ htr) hA (Nat.le_trans (depS_get s i hlt) HK.out) (okS_get HOK.out i hlt) (by omega) (by omega))
      have HGO : Hid (∀ X w1 N2 y2 n x S2 w5 va vc O, Below wr.heap.size wr X → x = ((bx ++ y) ++ y2).getD n (0, 0, 0) → n < N2.length → Mk w1 kb mb nb N2 ((bx ++ y) ++ y2) S2 → Goes N' N2 → N2.length ≤ N'.length + 2 * wtT s[i] → DnT N2 names n s[i] → KpM [kb] X.heap.size X w1 → GrS X S' S2 →
          w5.ownsRow (w.heap.size + 1) 226 1 (.slice (some ⟨va, 0, none⟩) (i + 1) vc) (i + 1) (ks.map (clV ((bx ++ y) ++ y2)) ++ [cloV x]) → (w1.alloc O).grownBy w5 (Value.slice a i c).ownBlock → ((Value.slice a i c).ownBlock = some va ∨ va = w1.heap.size + 1) →
          Hid (LpM w kb mb nb N bx S (2 * sumT (s.take (i + 1))) (fun N' ks => DnS N' names ks (s.take (i + 1))) (i + 1) (some ⟨va, 0, none⟩) vc (w5.setCell ⟨w.heap.size, 0, none⟩ (.slice (some ⟨va, 0, none⟩) (i + 1) vc)) N2 (y ++ y2) (ks ++ [n]) S2)) := hideP (fun X w1 N2 y2 n x S2 w5 va vc O hX hx hn h1 hg hl hd hK hS hown hgrow hat => by
        have hC := HI.out.call hkl HKB.out hX h1 hg hl hK hS (DnS.goes hg _ HI.out.ok) (HI.out.lenLe h1)
        rw [List.append_assoc] at hx hown
        have hP := LpM.put (P' := fun N' ks => DnS N' names ks (s.take (i + 1))) hC hkl hx hn (by rw [List.take_succ_eq_append_getElem hlt]; exact hC.ok.snoc hd) hown hgrow (by
          rcases hat with e | e
          · exact .inl e.symm
          · exact .inr (by rw [e]; simp [Value.ownBlock]))
        exact hideP (hP.wt (by omega)))
      have HC1 : Hid (∀ X w1 N2 y2 S2, Below wr.heap.size wr X → Mk w1 kb mb nb N2 ((bx ++ y) ++ y2) S2 → Goes N' N2 → N2.length ≤ N'.length + 2 * wtT s[i] → KpM [kb] X.heap.size X w1 → GrS X S' S2 → w1.heap[w.heap.size]? = some (boxO (.slice a i c) 175) ∧ w1.ownsRow (w.heap.size + 1) 226 1 (.slice a i c) i (ks.map (clV ((bx ++ y) ++ y2)))) := hideP (fun X w1 N2 y2 S2 hX h1 hg hl hK hS => by
        have hC := HI.out.call hkl HKB.out hX h1 hg hl hK hS (DnS.goes hg _ HI.out.ok) (HI.out.lenLe h1)
        have hr := hC.row
        rw [← List.append_assoc] at hr
        exact ⟨hC.box, hr⟩)
      obtain ⟨tt, xx, hvx⟩ : ∃ t x, vs[i]'hjv = .iface t x := by
        cases htt : s[i] with
        | mk a p b => rw [htt] at htr; simp only [RTerm] at htr; exact RPiece.oneCell htr
      rw [hvx] at c1
      simp only [hvx, termV] at HPC
      generalize hT2 : s[i] = T at *
      have HBN : Hid (some w.heap.size ≠ (Value.slice a i c).ownBlock) := hideP (fun e => by have := (HI.out.row.lt _ e.symm).1; omega)
      have HTN : Hid (some wr.heap.size ≠ (Value.slice a i c).ownBlock) := hideP (fun e => Nat.lt_irrefl _ (HI.out.row.lt _ e.symm).2)
      have HML : Hid (i + 1 ≤ maxLen) := by show _ ≤ _; unfold maxLen; omega
      have hkr : kb ≠ wr.heap.size := by omega
      generalize T.ahead = ah at *
      generalize T.behind = be at *
      clear htr t0 t1 t2 hvx hst hsle hcs hbg hgk
      go_wp2_with fail
      have z0 : Hid (∀ w1 : World, KpM [kb] ((wr.alloc (.cells #[.int .u8 ah.toNat, .iface tt xx, .int .u8 be.toNat] 249)).drew).heap.size ((wr.alloc (.cells #[.int .u8 ah.toNat, .iface tt xx, .int .u8 be.toNat] 249)).drew) w1 → w1.heap[wr.heap.size]? = some (.cells #[.int .u8 ah.toNat, .iface tt xx, .int .u8 be.toNat] 249)) := hideP (fun w1 hK => by
        rw [hK.block wr.heap.size (by show _ < (wr.alloc _).heap.size; simp) (by simp; omega)]
        exact heap_alloc_same _ _)
      have HN : Hid (∀ (w1 w5 : World) (O : Obj), (w1.alloc O).grownBy w5 (Value.slice a i c).ownBlock → w1.heap[w.heap.size]? = some (boxO (.slice a i c) 175) → w5.heap[w.heap.size]? = some (boxO (.slice a i c) 175)) := hideP (fun w1 w5 O hg hb => by
        have hl := heap_lt hb
        rw [hg.block _ (by simp; omega) HBN.out, heap_alloc_old _ _ hl]; exact hb)
      have hw1 : wr.heap.size ≠ w.heap.size := by omega
      have hw2 : w.heap.size ≠ wr.heap.size := by omega
      have HPV : Hid (∀ X, Below wr.heap.size wr X → Calls Tryz.prog 174 #[ptrV kb, .agg #[.int .u8 ah.toNat, .iface tt xx, .int .u8 be.toNat]] X fun e w' => ∃ v, e = .returned v ∧ ∃ N2 y2 n x S2, v = cloV x ∧ x = ((bx ++ y) ++ y2).getD n (0, 0, 0) ∧ n < N2.length ∧ Mk w' kb mb nb N2 ((bx ++ y) ++ y2) S2 ∧ Goes N' N2 ∧ N2.length ≤ N'.length + 2 * wtT T ∧ DnT N2 names n T ∧ KpM [kb] X.heap.size X w' ∧ GrS X S' S2) := hideP (fun X hX => (HPC.out X hX).mono (by
        rintro e w' ⟨N2, y2, n, x, S2, rfl, h⟩
        exact ⟨_, rfl, N2, y2, n, x, S2, rfl, h⟩))
      go_region_law
        (first
          | (refine step_call (by rfl) 174 #[ptrV kb, .agg #[.int .u8 ah.toNat, .iface tt xx, .int .u8 be.toNat]] (by go_simp) (HPV.out _ ((below_alloc wr _).drew)) ?_; rintro _ w1 ⟨N2, y2, n, x, S2, rfl, hx, hn, h1, hg, hl, hd, hK, hS⟩; have HX := hideP hx; have HC := hideP (HC1.out _ w1 N2 y2 S2 ((below_alloc wr _).drew) h1 hg hl hK hS); have s1 := cell_of_block HC.out.1 0; have q0 := cell_of_block (z0.out w1 hK) 0; have q1 := cell_of_block (z0.out w1 hK) 1; have q2 := cell_of_block (z0.out w1 hK) 2; have hlt1 := heap_lt' HC.out.1; have hlt2 := heap_lt' (z0.out w1 hK); have HM1 := hideP h1; have HG := hideP hg; have HL := hideP hl; have HD := hideP hd; have HKK := hideP hK; have HSS := hideP hS; have HNN2 := hideP hn; clear hx h1 hg hl hd hK hS hn)
          | (refine step_append_lies _ (by rfl) _ _ _ (by rfl) (w.heap.size + 1) 226 i0 _ 1 8 Tryz.underlying175 hi0 hz0 hz1 hz2 (by rfl) (by decide) _ _ _ (by rfl) (HC.out.2.alloc _) ⟨w1.heap.size, 0, none⟩ 1 1 [cloV x] (by rfl) (by rfl) (World.news_of_block (heap_alloc_same w1 _)) (by intro u hu; simp at hu; subst hu; rfl) (by decide) HML.out (by omega) (by simp; omega) (w1.heap.size + 1) (by simp) ?_; intro g2 cap2 w6 hown1 hgrow hat hlt3; have t1 := grownC hgrow s1 HBN.out; have t2 := grownC hgrow q0 HTN.out; have t3 := grownC hgrow q1 HTN.out; have t4 := grownC hgrow q2 HTN.out; have f1 := frozen_of_block (HN.out _ _ _ hgrow HC.out.1) 0; have hlt6 := heap_lt' (HN.out _ _ _ hgrow HC.out.1); have HF := HGO.out _ w1 N2 y2 n x S2 w6 g2 cap2 _ ((below_alloc wr _).drew) HX.out HNN2.out HM1.out HG.out HL.out HD.out HKK.out HSS.out hown1 hgrow hat; clear hown1 hgrow hat))
      all_goals go_wp2_with fail
      all_goals
        go_roundg (s.length - (i + 1))
        case measure => omega
        case rel => exact ⟨i + 1, _, _, _, _, _, _, rfl, by go_num, by omega, HF⟩
    · have hlt' : ¬ (i : Int) < s.length := by omega
      have hie : i = s.length := by omega
      have k0 : wr.cell? ⟨kb, 0, none⟩ = some (ptrV mb) := cell_of_block HI.out.mkr.blk 0
      have hkl2 : kb < wr.heap.size := by omega
      have HCL := hideP (HI.out.seq hml hkl (by have := HI.out.cnt; have := HNN.out; have := sumT_le s i; have := HSE.out; omega) (by omega))
      have HEND : Hid (∀ (w' : World) (x : Nat × Nat × Nat) (S2 : Nat → Prop), Mk w' kb mb nb (N' ++ [Nd.seq ks]) (bx ++ (y ++ [x])) S2 → KpM [kb] w.heap.size w w' → GrS w S S2 → Mak kb mb nb N bx S (2 * wtS s) (fun N' n => ∃ ks, N'[n]? = some (.seq ks) ∧ DnS N' names ks s) w (.returned (cloV x)) w') := hideP (fun w' x S2 h1 h2 h3 => by
        have hc := HI.out.cnt
        have hsl := sumT_le s i
        have hse := HSE.out
        have hok := HI.out.ok
        rw [hie, List.take_of_length_le (Nat.le_refl _)] at hok
        refine ⟨N' ++ [Nd.seq ks], y ++ [x], N'.length, x, S2, rfl, ?_, by simp, h1, HI.out.goes.trans (Goes.app _ _), by simp; omega, ⟨ks, last_get _ _, DnS.goes (Goes.app _ _) _ hok⟩, h2, h3⟩
        rw [← List.append_assoc, List.getD_eq_getElem?_getD, List.getElem?_append_right (by rw [HI.out.mkr.len]; exact Nat.le_refl _), HI.out.mkr.len, Nat.sub_self]; rfl)
      clear b0
      go_wp2_with fail
      refine HCL.out.mono ?_
      rintro _ w6 ⟨x, S2, rfl, h1, h2, h3⟩
      have HZ := hideP (HEND.out w6 x S2 h1 h2 h3)
      clear h1 h2 h3
      go_wp2_with fail
      go_ret
      exact HZ.out
end Go.Proofs.YtiganlkabilblaaGreatDoor
namespace Go.Proofs.YtiganlkabilblaaGreatDoor
open Go.RowKit Thk
attribute [local go_sem ↓] Go.wp_at_zero Go.wp_at_succ
theorem zasLitLit (x : Value) (w : World) : (Instr.typeAssert (.iface 319 x) 247 319 true).run Tryz.prog w = .ok (.tuple #[x, .bool true]) w := by kernel_rfl
theorem zasClsLit (x : Value) (w : World) : (Instr.typeAssert (.iface 321 x) 247 319 true).run Tryz.prog w = .ok (.tuple #[.agg #[.string ⟨#[]⟩], .bool false]) w := by kernel_rfl
theorem zasClsCls (x : Value) (w : World) : (Instr.typeAssert (.iface 321 x) 247 321 true).run Tryz.prog w = .ok (.tuple #[x, .bool true]) w := by kernel_rfl
theorem zasAnyLit (x : Value) (w : World) : (Instr.typeAssert (.iface 345 x) 247 319 true).run Tryz.prog w = .ok (.tuple #[.agg #[.string ⟨#[]⟩], .bool false]) w := by kernel_rfl
theorem zasAnyCls (x : Value) (w : World) : (Instr.typeAssert (.iface 345 x) 247 321 true).run Tryz.prog w = .ok (.tuple #[.agg #[.slice none 0 0], .bool false]) w := by kernel_rfl
theorem zasGroupLit (x : Value) (w : World) : (Instr.typeAssert (.iface 296 x) 247 319 true).run Tryz.prog w = .ok (.tuple #[.agg #[.string ⟨#[]⟩], .bool false]) w := by kernel_rfl
theorem zasGroupCls (x : Value) (w : World) : (Instr.typeAssert (.iface 296 x) 247 321 true).run Tryz.prog w = .ok (.tuple #[.agg #[.slice none 0 0], .bool false]) w := by kernel_rfl
set_option maxHeartbeats 8000000 in
set_option maxRecDepth 100000 in
theorem makePiece_step (k : Nat) (hC : ∀ k', k' < k → MakC k') : MakP k := by
  intro w kb mb nb N bx S names A p v h hnm hp hA hk hok hN hw
  have hmf : ∀ (fn : Fn) (first cap : Array Value) (w : World), (Instr.makeFunc fn first cap).run Tryz.prog w = .ok (.func fn first cap) w := fun _ _ _ _ => rfl
  have HL := hideP h.len
  cases p with
  | name b =>
    simp only [RPiece] at hp
    obtain ⟨rfl, hbl⟩ := hp
    have HM := hideP (fun O => nameOf_any (h.below (below_alloc w O)) (by omega) names (hnm.below (below_alloc w O)) b hbl)
    have a1 := asNameName
    clear hk hw hC h hnm hN hok
    go_enter Tryz.func199, Tryz.ntmps199
    go_wp2_with fail
    refine (HM.out _).mono ?_
    rintro _ w1 hm
    have hmk := Made1.mak (wt := 2 * wtP (.name b) + 1) (P := fun N' n => DnP N' names n (.name b)) (below_alloc w _) HL.out (by simp only [DnP]; exact last_get _ _) (by omega) hm
    obtain ⟨x, S1, rfl, _, _, _⟩ := hm
    clear HM
    go_wp2_with fail
    go_ret
    exact hmk
  | lit b =>
    simp only [RPiece] at hp
    subst hp
    simp only [okP] at hok
    have HM := hideP (fun O => literal_any (h.below (below_alloc w O)) (by omega) b hok.2)
    have a1 := asLitName
    have a2 := zasLitLit
    clear hk hw hC h hnm hN hok
    go_enter Tryz.func199, Tryz.ntmps199
    go_wp2_with fail
    refine (HM.out _).mono ?_
    rintro _ w1 hm
    have hmk := Made1.mak (wt := 2 * wtP (.lit b) + 1) (P := fun N' n => DnP N' names n (.lit b)) (below_alloc w _) HL.out (by simp only [DnP]; exact last_get _ _) (by omega) hm
    obtain ⟨x, S1, rfl, _, _, _⟩ := hm
    clear HM
    go_wp2_with fail
    go_ret
    exact hmk
  | cls l =>
    simp only [RPiece] at hp
    obtain ⟨u, rfl, hs⟩ := hp
    obtain ⟨ua, uc, rfl⟩ := own_form hs
    simp only [okP] at hok
    have HM := hideP (fun O => classOf_any (h.below (below_alloc w O)) (by omega) (.slice ua l.length uc) l (own_below hs (below_alloc w O)) hok)
    have a1 := asClsName
    have a2 := zasClsLit
    have a3 := zasClsCls
    have HP : Hid (∀ (e : Ending) (w1 : World) (O : Obj), Made1 kb mb nb N bx S (.cls l) (w.alloc O) e w1 → Mak kb mb nb N bx S (2 * wtP (.cls l) + 1) (fun N' n => DnP N' names n (.cls l)) w e w1) := hideP (fun e w1 O hm => Made1.mak (below_alloc w O) HL.out (by simp only [DnP]; exact last_get _ _) (by omega) hm)
    clear hk hw hC h hnm hN hok hs
    generalize l.length = n at *
    go_enter Tryz.func199, Tryz.ntmps199
    go_wp2_with fail
    refine (HM.out _).mono ?_
    rintro _ w1 hm
    have hmk := HP.out _ _ _ hm
    obtain ⟨x, S1, rfl, _, _, _⟩ := hm
    clear HM
    go_wp2_with fail
    go_ret
    exact hmk
  | any =>
    simp only [RPiece] at hp
    subst hp
    have HM := hideP (singleAny_any h (by omega))
    have a1 := asAnyName
    have a2 := zasAnyLit
    have a3 := zasAnyCls
    have a4 := asAnyGroup
    clear hk hw hC h hnm hN hok
    go_enter Tryz.func199, Tryz.ntmps199
    go_wp2_with fail
    refine HM.out.mono ?_
    rintro _ w1 hm
    have hmk := Made1.mak (wt := 2 * wtP .any + 1) (P := fun N' n => DnP N' names n .any) (Below.refl _ _) HL.out (by simp only [DnP]; exact last_get _ _) (by omega) hm
    obtain ⟨x, S1, rfl, _, _, _⟩ := hm
    clear HM
    go_wp2_with fail
    go_ret
    exact hmk
  | group c =>
    simp only [RPiece] at hp
    obtain ⟨u, us, rfl, hrow, hseqs⟩ := hp
    obtain ⟨ua, uc, rfl⟩ := own_form hrow.1
    have hdep : depC c < k := by simp only [depP] at hk; omega
    simp only [wtP] at hw hN
    simp only [okP] at hok
    have HM := hideP (fun O => hC _ hdep (w.alloc O) kb mb nb N bx S names A c (.slice ua c.length uc) (h.below (below_alloc w O)) (hnm.below (below_alloc w O)) (RChoice.kept (sm_below (below_alloc w O)) ⟨us, hrow, hseqs⟩) hA (Nat.le_refl _) hok (by omega) (by omega))
    have a1 := asGroupName
    have a2 := zasGroupLit
    have a3 := zasGroupCls
    have a4 := asGroupGroup
    simp only [wtP]
    generalize c.length = n at *
    clear hk hw hC h hnm hN hok hrow hseqs hdep hA
    go_enter Tryz.func199, Tryz.ntmps199
    go_wp2_with fail
    refine (HM.out _).mono ?_
    rintro _ w1 ⟨N1, y, n, x, S1, rfl, hx, hn, h1, hg, hl, hd, hK, hS⟩
    have HX := hideP hx
    clear HM hx
    go_wp2_with fail
    go_ret
    exact ⟨N1, y, n, x, S1, rfl, HX.out, hn, h1, hg, by omega, hd, hK.alloc, (GrS.refl _ _).below hS (below_alloc _ _)⟩
end Go.Proofs.YtiganlkabilblaaGreatDoor
namespace Go.Proofs.YtiganlkabilblaaGreatDoor
open Go.RowKit Thk
attribute [local go_sem ↓] Go.wp_at_zero Go.wp_at_succ
set_option maxHeartbeats 16000000 in
set_option maxRecDepth 100000 in
theorem makeChoice_step (k : Nat) (hT : MakS k) : MakC k := by
  intro w kb mb nb N bx S names A s u h hnm hs hA hk hok hN hw
  obtain ⟨vs, ⟨hrow, hAr⟩, hts⟩ := hs
  obtain ⟨ua, uc, rfl⟩ := own_form hrow
  have hmf : ∀ (fn : Fn) (first cap : Array Value) (w : World), (Instr.makeFunc fn first cap).run Tryz.prog w = .ok (.func fn first cap) w := fun _ _ _ _ => rfl
  have HVL : Hid (s.length = vs.length) := RSeqs.length hts
  obtain ⟨i0, hi0, hz0, hz1, hz2⟩ := info_parts Tryz.infoExprF
  have hs0 : s ≠ [] := by
    rintro rfl
    simp only [Thk.wtC] at hw
    omega
  have hsl := swtC_len s
  have hse := sumS_eq s hs0
  have hn1 : s.length ≤ 500000 := by omega
  have hpos : 0 < s.length := List.length_pos_iff.2 hs0
  have hkl := heap_lt h.blk
  have hml := h.mlt
  have HKB := hideP h.blk
  have HNM := hideP hnm
  have HTS := hideP hts
  have HROW := hideP hrow
  have HK := hideP hk
  have HOK := hideP hok
  have HW := hideP hw
  have HNN := hideP hN
  have HSE := hideP hse
  have H0 := hideP (LpM.start (P := fun N' ks => DnC N' names ks (s.take 0)) h (by simp [DnC]))
  clear h hnm hts hrow hAr hk hok hw hN hsl hse hs0
  go_enter Tryz.func119, Tryz.ntmps119
  go_wp2_with fail
  go_loopg [10] s.length (fun m vi wr => ∃ (i : Nat) (a : Option Addr) (c : Nat) (N' : List Nd) (y : List (Nat × Nat × Nat)) (ks : List Nat) (S' : Nat → Prop), m = s.length - i ∧ vi = .int .i64 i ∧ i ≤ s.length ∧ Hid (LpM w kb mb nb N bx S (2 * (sumS (s.take i) - i)) (fun N' ks => DnC N' names ks (s.take i)) i a c wr N' y ks S'))
  case atStart => exact ⟨0, none, 0, N, [], [], S, by omega, rfl, by omega, H0⟩
  case round =>
    obtain ⟨i, a, c, N', y, ks, S', rfl, rfl, hi, HI⟩ := hrel
    have hsr := HI.out.kp.size
    have hbl := heap_lt HI.out.box
    have b0 : wr.cell? ⟨w.heap.size, 0, none⟩ = some (.slice a i c) := cell_of_block HI.out.box 0
    by_cases hlt : i < s.length
    · have hlt' : (i : Int) < s.length := by omega
      have hjv : i < vs.length := by have := HVL.out; omega
      obtain ⟨g, hua, hcs, hgl⟩ := own_at HROW.out (by omega)
      subst hua
      have hgk : g ≠ kb := row_ne HKB.out (by decide) HROW.out rfl
      have hbg : wr.heap[g]? = w.heap[g]? := HI.out.kp.block g hgl (by simpa using hgk)
      have c0 : wr.cell? ⟨g, i, none⟩ = some (vs[i]'hjv) := by rw [World.cell?_of_block (a := ⟨g, _, none⟩) hbg, hcs _ (by omega)]; exact List.getElem?_eq_getElem hjv
      have htr := RSeqs.get HTS.out i hlt hjv
      have hst := sumS_take s i hlt
      have hsle := sumS_le s (i + 1)
      have hlen1 : i ≤ sumS (s.take i) := by have := swtC_len (s.take i); rw [List.length_take] at this; omega
      have HPC : Hid (∀ X, Below wr.heap.size wr X → Calls Tryz.prog 149 #[ptrV kb, vs[i]'hjv] X (Mak kb mb nb N' (bx ++ y) S' (2 * wtS s[i]) (fun N2 n => ∃ ks, N2[n]? = some (.seq ks) ∧ DnS N2 names ks s[i]) X)) := hideP (fun X hX => by
        have hu := HI.out.upTo hX
        have hcn := HI.out.cnt
        have hse := HSE.out
        have hnn := HNN.out
        have hww := HW.out
        exact hT X kb mb nb N' (bx ++ y) S' names A s[i] (vs[i]'hjv) (HI.out.mkr.below hX) (HNM.out.up HKB.out hu) (RSeq.kept (sm_up HKB.out hu hA) htr) hA (Nat.le_trans (depC_get s i hlt) HK.out) (okC_get HOK.out i hlt) (by omega) (by omega))
      have HGO : Hid (∀ X w1 N2 y2 n x S2 w5 va vc O, Below wr.heap.size wr X → x = ((bx ++ y) ++ y2).getD n (0, 0, 0) → n < N2.length → Mk w1 kb mb nb N2 ((bx ++ y) ++ y2) S2 → Goes N' N2 → N2.length ≤ N'.length + 2 * wtS s[i] → (∃ ks, N2[n]? = some (.seq ks) ∧ DnS N2 names ks s[i]) → KpM [kb] X.heap.size X w1 → GrS X S' S2 →
          w5.ownsRow (w.heap.size + 1) 226 1 (.slice (some ⟨va, 0, none⟩) (i + 1) vc) (i + 1) (ks.map (clV ((bx ++ y) ++ y2)) ++ [cloV x]) → (w1.alloc O).grownBy w5 (Value.slice a i c).ownBlock → ((Value.slice a i c).ownBlock = some va ∨ va = w1.heap.size + 1) →
          Hid (LpM w kb mb nb N bx S (2 * (sumS (s.take (i + 1)) - (i + 1))) (fun N' ks => DnC N' names ks (s.take (i + 1))) (i + 1) (some ⟨va, 0, none⟩) vc (w5.setCell ⟨w.heap.size, 0, none⟩ (.slice (some ⟨va, 0, none⟩) (i + 1) vc)) N2 (y ++ y2) (ks ++ [n]) S2)) := hideP (fun X w1 N2 y2 n x S2 w5 va vc O hX hx hn h1 hg hl hd hK hS hown hgrow hat => by
        have hC := HI.out.call hkl HKB.out hX h1 hg hl hK hS (DnC.goes hg _ HI.out.ok) (HI.out.lenLe h1)
        rw [List.append_assoc] at hx hown
        obtain ⟨kq, hd1, hd2⟩ := hd
        have hP := LpM.put (P' := fun N' ks => DnC N' names ks (s.take (i + 1))) hC hkl hx hn (by rw [List.take_succ_eq_append_getElem hlt]; exact hC.ok.snoc hd1 hd2) hown hgrow (by
          rcases hat with e | e
          · exact .inl e.symm
          · exact .inr (by rw [e]; simp [Value.ownBlock]))
        exact hideP (hP.wt (by omega)))
      have HC1 : Hid (∀ X w1 N2 y2 S2, Below wr.heap.size wr X → Mk w1 kb mb nb N2 ((bx ++ y) ++ y2) S2 → Goes N' N2 → N2.length ≤ N'.length + 2 * wtS s[i] → KpM [kb] X.heap.size X w1 → GrS X S' S2 → w1.heap[w.heap.size]? = some (boxO (.slice a i c) 175) ∧ w1.ownsRow (w.heap.size + 1) 226 1 (.slice a i c) i (ks.map (clV ((bx ++ y) ++ y2)))) := hideP (fun X w1 N2 y2 S2 hX h1 hg hl hK hS => by
        have hC := HI.out.call hkl HKB.out hX h1 hg hl hK hS (DnC.goes hg _ HI.out.ok) (HI.out.lenLe h1)
        have hr := hC.row
        rw [← List.append_assoc] at hr
        exact ⟨hC.box, hr⟩)
      obtain ⟨tt, xx, hvx⟩ : ∃ t x, vs[i]'hjv = .slice t s[i].length x := by
        obtain ⟨_, hr, _⟩ := htr
        exact own_form hr.1
      rw [hvx] at c0
      rw [hvx] at HPC
      have HBN : Hid (some w.heap.size ≠ (Value.slice a i c).ownBlock) := hideP (fun e => by have := (HI.out.row.lt _ e.symm).1; omega)
      have HML : Hid (i + 1 ≤ maxLen) := by show _ ≤ _; unfold maxLen; omega
      have hkr : kb ≠ wr.heap.size := by omega
      generalize s[i].length = cl at *
      clear htr hvx hst hsle hcs hbg hgk
      go_wp2_with fail
      have HN : Hid (∀ (w1 w5 : World) (O : Obj), (w1.alloc O).grownBy w5 (Value.slice a i c).ownBlock → w1.heap[w.heap.size]? = some (boxO (.slice a i c) 175) → w5.heap[w.heap.size]? = some (boxO (.slice a i c) 175)) := hideP (fun w1 w5 O hg hb => by
        have hl := heap_lt hb
        rw [hg.block _ (by simp; omega) HBN.out, heap_alloc_old _ _ hl]; exact hb)
      have HPV : Hid (∀ X, Below wr.heap.size wr X → Calls Tryz.prog 149 #[ptrV kb, .slice tt cl xx] X fun e w' => ∃ v, e = .returned v ∧ ∃ N2 y2 n x S2, v = cloV x ∧ x = ((bx ++ y) ++ y2).getD n (0, 0, 0) ∧ n < N2.length ∧ Mk w' kb mb nb N2 ((bx ++ y) ++ y2) S2 ∧ Goes N' N2 ∧ N2.length ≤ N'.length + 2 * wtS s[i] ∧ (∃ ks, N2[n]? = some (.seq ks) ∧ DnS N2 names ks s[i]) ∧ KpM [kb] X.heap.size X w' ∧ GrS X S' S2) := hideP (fun X hX => (HPC.out X hX).mono (by
        rintro e w' ⟨N2, y2, n, x, S2, rfl, h⟩
        exact ⟨_, rfl, N2, y2, n, x, S2, rfl, h⟩))
      go_region_law
        (first
          | (refine step_call (by rfl) 149 #[ptrV kb, .slice tt cl xx] (by go_simp) (HPV.out _ ((Below.refl wr.heap.size wr).drew)) ?_; rintro _ w1 ⟨N2, y2, n, x, S2, rfl, hx, hn, h1, hg, hl, hd, hK, hS⟩; have HX := hideP hx; have HC := hideP (HC1.out _ w1 N2 y2 S2 ((Below.refl wr.heap.size wr).drew) h1 hg hl hK hS); have s1 := cell_of_block HC.out.1 0; have hlt1 := heap_lt' HC.out.1; have HM1 := hideP h1; have HG := hideP hg; have HL := hideP hl; have HD := hideP hd; have HKK := hideP hK; have HSS := hideP hS; have HNN2 := hideP hn; clear hx h1 hg hl hd hK hS hn)
          | (refine step_append_lies _ (by rfl) _ _ _ (by rfl) (w.heap.size + 1) 226 i0 _ 1 8 Tryz.underlying175 hi0 hz0 hz1 hz2 (by rfl) (by decide) _ _ _ (by rfl) (HC.out.2.alloc _) ⟨w1.heap.size, 0, none⟩ 1 1 [cloV x] (by rfl) (by rfl) (World.news_of_block (heap_alloc_same w1 _)) (by intro u hu; simp at hu; subst hu; rfl) (by decide) HML.out (by omega) (by simp; omega) (w1.heap.size + 1) (by simp) ?_; intro g2 cap2 w6 hown1 hgrow hat hlt3; have t1 := grownC hgrow s1 HBN.out; have f1 := frozen_of_block (HN.out _ _ _ hgrow HC.out.1) 0; have hlt6 := heap_lt' (HN.out _ _ _ hgrow HC.out.1); have HF := HGO.out _ w1 N2 y2 n x S2 w6 g2 cap2 _ ((Below.refl wr.heap.size wr).drew) HX.out HNN2.out HM1.out HG.out HL.out HD.out HKK.out HSS.out hown1 hgrow hat; clear hown1 hgrow hat))
      all_goals go_wp2_with fail
      all_goals
        go_roundg (s.length - (i + 1))
        case measure => omega
        case rel => exact ⟨i + 1, _, _, _, _, _, _, rfl, by go_num, by omega, HF⟩
    · have hlt' : ¬ (i : Int) < s.length := by omega
      have hie : i = s.length := by omega
      have HCL := hideP (HI.out.choice hml hkl (by have := HI.out.cnt; have := HNN.out; have := sumS_le s i; have := HSE.out; omega) (by omega))
      have HEND : Hid (∀ (w' : World) (x : Nat × Nat × Nat) (S2 : Nat → Prop), Mk w' kb mb nb (N' ++ [Nd.choice ks]) (bx ++ (y ++ [x])) S2 → KpM [kb] w.heap.size w w' → GrS w S S2 → Mak kb mb nb N bx S (2 * wtC s) (fun N' n => DnP N' names n (.group s)) w (.returned (cloV x)) w') := hideP (fun w' x S2 h1 h2 h3 => by
        have hc := HI.out.cnt
        have hsl := sumS_le s i
        have hlen1 : i ≤ sumS (s.take i) := by have := swtC_len (s.take i); rw [List.length_take] at this; omega
        have hse := HSE.out
        have hok := HI.out.ok
        rw [hie, List.take_of_length_le (Nat.le_refl _)] at hok
        refine ⟨N' ++ [Nd.choice ks], y ++ [x], N'.length, x, S2, rfl, ?_, by simp, h1, HI.out.goes.trans (Goes.app _ _), by simp; omega, ?_, h2, h3⟩
        · rw [← List.append_assoc, List.getD_eq_getElem?_getD, List.getElem?_append_right (by rw [HI.out.mkr.len]; exact Nat.le_refl _), HI.out.mkr.len, Nat.sub_self]; rfl
        · simp only [DnP]
          exact ⟨ks, last_get _ _, DnC.goes (Goes.app _ _) _ hok⟩)
      clear b0
      go_wp2_with fail
      refine HCL.out.mono ?_
      rintro _ w6 ⟨x, S2, rfl, h1, h2, h3⟩
      have HZ := hideP (HEND.out w6 x S2 h1 h2 h3)
      clear h1 h2 h3
      go_wp2_with fail
      go_ret
      exact HZ.out
theorem make_all (k : Nat) : MakC k := by
  induction k using Nat.strongRecOn with
  | ind k ih => exact makeChoice_step k (sequence_step k (term_step k (item_step k (makePiece_step k ih))))
/-- What the maker makes of a choice. -/
theorem choiceOf_any (w : World) (kb mb nb : Nat) (N : List Nd) (bx : List (Nat × Nat × Nat)) (S : Nat → Prop) (names : List Bytes) (A : Nat → Prop) (c : List (List Term)) (u : Value) (h : Mk w kb mb nb N bx S) (hm : MapIs w nb names) (hc : RChoice w A c u) (hA : ∀ g, A g → g ≠ kb) (hok : okC c) (hN : N.length + 2 * wtC c ≤ 100000000) (hw : wtC c ≤ 500000) :
    Calls Tryz.prog 119 #[ptrV kb, u] w (Mak kb mb nb N bx S (2 * wtC c) (fun N' n => DnP N' names n (.group c)) w) :=
  make_all (depC c) w kb mb nb N bx S names A c u h hm hc hA (Nat.le_refl _) hok hN hw
end Go.Proofs.YtiganlkabilblaaGreatDoor
namespace Go.Proofs.YtiganlkabilblaaGreatDoor
open Go.RowKit Thk
attribute [local go_sem ↓] Go.wp_at_zero Go.wp_at_succ
def sumR : List Rule → Nat
  | [] => 0
  | r :: g => wtC r.choice + sumR g
theorem sumR_app : ∀ (a b : List Rule), sumR (a ++ b) = sumR a + sumR b
  | [], b => by simp [sumR]
  | r :: a, b => by have := sumR_app a b; simp only [List.cons_append, sumR]; omega
theorem sumR_take (g : List Rule) (i : Nat) (h : i < g.length) : sumR (g.take (i + 1)) = sumR (g.take i) + wtC g[i].choice := by
  rw [List.take_succ_eq_append_getElem h, sumR_app]; simp [sumR]
theorem sumR_le : ∀ (g : List Rule), (∀ r ∈ g, wtC r.choice ≤ 500000) → sumR g ≤ g.length * 500000
  | [], _ => by simp [sumR]
  | r :: g, h => by
    have h1 := sumR_le g (fun x hx => h x (List.mem_cons_of_mem _ hx))
    have h2 := h r (List.mem_cons_self ..)
    simp only [sumR, List.length_cons]; omega
theorem KpM.belowOf {rbs : List Nat} {B : Nat} {w w' : World} (h : KpM rbs w.heap.size w w') (hr : ∀ b ∈ rbs, B ≤ b) (hB : B ≤ w.heap.size) : Below B w w' := ⟨h.os, h.tape, h.output, h.size, fun k hk => h.block k (by omega) (fun hb => by have := hr k hb; omega)⟩
/-- A matcher is being made: some rules have been. -/
structure MkL (w : World) (kb mb nb rb : Nat) (g : List Rule) (names : List Bytes) (i : Nat) (wr : World) (N : List Nd) (bx : List (Nat × Nat × Nat)) (S : Nat → Prop) (rs : List Nat) : Prop where
  mkr : Mk wr kb mb nb N bx S
  cnt : N.length ≤ 2 * sumR (g.take i)
  len : rs.length = i
  dn : ∀ j (h : j < rs.length) (h2 : j < g.length), DnP N names rs[j] (.group g[j].choice)
  lt : ∀ k ∈ rs, k < N.length
  mat : wr.heap[mb]? = some (matO (.slice (some ⟨rb, 0, none⟩) g.length g.length) ⟨#[]⟩ (.map none) .nilIface)
  row : ∃ cur : Array Value, wr.heap[rb]? = some (.cells cur 226 (0, 0)) ∧ cur.size = g.length ∧ ∀ j (h : j < rs.length), cur[j]? = some (clV bx rs[j])
  nr : ¬ S rb
  nm : ¬ S mb
  bel : Below w.heap.size w wr
  gr : ∀ b, S b → w.heap.size ≤ b ∨ SpanB w b
theorem MkL.next {w wr X w1 : World} {kb mb nb rb : Nat} {g : List Rule} {names : List Bytes} {i : Nat} {N N2 : List Nd} {bx y : List (Nat × Nat × Nat)} {S S2 : Nat → Prop} {rs : List Nat} {n : Nat} {x : Nat × Nat × Nat} (h : MkL w kb mb nb rb g names i wr N bx S rs) (hi : i < g.length) (hkb : w.heap.size ≤ kb) (hmb : w.heap.size ≤ mb) (hrb : w.heap.size ≤ rb) (hne : rb ≠ mb) (hkr : kb ≠ rb) (hkm : kb ≠ mb)
    (hX : Below wr.heap.size wr X) (hx : x = (bx ++ y).getD n (0, 0, 0)) (hn : n < N2.length) (h1 : Mk w1 kb mb nb N2 (bx ++ y) S2) (hg : Goes N N2) (hl : N2.length ≤ N.length + 2 * wtC g[i].choice) (hd : DnP N2 names n (.group g[i].choice)) (hK : KpM [kb] X.heap.size X w1) (hS : GrS X S S2) :
    MkL w kb mb nb rb g names (i + 1) (w1.setCell ⟨rb, i, none⟩ (cloV x)) N2 (bx ++ y) S2 (rs ++ [n]) := by
  have hXs := hX.size
  have hKs := hK.size
  have hlen := h.len
  have hws := h.bel.size
  obtain ⟨cur, hcb, hcs, hcc⟩ := h.row
  have hrl := heap_lt hcb
  have hml := heap_lt h.mat
  have hkl := heap_lt h.mkr.blk
  have hr1 : w1.heap[rb]? = some (.cells cur 226 (0, 0)) := by rw [hK.block rb (by omega) (by simp; omega), hX.block rb hrl]; exact hcb
  have hm1 : w1.heap[mb]? = some (matO (.slice (some ⟨rb, 0, none⟩) g.length g.length) ⟨#[]⟩ (.map none) .nilIface) := by rw [hK.block mb (by omega) (by simp; omega), hX.block mb hml]; exact h.mat
  have hnl : N.length ≤ N2.length := by have e1 := h.mkr.len; have e2 := h1.len; rw [List.length_append] at e2; omega
  have hnr : ¬ S2 rb := by
    intro hs
    rcases hS _ hs with h' | h' | ⟨cu, h'⟩
    · exact h.nr h'
    · omega
    · rw [hX.block rb hrl, hcb] at h'; simp at h'
  have hnm : ¬ S2 mb := by
    intro hs
    rcases hS _ hs with h' | h' | ⟨cu, h'⟩
    · exact h.nm h'
    · omega
    · rw [hX.block mb hml, h.mat] at h'; simp at h'
  have hsz : (w1.setCell ⟨rb, i, none⟩ (cloV x)).heap.size = w1.heap.size := by simp [World.setCell]
  refine ⟨h1.same (by omega) (fun b hb => Below.heap_setCell _ _ _ _ (fun e => by subst e; exact hnr hb)) (Below.heap_setCell _ _ _ _ (by simpa using hkr)), ?_, by simp [hlen], ?_, ?_, ?_, ?_, hnr, hnm, ?_, ?_⟩
  · have := h.cnt; rw [sumR_take g i hi]; omega
  · intro j hj h2
    by_cases hji : j < rs.length
    · rw [List.getElem_append_left hji]
      exact DnP.goes hg _ (h.dn j hji h2)
    · have : j = i := by simp at hj; omega
      subst this
      rw [List.getElem_append_right (by omega)]
      simpa using hd
  · intro k hk
    rcases List.mem_append.1 hk with hk | hk
    · exact Nat.lt_of_lt_of_le (h.lt k hk) hnl
    · simp at hk; subst hk; exact hn
  · rw [Below.heap_setCell _ _ _ _ (by simpa using fun e : mb = rb => hne e.symm)]; exact hm1
  · refine ⟨cur.setIfInBounds i (cloV x), by rw [heap_setCell_at hr1], by simpa using hcs, ?_⟩
    intro j hj
    by_cases hji : j < rs.length
    · rw [List.getElem_append_left hji, Array.getElem?_setIfInBounds_ne (by omega), hcc j hji, clV_app (by rw [h.mkr.len]; exact h.lt _ (List.getElem_mem hji))]
    · have : j = i := by simp at hj; omega
      subst this
      rw [List.getElem_append_right (by omega), Array.getElem?_setIfInBounds_self_of_lt (by omega)]
      simp [clV, hx, hlen]
  · refine (h.bel.trans (hX.mono hws)).trans ((hK.belowOf (B := w.heap.size) (by simpa using hkb) (by omega)).trans ?_)
    exact (Below.refl _ _).setCell (p := ⟨rb, i, none⟩) hrb _
  · intro b hb
    rcases hS _ hb with h' | h' | ⟨cu, h'⟩
    · exact h.gr b h'
    · exact .inl (by omega)
    · rcases Nat.lt_or_ge b w.heap.size with hl | hl
      · exact .inr ⟨cu, by rw [← h.bel.block b hl, ← hX.block b (by omega)]; exact h'⟩
      · exact .inl hl
/-- What a grammar has been made into, and the blocks that it lies in. -/
structure Mted (w : World) (mb : Nat) (N : List Nd) (bx : List (Nat × Nat × Nat)) (rules : List Nat) (vr : Value) (S : Nat → Prop) : Prop where
  nm : ¬ S mb
  lt : ∀ b, S b → b < w.heap.size
  mlt : mb < w.heap.size
  mde : ∀ w' : World, w.heap.size ≤ w'.heap.size → (∀ b, S b → w'.heap[b]? = w.heap[b]?) → (∃ sv tv nv, w'.heap[mb]? = some (.cells #[vr, sv, tv, nv] 177 (0, 0))) → Mde w' mb N bx rules vr
theorem MkL.mat' {w wr : World} {kb mb nb rb : Nat} {g : List Rule} {names : List Bytes} {N : List Nd} {bx : List (Nat × Nat × Nat)} {S : Nat → Prop} {rs : List Nat} (h : MkL w kb mb nb rb g names g.length wr N bx S rs) (hne : rb ≠ mb) : Mted wr mb N bx rs (.slice (some ⟨rb, 0, none⟩) g.length g.length) (fun b => S b ∨ b = rb) := by
  obtain ⟨cur, hcb, hcs, hcc⟩ := h.row
  refine ⟨?_, ?_, heap_lt h.mat, ?_⟩
  · rintro (h' | h')
    · exact h.nm h'
    · exact hne h'.symm
  · rintro b (h' | rfl)
    · exact h.mkr.lt b h'
    · exact heap_lt hcb
  · intro w' hs hg hm
    have hc := h.mkr.clo w' hs (fun b hb => hg b (.inl hb))
    refine ⟨fun n d hn => ?_, ?_, hm⟩
    · obtain ⟨_, iv, e1, e2, e3, e4⟩ := hc n d hn
      exact ⟨iv, e1, e2, e3, e4⟩
    · refine ⟨rb, g.length, by rw [h.len], Nat.lt_of_lt_of_le (heap_lt hcb) hs, hne, fun j hj => ?_⟩
      simp only [World.cell?]
      rw [hg rb (.inr rfl), hcb]
      exact hcc j hj
end Go.Proofs.YtiganlkabilblaaGreatDoor
namespace Go.Proofs.YtiganlkabilblaaGreatDoor
open Thk
def SeqR (xs : List RE) (RT : Nat → Bytes → Prop) (q : Nat) (ss : List Bytes) : Prop := ∃ ks, xs[q]? = some ⟨5, [], [], 0, ks⟩ ∧ AllR RT ks ss
theorem AllR.sg {xs : List RE} {RT : Nat → Bytes → Prop} {qs : List Nat} {c : List (List Bytes)} (h : AllR (SeqR xs RT) qs c) : qs.length = c.length := h.len.symm
end Go.Proofs.YtiganlkabilblaaGreatDoor
namespace Go.Proofs.YtiganlkabilblaaGreatDoor
open Go.RowKit
def GOk (g : List Thk.Rule) : Prop := ∀ r ∈ g, Thk.wtC r.choice ≤ 500000 ∧ r.name.length ≤ 20
theorem PAll.gok {l : List UInt8} {g : List Thk.Rule} {E : List Bool} (h : PAll l (.ok (g, E))) : GOk g := by
  cases h with
  | ok h _ =>
    cases h with
    | read hl hg => exact Thk.gram_wt hg hl
end Go.Proofs.YtiganlkabilblaaGreatDoor
namespace Go.Proofs.YtiganlkabilblaaGreatDoor
open Go.RowKit Thk
attribute [local go_sem ↓] Go.wp_at_zero Go.wp_at_succ
theorem make_exprs (n : Nat) (hn : n ≤ 20) (w : World) : ∃ cur : Array Value, cur.size = n ∧ (Instr.makeSlice 175 (.int .i64 n) (.int .i64 n)).run Tryz.prog w = .ok (.slice (some ⟨w.heap.size, 0, none⟩) n n) (w.alloc (.cells cur 226)) := by
  obtain ⟨i0, hi, hz0, hz1, hz2⟩ := info_parts Tryz.infoExprF
  refine ⟨madeCells (Value.nilFunc).cells (((n : Nat) : Int).toNat * i0.size), ?_, ?_⟩
  · rw [size_madeCells, hz1]; simp
  · have h := run_make (P := Tryz.prog) w 175 226 i0 _ Tryz.underlying175 hi hz0 .i64 .i64 (n : Int) (n : Int) (by omega) (by omega) (by rw [hz2]; omega) (by omega)
    simpa using h
theorem farC {w : World} {a : Addr} {v u : Value} {b o : Nat} (h : w.cell? a = some v) (hne : a.block ≠ b) : (w.setCell ⟨b, o, none⟩ u).cell? a = some v := by
  rw [World.cell?_of_block (a := a) (Below.heap_setCell w ⟨b, o, none⟩ u a.block hne)]; exact h
/-- What Make hands back. -/
def MadePost (g : List Rule) (w : World) (e : Ending) (w' : World) : Prop := ∃ mb N bx rs vr S, e = .returned (ptrV mb) ∧ Mted w' mb N bx rs vr S ∧ w'.heap[mb]? = some (matO vr ⟨#[]⟩ (.map none) .nilIface) ∧ DnR N rs g ∧ Below w.heap.size w w' ∧ w.heap.size ≤ mb ∧ ∀ b, S b → w.heap.size ≤ b ∨ SpanB w b
theorem mkl_start {w : World} {nb : Nat} {g : List Rule} {names : List Bytes} {cur : Array Value} (hc : cur.size = g.length) : MkL w (w.heap.size + 1 + 1) (w.heap.size + 1) nb w.heap.size g names 0 (((w.alloc (.cells cur 226 (0, 0))).alloc (matO (.slice (some ⟨w.heap.size, 0, none⟩) g.length g.length) ⟨#[]⟩ (.map none) .nilIface)).alloc (makO (w.heap.size + 1) (.map (some nb)) 0)) [] [] (fun _ => False) [] := by
  refine ⟨⟨alloc3_2 w _ _ _, by simp, rfl, fun h => h, fun _ h => h.elim, fun _ _ _ n d hn => by simp at hn⟩, by simp, rfl, by simp, by simp, alloc3_1 w _ _ _, ⟨cur, alloc3_0 w _ _ _, hc, by simp⟩, fun h => h, fun h => h, below_alloc3 w _ _ _, fun _ h => h.elim⟩
set_option maxHeartbeats 16000000 in
set_option maxRecDepth 100000 in
theorem make_any (w : World) (A : Nat → Prop) (g : List Rule) (ga : Addr) (gc nb : Nat) (h : RGram w A g (.slice (some ga) g.length gc)) (hm : MapIs w nb (namesOf g)) (hgok : GOk g) (hok : ∀ r ∈ g, okC r.choice) (hl : g.length ≤ 20) :
    Calls Tryz.prog 82 #[.slice (some ga) g.length gc, .map (some nb)] w (MadePost g w) := by
  obtain ⟨cur, hcs, hmk⟩ := make_exprs g.length hl w
  have HG := hideP h
  have HM := hideP hm
  have HGOK := hideP hgok
  have HOK := hideP hok
  have HSR := hideP (sumR_le g (fun r hr => (hgok r hr).1))
  have H0 := hideP (mkl_start (w := w) (nb := nb) (g := g) (names := namesOf g) hcs)
  clear h hm hgok hok hcs
  go_enter Tryz.func82, Tryz.ntmps82
  go_wp2_with fail
  go_loopg [17] g.length (fun m vi wr => ∃ (i : Nat) (N : List Nd) (bx : List (Nat × Nat × Nat)) (rs : List Nat) (S : Nat → Prop), m = g.length - i ∧ vi = .int .i64 i ∧ i ≤ g.length ∧ Hid (MkL w (w.heap.size + 1 + 1) (w.heap.size + 1) nb w.heap.size g (namesOf g) i wr N bx S rs))
  case atStart => exact ⟨0, [], [], [], fun _ => False, by omega, rfl, by omega, H0⟩
  case round =>
    obtain ⟨i, N, bx, rs, S, rfl, rfl, hi, HI⟩ := hrel
    have hsr := HI.out.bel.size
    by_cases hlt : i < g.length
    · have hlt' : (i : Int) < g.length := by omega
      obtain ⟨gb, ca, cc, rfl, hgbl, _, c0, c1, hch, hnl⟩ := HG.out.at i hlt
      have hgi := HGOK.out g[i] (List.getElem_mem hlt)
      have hoi := HOK.out g[i] (List.getElem_mem hlt)
      have c0' : wr.cell? ⟨gb, i * 2, none⟩ = some (.string ⟨g[i].name.toArray⟩) := by rw [HI.out.bel.cell (p := ⟨gb, _, none⟩) hgbl]; exact c0
      have c1' : wr.cell? ⟨gb, i * 2 + 1, none⟩ = some (.slice ca g[i].choice.length cc) := by rw [HI.out.bel.cell (p := ⟨gb, _, none⟩) hgbl]; exact c1
      have k0 : wr.cell? ⟨w.heap.size + 1 + 1, 0, none⟩ = some (ptrV (w.heap.size + 1)) := cell_of_block HI.out.mkr.blk 0
      have m0 : wr.cell? ⟨w.heap.size + 1, 0, none⟩ = some (.slice (some ⟨w.heap.size, 0, none⟩) g.length g.length) := cell_of_block HI.out.mat 0
      have hkl := heap_lt' HI.out.mkr.blk
      have HCH := hideP hch
      have HPC : Hid (∀ X, Below wr.heap.size wr X → Calls Tryz.prog 119 #[ptrV (w.heap.size + 1 + 1), .slice ca g[i].choice.length cc] X (Mak (w.heap.size + 1 + 1) (w.heap.size + 1) nb N bx S (2 * wtC g[i].choice) (fun N' n => DnP N' (namesOf g) n (.group g[i].choice)) X)) := hideP (fun X hX => by
        have hb : Below w.heap.size w X := HI.out.bel.trans (hX.mono hsr)
        have hcn := HI.out.cnt
        have hst := sumR_take g i hlt
        have hsm : sumR (g.take (i + 1)) ≤ sumR g := by
          conv => rhs; rw [← List.take_append_drop (i + 1) g]
          rw [sumR_app]; omega
        have hsr := HSR.out
        exact choiceOf_any X _ _ nb N bx S (namesOf g) (fun b => b < w.heap.size) g[i].choice _ (HI.out.mkr.below hX) (HM.out.below hb) ((HCH.out.mono (fun b hl _ => hl)).kept (sm_below hb)) (fun b hb => by omega) hoi (by omega) hgi.1)
      have HGO : Hid (∀ X w1 N2 y n x S2, Below wr.heap.size wr X → x = (bx ++ y).getD n (0, 0, 0) → n < N2.length → Mk w1 (w.heap.size + 1 + 1) (w.heap.size + 1) nb N2 (bx ++ y) S2 → Goes N N2 → N2.length ≤ N.length + 2 * wtC g[i].choice → DnP N2 (namesOf g) n (.group g[i].choice) → KpM [w.heap.size + 1 + 1] X.heap.size X w1 → GrS X S S2 → Hid (MkL w (w.heap.size + 1 + 1) (w.heap.size + 1) nb w.heap.size g (namesOf g) (i + 1) (w1.setCell ⟨w.heap.size, i, none⟩ (cloV x)) N2 (bx ++ y) S2 (rs ++ [n]))) := hideP (fun X w1 N2 y n x S2 hX hx hn h1 hg hl hd hK hS => hideP (HI.out.next hlt (by omega) (by omega) (by omega) (by omega) (by omega) (by omega) hX hx hn h1 hg hl hd hK hS))
      have HKP : Hid (∀ X w1, Below wr.heap.size wr X → KpM [w.heap.size + 1 + 1] X.heap.size X w1 → (∃ cur : Array Value, w1.heap[w.heap.size]? = some (.cells cur 226 (0, 0)) ∧ cur.size = g.length) ∧ w1.heap[w.heap.size + 1]? = some (matO (.slice (some ⟨w.heap.size, 0, none⟩) g.length g.length) ⟨#[]⟩ (.map none) .nilIface)) := hideP (fun X w1 hX hK => by
        have hXs := hX.size
        obtain ⟨cu, h1, h2, _⟩ := HI.out.row
        have e1 := heap_lt h1
        have e2 := heap_lt HI.out.mat
        refine ⟨⟨cu, ?_, h2⟩, ?_⟩
        · rw [hK.block _ (by omega) (by simp; omega), hX.block _ e1]; exact h1
        · rw [hK.block _ (by omega) (by simp), hX.block _ e2]; exact HI.out.mat)
      generalize g[i].name = nm at *
      generalize g[i].choice = ch at *
      generalize hcl : ch.length = cl at *
      clear hch hgi hoi hnl c0 c1 hcl
      go_wp2_with fail
      have hn1 : w.heap.size + 1 + 1 ≠ w.heap.size := by omega
      have hn2 : w.heap.size + 1 ≠ w.heap.size := by omega
      have hn3 : wr.heap.size ≠ w.heap.size := by omega
      have hn4 : w.heap.size ≠ wr.heap.size := by omega
      have hig : i < g.length := hlt
      have hsf : ∀ (a : Addr) (fn : Fn) (x c : Array Value) (W : World), (store a (.func fn x c)).run Tryz.prog W = stored Tryz.prog W a (.func fn x c) .plain := fun a fn x c W => run_store Tryz.prog W a _ _ rfl
      have HW : Hid (∀ w1 : World, KpM [w.heap.size + 1 + 1] ((wr.alloc (.cells #[.string ⟨nm.toArray⟩, .slice ca cl cc] 142)).drew).heap.size ((wr.alloc (.cells #[.string ⟨nm.toArray⟩, .slice ca cl cc] 142)).drew) w1 → w1.heap[wr.heap.size]? = some (.cells #[.string ⟨nm.toArray⟩, .slice ca cl cc] 142)) := hideP (fun w1 hK => by
        rw [hK.block wr.heap.size (by show _ < (wr.alloc _).heap.size; simp) (by simp; omega)]
        exact heap_alloc_same _ _)
      go_region_held_law (fun w' => w'.cell? ⟨w.heap.size + 1 + 1, 0, none⟩ = some (ptrV (w.heap.size + 1)) ∧ w'.cell? ⟨w.heap.size + 1, 0, none⟩ = some (.slice (some ⟨w.heap.size, 0, none⟩) g.length g.length) ∧ w'.cell? ⟨wr.heap.size, 1, none⟩ = some (.slice ca cl cc)) (first | exact ⟨farC q0 hn1, farC q1 hn2, farC q2 hn3⟩ | go_keep)
        (first
          | (go_at_call 119; refine (HPC.out _ ((below_alloc wr _).drew)).mono ?_; rintro _ w1 ⟨N2, y2, n, x, S2, rfl, hx, hn, h1, hg, hl2, hd, hK, hS⟩; obtain ⟨⟨cu, hcu, hcuz⟩, hma⟩ := HKP.out _ w1 ((below_alloc wr _).drew) hK; have q0 : w1.cell? ⟨w.heap.size + 1 + 1, 0, none⟩ = some (ptrV (w.heap.size + 1)) := cell_of_block h1.blk 0; have q1 : w1.cell? ⟨w.heap.size + 1, 0, none⟩ = some (.slice (some ⟨w.heap.size, 0, none⟩) g.length g.length) := cell_of_block hma 0; have q2 : w1.cell? ⟨wr.heap.size, 1, none⟩ = some (.slice ca cl cc) := cell_of_block (HW.out w1 hK) 1; have f1 := frozen_of_block hcu i; obtain ⟨ov, q3⟩ : ∃ v, w1.cell? ⟨w.heap.size, i, none⟩ = some v := ⟨cu[i]'(by omega), (by rw [cell_of_block hcu i]; exact Array.getElem?_eq_getElem _)⟩; have hl3 := heap_lt' hcu; have hl4 := heap_lt' h1.blk; have hl5 := heap_lt' hma; have HF := HGO.out _ w1 N2 y2 n x S2 ((below_alloc wr _).drew) hx hn h1 hg hl2 hd hK hS; clear hx h1 hg hl2 hd hK hS hn hcu hma hcuz))
      all_goals go_wp2_with fail
      all_goals
        go_roundg (g.length - (i + 1))
        case measure => omega
        case rel => exact ⟨i + 1, _, _, _, _, rfl, by go_num, by omega, HF⟩
    · have hlt' : ¬ (i : Int) < g.length := by omega
      have hie : i = g.length := by omega
      subst hie
      have k0 : wr.cell? ⟨w.heap.size + 1 + 1, 0, none⟩ = some (ptrV (w.heap.size + 1)) := cell_of_block HI.out.mkr.blk 0
      have hkl := heap_lt' HI.out.mkr.blk
      have HZ : Hid (MadePost g w (.returned (ptrV (w.heap.size + 1))) wr) := hideP ⟨w.heap.size + 1, N, bx, rs, _, _, rfl, HI.out.mat' (by omega), HI.out.mat, ⟨HI.out.len, fun i h1 h2 => HI.out.dn i h2 h1⟩, HI.out.bel, by omega, fun b hb => by
        rcases hb with hb | rfl
        · exact HI.out.gr b hb
        · exact .inl (Nat.le_refl _)⟩
      go_wp2_with fail
      go_ret
      exact HZ.out
end Go.Proofs.YtiganlkabilblaaGreatDoor
namespace Go.Proofs.YtiganlkabilblaaGreatDoor
open Go.RowKit
attribute [local go_sem ↓] Go.wp_at_zero Go.wp_at_succ
theorem below_grown {W wr w1 w6 : World} {O : Obj} {v : Value} {e : TypeId} {sz n : Nat} {xs : List Value} (hB : Below W.heap.size W wr) (hown : w1.ownsRow W.heap.size e sz v n xs) (h1 : Below wr.heap.size wr w1) (hg : (w1.alloc O).grownBy w6 v.ownBlock) : Below W.heap.size W w6 := by
  have hs := hB.size
  have hs1 := h1.size
  have hs2 := hg.size
  simp at hs2
  refine ⟨hg.os.trans (h1.os.trans hB.os), hg.tape.trans (h1.tape.trans hB.tape), hg.output.trans (h1.output.trans hB.output), by omega, fun k hk => ?_⟩
  rw [hg.block k (by simp; omega) (fun e => by have := (hown.lt k e.symm).1; omega), heap_alloc_old _ _ (by omega), h1.block k (by omega)]
  exact hB.block k hk
end Go.Proofs.YtiganlkabilblaaGreatDoor
namespace Go.Proofs.YtiganlkabilblaaGreatDoor
open Go.RowKit
attribute [local go_sem ↓] Go.wp_at_zero Go.wp_at_succ
theorem kinds8 (k : Nat) : (k = 1 ∨ k = 2 ∨ k = 3) ∨ k = 4 ∨ k = 5 ∨ k = 6 ∨ k = 9 ∨ (k ≠ 1 ∧ k ≠ 2 ∧ k ≠ 3 ∧ k ≠ 4 ∧ k ≠ 5 ∧ k ≠ 6 ∧ k ≠ 9) := by omega
abbrev exO (k : Nat) (iv : Value) (t : Thk.Bytes) (r : Int) (pv : Value) : Obj := .cells #[.int .i64 k, iv, .string ⟨t.toArray⟩, .int .i64 r, pv] 149
set_option maxHeartbeats 16000000 in
set_option maxRecDepth 100000 in
theorem rempty_any (w : World) (B gb lb : Nat) (vx vr : Value) (ps : List (Thk.RE × Value × Value)) (rs : List (Thk.Bytes × Nat)) (l : List Bool) (i : Nat) (h : GM w B gb vx vr (ps.map (ruled (nmOf rs))) rs) (hF : Fits ps rs) (hL : w.heap[lb]? = some (boolsO l)) (hll : l.length = ps.length) (hi : i < ps.length) (hr0 : 0 < rs.length) :
    Calls Tryz.prog 103 #[.pointer (some ⟨gb, 0, none⟩), .int .i64 i, .slice (some ⟨lb, 0, none⟩) ps.length ps.length] w fun e w' => e = .returned (.bool (emptyX (xsOf ps) (nmOf rs) (bdOf rs) l i)) ∧ Below w.heap.size w w' := by
  obtain ⟨p, xg, xc, ia, ic, pa, pc, hp, hpm, rfl, hxl, c0, c1, c2, c3, c4, hpl, hpn, hpc⟩ := h.exp hi
  obtain ⟨rg, rc, rfl, hrB, hrl⟩ := h.ruAt hr0
  have hlb := heap_lt' hL
  have hgl := h.lt
  have q := cell_of_block h.blk
  have hru := h.ruCells
  have hx : (xsOf ps)[i]? = some p.1 := by rw [List.getElem?_map, hp]; rfl
  have hfit := hF.ex p hpm
  have hil : (i : Int) < ps.length := by omega
  have HX := hideP hx
  have HFIT := hideP hfit
  have HF := hideP hF
  have HL := hideP hL
  clear hpm hx hfit hF hL h hp
  have hB0 := hideP (below_alloc w (exO p.1.kind (.slice ia p.1.items.length ic) p.1.text (rfE (nmOf rs) p.1 0) (.slice pa p.1.parts.length pc)))
  rcases kinds8 p.1.kind with hk | hk | hk | hk | hk | hk
  · have hX : emptyX (xsOf ps) (nmOf rs) (bdOf rs) l i = false := by simp only [emptyX, HX.out]; rw [if_pos hk]
    rw [hX]
    rcases hk with hk | hk | hk
    all_goals
      rw [hk] at c0
      go_enter Tryz.func103, Tryz.ntmps103
      go_wp2_with fail
      go_ret
      exact ⟨rfl, by rw [hk] at hB0; exact hB0.out⟩
  · rw [hk] at c0 hB0
    have hrf := rfE_name (names := nmOf rs) hk
    by_cases hn : (nmOf rs).contains p.1.text = true
    · rw [if_pos hn] at hrf
      have hix : (nmOf rs).idxOf p.1.text < rs.length := by
        have := List.idxOf_lt_length_iff.2 (show p.1.text ∈ nmOf rs by simpa using hn)
        simpa using this
      obtain ⟨x, hx⟩ : ∃ x, x = (nmOf rs).idxOf p.1.text := ⟨_, rfl⟩
      rw [← hx] at hrf hix
      obtain ⟨d0, d1⟩ := hru x hix
      have hbl := HF.out.ru rs[x] (List.getElem_mem hix)
      have hlc := bools_cell HL.out rs[x].2 (by omega)
      have hX : emptyX (xsOf ps) (nmOf rs) (bdOf rs) l i = l.getD rs[x].2 false := by
        simp only [emptyX, HX.out, hk, hn, ← hx]
        simp [hix]
      rw [hX]
      rw [hrf] at c3 hB0
      have hx0 : (0 : Int) ≤ x := by omega
      have hxr : (x : Int) < rs.length := by omega
      have hbl' : (rs[x].2 : Int) < ps.length := by omega
      obtain ⟨b, hb⟩ : ∃ b, b = l.getD rs[x].2 false := ⟨_, rfl⟩
      rw [← hb] at hlc ⊢
      clear hX hx hn hrf hru d0 hb
      go_enter Tryz.func103, Tryz.ntmps103
      go_wp2_with fail
      go_quiet (fail)
      go_wp2_with fail
      go_ret
      exact ⟨rfl, below_drewN hB0.out _⟩
    · have hX : emptyX (xsOf ps) (nmOf rs) (bdOf rs) l i = false := by
        simp only [emptyX, HX.out, hk]
        simp at hn
        simp [hn]
      rw [if_neg hn] at hrf
      rw [hX]
      rw [hrf] at c3 hB0
      clear hX hn hrf hru
      go_enter Tryz.func103, Tryz.ntmps103
      go_wp2_with fail
      go_quiet (fail)
      go_wp2_with fail
      go_ret
      exact ⟨rfl, below_drewN hB0.out _⟩
  · rw [hk] at c0 hB0
    have hX : emptyX (xsOf ps) (nmOf rs) (bdOf rs) l i = p.1.parts.all (fun k => l.getD k false) := by
      simp only [emptyX, HX.out, hk]; simp
    have HXX := hideP hX
    clear hX hru
    go_enter Tryz.func103, Tryz.ntmps103
    go_wp2_with fail
    go_loopg [8] p.1.parts.length (fun m v wr => ∃ k : Nat, m = p.1.parts.length - k ∧ v = .int .i64 k ∧ k ≤ p.1.parts.length ∧ wr = w.alloc (exO 5 (.slice ia p.1.items.length ic) p.1.text (rfE (nmOf rs) p.1 0) (.slice pa p.1.parts.length pc)) ∧ Hid (∀ j (h : j < p.1.parts.length), j < k → l.getD p.1.parts[j] false = true))
    case atStart => exact ⟨0, by omega, rfl, by omega, rfl, fun j h h' => by omega⟩
    case round =>
      obtain ⟨k, rfl, rfl, hkl, rfl, HA⟩ := hrel
      by_cases hlt : k < p.1.parts.length
      · have hlt' : (k : Int) < p.1.parts.length := by omega
        obtain ⟨pg, rfl, hpg, hpcell⟩ := hpc k hlt
        have hfl := HFIT.out.1 p.1.parts[k] (List.getElem_mem hlt)
        have hfl' : (p.1.parts[k] : Int) < ps.length := by omega
        have hlc := bools_cell HL.out p.1.parts[k] (by omega)
        by_cases hb : l.getD p.1.parts[k] false = true
        · rw [hb] at hlc
          have HA2 : Hid (∀ j (h : j < p.1.parts.length), j < k + 1 → l.getD p.1.parts[j] false = true) := by
            intro j h hj
            by_cases hjk : j = k
            · subst hjk; exact hb
            · exact HA.out j h (by omega)
          go_wp2_with fail
          go_roundg (p.1.parts.length - (k + 1))
          case measure => omega
          case rel => exact ⟨k + 1, rfl, by go_num, by omega, rfl, HA2⟩
        · have hb' : l.getD p.1.parts[k] false = false := by simpa using hb
          rw [hb'] at hlc
          have hX : emptyX (xsOf ps) (nmOf rs) (bdOf rs) l i = false := by
            rw [HXX.out, List.all_eq_false]
            exact ⟨_, List.getElem_mem hlt, by rw [hb']; simp⟩
          go_wp2_with fail
          go_ret
          first | exact ⟨rfl, hB0.out⟩ | exact ⟨congrArg (fun b => Ending.returned (Value.bool b)) hX.symm, hB0.out⟩
      · have hlt' : ¬ (k : Int) < p.1.parts.length := by omega
        have hX : emptyX (xsOf ps) (nmOf rs) (bdOf rs) l i = true := by
          rw [HXX.out, List.all_eq_true]
          intro x hx
          obtain ⟨j, hj, rfl⟩ := List.getElem_of_mem hx
          exact HA.out j hj (by omega)
        go_wp2_with fail
        go_ret
        first | exact ⟨rfl, hB0.out⟩ | exact ⟨congrArg (fun b => Ending.returned (Value.bool b)) hX.symm, hB0.out⟩
  · rw [hk] at c0 hB0
    have hX : emptyX (xsOf ps) (nmOf rs) (bdOf rs) l i = p.1.parts.any (fun k => l.getD k false) := by
      simp only [emptyX, HX.out, hk]; simp
    have HXX := hideP hX
    clear hX hru
    go_enter Tryz.func103, Tryz.ntmps103
    go_wp2_with fail
    go_loopg [9] p.1.parts.length (fun m v wr => ∃ k : Nat, m = p.1.parts.length - k ∧ v = .int .i64 k ∧ k ≤ p.1.parts.length ∧ wr = w.alloc (exO 6 (.slice ia p.1.items.length ic) p.1.text (rfE (nmOf rs) p.1 0) (.slice pa p.1.parts.length pc)) ∧ Hid (∀ j (h : j < p.1.parts.length), j < k → l.getD p.1.parts[j] false = false))
    case atStart => exact ⟨0, by omega, rfl, by omega, rfl, fun j h h' => by omega⟩
    case round =>
      obtain ⟨k, rfl, rfl, hkl, rfl, HA⟩ := hrel
      by_cases hlt : k < p.1.parts.length
      · have hlt' : (k : Int) < p.1.parts.length := by omega
        obtain ⟨pg, rfl, hpg, hpcell⟩ := hpc k hlt
        have hfl := HFIT.out.1 p.1.parts[k] (List.getElem_mem hlt)
        have hfl' : (p.1.parts[k] : Int) < ps.length := by omega
        have hlc := bools_cell HL.out p.1.parts[k] (by omega)
        by_cases hb : l.getD p.1.parts[k] false = true
        · rw [hb] at hlc
          have hX : emptyX (xsOf ps) (nmOf rs) (bdOf rs) l i = true := by
            rw [HXX.out, List.any_eq_true]
            exact ⟨_, List.getElem_mem hlt, hb⟩
          go_wp2_with fail
          go_ret
          first | exact ⟨rfl, hB0.out⟩ | exact ⟨congrArg (fun b => Ending.returned (Value.bool b)) hX.symm, hB0.out⟩
        · have hb' : l.getD p.1.parts[k] false = false := by simpa using hb
          rw [hb'] at hlc
          have HA2 : Hid (∀ j (h : j < p.1.parts.length), j < k + 1 → l.getD p.1.parts[j] false = false) := by
            intro j h hj
            by_cases hjk : j = k
            · subst hjk; exact hb'
            · exact HA.out j h (by omega)
          go_wp2_with fail
          go_roundg (p.1.parts.length - (k + 1))
          case measure => omega
          case rel => exact ⟨k + 1, rfl, by go_num, by omega, rfl, HA2⟩
      · have hlt' : ¬ (k : Int) < p.1.parts.length := by omega
        have hX : emptyX (xsOf ps) (nmOf rs) (bdOf rs) l i = false := by
          rw [HXX.out, List.any_eq_false]
          intro x hx
          obtain ⟨j, hj, rfl⟩ := List.getElem_of_mem hx
          rw [HA.out j hj (by omega)]; simp
        go_wp2_with fail
        go_ret
        first | exact ⟨rfl, hB0.out⟩ | exact ⟨congrArg (fun b => Ending.returned (Value.bool b)) hX.symm, hB0.out⟩
  · obtain ⟨a, ha⟩ := HFIT.out.2.1 (by omega)
    have hal := HFIT.out.1 a (by rw [ha]; simp)
    have hX : emptyX (xsOf ps) (nmOf rs) (bdOf rs) l i = l.getD a false := by
      simp only [emptyX, HX.out, hk, ha]; simp
    obtain ⟨pg, rfl, hpg, hpcell⟩ := hpc 0 (by rw [ha]; simp)
    simp only [ha, List.getElem_cons_zero] at hpcell
    have hlc := bools_cell HL.out a (by omega)
    rw [hX]
    obtain ⟨b, hb⟩ : ∃ b, b = l.getD a false := ⟨_, rfl⟩
    rw [← hb] at hlc ⊢
    rw [hk] at c0 hB0
    simp only [ha, List.length_singleton] at c4 hB0
    have hal' : (a : Int) < ps.length := by omega
    clear hX hru hb hpc
    go_enter Tryz.func103, Tryz.ntmps103
    go_wp2_with fail
    go_ret
    exact ⟨rfl, hB0.out⟩
  · have hX : emptyX (xsOf ps) (nmOf rs) (bdOf rs) l i = true := by
      simp only [emptyX, HX.out]
      simp [hk]
    rw [hX]
    have g1 : ¬ (p.1.kind : Int) = 1 := by omega
    have g2 : ¬ (p.1.kind : Int) = 2 := by omega
    have g3 : ¬ (p.1.kind : Int) = 3 := by omega
    have g4 : ¬ (p.1.kind : Int) = 4 := by omega
    have g5 : ¬ (p.1.kind : Int) = 5 := by omega
    have g6 : ¬ (p.1.kind : Int) = 6 := by omega
    have g9 : ¬ (p.1.kind : Int) = 9 := by omega
    go_enter Tryz.func103, Tryz.ntmps103
    go_wp2_with fail
    go_ret
    exact ⟨rfl, hB0.out⟩
end Go.Proofs.YtiganlkabilblaaGreatDoor
namespace Go.Proofs.YtiganlkabilblaaGreatDoor
open Go.RowKit
attribute [local go_sem ↓] Go.wp_at_zero Go.wp_at_succ
theorem make_boolsN (n : Nat) (hn : n ≤ 100000) (w : World) : (Instr.makeSlice 74 (.int .i64 n) (.int .i64 n)).run Tryz.prog w = .ok (.slice (some ⟨w.heap.size, 0, none⟩) n n) (w.alloc (boolsO (List.replicate n false))) := by
  rw [run_make_row' 74 4 (.bool false) 1 Tryz.underlying74 Tryz.infoBool rfl .i64 .i64 n (by omega) (by omega) w]
  congr 3
  apply Array.toList_inj.1
  rw [toList_madeCells_one]; simp
theorem bools_set {w : World} {lb : Nat} {l : List Bool} (h : w.heap[lb]? = some (boolsO l)) (j : Nat) : (w.setCell ⟨lb, j, none⟩ (.bool true)).heap[lb]? = some (boolsO (l.set j true)) := by
  unfold boolsO at h ⊢
  rw [setCell_block h, List.map_set]
  congr 2
  apply Array.toList_inj.1
  simp
structure EmRel (w : World) (B gb lb : Nat) (vx vr : Value) (ps : List (Thk.RE × Value × Value)) (rs : List (Thk.Bytes × Nat)) (g : List Thk.Rule) (l : List Bool) (wr : World) : Prop where
  mem : GM wr B gb vx vr (ps.map (ruled (nmOf rs))) rs
  row : wr.heap[lb]? = some (boolsO l)
  len : l.length = ps.length
  fnd : FndL (xsOf ps) (nmOf rs) g l
  below : Below w.heap.size w wr
theorem EmRel.go {w : World} {B gb lb : Nat} {vx vr : Value} {ps : List (Thk.RE × Value × Value)} {rs : List (Thk.Bytes × Nat)} {g : List Thk.Rule} {l : List Bool} {wr w2 : World} (h : EmRel w B gb lb vx vr ps rs g l wr) (hb : Below wr.heap.size wr w2) : EmRel w B gb lb vx vr ps rs g l w2 :=
  ⟨h.mem.below hb, by rw [hb.block _ (heap_lt' h.row)]; exact h.row, h.len, h.fnd, h.below.trans (hb.mono h.below.size)⟩
theorem EmRel.set {w : World} {B gb lb : Nat} {vx vr : Value} {ps : List (Thk.RE × Value × Value)} {rs : List (Thk.Bytes × Nat)} {g : List Thk.Rule} {l : List Bool} {wr : World} (h : EmRel w B gb lb vx vr ps rs g l wr) (hlb : w.heap.size ≤ lb) (hR : Thk.DenR (xsOf ps) rs g) (i : Nat) (he : emptyX (xsOf ps) (nmOf rs) (bdOf rs) l i = true) : EmRel w B gb lb vx vr ps rs g (l.set i true) (wr.setCell ⟨lb, i, none⟩ (.bool true)) := by
  have hlt := heap_lt' h.row
  have c := Chg.set lb i (.bool true) wr
  have hrow := h.row
  unfold boolsO at hrow
  refine ⟨?_, bools_set h.row i, by simp [h.len], h.fnd.step hR he, h.below.setCell hlb _⟩
  have hng : gb ≠ lb := by intro e; subst e; rw [h.mem.blk] at hrow; simp at hrow
  exact ⟨by rw [c.same gb h.mem.lt hng]; exact h.mem.blk, own_keep c h.mem.ex (own_ty h.mem.ex hrow (by decide)), own_keep c h.mem.ru (own_ty h.mem.ru hrow (by decide)), fun p hp => own_keep c (h.mem.items p hp) (own_ty (h.mem.items p hp) hrow (by decide)), fun p hp => own_keep c (h.mem.parts p hp) (own_ty (h.mem.parts p hp) hrow (by decide))⟩
/-- What a round of empties has found so far. -/
structure EmIn (xs : List Thk.RE) (names : List Thk.Bytes) (bodies : List Nat) (l0 l : List Bool) (c : Bool) (i : Nat) : Prop where
  no : c = false → l = l0 ∧ ∀ j, j < i → emptyX xs names bodies l0 j = true → l0.getD j false = true
  yes : c = true → unseen l < unseen l0
  le : unseen l ≤ unseen l0
set_option maxHeartbeats 16000000 in
set_option maxRecDepth 100000 in
theorem rempties_any (w : World) (B gb : Nat) (vx vr : Value) (ps : List (Thk.RE × Value × Value)) (rs : List (Thk.Bytes × Nat)) (g : List Thk.Rule) (h : GM w B gb vx vr (ps.map (ruled (nmOf rs))) rs) (hF : Fits ps rs) (h0 : 0 < ps.length) (hr0 : 0 < rs.length) (hpl : ps.length ≤ 100000) (hR : Thk.DenR (xsOf ps) rs g) :
    Calls Tryz.prog 66 #[.pointer (some ⟨gb, 0, none⟩)] w fun e w' => e = .returned (.slice (some ⟨w.heap.size, 0, none⟩) ps.length ps.length) ∧ ∃ l, EmRel w B gb w.heap.size vx vr ps rs g l w' ∧ CloL (xsOf ps) (nmOf rs) (bdOf rs) l := by
  obtain ⟨p0, xg, xc, ia, ic, pa, pc, hp, hpm, rfl, hxl, _⟩ := h.exp h0
  have q := cell_of_block h.blk
  have hgl := h.lt
  have hmk := make_boolsN ps.length hpl w
  have HS : Hid (EmRel w B gb w.heap.size (.slice (some ⟨xg, 0, none⟩) ps.length xc) vr ps rs g (List.replicate ps.length false) (w.alloc (boolsO (List.replicate ps.length false)))) :=
    ⟨h.below (below_alloc _ _), heap_alloc_same _ _, by simp, FndL.none _, below_alloc _ _⟩
  have HF := hideP hF
  have HR := hideP hR
  clear hF h hR hp hpm
  go_enter Tryz.func66, Tryz.ntmps66
  go_wp2_with fail
  go_loopg [4] (ps.length + 1) (fun m v wr => ∃ (c : Bool) (l : List Bool), m = unseen l + (if c then 1 else 0) ∧ v = .bool c ∧ Hid (EmRel w B gb w.heap.size (.slice (some ⟨xg, 0, none⟩) ps.length xc) vr ps rs g l wr ∧ (c = false → CloL (xsOf ps) (nmOf rs) (bdOf rs) l)))
  case atStart => exact ⟨true, List.replicate ps.length false, by simp [unseen], rfl, HS.out, by simp⟩
  case round =>
    obtain ⟨c, l0, rfl, rfl, HI⟩ := hrel
    cases c with
    | false =>
      go_wp2_with fail
      go_ret
      exact ⟨rfl, l0, HI.out.1, HI.out.2 (by simp)⟩
    | true =>
      have HSI : Hid (EmIn (xsOf ps) (nmOf rs) (bdOf rs) l0 l0 false 0) := ⟨fun _ => ⟨rfl, fun j hj => by omega⟩, by simp, Nat.le_refl _⟩
      have HI1 := hideP HI.out.1
      have q1 := cell_of_block HI1.out.mem.blk
      clear HI q
      go_wp2_with fail
      go_loopg [4, 5] ps.length (fun m vc vi wr => ∃ (i : Nat) (c : Bool) (l : List Bool), m = ps.length - i ∧ vc = .bool c ∧ vi = .int .i64 i ∧ i ≤ ps.length ∧ Hid (EmRel w B gb w.heap.size (.slice (some ⟨xg, 0, none⟩) ps.length xc) vr ps rs g l wr ∧ EmIn (xsOf ps) (nmOf rs) (bdOf rs) l0 l c i))
      case atStart => exact ⟨0, false, l0, by omega, rfl, rfl, by omega, HI1.out, HSI.out⟩
      case round =>
        obtain ⟨i, c, l, rfl, rfl, rfl, hi, HJ⟩ := hrel
        have q2 := cell_of_block HJ.out.1.mem.blk
        by_cases hlt : i < ps.length
        · have hlt' : (i : Int) < ps.length := by omega
          have hem := rempty_any wr B gb w.heap.size _ vr ps rs l i HJ.out.1.mem HF.out HJ.out.1.row HJ.out.1.len hlt hr0
          go_wp2_with fail
          refine hem.mono ?_
          rintro _ w2 ⟨rfl, hb2⟩
          have HE := hideP (HJ.out.1.go hb2)
          have hlc := bools_cell HE.out.row i (by rw [HE.out.len]; exact hlt)
          have hfr := frozen_of_block HE.out.row i
          have hsz := heap_lt' HE.out.row
          clear hem hb2 q2 q1
          cases hy : emptyX (xsOf ps) (nmOf rs) (bdOf rs) l i with
          | false =>
            have HN : Hid (EmIn (xsOf ps) (nmOf rs) (bdOf rs) l0 l c (i + 1)) := by
              refine ⟨fun hc => ?_, HJ.out.2.yes, HJ.out.2.le⟩
              obtain ⟨h1, h2⟩ := HJ.out.2.no hc
              refine ⟨h1, fun j hj he => ?_⟩
              by_cases hji : j = i
              · subst hji; rw [← h1, hy] at he; cases he
              · exact h2 j (by omega) he
            go_wp2_with fail
            go_roundg (ps.length - (i + 1))
            case measure => omega
            case rel => exact ⟨i + 1, c, l, rfl, rfl, by go_num, by omega, HE.out, HN.out⟩
          | true =>
            cases hl : l.getD i false with
            | true =>
              rw [hl] at hlc
              have HN : Hid (EmIn (xsOf ps) (nmOf rs) (bdOf rs) l0 l c (i + 1)) := by
                refine ⟨fun hc => ?_, HJ.out.2.yes, HJ.out.2.le⟩
                obtain ⟨h1, h2⟩ := HJ.out.2.no hc
                refine ⟨h1, fun j hj he => ?_⟩
                by_cases hji : j = i
                · subst hji; rw [← h1]; exact hl
                · exact h2 j (by omega) he
              go_wp2_with fail
              go_roundg (ps.length - (i + 1))
              case measure => omega
              case rel => exact ⟨i + 1, c, l, rfl, rfl, by go_num, by omega, HE.out, HN.out⟩
            | false =>
              rw [hl] at hlc
              have HN : Hid (EmIn (xsOf ps) (nmOf rs) (bdOf rs) l0 (l.set i true) true (i + 1)) := by
                have hu := unseen_set l i (by rw [HE.out.len]; exact hlt) hl
                have := HJ.out.2.le
                exact ⟨by simp, fun _ => by omega, by omega⟩
              have HT := hideP (HE.out.set (Nat.le_refl _) HR.out i hy)
              go_wp2_with fail
              go_roundg (ps.length - (i + 1))
              case measure => omega
              case rel => exact ⟨i + 1, true, _, rfl, rfl, by go_num, by omega, HT.out, HN.out⟩
        · have hlt' : ¬ (i : Int) < ps.length := by omega
          have hie : i = ps.length := by omega
          clear q1
          go_wp2_with fail
          go_roundg (unseen l + (if c then 1 else 0))
          case measure =>
            have h1 := HJ.out.2.le
            cases c with
            | false => simp; omega
            | true => have := HJ.out.2.yes rfl; simp; omega
          case rel =>
            refine ⟨c, l, rfl, rfl, HJ.out.1, ?_⟩
            intro hc k hk
            obtain ⟨h1, h2⟩ := HJ.out.2.no hc
            subst h1
            by_cases hkl : k < ps.length
            · exact h2 k (by omega) hk
            · simp only [emptyX] at hk
              rw [List.getElem?_eq_none (by simp; omega)] at hk
              cases hk
end Go.Proofs.YtiganlkabilblaaGreatDoor
namespace Go.Proofs.YtiganlkabilblaaGreatDoor
open Go.RowKit
attribute [local go_sem ↓] Go.wp_at_zero Go.wp_at_succ
/-- within at an expression tells b. -/
def RetW (B gb lb : Nat) (vx vr : Value) (ps : List (Thk.RE × Value × Value)) (rs : List (Thk.Bytes × Nat)) (l : List Bool) (u : Bool) (k : Nat) (b : Bool) : Prop :=
  ∀ w, GM w B gb vx vr (ps.map (ruled (nmOf rs))) rs → w.heap[lb]? = some (boolsO l) →
    Calls Tryz.prog 67 #[.pointer (some ⟨gb, 0, none⟩), .int .i64 k, .slice (some ⟨lb, 0, none⟩) ps.length ps.length, .bool u] w fun e w' => e = .returned (.bool b) ∧ Below w.heap.size w w'
/-- What the loop of within keeps. -/
structure WiRel (w : World) (B gb lb : Nat) (vx vr : Value) (ps : List (Thk.RE × Value × Value)) (rs : List (Thk.Bytes × Nat)) (l bs : List Bool) (O : Obj) (k : Nat) (wr : World) : Prop where
  mem : GM wr B gb vx vr (ps.map (ruled (nmOf rs))) rs
  row : wr.heap[lb]? = some (boolsO l)
  own : wr.heap[w.heap.size]? = some O
  below : Below w.heap.size w wr
  kept : ∀ b, b < w.heap.size → wr.heap[b]? = w.heap[b]?
  no : ∀ j (h : j < bs.length), j < k → bs[j] = false
theorem WiRel.go {w : World} {B gb lb : Nat} {vx vr : Value} {ps : List (Thk.RE × Value × Value)} {rs : List (Thk.Bytes × Nat)} {l bs : List Bool} {O : Obj} {k : Nat} {wr w2 : World} (h : WiRel w B gb lb vx vr ps rs l bs O k wr) (hb : Below wr.heap.size wr w2) (hk : ∀ (h : k < bs.length), bs[k] = false) : WiRel w B gb lb vx vr ps rs l bs O (k + 1) w2 := by
  have hs := h.below.size
  refine ⟨h.mem.below hb, by rw [hb.block _ (heap_lt' h.row)]; exact h.row, by rw [hb.block _ (heap_lt' h.own)]; exact h.own, h.below.trans (hb.mono hs), fun b hlt => by rw [hb.block b (by omega)]; exact h.kept b hlt, ?_⟩
  intro j hj hjk
  by_cases hje : j = k
  · subst hje; exact hk hj
  · exact h.no j hj (by omega)
theorem any_false {bs : List Bool} (h : ∀ j (hj : j < bs.length), bs[j] = false) : bs.any id = false := by
  rw [List.any_eq_false]
  intro x hx
  obtain ⟨j, hj, rfl⟩ := List.getElem_of_mem hx
  rw [h j hj]; simp
set_option maxHeartbeats 16000000 in
set_option maxRecDepth 100000 in
theorem rwithin_step (B gb lb : Nat) (vx vr : Value) (ps : List (Thk.RE × Value × Value)) (rs : List (Thk.Bytes × Nat)) (l : List Bool) (u : Bool) (hF : Fits ps rs) (hll : l.length = ps.length) : StepW (xsOf ps) (nmOf rs) l u (RetW B gb lb vx vr ps rs l u) := by
  intro k e bs hxe hall w h hL
  have hi : k < ps.length := by
    have := (List.getElem?_eq_some_iff.1 hxe).1
    simpa using this
  obtain ⟨p, xg, xc, ia, ic, pa, pc, hp, hpm, rfl, hxl, c0, c1, c2, c3, c4, hpl, hpn, hpc⟩ := h.exp hi
  have hep : e = p.1 := by
    rw [List.getElem?_map, hp] at hxe
    simpa using hxe.symm
  subst hep
  have hlen := hall.len
  have hlb := heap_lt' hL
  have hgl := h.lt
  have q := cell_of_block h.blk
  have hfit := hF.ex p hpm
  have hkl : (k : Int) < ps.length := by omega
  obtain ⟨O, hO⟩ : ∃ O, O = exO p.1.kind (.slice ia p.1.items.length ic) p.1.text (rfE (nmOf rs) p.1 0) (.slice pa p.1.parts.length pc) := ⟨_, rfl⟩
  have HS : Hid (WiRel w B gb lb (.slice (some ⟨xg, 0, none⟩) ps.length xc) vr ps rs l bs O 0 (w.alloc O)) :=
    ⟨h.below (below_alloc _ _), by rw [heap_alloc_old _ _ hlb]; exact hL, heap_alloc_same _ _, below_alloc _ _, fun b hb => heap_alloc_old _ _ hb, fun j _ hj => by omega⟩
  have HALL := hideP hall
  have HL := hideP hL
  have HFIT := hideP hfit
  have HB0 := hideP (below_alloc w O)
  clear hxe hall h hL hF hpm hp hfit
  by_cases hhit : hitX (nmOf rs) l u p.1 = true
  · have hres : (hitX (nmOf rs) l u p.1 || bs.any id) = true := by rw [hhit]; rfl
    rw [hres]
    cases u with
    | true =>
      have hk : p.1.kind = 4 ∧ (nmOf rs).contains p.1.text = false := by simpa [hitX] using hhit
      have hrf := rfE_name (names := nmOf rs) hk.1
      rw [if_neg (by rw [hk.2]; simp)] at hrf
      rw [hk.1, hrf] at hO
      rw [hk.1] at c0
      rw [hrf] at c3
      subst hO
      clear hhit hres HS
      go_enter Tryz.func67, Tryz.ntmps67
      go_wp2_with fail
      go_ret
      exact ⟨rfl, HB0.out⟩
    | false =>
      have hk : (p.1.kind = 8 ∨ p.1.kind = 9) ∧ l.getD (p.1.parts.headD 0) false = true := by
        simpa [hitX, List.getD_eq_getElem?_getD] using hhit
      obtain ⟨hk, hlt⟩ := hk
      obtain ⟨a, ha⟩ := HFIT.out.2.1 (by omega)
      have hal := HFIT.out.1 a (by rw [ha]; simp)
      obtain ⟨pg, rfl, hpg, hpcell⟩ := hpc 0 (by rw [ha]; simp)
      simp only [ha, List.getElem_cons_zero] at hpcell
      have hlc := bools_cell HL.out a (by omega)
      rw [ha] at hlt
      simp only [List.headD_cons] at hlt
      rw [hlt] at hlc
      have hal' : (a : Int) < ps.length := by omega
      simp only [ha, List.length_singleton] at c4 hO
      clear hhit hres HS hpc
      rcases hk with hk | hk
      all_goals
        rw [hk] at c0 hO
        subst hO
        go_enter Tryz.func67, Tryz.ntmps67
        go_wp2_with fail
        go_ret
        exact ⟨rfl, HB0.out⟩
  · have hhf : hitX (nmOf rs) l u p.1 = false := by simpa using hhit
    rw [hhf, Bool.false_or]
    cases u with
    | true =>
      by_cases hk : p.1.kind = 4
      · have hn : (nmOf rs).contains p.1.text = true := by simpa [hitX, hk] using hhf
        have hrf := rfE_name (names := nmOf rs) hk
        rw [if_pos hn] at hrf
        rw [hk, hrf] at hO
        rw [hk] at c0
        rw [hrf] at c3
        obtain ⟨x, hx⟩ : ∃ x, x = (nmOf rs).idxOf p.1.text := ⟨_, rfl⟩
        rw [← hx] at hO c3
        have hx0 : ¬ (x : Int) < 0 := by omega
        subst hO
        clear hhit hhf hn hrf hx
        go_enter Tryz.func67, Tryz.ntmps67
        go_wp2_with fail
        go_loopg [10] p.1.parts.length (fun m v wr => ∃ t : Nat, m = p.1.parts.length - t ∧ v = .int .i64 t ∧ t ≤ p.1.parts.length ∧ Hid (WiRel w B gb lb (.slice (some ⟨xg, 0, none⟩) ps.length xc) vr ps rs l bs (exO 4 (.slice ia p.1.items.length ic) p.1.text x (.slice pa p.1.parts.length pc)) t wr))
        case atStart => exact ⟨0, by omega, rfl, by omega, HS⟩
        case round =>
          obtain ⟨t, rfl, rfl, ht, HI⟩ := hrel
          have eq := cell_of_block HI.out.own
          have elt := heap_lt' HI.out.own
          by_cases hlt : t < p.1.parts.length
          · have hlt' : (t : Int) < p.1.parts.length := by omega
            obtain ⟨pg, rfl, hpg, hpcell⟩ := hpc t hlt
            have hpcell2 : wr.cell? ⟨pg, t, none⟩ = some (.int .i64 p.1.parts[t]) := by rw [World.cell?_of_block (a := ⟨pg, t, none⟩) (HI.out.kept pg hpg)]; exact hpcell
            have hcall := HALL.out.get t hlt (by omega) wr HI.out.mem HI.out.row
            obtain ⟨b, HBB⟩ : ∃ b, Hid (b = bs[t]'(by omega)) := ⟨_, hideP rfl⟩
            rw [← HBB.out] at hcall
            clear hpcell
            go_wp2_with fail
            refine hcall.mono ?_
            rintro _ w2 ⟨rfl, hb2⟩
            cases b with
            | true =>
              have hbs : bs.any id = true := by
                rw [List.any_eq_true]
                exact ⟨true, by rw [HBB.out]; exact List.getElem_mem _, rfl⟩
              go_wp2_with fail
              go_ret
              first | exact ⟨rfl, HI.out.below.trans (hb2.mono HI.out.below.size)⟩ | exact ⟨congrArg (fun b => Ending.returned (Value.bool b)) hbs.symm, HI.out.below.trans (hb2.mono HI.out.below.size)⟩
            | false =>
              have HN := hideP (HI.out.go hb2 (fun _ => HBB.out.symm))
              clear hb2 hcall
              go_wp2_with fail
              go_roundg (p.1.parts.length - (t + 1))
              case measure => omega
              case rel => exact ⟨t + 1, rfl, by go_num, by omega, HN⟩
          · have hlt' : ¬ (t : Int) < p.1.parts.length := by omega
            have hbs : bs.any id = false := any_false (fun j hj => HI.out.no j hj (by omega))
            go_wp2_with fail
            go_ret
            first | exact ⟨rfl, HI.out.below⟩ | exact ⟨congrArg (fun b => Ending.returned (Value.bool b)) hbs.symm, HI.out.below⟩
      · have hk1 : ¬ (p.1.kind : Int) = 4 := by omega
        have hk2 : decide ((p.1.kind : Int) = 4) = false := by simp; omega
        subst hO
        clear hhit hhf
        go_enter Tryz.func67, Tryz.ntmps67
        go_wp2_with fail
        go_loopg [10] p.1.parts.length (fun m v wr => ∃ t : Nat, m = p.1.parts.length - t ∧ v = .int .i64 t ∧ t ≤ p.1.parts.length ∧ Hid (WiRel w B gb lb (.slice (some ⟨xg, 0, none⟩) ps.length xc) vr ps rs l bs (exO p.1.kind (.slice ia p.1.items.length ic) p.1.text (rfE (nmOf rs) p.1 0) (.slice pa p.1.parts.length pc)) t wr))
        case atStart => exact ⟨0, by omega, rfl, by omega, HS⟩
        case round =>
          obtain ⟨t, rfl, rfl, ht, HI⟩ := hrel
          have eq := cell_of_block HI.out.own
          have elt := heap_lt' HI.out.own
          by_cases hlt : t < p.1.parts.length
          · have hlt' : (t : Int) < p.1.parts.length := by omega
            obtain ⟨pg, rfl, hpg, hpcell⟩ := hpc t hlt
            have hpcell2 : wr.cell? ⟨pg, t, none⟩ = some (.int .i64 p.1.parts[t]) := by rw [World.cell?_of_block (a := ⟨pg, t, none⟩) (HI.out.kept pg hpg)]; exact hpcell
            have hcall := HALL.out.get t hlt (by omega) wr HI.out.mem HI.out.row
            obtain ⟨b, HBB⟩ : ∃ b, Hid (b = bs[t]'(by omega)) := ⟨_, hideP rfl⟩
            rw [← HBB.out] at hcall
            clear hpcell
            go_wp2_with fail
            refine hcall.mono ?_
            rintro _ w2 ⟨rfl, hb2⟩
            cases b with
            | true =>
              have hbs : bs.any id = true := by
                rw [List.any_eq_true]
                exact ⟨true, by rw [HBB.out]; exact List.getElem_mem _, rfl⟩
              go_wp2_with fail
              go_ret
              first | exact ⟨rfl, HI.out.below.trans (hb2.mono HI.out.below.size)⟩ | exact ⟨congrArg (fun b => Ending.returned (Value.bool b)) hbs.symm, HI.out.below.trans (hb2.mono HI.out.below.size)⟩
            | false =>
              have HN := hideP (HI.out.go hb2 (fun _ => HBB.out.symm))
              clear hb2 hcall
              go_wp2_with fail
              go_roundg (p.1.parts.length - (t + 1))
              case measure => omega
              case rel => exact ⟨t + 1, rfl, by go_num, by omega, HN⟩
          · have hlt' : ¬ (t : Int) < p.1.parts.length := by omega
            have hbs : bs.any id = false := any_false (fun j hj => HI.out.no j hj (by omega))
            go_wp2_with fail
            go_ret
            first | exact ⟨rfl, HI.out.below⟩ | exact ⟨congrArg (fun b => Ending.returned (Value.bool b)) hbs.symm, HI.out.below⟩
    | false =>
      by_cases hk : p.1.kind = 8 ∨ p.1.kind = 9
      · obtain ⟨a, ha⟩ := HFIT.out.2.1 (by omega)
        have hlf : l.getD a false = false := by
          rcases hk with hk | hk <;> simpa [hitX, hk, ha, List.getD_eq_getElem?_getD] using hhf
        have hal := HFIT.out.1 a (by rw [ha]; simp)
        obtain ⟨pg0, hpa0, hpg0, hpcell0⟩ := hpc 0 (by rw [ha]; simp)
        simp only [ha, List.getElem_cons_zero] at hpcell0
        have hlc := bools_cell HL.out a (by omega)
        rw [hlf] at hlc
        have hal' : (a : Int) < ps.length := by omega
        have hpl1 : p.1.parts.length = 1 := by rw [ha]; rfl
        have hpl0 : (0 : Int) < p.1.parts.length := by omega
        clear hpl1
        subst hpa0
        rcases hk with hk | hk
        · rw [hk] at c0 hO
          subst hO
          clear hhit hhf ha
          go_enter Tryz.func67, Tryz.ntmps67
          go_wp2_with fail
          go_loopg [10] p.1.parts.length (fun m v wr => ∃ t : Nat, m = p.1.parts.length - t ∧ v = .int .i64 t ∧ t ≤ p.1.parts.length ∧ Hid (WiRel w B gb lb (.slice (some ⟨xg, 0, none⟩) ps.length xc) vr ps rs l bs (exO 8 (.slice ia p.1.items.length ic) p.1.text (rfE (nmOf rs) p.1 0) (.slice (some ⟨pg0, 0, none⟩) p.1.parts.length pc)) t wr))
          case atStart => exact ⟨0, by omega, rfl, by omega, HS⟩
          case round =>
            obtain ⟨t, rfl, rfl, ht, HI⟩ := hrel
            have eq := cell_of_block HI.out.own
            have elt := heap_lt' HI.out.own
            by_cases hlt : t < p.1.parts.length
            · have hlt' : (t : Int) < p.1.parts.length := by omega
              obtain ⟨pg, hpg1, hpg, hpcell⟩ := hpc t hlt
              obtain rfl : pg = pg0 := by simpa using hpg1.symm
              have hpcell2 : wr.cell? ⟨pg, t, none⟩ = some (.int .i64 p.1.parts[t]) := by rw [World.cell?_of_block (a := ⟨pg, t, none⟩) (HI.out.kept pg hpg)]; exact hpcell
              have hcall := HALL.out.get t hlt (by omega) wr HI.out.mem HI.out.row
              obtain ⟨b, HBB⟩ : ∃ b, Hid (b = bs[t]'(by omega)) := ⟨_, hideP rfl⟩
              rw [← HBB.out] at hcall
              clear hpcell
              go_wp2_with fail
              refine hcall.mono ?_
              rintro _ w2 ⟨rfl, hb2⟩
              cases b with
              | true =>
                have hbs : bs.any id = true := by
                  rw [List.any_eq_true]
                  exact ⟨true, by rw [HBB.out]; exact List.getElem_mem _, rfl⟩
                go_wp2_with fail
                go_ret
                first | exact ⟨rfl, HI.out.below.trans (hb2.mono HI.out.below.size)⟩ | exact ⟨congrArg (fun b => Ending.returned (Value.bool b)) hbs.symm, HI.out.below.trans (hb2.mono HI.out.below.size)⟩
              | false =>
                have HN := hideP (HI.out.go hb2 (fun _ => HBB.out.symm))
                clear hb2 hcall
                go_wp2_with fail
                go_roundg (p.1.parts.length - (t + 1))
                case measure => omega
                case rel => exact ⟨t + 1, rfl, by go_num, by omega, HN⟩
            · have hlt' : ¬ (t : Int) < p.1.parts.length := by omega
              have hbs : bs.any id = false := any_false (fun j hj => HI.out.no j hj (by omega))
              go_wp2_with fail
              go_ret
              first | exact ⟨rfl, HI.out.below⟩ | exact ⟨congrArg (fun b => Ending.returned (Value.bool b)) hbs.symm, HI.out.below⟩
        · rw [hk] at c0 hO
          subst hO
          clear hhit hhf ha
          go_enter Tryz.func67, Tryz.ntmps67
          go_wp2_with fail
          go_loopg [10] p.1.parts.length (fun m v wr => ∃ t : Nat, m = p.1.parts.length - t ∧ v = .int .i64 t ∧ t ≤ p.1.parts.length ∧ Hid (WiRel w B gb lb (.slice (some ⟨xg, 0, none⟩) ps.length xc) vr ps rs l bs (exO 9 (.slice ia p.1.items.length ic) p.1.text (rfE (nmOf rs) p.1 0) (.slice (some ⟨pg0, 0, none⟩) p.1.parts.length pc)) t wr))
          case atStart => exact ⟨0, by omega, rfl, by omega, HS⟩
          case round =>
            obtain ⟨t, rfl, rfl, ht, HI⟩ := hrel
            have eq := cell_of_block HI.out.own
            have elt := heap_lt' HI.out.own
            by_cases hlt : t < p.1.parts.length
            · have hlt' : (t : Int) < p.1.parts.length := by omega
              obtain ⟨pg, hpg1, hpg, hpcell⟩ := hpc t hlt
              obtain rfl : pg = pg0 := by simpa using hpg1.symm
              have hpcell2 : wr.cell? ⟨pg, t, none⟩ = some (.int .i64 p.1.parts[t]) := by rw [World.cell?_of_block (a := ⟨pg, t, none⟩) (HI.out.kept pg hpg)]; exact hpcell
              have hcall := HALL.out.get t hlt (by omega) wr HI.out.mem HI.out.row
              obtain ⟨b, HBB⟩ : ∃ b, Hid (b = bs[t]'(by omega)) := ⟨_, hideP rfl⟩
              rw [← HBB.out] at hcall
              clear hpcell
              go_wp2_with fail
              refine hcall.mono ?_
              rintro _ w2 ⟨rfl, hb2⟩
              cases b with
              | true =>
                have hbs : bs.any id = true := by
                  rw [List.any_eq_true]
                  exact ⟨true, by rw [HBB.out]; exact List.getElem_mem _, rfl⟩
                go_wp2_with fail
                go_ret
                first | exact ⟨rfl, HI.out.below.trans (hb2.mono HI.out.below.size)⟩ | exact ⟨congrArg (fun b => Ending.returned (Value.bool b)) hbs.symm, HI.out.below.trans (hb2.mono HI.out.below.size)⟩
              | false =>
                have HN := hideP (HI.out.go hb2 (fun _ => HBB.out.symm))
                clear hb2 hcall
                go_wp2_with fail
                go_roundg (p.1.parts.length - (t + 1))
                case measure => omega
                case rel => exact ⟨t + 1, rfl, by go_num, by omega, HN⟩
            · have hlt' : ¬ (t : Int) < p.1.parts.length := by omega
              have hbs : bs.any id = false := any_false (fun j hj => HI.out.no j hj (by omega))
              go_wp2_with fail
              go_ret
              first | exact ⟨rfl, HI.out.below⟩ | exact ⟨congrArg (fun b => Ending.returned (Value.bool b)) hbs.symm, HI.out.below⟩
      · have hk1 : ¬ (p.1.kind : Int) = 8 := by omega
        have hk2 : ¬ (p.1.kind : Int) = 9 := by omega
        have hk3 : decide ((p.1.kind : Int) = 8) = false := by simp; omega
        have hk4 : decide ((p.1.kind : Int) = 9) = false := by simp; omega
        subst hO
        clear hhit hhf
        go_enter Tryz.func67, Tryz.ntmps67
        go_wp2_with fail
        go_loopg [10] p.1.parts.length (fun m v wr => ∃ t : Nat, m = p.1.parts.length - t ∧ v = .int .i64 t ∧ t ≤ p.1.parts.length ∧ Hid (WiRel w B gb lb (.slice (some ⟨xg, 0, none⟩) ps.length xc) vr ps rs l bs (exO p.1.kind (.slice ia p.1.items.length ic) p.1.text (rfE (nmOf rs) p.1 0) (.slice pa p.1.parts.length pc)) t wr))
        case atStart => exact ⟨0, by omega, rfl, by omega, HS⟩
        case round =>
          obtain ⟨t, rfl, rfl, ht, HI⟩ := hrel
          have eq := cell_of_block HI.out.own
          have elt := heap_lt' HI.out.own
          by_cases hlt : t < p.1.parts.length
          · have hlt' : (t : Int) < p.1.parts.length := by omega
            obtain ⟨pg, rfl, hpg, hpcell⟩ := hpc t hlt
            have hpcell2 : wr.cell? ⟨pg, t, none⟩ = some (.int .i64 p.1.parts[t]) := by rw [World.cell?_of_block (a := ⟨pg, t, none⟩) (HI.out.kept pg hpg)]; exact hpcell
            have hcall := HALL.out.get t hlt (by omega) wr HI.out.mem HI.out.row
            obtain ⟨b, HBB⟩ : ∃ b, Hid (b = bs[t]'(by omega)) := ⟨_, hideP rfl⟩
            rw [← HBB.out] at hcall
            clear hpcell
            go_wp2_with fail
            refine hcall.mono ?_
            rintro _ w2 ⟨rfl, hb2⟩
            cases b with
            | true =>
              have hbs : bs.any id = true := by
                rw [List.any_eq_true]
                exact ⟨true, by rw [HBB.out]; exact List.getElem_mem _, rfl⟩
              go_wp2_with fail
              go_ret
              first | exact ⟨rfl, HI.out.below.trans (hb2.mono HI.out.below.size)⟩ | exact ⟨congrArg (fun b => Ending.returned (Value.bool b)) hbs.symm, HI.out.below.trans (hb2.mono HI.out.below.size)⟩
            | false =>
              have HN := hideP (HI.out.go hb2 (fun _ => HBB.out.symm))
              clear hb2 hcall
              go_wp2_with fail
              go_roundg (p.1.parts.length - (t + 1))
              case measure => omega
              case rel => exact ⟨t + 1, rfl, by go_num, by omega, HN⟩
          · have hlt' : ¬ (t : Int) < p.1.parts.length := by omega
            have hbs : bs.any id = false := any_false (fun j hj => HI.out.no j hj (by omega))
            go_wp2_with fail
            go_ret
            first | exact ⟨rfl, HI.out.below⟩ | exact ⟨congrArg (fun b => Ending.returned (Value.bool b)) hbs.symm, HI.out.below⟩
end Go.Proofs.YtiganlkabilblaaGreatDoor
namespace Go.Proofs.YtiganlkabilblaaGreatDoor
open Go.RowKit
attribute [local go_sem ↓] Go.wp_at_zero Go.wp_at_succ
/-- Numbers behind numbers, whatever their rows are. -/
theorem wpList_append_ints {w : World} {ops : Array Oper} {rest : List Oper} {o : Oper} {a : Act} {Q : Exit → Act → World → Prop} (hgd : o.guard = none) (s x : Operand)
    (ho : o.op = .call { callee := .builtin .append, args := #[s, x], argTypes := #[40, 40] }) (B B2 : Nat) (v xv : Value) (ns ms : List Nat) (hs : a.eval s = v) (hv : Ints w B v ns) (hx : a.eval x = xv) (hxv : Ints w B2 xv ms) (hb : ns.length + ms.length ≤ 200000) (hB : B ≤ w.heap.size)
    (h : ∀ v' w', Ints w' B v' (ns ++ ms) → w.grownBy w' v.ownBlock → wpList Tryz.prog ops Q rest (a.put o.dst v') w') : wpList Tryz.prog ops Q (o :: rest) a w := by
  obtain ⟨i0, hi, hz0, hz1, hz2⟩ := info_parts Tryz.infoInt
  have hx2 := hxv
  rcases hx2.2 with ⟨h0, h1⟩ | ⟨g, cap, cur, h0, _, hg, hc1, hc2, _⟩
  · rw [h0] at hx
    refine wpList_append_own_none hgd s x 40 ho B 3 i0 1 Tryz.underlying40 hi v ns.length (ns.map intV) hs hv hx (h v w ?_ ⟨rfl, rfl, rfl, Nat.le_refl _, fun _ _ _ => rfl⟩)
    have : ms = [] := List.length_eq_zero_iff.1 h1
    rw [this, List.append_nil]; exact hv
  · rw [h0] at hx
    refine wpList_append_own w hgd s x 40 ho B 3 i0 _ 1 8 Tryz.underlying40 hi hz0 hz1 hz2 rfl (by decide) v ns.length (ns.map intV) hs hv ⟨g, 0, none⟩ ms.length cap (ms.map intV) hx (by simp) ?_ ?_ (by unfold maxLen; omega) (by omega) hB ?_
    · intro j u hu
      have hj : j < ms.length := by
        have := (List.getElem?_eq_some_iff.1 hu).1
        simpa using this
      rw [h0] at hxv
      have := hxv.cellAt (g := g) j (by omega)
      rw [show (Addr.add ⟨g, 0, none⟩ j) = ⟨g, j, none⟩ from by unfold Addr.add; split <;> simp_all, this]; exact hu
    · intro u hu
      obtain ⟨n, _, rfl⟩ := List.mem_map.1 hu
      rfl
    · intro v' w' h2 h3 _
      refine h v' w' ?_ h3
      unfold Ints
      simpa using h2
/-- firsts at an expression tells fs. -/
def RetF (B gb lb : Nat) (vx vr : Value) (ps : List (Thk.RE × Value × Value)) (rs : List (Thk.Bytes × Nat)) (l : List Bool) (k : Nat) (fs : List Nat) : Prop :=
  ∀ w, GM w B gb vx vr (ps.map (ruled (nmOf rs))) rs → w.heap[lb]? = some (boolsO l) →
    Calls Tryz.prog 104 #[.pointer (some ⟨gb, 0, none⟩), .int .i64 k, .slice (some ⟨lb, 0, none⟩) ps.length ps.length] w fun e w' => ∃ v, e = .returned v ∧ Ints w' w.heap.size v fs ∧ Below w.heap.size w w'
/-- What the loop of firsts keeps. -/
structure FiRel (w : World) (fs : List (List Nat)) (sq : Bool) (ls : List Bool) (O : Obj) (k : Nat) (acc : List Nat) (v : Value) (wr : World) : Prop where
  own : wr.heap[w.heap.size]? = some O
  below : Below w.heap.size w wr
  out : Ints wr (w.heap.size + 1) v acc
  join : joinF sq fs ls = acc ++ joinF sq (fs.drop k) (ls.drop k)
theorem joinF_drop (sq : Bool) (fs : List (List Nat)) (ls : List Bool) (k : Nat) (h1 : k < fs.length) (h2 : k < ls.length) : joinF sq (fs.drop k) (ls.drop k) = fs[k] ++ (if sq && !ls[k] then [] else joinF sq (fs.drop (k + 1)) (ls.drop (k + 1))) := by
  rw [List.drop_eq_getElem_cons h1, List.drop_eq_getElem_cons h2]; rfl
theorem FiRel.grown {w : World} {fs : List (List Nat)} {sq : Bool} {ls : List Bool} {O : Obj} {k : Nat} {acc : List Nat} {v : Value} {wr w2 w3 : World}
    (h : FiRel w fs sq ls O k acc v wr) (hb : Below wr.heap.size wr w2) (hg : w2.grownBy w3 v.ownBlock) : w3.heap[w.heap.size]? = some O ∧ Below w.heap.size w w3 := by
  have hs := h.below.size
  have hs2 := hb.size
  have hs3 := hg.size
  have hol := heap_lt' h.own
  have hlo : ∀ k, k ≤ w.heap.size → w3.heap[k]? = wr.heap[k]? := by
    intro k hk
    rw [hg.block k (by omega) (fun e => by have := (h.out.lt k e.symm).1; omega)]
    exact hb.block k (by omega)
  refine ⟨by rw [hlo _ (Nat.le_refl _)]; exact h.own, ?_⟩
  exact ⟨hg.os.trans (hb.os.trans h.below.os), hg.tape.trans (hb.tape.trans h.below.tape), hg.output.trans (hb.output.trans h.below.output), by omega, fun k hk => by rw [hlo k (by omega)]; exact h.below.block k hk⟩
set_option maxHeartbeats 16000000 in
set_option maxRecDepth 100000 in
theorem rfirsts_step (B gb lb : Nat) (vx vr : Value) (ps : List (Thk.RE × Value × Value)) (rs : List (Thk.Bytes × Nat)) (l : List Bool) (hF : Fits ps rs) (hll : l.length = ps.length) : StepF (xsOf ps) (nmOf rs) l (RetF B gb lb vx vr ps rs l) := by
  constructor
  · intro k e hxe hk4 hn w h hL
    have hi : k < ps.length := by
      have := (List.getElem?_eq_some_iff.1 hxe).1
      simpa using this
    obtain ⟨p, xg, xc, ia, ic, pa, pc, hp, hpm, rfl, hxl, c0, c1, c2, c3, c4, hpl, hpn, hpc⟩ := h.exp hi
    have hep : e = p.1 := by
      rw [List.getElem?_map, hp] at hxe
      simpa using hxe.symm
    subst hep
    have hgl := h.lt
    have q := cell_of_block h.blk
    have hkl : (k : Int) < ps.length := by omega
    have hrf := rfE_name (names := nmOf rs) hk4
    rw [if_pos hn] at hrf
    have hid : idx0 (nmOf rs) p.1.text = (nmOf rs).idxOf p.1.text := by unfold idx0; rw [if_pos hn]
    rw [hid]
    obtain ⟨x, hx⟩ : ∃ x, x = (nmOf rs).idxOf p.1.text := ⟨_, rfl⟩
    rw [← hx] at hrf ⊢
    rw [hk4] at c0
    rw [hrf] at c3
    clear hxe h hL hpm hp hrf hid hn hx
    go_enter Tryz.func104, Tryz.ntmps104
    go_wp2_with fail
    go_ret
    refine ⟨_, rfl, ⟨by simp, .inr ⟨w.heap.size + 1, 1, _, rfl, by omega, heap_alloc_at _ _ _ (by simp), by simp, by unfold maxLen; omega, rfl, rfl⟩⟩, (below_alloc _ _).alloc (by simp) _⟩
  · intro k e fs hxe hk4 hall hbd w h hL
    have hi : k < ps.length := by
      have := (List.getElem?_eq_some_iff.1 hxe).1
      simpa using this
    obtain ⟨p, xg, xc, ia, ic, pa, pc, hp, hpm, rfl, hxl, c0, c1, c2, c3, c4, hpl, hpn, hpc⟩ := h.exp hi
    have hep : e = p.1 := by
      rw [List.getElem?_map, hp] at hxe
      simpa using hxe.symm
    subst hep
    have hlen := hall.len
    have hlb := heap_lt' hL
    have hgl := h.lt
    have q := cell_of_block h.blk
    have hfit := hF.ex p hpm
    have hkl : (k : Int) < ps.length := by omega
    obtain ⟨O, hO⟩ : ∃ O, O = exO p.1.kind (.slice ia p.1.items.length ic) p.1.text (rfE (nmOf rs) p.1 0) (.slice pa p.1.parts.length pc) := ⟨_, rfl⟩
    have HS : Hid (FiRel w fs (p.1.kind == 5) (p.1.parts.map fun p => l.getD p false) O 0 [] (.slice none 0 0) (w.alloc O)) :=
      ⟨heap_alloc_same _ _, below_alloc _ _, World.ownsRow_nil _ _ _ _, by simp⟩
    have HALL := hideP hall
    have HL := hideP hL
    have HM := hideP h
    have HFIT := hideP hfit
    have HBD := hideP hbd
    have HB0 := hideP (below_alloc w O)
    clear hxe hall h hL hF hpm hp hfit hbd
    by_cases hk5 : p.1.kind = 5
    · rw [show (p.1.kind == 5) = true from by simpa using hk5] at HS HBD ⊢
      rw [hk5] at c0 hO
      subst hO
      go_enter Tryz.func104, Tryz.ntmps104
      go_wp2_with fail
      go_loopg [8, 9] p.1.parts.length (fun m vo vi wr => ∃ (t : Nat) (acc : List Nat), m = p.1.parts.length - t ∧ vi = .int .i64 t ∧ t ≤ p.1.parts.length ∧ Hid (FiRel w fs true (p.1.parts.map fun p => l.getD p false) (exO 5 (.slice ia p.1.items.length ic) p.1.text (rfE (nmOf rs) p.1 0) (.slice pa p.1.parts.length pc)) t acc vo wr))
      case atStart => exact ⟨0, [], by omega, rfl, by omega, HS⟩
      case round =>
        obtain ⟨t, acc, rfl, rfl, ht, HI⟩ := hrel
        have eq := cell_of_block HI.out.own
        have elt := heap_lt' HI.out.own
        by_cases hlt : t < p.1.parts.length
        · have hlt' : (t : Int) < p.1.parts.length := by omega
          obtain ⟨pg, rfl, hpg, hpcell⟩ := hpc t hlt
          have hpcell2 : wr.cell? ⟨pg, t, none⟩ = some (.int .i64 p.1.parts[t]) := by rw [World.cell?_of_block (a := ⟨pg, t, none⟩) (HI.out.below.block pg hpg)]; exact hpcell
          have hfit := HFIT.out.1 p.1.parts[t] (List.getElem_mem hlt)
          have hfit' : (p.1.parts[t] : Int) < ps.length := by omega
          have htf : t < fs.length := by omega
          have hcall := HALL.out.get t hlt htf wr (HM.out.below HI.out.below) (by rw [HI.out.below.block _ hlb]; exact HL.out)
          have HJ := hideP (joinF_drop true fs (p.1.parts.map fun p => l.getD p false) t htf (by simpa using hlt))
          have HBN : Hid (acc.length + fs[t].length ≤ 100000) := by
            have h1 := HBD.out
            rw [HI.out.join, HJ.out] at h1
            simp only [List.length_append] at h1
            show _ ≤ _
            omega
          have HPC := hideP hpcell
          clear hpcell
          go_wp2_with (first
            | (at_builtin; refine wpList_append_ints rfl _ _ rfl (w.heap.size + 1) wr.heap.size _ _ acc fs[t] rfl (own_below HI.out.out hb2) rfl hint (by have := HBN.out; omega) (by have := hb2.size; omega) ?_)
            | (go_at_call 104; refine hcall.mono ?_; rintro _ w2 ⟨v2, rfl, hint, hb2⟩))
          intro v3 w3 hint3 hg3
          obtain ⟨ho3, hb3⟩ := HI.out.grown hb2 hg3
          have eq3 := cell_of_block ho3
          have elt3 := heap_lt' ho3
          have hpcell3 : w3.cell? ⟨pg, t, none⟩ = some (.int .i64 p.1.parts[t]) := by rw [World.cell?_of_block (a := ⟨pg, t, none⟩) (hb3.block pg hpg)]; exact HPC.out
          have hlc := bools_cell (w := w3) (lb := lb) (l := l) (by rw [hb3.block _ hlb]; exact HL.out) p.1.parts[t] (by omega)
          have HINT3 := hideP hint3
          have HO3 := hideP ho3
          have HB3 := hideP hb3
          clear hcall hint hb2 hint3 ho3 hb3 hg3 eq hpcell2
          cases hb : l.getD p.1.parts[t] false with
          | true =>
            rw [hb] at hlc
            have HN : Hid (FiRel w fs true (p.1.parts.map fun p => l.getD p false) (exO 5 (.slice ia p.1.items.length ic) p.1.text (rfE (nmOf rs) p.1 0) (.slice (some ⟨pg, 0, none⟩) p.1.parts.length pc)) (t + 1) (acc ++ fs[t]) v3 w3) := by
              refine ⟨HO3.out, HB3.out, HINT3.out, ?_⟩
              rw [HI.out.join, HJ.out, List.append_assoc, if_neg (by simp only [List.getElem_map]; rw [hb]; simp)]
            go_wp2_with fail
            go_roundg (p.1.parts.length - (t + 1))
            case measure => omega
            case rel => exact ⟨t + 1, _, rfl, by go_num, by omega, HN⟩
          | false =>
            rw [hb] at hlc
            have hr : acc ++ fs[t] = joinF true fs (p.1.parts.map fun p => l.getD p false) := by
              rw [HI.out.join, HJ.out, if_pos (by simp only [List.getElem_map]; rw [hb]; rfl)]; simp
            have HRR := hideP hr
            clear hr
            go_wp2_with fail
            go_ret
            exact ⟨_, rfl, by rw [← HRR.out]; exact own_mono HINT3.out (by omega), HB3.out⟩
        · have hlt' : ¬ (t : Int) < p.1.parts.length := by omega
          have hr : acc = joinF true fs (p.1.parts.map fun p => l.getD p false) := by
            rw [HI.out.join, List.drop_eq_nil_of_le (show fs.length ≤ t by omega)]; simp [joinF]
          have HRR := hideP hr
          clear hr
          go_wp2_with fail
          go_ret
          have hend := own_mono HI.out.out (show w.heap.size ≤ w.heap.size + 1 by omega)
          have hacc := HRR.out
          subst hacc
          exact ⟨_, rfl, hend, HI.out.below⟩
    · rw [show (p.1.kind == 5) = false from by simpa using hk5] at HS HBD ⊢
      have hk1 : ¬ (p.1.kind : Int) = 5 := by omega
      have hk2 : ¬ (p.1.kind : Int) = 4 := by omega
      have hk3 : ((p.1.kind : Int) == 5) = false := by simp; omega
      have hk4b : ((p.1.kind : Int) == 4) = false := by simp; omega
      subst hO
      go_enter Tryz.func104, Tryz.ntmps104
      go_wp2_with fail
      go_loopg [8, 9] p.1.parts.length (fun m vo vi wr => ∃ (t : Nat) (acc : List Nat), m = p.1.parts.length - t ∧ vi = .int .i64 t ∧ t ≤ p.1.parts.length ∧ Hid (FiRel w fs false (p.1.parts.map fun p => l.getD p false) (exO p.1.kind (.slice ia p.1.items.length ic) p.1.text (rfE (nmOf rs) p.1 0) (.slice pa p.1.parts.length pc)) t acc vo wr))
      case atStart => exact ⟨0, [], by omega, rfl, by omega, HS⟩
      case round =>
        obtain ⟨t, acc, rfl, rfl, ht, HI⟩ := hrel
        have eq := cell_of_block HI.out.own
        have elt := heap_lt' HI.out.own
        by_cases hlt : t < p.1.parts.length
        · have hlt' : (t : Int) < p.1.parts.length := by omega
          obtain ⟨pg, rfl, hpg, hpcell⟩ := hpc t hlt
          have hpcell2 : wr.cell? ⟨pg, t, none⟩ = some (.int .i64 p.1.parts[t]) := by rw [World.cell?_of_block (a := ⟨pg, t, none⟩) (HI.out.below.block pg hpg)]; exact hpcell
          have hfit := HFIT.out.1 p.1.parts[t] (List.getElem_mem hlt)
          have hfit' : (p.1.parts[t] : Int) < ps.length := by omega
          have htf : t < fs.length := by omega
          have hcall := HALL.out.get t hlt htf wr (HM.out.below HI.out.below) (by rw [HI.out.below.block _ hlb]; exact HL.out)
          have HJ := hideP (joinF_drop false fs (p.1.parts.map fun p => l.getD p false) t htf (by simpa using hlt))
          have HBN : Hid (acc.length + fs[t].length ≤ 100000) := by
            have h1 := HBD.out
            rw [HI.out.join, HJ.out] at h1
            simp only [List.length_append] at h1
            show _ ≤ _
            omega
          have HPC := hideP hpcell
          clear hpcell
          go_wp2_with (first
            | (at_builtin; refine wpList_append_ints rfl _ _ rfl (w.heap.size + 1) wr.heap.size _ _ acc fs[t] rfl (own_below HI.out.out hb2) rfl hint (by have := HBN.out; omega) (by have := hb2.size; omega) ?_)
            | (go_at_call 104; refine hcall.mono ?_; rintro _ w2 ⟨v2, rfl, hint, hb2⟩))
          intro v3 w3 hint3 hg3
          obtain ⟨ho3, hb3⟩ := HI.out.grown hb2 hg3
          have eq3 := cell_of_block ho3
          have elt3 := heap_lt' ho3
          have hpcell3 : w3.cell? ⟨pg, t, none⟩ = some (.int .i64 p.1.parts[t]) := by rw [World.cell?_of_block (a := ⟨pg, t, none⟩) (hb3.block pg hpg)]; exact HPC.out
          have hlc := bools_cell (w := w3) (lb := lb) (l := l) (by rw [hb3.block _ hlb]; exact HL.out) p.1.parts[t] (by omega)
          have HINT3 := hideP hint3
          have HO3 := hideP ho3
          have HB3 := hideP hb3
          clear hcall hint hb2 hint3 ho3 hb3 hg3 eq hpcell2
          have HN : Hid (FiRel w fs false (p.1.parts.map fun p => l.getD p false) (exO p.1.kind (.slice ia p.1.items.length ic) p.1.text (rfE (nmOf rs) p.1 0) (.slice (some ⟨pg, 0, none⟩) p.1.parts.length pc)) (t + 1) (acc ++ fs[t]) v3 w3) := by
            refine ⟨HO3.out, HB3.out, HINT3.out, ?_⟩
            rw [HI.out.join, HJ.out, List.append_assoc, if_neg (by simp)]
          go_wp2_with fail
          go_roundg (p.1.parts.length - (t + 1))
          case measure => omega
          case rel => exact ⟨t + 1, _, rfl, by go_num, by omega, HN⟩
        · have hlt' : ¬ (t : Int) < p.1.parts.length := by omega
          have hr : acc = joinF false fs (p.1.parts.map fun p => l.getD p false) := by
            rw [HI.out.join, List.drop_eq_nil_of_le (show fs.length ≤ t by omega)]; simp [joinF]
          have HRR := hideP hr
          clear hr
          go_wp2_with fail
          go_ret
          have hend := own_mono HI.out.out (show w.heap.size ≤ w.heap.size + 1 by omega)
          have hacc := HRR.out
          subst hacc
          exact ⟨_, rfl, hend, HI.out.below⟩
end Go.Proofs.YtiganlkabilblaaGreatDoor
namespace Go.Proofs.YtiganlkabilblaaGreatDoor
open Go.RowKit
attribute [local go_sem ↓] Go.wp_at_zero Go.wp_at_succ
/-- A row of numbers from some place of a block on, with its spare room. -/
def Todo (w : World) (B : Nat) (v : Value) (ns : List Nat) : Prop := ∃ ao b off cap, v = .slice ao ns.length cap ∧ Came w 1 ao b off ns.length cap (ns.map intV) ∧ (0 < cap → B ≤ b) ∧ cap ≤ maxLen
theorem Todo.ofInts {w : World} {B : Nat} {v : Value} {ns : List Nat} (h : Ints w B v ns) : Todo w B v ns := by
  have h' := h
  rcases h'.2 with ⟨rfl, h0⟩ | ⟨g, cap, cur, rfl, hB, hg, h1, h2, h3, h4⟩
  · have : ns = [] := List.length_eq_zero_iff.1 h0
    subst this
    exact ⟨none, 0, 0, 0, rfl, ⟨Nat.le_refl _, fun h => absurd h (by omega), fun h => absurd h (by omega), rfl, fun j u hu => by simp at hu, fun j hj => by simp at hj⟩, fun h => absurd h (by omega), by omega⟩
  · refine ⟨_, g, 0, cap, rfl, ⟨h1, fun _ => rfl, fun _ => heap_lt' hg, by simp, ?_, ?_⟩, fun _ => hB, h2⟩
    · intro j u hu
      have hj : j < ns.length := by
        have := (List.getElem?_eq_some_iff.1 hu).1
        simpa using this
      have := h.cellAt (g := g) j (by omega)
      rw [Nat.zero_add, this]; exact hu
    · intro j hj
      refine ⟨?_, frozen_of_block hg _⟩
      rw [cell_of_block hg]
      have : 0 + ns.length * 1 + j < cur.size := by omega
      rw [Array.getElem?_eq_getElem this]; rfl
theorem Todo.kept {w w' : World} {B : Nat} {v : Value} {ns : List Nat} (h : Todo w B v ns) (hb : Below w.heap.size w w') : Todo w' B v ns := by
  obtain ⟨ao, b, off, cap, h1, hc, h2, h3⟩ := h
  refine ⟨ao, b, off, cap, h1, ⟨hc.le, hc.addr, fun h => Nat.lt_of_lt_of_le (hc.lt h) hb.size, hc.oldsLen, ?_, ?_⟩, h2, h3⟩
  · intro j u hu
    have hj : j < ns.length := by
      have := (List.getElem?_eq_some_iff.1 hu).1
      simpa using this
    rw [World.cell?_of_block (a := ⟨b, off + j, none⟩) (hb.block b (hc.lt (by have := hc.le; omega)))]
    exact hc.olds j u hu
  · intro j hj
    have := hc.spare j hj
    have hbl := hb.block b (hc.lt (by omega))
    rw [World.cell?_of_block (a := ⟨b, _, none⟩) hbl, World.frozen?_of_block (a := ⟨b, _, none⟩) hbl]
    exact this
/-- The first is taken off. -/
theorem Todo.tail {w : World} {B : Nat} {k : Nat} {ns : List Nat} {v : Value} (h : Todo w B v (k :: ns)) : ∃ b off cap, v = .slice (some ⟨b, off, none⟩) (ns.length + 1) (cap + 1) ∧ B ≤ b ∧ b < w.heap.size ∧ w.cell? ⟨b, off, none⟩ = some (.int .i64 k) ∧ cap + 1 ≤ maxLen ∧ ns.length ≤ cap ∧
    Todo w B (.slice (some ⟨b, off + 1, none⟩) ns.length cap) ns := by
  obtain ⟨ao, b, off, cap, h1, hc, h2, h3⟩ := h
  have hle := hc.le
  simp only [List.length_cons] at hle
  obtain ⟨c, rfl⟩ : ∃ c, cap = c + 1 := ⟨cap - 1, by omega⟩
  have ha := hc.addr (by omega)
  subst ha
  have h0 := hc.olds 0 (intV k) (by simp)
  refine ⟨b, off, c, by rw [h1]; rfl, h2 (by omega), hc.lt (by omega), h0, h3, by omega, ⟨_, b, off + 1, c, rfl, ⟨by omega, fun _ => rfl, fun _ => hc.lt (by omega), by simp, ?_, ?_⟩, fun _ => h2 (by omega), by omega⟩⟩
  · intro j u hu
    have := hc.olds (j + 1) u (by simpa using hu)
    rw [show off + 1 + j = off + (j + 1) from by omega]; exact this
  · intro j hj
    have := hc.spare j (by simp only [List.length_cons]; omega)
    simp only [List.length_cons] at this
    rw [show off + 1 + ns.length * 1 + j = off + (ns.length + 1) * 1 + j from by omega]; exact this
theorem setCells_tape (b : Nat) : ∀ (vs : List Value) (o : Nat) (w : World), (w.setCells b o vs).tape = w.tape ∧ (w.setCells b o vs).heap.size = w.heap.size
  | [], _, _ => ⟨rfl, rfl⟩
  | v :: r, o, w => by
    have := setCells_tape b r (o + 1) (w.setCell ⟨b, o, none⟩ v)
    simp only [World.setCells]
    exact ⟨this.1, by rw [this.2]; simp⟩
/-- What an append leaves. -/
structure Fr (B : Nat) (w w' : World) : Prop where
  os : w'.os = w.os
  tape : w'.tape = w.tape
  output : w'.output = w.output
  size : w.heap.size ≤ w'.heap.size
  block : ∀ k, k < w.heap.size → k < B → w'.heap[k]? = w.heap[k]?
theorem ints_one {ms : List Nat} : ∀ u ∈ ms.map intV, u.oneCell' = true := by
  intro u hu
  obtain ⟨n, _, rfl⟩ := List.mem_map.1 hu
  rfl
theorem Ints.src {w : World} {B : Nat} {v : Value} {ns : List Nat} (h : Ints w B v ns) : Src Tryz.prog 1 40 v ns.length (ns.map intV) w := by
  have h' := h
  rcases h'.2 with ⟨rfl, h0⟩ | ⟨g, cap, cur, rfl, hB, hg, h1, h2, h3, h4⟩
  · have : ns = [] := List.length_eq_zero_iff.1 h0
    subst this
    exact Src.ofNil w Tryz.underlying40 0
  · refine Src.ofSlice w Tryz.underlying40 ⟨g, 0, none⟩ _ _ _ (by simp) ?_ ints_one
    intro j u hu
    have hj : j < ns.length := by
      have := (List.getElem?_eq_some_iff.1 hu).1
      simpa using this
    have := h.cellAt (g := g) j (by omega)
    rw [show (Addr.add ⟨g, 0, none⟩ j) = ⟨g, j, none⟩ from by unfold Addr.add; split <;> simp_all, this]; exact hu
theorem run_append_todo {w : World} {B B2 : Nat} {v xv : Value} {ns ms : List Nat} (ty : TypeId) (h : Todo w B v ns) (hx : Ints w B2 xv ms) (hb : ns.length + ms.length ≤ 200000) (hB : B ≤ w.heap.size) :
    ∃ v' w', (Builtin.append_ #[40, 40] ty #[v, xv]).run Tryz.prog w = .ok v' w' ∧ Todo w' B v' (ns ++ ms) ∧ Fr B w w' := by
  obtain ⟨i0, hi, hz0, hz1, hz2⟩ := info_parts Tryz.infoInt
  obtain ⟨ao, b, off, cap, rfl, hc, h2, h3⟩ := h
  have hs := hx.src
  rw [← hz1] at hs
  have hle := hc.le
  by_cases hfit : ns.length + ms.length ≤ cap
  · rcases Nat.eq_zero_or_pos cap with h0 | hcap
    · subst h0
      have e1 : ns = [] := List.length_eq_zero_iff.1 (by omega)
      have e2 : ms = [] := List.length_eq_zero_iff.1 (by omega)
      subst e1; subst e2
      exact ⟨_, _, run_append_nothing (P := Tryz.prog) w 40 40 ty 3 i0 Tryz.underlying40 hi ao 0 0 (by omega) xv hs, ⟨ao, b, off, 0, rfl, hc, h2, h3⟩, ⟨rfl, rfl, rfl, Nat.le_refl _, fun _ _ _ => rfl⟩⟩
    · have hao := hc.addr hcap
      subst hao
      have hsp : ∀ j, j < (ms.map intV).length → (w.cell? ⟨b, off + ns.length * i0.size + j, none⟩).isSome = true ∧ w.frozen? ⟨b, off + ns.length * i0.size + j, none⟩ = false := by
        intro j hj
        rw [hz1]; exact hc.spare j (by simp at hj; omega)
      have hrun := run_append_room_src (P := Tryz.prog) w 40 40 ty 3 i0 Tryz.underlying40 hi b off ns.length cap xv ms.length (ms.map intV) hs hfit (fun j hj => (hsp j hj).1) (fun j hj => (hsp j hj).2)
      obtain ⟨ht, hsz⟩ := setCells_tape b (ms.map intV) (off + ns.length * i0.size) w
      refine ⟨_, _, hrun, ⟨_, b, off, cap, by rw [List.length_append], ⟨by rw [List.length_append]; omega, fun _ => rfl, fun _ => by rw [hsz]; exact hc.lt hcap, by simp, ?_, ?_⟩, h2, h3⟩, ⟨World.os_setCells _ _ _ _, ht, World.output_setCells _ _ _ _, by rw [hsz]; exact Nat.le_refl _, fun k hk hkB => World.heap_setCells_other _ _ _ _ hk (by have := h2 hcap; omega)⟩⟩
      · intro j u hu
        rw [List.map_append] at hu
        by_cases hj : j < ns.length
        · rw [World.cell?_setCells_out b _ _ _ _ (fun _ _ => Or.inl (by show off + j < _; rw [hz1]; omega))]
          rw [List.getElem?_append_left (by simpa using hj)] at hu
          exact hc.olds j u hu
        · rw [List.getElem?_append_right (by simp; omega)] at hu
          simp only [List.length_map] at hu
          obtain ⟨hj2, hu2⟩ := List.getElem?_eq_some_iff.1 hu
          have := World.cell?_setCells_in b (ms.map intV) (off + ns.length * i0.size) w (fun j hj => (hsp j hj).1) (j - ns.length) hj2
          rw [show off + ns.length * i0.size + (j - ns.length) = off + j from by rw [hz1]; omega] at this
          rw [this, hu2]
      · intro j hj
        simp only [List.length_append] at hj ⊢
        rw [World.frozen?_setCells, World.cell?_setCells_out b _ _ _ _ (fun _ _ => Or.inr (by show _ ≤ off + (ns.length + ms.length) * 1 + j; rw [hz1]; simp; omega))]
        have := hc.spare (ms.length + j) (by omega)
        rw [show off + (ns.length + ms.length) * 1 + j = off + ns.length * 1 + (ms.length + j) from by omega]; exact this
  · have hg : cap < ns.length + ms.length := by omega
    have hold : (Builtin.firstCells i0.size ns.length (.slice ao ns.length cap)).run Tryz.prog w.drew = .ok (ns.map intV).toArray w.drew := by
      rcases Nat.eq_zero_or_pos cap with h0 | hcap
      · have e1 : ns = [] := List.length_eq_zero_iff.1 (by omega)
        subst e1
        cases ao with
        | none => exact run_firstCells_none w.drew i0.size 0 0 cap
        | some a => exact run_firstCells_some w.drew i0.size 0 a 0 cap [] (by simp) (by simp)
      · have hao := hc.addr hcap
        subst hao
        refine run_firstCells_some w.drew i0.size ns.length ⟨b, off, none⟩ _ _ _ (by simp [hz1]) ?_
        intro j u hu
        rw [Addr.add_lit]
        exact hc.olds j u hu
    have hby : (ns.length + ms.length) * i0.bytes ≤ 140737488355328 := by rw [hz2]; omega
    have hrun := run_append_grow_src (P := Tryz.prog) w 40 40 ty 3 i0 _ Tryz.underlying40 hi hz0 ao ns.length cap (ns.map intV) hold xv ms.length (ms.map intV) hs hg (by omega) (growslice_fits hg hby)
    have hge := grownCap_ge w (ns.length + ms.length) cap 3
    have hcm := grownCap_le_maxLen w (ns.length + ms.length) cap 3 (by unfold maxLen; omega)
    refine ⟨_, _, hrun, Todo.ofInts ⟨by simp, .inr ⟨w.heap.size, _, _, by rw [List.length_append], hB, heap_alloc_same w.drew _, by rw [List.length_append]; exact hge, hcm, ?_, ?_⟩⟩, ⟨rfl, rfl, rfl, by simp, fun k hk _ => Below.heap_alloc w.drew _ k hk⟩⟩
    · have h1 : (Value.int IntKind.i64 0).cells.size = 1 := rfl
      rw [Array.size_append, List.size_toArray, size_zeroCells, h1]
      simp
      omega
    · simp [← List.map_append]
end Go.Proofs.YtiganlkabilblaaGreatDoor
namespace Go.Proofs.YtiganlkabilblaaGreatDoor
open Go.RowKit
attribute [local go_sem ↓] Go.wp_at_zero Go.wp_at_succ
theorem wpList_append_todo {w : World} {ops : Array Oper} {rest : List Oper} {o : Oper} {a : Act} {Q : Exit → Act → World → Prop} (hgd : o.guard = none) (s x : Operand)
    (ho : o.op = .call { callee := .builtin .append, args := #[s, x], argTypes := #[40, 40] }) (B B2 : Nat) (v xv : Value) (ns ms : List Nat) (hs : a.eval s = v) (hv : Todo w B v ns) (hx : a.eval x = xv) (hxv : Ints w B2 xv ms) (hb : ns.length + ms.length ≤ 200000) (hB : B ≤ w.heap.size)
    (h : ∀ v' w', Todo w' B v' (ns ++ ms) → Fr B w w' → wpList Tryz.prog ops Q rest (a.put o.dst v') w') : wpList Tryz.prog ops Q (o :: rest) a w := by
  refine wpList_plain hgd fun K hK' => ?_
  obtain ⟨v', w', hrun, h1, h2⟩ := run_append_todo o.type hv hxv hb hB
  unfold Oper.wp
  simp [execOp, ho, resolve, invoke, builtin, hs, hx, hrun, Result.andThen]
  exact hK' _ _ (h v' w' h1 h2)
theorem Todo.nil0 {w : World} {B : Nat} (ao : Option Addr) : Todo w B (.slice ao 0 0) [] :=
  ⟨ao, 0, 0, 0, rfl, ⟨Nat.le_refl _, fun h => absurd h (by omega), fun h => absurd h (by omega), rfl, fun j u hu => by simp at hu, fun j hj => by simp at hj⟩, fun h => absurd h (by omega), by omega⟩
theorem Todo.other {w w' : World} {B : Nat} {v : Value} {ns : List Nat} (h : Todo w B v ns) (hs : w.heap.size ≤ w'.heap.size) (hb : ∀ k, k < w.heap.size → B ≤ k → w'.heap[k]? = w.heap[k]?) : Todo w' B v ns := by
  obtain ⟨ao, b, off, cap, h1, hc, h2, h3⟩ := h
  refine ⟨ao, b, off, cap, h1, ⟨hc.le, hc.addr, fun h => Nat.lt_of_lt_of_le (hc.lt h) hs, hc.oldsLen, ?_, ?_⟩, h2, h3⟩
  · intro j u hu
    have hj : j < ns.length := by
      have := (List.getElem?_eq_some_iff.1 hu).1
      simpa using this
    have hcp : 0 < cap := by have := hc.le; omega
    rw [World.cell?_of_block (a := ⟨b, off + j, none⟩) (hb b (hc.lt hcp) (h2 hcp))]
    exact hc.olds j u hu
  · intro j hj
    have := hc.spare j hj
    have hcp : 0 < cap := by omega
    have hbl := hb b (hc.lt hcp) (h2 hcp)
    rw [World.cell?_of_block (a := ⟨b, _, none⟩) hbl, World.frozen?_of_block (a := ⟨b, _, none⟩) hbl]
    exact this
/-- What the loop of left keeps. -/
structure LfRel (w : World) (M : Mat) (n rule : Nat) (todo : List Nat) (seen : List Bool) (v : Value) (wr : World) : Prop where
  below : Below w.heap.size w wr
  row : wr.heap[w.heap.size]? = some (boolsO seen)
  tv : Todo wr (w.heap.size + 1) v todo
  inv : LeftInv M n rule todo seen
set_option maxHeartbeats 16000000 in
set_option maxRecDepth 100000 in
theorem rleft_any (w : World) (B gb lb : Nat) (vx vr : Value) (ps : List (Thk.RE × Value × Value)) (rs : List (Thk.Bytes × Nat)) (l : List Bool) (M : Mat) (nx : Nat → List Nat) (rule : Nat) (h : GM w B gb vx vr (ps.map (ruled (nmOf rs))) rs) (hL : w.heap[lb]? = some (boolsO l)) (hrl : rs.length ≤ 20) (hr : rule < rs.length)
    (hret : ∀ k (hk : k < rs.length), RetF B gb lb vx vr ps rs l rs[k].2 (nx k)) (hM : ∀ k j, k < rs.length → (M k j = true ↔ j ∈ nx k)) (hn : ∀ k j, k < rs.length → j ∈ nx k → j < rs.length) (hb : ∀ k, k < rs.length → (nx k).length ≤ 3000) :
    Calls Tryz.prog 68 #[.pointer (some ⟨gb, 0, none⟩), .int .i64 rule, .slice (some ⟨lb, 0, none⟩) ps.length ps.length] w fun e w' => e = .returned (.bool (Wm M rs.length rule rule)) ∧ Below w.heap.size w w' := by
  obtain ⟨rg, rc, rfl, hrB, hrgl⟩ := h.ruAt (by omega)
  have hgl := h.lt
  have hlb := heap_lt' hL
  have q := cell_of_block h.blk
  have hmk := make_boolsN rs.length (by omega) w
  obtain ⟨d0, d1⟩ := h.ruCells rule hr
  have hrI : (rule : Int) < rs.length := by omega
  have hBW := below_alloc w (boolsO (List.replicate rs.length false))
  have hcall := hret rule hr _ (h.below hBW) (by rw [hBW.block _ hlb]; exact hL)
  have hWb : (w.alloc (boolsO (List.replicate rs.length false))).heap[w.heap.size]? = some (boolsO (List.replicate rs.length false)) := heap_alloc_same _ _
  have HRET := hideP hret
  have HMI := hideP hM
  have HN := hideP hn
  have HBD := hideP hb
  have HG := hideP h
  have HL := hideP hL
  have HBW := hideP hBW
  have HWB := hideP hWb
  clear hret hM hn hb h hL d0 hBW hWb
  go_enter Tryz.func68, Tryz.ntmps68
  go_wp2_with fail
  refine hcall.mono ?_
  rintro _ w2 ⟨v2, rfl, hint, hb2⟩
  have hz2 := hb2.size
  simp at hz2
  have HST : Hid (LfRel w M rs.length rule (nx rule) (List.replicate rs.length false) v2 w2) := by
    refine ⟨HBW.out.trans (hb2.mono (by simp)), by rw [hb2.block _ (by simp)]; exact HWB.out, Todo.ofInts ?_, LeftInv.start (fun k => HMI.out rule k hr) (fun k hk => HN.out rule k hr hk)⟩
    have := hint
    simpa using this
  have hun : unseen (List.replicate rs.length false) = rs.length := by simp [unseen]
  have HUN := hideP hun
  have hnb := HBD.out rule hr
  clear hcall hint hb2 hun
  go_wp2_with fail
  go_loopg [8, 9] (3001 * (rs.length + 1)) (fun m vt vk wr => ∃ (todo : List Nat) (seen : List Bool), todo.length + 3001 * unseen seen ≤ m ∧ m ≤ 70000 ∧ Hid (LfRel w M rs.length rule todo seen vt wr))
  case atStart => exact ⟨nx rule, List.replicate rs.length false, by rw [HUN.out]; omega, by omega, HST⟩
  case round =>
    obtain ⟨todo, seen, hm1, hm2, HI⟩ := hrel
    have HM1 := hideP (And.intro hm1 hm2)
    clear hm1 hm2
    cases todo with
    | nil =>
      have hd := HI.out.inv.done
      obtain ⟨ao, b, off, cap, hv, _⟩ := HI.out.tv
      subst hv
      have HD := hideP hd
      clear hd
      go_wp2_with fail
      go_ret
      exact ⟨congrArg (fun b => Ending.returned (Value.bool b)) HD.out.symm, HI.out.below⟩
    | cons k rest =>
      obtain ⟨b, off, cap, hv, hbB, hbl, hck, hcm, hcl, htd⟩ := HI.out.tv.tail
      subst hv
      obtain ⟨hreach, hkn⟩ := HI.out.inv.reach k (by simp)
      have hcm' : (cap : Int) + 1 ≤ 9223372036854775807 := by unfold maxLen at hcm; omega
      have qg0 := q
      rcases Nat.eq_zero_or_pos cap with h0 | h0
      · subst h0
        have hrest : rest = [] := List.length_eq_zero_iff.1 (by omega)
        subst hrest
        have HTD : Hid (Todo wr (w.heap.size + 1) (.slice (some ⟨b, off, none⟩) 0 0) []) := Todo.nil0 _
        clear hcl
        have HRE := hideP hreach
        clear htd hcm hreach hcm' hnb
        have hsz := heap_lt' HI.out.row
        have hsc := bools_cell HI.out.row k (by rw [HI.out.inv.len]; exact hkn)
        have hsf := frozen_of_block HI.out.row k
        have hkI : (k : Int) < rs.length := by omega
        by_cases hkr : k = rule
        · subst hkr
          clear hsc hsf
          go_wp2_with fail
          go_ret
          exact ⟨congrArg (fun b => Ending.returned (Value.bool b)) HRE.out.symm, HI.out.below⟩
        · have hkr' : ¬ (k : Int) = rule := by omega
          cases hs : seen.getD k false with
          | true =>
            rw [hs] at hsc
            have HSK := hideP (HI.out.inv.skip hs)
            go_wp2_with fail
            go_roundg (0 + 3001 * unseen seen)
            case measure => have := HM1.out; simp at this; omega
            case rel => exact ⟨[], seen, by simp, by have := HM1.out; simp at this; omega, HI.out.below, HI.out.row, HTD.out, HSK.out⟩
          | false =>
            rw [hs] at hsc
            have hus := unseen_set seen k (by rw [HI.out.inv.len]; exact hkn) hs
            have hnb := HBD.out k hkn
            have HST2 := hideP (HI.out.inv.step hkr (fun j => HMI.out k j hkn) (fun j hj => HN.out k j hkn hj))
            have hB2 : Below w.heap.size w (wr.setCell ⟨w.heap.size, k, none⟩ (.bool true)) := HI.out.below.setCell (p := ⟨w.heap.size, k, none⟩) (Nat.le_refl _) _
            have hR2 := bools_set HI.out.row k
            have hcall := HRET.out k hkn _ (HG.out.below hB2) (by rw [hB2.block _ hlb]; exact HL.out)
            have qg := cell_of_block (((HI.out.below.block gb hgl).trans HG.out.blk))
            have dk : wr.cell? ⟨rg, k * 2 + 1, none⟩ = some (.int .i64 rs[k].2) := by
              rw [World.cell?_of_block (a := ⟨rg, _, none⟩) (HI.out.below.block rg hrgl)]
              exact (HG.out.ruCells k hkn).2
            have hne1 : ¬ gb = w.heap.size := by omega
            have hne2 : ¬ rg = w.heap.size := by omega
            have HB2 := hideP hB2
            have HR2 := hideP hR2
            have HNB := hideP hnb
            have HUS := hideP hus
            have HTD2 : Hid (Todo (wr.setCell ⟨w.heap.size, k, none⟩ (.bool true)) (w.heap.size + 1) (.slice (some ⟨b, off, none⟩) 0 0) []) := HTD.out.other (by simp) (fun j _ hj => Below.heap_setCell _ _ _ _ (by show j ≠ w.heap.size; omega))
            have HLEN : Hid (([] : List Nat).length + (nx k).length ≤ 200000) := by show _ ≤ _; simp; omega
            clear hB2 hR2 hnb hus q qg0
            go_wp2_with (first
              | (at_builtin; refine wpList_append_todo rfl _ _ rfl (w.heap.size + 1) _ _ _ [] (nx k) rfl (HTD2.out.kept hb3) rfl hint3 HLEN.out (by have := hb3.size; simp at this; omega) ?_)
              | (go_at_call 104; refine hcall.mono ?_; rintro _ w3 ⟨v3, rfl, hint3, hb3⟩))
            intro v4 w4 htd4 hfr4
            have hz3 := hb3.size
            simp at hz3
            have hz4 := hfr4.size
            have HNEW : Hid (LfRel w M rs.length rule ([] ++ nx k) (seen.set k true) v4 w4) := by
              refine ⟨⟨hfr4.os.trans (hb3.os.trans HB2.out.os), hfr4.tape.trans (hb3.tape.trans HB2.out.tape), hfr4.output.trans (hb3.output.trans HB2.out.output), by have := HB2.out.size; simp at this; omega, fun j hj => ?_⟩, ?_, htd4, HST2.out⟩
              · rw [hfr4.block j (by omega) (by omega), hb3.block j (by simp; omega)]
                exact HB2.out.block j hj
              · rw [hfr4.block _ (by omega) (by omega), hb3.block _ (by simp; omega)]
                exact HR2.out
            clear hcall hint3 hb3 htd4 hfr4
            go_wp2_with fail
            go_roundg (([] ++ nx k).length + 3001 * unseen (seen.set k true))
            case measure => have h1 := HM1.out; have h2 := HUS.out; have h3 := HNB.out; simp at h1 ⊢; omega
            case rel => exact ⟨[] ++ nx k, seen.set k true, Nat.le_refl _, by have h1 := HM1.out; have h2 := HUS.out; have h3 := HNB.out; simp at h1 ⊢; omega, HNEW⟩
      · have hcap : ¬ cap = 0 := by omega
        have HTD := hideP htd
        have HRE := hideP hreach
        clear htd hcm hreach hcm' hnb
        have hsz := heap_lt' HI.out.row
        have hsc := bools_cell HI.out.row k (by rw [HI.out.inv.len]; exact hkn)
        have hsf := frozen_of_block HI.out.row k
        have hkI : (k : Int) < rs.length := by omega
        by_cases hkr : k = rule
        · subst hkr
          clear hsc hsf
          go_wp2_with fail
          go_ret
          exact ⟨congrArg (fun b => Ending.returned (Value.bool b)) HRE.out.symm, HI.out.below⟩
        · have hkr' : ¬ (k : Int) = rule := by omega
          cases hs : seen.getD k false with
          | true =>
            rw [hs] at hsc
            have HSK := hideP (HI.out.inv.skip hs)
            go_wp2_with fail
            go_roundg (rest.length + 3001 * unseen seen)
            case measure => have := HM1.out; simp at this; omega
            case rel => exact ⟨rest, seen, Nat.le_refl _, by have := HM1.out; simp at this; omega, HI.out.below, HI.out.row, HTD.out, HSK.out⟩
          | false =>
            rw [hs] at hsc
            have hus := unseen_set seen k (by rw [HI.out.inv.len]; exact hkn) hs
            have hnb := HBD.out k hkn
            have HST2 := hideP (HI.out.inv.step hkr (fun j => HMI.out k j hkn) (fun j hj => HN.out k j hkn hj))
            have hB2 : Below w.heap.size w (wr.setCell ⟨w.heap.size, k, none⟩ (.bool true)) := HI.out.below.setCell (p := ⟨w.heap.size, k, none⟩) (Nat.le_refl _) _
            have hR2 := bools_set HI.out.row k
            have hcall := HRET.out k hkn _ (HG.out.below hB2) (by rw [hB2.block _ hlb]; exact HL.out)
            have qg := cell_of_block (((HI.out.below.block gb hgl).trans HG.out.blk))
            have dk : wr.cell? ⟨rg, k * 2 + 1, none⟩ = some (.int .i64 rs[k].2) := by
              rw [World.cell?_of_block (a := ⟨rg, _, none⟩) (HI.out.below.block rg hrgl)]
              exact (HG.out.ruCells k hkn).2
            have hne1 : ¬ gb = w.heap.size := by omega
            have hne2 : ¬ rg = w.heap.size := by omega
            have HB2 := hideP hB2
            have HR2 := hideP hR2
            have HNB := hideP hnb
            have HUS := hideP hus
            have HTD2 : Hid (Todo (wr.setCell ⟨w.heap.size, k, none⟩ (.bool true)) (w.heap.size + 1) (.slice (some ⟨b, off + 1, none⟩) rest.length cap) rest) := HTD.out.other (by simp) (fun j _ hj => Below.heap_setCell _ _ _ _ (by show j ≠ w.heap.size; omega))
            have HLEN : Hid (rest.length + (nx k).length ≤ 200000) := by have h1 := HM1.out; simp at h1; show _ ≤ _; omega
            clear hB2 hR2 hnb hus q qg0
            go_wp2_with (first
              | (at_builtin; refine wpList_append_todo rfl _ _ rfl (w.heap.size + 1) _ _ _ rest (nx k) rfl (HTD2.out.kept hb3) rfl hint3 HLEN.out (by have := hb3.size; simp at this; omega) ?_)
              | (go_at_call 104; refine hcall.mono ?_; rintro _ w3 ⟨v3, rfl, hint3, hb3⟩))
            intro v4 w4 htd4 hfr4
            have hz3 := hb3.size
            simp at hz3
            have hz4 := hfr4.size
            have HNEW : Hid (LfRel w M rs.length rule (rest ++ nx k) (seen.set k true) v4 w4) := by
              refine ⟨⟨hfr4.os.trans (hb3.os.trans HB2.out.os), hfr4.tape.trans (hb3.tape.trans HB2.out.tape), hfr4.output.trans (hb3.output.trans HB2.out.output), by have := HB2.out.size; simp at this; omega, fun j hj => ?_⟩, ?_, htd4, HST2.out⟩
              · rw [hfr4.block j (by omega) (by omega), hb3.block j (by simp; omega)]
                exact HB2.out.block j hj
              · rw [hfr4.block _ (by omega) (by omega), hb3.block _ (by simp; omega)]
                exact HR2.out
            clear hcall hint3 hb3 htd4 hfr4
            go_wp2_with fail
            go_roundg ((rest ++ nx k).length + 3001 * unseen (seen.set k true))
            case measure => have h1 := HM1.out; have h2 := HUS.out; have h3 := HNB.out; simp at h1 ⊢; omega
            case rel => exact ⟨rest ++ nx k, seen.set k true, Nat.le_refl _, by have h1 := HM1.out; have h2 := HUS.out; have h3 := HNB.out; simp at h1 ⊢; omega, HNEW⟩
end Go.Proofs.YtiganlkabilblaaGreatDoor
namespace Go.Proofs.YtiganlkabilblaaGreatDoor
open Go.RowKit
attribute [local go_sem ↓] Go.wp_at_zero Go.wp_at_succ
theorem str_eq (a b : Thk.Bytes) : (ByteArray.mk a.toArray = ByteArray.mk b.toArray) ↔ a = b := by
  constructor
  · intro h
    have := congrArg (fun x => x.data.toList) h
    simpa using this
  · intro h; rw [h]
abbrev nmOf' (rs : List (Thk.Bytes × Nat)) : List Thk.Bytes := rs.map (·.1)
/-- What names keeps in a round of its own. -/
structure NmRel (w : World) (B gb xg n xc : Nat) (vr : Value) (names : List Thk.Bytes) (ps : List (Thk.RE × Value × Value)) (rs : List (Thk.Bytes × Nat)) (i : Nat) (qs : List (Thk.RE × Value × Value)) (wr : World) : Prop where
  mem : GM wr B gb (.slice (some ⟨xg, 0, none⟩) n xc) vr qs rs
  at_ : NmAt names ps qs i
  below : Below B w wr
set_option maxHeartbeats 16000000 in
set_option maxRecDepth 100000 in
theorem rnames_any (w : World) (B gb : Nat) (vx vr : Value) (ps : List (Thk.RE × Value × Value)) (rs : List (Thk.Bytes × Nat)) (h : GM w B gb vx vr ps rs) (h0 : 0 < ps.length) (h1 : 0 < rs.length) (hl : rs.length ≤ 20) (hpl : ps.length ≤ 100000) :
    Calls Tryz.prog 65 #[.pointer (some ⟨gb, 0, none⟩)] w fun e w' => e = .returned (.tuple #[]) ∧ GM w' B gb vx vr (ps.map (ruled (rs.map (·.1)))) rs ∧ Below B w w' := by
  obtain ⟨xg, xc, rfl, hxB, hxl, hmx⟩ := h.exAt h0
  obtain ⟨rg, rc, rfl, hrB, hrl⟩ := h.ruAt h1
  have HST : Hid (NmRel w B gb xg ps.length xc (.slice (some ⟨rg, 0, none⟩) rs.length rc) (rs.map (·.1)) ps rs 0 ps w) := ⟨h, ⟨rfl, fun j hj => by omega, fun _ _ => rfl⟩, Below.refl _ _⟩
  clear h
  go_enter Tryz.func65, Tryz.ntmps65
  go_wp2_with fail
  go_loopg [2] ps.length (fun m v wr => ∃ (i : Nat) (qs : List (Thk.RE × Value × Value)), m = ps.length - i ∧ v = .int .i64 i ∧ i ≤ ps.length ∧ Hid (NmRel w B gb xg ps.length xc (.slice (some ⟨rg, 0, none⟩) rs.length rc) (rs.map (·.1)) ps rs i qs wr))
  case atStart => exact ⟨0, ps, by omega, rfl, by omega, HST⟩
  case round =>
    obtain ⟨i, qs, rfl, rfl, hi, HR⟩ := hrel
    have q := cell_of_block HR.out.mem.blk
    have hql := HR.out.at_.len
    by_cases hlt : i < ps.length
    · have hlt' : (i : Int) < ps.length := by omega
      have hiq : i < qs.length := by omega
      have hc := HR.out.mem.exCells.2 i hiq
      have hf := HR.out.mem.exCells.1
      obtain ⟨c0, c1, c2, c3, c4⟩ := hc
      have hgx : gb ≠ xg := by
        intro e; subst e
        obtain ⟨cs, hb⟩ := own_blk HR.out.mem.ex (b := gb) rfl
        rw [HR.out.mem.blk] at hb; simp at hb
      have hm1 : rfE (nmOf' rs) qs[i].1 rs.length = -1 := by unfold rfE; split; exact rf_end _ _ _ (by simp [nmOf']); rfl
      have HM := hideP (HR.out.mem.setRule hiq (rfE (nmOf' rs) qs[i].1 rs.length))
      have HB := hideP (HR.out.below.setCell (p := ⟨xg, i * 5 + 3, none⟩) hxB (.int .i64 (rfE (nmOf' rs) qs[i].1 rs.length)))
      have HM1 := hideP hm1
      rw [hm1] at HM HB
      have hf3 := hf (i * 5 + 3)
      have HAT := hideP HR.out.at_
      clear hm1 hf c0 c1 c2 c4
      go_wp2_with fail
      go_loopg [3] rs.length (fun m v wr => ∃ k : Nat, m = k ∧ v = .int .i64 ((k : Int) - 1) ∧ k ≤ rs.length ∧ Hid (GM wr B gb (.slice (some ⟨xg, 0, none⟩) ps.length xc) (.slice (some ⟨rg, 0, none⟩) rs.length rc) (qs.set i ({ qs[i].1 with rule := rfE (nmOf' rs) qs[i].1 k }, qs[i].2)) rs ∧ Below B w wr))
      case atStart => exact ⟨rs.length, rfl, by go_num, Nat.le_refl _, by rw [HM1.out]; exact ⟨HM.out, HB.out⟩⟩
      case round =>
        obtain ⟨k, hmk, rfl, hk, HI⟩ := hrel
        have hisl : i < (qs.set i ({ qs[i].1 with rule := rfE (nmOf' rs) qs[i].1 k }, qs[i].2)).length := by simpa using hiq
        have hc := HI.out.1.exCells.2 i hisl
        simp only [List.getElem_set_self] at hc
        obtain ⟨c0, c1, c2, c3, c4⟩ := hc
        have q2 := cell_of_block HI.out.1.blk
        have hf2 := HI.out.1.exCells.1 (i * 5 + 3)
        by_cases hm0 : k = 0
        · subst hm0
          have HN := hideP (HAT.out.next hiq)
          clear c1 c2 c3 c4 hf2
          go_wp2_with fail
          go_roundg (ps.length - (i + 1))
          case measure => omega
          case rel => exact ⟨i + 1, _, rfl, by go_num, by omega, ⟨HI.out.1, HN.out, HI.out.2⟩⟩
        · obtain ⟨t, rfl⟩ : ∃ t, k = t + 1 := ⟨k - 1, by omega⟩
          have ht : t < rs.length := by omega
          have hr := HI.out.1.ruCells t ht
          obtain ⟨d0, d1⟩ := hr
          have ht' : (t : Int) < rs.length := by omega
          have hstep := rf_step (nmOf' rs) qs[i].1.text t (by simpa [nmOf'] using ht)
          simp only [nmOf', List.getElem_map] at hstep
          have HSTEP := hideP hstep
          have e1 : ((t + 1 : Nat) : Int) - 1 = t := by omega
          rw [e1]
          clear hstep c1 c4 d1
          by_cases hk4 : qs[i].1.kind = 4
          · rw [hk4] at c0
            by_cases hnm : rs[t].1 = qs[i].1.text
            · have hnm' : (ByteArray.mk rs[t].1.toArray = ByteArray.mk qs[i].1.text.toArray) := by rw [hnm]
              have HS := hideP (HI.out.1.setRule hisl t)
              have HSB := hideP (HI.out.2.setCell (p := ⟨xg, i * 5 + 3, none⟩) hxB (.int .i64 t))
              simp only [List.getElem_set_self, List.set_set] at HS
              have hrt : rfE (nmOf' rs) qs[i].1 t = t := by
                unfold rfE; rw [if_pos hk4, HSTEP.out, if_pos hnm]
              go_wp2_with fail
              go_quiet (fail)
              go_wp2_with fail
              go_roundg t
              case measure => omega
              case rel => exact ⟨t, rfl, by go_num, by omega, by rw [hrt]; exact ⟨HS.out.kept (fun _ _ => rfl), (below_drewN HI.out.2 _).setCell hxB _⟩⟩
            · have hnm2 : (rs[t].1 == qs[i].1.text) = false := by simpa using hnm
              have hnm' : decide (ByteArray.mk rs[t].1.toArray = ByteArray.mk qs[i].1.text.toArray) = false := by
                rw [decide_eq_false_iff_not, str_eq]; exact hnm
              have hrt : rfE (nmOf' rs) qs[i].1 (t + 1) = rfE (nmOf' rs) qs[i].1 t := by
                unfold rfE; rw [if_pos hk4, if_pos hk4, HSTEP.out, if_neg hnm]
              go_wp2_with fail
              go_quiet (fail)
              go_wp2_with fail
              go_roundg t
              case measure => omega
              case rel => exact ⟨t, rfl, by go_num, by omega, by rw [← hrt]; exact ⟨HI.out.1.kept (fun _ _ => rfl), below_drewN HI.out.2 _⟩⟩
          · have hk4' : decide ((qs[i].1.kind : Int) = 4) = false := by simp; omega
            have hk5' : ((qs[i].1.kind : Int) == 4) = false := by simp; omega
            have hk6' : (qs[i].1.kind == 4) = false := by simpa using hk4
            have hrt : rfE (nmOf' rs) qs[i].1 (t + 1) = rfE (nmOf' rs) qs[i].1 t := by
              unfold rfE; rw [if_neg hk4, if_neg hk4]
            go_wp2_with fail
            go_quiet (fail)
            go_wp2_with fail
            go_roundg t
            case measure => omega
            case rel => exact ⟨t, rfl, by go_num, by omega, by rw [← hrt]; exact ⟨HI.out.1.kept (fun _ _ => rfl), below_drewN HI.out.2 _⟩⟩
    · have hie : i = ps.length := by omega
      have hlt' : ¬ (i : Int) < ps.length := by omega
      go_wp2_with fail
      go_end0
      refine ⟨rfl, ?_, HR.out.below⟩
      have := HR.out.at_
      rw [hie] at this
      rw [← this.done]; exact HR.out.mem
end Go.Proofs.YtiganlkabilblaaGreatDoor
namespace Go.Proofs.YtiganlkabilblaaGreatDoor
open Go.RowKit
attribute [local go_sem ↓] Go.wp_at_zero Go.wp_at_succ
theorem hideR {p : Prop} (h : p) : Hid p := h
theorem ruC_set (rr : List (Thk.Bytes × Nat)) (r : Thk.Bytes × Nat) (u : Nat) : ((rr ++ [r]).flatMap ruC).set (rr.length * 2 + 1) (.int .i64 u) = (rr ++ [(r.1, u)]).flatMap ruC := by
  rw [List.flatMap_append, List.set_append_right _ _ (by rw [ruC_len]; omega), ruC_len, show rr.length * 2 + 1 - rr.length * 2 = 1 from by omega, List.flatMap_append]
  simp [ruC]
/-- The last rule's body anew. -/
theorem Mem.setBody {w : World} {B rb : Nat} {M : MV} {lab : Nat → Nat} (h : Mem w B rb M lab (· = 0)) {rr : List (Thk.Bytes × Nat)} {r : Thk.Bytes × Nat} (hr : M.rs = rr ++ [r]) {rg rc : Nat} (hv : M.vr = .slice (some ⟨rg, 0, none⟩) (rr.length + 1) rc) (n : Nat) :
    Mem (w.setCell ⟨rg, rr.length * 2 + 1, none⟩ (.int .i64 n)) B rb { M with rs := rr ++ [(r.1, n)] } lab (· = 0) ∧ KT B w (w.setCell ⟨rg, rr.length * 2 + 1, none⟩ (.int .i64 n)) := by
  have c := Chg.set rg (rr.length * 2 + 1) (.int .i64 n) w
  have hru := h.ru
  rw [hv, hr] at hru
  obtain ⟨cs, hrb⟩ := own_blk hru (b := rg) rfl
  have hnr : rb ≠ rg := by
    intro e1; subst e1
    have := own_ty hru h.blk (by decide)
    simp [Value.ownBlock] at this
  have hru' : w.ownsRow B 90 2 (.slice (some ⟨rg, 0, none⟩) (rr.length + 1) rc) (rr.length + 1) ((rr ++ [r]).flatMap ruC) := by simpa using hru
  have hst := (hru'.stored (rr.length * 2 + 1) (.int .i64 n)).1
  rw [ruC_set] at hst
  refine ⟨⟨h.ge, by rw [c.same rb h.lt hnr]; exact h.blk, own_keep c h.ex (own_ty h.ex hrb (by decide)), ?_, own_keep c h.op (own_ty h.op hrb (by decide)), fun p hp => own_keep c (h.items p hp) (own_ty (h.items p hp) hrb (by decide)), fun p hp => ⟨own_keep c (h.parts p hp).1 (own_ty (h.parts p hp).1 hrb (by decide)), (h.parts p hp).2⟩, ?_⟩, KT.chg c (by have := h.lt; have := h.ge; omega) (hru.lt rg rfl).1 (fun cs' t fr hb => by rw [hrb] at hb; simp at hb; rw [← hb.2.1]; decide)⟩
  · simp only [hv, List.length_append, List.length_singleton]; exact hst
  · intro j hj
    obtain ⟨h1, h2, h3, h4⟩ := h.opens j hj
    exact ⟨own_keep c h1 (own_ty h1 hrb (by decide)), h2, own_keep c h3 (own_ty h3 hrb (by decide)), h4⟩
set_option maxHeartbeats 8000000 in
set_option maxRecDepth 100000 in
theorem rrule1_any (w : World) (B rb : Nat) (M : MV) (lab : Nat → Nat) (h : Mem w B rb M lab (· = 0)) (rr : List (Thk.Bytes × Nat)) (r : Thk.Bytes × Nat) (hrs : M.rs = rr ++ [r]) (mr : List (Thk.OP × Value × Value)) (m : Thk.OP × Value × Value) (ho : M.os = mr ++ [m]) (hb0 : M.xs.length ≤ 90000) (hb1 : m.1.seqs.length ≤ 90000) (hb2 : mr.length ≤ 90000) (hb3 : rr.length ≤ 90000) :
    Calls Tryz.prog 98 #[.pointer (some ⟨rb, 0, none⟩)] w fun e' w' => RdPost w B rb { M.st.closed with rs := rr ++ [(r.1, M.xs.length + 1)] } (.tuple #[]) e' w' := by
  have hcl := rclosed_any w B rb M lab h mr m ho hb0 hb1 hb2
  have c1 : w.cell? ⟨rb, 1, none⟩ = some M.vr := cell_of_block h.blk 1
  have hru := h.ru
  rw [hrs] at hru
  obtain ⟨rg, rc, hv, _, _⟩ := hru.form (by simp)
  rw [hv] at c1
  have hlr : (rr ++ [r]).length = rr.length + 1 := by simp
  rw [hlr] at c1
  have hcr : M.st.closed.rs = rr ++ [r] := by
    show M.st.rs = _
    exact hrs
  have HCR := hideR hcr
  have hp0 : (0 : Int) < (rr.length : Int) + 1 := by omega
  clear h hrs ho hru hv hlr hcr
  go_enter Tryz.func98, Tryz.ntmps98
  go_wp2_with fail
  refine hcl.mono ?_
  rintro e1 w1 ⟨rfl, M1, lab1, hM1, hK1, hS1⟩
  have hr1 : M1.rs = rr ++ [r] := by
    have e1 : M1.st.rs = M1.rs := rfl
    rw [← e1, hS1]; exact HCR.out
  have hru1 := hM1.ru
  rw [hr1] at hru1
  obtain ⟨rg1, rc1, hv1, hgB, hgl⟩ := hru1.form (by simp)
  have hlr : (rr ++ [r]).length = rr.length + 1 := by simp
  rw [hlr] at hv1
  have d1 : w1.cell? ⟨rb, 1, none⟩ = some M1.vr := cell_of_block hM1.blk 1
  rw [hv1] at d1
  have hru2 := hru1
  rw [hv1] at hru2
  simp only [hlr] at hru2
  have d2 : w1.cell? ⟨rg1, rr.length * 2 + 1, none⟩ = some (.int .i64 r.2) := by
    rw [hru2.cellAt _ (by omega), List.flatMap_append, List.getElem?_append_right (by rw [ruC_len]; omega), ruC_len, show rr.length * 2 + 1 - rr.length * 2 = 1 from by omega]
    simp [ruC]
  have d3 : w1.frozen? ⟨rg1, rr.length * 2 + 1, none⟩ = false := hru2.frozenAt _
  have hL : (rr.length : Int) < (rr.length : Int) + 1 := by omega
  have HM1 := hideR hM1
  have HR1 := hideR hr1
  have HV1 := hideR hv1
  have HK1 := hideR hK1
  have HS1 := hideR hS1
  have hrl := hM1.lt
  clear hcl hM1 hr1 hru1 hv1 hlr hru2 hK1 hS1 c1
  go_wp2_with fail
  go_region
  go_wp2_with fail
  obtain ⟨hM2, hK2⟩ := HM1.out.setBody HR1.out HV1.out (M.xs.length + 1)
  have hM2 := hM2.drew
  have hK2 := hK2.drew
  go_end0
  refine ⟨rfl, _, _, hM2, HK1.out.trans hK2, ?_⟩
  have e1 := HS1.out
  rw [← e1]
  rfl
set_option maxHeartbeats 8000000 in
set_option maxRecDepth 100000 in
theorem rrule0_any (w : World) (B rb : Nat) (M : MV) (lab : Nat → Nat) (h : Mem w B rb M lab (· = 0)) (hrs : M.rs = []) :
    Calls Tryz.prog 98 #[.pointer (some ⟨rb, 0, none⟩)] w fun e' w' => e' = .returned (.tuple #[]) ∧ w' = w := by
  have c1 : w.cell? ⟨rb, 1, none⟩ = some M.vr := cell_of_block h.blk 1
  have hru := h.ru
  rw [hrs] at hru
  obtain ⟨ra, rc, hv⟩ := own_form hru
  rw [hv] at c1
  simp only [List.length_nil] at c1
  clear h hrs hru hv
  go_enter Tryz.func98, Tryz.ntmps98
  go_wp2_with fail
  go_end0
  exact ⟨rfl, rfl⟩
end Go.Proofs.YtiganlkabilblaaGreatDoor
