import Derived.Test.YtjmcdklhaieldaaGreatDoorTC
import Derived.Test.YtjmcdklhaieldaaGreatDoorNA
import Derived.Laws.AppendOwnNone
import Derived.Deep.Upon
set_option linter.all false
namespace Go.Proofs.YtjmcdklhaieldaaGreatDoor
open Go.RowKit
attribute [local go_sem ↓] Go.wp_at_zero Go.wp_at_succ

/-- Numbers behind numbers, whatever their rows are. -/
theorem wpList_append_ints {w : World} {ops : Array Oper} {rest : List Oper} {o : Oper} {a : Act} {Q : Exit → Act → World → Prop} (hgd : o.guard = none) (s x : Operand)
    (ho : o.op = .call { callee := .builtin .append, args := #[s, x], argTypes := #[38, 38] }) (B B2 : Nat) (v xv : Value) (ns ms : List Nat) (hs : a.eval s = v) (hv : Ints w B v ns) (hx : a.eval x = xv) (hxv : Ints w B2 xv ms) (hb : ns.length + ms.length ≤ 200000) (hB : B ≤ w.heap.size)
    (h : ∀ v' w', Ints w' B v' (ns ++ ms) → w.grownBy w' v.ownBlock → wpList Tryz.prog ops Q rest (a.put o.dst v') w') : wpList Tryz.prog ops Q (o :: rest) a w := by
  obtain ⟨i0, hi, hz0, hz1, hz2⟩ := info_parts Tryz.infoInt
  have hx2 := hxv
  rcases hx2.2 with ⟨h0, h1⟩ | ⟨g, cap, cur, h0, _, hg, hc1, hc2, _⟩
  · rw [h0] at hx
    refine wpList_append_own_none hgd s x 38 ho B 3 i0 1 Tryz.underlying38 hi v ns.length (ns.map intV) hs hv hx (h v w ?_ ⟨rfl, rfl, rfl, Nat.le_refl _, fun _ _ _ => rfl⟩)
    have : ms = [] := List.length_eq_zero_iff.1 h1
    rw [this, List.append_nil]; exact hv
  · rw [h0] at hx
    refine wpList_append_own w hgd s x 38 ho B 3 i0 _ 1 8 Tryz.underlying38 hi hz0 hz1 hz2 rfl (by decide) v ns.length (ns.map intV) hs hv ⟨g, 0, none⟩ ms.length cap (ms.map intV) hx (by simp) ?_ ?_ (by unfold maxLen; omega) (by omega) hB ?_
    · intro j u hu
      have hj : j < ms.length := by
        have := (List.getElem?_eq_some_iff.1 hu).1
        simpa using this
      rw [h0] at hxv
      have := hxv.cellAt (g := g) j (by omega)
      rw [show (Addr.add ⟨g, 0, none⟩ j) = ⟨g, j, none⟩ from by unfold Addr.add; split <;> simp_all, this]; exact hu
    · intro u hu
      obtain ⟨n, _, rfl⟩ := List.mem_map.1 hu
      rfl
    · intro v' w' h2 h3 _
      refine h v' w' ?_ h3
      unfold Ints
      simpa using h2

/-- firsts at an expression tells fs. -/
def RetF (B gb lb : Nat) (vx vr : Value) (ps : List (Thk.RE × Value × Value)) (rs : List (Thk.Bytes × Nat)) (l : List Bool) (k : Nat) (fs : List Nat) : Prop :=
  ∀ w, GM w B gb vx vr (ps.map (ruled (nmOf rs))) rs → w.heap[lb]? = some (boolsO l) →
    Calls Tryz.prog 86 #[.pointer (some ⟨gb, 0, none⟩), .int .i64 k, .slice (some ⟨lb, 0, none⟩) ps.length ps.length] w fun e w' => ∃ v, e = .returned v ∧ Ints w' w.heap.size v fs ∧ Below w.heap.size w w'

/-- What the loop of firsts keeps. -/
structure FiRel (w : World) (fs : List (List Nat)) (sq : Bool) (ls : List Bool) (O : Obj) (k : Nat) (acc : List Nat) (v : Value) (wr : World) : Prop where
  own : wr.heap[w.heap.size]? = some O
  below : Below w.heap.size w wr
  out : Ints wr (w.heap.size + 1) v acc
  join : joinF sq fs ls = acc ++ joinF sq (fs.drop k) (ls.drop k)

theorem joinF_drop (sq : Bool) (fs : List (List Nat)) (ls : List Bool) (k : Nat) (h1 : k < fs.length) (h2 : k < ls.length) : joinF sq (fs.drop k) (ls.drop k) = fs[k] ++ (if sq && !ls[k] then [] else joinF sq (fs.drop (k + 1)) (ls.drop (k + 1))) := by
  rw [List.drop_eq_getElem_cons h1, List.drop_eq_getElem_cons h2]; rfl

theorem FiRel.grown {w : World} {fs : List (List Nat)} {sq : Bool} {ls : List Bool} {O : Obj} {k : Nat} {acc : List Nat} {v : Value} {wr w2 w3 : World}
    (h : FiRel w fs sq ls O k acc v wr) (hb : Below wr.heap.size wr w2) (hg : w2.grownBy w3 v.ownBlock) : w3.heap[w.heap.size]? = some O ∧ Below w.heap.size w w3 := by
  have hs := h.below.size
  have hs2 := hb.size
  have hs3 := hg.size
  have hol := heap_lt' h.own
  have hlo : ∀ k, k ≤ w.heap.size → w3.heap[k]? = wr.heap[k]? := by
    intro k hk
    rw [hg.block k (by omega) (fun e => by have := (h.out.lt k e.symm).1; omega)]
    exact hb.block k (by omega)
  refine ⟨by rw [hlo _ (Nat.le_refl _)]; exact h.own, ?_⟩
  exact ⟨hg.os.trans (hb.os.trans h.below.os), hg.tape.trans (hb.tape.trans h.below.tape), hg.output.trans (hb.output.trans h.below.output), by omega, fun k hk => by rw [hlo k (by omega)]; exact h.below.block k hk⟩

set_option maxHeartbeats 16000000 in
set_option maxRecDepth 100000 in
theorem rfirsts_step (B gb lb : Nat) (vx vr : Value) (ps : List (Thk.RE × Value × Value)) (rs : List (Thk.Bytes × Nat)) (l : List Bool) (hF : Fits ps rs) (hll : l.length = ps.length) : StepF (xsOf ps) (nmOf rs) l (RetF B gb lb vx vr ps rs l) := by
  constructor
  · intro k e hxe hk4 hn w h hL
    have hi : k < ps.length := by
      have := (List.getElem?_eq_some_iff.1 hxe).1
      simpa using this
    obtain ⟨p, xg, xc, ia, ic, pa, pc, hp, hpm, rfl, hxl, c0, c1, c2, c3, c4, hpl, hpn, hpc⟩ := h.exp hi
    have hep : e = p.1 := by
      rw [List.getElem?_map, hp] at hxe
      simpa using hxe.symm
    subst hep
    have hgl := h.lt
    have q := cell_of_block h.blk
    have hkl : (k : Int) < ps.length := by omega
    have hrf := rfE_name (names := nmOf rs) hk4
    rw [if_pos hn] at hrf
    have hid : idx0 (nmOf rs) p.1.text = (nmOf rs).idxOf p.1.text := by unfold idx0; rw [if_pos hn]
    rw [hid]
    obtain ⟨x, hx⟩ : ∃ x, x = (nmOf rs).idxOf p.1.text := ⟨_, rfl⟩
    rw [← hx] at hrf ⊢
    rw [hk4] at c0
    rw [hrf] at c3
    clear hxe h hL hpm hp hrf hid hn hx
    go_enter Tryz.func86, Tryz.ntmps86
    go_wp2_with fail
    go_ret
    refine ⟨_, rfl, ⟨by simp, .inr ⟨w.heap.size + 1, 1, _, rfl, by omega, heap_alloc_at _ _ _ (by simp), by simp, by unfold maxLen; omega, rfl, rfl⟩⟩, (below_alloc _ _).alloc (by simp) _⟩
  · intro k e fs hxe hk4 hall hbd w h hL
    have hi : k < ps.length := by
      have := (List.getElem?_eq_some_iff.1 hxe).1
      simpa using this
    obtain ⟨p, xg, xc, ia, ic, pa, pc, hp, hpm, rfl, hxl, c0, c1, c2, c3, c4, hpl, hpn, hpc⟩ := h.exp hi
    have hep : e = p.1 := by
      rw [List.getElem?_map, hp] at hxe
      simpa using hxe.symm
    subst hep
    have hlen := hall.len
    have hlb := heap_lt' hL
    have hgl := h.lt
    have q := cell_of_block h.blk
    have hfit := hF.ex p hpm
    have hkl : (k : Int) < ps.length := by omega
    obtain ⟨O, hO⟩ : ∃ O, O = exO p.1.kind (.slice ia p.1.items.length ic) p.1.text (rfE (nmOf rs) p.1 0) (.slice pa p.1.parts.length pc) := ⟨_, rfl⟩
    have HS : Hid (FiRel w fs (p.1.kind == 5) (p.1.parts.map fun p => l.getD p false) O 0 [] (.slice none 0 0) (w.alloc O)) :=
      ⟨heap_alloc_same _ _, below_alloc _ _, World.ownsRow_nil _ _ _ _, by simp⟩
    have HALL := hideP hall
    have HL := hideP hL
    have HM := hideP h
    have HFIT := hideP hfit
    have HBD := hideP hbd
    have HB0 := hideP (below_alloc w O)
    clear hxe hall h hL hF hpm hp hfit hbd
    by_cases hk5 : p.1.kind = 5
    · rw [show (p.1.kind == 5) = true from by simpa using hk5] at HS HBD ⊢
      rw [hk5] at c0 hO
      subst hO
      go_enter Tryz.func86, Tryz.ntmps86
      go_wp2_with fail
      go_loopg [8, 9] p.1.parts.length (fun m vo vi wr => ∃ (t : Nat) (acc : List Nat), m = p.1.parts.length - t ∧ vi = .int .i64 t ∧ t ≤ p.1.parts.length ∧ Hid (FiRel w fs true (p.1.parts.map fun p => l.getD p false) (exO 5 (.slice ia p.1.items.length ic) p.1.text (rfE (nmOf rs) p.1 0) (.slice pa p.1.parts.length pc)) t acc vo wr))
      case atStart => exact ⟨0, [], by omega, rfl, by omega, HS⟩
      case round =>
        obtain ⟨t, acc, rfl, rfl, ht, HI⟩ := hrel
        have eq := cell_of_block HI.out.own
        have elt := heap_lt' HI.out.own
        by_cases hlt : t < p.1.parts.length
        · have hlt' : (t : Int) < p.1.parts.length := by omega
          obtain ⟨pg, rfl, hpg, hpcell⟩ := hpc t hlt
          have hpcell2 : wr.cell? ⟨pg, t, none⟩ = some (.int .i64 p.1.parts[t]) := by rw [World.cell?_of_block (a := ⟨pg, t, none⟩) (HI.out.below.block pg hpg)]; exact hpcell
          have hfit := HFIT.out.1 p.1.parts[t] (List.getElem_mem hlt)
          have hfit' : (p.1.parts[t] : Int) < ps.length := by omega
          have htf : t < fs.length := by omega
          have hcall := HALL.out.get t hlt htf wr (HM.out.below HI.out.below) (by rw [HI.out.below.block _ hlb]; exact HL.out)
          have HJ := hideP (joinF_drop true fs (p.1.parts.map fun p => l.getD p false) t htf (by simpa using hlt))
          have HBN : Hid (acc.length + fs[t].length ≤ 100000) := by
            have h1 := HBD.out
            rw [HI.out.join, HJ.out] at h1
            simp only [List.length_append] at h1
            show _ ≤ _
            omega
          have HPC := hideP hpcell
          clear hpcell
          go_wp2_with (first
            | (at_builtin; refine wpList_append_ints rfl _ _ rfl (w.heap.size + 1) wr.heap.size _ _ acc fs[t] rfl (own_below HI.out.out hb2) rfl hint (by have := HBN.out; omega) (by have := hb2.size; omega) ?_)
            | (go_at_call 86; refine hcall.mono ?_; rintro _ w2 ⟨v2, rfl, hint, hb2⟩))
          intro v3 w3 hint3 hg3
          obtain ⟨ho3, hb3⟩ := HI.out.grown hb2 hg3
          have eq3 := cell_of_block ho3
          have elt3 := heap_lt' ho3
          have hpcell3 : w3.cell? ⟨pg, t, none⟩ = some (.int .i64 p.1.parts[t]) := by rw [World.cell?_of_block (a := ⟨pg, t, none⟩) (hb3.block pg hpg)]; exact HPC.out
          have hlc := bools_cell (w := w3) (lb := lb) (l := l) (by rw [hb3.block _ hlb]; exact HL.out) p.1.parts[t] (by omega)
          have HINT3 := hideP hint3
          have HO3 := hideP ho3
          have HB3 := hideP hb3
          clear hcall hint hb2 hint3 ho3 hb3 hg3 eq hpcell2
          cases hb : l.getD p.1.parts[t] false with
          | true =>
            rw [hb] at hlc
            have HN : Hid (FiRel w fs true (p.1.parts.map fun p => l.getD p false) (exO 5 (.slice ia p.1.items.length ic) p.1.text (rfE (nmOf rs) p.1 0) (.slice (some ⟨pg, 0, none⟩) p.1.parts.length pc)) (t + 1) (acc ++ fs[t]) v3 w3) := by
              refine ⟨HO3.out, HB3.out, HINT3.out, ?_⟩
              rw [HI.out.join, HJ.out, List.append_assoc, if_neg (by simp only [List.getElem_map]; rw [hb]; simp)]
            go_wp2_with fail
            go_roundg (p.1.parts.length - (t + 1))
            case measure => omega
            case rel => exact ⟨t + 1, _, rfl, by go_num, by omega, HN⟩
          | false =>
            rw [hb] at hlc
            have hr : acc ++ fs[t] = joinF true fs (p.1.parts.map fun p => l.getD p false) := by
              rw [HI.out.join, HJ.out, if_pos (by simp only [List.getElem_map]; rw [hb]; rfl)]; simp
            have HRR := hideP hr
            clear hr
            go_wp2_with fail
            go_ret
            exact ⟨_, rfl, by rw [← HRR.out]; exact own_mono HINT3.out (by omega), HB3.out⟩
        · have hlt' : ¬ (t : Int) < p.1.parts.length := by omega
          have hr : acc = joinF true fs (p.1.parts.map fun p => l.getD p false) := by
            rw [HI.out.join, List.drop_eq_nil_of_le (show fs.length ≤ t by omega)]; simp [joinF]
          have HRR := hideP hr
          clear hr
          go_wp2_with fail
          go_ret
          have hend := own_mono HI.out.out (show w.heap.size ≤ w.heap.size + 1 by omega)
          have hacc := HRR.out
          subst hacc
          exact ⟨_, rfl, hend, HI.out.below⟩
    · rw [show (p.1.kind == 5) = false from by simpa using hk5] at HS HBD ⊢
      have hk1 : ¬ (p.1.kind : Int) = 5 := by omega
      have hk2 : ¬ (p.1.kind : Int) = 4 := by omega
      have hk3 : ((p.1.kind : Int) == 5) = false := by simp; omega
      have hk4b : ((p.1.kind : Int) == 4) = false := by simp; omega
      subst hO
      go_enter Tryz.func86, Tryz.ntmps86
      go_wp2_with fail
      go_loopg [8, 9] p.1.parts.length (fun m vo vi wr => ∃ (t : Nat) (acc : List Nat), m = p.1.parts.length - t ∧ vi = .int .i64 t ∧ t ≤ p.1.parts.length ∧ Hid (FiRel w fs false (p.1.parts.map fun p => l.getD p false) (exO p.1.kind (.slice ia p.1.items.length ic) p.1.text (rfE (nmOf rs) p.1 0) (.slice pa p.1.parts.length pc)) t acc vo wr))
      case atStart => exact ⟨0, [], by omega, rfl, by omega, HS⟩
      case round =>
        obtain ⟨t, acc, rfl, rfl, ht, HI⟩ := hrel
        have eq := cell_of_block HI.out.own
        have elt := heap_lt' HI.out.own
        by_cases hlt : t < p.1.parts.length
        · have hlt' : (t : Int) < p.1.parts.length := by omega
          obtain ⟨pg, rfl, hpg, hpcell⟩ := hpc t hlt
          have hpcell2 : wr.cell? ⟨pg, t, none⟩ = some (.int .i64 p.1.parts[t]) := by rw [World.cell?_of_block (a := ⟨pg, t, none⟩) (HI.out.below.block pg hpg)]; exact hpcell
          have hfit := HFIT.out.1 p.1.parts[t] (List.getElem_mem hlt)
          have hfit' : (p.1.parts[t] : Int) < ps.length := by omega
          have htf : t < fs.length := by omega
          have hcall := HALL.out.get t hlt htf wr (HM.out.below HI.out.below) (by rw [HI.out.below.block _ hlb]; exact HL.out)
          have HJ := hideP (joinF_drop false fs (p.1.parts.map fun p => l.getD p false) t htf (by simpa using hlt))
          have HBN : Hid (acc.length + fs[t].length ≤ 100000) := by
            have h1 := HBD.out
            rw [HI.out.join, HJ.out] at h1
            simp only [List.length_append] at h1
            show _ ≤ _
            omega
          have HPC := hideP hpcell
          clear hpcell
          go_wp2_with (first
            | (at_builtin; refine wpList_append_ints rfl _ _ rfl (w.heap.size + 1) wr.heap.size _ _ acc fs[t] rfl (own_below HI.out.out hb2) rfl hint (by have := HBN.out; omega) (by have := hb2.size; omega) ?_)
            | (go_at_call 86; refine hcall.mono ?_; rintro _ w2 ⟨v2, rfl, hint, hb2⟩))
          intro v3 w3 hint3 hg3
          obtain ⟨ho3, hb3⟩ := HI.out.grown hb2 hg3
          have eq3 := cell_of_block ho3
          have elt3 := heap_lt' ho3
          have hpcell3 : w3.cell? ⟨pg, t, none⟩ = some (.int .i64 p.1.parts[t]) := by rw [World.cell?_of_block (a := ⟨pg, t, none⟩) (hb3.block pg hpg)]; exact HPC.out
          have hlc := bools_cell (w := w3) (lb := lb) (l := l) (by rw [hb3.block _ hlb]; exact HL.out) p.1.parts[t] (by omega)
          have HINT3 := hideP hint3
          have HO3 := hideP ho3
          have HB3 := hideP hb3
          clear hcall hint hb2 hint3 ho3 hb3 hg3 eq hpcell2
          have HN : Hid (FiRel w fs false (p.1.parts.map fun p => l.getD p false) (exO p.1.kind (.slice ia p.1.items.length ic) p.1.text (rfE (nmOf rs) p.1 0) (.slice (some ⟨pg, 0, none⟩) p.1.parts.length pc)) (t + 1) (acc ++ fs[t]) v3 w3) := by
            refine ⟨HO3.out, HB3.out, HINT3.out, ?_⟩
            rw [HI.out.join, HJ.out, List.append_assoc, if_neg (by simp)]
          go_wp2_with fail
          go_roundg (p.1.parts.length - (t + 1))
          case measure => omega
          case rel => exact ⟨t + 1, _, rfl, by go_num, by omega, HN⟩
        · have hlt' : ¬ (t : Int) < p.1.parts.length := by omega
          have hr : acc = joinF false fs (p.1.parts.map fun p => l.getD p false) := by
            rw [HI.out.join, List.drop_eq_nil_of_le (show fs.length ≤ t by omega)]; simp [joinF]
          have HRR := hideP hr
          clear hr
          go_wp2_with fail
          go_ret
          have hend := own_mono HI.out.out (show w.heap.size ≤ w.heap.size + 1 by omega)
          have hacc := HRR.out
          subst hacc
          exact ⟨_, rfl, hend, HI.out.below⟩
end Go.Proofs.YtjmcdklhaieldaaGreatDoor
namespace Go.Proofs.YtjmcdklhaieldaaGreatDoor
open Go.RowKit
attribute [local go_sem ↓] Go.wp_at_zero Go.wp_at_succ

/-- A row of numbers from some place of a block on, with its spare room. -/
def Todo (w : World) (B : Nat) (v : Value) (ns : List Nat) : Prop := ∃ ao b off cap, v = .slice ao ns.length cap ∧ Came w 1 ao b off ns.length cap (ns.map intV) ∧ (0 < cap → B ≤ b) ∧ cap ≤ maxLen

theorem Todo.ofInts {w : World} {B : Nat} {v : Value} {ns : List Nat} (h : Ints w B v ns) : Todo w B v ns := by
  have h' := h
  rcases h'.2 with ⟨rfl, h0⟩ | ⟨g, cap, cur, rfl, hB, hg, h1, h2, h3, h4⟩
  · have : ns = [] := List.length_eq_zero_iff.1 h0
    subst this
    exact ⟨none, 0, 0, 0, rfl, ⟨Nat.le_refl _, fun h => absurd h (by omega), fun h => absurd h (by omega), rfl, fun j u hu => by simp at hu, fun j hj => by simp at hj⟩, fun h => absurd h (by omega), by omega⟩
  · refine ⟨_, g, 0, cap, rfl, ⟨h1, fun _ => rfl, fun _ => heap_lt' hg, by simp, ?_, ?_⟩, fun _ => hB, h2⟩
    · intro j u hu
      have hj : j < ns.length := by
        have := (List.getElem?_eq_some_iff.1 hu).1
        simpa using this
      have := h.cellAt (g := g) j (by omega)
      rw [Nat.zero_add, this]; exact hu
    · intro j hj
      refine ⟨?_, frozen_of_block hg _⟩
      rw [cell_of_block hg]
      have : 0 + ns.length * 1 + j < cur.size := by omega
      rw [Array.getElem?_eq_getElem this]; rfl

theorem Todo.kept {w w' : World} {B : Nat} {v : Value} {ns : List Nat} (h : Todo w B v ns) (hb : Below w.heap.size w w') : Todo w' B v ns := by
  obtain ⟨ao, b, off, cap, h1, hc, h2, h3⟩ := h
  refine ⟨ao, b, off, cap, h1, ⟨hc.le, hc.addr, fun h => Nat.lt_of_lt_of_le (hc.lt h) hb.size, hc.oldsLen, ?_, ?_⟩, h2, h3⟩
  · intro j u hu
    have hj : j < ns.length := by
      have := (List.getElem?_eq_some_iff.1 hu).1
      simpa using this
    rw [World.cell?_of_block (a := ⟨b, off + j, none⟩) (hb.block b (hc.lt (by have := hc.le; omega)))]
    exact hc.olds j u hu
  · intro j hj
    have := hc.spare j hj
    have hbl := hb.block b (hc.lt (by omega))
    rw [World.cell?_of_block (a := ⟨b, _, none⟩) hbl, World.frozen?_of_block (a := ⟨b, _, none⟩) hbl]
    exact this

/-- The first is taken off. -/
theorem Todo.tail {w : World} {B : Nat} {k : Nat} {ns : List Nat} {v : Value} (h : Todo w B v (k :: ns)) : ∃ b off cap, v = .slice (some ⟨b, off, none⟩) (ns.length + 1) (cap + 1) ∧ B ≤ b ∧ b < w.heap.size ∧ w.cell? ⟨b, off, none⟩ = some (.int .i64 k) ∧ cap + 1 ≤ maxLen ∧ ns.length ≤ cap ∧
    Todo w B (.slice (some ⟨b, off + 1, none⟩) ns.length cap) ns := by
  obtain ⟨ao, b, off, cap, h1, hc, h2, h3⟩ := h
  have hle := hc.le
  simp only [List.length_cons] at hle
  obtain ⟨c, rfl⟩ : ∃ c, cap = c + 1 := ⟨cap - 1, by omega⟩
  have ha := hc.addr (by omega)
  subst ha
  have h0 := hc.olds 0 (intV k) (by simp)
  refine ⟨b, off, c, by rw [h1]; rfl, h2 (by omega), hc.lt (by omega), h0, h3, by omega, ⟨_, b, off + 1, c, rfl, ⟨by omega, fun _ => rfl, fun _ => hc.lt (by omega), by simp, ?_, ?_⟩, fun _ => h2 (by omega), by omega⟩⟩
  · intro j u hu
    have := hc.olds (j + 1) u (by simpa using hu)
    rw [show off + 1 + j = off + (j + 1) from by omega]; exact this
  · intro j hj
    have := hc.spare j (by simp only [List.length_cons]; omega)
    simp only [List.length_cons] at this
    rw [show off + 1 + ns.length * 1 + j = off + (ns.length + 1) * 1 + j from by omega]; exact this

theorem setCells_tape (b : Nat) : ∀ (vs : List Value) (o : Nat) (w : World), (w.setCells b o vs).tape = w.tape ∧ (w.setCells b o vs).heap.size = w.heap.size
  | [], _, _ => ⟨rfl, rfl⟩
  | v :: r, o, w => by
    have := setCells_tape b r (o + 1) (w.setCell ⟨b, o, none⟩ v)
    simp only [World.setCells]
    exact ⟨this.1, by rw [this.2]; simp⟩

/-- What an append leaves. -/
structure Fr (B : Nat) (w w' : World) : Prop where
  os : w'.os = w.os
  tape : w'.tape = w.tape
  output : w'.output = w.output
  size : w.heap.size ≤ w'.heap.size
  block : ∀ k, k < w.heap.size → k < B → w'.heap[k]? = w.heap[k]?

theorem ints_one {ms : List Nat} : ∀ u ∈ ms.map intV, u.oneCell' = true := by
  intro u hu
  obtain ⟨n, _, rfl⟩ := List.mem_map.1 hu
  rfl

theorem Ints.src {w : World} {B : Nat} {v : Value} {ns : List Nat} (h : Ints w B v ns) : Src Tryz.prog 1 38 v ns.length (ns.map intV) w := by
  have h' := h
  rcases h'.2 with ⟨rfl, h0⟩ | ⟨g, cap, cur, rfl, hB, hg, h1, h2, h3, h4⟩
  · have : ns = [] := List.length_eq_zero_iff.1 h0
    subst this
    exact Src.ofNil w Tryz.underlying38 0
  · refine Src.ofSlice w Tryz.underlying38 ⟨g, 0, none⟩ _ _ _ (by simp) ?_ ints_one
    intro j u hu
    have hj : j < ns.length := by
      have := (List.getElem?_eq_some_iff.1 hu).1
      simpa using this
    have := h.cellAt (g := g) j (by omega)
    rw [show (Addr.add ⟨g, 0, none⟩ j) = ⟨g, j, none⟩ from by unfold Addr.add; split <;> simp_all, this]; exact hu

theorem run_append_todo {w : World} {B B2 : Nat} {v xv : Value} {ns ms : List Nat} (ty : TypeId) (h : Todo w B v ns) (hx : Ints w B2 xv ms) (hb : ns.length + ms.length ≤ 200000) (hB : B ≤ w.heap.size) :
    ∃ v' w', (Builtin.append_ #[38, 38] ty #[v, xv]).run Tryz.prog w = .ok v' w' ∧ Todo w' B v' (ns ++ ms) ∧ Fr B w w' := by
  obtain ⟨i0, hi, hz0, hz1, hz2⟩ := info_parts Tryz.infoInt
  obtain ⟨ao, b, off, cap, rfl, hc, h2, h3⟩ := h
  have hs := hx.src
  rw [← hz1] at hs
  have hle := hc.le
  by_cases hfit : ns.length + ms.length ≤ cap
  · rcases Nat.eq_zero_or_pos cap with h0 | hcap
    · subst h0
      have e1 : ns = [] := List.length_eq_zero_iff.1 (by omega)
      have e2 : ms = [] := List.length_eq_zero_iff.1 (by omega)
      subst e1; subst e2
      exact ⟨_, _, run_append_nothing (P := Tryz.prog) w 38 38 ty 3 i0 Tryz.underlying38 hi ao 0 0 (by omega) xv hs, ⟨ao, b, off, 0, rfl, hc, h2, h3⟩, ⟨rfl, rfl, rfl, Nat.le_refl _, fun _ _ _ => rfl⟩⟩
    · have hao := hc.addr hcap
      subst hao
      have hsp : ∀ j, j < (ms.map intV).length → (w.cell? ⟨b, off + ns.length * i0.size + j, none⟩).isSome = true ∧ w.frozen? ⟨b, off + ns.length * i0.size + j, none⟩ = false := by
        intro j hj
        rw [hz1]; exact hc.spare j (by simp at hj; omega)
      have hrun := run_append_room_src (P := Tryz.prog) w 38 38 ty 3 i0 Tryz.underlying38 hi b off ns.length cap xv ms.length (ms.map intV) hs hfit (fun j hj => (hsp j hj).1) (fun j hj => (hsp j hj).2)
      obtain ⟨ht, hsz⟩ := setCells_tape b (ms.map intV) (off + ns.length * i0.size) w
      refine ⟨_, _, hrun, ⟨_, b, off, cap, by rw [List.length_append], ⟨by rw [List.length_append]; omega, fun _ => rfl, fun _ => by rw [hsz]; exact hc.lt hcap, by simp, ?_, ?_⟩, h2, h3⟩, ⟨World.os_setCells _ _ _ _, ht, World.output_setCells _ _ _ _, by rw [hsz]; exact Nat.le_refl _, fun k hk hkB => World.heap_setCells_other _ _ _ _ hk (by have := h2 hcap; omega)⟩⟩
      · intro j u hu
        rw [List.map_append] at hu
        by_cases hj : j < ns.length
        · rw [World.cell?_setCells_out b _ _ _ _ (fun _ _ => Or.inl (by show off + j < _; rw [hz1]; omega))]
          rw [List.getElem?_append_left (by simpa using hj)] at hu
          exact hc.olds j u hu
        · rw [List.getElem?_append_right (by simp; omega)] at hu
          simp only [List.length_map] at hu
          obtain ⟨hj2, hu2⟩ := List.getElem?_eq_some_iff.1 hu
          have := World.cell?_setCells_in b (ms.map intV) (off + ns.length * i0.size) w (fun j hj => (hsp j hj).1) (j - ns.length) hj2
          rw [show off + ns.length * i0.size + (j - ns.length) = off + j from by rw [hz1]; omega] at this
          rw [this, hu2]
      · intro j hj
        simp only [List.length_append] at hj ⊢
        rw [World.frozen?_setCells, World.cell?_setCells_out b _ _ _ _ (fun _ _ => Or.inr (by show _ ≤ off + (ns.length + ms.length) * 1 + j; rw [hz1]; simp; omega))]
        have := hc.spare (ms.length + j) (by omega)
        rw [show off + (ns.length + ms.length) * 1 + j = off + ns.length * 1 + (ms.length + j) from by omega]; exact this
  · have hg : cap < ns.length + ms.length := by omega
    have hold : (Builtin.firstCells i0.size ns.length (.slice ao ns.length cap)).run Tryz.prog w.drew = .ok (ns.map intV).toArray w.drew := by
      rcases Nat.eq_zero_or_pos cap with h0 | hcap
      · have e1 : ns = [] := List.length_eq_zero_iff.1 (by omega)
        subst e1
        cases ao with
        | none => exact run_firstCells_none w.drew i0.size 0 0 cap
        | some a => exact run_firstCells_some w.drew i0.size 0 a 0 cap [] (by simp) (by simp)
      · have hao := hc.addr hcap
        subst hao
        refine run_firstCells_some w.drew i0.size ns.length ⟨b, off, none⟩ _ _ _ (by simp [hz1]) ?_
        intro j u hu
        rw [Addr.add_lit]
        exact hc.olds j u hu
    have hby : (ns.length + ms.length) * i0.bytes ≤ 140737488355328 := by rw [hz2]; omega
    have hrun := run_append_grow_src (P := Tryz.prog) w 38 38 ty 3 i0 _ Tryz.underlying38 hi hz0 ao ns.length cap (ns.map intV) hold xv ms.length (ms.map intV) hs hg (by omega) (growslice_fits hg hby)
    have hge := grownCap_ge w (ns.length + ms.length) cap 3
    have hcm := grownCap_le_maxLen w (ns.length + ms.length) cap 3 (by unfold maxLen; omega)
    refine ⟨_, _, hrun, Todo.ofInts ⟨by simp, .inr ⟨w.heap.size, _, _, by rw [List.length_append], hB, heap_alloc_same w.drew _, by rw [List.length_append]; exact hge, hcm, ?_, ?_⟩⟩, ⟨rfl, rfl, rfl, by simp, fun k hk _ => Below.heap_alloc w.drew _ k hk⟩⟩
    · have h1 : (Value.int IntKind.i64 0).cells.size = 1 := rfl
      rw [Array.size_append, List.size_toArray, size_zeroCells, h1]
      simp
      omega
    · simp [← List.map_append]
end Go.Proofs.YtjmcdklhaieldaaGreatDoor
namespace Go.Proofs.YtjmcdklhaieldaaGreatDoor
open Go.RowKit
attribute [local go_sem ↓] Go.wp_at_zero Go.wp_at_succ

theorem wpList_append_todo {w : World} {ops : Array Oper} {rest : List Oper} {o : Oper} {a : Act} {Q : Exit → Act → World → Prop} (hgd : o.guard = none) (s x : Operand)
    (ho : o.op = .call { callee := .builtin .append, args := #[s, x], argTypes := #[38, 38] }) (B B2 : Nat) (v xv : Value) (ns ms : List Nat) (hs : a.eval s = v) (hv : Todo w B v ns) (hx : a.eval x = xv) (hxv : Ints w B2 xv ms) (hb : ns.length + ms.length ≤ 200000) (hB : B ≤ w.heap.size)
    (h : ∀ v' w', Todo w' B v' (ns ++ ms) → Fr B w w' → wpList Tryz.prog ops Q rest (a.put o.dst v') w') : wpList Tryz.prog ops Q (o :: rest) a w := by
  refine wpList_plain hgd fun K hK' => ?_
  obtain ⟨v', w', hrun, h1, h2⟩ := run_append_todo o.type hv hxv hb hB
  unfold Oper.wp
  simp [execOp, ho, resolve, invoke, builtin, hs, hx, hrun, Result.andThen]
  exact hK' _ _ (h v' w' h1 h2)

theorem Todo.nil0 {w : World} {B : Nat} (ao : Option Addr) : Todo w B (.slice ao 0 0) [] :=
  ⟨ao, 0, 0, 0, rfl, ⟨Nat.le_refl _, fun h => absurd h (by omega), fun h => absurd h (by omega), rfl, fun j u hu => by simp at hu, fun j hj => by simp at hj⟩, fun h => absurd h (by omega), by omega⟩

theorem Todo.other {w w' : World} {B : Nat} {v : Value} {ns : List Nat} (h : Todo w B v ns) (hs : w.heap.size ≤ w'.heap.size) (hb : ∀ k, k < w.heap.size → B ≤ k → w'.heap[k]? = w.heap[k]?) : Todo w' B v ns := by
  obtain ⟨ao, b, off, cap, h1, hc, h2, h3⟩ := h
  refine ⟨ao, b, off, cap, h1, ⟨hc.le, hc.addr, fun h => Nat.lt_of_lt_of_le (hc.lt h) hs, hc.oldsLen, ?_, ?_⟩, h2, h3⟩
  · intro j u hu
    have hj : j < ns.length := by
      have := (List.getElem?_eq_some_iff.1 hu).1
      simpa using this
    have hcp : 0 < cap := by have := hc.le; omega
    rw [World.cell?_of_block (a := ⟨b, off + j, none⟩) (hb b (hc.lt hcp) (h2 hcp))]
    exact hc.olds j u hu
  · intro j hj
    have := hc.spare j hj
    have hcp : 0 < cap := by omega
    have hbl := hb b (hc.lt hcp) (h2 hcp)
    rw [World.cell?_of_block (a := ⟨b, _, none⟩) hbl, World.frozen?_of_block (a := ⟨b, _, none⟩) hbl]
    exact this

/-- What the loop of left keeps. -/
structure LfRel (w : World) (M : Mat) (n rule : Nat) (todo : List Nat) (seen : List Bool) (v : Value) (wr : World) : Prop where
  below : Below w.heap.size w wr
  row : wr.heap[w.heap.size]? = some (boolsO seen)
  tv : Todo wr (w.heap.size + 1) v todo
  inv : LeftInv M n rule todo seen

set_option maxHeartbeats 16000000 in
set_option maxRecDepth 100000 in
theorem rleft_any (w : World) (B gb lb : Nat) (vx vr : Value) (ps : List (Thk.RE × Value × Value)) (rs : List (Thk.Bytes × Nat)) (l : List Bool) (M : Mat) (nx : Nat → List Nat) (rule : Nat) (h : GM w B gb vx vr (ps.map (ruled (nmOf rs))) rs) (hL : w.heap[lb]? = some (boolsO l)) (hrl : rs.length ≤ 20) (hr : rule < rs.length)
    (hret : ∀ k (hk : k < rs.length), RetF B gb lb vx vr ps rs l rs[k].2 (nx k)) (hM : ∀ k j, k < rs.length → (M k j = true ↔ j ∈ nx k)) (hn : ∀ k j, k < rs.length → j ∈ nx k → j < rs.length) (hb : ∀ k, k < rs.length → (nx k).length ≤ 3000) :
    Calls Tryz.prog 54 #[.pointer (some ⟨gb, 0, none⟩), .int .i64 rule, .slice (some ⟨lb, 0, none⟩) ps.length ps.length] w fun e w' => e = .returned (.bool (Wm M rs.length rule rule)) ∧ Below w.heap.size w w' := by
  obtain ⟨rg, rc, rfl, hrB, hrgl⟩ := h.ruAt (by omega)
  have hgl := h.lt
  have hlb := heap_lt' hL
  have q := cell_of_block h.blk
  have hmk := make_boolsN rs.length (by omega) w
  obtain ⟨d0, d1⟩ := h.ruCells rule hr
  have hrI : (rule : Int) < rs.length := by omega
  have hBW := below_alloc w (boolsO (List.replicate rs.length false))
  have hcall := hret rule hr _ (h.below hBW) (by rw [hBW.block _ hlb]; exact hL)
  have hWb : (w.alloc (boolsO (List.replicate rs.length false))).heap[w.heap.size]? = some (boolsO (List.replicate rs.length false)) := heap_alloc_same _ _
  have HRET := hideP hret
  have HMI := hideP hM
  have HN := hideP hn
  have HBD := hideP hb
  have HG := hideP h
  have HL := hideP hL
  have HBW := hideP hBW
  have HWB := hideP hWb
  clear hret hM hn hb h hL d0 hBW hWb
  go_enter Tryz.func54, Tryz.ntmps54
  go_wp2_with fail
  refine hcall.mono ?_
  rintro _ w2 ⟨v2, rfl, hint, hb2⟩
  have hz2 := hb2.size
  simp at hz2
  have HST : Hid (LfRel w M rs.length rule (nx rule) (List.replicate rs.length false) v2 w2) := by
    refine ⟨HBW.out.trans (hb2.mono (by simp)), by rw [hb2.block _ (by simp)]; exact HWB.out, Todo.ofInts ?_, LeftInv.start (fun k => HMI.out rule k hr) (fun k hk => HN.out rule k hr hk)⟩
    have := hint
    simpa using this
  have hun : unseen (List.replicate rs.length false) = rs.length := by simp [unseen]
  have HUN := hideP hun
  have hnb := HBD.out rule hr
  clear hcall hint hb2 hun
  go_wp2_with fail
  go_loopg [8, 9] (3001 * (rs.length + 1)) (fun m vt vk wr => ∃ (todo : List Nat) (seen : List Bool), todo.length + 3001 * unseen seen ≤ m ∧ m ≤ 70000 ∧ Hid (LfRel w M rs.length rule todo seen vt wr))
  case atStart => exact ⟨nx rule, List.replicate rs.length false, by rw [HUN.out]; omega, by omega, HST⟩
  case round =>
    obtain ⟨todo, seen, hm1, hm2, HI⟩ := hrel
    have HM1 := hideP (And.intro hm1 hm2)
    clear hm1 hm2
    cases todo with
    | nil =>
      have hd := HI.out.inv.done
      obtain ⟨ao, b, off, cap, hv, _⟩ := HI.out.tv
      subst hv
      have HD := hideP hd
      clear hd
      go_wp2_with fail
      go_ret
      exact ⟨congrArg (fun b => Ending.returned (Value.bool b)) HD.out.symm, HI.out.below⟩
    | cons k rest =>
      obtain ⟨b, off, cap, hv, hbB, hbl, hck, hcm, hcl, htd⟩ := HI.out.tv.tail
      subst hv
      obtain ⟨hreach, hkn⟩ := HI.out.inv.reach k (by simp)
      have hcm' : (cap : Int) + 1 ≤ 9223372036854775807 := by unfold maxLen at hcm; omega
      have qg0 := q
      rcases Nat.eq_zero_or_pos cap with h0 | h0
      · subst h0
        have hrest : rest = [] := List.length_eq_zero_iff.1 (by omega)
        subst hrest
        have HTD : Hid (Todo wr (w.heap.size + 1) (.slice (some ⟨b, off, none⟩) 0 0) []) := Todo.nil0 _
        clear hcl
        have HRE := hideP hreach
        clear htd hcm hreach hcm' hnb
        have hsz := heap_lt' HI.out.row
        have hsc := bools_cell HI.out.row k (by rw [HI.out.inv.len]; exact hkn)
        have hsf := frozen_of_block HI.out.row k
        have hkI : (k : Int) < rs.length := by omega
        by_cases hkr : k = rule
        · subst hkr
          clear hsc hsf
          go_wp2_with fail
          go_ret
          exact ⟨congrArg (fun b => Ending.returned (Value.bool b)) HRE.out.symm, HI.out.below⟩
        · have hkr' : ¬ (k : Int) = rule := by omega
          cases hs : seen.getD k false with
          | true =>
            rw [hs] at hsc
            have HSK := hideP (HI.out.inv.skip hs)
            go_wp2_with fail
            go_roundg (0 + 3001 * unseen seen)
            case measure => have := HM1.out; simp at this; omega
            case rel => exact ⟨[], seen, by simp, by have := HM1.out; simp at this; omega, HI.out.below, HI.out.row, HTD.out, HSK.out⟩
          | false =>
            rw [hs] at hsc
            have hus := unseen_set seen k (by rw [HI.out.inv.len]; exact hkn) hs
            have hnb := HBD.out k hkn
            have HST2 := hideP (HI.out.inv.step hkr (fun j => HMI.out k j hkn) (fun j hj => HN.out k j hkn hj))
            have hB2 : Below w.heap.size w (wr.setCell ⟨w.heap.size, k, none⟩ (.bool true)) := HI.out.below.setCell (p := ⟨w.heap.size, k, none⟩) (Nat.le_refl _) _
            have hR2 := bools_set HI.out.row k
            have hcall := HRET.out k hkn _ (HG.out.below hB2) (by rw [hB2.block _ hlb]; exact HL.out)
            have qg := cell_of_block (((HI.out.below.block gb hgl).trans HG.out.blk))
            have dk : wr.cell? ⟨rg, k * 2 + 1, none⟩ = some (.int .i64 rs[k].2) := by
              rw [World.cell?_of_block (a := ⟨rg, _, none⟩) (HI.out.below.block rg hrgl)]
              exact (HG.out.ruCells k hkn).2
            have hne1 : ¬ gb = w.heap.size := by omega
            have hne2 : ¬ rg = w.heap.size := by omega
            have HB2 := hideP hB2
            have HR2 := hideP hR2
            have HNB := hideP hnb
            have HUS := hideP hus
            have HTD2 : Hid (Todo (wr.setCell ⟨w.heap.size, k, none⟩ (.bool true)) (w.heap.size + 1) (.slice (some ⟨b, off, none⟩) 0 0) []) := HTD.out.other (by simp) (fun j _ hj => Below.heap_setCell _ _ _ _ (by show j ≠ w.heap.size; omega))
            have HLEN : Hid (([] : List Nat).length + (nx k).length ≤ 200000) := by show _ ≤ _; simp; omega
            clear hB2 hR2 hnb hus q qg0
            go_wp2_with (first
              | (at_builtin; refine wpList_append_todo rfl _ _ rfl (w.heap.size + 1) _ _ _ [] (nx k) rfl (HTD2.out.kept hb3) rfl hint3 HLEN.out (by have := hb3.size; simp at this; omega) ?_)
              | (go_at_call 86; refine hcall.mono ?_; rintro _ w3 ⟨v3, rfl, hint3, hb3⟩))
            intro v4 w4 htd4 hfr4
            have hz3 := hb3.size
            simp at hz3
            have hz4 := hfr4.size
            have HNEW : Hid (LfRel w M rs.length rule ([] ++ nx k) (seen.set k true) v4 w4) := by
              refine ⟨⟨hfr4.os.trans (hb3.os.trans HB2.out.os), hfr4.tape.trans (hb3.tape.trans HB2.out.tape), hfr4.output.trans (hb3.output.trans HB2.out.output), by have := HB2.out.size; simp at this; omega, fun j hj => ?_⟩, ?_, htd4, HST2.out⟩
              · rw [hfr4.block j (by omega) (by omega), hb3.block j (by simp; omega)]
                exact HB2.out.block j hj
              · rw [hfr4.block _ (by omega) (by omega), hb3.block _ (by simp; omega)]
                exact HR2.out
            clear hcall hint3 hb3 htd4 hfr4
            go_wp2_with fail
            go_roundg (([] ++ nx k).length + 3001 * unseen (seen.set k true))
            case measure => have h1 := HM1.out; have h2 := HUS.out; have h3 := HNB.out; simp at h1 ⊢; omega
            case rel => exact ⟨[] ++ nx k, seen.set k true, Nat.le_refl _, by have h1 := HM1.out; have h2 := HUS.out; have h3 := HNB.out; simp at h1 ⊢; omega, HNEW⟩
      · have hcap : ¬ cap = 0 := by omega
        have HTD := hideP htd
        have HRE := hideP hreach
        clear htd hcm hreach hcm' hnb
        have hsz := heap_lt' HI.out.row
        have hsc := bools_cell HI.out.row k (by rw [HI.out.inv.len]; exact hkn)
        have hsf := frozen_of_block HI.out.row k
        have hkI : (k : Int) < rs.length := by omega
        by_cases hkr : k = rule
        · subst hkr
          clear hsc hsf
          go_wp2_with fail
          go_ret
          exact ⟨congrArg (fun b => Ending.returned (Value.bool b)) HRE.out.symm, HI.out.below⟩
        · have hkr' : ¬ (k : Int) = rule := by omega
          cases hs : seen.getD k false with
          | true =>
            rw [hs] at hsc
            have HSK := hideP (HI.out.inv.skip hs)
            go_wp2_with fail
            go_roundg (rest.length + 3001 * unseen seen)
            case measure => have := HM1.out; simp at this; omega
            case rel => exact ⟨rest, seen, Nat.le_refl _, by have := HM1.out; simp at this; omega, HI.out.below, HI.out.row, HTD.out, HSK.out⟩
          | false =>
            rw [hs] at hsc
            have hus := unseen_set seen k (by rw [HI.out.inv.len]; exact hkn) hs
            have hnb := HBD.out k hkn
            have HST2 := hideP (HI.out.inv.step hkr (fun j => HMI.out k j hkn) (fun j hj => HN.out k j hkn hj))
            have hB2 : Below w.heap.size w (wr.setCell ⟨w.heap.size, k, none⟩ (.bool true)) := HI.out.below.setCell (p := ⟨w.heap.size, k, none⟩) (Nat.le_refl _) _
            have hR2 := bools_set HI.out.row k
            have hcall := HRET.out k hkn _ (HG.out.below hB2) (by rw [hB2.block _ hlb]; exact HL.out)
            have qg := cell_of_block (((HI.out.below.block gb hgl).trans HG.out.blk))
            have dk : wr.cell? ⟨rg, k * 2 + 1, none⟩ = some (.int .i64 rs[k].2) := by
              rw [World.cell?_of_block (a := ⟨rg, _, none⟩) (HI.out.below.block rg hrgl)]
              exact (HG.out.ruCells k hkn).2
            have hne1 : ¬ gb = w.heap.size := by omega
            have hne2 : ¬ rg = w.heap.size := by omega
            have HB2 := hideP hB2
            have HR2 := hideP hR2
            have HNB := hideP hnb
            have HUS := hideP hus
            have HTD2 : Hid (Todo (wr.setCell ⟨w.heap.size, k, none⟩ (.bool true)) (w.heap.size + 1) (.slice (some ⟨b, off + 1, none⟩) rest.length cap) rest) := HTD.out.other (by simp) (fun j _ hj => Below.heap_setCell _ _ _ _ (by show j ≠ w.heap.size; omega))
            have HLEN : Hid (rest.length + (nx k).length ≤ 200000) := by have h1 := HM1.out; simp at h1; show _ ≤ _; omega
            clear hB2 hR2 hnb hus q qg0
            go_wp2_with (first
              | (at_builtin; refine wpList_append_todo rfl _ _ rfl (w.heap.size + 1) _ _ _ rest (nx k) rfl (HTD2.out.kept hb3) rfl hint3 HLEN.out (by have := hb3.size; simp at this; omega) ?_)
              | (go_at_call 86; refine hcall.mono ?_; rintro _ w3 ⟨v3, rfl, hint3, hb3⟩))
            intro v4 w4 htd4 hfr4
            have hz3 := hb3.size
            simp at hz3
            have hz4 := hfr4.size
            have HNEW : Hid (LfRel w M rs.length rule (rest ++ nx k) (seen.set k true) v4 w4) := by
              refine ⟨⟨hfr4.os.trans (hb3.os.trans HB2.out.os), hfr4.tape.trans (hb3.tape.trans HB2.out.tape), hfr4.output.trans (hb3.output.trans HB2.out.output), by have := HB2.out.size; simp at this; omega, fun j hj => ?_⟩, ?_, htd4, HST2.out⟩
              · rw [hfr4.block j (by omega) (by omega), hb3.block j (by simp; omega)]
                exact HB2.out.block j hj
              · rw [hfr4.block _ (by omega) (by omega), hb3.block _ (by simp; omega)]
                exact HR2.out
            clear hcall hint3 hb3 htd4 hfr4
            go_wp2_with fail
            go_roundg ((rest ++ nx k).length + 3001 * unseen (seen.set k true))
            case measure => have h1 := HM1.out; have h2 := HUS.out; have h3 := HNB.out; simp at h1 ⊢; omega
            case rel => exact ⟨rest ++ nx k, seen.set k true, Nat.le_refl _, by have h1 := HM1.out; have h2 := HUS.out; have h3 := HNB.out; simp at h1 ⊢; omega, HNEW⟩
end Go.Proofs.YtjmcdklhaieldaaGreatDoor
