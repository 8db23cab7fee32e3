import Derived.Test.YtjmcdklhaieldaaGreatDoorTB
import Derived.Test.YtjmcdklhaieldaaGreatDoorNA
set_option linter.all false
namespace Go.Proofs.YtjmcdklhaieldaaGreatDoor
open Go.RowKit
attribute [local go_sem ↓] Go.wp_at_zero Go.wp_at_succ

theorem make_boolsN (n : Nat) (hn : n ≤ 100000) (w : World) : (Instr.makeSlice 62 (.int .i64 n) (.int .i64 n)).run Tryz.prog w = .ok (.slice (some ⟨w.heap.size, 0, none⟩) n n) (w.alloc (boolsO (List.replicate n false))) := by
  rw [run_make_row' 62 4 (.bool false) 1 Tryz.underlying62 Tryz.infoBool rfl .i64 .i64 n (by omega) (by omega) w]
  congr 3
  apply Array.toList_inj.1
  rw [toList_madeCells_one]; simp

theorem bools_set {w : World} {lb : Nat} {l : List Bool} (h : w.heap[lb]? = some (boolsO l)) (j : Nat) : (w.setCell ⟨lb, j, none⟩ (.bool true)).heap[lb]? = some (boolsO (l.set j true)) := by
  unfold boolsO at h ⊢
  rw [setCell_block h, List.map_set]
  congr 2
  apply Array.toList_inj.1
  simp

structure EmRel (w : World) (B gb lb : Nat) (vx vr : Value) (ps : List (Thk.RE × Value × Value)) (rs : List (Thk.Bytes × Nat)) (g : List Thk.Rule) (l : List Bool) (wr : World) : Prop where
  mem : GM wr B gb vx vr (ps.map (ruled (nmOf rs))) rs
  row : wr.heap[lb]? = some (boolsO l)
  len : l.length = ps.length
  fnd : FndL (xsOf ps) (nmOf rs) g l
  below : Below w.heap.size w wr

theorem EmRel.go {w : World} {B gb lb : Nat} {vx vr : Value} {ps : List (Thk.RE × Value × Value)} {rs : List (Thk.Bytes × Nat)} {g : List Thk.Rule} {l : List Bool} {wr w2 : World} (h : EmRel w B gb lb vx vr ps rs g l wr) (hb : Below wr.heap.size wr w2) : EmRel w B gb lb vx vr ps rs g l w2 :=
  ⟨h.mem.below hb, by rw [hb.block _ (heap_lt' h.row)]; exact h.row, h.len, h.fnd, h.below.trans (hb.mono h.below.size)⟩

theorem EmRel.set {w : World} {B gb lb : Nat} {vx vr : Value} {ps : List (Thk.RE × Value × Value)} {rs : List (Thk.Bytes × Nat)} {g : List Thk.Rule} {l : List Bool} {wr : World} (h : EmRel w B gb lb vx vr ps rs g l wr) (hlb : w.heap.size ≤ lb) (hR : Thk.DenR (xsOf ps) rs g) (i : Nat) (he : emptyX (xsOf ps) (nmOf rs) (bdOf rs) l i = true) : EmRel w B gb lb vx vr ps rs g (l.set i true) (wr.setCell ⟨lb, i, none⟩ (.bool true)) := by
  have hlt := heap_lt' h.row
  have c := Chg.set lb i (.bool true) wr
  have hrow := h.row
  unfold boolsO at hrow
  refine ⟨?_, bools_set h.row i, by simp [h.len], h.fnd.step hR he, h.below.setCell hlb _⟩
  have hng : gb ≠ lb := by intro e; subst e; rw [h.mem.blk] at hrow; simp at hrow
  exact ⟨by rw [c.same gb h.mem.lt hng]; exact h.mem.blk, own_keep c h.mem.ex (own_ty h.mem.ex hrow (by decide)), own_keep c h.mem.ru (own_ty h.mem.ru hrow (by decide)), fun p hp => own_keep c (h.mem.items p hp) (own_ty (h.mem.items p hp) hrow (by decide)), fun p hp => own_keep c (h.mem.parts p hp) (own_ty (h.mem.parts p hp) hrow (by decide))⟩

/-- What a round of empties has found so far. -/
structure EmIn (xs : List Thk.RE) (names : List Thk.Bytes) (bodies : List Nat) (l0 l : List Bool) (c : Bool) (i : Nat) : Prop where
  no : c = false → l = l0 ∧ ∀ j, j < i → emptyX xs names bodies l0 j = true → l0.getD j false = true
  yes : c = true → unseen l < unseen l0
  le : unseen l ≤ unseen l0

set_option maxHeartbeats 16000000 in
set_option maxRecDepth 100000 in
theorem rempties_any (w : World) (B gb : Nat) (vx vr : Value) (ps : List (Thk.RE × Value × Value)) (rs : List (Thk.Bytes × Nat)) (g : List Thk.Rule) (h : GM w B gb vx vr (ps.map (ruled (nmOf rs))) rs) (hF : Fits ps rs) (h0 : 0 < ps.length) (hr0 : 0 < rs.length) (hpl : ps.length ≤ 100000) (hR : Thk.DenR (xsOf ps) rs g) :
    Calls Tryz.prog 52 #[.pointer (some ⟨gb, 0, none⟩)] w fun e w' => e = .returned (.slice (some ⟨w.heap.size, 0, none⟩) ps.length ps.length) ∧ ∃ l, EmRel w B gb w.heap.size vx vr ps rs g l w' ∧ CloL (xsOf ps) (nmOf rs) (bdOf rs) l := by
  obtain ⟨p0, xg, xc, ia, ic, pa, pc, hp, hpm, rfl, hxl, _⟩ := h.exp h0
  have q := cell_of_block h.blk
  have hgl := h.lt
  have hmk := make_boolsN ps.length hpl w
  have HS : Hid (EmRel w B gb w.heap.size (.slice (some ⟨xg, 0, none⟩) ps.length xc) vr ps rs g (List.replicate ps.length false) (w.alloc (boolsO (List.replicate ps.length false)))) :=
    ⟨h.below (below_alloc _ _), heap_alloc_same _ _, by simp, FndL.none _, below_alloc _ _⟩
  have HF := hideP hF
  have HR := hideP hR
  clear hF h hR hp hpm
  go_enter Tryz.func52, Tryz.ntmps52
  go_wp2_with fail
  go_loopg [4] (ps.length + 1) (fun m v wr => ∃ (c : Bool) (l : List Bool), m = unseen l + (if c then 1 else 0) ∧ v = .bool c ∧ Hid (EmRel w B gb w.heap.size (.slice (some ⟨xg, 0, none⟩) ps.length xc) vr ps rs g l wr ∧ (c = false → CloL (xsOf ps) (nmOf rs) (bdOf rs) l)))
  case atStart => exact ⟨true, List.replicate ps.length false, by simp [unseen], rfl, HS.out, by simp⟩
  case round =>
    obtain ⟨c, l0, rfl, rfl, HI⟩ := hrel
    cases c with
    | false =>
      go_wp2_with fail
      go_ret
      exact ⟨rfl, l0, HI.out.1, HI.out.2 (by simp)⟩
    | true =>
      have HSI : Hid (EmIn (xsOf ps) (nmOf rs) (bdOf rs) l0 l0 false 0) := ⟨fun _ => ⟨rfl, fun j hj => by omega⟩, by simp, Nat.le_refl _⟩
      have HI1 := hideP HI.out.1
      have q1 := cell_of_block HI1.out.mem.blk
      clear HI q
      go_wp2_with fail
      go_loopg [4, 5] ps.length (fun m vc vi wr => ∃ (i : Nat) (c : Bool) (l : List Bool), m = ps.length - i ∧ vc = .bool c ∧ vi = .int .i64 i ∧ i ≤ ps.length ∧ Hid (EmRel w B gb w.heap.size (.slice (some ⟨xg, 0, none⟩) ps.length xc) vr ps rs g l wr ∧ EmIn (xsOf ps) (nmOf rs) (bdOf rs) l0 l c i))
      case atStart => exact ⟨0, false, l0, by omega, rfl, rfl, by omega, HI1.out, HSI.out⟩
      case round =>
        obtain ⟨i, c, l, rfl, rfl, rfl, hi, HJ⟩ := hrel
        have q2 := cell_of_block HJ.out.1.mem.blk
        by_cases hlt : i < ps.length
        · have hlt' : (i : Int) < ps.length := by omega
          have hem := rempty_any wr B gb w.heap.size _ vr ps rs l i HJ.out.1.mem HF.out HJ.out.1.row HJ.out.1.len hlt hr0
          go_wp2_with fail
          refine hem.mono ?_
          rintro _ w2 ⟨rfl, hb2⟩
          have HE := hideP (HJ.out.1.go hb2)
          have hlc := bools_cell HE.out.row i (by rw [HE.out.len]; exact hlt)
          have hfr := frozen_of_block HE.out.row i
          have hsz := heap_lt' HE.out.row
          clear hem hb2 q2 q1
          cases hy : emptyX (xsOf ps) (nmOf rs) (bdOf rs) l i with
          | false =>
            have HN : Hid (EmIn (xsOf ps) (nmOf rs) (bdOf rs) l0 l c (i + 1)) := by
              refine ⟨fun hc => ?_, HJ.out.2.yes, HJ.out.2.le⟩
              obtain ⟨h1, h2⟩ := HJ.out.2.no hc
              refine ⟨h1, fun j hj he => ?_⟩
              by_cases hji : j = i
              · subst hji; rw [← h1, hy] at he; cases he
              · exact h2 j (by omega) he
            go_wp2_with fail
            go_roundg (ps.length - (i + 1))
            case measure => omega
            case rel => exact ⟨i + 1, c, l, rfl, rfl, by go_num, by omega, HE.out, HN.out⟩
          | true =>
            cases hl : l.getD i false with
            | true =>
              rw [hl] at hlc
              have HN : Hid (EmIn (xsOf ps) (nmOf rs) (bdOf rs) l0 l c (i + 1)) := by
                refine ⟨fun hc => ?_, HJ.out.2.yes, HJ.out.2.le⟩
                obtain ⟨h1, h2⟩ := HJ.out.2.no hc
                refine ⟨h1, fun j hj he => ?_⟩
                by_cases hji : j = i
                · subst hji; rw [← h1]; exact hl
                · exact h2 j (by omega) he
              go_wp2_with fail
              go_roundg (ps.length - (i + 1))
              case measure => omega
              case rel => exact ⟨i + 1, c, l, rfl, rfl, by go_num, by omega, HE.out, HN.out⟩
            | false =>
              rw [hl] at hlc
              have HN : Hid (EmIn (xsOf ps) (nmOf rs) (bdOf rs) l0 (l.set i true) true (i + 1)) := by
                have hu := unseen_set l i (by rw [HE.out.len]; exact hlt) hl
                have := HJ.out.2.le
                exact ⟨by simp, fun _ => by omega, by omega⟩
              have HT := hideP (HE.out.set (Nat.le_refl _) HR.out i hy)
              go_wp2_with fail
              go_roundg (ps.length - (i + 1))
              case measure => omega
              case rel => exact ⟨i + 1, true, _, rfl, rfl, by go_num, by omega, HT.out, HN.out⟩
        · have hlt' : ¬ (i : Int) < ps.length := by omega
          have hie : i = ps.length := by omega
          clear q1
          go_wp2_with fail
          go_roundg (unseen l + (if c then 1 else 0))
          case measure =>
            have h1 := HJ.out.2.le
            cases c with
            | false => simp; omega
            | true => have := HJ.out.2.yes rfl; simp; omega
          case rel =>
            refine ⟨c, l, rfl, rfl, HJ.out.1, ?_⟩
            intro hc k hk
            obtain ⟨h1, h2⟩ := HJ.out.2.no hc
            subst h1
            by_cases hkl : k < ps.length
            · exact h2 k (by omega) hk
            · simp only [emptyX] at hk
              rw [List.getElem?_eq_none (by simp; omega)] at hk
              cases hk
end Go.Proofs.YtjmcdklhaieldaaGreatDoor
namespace Go.Proofs.YtjmcdklhaieldaaGreatDoor
open Go.RowKit
attribute [local go_sem ↓] Go.wp_at_zero Go.wp_at_succ

/-- within at an expression tells b. -/
def RetW (B gb lb : Nat) (vx vr : Value) (ps : List (Thk.RE × Value × Value)) (rs : List (Thk.Bytes × Nat)) (l : List Bool) (u : Bool) (k : Nat) (b : Bool) : Prop :=
  ∀ w, GM w B gb vx vr (ps.map (ruled (nmOf rs))) rs → w.heap[lb]? = some (boolsO l) →
    Calls Tryz.prog 53 #[.pointer (some ⟨gb, 0, none⟩), .int .i64 k, .slice (some ⟨lb, 0, none⟩) ps.length ps.length, .bool u] w fun e w' => e = .returned (.bool b) ∧ Below w.heap.size w w'

/-- What the loop of within keeps. -/
structure WiRel (w : World) (B gb lb : Nat) (vx vr : Value) (ps : List (Thk.RE × Value × Value)) (rs : List (Thk.Bytes × Nat)) (l bs : List Bool) (O : Obj) (k : Nat) (wr : World) : Prop where
  mem : GM wr B gb vx vr (ps.map (ruled (nmOf rs))) rs
  row : wr.heap[lb]? = some (boolsO l)
  own : wr.heap[w.heap.size]? = some O
  below : Below w.heap.size w wr
  kept : ∀ b, b < w.heap.size → wr.heap[b]? = w.heap[b]?
  no : ∀ j (h : j < bs.length), j < k → bs[j] = false

theorem WiRel.go {w : World} {B gb lb : Nat} {vx vr : Value} {ps : List (Thk.RE × Value × Value)} {rs : List (Thk.Bytes × Nat)} {l bs : List Bool} {O : Obj} {k : Nat} {wr w2 : World} (h : WiRel w B gb lb vx vr ps rs l bs O k wr) (hb : Below wr.heap.size wr w2) (hk : ∀ (h : k < bs.length), bs[k] = false) : WiRel w B gb lb vx vr ps rs l bs O (k + 1) w2 := by
  have hs := h.below.size
  refine ⟨h.mem.below hb, by rw [hb.block _ (heap_lt' h.row)]; exact h.row, by rw [hb.block _ (heap_lt' h.own)]; exact h.own, h.below.trans (hb.mono hs), fun b hlt => by rw [hb.block b (by omega)]; exact h.kept b hlt, ?_⟩
  intro j hj hjk
  by_cases hje : j = k
  · subst hje; exact hk hj
  · exact h.no j hj (by omega)

theorem any_false {bs : List Bool} (h : ∀ j (hj : j < bs.length), bs[j] = false) : bs.any id = false := by
  rw [List.any_eq_false]
  intro x hx
  obtain ⟨j, hj, rfl⟩ := List.getElem_of_mem hx
  rw [h j hj]; simp

set_option maxHeartbeats 16000000 in
set_option maxRecDepth 100000 in
theorem rwithin_step (B gb lb : Nat) (vx vr : Value) (ps : List (Thk.RE × Value × Value)) (rs : List (Thk.Bytes × Nat)) (l : List Bool) (u : Bool) (hF : Fits ps rs) (hll : l.length = ps.length) : StepW (xsOf ps) (nmOf rs) l u (RetW B gb lb vx vr ps rs l u) := by
  intro k e bs hxe hall w h hL
  have hi : k < ps.length := by
    have := (List.getElem?_eq_some_iff.1 hxe).1
    simpa using this
  obtain ⟨p, xg, xc, ia, ic, pa, pc, hp, hpm, rfl, hxl, c0, c1, c2, c3, c4, hpl, hpn, hpc⟩ := h.exp hi
  have hep : e = p.1 := by
    rw [List.getElem?_map, hp] at hxe
    simpa using hxe.symm
  subst hep
  have hlen := hall.len
  have hlb := heap_lt' hL
  have hgl := h.lt
  have q := cell_of_block h.blk
  have hfit := hF.ex p hpm
  have hkl : (k : Int) < ps.length := by omega
  obtain ⟨O, hO⟩ : ∃ O, O = exO p.1.kind (.slice ia p.1.items.length ic) p.1.text (rfE (nmOf rs) p.1 0) (.slice pa p.1.parts.length pc) := ⟨_, rfl⟩
  have HS : Hid (WiRel w B gb lb (.slice (some ⟨xg, 0, none⟩) ps.length xc) vr ps rs l bs O 0 (w.alloc O)) :=
    ⟨h.below (below_alloc _ _), by rw [heap_alloc_old _ _ hlb]; exact hL, heap_alloc_same _ _, below_alloc _ _, fun b hb => heap_alloc_old _ _ hb, fun j _ hj => by omega⟩
  have HALL := hideP hall
  have HL := hideP hL
  have HFIT := hideP hfit
  have HB0 := hideP (below_alloc w O)
  clear hxe hall h hL hF hpm hp hfit
  by_cases hhit : hitX (nmOf rs) l u p.1 = true
  · have hres : (hitX (nmOf rs) l u p.1 || bs.any id) = true := by rw [hhit]; rfl
    rw [hres]
    cases u with
    | true =>
      have hk : p.1.kind = 4 ∧ (nmOf rs).contains p.1.text = false := by simpa [hitX] using hhit
      have hrf := rfE_name (names := nmOf rs) hk.1
      rw [if_neg (by rw [hk.2]; simp)] at hrf
      rw [hk.1, hrf] at hO
      rw [hk.1] at c0
      rw [hrf] at c3
      subst hO
      clear hhit hres HS
      go_enter Tryz.func53, Tryz.ntmps53
      go_wp2_with fail
      go_ret
      exact ⟨rfl, HB0.out⟩
    | false =>
      have hk : (p.1.kind = 8 ∨ p.1.kind = 9) ∧ l.getD (p.1.parts.headD 0) false = true := by
        simpa [hitX, List.getD_eq_getElem?_getD] using hhit
      obtain ⟨hk, hlt⟩ := hk
      obtain ⟨a, ha⟩ := HFIT.out.2.1 (by omega)
      have hal := HFIT.out.1 a (by rw [ha]; simp)
      obtain ⟨pg, rfl, hpg, hpcell⟩ := hpc 0 (by rw [ha]; simp)
      simp only [ha, List.getElem_cons_zero] at hpcell
      have hlc := bools_cell HL.out a (by omega)
      rw [ha] at hlt
      simp only [List.headD_cons] at hlt
      rw [hlt] at hlc
      have hal' : (a : Int) < ps.length := by omega
      simp only [ha, List.length_singleton] at c4 hO
      clear hhit hres HS hpc
      rcases hk with hk | hk
      all_goals
        rw [hk] at c0 hO
        subst hO
        go_enter Tryz.func53, Tryz.ntmps53
        go_wp2_with fail
        go_ret
        exact ⟨rfl, HB0.out⟩
  · have hhf : hitX (nmOf rs) l u p.1 = false := by simpa using hhit
    rw [hhf, Bool.false_or]
    cases u with
    | true =>
      by_cases hk : p.1.kind = 4
      · have hn : (nmOf rs).contains p.1.text = true := by simpa [hitX, hk] using hhf
        have hrf := rfE_name (names := nmOf rs) hk
        rw [if_pos hn] at hrf
        rw [hk, hrf] at hO
        rw [hk] at c0
        rw [hrf] at c3
        obtain ⟨x, hx⟩ : ∃ x, x = (nmOf rs).idxOf p.1.text := ⟨_, rfl⟩
        rw [← hx] at hO c3
        have hx0 : ¬ (x : Int) < 0 := by omega
        subst hO
        clear hhit hhf hn hrf hx
        go_enter Tryz.func53, Tryz.ntmps53
        go_wp2_with fail
        go_loopg [10] p.1.parts.length (fun m v wr => ∃ t : Nat, m = p.1.parts.length - t ∧ v = .int .i64 t ∧ t ≤ p.1.parts.length ∧ Hid (WiRel w B gb lb (.slice (some ⟨xg, 0, none⟩) ps.length xc) vr ps rs l bs (exO 4 (.slice ia p.1.items.length ic) p.1.text x (.slice pa p.1.parts.length pc)) t wr))
        case atStart => exact ⟨0, by omega, rfl, by omega, HS⟩
        case round =>
          obtain ⟨t, rfl, rfl, ht, HI⟩ := hrel
          have eq := cell_of_block HI.out.own
          have elt := heap_lt' HI.out.own
          by_cases hlt : t < p.1.parts.length
          · have hlt' : (t : Int) < p.1.parts.length := by omega
            obtain ⟨pg, rfl, hpg, hpcell⟩ := hpc t hlt
            have hpcell2 : wr.cell? ⟨pg, t, none⟩ = some (.int .i64 p.1.parts[t]) := by rw [World.cell?_of_block (a := ⟨pg, t, none⟩) (HI.out.kept pg hpg)]; exact hpcell
            have hcall := HALL.out.get t hlt (by omega) wr HI.out.mem HI.out.row
            obtain ⟨b, HBB⟩ : ∃ b, Hid (b = bs[t]'(by omega)) := ⟨_, hideP rfl⟩
            rw [← HBB.out] at hcall
            clear hpcell
            go_wp2_with fail
            refine hcall.mono ?_
            rintro _ w2 ⟨rfl, hb2⟩
            cases b with
            | true =>
              have hbs : bs.any id = true := by
                rw [List.any_eq_true]
                exact ⟨true, by rw [HBB.out]; exact List.getElem_mem _, rfl⟩
              go_wp2_with fail
              go_ret
              first | exact ⟨rfl, HI.out.below.trans (hb2.mono HI.out.below.size)⟩ | exact ⟨congrArg (fun b => Ending.returned (Value.bool b)) hbs.symm, HI.out.below.trans (hb2.mono HI.out.below.size)⟩
            | false =>
              have HN := hideP (HI.out.go hb2 (fun _ => HBB.out.symm))
              clear hb2 hcall
              go_wp2_with fail
              go_roundg (p.1.parts.length - (t + 1))
              case measure => omega
              case rel => exact ⟨t + 1, rfl, by go_num, by omega, HN⟩
          · have hlt' : ¬ (t : Int) < p.1.parts.length := by omega
            have hbs : bs.any id = false := any_false (fun j hj => HI.out.no j hj (by omega))
            go_wp2_with fail
            go_ret
            first | exact ⟨rfl, HI.out.below⟩ | exact ⟨congrArg (fun b => Ending.returned (Value.bool b)) hbs.symm, HI.out.below⟩
      · have hk1 : ¬ (p.1.kind : Int) = 4 := by omega
        have hk2 : decide ((p.1.kind : Int) = 4) = false := by simp; omega
        subst hO
        clear hhit hhf
        go_enter Tryz.func53, Tryz.ntmps53
        go_wp2_with fail
        go_loopg [10] p.1.parts.length (fun m v wr => ∃ t : Nat, m = p.1.parts.length - t ∧ v = .int .i64 t ∧ t ≤ p.1.parts.length ∧ Hid (WiRel w B gb lb (.slice (some ⟨xg, 0, none⟩) ps.length xc) vr ps rs l bs (exO p.1.kind (.slice ia p.1.items.length ic) p.1.text (rfE (nmOf rs) p.1 0) (.slice pa p.1.parts.length pc)) t wr))
        case atStart => exact ⟨0, by omega, rfl, by omega, HS⟩
        case round =>
          obtain ⟨t, rfl, rfl, ht, HI⟩ := hrel
          have eq := cell_of_block HI.out.own
          have elt := heap_lt' HI.out.own
          by_cases hlt : t < p.1.parts.length
          · have hlt' : (t : Int) < p.1.parts.length := by omega
            obtain ⟨pg, rfl, hpg, hpcell⟩ := hpc t hlt
            have hpcell2 : wr.cell? ⟨pg, t, none⟩ = some (.int .i64 p.1.parts[t]) := by rw [World.cell?_of_block (a := ⟨pg, t, none⟩) (HI.out.kept pg hpg)]; exact hpcell
            have hcall := HALL.out.get t hlt (by omega) wr HI.out.mem HI.out.row
            obtain ⟨b, HBB⟩ : ∃ b, Hid (b = bs[t]'(by omega)) := ⟨_, hideP rfl⟩
            rw [← HBB.out] at hcall
            clear hpcell
            go_wp2_with fail
            refine hcall.mono ?_
            rintro _ w2 ⟨rfl, hb2⟩
            cases b with
            | true =>
              have hbs : bs.any id = true := by
                rw [List.any_eq_true]
                exact ⟨true, by rw [HBB.out]; exact List.getElem_mem _, rfl⟩
              go_wp2_with fail
              go_ret
              first | exact ⟨rfl, HI.out.below.trans (hb2.mono HI.out.below.size)⟩ | exact ⟨congrArg (fun b => Ending.returned (Value.bool b)) hbs.symm, HI.out.below.trans (hb2.mono HI.out.below.size)⟩
            | false =>
              have HN := hideP (HI.out.go hb2 (fun _ => HBB.out.symm))
              clear hb2 hcall
              go_wp2_with fail
              go_roundg (p.1.parts.length - (t + 1))
              case measure => omega
              case rel => exact ⟨t + 1, rfl, by go_num, by omega, HN⟩
          · have hlt' : ¬ (t : Int) < p.1.parts.length := by omega
            have hbs : bs.any id = false := any_false (fun j hj => HI.out.no j hj (by omega))
            go_wp2_with fail
            go_ret
            first | exact ⟨rfl, HI.out.below⟩ | exact ⟨congrArg (fun b => Ending.returned (Value.bool b)) hbs.symm, HI.out.below⟩
    | false =>
      by_cases hk : p.1.kind = 8 ∨ p.1.kind = 9
      · obtain ⟨a, ha⟩ := HFIT.out.2.1 (by omega)
        have hlf : l.getD a false = false := by
          rcases hk with hk | hk <;> simpa [hitX, hk, ha, List.getD_eq_getElem?_getD] using hhf
        have hal := HFIT.out.1 a (by rw [ha]; simp)
        obtain ⟨pg0, hpa0, hpg0, hpcell0⟩ := hpc 0 (by rw [ha]; simp)
        simp only [ha, List.getElem_cons_zero] at hpcell0
        have hlc := bools_cell HL.out a (by omega)
        rw [hlf] at hlc
        have hal' : (a : Int) < ps.length := by omega
        have hpl1 : p.1.parts.length = 1 := by rw [ha]; rfl
        have hpl0 : (0 : Int) < p.1.parts.length := by omega
        clear hpl1
        subst hpa0
        rcases hk with hk | hk
        · rw [hk] at c0 hO
          subst hO
          clear hhit hhf ha
          go_enter Tryz.func53, Tryz.ntmps53
          go_wp2_with fail
          go_loopg [10] p.1.parts.length (fun m v wr => ∃ t : Nat, m = p.1.parts.length - t ∧ v = .int .i64 t ∧ t ≤ p.1.parts.length ∧ Hid (WiRel w B gb lb (.slice (some ⟨xg, 0, none⟩) ps.length xc) vr ps rs l bs (exO 8 (.slice ia p.1.items.length ic) p.1.text (rfE (nmOf rs) p.1 0) (.slice (some ⟨pg0, 0, none⟩) p.1.parts.length pc)) t wr))
          case atStart => exact ⟨0, by omega, rfl, by omega, HS⟩
          case round =>
            obtain ⟨t, rfl, rfl, ht, HI⟩ := hrel
            have eq := cell_of_block HI.out.own
            have elt := heap_lt' HI.out.own
            by_cases hlt : t < p.1.parts.length
            · have hlt' : (t : Int) < p.1.parts.length := by omega
              obtain ⟨pg, hpg1, hpg, hpcell⟩ := hpc t hlt
              obtain rfl : pg = pg0 := by simpa using hpg1.symm
              have hpcell2 : wr.cell? ⟨pg, t, none⟩ = some (.int .i64 p.1.parts[t]) := by rw [World.cell?_of_block (a := ⟨pg, t, none⟩) (HI.out.kept pg hpg)]; exact hpcell
              have hcall := HALL.out.get t hlt (by omega) wr HI.out.mem HI.out.row
              obtain ⟨b, HBB⟩ : ∃ b, Hid (b = bs[t]'(by omega)) := ⟨_, hideP rfl⟩
              rw [← HBB.out] at hcall
              clear hpcell
              go_wp2_with fail
              refine hcall.mono ?_
              rintro _ w2 ⟨rfl, hb2⟩
              cases b with
              | true =>
                have hbs : bs.any id = true := by
                  rw [List.any_eq_true]
                  exact ⟨true, by rw [HBB.out]; exact List.getElem_mem _, rfl⟩
                go_wp2_with fail
                go_ret
                first | exact ⟨rfl, HI.out.below.trans (hb2.mono HI.out.below.size)⟩ | exact ⟨congrArg (fun b => Ending.returned (Value.bool b)) hbs.symm, HI.out.below.trans (hb2.mono HI.out.below.size)⟩
              | false =>
                have HN := hideP (HI.out.go hb2 (fun _ => HBB.out.symm))
                clear hb2 hcall
                go_wp2_with fail
                go_roundg (p.1.parts.length - (t + 1))
                case measure => omega
                case rel => exact ⟨t + 1, rfl, by go_num, by omega, HN⟩
            · have hlt' : ¬ (t : Int) < p.1.parts.length := by omega
              have hbs : bs.any id = false := any_false (fun j hj => HI.out.no j hj (by omega))
              go_wp2_with fail
              go_ret
              first | exact ⟨rfl, HI.out.below⟩ | exact ⟨congrArg (fun b => Ending.returned (Value.bool b)) hbs.symm, HI.out.below⟩
        · rw [hk] at c0 hO
          subst hO
          clear hhit hhf ha
          go_enter Tryz.func53, Tryz.ntmps53
          go_wp2_with fail
          go_loopg [10] p.1.parts.length (fun m v wr => ∃ t : Nat, m = p.1.parts.length - t ∧ v = .int .i64 t ∧ t ≤ p.1.parts.length ∧ Hid (WiRel w B gb lb (.slice (some ⟨xg, 0, none⟩) ps.length xc) vr ps rs l bs (exO 9 (.slice ia p.1.items.length ic) p.1.text (rfE (nmOf rs) p.1 0) (.slice (some ⟨pg0, 0, none⟩) p.1.parts.length pc)) t wr))
          case atStart => exact ⟨0, by omega, rfl, by omega, HS⟩
          case round =>
            obtain ⟨t, rfl, rfl, ht, HI⟩ := hrel
            have eq := cell_of_block HI.out.own
            have elt := heap_lt' HI.out.own
            by_cases hlt : t < p.1.parts.length
            · have hlt' : (t : Int) < p.1.parts.length := by omega
              obtain ⟨pg, hpg1, hpg, hpcell⟩ := hpc t hlt
              obtain rfl : pg = pg0 := by simpa using hpg1.symm
              have hpcell2 : wr.cell? ⟨pg, t, none⟩ = some (.int .i64 p.1.parts[t]) := by rw [World.cell?_of_block (a := ⟨pg, t, none⟩) (HI.out.kept pg hpg)]; exact hpcell
              have hcall := HALL.out.get t hlt (by omega) wr HI.out.mem HI.out.row
              obtain ⟨b, HBB⟩ : ∃ b, Hid (b = bs[t]'(by omega)) := ⟨_, hideP rfl⟩
              rw [← HBB.out] at hcall
              clear hpcell
              go_wp2_with fail
              refine hcall.mono ?_
              rintro _ w2 ⟨rfl, hb2⟩
              cases b with
              | true =>
                have hbs : bs.any id = true := by
                  rw [List.any_eq_true]
                  exact ⟨true, by rw [HBB.out]; exact List.getElem_mem _, rfl⟩
                go_wp2_with fail
                go_ret
                first | exact ⟨rfl, HI.out.below.trans (hb2.mono HI.out.below.size)⟩ | exact ⟨congrArg (fun b => Ending.returned (Value.bool b)) hbs.symm, HI.out.below.trans (hb2.mono HI.out.below.size)⟩
              | false =>
                have HN := hideP (HI.out.go hb2 (fun _ => HBB.out.symm))
                clear hb2 hcall
                go_wp2_with fail
                go_roundg (p.1.parts.length - (t + 1))
                case measure => omega
                case rel => exact ⟨t + 1, rfl, by go_num, by omega, HN⟩
            · have hlt' : ¬ (t : Int) < p.1.parts.length := by omega
              have hbs : bs.any id = false := any_false (fun j hj => HI.out.no j hj (by omega))
              go_wp2_with fail
              go_ret
              first | exact ⟨rfl, HI.out.below⟩ | exact ⟨congrArg (fun b => Ending.returned (Value.bool b)) hbs.symm, HI.out.below⟩
      · have hk1 : ¬ (p.1.kind : Int) = 8 := by omega
        have hk2 : ¬ (p.1.kind : Int) = 9 := by omega
        have hk3 : decide ((p.1.kind : Int) = 8) = false := by simp; omega
        have hk4 : decide ((p.1.kind : Int) = 9) = false := by simp; omega
        subst hO
        clear hhit hhf
        go_enter Tryz.func53, Tryz.ntmps53
        go_wp2_with fail
        go_loopg [10] p.1.parts.length (fun m v wr => ∃ t : Nat, m = p.1.parts.length - t ∧ v = .int .i64 t ∧ t ≤ p.1.parts.length ∧ Hid (WiRel w B gb lb (.slice (some ⟨xg, 0, none⟩) ps.length xc) vr ps rs l bs (exO p.1.kind (.slice ia p.1.items.length ic) p.1.text (rfE (nmOf rs) p.1 0) (.slice pa p.1.parts.length pc)) t wr))
        case atStart => exact ⟨0, by omega, rfl, by omega, HS⟩
        case round =>
          obtain ⟨t, rfl, rfl, ht, HI⟩ := hrel
          have eq := cell_of_block HI.out.own
          have elt := heap_lt' HI.out.own
          by_cases hlt : t < p.1.parts.length
          · have hlt' : (t : Int) < p.1.parts.length := by omega
            obtain ⟨pg, rfl, hpg, hpcell⟩ := hpc t hlt
            have hpcell2 : wr.cell? ⟨pg, t, none⟩ = some (.int .i64 p.1.parts[t]) := by rw [World.cell?_of_block (a := ⟨pg, t, none⟩) (HI.out.kept pg hpg)]; exact hpcell
            have hcall := HALL.out.get t hlt (by omega) wr HI.out.mem HI.out.row
            obtain ⟨b, HBB⟩ : ∃ b, Hid (b = bs[t]'(by omega)) := ⟨_, hideP rfl⟩
            rw [← HBB.out] at hcall
            clear hpcell
            go_wp2_with fail
            refine hcall.mono ?_
            rintro _ w2 ⟨rfl, hb2⟩
            cases b with
            | true =>
              have hbs : bs.any id = true := by
                rw [List.any_eq_true]
                exact ⟨true, by rw [HBB.out]; exact List.getElem_mem _, rfl⟩
              go_wp2_with fail
              go_ret
              first | exact ⟨rfl, HI.out.below.trans (hb2.mono HI.out.below.size)⟩ | exact ⟨congrArg (fun b => Ending.returned (Value.bool b)) hbs.symm, HI.out.below.trans (hb2.mono HI.out.below.size)⟩
            | false =>
              have HN := hideP (HI.out.go hb2 (fun _ => HBB.out.symm))
              clear hb2 hcall
              go_wp2_with fail
              go_roundg (p.1.parts.length - (t + 1))
              case measure => omega
              case rel => exact ⟨t + 1, rfl, by go_num, by omega, HN⟩
          · have hlt' : ¬ (t : Int) < p.1.parts.length := by omega
            have hbs : bs.any id = false := any_false (fun j hj => HI.out.no j hj (by omega))
            go_wp2_with fail
            go_ret
            first | exact ⟨rfl, HI.out.below⟩ | exact ⟨congrArg (fun b => Ending.returned (Value.bool b)) hbs.symm, HI.out.below⟩
end Go.Proofs.YtjmcdklhaieldaaGreatDoor
