import Derived.Test.YtiganlkabilblaaGreatDoorV04
import Derived.BigQuiet
set_option linter.all false
namespace Go.Proofs.YtiganlkabilblaaGreatDoor
open Go.RowKit Thk
attribute [local go_sem ↓] Go.wp_at_zero Go.wp_at_succ
theorem okField (e : Int) (b : Bool) (W : World) : (Instr.field 229 (.agg #[.int .i64 e, .bool b]) 1).run Tryz.prog W = .ok (.bool b) W := by kernel_rfl
/-- No way out but the plain one. -/
def calm (Q : Exit → Act → World → Prop) : Exit → Act → World → Prop
  | .normal, a, w => Q .normal a w
  | _, _, _ => False
theorem calm_wp {P : Program} {c : Code} {Q : Exit → Act → World → Prop} {a : Act} {w : World} (h : c.wp P (calm Q) a w) : c.wp P Q a w :=
  Code.wp_mono (fun e a w h => by cases e <;> first | exact h | exact h.elim) h
theorem calm_done {Q : Exit → Act → World → Prop} {a : Act} {w : World} (h : Q .normal a w) : calm Q .normal a w := h
set_option maxHeartbeats 8000000 in
set_option maxRecDepth 100000 in
theorem in_ahead {wM : World} {mb tb : Nat} {N : List Nd} {bx : List (Nat × Nat × Nat)} {rules : List Nat} {vr : Value} {s : ByteArray} (M : Mde wM mb N bx rules vr) {f : Nat} (hC : CloC wM mb tb N bx rules vr s f) (j bm be bw : Nat) (wd : Bool) (hbm : wM.heap[bm]? = some (boxO (ptrV mb) 113)) (hb : wM.heap[be]? = some (boxO (clV bx j) 226)) (hbw : wM.heap[bw]? = some (boxO (.bool wd) 4)) (k : Nat) (o : Out) (hv : evN N rules s.data.toList f j k = some o) (hk : k ≤ s.size) (w : World) (h : MS wM mb tb N rules vr s .nil w) :
    Calls Tryz.prog 202 #[.int .i64 k, ptrV bm, ptrV be, ptrV bw] w (PostM wM mb tb N rules vr s .nil (lookOut k wd o) w) := by
  have p1 := h.box M hb
  have q1 := cell_of_block p1
  have l1 := heap_lt' p1
  have p2 := h.box M hbm
  have q2 := cell_of_block p2
  have l2 := heap_lt' p2
  have p4 := h.box M hbw
  have q4 := cell_of_block p4
  have l4 := heap_lt' p4
  have q3 : w.cell? ⟨mb, 3, none⟩ = some .nilIface := cell_of_block h.blk 3
  have l3 := heap_lt h.blk
  have n4 := M.ne hbw
  have n4t : bw ≠ tb := fun e => by have := heap_lt hbw; have := h.tge; omega
  have HH := hideP (And.intro h.size (And.intro h.tlt h.mlt))
  have HC : Hid (∀ W, Below w.heap.size w W → W.heap[w.heap.size]? = some outC → Calls Tryz.prog 177 #[.int .i64 k, ptrV (bx.getD j (0, 0, 0)).1, ptrV (bx.getD j (0, 0, 0)).2.1, ptrV (bx.getD j (0, 0, 0)).2.2] W fun e w' => e = .returned (outV o) ∧ w'.cell? ⟨bw, 0, none⟩ = some (.bool wd) ∧ bw < w'.heap.size ∧ Hid (LpC wM mb tb N rules vr s w (noteO o) outC w')) := hideP (fun W hW h0 => by
    refine (hC.at (nt := .nil) hv hk (h.below hW) (KpM.of_below hW) hW.size).mono ?_
    rintro e w' ⟨h1, h2, h3, h4, h5⟩
    have hlb := heap_lt p4
    have hs := hW.size
    have hx : w'.heap[bw]? = some (boxO (.bool wd) 4) := by rw [h5 _ (by omega) n4 n4t, hW.block _ hlb]; exact p4
    refine ⟨h1, cell_of_block hx 0, heap_lt hx, hideP ⟨by rwa [nil_jn] at h2, h3, ?_⟩⟩
    rw [h5 _ (heap_lt h0) (by have := HH.out; omega) (by have := HH.out; omega)]; exact h0)
  simp only [clV, cloV] at q1
  clear h hC hb M p1 hv p2 hbm hbw p4
  generalize (bx.getD j (0, 0, 0)).1 = x1 at *
  generalize (bx.getD j (0, 0, 0)).2.1 = x2 at *
  generalize (bx.getD j (0, 0, 0)).2.2 = x3 at *
  cases o with
  | none =>
    cases wd with
    | false =>
      have ho : outV (none) = .agg #[.int .i64 0, .bool false] := rfl
      simp only [ho] at HC
      clear ho
      have hfd := okField
      go_enter_defers Tryz.func202, Tryz.ntmps202
      go_wp2_with fail
      refine calm_wp ?_
      go_region
      all_goals refine calm_done ?_
      all_goals go_wp2_with fail
      all_goals refine calm_wp ?_
      all_goals
        go_region_with (go_at_call 177; go_loud (refine (HC.out _ (by repeat (first | exact Below.refl _ _ | refine Below.drew ?_ | refine Below.alloc ?_ (by simp) _)) (by exact heap_alloc_same w _)).mono ?_; rintro _ w1 ⟨rfl, hc, hlw, HL⟩))
      all_goals
        have z0 := cell_of_block HL.out.blk
        have f0 := frozen_of_block HL.out.blk
        have l0 := heap_lt' HL.out.blk
        refine calm_done ?_
        go_wp2_with fail
        obtain ⟨X, hX⟩ : ∃ X, X = ((w1.setCell ⟨w.heap.size, 0, none⟩ (.int .i64 k)).setCell ⟨w.heap.size, 1, none⟩ (.bool true)) := ⟨_, rfl⟩
        have hbf : Below w.heap.size w1 X := by rw [hX]; exact below2 _ _ _ _
        have x0 : X.heap[w.heap.size]? = some (.cells #[.int .i64 k, .bool true] 229 (0, 0)) := by rw [hX]; exact cell2 HL.out.blk _ _
        rw [← hX]
        have xm := HL.out.ms.low HH.out.1 HH.out.2.1 hbf
        refine leaves_cons (f := 152) (args := #[ptrV mb, ntV .nil]) (by simp) (by simp [go_sem, ntV]) ?_
        refine (takeBack_d X mb .returning vr s _ _ .nil xm.blk).mono ?_
        rintro e u' w'' ⟨rfl, rfl, rfl⟩
        have hrb : w.heap.size ≠ mb := by have := HH.out; omega
        refine ⟨_, results_cell_row rfl _ _ w.heap.size _ _ _ _ rfl (by rw [Below.heap_setCell _ _ _ _ hrb]; exact x0) Tryz.underlying229 rfl (by kernel_rfl), ?_⟩
        exact ⟨rfl, xm.noted .nil, (HL.out.kp.low hbf).noted _⟩
    | true =>
      have ho : outV (none) = .agg #[.int .i64 0, .bool false] := rfl
      simp only [ho] at HC
      clear ho
      have hfd := okField
      go_enter_defers Tryz.func202, Tryz.ntmps202
      go_wp2_with fail
      refine calm_wp ?_
      go_region
      all_goals refine calm_done ?_
      all_goals go_wp2_with fail
      all_goals refine calm_wp ?_
      all_goals
        go_region_with (go_at_call 177; go_loud (refine (HC.out _ (by repeat (first | exact Below.refl _ _ | refine Below.drew ?_ | refine Below.alloc ?_ (by simp) _)) (by exact heap_alloc_same w _)).mono ?_; rintro _ w1 ⟨rfl, hc, hlw, HL⟩))
      all_goals
        have z0 := cell_of_block HL.out.blk
        have f0 := frozen_of_block HL.out.blk
        have l0 := heap_lt' HL.out.blk
        refine calm_done ?_
        go_wp2_with fail
        obtain ⟨X, hX⟩ : ∃ X, X = ((w1.setCell ⟨w.heap.size, 0, none⟩ (.int .i64 0)).setCell ⟨w.heap.size, 1, none⟩ (.bool false)) := ⟨_, rfl⟩
        have hbf : Below w.heap.size w1 X := by rw [hX]; exact below2 _ _ _ _
        have x0 : X.heap[w.heap.size]? = some (.cells #[.int .i64 0, .bool false] 229 (0, 0)) := by rw [hX]; exact cell2 HL.out.blk _ _
        rw [← hX]
        have xm := HL.out.ms.low HH.out.1 HH.out.2.1 hbf
        refine leaves_cons (f := 152) (args := #[ptrV mb, ntV .nil]) (by simp) (by simp [go_sem, ntV]) ?_
        refine (takeBack_d X mb .returning vr s _ _ .nil xm.blk).mono ?_
        rintro e u' w'' ⟨rfl, rfl, rfl⟩
        have hrb : w.heap.size ≠ mb := by have := HH.out; omega
        refine ⟨_, results_cell_row rfl _ _ w.heap.size _ _ _ _ rfl (by rw [Below.heap_setCell _ _ _ _ hrb]; exact x0) Tryz.underlying229 rfl (by kernel_rfl), ?_⟩
        exact ⟨rfl, xm.noted .nil, (HL.out.kp.low hbf).noted _⟩
  | some x =>
    cases wd with
    | false =>
      have ho : outV (some x) = .agg #[.int .i64 x.1, .bool true] := rfl
      simp only [ho] at HC
      clear ho
      have hfd := okField
      go_enter_defers Tryz.func202, Tryz.ntmps202
      go_wp2_with fail
      refine calm_wp ?_
      go_region
      all_goals refine calm_done ?_
      all_goals go_wp2_with fail
      all_goals refine calm_wp ?_
      all_goals
        go_region_with (go_at_call 177; go_loud (refine (HC.out _ (by repeat (first | exact Below.refl _ _ | refine Below.drew ?_ | refine Below.alloc ?_ (by simp) _)) (by exact heap_alloc_same w _)).mono ?_; rintro _ w1 ⟨rfl, hc, hlw, HL⟩))
      all_goals
        have z0 := cell_of_block HL.out.blk
        have f0 := frozen_of_block HL.out.blk
        have l0 := heap_lt' HL.out.blk
        refine calm_done ?_
        go_wp2_with fail
        obtain ⟨X, hX⟩ : ∃ X, X = ((w1.setCell ⟨w.heap.size, 0, none⟩ (.int .i64 0)).setCell ⟨w.heap.size, 1, none⟩ (.bool false)) := ⟨_, rfl⟩
        have hbf : Below w.heap.size w1 X := by rw [hX]; exact below2 _ _ _ _
        have x0 : X.heap[w.heap.size]? = some (.cells #[.int .i64 0, .bool false] 229 (0, 0)) := by rw [hX]; exact cell2 HL.out.blk _ _
        rw [← hX]
        have xm := HL.out.ms.low HH.out.1 HH.out.2.1 hbf
        refine leaves_cons (f := 152) (args := #[ptrV mb, ntV .nil]) (by simp) (by simp [go_sem, ntV]) ?_
        refine (takeBack_d X mb .returning vr s _ _ .nil xm.blk).mono ?_
        rintro e u' w'' ⟨rfl, rfl, rfl⟩
        have hrb : w.heap.size ≠ mb := by have := HH.out; omega
        refine ⟨_, results_cell_row rfl _ _ w.heap.size _ _ _ _ rfl (by rw [Below.heap_setCell _ _ _ _ hrb]; exact x0) Tryz.underlying229 rfl (by kernel_rfl), ?_⟩
        exact ⟨rfl, xm.noted .nil, (HL.out.kp.low hbf).noted _⟩
    | true =>
      have ho : outV (some x) = .agg #[.int .i64 x.1, .bool true] := rfl
      simp only [ho] at HC
      clear ho
      have hfd := okField
      go_enter_defers Tryz.func202, Tryz.ntmps202
      go_wp2_with fail
      refine calm_wp ?_
      go_region
      all_goals refine calm_done ?_
      all_goals go_wp2_with fail
      all_goals refine calm_wp ?_
      all_goals
        go_region_with (go_at_call 177; go_loud (refine (HC.out _ (by repeat (first | exact Below.refl _ _ | refine Below.drew ?_ | refine Below.alloc ?_ (by simp) _)) (by exact heap_alloc_same w _)).mono ?_; rintro _ w1 ⟨rfl, hc, hlw, HL⟩))
      all_goals
        have z0 := cell_of_block HL.out.blk
        have f0 := frozen_of_block HL.out.blk
        have l0 := heap_lt' HL.out.blk
        refine calm_done ?_
        go_wp2_with fail
        obtain ⟨X, hX⟩ : ∃ X, X = ((w1.setCell ⟨w.heap.size, 0, none⟩ (.int .i64 k)).setCell ⟨w.heap.size, 1, none⟩ (.bool true)) := ⟨_, rfl⟩
        have hbf : Below w.heap.size w1 X := by rw [hX]; exact below2 _ _ _ _
        have x0 : X.heap[w.heap.size]? = some (.cells #[.int .i64 k, .bool true] 229 (0, 0)) := by rw [hX]; exact cell2 HL.out.blk _ _
        rw [← hX]
        have xm := HL.out.ms.low HH.out.1 HH.out.2.1 hbf
        refine leaves_cons (f := 152) (args := #[ptrV mb, ntV .nil]) (by simp) (by simp [go_sem, ntV]) ?_
        refine (takeBack_d X mb .returning vr s _ _ .nil xm.blk).mono ?_
        rintro e u' w'' ⟨rfl, rfl, rfl⟩
        have hrb : w.heap.size ≠ mb := by have := HH.out; omega
        refine ⟨_, results_cell_row rfl _ _ w.heap.size _ _ _ _ rfl (by rw [Below.heap_setCell _ _ _ _ hrb]; exact x0) Tryz.underlying229 rfl (by kernel_rfl), ?_⟩
        exact ⟨rfl, xm.noted .nil, (HL.out.kp.low hbf).noted _⟩
end Go.Proofs.YtiganlkabilblaaGreatDoor
namespace Go.Proofs.YtiganlkabilblaaGreatDoor
open Go.RowKit Thk
attribute [local go_sem ↓] Go.wp_at_zero Go.wp_at_succ
theorem isPrefixOf_take (p l : List UInt8) : p.isPrefixOf l = (l.take p.length == p) := by
  induction p generalizing l with
  | nil => simp
  | cons a p ih =>
    cases l with
    | nil => simp
    | cons b l =>
      simp only [List.isPrefixOf, List.length_cons, List.take_succ_cons, ih]
      by_cases h : a = b
      · subst h; simp
      · have h' : ¬ b = a := fun e => h e.symm
        have e1 : (a == b) = false := by simp [h]
        have e2 : (b == a) = false := by simp [h']
        simp only [e1, Bool.false_and]
        show false = ((b :: l.take p.length) == (a :: p))
        simp [e2]
set_option maxHeartbeats 800000 in
theorem hasPrefix_any (s p : ByteArray) (w : World) (hs : s.size ≤ 1000000) (hp : p.size ≤ 1000000) :
    Calls Tryz.prog 156 #[.string s, .string p] w fun e w' => e = .returned (.bool (p.data.toList.isPrefixOf s.data.toList)) ∧ w' = w := by
  have hpl : p.data.toList.length = p.size := rfl
  rw [isPrefixOf_take, hpl]
  by_cases h : p.size ≤ s.size
  · have e1 : (s.extract 0 p.size).toList = s.data.toList.take p.size := by
      have := extract_take s 0 p.size
      rw [Nat.zero_add] at this
      rw [this]
      simp [ByteArray.toList_eq]
    have hd : (p.size : Int) ≤ s.size := by omega
    go_enter Tryz.func156, Tryz.ntmps156
    go_wp2
    go_ret
    refine ⟨?_, rfl⟩
    show Ending.returned (Value.bool (List.take p.size s.data.toList == p.toList)) = _
    rw [ByteArray.toList_eq]
  · have e1 : (s.data.toList.take p.size == p.data.toList) = false := by
      rw [beq_eq_false_iff_ne]; intro hh
      have := congrArg List.length hh
      have hl : s.data.toList.length = s.size := rfl
      simp [hl, hpl] at this
      omega
    rw [e1]
    have hd : ¬ (p.size : Int) ≤ s.size := by omega
    go_enter Tryz.func156, Tryz.ntmps156
    go_wp2
    go_ret
    exact ⟨rfl, rfl⟩
end Go.Proofs.YtiganlkabilblaaGreatDoor
