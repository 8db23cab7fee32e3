import Derived.Test.YtgfejacimdmkpaaDoorG7
set_option linter.all false
namespace Go.Proofs.YtgfejacimdmkpaaDoor
open Go.RowKit

set_option maxHeartbeats 4000000 in
set_option maxRecDepth 100000 in
theorem piece_group (w : World) (rb tb tc : Nat) (ps : List (Thk.Tok × Value)) (n d : Nat) (h : Rd w rb tb tc ps n d) (hg : GoodP ps) (hn : n < ps.length) (hd : d ≤ 6) (hk : ps[n].1.kind = .sign 40)
    (hC : ChoiceC rb tb tc ps (ps.length - n - 1)) :
    Calls Tryd.prog 70 #[.pointer (some ⟨rb, 0, none⟩)] w fun e w' => PiecePost w rb tb tc ps n d e w' := by
  obtain ⟨c0, c1, c2, fz⟩ := h.cells
  obtain ⟨k0, k1, k2, k3⟩ := h.tok' n hn
  have hl := h.2.2.1
  have hn' : (n : Int) < (ps.length : Int) := by omega
  obtain ⟨a0, b0, e0⟩ := own_form (h.2.1.2 ps[n] (List.getElem_mem hn))
  have hrl := h.lt
  have htl : tb < w.heap.size := ((h.2.1.1.lt tb rfl).2)
  rw [e0] at k3
  rw [hk] at k0
  simp [kindI] at k0
  have H : Hid (Rd w rb tb tc ps n d) := h
  have hgr := fun w' (hR : Rd w' rb tb tc ps n d) => group_any w' rb tb tc ps n d hR hg hn hd hk hC
  clear h
  go_enter Tryd.func70, Tryd.ntmps70
  go_wp2_with fail
  go_region
  go_wp2_with fail
  have hB : Below w.heap.size w (w.alloc (.cells #[.int .u8 40, .int .i64 ↑ps[n].1.place, .string ⟨List.toArray ps[n].1.text⟩, .slice a0 ps[n].1.spans.length b0] 84)).drew := (below_alloc _ _).drew
  have hsz : (w.alloc (.cells #[.int .u8 40, .int .i64 ↑ps[n].1.place, .string ⟨List.toArray ps[n].1.text⟩, .slice a0 ps[n].1.spans.length b0] 84)).drew.heap.size = w.heap.size + 1 := by simp
  refine (hgr _ (H.out.below hB)).mono ?_
  rintro e w2 ⟨res, hP, hKp, hE⟩
  rw [hsz] at hKp
  have hK2 : Kp rb w.heap.size w w2 := (Kp.of hB).trans (hKp.mono (by omega))
  clear hgr hKp hB
  cases res with
  | err er p =>
    obtain ⟨rfl, n', hR⟩ := hE
    simp only [faultV]
    clear hC
    go_wp2_with fail
    go_ret2
    exact ⟨_, hP, hK2, rfl, n', hR⟩
  | ok pc rest =>
    obtain ⟨n', v, rfl, hlt, hn2, rfl, hRP, hR⟩ := hE
    have hRP2 : RPiece w2 (w.heap.size ≤ ·) pc v := RPiece.mono (fun g _ hg => by rw [hsz] at hg; omega) pc v hRP
    clear hC hRP
    go_wp2_with fail
    go_ret2
    exact ⟨_, hP, hK2, n', v, rfl, hlt, hn2, rfl, hRP2, hR⟩

theorem plain_none {t : Thk.Tok} (hk : okKind t.kind) (h : Thk.plainPiece t = none) (h40 : t.kind ≠ .sign 40) :
    (kindI t.kind == 2) = false ∧ (kindI t.kind == 4) = false ∧ (kindI t.kind == 5) = false ∧ (kindI t.kind == 46) = false ∧ (kindI t.kind == 40) = false := by
  unfold Thk.plainPiece at h
  cases hkk : t.kind with
  | name => rw [hkk] at h; cases h
  | lit => rw [hkk] at h; cases h
  | cls => rw [hkk] at h; cases h
  | sign c =>
    rw [hkk] at h hk h40
    simp only [] at h
    have h46 : c ≠ 46 := by intro e; rw [if_pos e] at h; cases h
    have hc40 : c ≠ 40 := by intro e; apply h40; rw [e]
    have hge := signB_ge hk
    refine ⟨?_, ?_, ?_, ?_, ?_⟩ <;> simp only [kindI] <;> apply beq_eq_false_iff_ne.2
    · omega
    · omega
    · omega
    · intro e; apply h46; apply UInt8.toNat_inj.1; rw [show (46 : UInt8).toNat = 46 from rfl]; omega
    · intro e; apply hc40; apply UInt8.toNat_inj.1; rw [show (40 : UInt8).toNat = 40 from rfl]; omega
  | _ => simp [kindI]

set_option maxHeartbeats 4000000 in
set_option maxRecDepth 100000 in
theorem piece_bad (w : World) (rb tb tc : Nat) (ps : List (Thk.Tok × Value)) (n d : Nat) (h : Rd w rb tb tc ps n d) (hg : GoodP ps) (hn : n < ps.length) (hp : Thk.plainPiece ps[n].1 = none) (hk : ps[n].1.kind ≠ .sign 40) :
    Calls Tryd.prog 70 #[.pointer (some ⟨rb, 0, none⟩)] w fun e w' => PiecePost w rb tb tc ps n d e w' := by
  obtain ⟨c0, c1, c2, fz⟩ := h.cells
  obtain ⟨k0, k1, k2, k3⟩ := h.tok' n hn
  have hl := h.2.2.1
  have hn' : (n : Int) < (ps.length : Int) := by omega
  obtain ⟨a0, b0, e0⟩ := own_form (h.2.1.2 ps[n] (List.getElem_mem hn))
  have hrl := h.lt
  have htl : tb < w.heap.size := ((h.2.1.1.lt tb rfl).2)
  rw [e0] at k3
  obtain ⟨t1, t2, t3, t4, t5⟩ := plain_none (hg n hn).1 hp hk
  have H : Hid (Rd w rb tb tc ps n d) := h
  have HPP : Hid (Thk.PPiece d (tsOf ps n) (.err 2 ps[n].1.place)) := by
    show Thk.PPiece d (tsOf ps n) (.err 2 ps[n].1.place)
    rw [← hd_tsOf hn]; exact .bad (by rw [hd_tsOf hn]; exact hp) (by rw [hd_tsOf hn]; exact hk)
  have hre := fun w' (hR : Rd w' rb tb tc ps n d) => refuse_any w' rb tb tc ps n d hR hn 2
  clear h hp hk
  generalize kindI ps[n].1.kind = K at *
  go_enter Tryd.func70, Tryd.ntmps70
  go_wp2_with fail
  go_region
  go_wp2_with fail
  have hB : Below w.heap.size w (w.alloc (.cells #[.int .u8 K, .int .i64 ↑ps[n].1.place, .string ⟨List.toArray ps[n].1.text⟩, .slice a0 ps[n].1.spans.length b0] 84)).drew := (below_alloc _ _).drew
  refine (hre _ (H.out.below hB)).mono ?_
  rintro e w2 ⟨rfl, q, rfl⟩
  clear hre
  go_wp2_with fail
  go_ret2
  exact ⟨_, HPP.out, (Kp.of (below_alloc _ _)).drewN _, rfl, n, (H.out.below (below_alloc _ _)).drewN _⟩

theorem piece_any (w : World) (rb tb tc : Nat) (ps : List (Thk.Tok × Value)) (n d : Nat) (h : Rd w rb tb tc ps n d) (hg : GoodP ps) (hn : n < ps.length) (hd : d ≤ 6)
    (hC : ChoiceC rb tb tc ps (ps.length - n - 1)) :
    Calls Tryd.prog 70 #[.pointer (some ⟨rb, 0, none⟩)] w fun e w' => PiecePost w rb tb tc ps n d e w' := by
  cases hp : Thk.plainPiece ps[n].1 with
  | some pc => exact piece_plain w rb tb tc ps n d h hg hn pc hp
  | none =>
    by_cases hk : ps[n].1.kind = .sign 40
    · exact piece_group w rb tb tc ps n d h hg hn hd hk hC
    · exact piece_bad w rb tb tc ps n d h hg hn hp hk
end Go.Proofs.YtgfejacimdmkpaaDoor
