import Derived.Test.YtgfejacimdmkpaaDoorG6
set_option linter.all false
namespace Go.Proofs.YtgfejacimdmkpaaDoor
open Go.RowKit

set_option maxHeartbeats 4000000 in
set_option maxRecDepth 100000 in
/-- piece, where no group begins. -/
theorem piece_plain (w : World) (rb tb tc : Nat) (ps : List (Thk.Tok × Value)) (n d : Nat) (h : Rd w rb tb tc ps n d) (hg : GoodP ps) (hn : n < ps.length) (pc : Thk.Piece) (hp : Thk.plainPiece ps[n].1 = some pc) :
    Calls Tryd.prog 70 #[.pointer (some ⟨rb, 0, none⟩)] w fun e w' => PiecePost w rb tb tc ps n d e w' := by
  have hPP : Thk.PPiece d (tsOf ps n) (.ok pc (tsOf ps (n + 1))) := by rw [← tl_tsOf hn]; exact .plain (by rw [hd_tsOf hn]; exact hp)
  obtain ⟨c0, c1, c2, fz⟩ := h.cells
  obtain ⟨k0, k1, k2, k3⟩ := h.tok' n hn
  have hl := h.2.2.1
  have hn' : (n : Int) < (ps.length : Int) := by omega
  have hsp := h.2.1.2 ps[n] (List.getElem_mem hn)
  obtain ⟨a0, b0, e0⟩ := own_form hsp
  have hrl := h.lt
  have HTX : Hid (ps[n].1.text.length ≤ 2000) := h.2.2.2 ps[n] (List.getElem_mem hn)
  have htl : tb < w.heap.size := ((h.2.1.1.lt tb rfl).2)
  have hnl : ps[n].1.kind.last = false := by
    unfold Thk.plainPiece at hp
    cases hk : ps[n].1.kind with
    | fin => rw [hk] at hp; cases hp
    | bad => rw [hk] at hp; cases hp
    | _ => rfl
  have hn1 : n + 1 < ps.length := (hg n hn).2 hnl
  rw [e0] at k3 hsp
  have H : Hid (Rd w rb tb tc ps n d) := h
  have HSP : Hid (Spans w 0 (.slice a0 ps[n].1.spans.length b0) ps[n].1.spans) := hsp
  have HPP : Hid (Thk.PPiece d (tsOf ps n) (.ok pc (tsOf ps (n + 1)))) := hPP
  have fin : ∀ (w' : World) (v : Value), Kp rb w.heap.size w w' → Rd w' rb tb tc ps (n + 1) d → RPiece w' (w.heap.size ≤ ·) pc v → PiecePost w rb tb tc ps n d (.returned (.tuple #[v, .nilIface])) w' :=
    fun w' v h1 h2 h3 => ⟨_, hPP, h1, n + 1, v, rfl, by omega, hn1, rfl, h3, h2⟩
  have FIN : Hid _ := fin
  clear h hPP hsp fin
  unfold Thk.plainPiece at hp
  cases hk : ps[n].1.kind with
  | name =>
    rw [hk] at hp k0
    simp only [Option.some.injEq] at hp
    subst hp
    simp only [kindI] at k0
    go_enter Tryd.func70, Tryd.ntmps70
    go_wp2_with fail
    go_region
    go_wp2_with fail
    go_ret2
    refine FIN.out _ _ ?_ ?_ ?_
    · exact ((((Kp.refl _ _ _).setRb _ _).alloc (by simp) _)).drew
    · exact (H.out.set1 (n + 1)).below (below_alloc _ _).drew
    · simp only [RPiece]; exact ⟨rfl, HTX.out⟩
  | lit =>
    rw [hk] at hp k0
    simp only [Option.some.injEq] at hp
    subst hp
    simp only [kindI] at k0
    go_enter Tryd.func70, Tryd.ntmps70
    go_wp2_with fail
    go_region
    go_wp2_with fail
    go_ret2
    refine FIN.out _ _ ?_ ?_ ?_
    · exact ((((Kp.refl _ _ _).setRb _ _).alloc (by simp) _)).drew
    · exact (H.out.set1 (n + 1)).below (below_alloc _ _).drew
    · simp only [RPiece]; rfl
  | cls =>
    rw [hk] at hp k0
    simp only [Option.some.injEq] at hp
    subst hp
    simp only [kindI] at k0
    go_enter Tryd.func70, Tryd.ntmps70
    go_wp2_with fail
    go_region
    go_wp2_with fail
    go_ret2
    have hK : Kp rb w.heap.size w ((((w.setCell ⟨rb, 1, none⟩ (.int .i64 ((n : Int) + 1))).alloc (.cells #[.int .u8 5, .int .i64 ↑ps[n].1.place, .string ⟨List.toArray ps[n].1.text⟩, .slice a0 ps[n].1.spans.length b0] 84))).drew) := ((((Kp.refl _ _ _).setRb _ _).alloc (by simp) _)).drew
    refine FIN.out _ _ hK ?_ ?_
    · exact (H.out.set1 (n + 1)).below (below_alloc _ _).drew
    · simp only [RPiece]
      exact ⟨_, rfl, own_kp HSP.out H.out.1 (by decide) hK⟩
  | sign c =>
    rw [hk] at hp k0
    simp only [] at hp
    split at hp
    · rename_i hc
      subst hc
      simp only [Option.some.injEq] at hp
      subst hp
      simp only [kindI] at k0
      simp at k0
      go_enter Tryd.func70, Tryd.ntmps70
      go_wp2_with fail
      go_region
      go_wp2_with fail
      go_ret2
      refine FIN.out _ _ ?_ ?_ ?_
      · exact ((((Kp.refl _ _ _).setRb _ _).alloc (by simp) _)).drew
      · exact (H.out.set1 (n + 1)).below (below_alloc _ _).drew
      · simp only [RPiece]; rfl
    · cases hp
  | fin => rw [hk] at hp; cases hp
  | bad => rw [hk] at hp; cases hp
  | arrow => rw [hk] at hp; cases hp
end Go.Proofs.YtgfejacimdmkpaaDoor
