import Derived.Test.YtgfejacimdmkpaaDoorG3
set_option linter.all false
namespace Go.Proofs.YtgfejacimdmkpaaDoor
open Go.RowKit

def hitK (ks : List UInt8) (K : Int) : Bool := ks.any fun c => (c.toNat : Int) == K

set_option maxHeartbeats 2000000 in
set_option maxRecDepth 100000 in
theorem sign_any (w : World) (rb tb tc : Nat) (ps : List (Thk.Tok × Value)) (n d : Nat) (h : Rd w rb tb tc ps n d) (hn : n < ps.length) (K : Int) (hK : kindI ps[n].1.kind = K)
    (ks : List UInt8) (kb : Nat) (hks : ks.length ≤ 3) (hcs : ∀ i (hi : i < ks.length), w.cell? ⟨kb, i, none⟩ = some (.int .u8 ks[i].toNat)) :
    Calls Tryd.prog 69 #[.pointer (some ⟨rb, 0, none⟩), .slice (some ⟨kb, 0, none⟩) ks.length ks.length] w fun e w' =>
      (hitK ks K = true → e = .returned (.int .u8 K) ∧ Rd w' rb tb tc ps (n + 1) d) ∧ (hitK ks K = false → e = .returned (.int .u8 0) ∧ Rd w' rb tb tc ps n d) ∧ Kp rb w.heap.size w w' := by
  have hc := fun q => kind_of (w.drewN q) rb tb tc ps n d (h.drewN q) hn K hK
  obtain ⟨c0, c1, c2, fz⟩ := h.cells
  have hl := h.2.2.1
  have H : Hid (Rd w rb tb tc ps n d) := h
  have HC : Hid (∀ i (hi : i < ks.length), w.cell? ⟨kb, i, none⟩ = some (.int .u8 ks[i].toNat)) := hcs
  clear h hK hcs
  go_enter Tryd.func69, Tryd.ntmps69
  go_wp2_with fail
  go_loopw [9] (fun i wr => ∃ (j q : Nat), j ≤ ks.length ∧ i = .int .i64 j ∧ wr = w.drewN q ∧ Hid (∀ t (ht : t < ks.length), t < j → ((ks[t].toNat : Int) == K) = false)) (fun i _ => ks.length - (intOf i).toNat)
  case atStart => exact ⟨0, 0, Nat.zero_le _, rfl, rfl, fun t _ ht => by omega⟩
  case round =>
    obtain ⟨j, q, hj, rfl, rfl, hN⟩ := hrel
    by_cases hlt : j < ks.length
    · have hcj := HC.out j hlt
      have hlt' : (j : Int) < ks.length := by omega
      by_cases hm : K = ks[j].toNat
      · have tm : (K == (ks[j].toNat : Int)) = true := by rw [hm]; simp
        have hhit : hitK ks K = true := by
          unfold hitK; rw [List.any_eq_true]; exact ⟨ks[j], List.getElem_mem hlt, by rw [hm]; simp⟩
        have HF : Hid (hitK ks K = true) := hhit
        have HM : Hid (K = ks[j].toNat) := hm
        clear hm hhit
        go_wp2_with (first | (go_at_call 32; refine (hc _).mono ?_; rintro e w1 ⟨rfl, q, rfl⟩))
        go_ret
        refine ⟨fun _ => ⟨?_, ?_⟩, fun h => ?_, ?_⟩
        · show Ending.returned (Value.int IntKind.u8 _) = _
          rw [HM.out]
        · exact (H.out.set1 (n + 1)).below (below_drewN (Below.refl _ _) _)
        · rw [HF.out] at h; cases h
        · exact ((Kp.refl _ _ _).setRb _ _).drewN _
      · have tm : (K == (ks[j].toNat : Int)) = false := beq_eq_false_iff_ne.2 hm
        have hN' : Hid (∀ t (ht : t < ks.length), t < j + 1 → ((ks[t].toNat : Int) == K) = false) := by
          intro t ht h1
          by_cases e : t = j
          · subst e; exact beq_eq_false_iff_ne.2 (fun e => hm e.symm)
          · exact hN.out t ht (by omega)
        clear hm hN
        go_wp2_with (first | (go_at_call 32; refine (hc _).mono ?_; rintro e w1 ⟨rfl, q, rfl⟩))
        go_roundw
        case rel => exact ⟨j + 1, _, by omega, by go_num, rfl, hN'⟩
        case measure => simp [intOf]; omega
    · have hno : hitK ks K = false := by
        unfold hitK
        rw [List.any_eq_false]
        intro c hc
        obtain ⟨t, ht, rfl⟩ := List.getElem_of_mem hc
        rw [hN.out t ht (by omega)]; simp
      have HF : Hid (hitK ks K = false) := hno
      clear hno hN
      go_wp2_with fail
      go_ret
      refine ⟨fun h => ?_, fun _ => ⟨rfl, ?_⟩, ?_⟩
      · rw [HF.out] at h; cases h
      · exact H.out.drewN _
      · exact (Kp.refl _ _ _).drewN _
end Go.Proofs.YtgfejacimdmkpaaDoor
