import Derived.Test.YtgfejacimdmkpaaDoorL5
import Derived.Test.YtgfejacimdmkpaaDoorKA
import Derived.Test.YtgfejacimdmkpaaDoorLA
set_option linter.all false
namespace Go.Proofs.YtgfejacimdmkpaaDoor
open Go.RowKit

theorem check_err {s : ByteArray} {l : List UInt8} (hs : s = bs l) (hl : l.length ≤ 2000) {er p : Nat} (h : ∀ res, PAll l res → res = .error (er, p)) (w : World) (hg : ErrLaid w) :
    Calls Tryd.prog 5 #[.string s] w fun e w' => e = .returned (.tuple #[.int .i64 er, .int .i64 p]) ∧ Below w.heap.size w w' := by
  subst hs
  refine (check_any (bs l) w (by rw [bs_size]; unfold maxLen; omega) hg).mono ?_
  rintro e w' ⟨hb, res, hP, hE⟩
  have : res = .error (er, p) := h res (by simpa [bs] using hP)
  subst this
  exact ⟨hE, hb⟩

theorem check_fine {s : ByteArray} {l : List UInt8} (hs : s = bs l) (hl : l.length ≤ 2000) (h : ∀ res, PAll l res → ∃ y, res = .ok y) (w : World) (hg : ErrLaid w) :
    Calls Tryd.prog 5 #[.string s] w fun e w' => e = .returned (.tuple #[.int .i64 0, .int .i64 0]) ∧ Below w.heap.size w w' := by
  subst hs
  refine (check_any (bs l) w (by rw [bs_size]; unfold maxLen; omega) hg).mono ?_
  rintro e w' ⟨hb, res, hP, hE⟩
  obtain ⟨y, rfl⟩ := h res (by simpa [bs] using hP)
  exact ⟨hE, hb⟩

theorem run_made_text (x y z : Value) (w : World) : (Instr.field 24 (.agg #[x, y, z]) 0).run Tryd.prog w = .ok x w := by kernel_rfl

set_option maxHeartbeats 64000000 in
set_option maxRecDepth 100000 in
theorem ends_any (w : World) (a : Option Addr) (len cap : Nat) (style sign : Int) (hr : RawAt w a len) (hl : len ≤ maxLen) (hs : i64 style) (hg : i64 sign) (hE : ErrLaid w) :
    Calls Tryd.prog 3 #[.slice a len cap, .int .i64 style, .int .i64 sign] w fun e w' => e = .returned (.bool true) ∧ Below w.heap.size w w' := by
  have hx := expression_any w a len cap style hr hl hs
  have HE : Hid (ErrLaid w) := hE
  have hp2 := fun w => pick_any sign 2 w hg (by decide) (by decide)
  have hp5 := fun w => pick_any sign 5 w hg (by decide) (by decide)
  have hj2 := pickN_lt sign (n := 2) (by decide)
  have hj5 := pickN_lt sign (n := 5) (by decide)
  obtain ⟨j2, e2⟩ : ∃ j, j = pickN sign 2 := ⟨_, rfl⟩
  obtain ⟨j5, e5⟩ : ∃ j, j = pickN sign 5 := ⟨_, rfl⟩
  rw [← e2] at hp2 hj2
  rw [← e5] at hp5 hj5
  obtain ⟨p, hpp, hpc⟩ : ∃ p : UInt8, (p = 38 ∨ p = 33) ∧ ∀ h : j2 < [Value.string ⟨#[38]⟩, Value.string ⟨#[33]⟩].length, [Value.string ⟨#[38]⟩, Value.string ⟨#[33]⟩][j2]'h = .string (bs [p]) := by
    have : j2 = 0 ∨ j2 = 1 := by omega
    rcases this with rfl | rfl
    · exact ⟨38, .inl rfl, fun _ => rfl⟩
    · exact ⟨33, .inr rfl, fun _ => rfl⟩
  obtain ⟨q, hqq, hqc⟩ : ∃ q : UInt8, (q = 42 ∨ q = 63 ∨ q = 43 ∨ q = 47 ∨ q = 38) ∧ ∀ h : j5 < [Value.string ⟨#[42]⟩, Value.string ⟨#[63]⟩, Value.string ⟨#[43]⟩, Value.string ⟨#[47]⟩, Value.string ⟨#[38]⟩].length, [Value.string ⟨#[42]⟩, Value.string ⟨#[63]⟩, Value.string ⟨#[43]⟩, Value.string ⟨#[47]⟩, Value.string ⟨#[38]⟩][j5]'h = .string (bs [q]) := by
    have : j5 = 0 ∨ j5 = 1 ∨ j5 = 2 ∨ j5 = 3 ∨ j5 = 4 := by omega
    rcases this with rfl | rfl | rfl | rfl | rfl
    · exact ⟨42, .inl rfl, fun _ => rfl⟩
    · exact ⟨63, .inr (.inl rfl), fun _ => rfl⟩
    · exact ⟨43, .inr (.inr (.inl rfl)), fun _ => rfl⟩
    · exact ⟨47, .inr (.inr (.inr (.inl rfl))), fun _ => rfl⟩
    · exact ⟨38, .inr (.inr (.inr (.inr rfl))), fun _ => rfl⟩
  have HPP := hideK hpp
  have HQQ := hideK hqq
  clear hr hs hg hE e2 e5 hpp hqq
  go_enter Tryd.func3, Tryd.ntmps3
  go_wp2_with fail
  refine hx.mono ?_
  rintro _ w1 ⟨⟨x, ee, dd⟩, rfl, hG, hd4, hlx, hb1⟩
  simp only [] at hG hd4 hlx
  have xs := bs_size x
  have HG := hideK hG
  have ca : ∀ w', ErrLaid w' → Calls Tryd.prog 5 #[.string (⟨#[115, 32, 60, 45, 32, 40, 40]⟩ ++ bs x ++ ⟨#[41]⟩)] w' fun e w'' => e = .returned (.tuple #[.int .i64 2, .int .i64 ↑(x.length + 8)]) ∧ Below w'.heap.size w' w'' :=
    fun w' h' => check_err (l := hdB ++ (40 :: brk [] x)) (by rw [bs_app, bs_app]; simp [brk]) (by simp [brk_len]; omega) (fun res hP => Gx_a HG.out hd4 hlx hP) w' h'
  have HL1 := hideK (HE.out.below hb1)
  have HB1 := hideK hb1
  have hz1 := hb1.size
  clear hx hG hb1
  simp only [mdV]
  have hfd := run_made_text
  go_wp2_with fail
  refine (ca _ HL1.out).mono ?_
  rintro _ w2 ⟨rfl, hb2⟩
  have HL2 := hideK (HL1.out.below hb2)
  have hz2 := hb2.size
  have HB2 := hideK (HB1.out.trans (hb2.mono hz1))
  have cb : ∀ w', ErrLaid w' → Calls Tryd.prog 5 #[.string (⟨#[115, 32, 60, 45, 32, 40]⟩ ++ bs x ++ ⟨#[41, 32, 41]⟩)] w' fun e w'' => e = .returned (.tuple #[.int .i64 2, .int .i64 ↑(x.length + 8)]) ∧ Below w'.heap.size w' w'' :=
    fun w' h' => check_err (l := hdB ++ (brk [] x ++ [32, 41])) (by rw [bs_app, bs_app]; simp [brk]) (by simp [brk_len]; omega) (fun res hP => Gx_b HG.out hd4 hlx hP) w' h'
  clear ca hb2 HL1 HB1
  go_wp2_with fail
  refine (cb _ HL2.out).mono ?_
  rintro _ w3 ⟨rfl, hb3⟩
  have HL3 := hideK (HL2.out.below hb3)
  have hz3 := hb3.size
  have HB3 := hideK (HB2.out.trans (hb3.mono (by omega)))
  clear cb hb3 HL2 HB2
  go_wp2_with fail
  have sp : (bs [p]).size = 1 := rfl
  have sq : (bs [q]).size = 1 := rfl
  go_cut [14] from 19 to 53 (fun s14 wx => s14 = .string (bs (hdB ++ (brk [] x ++ [32, p, q]))) ∧ Below w3.heap.size w3 wx)
  case first =>
    clear HG HL3 HB3 HPP HQQ HE hd4 hfd hz1 hz2 hz3
    have cellA : ((w3.alloc (.cells #[.string ⟨#[38]⟩, .string ⟨#[33]⟩] 9)).drew).cell? ⟨w3.heap.size, j2, none⟩ = some (.string (bs [p])) := by
      show (w3.alloc (.cells #[.string ⟨#[38]⟩, .string ⟨#[33]⟩] 9)).cell? _ = _
      rw [cell_of_block (heap_alloc_same w3 _), ← hpc (by simpa using hj2)]
      simp
    have cellA2a : (((w3.alloc (.cells #[.string ⟨#[38]⟩, .string ⟨#[33]⟩] 9)).alloc (.cells #[.string ⟨#[42]⟩, .string ⟨#[63]⟩, .string ⟨#[43]⟩, .string ⟨#[47]⟩, .string ⟨#[38]⟩] 9)).drew).cell? ⟨w3.heap.size, j2, none⟩ = some (.string (bs [p])) := by
      show ((w3.alloc (.cells #[.string ⟨#[38]⟩, .string ⟨#[33]⟩] 9)).alloc (.cells #[.string ⟨#[42]⟩, .string ⟨#[63]⟩, .string ⟨#[43]⟩, .string ⟨#[47]⟩, .string ⟨#[38]⟩] 9)).cell? _ = _
      rw [cell_of_block ((heap_alloc_old _ _ (by simp)).trans (heap_alloc_same w3 _)), ← hpc (by simpa using hj2)]
      simp
    have cellA2b : (((w3.alloc (.cells #[.string ⟨#[38]⟩, .string ⟨#[33]⟩] 9)).alloc (.cells #[.string ⟨#[42]⟩, .string ⟨#[63]⟩, .string ⟨#[43]⟩, .string ⟨#[47]⟩, .string ⟨#[38]⟩] 9)).drew).cell? ⟨w3.heap.size + 1, j5, none⟩ = some (.string (bs [q])) := by
      show ((w3.alloc (.cells #[.string ⟨#[38]⟩, .string ⟨#[33]⟩] 9)).alloc (.cells #[.string ⟨#[42]⟩, .string ⟨#[63]⟩, .string ⟨#[43]⟩, .string ⟨#[47]⟩, .string ⟨#[38]⟩] 9)).cell? _ = _
      rw [cell_of_block (hal_at _ _ _ (by simp)), ← hqc (by simpa using hj5)]
      simp
    have cellB : ((w3.alloc (.cells #[.string ⟨#[42]⟩, .string ⟨#[63]⟩, .string ⟨#[43]⟩, .string ⟨#[47]⟩, .string ⟨#[38]⟩] 9)).drew).cell? ⟨w3.heap.size, j5, none⟩ = some (.string (bs [q])) := by
      show (w3.alloc (.cells #[.string ⟨#[42]⟩, .string ⟨#[63]⟩, .string ⟨#[43]⟩, .string ⟨#[47]⟩, .string ⟨#[38]⟩] 9)).cell? _ = _
      rw [cell_of_block (heap_alloc_same w3 _), ← hqc (by simpa using hj5)]
      simp
    have cellB2a : (((w3.alloc (.cells #[.string ⟨#[42]⟩, .string ⟨#[63]⟩, .string ⟨#[43]⟩, .string ⟨#[47]⟩, .string ⟨#[38]⟩] 9)).alloc (.cells #[.string ⟨#[38]⟩, .string ⟨#[33]⟩] 9)).drew).cell? ⟨w3.heap.size, j5, none⟩ = some (.string (bs [q])) := by
      show ((w3.alloc (.cells #[.string ⟨#[42]⟩, .string ⟨#[63]⟩, .string ⟨#[43]⟩, .string ⟨#[47]⟩, .string ⟨#[38]⟩] 9)).alloc (.cells #[.string ⟨#[38]⟩, .string ⟨#[33]⟩] 9)).cell? _ = _
      rw [cell_of_block ((heap_alloc_old _ _ (by simp)).trans (heap_alloc_same w3 _)), ← hqc (by simpa using hj5)]
      simp
    have cellB2b : (((w3.alloc (.cells #[.string ⟨#[42]⟩, .string ⟨#[63]⟩, .string ⟨#[43]⟩, .string ⟨#[47]⟩, .string ⟨#[38]⟩] 9)).alloc (.cells #[.string ⟨#[38]⟩, .string ⟨#[33]⟩] 9)).drew).cell? ⟨w3.heap.size + 1, j2, none⟩ = some (.string (bs [p])) := by
      show ((w3.alloc (.cells #[.string ⟨#[42]⟩, .string ⟨#[63]⟩, .string ⟨#[43]⟩, .string ⟨#[47]⟩, .string ⟨#[38]⟩] 9)).alloc (.cells #[.string ⟨#[38]⟩, .string ⟨#[33]⟩] 9)).cell? _ = _
      rw [cell_of_block (hal_at _ _ _ (by simp)), ← hpc (by simpa using hj2)]
      simp
    refine wp_region_held_drew (S := fun _ => True) (by kernel_rfl) trivial (fun hHeld => ?_)
    refine wpAnyH_take (i := 0) (oi := { dst := some 39, op := _, type := _, pos := _, after := _, guard := none }) (v := .string (bs x)) rfl (by kernel_rfl) (by kernel_rfl) (by kernel_rfl) (fun _ _ _ h => h) (Or.inl ⟨by rfl, fun w hSw => by (try dsimp only at hSw); (go_simp <;> omega)⟩) hHeld ?_
    simp only [Act.put, List.setIfInBounds_toArray, List.set_cons_zero, List.set_cons_succ]
    refine wpAnyH_take (i := 1) (oi := { dst := some 40, op := _, type := _, pos := _, after := _, guard := none }) (v := .string (⟨#[115, 32, 60, 45, 32, 40]⟩ ++ bs x)) rfl (by kernel_rfl) (by kernel_rfl) (by kernel_rfl) (fun _ _ _ h => h) (Or.inl ⟨by rfl, fun w hSw => by (try dsimp only at hSw); (go_simp <;> omega)⟩) hHeld ?_
    simp only [Act.put, List.setIfInBounds_toArray, List.set_cons_zero, List.set_cons_succ]
    refine wpAnyH_take (i := 2) (oi := { dst := some 41, op := _, type := _, pos := _, after := _, guard := none }) (v := .string (⟨#[115, 32, 60, 45, 32, 40]⟩ ++ bs x ++ ⟨#[41, 32]⟩)) rfl (by kernel_rfl) (by kernel_rfl) (by kernel_rfl) (fun _ _ _ h => h) (Or.inl ⟨by rfl, fun w hSw => by (try dsimp only at hSw); (go_simp <;> omega)⟩) hHeld ?_
    simp only [Act.put, List.setIfInBounds_toArray, List.set_cons_zero, List.set_cons_succ]
    refine wpAnyH_take (i := 4) (oi := { dst := some 43, op := _, type := _, pos := _, after := _, guard := none }) (v := .int .i64 sign) rfl (by kernel_rfl) (by kernel_rfl) (by kernel_rfl) (fun _ _ _ h => h) (Or.inl ⟨by rfl, fun w hSw => by (try dsimp only at hSw); (go_simp <;> omega)⟩) hHeld ?_
    simp only [Act.put, List.setIfInBounds_toArray, List.set_cons_zero, List.set_cons_succ]
    refine anyH_takeCall (i := 5) (oi := { dst := some 44, op := _, type := _, pos := _, after := _, guard := none }) (v := .int .i64 ↑j2) (f := 6) (args := #[.int .i64 sign, .int .i64 2]) rfl (by kernel_rfl) (by kernel_rfl) (by kernel_rfl) (fun _ _ _ h => h) (by rfl) (fun w => by go_simp) hp2 hHeld ?_
    simp only [Act.put, List.setIfInBounds_toArray, List.set_cons_zero, List.set_cons_succ]
    refine wpAnyH_take (i := 10) (oi := { dst := some 49, op := _, type := _, pos := _, after := _, guard := none }) (v := .int .i64 sign) rfl (by kernel_rfl) (by kernel_rfl) (by kernel_rfl) (fun _ _ _ h => h) (Or.inl ⟨by rfl, fun w hSw => by (try dsimp only at hSw); (go_simp <;> omega)⟩) hHeld ?_
    simp only [Act.put, List.setIfInBounds_toArray, List.set_cons_zero, List.set_cons_succ]
    refine anyH_takeCall (i := 11) (oi := { dst := some 50, op := _, type := _, pos := _, after := _, guard := none }) (v := .int .i64 ↑j5) (f := 6) (args := #[.int .i64 sign, .int .i64 5]) rfl (by kernel_rfl) (by kernel_rfl) (by kernel_rfl) (fun _ _ _ h => h) (by rfl) (fun w => by go_simp) hp5 hHeld ?_
    simp only [Act.put, List.setIfInBounds_toArray, List.set_cons_zero, List.set_cons_succ]
    refine wpAnyH_ready (rs := [3, 9]) (by kernel_rfl) (by simp) ?_
    refine AllReadyH.cons (o := { dst := some 42, op := _, type := _, pos := _, after := _, guard := none }) rfl (fun K hK => ?_) (AllReadyH.cons (o := { dst := some 48, op := _, type := _, pos := _, after := _, guard := none }) rfl (fun K hK => ?_) AllReadyH.nil)
    · go_simp
      refine hK.out _ _ trivial (fun hHeld => ?_)
      clear hK K hHeld
      refine anyH_more (S' := fun w' => w'.cell? ⟨w3.heap.size, j2, none⟩ = some (.string (bs [p]))) (fun _ _ => trivial) _ _ _ _ ?_
      have hHeld : ((w3.alloc (.cells #[.string ⟨#[38]⟩, .string ⟨#[33]⟩] 9)).drew).cell? ⟨w3.heap.size, j2, none⟩ = some (.string (bs [p])) := cellA
      refine wpAnyH_take (i := 6) (oi := { dst := some 45, op := _, type := _, pos := _, after := _, guard := none }) (v := .pointer (some ⟨w3.heap.size, j2, none⟩)) rfl (by kernel_rfl) (by kernel_rfl) (by kernel_rfl) (fun _ _ _ h => h) (Or.inl ⟨by rfl, fun w hSw => by (try dsimp only at hSw); (go_simp <;> omega)⟩) hHeld ?_
      simp only [Act.put, List.setIfInBounds_toArray, List.set_cons_zero, List.set_cons_succ]
      refine wpAnyH_take (i := 7) (oi := { dst := some 46, op := _, type := _, pos := _, after := _, guard := none }) (v := .string (bs [p])) rfl (by kernel_rfl) (by kernel_rfl) (by kernel_rfl) (fun _ _ _ h => h) (Or.inl ⟨by rfl, fun w hSw => by (try dsimp only at hSw); (go_simp <;> omega)⟩) hHeld ?_
      simp only [Act.put, List.setIfInBounds_toArray, List.set_cons_zero, List.set_cons_succ]
      refine wpAnyH_take (i := 8) (oi := { dst := some 47, op := _, type := _, pos := _, after := _, guard := none }) (v := .string (⟨#[115, 32, 60, 45, 32, 40]⟩ ++ bs x ++ ⟨#[41, 32]⟩ ++ bs [p])) rfl (by kernel_rfl) (by kernel_rfl) (by kernel_rfl) (fun _ _ _ h => h) (Or.inl ⟨by rfl, fun w hSw => by (try dsimp only at hSw); (go_simp <;> omega)⟩) hHeld ?_
      simp only [Act.put, List.setIfInBounds_toArray, List.set_cons_zero, List.set_cons_succ]
      refine wpAnyH_ready (rs := [9]) (by kernel_rfl) (by simp) ?_
      refine AllReadyH.cons (o := { dst := some 48, op := _, type := _, pos := _, after := _, guard := none }) rfl (fun K hK => ?_) AllReadyH.nil
      go_simp
      refine hK.out _ _ cellA2a (fun hHeld => ?_)
      clear hK K hHeld
      refine anyH_more (S' := fun w' => w'.cell? ⟨w3.heap.size, j2, none⟩ = some (.string (bs [p])) ∧ w'.cell? ⟨w3.heap.size + 1, j5, none⟩ = some (.string (bs [q]))) (fun _ h => h.1) _ _ _ _ ?_
      have hHeld := And.intro cellA2a cellA2b
      refine wpAnyH_take (i := 12) (oi := { dst := some 51, op := _, type := _, pos := _, after := _, guard := none }) (v := .pointer (some ⟨w3.heap.size + 1, j5, none⟩)) rfl (by kernel_rfl) (by kernel_rfl) (by kernel_rfl) (fun _ _ _ h => h) (Or.inl ⟨by rfl, fun w hSw => by (try dsimp only at hSw); (go_simp <;> omega)⟩) hHeld ?_
      simp only [Act.put, List.setIfInBounds_toArray, List.set_cons_zero, List.set_cons_succ]
      refine wpAnyH_take (i := 13) (oi := { dst := some 52, op := _, type := _, pos := _, after := _, guard := none }) (v := .string (bs [q])) rfl (by kernel_rfl) (by kernel_rfl) (by kernel_rfl) (fun _ _ _ h => h) (Or.inl ⟨by rfl, fun w hSw => by (try dsimp only at hSw); (go_simp <;> omega)⟩) hHeld ?_
      simp only [Act.put, List.setIfInBounds_toArray, List.set_cons_zero, List.set_cons_succ]
      refine wpAnyH_take (i := 14) (oi := { dst := some 53, op := _, type := _, pos := _, after := _, guard := none }) (v := .string (⟨#[115, 32, 60, 45, 32, 40]⟩ ++ bs x ++ ⟨#[41, 32]⟩ ++ bs [p] ++ bs [q])) rfl (by kernel_rfl) (by kernel_rfl) (by kernel_rfl) (fun _ _ _ h => h) (Or.inl ⟨by rfl, fun w hSw => by (try dsimp only at hSw); (go_simp <;> omega)⟩) hHeld ?_
      simp only [Act.put, List.setIfInBounds_toArray, List.set_cons_zero, List.set_cons_succ]
      refine wpAnyH_take (i := 15) (oi := { dst := some 14, op := _, type := _, pos := _, after := _, guard := none }) (v := .string (⟨#[115, 32, 60, 45, 32, 40]⟩ ++ bs x ++ ⟨#[41, 32]⟩ ++ bs [p] ++ bs [q])) rfl (by kernel_rfl) (by kernel_rfl) (by kernel_rfl) (fun _ _ _ h => h) (Or.inl ⟨by rfl, fun w hSw => by (try dsimp only at hSw); (go_simp <;> omega)⟩) hHeld ?_
      simp only [Act.put, List.setIfInBounds_toArray, List.set_cons_zero, List.set_cons_succ]
      refine wpAnyH_done (by kernel_rfl) ?_ _
      (try go_wp2_with fail)
      go_meet
      refine ⟨by simp [bs_app, brk], ?_⟩
      exact ((below_alloc w3 _).alloc (by simp) _).drew
    · go_simp
      refine hK.out _ _ trivial (fun hHeld => ?_)
      clear hK K hHeld
      refine anyH_more (S' := fun w' => w'.cell? ⟨w3.heap.size, j5, none⟩ = some (.string (bs [q]))) (fun _ _ => trivial) _ _ _ _ ?_
      have hHeld : ((w3.alloc (.cells #[.string ⟨#[42]⟩, .string ⟨#[63]⟩, .string ⟨#[43]⟩, .string ⟨#[47]⟩, .string ⟨#[38]⟩] 9)).drew).cell? ⟨w3.heap.size, j5, none⟩ = some (.string (bs [q])) := cellB
      refine wpAnyH_take (i := 12) (oi := { dst := some 51, op := _, type := _, pos := _, after := _, guard := none }) (v := .pointer (some ⟨w3.heap.size, j5, none⟩)) rfl (by kernel_rfl) (by kernel_rfl) (by kernel_rfl) (fun _ _ _ h => h) (Or.inl ⟨by rfl, fun w hSw => by (try dsimp only at hSw); (go_simp <;> omega)⟩) hHeld ?_
      simp only [Act.put, List.setIfInBounds_toArray, List.set_cons_zero, List.set_cons_succ]
      refine wpAnyH_take (i := 13) (oi := { dst := some 52, op := _, type := _, pos := _, after := _, guard := none }) (v := .string (bs [q])) rfl (by kernel_rfl) (by kernel_rfl) (by kernel_rfl) (fun _ _ _ h => h) (Or.inl ⟨by rfl, fun w hSw => by (try dsimp only at hSw); (go_simp <;> omega)⟩) hHeld ?_
      simp only [Act.put, List.setIfInBounds_toArray, List.set_cons_zero, List.set_cons_succ]
      refine wpAnyH_ready (rs := [3]) (by kernel_rfl) (by simp) ?_
      refine AllReadyH.cons (o := { dst := some 42, op := _, type := _, pos := _, after := _, guard := none }) rfl (fun K hK => ?_) AllReadyH.nil
      go_simp
      refine hK.out _ _ cellB2a (fun hHeld => ?_)
      clear hK K hHeld
      refine anyH_more (S' := fun w' => w'.cell? ⟨w3.heap.size, j5, none⟩ = some (.string (bs [q])) ∧ w'.cell? ⟨w3.heap.size + 1, j2, none⟩ = some (.string (bs [p]))) (fun _ h => h.1) _ _ _ _ ?_
      have hHeld := And.intro cellB2a cellB2b
      refine wpAnyH_take (i := 6) (oi := { dst := some 45, op := _, type := _, pos := _, after := _, guard := none }) (v := .pointer (some ⟨w3.heap.size + 1, j2, none⟩)) rfl (by kernel_rfl) (by kernel_rfl) (by kernel_rfl) (fun _ _ _ h => h) (Or.inl ⟨by rfl, fun w hSw => by (try dsimp only at hSw); (go_simp <;> omega)⟩) hHeld ?_
      simp only [Act.put, List.setIfInBounds_toArray, List.set_cons_zero, List.set_cons_succ]
      refine wpAnyH_take (i := 7) (oi := { dst := some 46, op := _, type := _, pos := _, after := _, guard := none }) (v := .string (bs [p])) rfl (by kernel_rfl) (by kernel_rfl) (by kernel_rfl) (fun _ _ _ h => h) (Or.inl ⟨by rfl, fun w hSw => by (try dsimp only at hSw); (go_simp <;> omega)⟩) hHeld ?_
      simp only [Act.put, List.setIfInBounds_toArray, List.set_cons_zero, List.set_cons_succ]
      refine wpAnyH_take (i := 8) (oi := { dst := some 47, op := _, type := _, pos := _, after := _, guard := none }) (v := .string (⟨#[115, 32, 60, 45, 32, 40]⟩ ++ bs x ++ ⟨#[41, 32]⟩ ++ bs [p])) rfl (by kernel_rfl) (by kernel_rfl) (by kernel_rfl) (fun _ _ _ h => h) (Or.inl ⟨by rfl, fun w hSw => by (try dsimp only at hSw); (go_simp <;> omega)⟩) hHeld ?_
      simp only [Act.put, List.setIfInBounds_toArray, List.set_cons_zero, List.set_cons_succ]
      refine wpAnyH_take (i := 14) (oi := { dst := some 53, op := _, type := _, pos := _, after := _, guard := none }) (v := .string (⟨#[115, 32, 60, 45, 32, 40]⟩ ++ bs x ++ ⟨#[41, 32]⟩ ++ bs [p] ++ bs [q])) rfl (by kernel_rfl) (by kernel_rfl) (by kernel_rfl) (fun _ _ _ h => h) (Or.inl ⟨by rfl, fun w hSw => by (try dsimp only at hSw); (go_simp <;> omega)⟩) hHeld ?_
      simp only [Act.put, List.setIfInBounds_toArray, List.set_cons_zero, List.set_cons_succ]
      refine wpAnyH_take (i := 15) (oi := { dst := some 14, op := _, type := _, pos := _, after := _, guard := none }) (v := .string (⟨#[115, 32, 60, 45, 32, 40]⟩ ++ bs x ++ ⟨#[41, 32]⟩ ++ bs [p] ++ bs [q])) rfl (by kernel_rfl) (by kernel_rfl) (by kernel_rfl) (fun _ _ _ h => h) (Or.inl ⟨by rfl, fun w hSw => by (try dsimp only at hSw); (go_simp <;> omega)⟩) hHeld ?_
      simp only [Act.put, List.setIfInBounds_toArray, List.set_cons_zero, List.set_cons_succ]
      refine wpAnyH_done (by kernel_rfl) ?_ _
      (try go_wp2_with fail)
      go_meet
      refine ⟨by simp [bs_app, brk], ?_⟩
      exact ((below_alloc w3 _).alloc (by simp) _).drew
  case rest =>
    obtain ⟨rfl, hb4⟩ := hcut
    have HL4 := hideK (HL3.out.below hb4)
    have hz4 := hb4.size
    have HB4 := hideK (HB3.out.trans (hb4.mono (by omega)))
    have cc : ∀ w', ErrLaid w' → Calls Tryd.prog 5 #[.string (bs (hdB ++ (brk [] x ++ [32, p, q])))] w' fun e w'' => e = .returned (.tuple #[.int .i64 2, .int .i64 ↑(x.length + 9)]) ∧ Below w'.heap.size w' w'' :=
      fun w' h' => check_err rfl (by simp [brk_len]; omega) (fun res hP => Gx_c HG.out hd4 hlx HPP.out HQQ.out hP) w' h'
    have cd : ∀ w', ErrLaid w' → Calls Tryd.prog 5 #[.string (⟨#[115, 32, 60, 45, 32, 40]⟩ ++ bs x ++ ⟨#[41]⟩ ++ ⟨#[32, 110, 117, 109, 32, 60, 45, 32, 91, 48, 45, 57, 93, 32, 110, 117, 109, 63, 32, 119, 111, 114, 100, 32, 60, 45, 32, 39, 97, 39, 32, 119, 111, 114, 100, 32, 39, 98, 39, 32, 47, 32, 39, 99, 39, 32, 39, 97, 39, 63]⟩)] w' fun e w'' => e = .returned (.tuple #[.int .i64 0, .int .i64 0]) ∧ Below w'.heap.size w' w'' :=
      fun w' h' => check_fine (l := hdB ++ (brk [] x ++ rulesB)) (by rw [bs_app, bs_app, bs_app]; simp [brk]) (by simp [brk_len]; omega) (fun res hP => Gx_d HG.out hd4 hlx hP) w' h'
    have sc : (bs (hdB ++ (brk [] x ++ [32, p, q]))).size = x.length + 10 := by rw [bs_size]; simp [brk_len]
    have hkr := krules_any
    generalize bs (hdB ++ (brk [] x ++ [32, p, q])) = sC at cc sc ⊢
    clear hb4 HL3 HB3 hp2 hp5 hpc hqc
    go_wp2_with fail
    refine (cc _ HL4.out).mono ?_
    rintro _ w5 ⟨rfl, hb5⟩
    have HL5 := hideK (HL4.out.below hb5)
    have hz5 := hb5.size
    have HB5 := hideK (HB4.out.trans (hb5.mono (by omega)))
    clear cc hb5 HL4 HB4
    go_wp2_with (first | (go_at_call 7; refine (hkr _).mono ?_; rintro _ w' ⟨rfl, hw⟩; replace hw := hw.symm; subst hw))
    refine (cd _ HL5.out).mono ?_
    rintro _ w6 ⟨rfl, hb6⟩
    have HB6 := hideK (HB5.out.trans (hb6.mono (by omega)))
    clear cd hb6 HL5 HB5 hkr
    go_wp2_with fail
    go_ret
    exact ⟨rfl, HB6.out⟩
end Go.Proofs.YtgfejacimdmkpaaDoor
