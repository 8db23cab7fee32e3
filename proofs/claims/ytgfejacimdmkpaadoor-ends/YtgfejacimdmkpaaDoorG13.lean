import Derived.Test.YtgfejacimdmkpaaDoorG12
set_option linter.all false
namespace Go.Proofs.YtgfejacimdmkpaaDoor
open Go.RowKit

theorem Rd.set1' {w : World} {rb tb tc : Nat} {ps : List (Thk.Tok × Value)} {n d : Nat} (h : Rd w rb tb tc ps n d) {b o : Nat} (hb : ∃ cs e fr, w.heap[b]? = some (.cells cs e fr) ∧ e = 90) (u : Value) : Rd (w.setCell ⟨b, o, none⟩ u) rb tb tc ps n d := by
  obtain ⟨cs, e, fr, hb, rfl⟩ := hb
  exact h.other (b := b) (fun g hg _ => Below.heap_setCell _ _ _ _ hg) hb (by decide) (by decide) (by decide)

set_option maxHeartbeats 8000000 in
set_option maxRecDepth 100000 in
/-- A name stands there. -/
theorem rule_name (w : World) (rb tb tc : Nat) (ps : List (Thk.Tok × Value)) (m n : Nat) (h : Rd w rb tb tc ps n 0) (hg : GoodP ps) (hn : n < ps.length) (hm : m ≤ 20) (hk : ps[n].1.kind = .name) :
    Calls Tryd.prog 31 #[.pointer (some ⟨rb, 0, none⟩), .int .i64 m] w fun e w' => RulePost w rb tb tc ps m n e w' := by
  have hrl := h.lt
  have hl := h.2.2.1
  have HTX : Hid (ps[n].1.text.length ≤ 2000) := h.2.2.2 ps[n] (List.getElem_mem hn)
  have hex := expect_yes (w.alloc zRuleO) rb tb tc ps n 0 (h.below (below_alloc _ _)) hn 2 (by rw [hk]; rfl)
  have hn1 : n + 1 < ps.length := (hg n hn).2 (by rw [hk]; rfl)
  have hok1 := (hg (n + 1) hn1).1
  obtain ⟨a0, b0, e0⟩ := own_form (h.2.1.2 ps[n] (List.getElem_mem hn))
  obtain ⟨a1, b1, e1⟩ := own_form (h.2.1.2 ps[n + 1] (List.getElem_mem hn1))
  simp only [tokV, e0] at hex
  have HK : Hid (ps[n].1.kind = .name) := hk
  have E1 : Hid (ps[n + 1].2 = .slice a1 ps[n + 1].1.spans.length b1) := e1
  clear e0 h hk e1
  go_enter Tryd.func31, Tryd.ntmps31
  go_wp2_with fail
  refine hex.mono ?_
  rintro e w1 ⟨rfl, hR1, hK1⟩
  have hsz1 := hK1.size
  simp at hsz1
  have hrc1 : w1.heap[w.heap.size]? = some zRuleO := by rw [kp_block hK1 (by simp) (by omega)]; exact heap_alloc_same _ _
  have hlt1 : w.heap.size < w1.heap.size := by omega
  have HK1 : Hid (Kp rb w.heap.size w w1) := (Kp.of (below_alloc _ _)).trans (hK1.mono (by simp))
  obtain ⟨O, hO⟩ : ∃ O : Obj, O = .cells #[.int .u8 (kindI ps[n].1.kind), .int .i64 ↑ps[n].1.place, .string ⟨List.toArray ps[n].1.text⟩, .slice a0 ps[n].1.spans.length b0] 84 := ⟨_, rfl⟩
  have hR1' : Rd (w1.alloc O) rb tb tc ps (n + 1) 0 := hR1.below (below_alloc _ _)
  have hrc1' : (w1.alloc O).heap[w.heap.size]? = some zRuleO := by rw [heap_alloc_old _ _ hlt1]; exact hrc1
  have hkd := kind_of (w1.alloc O) rb tb tc ps (n + 1) 0 hR1' hn1 _ rfl
  have hrf := fun q => refuse_any ((w1.alloc O).drewN q) rb tb tc ps (n + 1) 0 hR1' hn1 4
  have hey := fun q (hK3 : kindI ps[n + 1].1.kind = 3) => expect_yes ((w1.alloc O).drewN q) rb tb tc ps (n + 1) 0 hR1' hn1 3 hK3
  have hen := fun q (hK3 : kindI ps[n + 1].1.kind ≠ 3) => expect_no ((w1.alloc O).drewN q) rb tb tc ps (n + 1) 0 hR1' hn1 3 hK3
  simp only [tokV, E1.out] at hey hen
  have H1 : Hid (Rd (w1.alloc O) rb tb tc ps (n + 1) 0) := hR1'
  have HRC : Hid ((w1.alloc O).heap[w.heap.size]? = some zRuleO) := hrc1'
  have HW : Hid (Kp rb w.heap.size w (w1.alloc O)) := HK1.out.alloc (by omega) O
  have hszO : (w1.alloc O).heap.size = w1.heap.size + 1 := by simp
  have hname : (w1.alloc O).cell? ⟨w1.heap.size, 2, none⟩ = some (.string ⟨List.toArray ps[n].1.text⟩) := by rw [hO]; simp
  have HR1 : Hid (Rd w1 rb tb tc ps (n + 1) 0) := hR1
  have HRC1 : Hid (w1.heap[w.heap.size]? = some zRuleO) := hrc1
  subst hO
  clear hex hR1 hK1 hrc1 hR1' hrc1'
  have q1 := cell_of_block HRC.out
  have f1 := frozen_of_block HRC.out
  rcases kindI_arrow' hok1 with ⟨hka, hki⟩ | ⟨hka, hki⟩
  · by_cases hm20 : m = 20
    · subst hm20
      rw [hki] at hkd
      have HKA : Hid (ps[n + 1].1.kind = .arrow) := hka
      clear hka hey hen
      go_wp2_with (first | (go_at_call 32; refine hkd.mono ?_; rintro e w2 ⟨rfl, q, rfl⟩) | (go_at_call 53; refine (hrf _).mono ?_; rintro e w3 ⟨rfl, q2, rfl⟩))
      refine bodyPost_ret (v := .tuple #[.agg #[.string ⟨#[]⟩, .slice none 0 0], faultV 4 ps[n + 1].1.place]) (by simp [results, Tryd.results31, go_sem, faultV, q1, hlt1, HRC1.out, cell_of_block HRC1.out]) rfl ?_
      refine ⟨.err 4 ps[n + 1].1.place, ?_, ?_, _, rfl, n + 1, ?_⟩
      · rw [← hd_tsOf hn1, ← tl_tsOf hn]; exact .many (by rw [hd_tsOf hn]; exact HK.out) (by rw [tl_tsOf hn, hd_tsOf hn1]; exact HKA.out)
      · exact ((HW.out.drewN _).setCell (Nat.le_refl _) _).setCell (Nat.le_refl _) _
      · refine (H1.out.drewN (q + q2)).other (b := w.heap.size) (fun g hg _ => ?_) HRC.out (by decide) (by decide) (by decide)
        rw [Below.heap_setCell _ _ _ _ hg, Below.heap_setCell _ _ _ _ hg]
    · have tm : ((m : Int) == 20) = false := beq_eq_false_iff_ne.2 (by omega)
      rw [hki] at hkd
      have HKA : Hid (ps[n + 1].1.kind = .arrow) := hka
      have hey' := fun q => hey q hki
      have hn2 : n + 1 + 1 < ps.length := (hg (n + 1) hn1).2 (by rw [hka]; rfl)
      clear hka hey hen hrf
      go_wp2_with (first | (go_at_call 32; refine hkd.mono ?_; rintro e w2 ⟨rfl, q, rfl⟩))
      refine (hey' q).mono ?_
      rintro e w3 ⟨rfl, hR3, hK3⟩
      have hsz3 := hK3.size
      simp only [World.heap_drewN, hszO] at hsz3
      have hrc3 : w3.heap[w.heap.size]? = some zRuleO := by
        rw [kp_block hK3 (by simp; omega) (by omega)]; exact HRC.out
      have hK3' : Kp rb w.heap.size w w3 := (HW.out.drewN q).trans (hK3.mono (by simp; omega))
      have hnm3 : w3.cell? ⟨w1.heap.size, 2, none⟩ = some (.string ⟨List.toArray ps[n].1.text⟩) := by
        rw [kp_cell hK3 (by simp) (by omega)]; exact hname
      obtain ⟨O2, hO2⟩ : ∃ O : Obj, O = .cells #[.int .u8 3, .int .i64 ↑ps[n + 1].1.place, .string ⟨List.toArray ps[n + 1].1.text⟩, .slice a1 ps[n + 1].1.spans.length b1] 84 := ⟨_, rfl⟩
      have hch := choice_any rb tb tc ps hg ps.length (w3.alloc O2) (n + 1 + 1) 0 (hR3.below (below_alloc _ _)) hn2 (by omega) (by omega)
      have hsz4 : (w3.alloc O2).heap.size = w3.heap.size + 1 := by simp
      have hrc4 : (w3.alloc O2).heap[w.heap.size]? = some zRuleO := by rw [heap_alloc_old _ _ (by omega)]; exact hrc3
      have hnm4 : (w3.alloc O2).cell? ⟨w1.heap.size, 2, none⟩ = some (.string ⟨List.toArray ps[n].1.text⟩) := by
        rw [World.cell?_alloc_lt _ _ _ (by simp only []; omega)]; exact hnm3
      have HK4 : Hid (Kp rb w.heap.size w (w3.alloc O2)) := hK3'.alloc (by omega) _
      subst hO2
      clear hR3 hK3 hrc3 hnm3 hK3' hkd hey' q1 f1 hname
      go_wp2_with fail
      refine hch.mono ?_
      rintro e w5 ⟨res, hP, hK5, hE⟩
      have hsz5 := hK5.size
      rw [hsz4] at hsz5
      have hrc5 : w5.heap[w.heap.size]? = some zRuleO := by rw [kp_block hK5 (by rw [hsz4]; omega) (by omega)]; exact hrc4
      have hnm5 : w5.cell? ⟨w1.heap.size, 2, none⟩ = some (.string ⟨List.toArray ps[n].1.text⟩) := by
        rw [kp_cell hK5 (by rw [hsz4]; omega) (by omega)]; exact hnm4
      have HK5 : Hid (Kp rb w.heap.size w w5) := HK4.out.trans (hK5.mono (by rw [hsz4]; omega))
      have HP : Hid (Thk.PChoice 0 (tsOf ps (n + 1 + 1)) res) := hP
      have HRC5 : Hid (w5.heap[w.heap.size]? = some zRuleO) := hrc5
      have q5 := cell_of_block hrc5
      have f5 := frozen_of_block hrc5
      have hlt5 : w.heap.size < w5.heap.size := by omega
      have hot : ∀ u1 u2 g, g ≠ w.heap.size → g < w5.heap.size → ((w5.setCell ⟨w.heap.size, 0, none⟩ u1).setCell ⟨w.heap.size, 1, none⟩ u2).heap[g]? = w5.heap[g]? := by
        intro u1 u2 g hg _
        rw [Below.heap_setCell _ _ _ _ hg, Below.heap_setCell _ _ _ _ hg]
      have HOT : Hid (∀ u1 u2 g, g ≠ w.heap.size → g < w5.heap.size → ((w5.setCell ⟨w.heap.size, 0, none⟩ u1).setCell ⟨w.heap.size, 1, none⟩ u2).heap[g]? = w5.heap[g]?) := hot
      clear hch hK5 hrc5 hP hot hnm4 hrc4
      have hts : (tsOf ps n).tail.tail = tsOf ps (n + 1 + 1) := by rw [tl_tsOf hn, tl_tsOf hn1]
      have HTS : Hid ((tsOf ps n).tail.tail = tsOf ps (n + 1 + 1)) := hts
      clear hts
      cases res with
      | err er p =>
        obtain ⟨rfl, n', hR5⟩ := hE
        simp only [faultV]
        have H5 : Hid (Rd w5 rb tb tc ps n' 0) := hR5
        clear hR5
        go_wp2_with fail
        refine bodyPost_ret (v := .tuple #[.agg #[.string ⟨List.toArray ps[n].1.text⟩, .slice none 0 0], faultV er p]) (by simp [results, Tryd.results31, go_sem, faultV, q5, hlt5]) rfl ?_
        refine ⟨.err er p, ?_, ?_, _, rfl, n', ?_⟩
        · exact .err (by rw [hd_tsOf hn]; exact HK.out) (by rw [tl_tsOf hn, hd_tsOf hn1]; exact HKA.out) hm20 (by rw [HTS.out]; exact HP.out)
        · exact (HK5.out.setCell (Nat.le_refl _) _).setCell (Nat.le_refl _) _
        · exact H5.out.other (b := w.heap.size) (HOT.out _ _) HRC5.out (by decide) (by decide) (by decide)
      | ok c rest =>
        obtain ⟨n', a, l, cp, rfl, hle, hn', rfl, hRC, hR5⟩ := hE
        have H5 : Hid (Rd w5 rb tb tc ps n' 0) := hR5
        rw [hsz4] at hRC
        have HRCC : Hid (RChoice w5 (w3.heap.size + 1 ≤ ·) c (.slice a l cp)) := hRC
        clear hR5 hRC
        go_wp2_with fail
        refine bodyPost_ret (v := .tuple #[.agg #[.string ⟨List.toArray ps[n].1.text⟩, .slice a l cp], .nilIface]) (by simp [results, Tryd.results31, go_sem, q5, hlt5]) rfl ?_
        refine ⟨.ok ⟨ps[n].1.text, c⟩ (tsOf ps n'), ?_, ?_, n', a, l, cp, rfl, by omega, hn', rfl, ?_, ?_, HTX.out⟩
        · have := Thk.PRule.ok (n := m) (ts := tsOf ps n) (c := c) (rest := tsOf ps n') (by rw [hd_tsOf hn]; exact HK.out) (by rw [tl_tsOf hn, hd_tsOf hn1]; exact HKA.out) hm20 (by rw [HTS.out]; exact HP.out)
          rw [hd_tsOf hn] at this
          exact this
        · exact (HK5.out.setCell (Nat.le_refl _) _).setCell (Nat.le_refl _) _
        · have hs : Sm (w3.heap.size + 1 ≤ ·) w5 ((w5.setCell ⟨w.heap.size, 0, none⟩ (.string ⟨List.toArray ps[n].1.text⟩)).setCell ⟨w.heap.size, 1, none⟩ (.slice a l cp)) := ⟨fun u l hl => own_other hl (HOT.out _ _) HRC5.out (by decide), fun g hg ha => HOT.out _ _ g (by omega) hg⟩
          exact (HRCC.out.kept hs).mono (fun g _ hg => by omega)
        · exact H5.out.other (b := w.heap.size) (HOT.out _ _) HRC5.out (by decide) (by decide) (by decide)
  · have HKA : Hid (ps[n + 1].1.kind ≠ .arrow) := hka
    have tk : (kindI ps[n + 1].1.kind == 3) = false := beq_eq_false_iff_ne.2 hki
    have hen' := fun q => hen q hki
    clear hka hey hen hrf hki
    generalize kindI ps[n + 1].1.kind = K at *
    go_wp2_with (first | (go_at_call 32; refine hkd.mono ?_; rintro e w2 ⟨rfl, q, rfl⟩))
    refine (hen' q).mono ?_
    rintro e w3 ⟨rfl, hR3, hK3⟩
    have hsz3 := hK3.size
    simp only [World.heap_drewN, hszO] at hsz3
    have hrc3 : w3.heap[w.heap.size]? = some zRuleO := by
      rw [kp_block hK3 (by simp; omega) (by omega)]; exact HRC.out
    have HK3 : Hid (Kp rb w.heap.size w w3) := (HW.out.drewN q).trans (hK3.mono (by simp; omega))
    have H3 : Hid (Rd w3 rb tb tc ps (n + 1) 0) := hR3
    have HRC3 : Hid (w3.heap[w.heap.size]? = some zRuleO) := hrc3
    have q3 := cell_of_block hrc3
    have f3 := frozen_of_block hrc3
    have hlt3 : w.heap.size < w3.heap.size := by omega
    clear hR3 hK3 hrc3 hkd hen' q1 f1 hname
    go_wp2_with fail
    refine bodyPost_ret (v := .tuple #[.agg #[.string ⟨#[]⟩, .slice none 0 0], faultV 2 ps[n + 1].1.place]) (by simp [results, Tryd.results31, go_sem, faultV, q3, hlt3]) rfl ?_
    refine ⟨.err 2 ps[n + 1].1.place, ?_, ?_, _, rfl, n + 1, ?_⟩
    · rw [← hd_tsOf hn1, ← tl_tsOf hn]; exact .noArrow (by rw [hd_tsOf hn]; exact HK.out) (by rw [tl_tsOf hn, hd_tsOf hn1]; exact HKA.out)
    · exact ((HK3.out.setCell (Nat.le_refl _) _).setCell (Nat.le_refl _) _).alloc (by simp; omega) _
    · refine (H3.out.other (b := w.heap.size) (fun g hg _ => ?_) HRC3.out (by decide) (by decide) (by decide)).below (below_alloc _ _)
      rw [Below.heap_setCell _ _ _ _ hg, Below.heap_setCell _ _ _ _ hg]

theorem rule_any (w : World) (rb tb tc : Nat) (ps : List (Thk.Tok × Value)) (m n : Nat) (h : Rd w rb tb tc ps n 0) (hg : GoodP ps) (hn : n < ps.length) (hm : m ≤ 20) :
    Calls Tryd.prog 31 #[.pointer (some ⟨rb, 0, none⟩), .int .i64 m] w fun e w' => RulePost w rb tb tc ps m n e w' := by
  rcases kindI_name (hg n hn).1 with ⟨hk, _⟩ | ⟨hk, hki⟩
  · exact rule_name w rb tb tc ps m n h hg hn hm hk
  · exact rule_noName w rb tb tc ps m n h hn hk hki
end Go.Proofs.YtgfejacimdmkpaaDoor
