import Derived.Test.YtjmcdklhaieldaaGreatDoorGC
set_option linter.all false
namespace Go.Proofs.YtjmcdklhaieldaaGreatDoor
open Go.RowKit

theorem Rd.set1' {w : World} {rb tb tc : Nat} {ps : List (Thk.Tok × Value)} {n d : Nat} (h : Rd w rb tb tc ps n d) {b o : Nat} (hb : ∃ cs e fr, w.heap[b]? = some (.cells cs e fr) ∧ e = 119) (u : Value) : Rd (w.setCell ⟨b, o, none⟩ u) rb tb tc ps n d := by
  obtain ⟨cs, e, fr, hb, rfl⟩ := hb
  exact h.other (b := b) (fun g hg _ => Below.heap_setCell _ _ _ _ hg) hb (by decide) (by decide) (by decide)

set_option maxHeartbeats 8000000 in
set_option maxRecDepth 100000 in
/-- A name stands there. -/
theorem rule_name (w : World) (rb tb tc : Nat) (ps : List (Thk.Tok × Value)) (m n : Nat) (h : Rd w rb tb tc ps n 0) (hg : GoodP ps) (hn : n < ps.length) (hm : m ≤ 20) (hk : ps[n].1.kind = .name) :
    Calls Tryz.prog 101 #[.pointer (some ⟨rb, 0, none⟩), .int .i64 m] w fun e w' => RulePost w rb tb tc ps m n e w' := by
  have hrl := h.lt
  have hl := h.2.2.1
  have HTX : Hid (ps[n].1.text.length ≤ 2000) := h.2.2.2 ps[n] (List.getElem_mem hn)
  have hex := expect_yes (w.alloc zRuleO) rb tb tc ps n 0 (h.below (below_alloc _ _)) hn 2 (by rw [hk]; rfl)
  have hn1 : n + 1 < ps.length := (hg n hn).2 (by rw [hk]; rfl)
  have hok1 := (hg (n + 1) hn1).1
  obtain ⟨a0, b0, e0⟩ := own_form (h.2.1.2 ps[n] (List.getElem_mem hn))
  obtain ⟨a1, b1, e1⟩ := own_form (h.2.1.2 ps[n + 1] (List.getElem_mem hn1))
  simp only [tokV, e0] at hex
  have HK : Hid (ps[n].1.kind = .name) := hk
  have E1 : Hid (ps[n + 1].2 = .slice a1 ps[n + 1].1.spans.length b1) := e1
  clear e0 h hk e1
  go_enter Tryz.func101, Tryz.ntmps101
  go_wp2_with fail
  refine hex.mono ?_
  rintro e w1 ⟨rfl, hR1, hK1⟩
  have hsz1 := hK1.size
  simp at hsz1
  have hrc1 : w1.heap[w.heap.size]? = some zRuleO := by rw [kp_block hK1 (by simp) (by omega)]; exact heap_alloc_same _ _
  have hlt1 : w.heap.size < w1.heap.size := by omega
  have HK1 : Hid (Kp rb w.heap.size w w1) := (Kp.of (below_alloc _ _)).trans (hK1.mono (by simp))
  obtain ⟨O, hO⟩ : ∃ O : Obj, O = .cells #[.int .u8 (kindI ps[n].1.kind), .int .i64 ↑ps[n].1.place, .string ⟨List.toArray ps[n].1.text⟩, .slice a0 ps[n].1.spans.length b0] 207 := ⟨_, rfl⟩
  have hR1' : Rd (w1.alloc O) rb tb tc ps (n + 1) 0 := hR1.below (below_alloc _ _)
  have hrc1' : (w1.alloc O).heap[w.heap.size]? = some zRuleO := by rw [heap_alloc_old _ _ hlt1]; exact hrc1
  have hkd := kind_of (w1.alloc O) rb tb tc ps (n + 1) 0 hR1' hn1 _ rfl
  have hrf := fun q => refuse_any ((w1.alloc O).drewN q) rb tb tc ps (n + 1) 0 hR1' hn1 4
  have hey := fun q (hK3 : kindI ps[n + 1].1.kind = 3) => expect_yes ((w1.alloc O).drewN q) rb tb tc ps (n + 1) 0 hR1' hn1 3 hK3
  have hen := fun q (hK3 : kindI ps[n + 1].1.kind ≠ 3) => expect_no ((w1.alloc O).drewN q) rb tb tc ps (n + 1) 0 hR1' hn1 3 hK3
  simp only [tokV, E1.out] at hey hen
  have H1 : Hid (Rd (w1.alloc O) rb tb tc ps (n + 1) 0) := hR1'
  have HRC : Hid ((w1.alloc O).heap[w.heap.size]? = some zRuleO) := hrc1'
  have HW : Hid (Kp rb w.heap.size w (w1.alloc O)) := HK1.out.alloc (by omega) O
  have hszO : (w1.alloc O).heap.size = w1.heap.size + 1 := by simp
  have hname : (w1.alloc O).cell? ⟨w1.heap.size, 2, none⟩ = some (.string ⟨List.toArray ps[n].1.text⟩) := by rw [hO]; simp
  have HR1 : Hid (Rd w1 rb tb tc ps (n + 1) 0) := hR1
  have HRC1 : Hid (w1.heap[w.heap.size]? = some zRuleO) := hrc1
  subst hO
  clear hex hR1 hK1 hrc1 hR1' hrc1'
  have q1 := cell_of_block HRC.out
  have f1 := frozen_of_block HRC.out
  rcases kindI_arrow' hok1 with ⟨hka, hki⟩ | ⟨hka, hki⟩
  · by_cases hm20 : m = 20
    · subst hm20
      rw [hki] at hkd
      have HKA : Hid (ps[n + 1].1.kind = .arrow) := hka
      clear hka hey hen
      go_wp2_with (first | (go_at_call 102; refine hkd.mono ?_; rintro e w2 ⟨rfl, q, rfl⟩) | (go_at_call 140; refine (hrf _).mono ?_; rintro e w3 ⟨rfl, q2, rfl⟩))
      refine bodyPost_ret (v := .tuple #[.agg #[.string ⟨#[]⟩, .slice none 0 0], faultV 4 ps[n + 1].1.place]) (by simp [results, Tryz.results101, go_sem, faultV, q1, hlt1, HRC1.out, cell_of_block HRC1.out]) rfl ?_
      refine ⟨.err 4 ps[n + 1].1.place, ?_, ?_, _, rfl, n + 1, ?_⟩
      · rw [← hd_tsOf hn1, ← tl_tsOf hn]; exact .many (by rw [hd_tsOf hn]; exact HK.out) (by rw [tl_tsOf hn, hd_tsOf hn1]; exact HKA.out)
      · exact ((HW.out.drewN _).setCell (Nat.le_refl _) _).setCell (Nat.le_refl _) _
      · refine (H1.out.drewN (q + q2)).other (b := w.heap.size) (fun g hg _ => ?_) HRC.out (by decide) (by decide) (by decide)
        rw [Below.heap_setCell _ _ _ _ hg, Below.heap_setCell _ _ _ _ hg]
    · have tm : ((m : Int) == 20) = false := beq_eq_false_iff_ne.2 (by omega)
      rw [hki] at hkd
      have HKA : Hid (ps[n + 1].1.kind = .arrow) := hka
      have hey' := fun q => hey q hki
      have hn2 : n + 1 + 1 < ps.length := (hg (n + 1) hn1).2 (by rw [hka]; rfl)
      clear hka hey hen hrf
      go_wp2_with (first | (go_at_call 102; refine hkd.mono ?_; rintro e w2 ⟨rfl, q, rfl⟩))
      refine (hey' q).mono ?_
      rintro e w3 ⟨rfl, hR3, hK3⟩
      have hsz3 := hK3.size
      simp only [World.heap_drewN, hszO] at hsz3
      have hrc3 : w3.heap[w.heap.size]? = some zRuleO := by
        rw [kp_block hK3 (by simp; omega) (by omega)]; exact HRC.out
      have hK3' : Kp rb w.heap.size w w3 := (HW.out.drewN q).trans (hK3.mono (by simp; omega))
      have hnm3 : w3.cell? ⟨w1.heap.size, 2, none⟩ = some (.string ⟨List.toArray ps[n].1.text⟩) := by
        rw [kp_cell hK3 (by simp) (by omega)]; exact hname
      obtain ⟨O2, hO2⟩ : ∃ O : Obj, O = .cells #[.int .u8 3, .int .i64 ↑ps[n + 1].1.place, .string ⟨List.toArray ps[n + 1].1.text⟩, .slice a1 ps[n + 1].1.spans.length b1] 207 := ⟨_, rfl⟩
      have hch := choice_any rb tb tc ps hg ps.length (w3.alloc O2) (n + 1 + 1) 0 (hR3.below (below_alloc _ _)) hn2 (by omega) (by omega)
      have hsz4 : (w3.alloc O2).heap.size = w3.heap.size + 1 := by simp
      have hrc4 : (w3.alloc O2).heap[w.heap.size]? = some zRuleO := by rw [heap_alloc_old _ _ (by omega)]; exact hrc3
      have hnm4 : (w3.alloc O2).cell? ⟨w1.heap.size, 2, none⟩ = some (.string ⟨List.toArray ps[n].1.text⟩) := by
        rw [World.cell?_alloc_lt _ _ _ (by simp only []; omega)]; exact hnm3
      have HK4 : Hid (Kp rb w.heap.size w (w3.alloc O2)) := hK3'.alloc (by omega) _
      subst hO2
      clear hR3 hK3 hrc3 hnm3 hK3' hkd hey' q1 f1 hname
      go_wp2_with fail
      refine hch.mono ?_
      rintro e w5 ⟨res, hP, hK5, hE⟩
      have hsz5 := hK5.size
      rw [hsz4] at hsz5
      have hrc5 : w5.heap[w.heap.size]? = some zRuleO := by rw [kp_block hK5 (by rw [hsz4]; omega) (by omega)]; exact hrc4
      have hnm5 : w5.cell? ⟨w1.heap.size, 2, none⟩ = some (.string ⟨List.toArray ps[n].1.text⟩) := by
        rw [kp_cell hK5 (by rw [hsz4]; omega) (by omega)]; exact hnm4
      have HK5 : Hid (Kp rb w.heap.size w w5) := HK4.out.trans (hK5.mono (by rw [hsz4]; omega))
      have HP : Hid (Thk.PChoice 0 (tsOf ps (n + 1 + 1)) res) := hP
      have HRC5 : Hid (w5.heap[w.heap.size]? = some zRuleO) := hrc5
      have q5 := cell_of_block hrc5
      have f5 := frozen_of_block hrc5
      have hlt5 : w.heap.size < w5.heap.size := by omega
      have hot : ∀ u1 u2 g, g ≠ w.heap.size → g < w5.heap.size → ((w5.setCell ⟨w.heap.size, 0, none⟩ u1).setCell ⟨w.heap.size, 1, none⟩ u2).heap[g]? = w5.heap[g]? := by
        intro u1 u2 g hg _
        rw [Below.heap_setCell _ _ _ _ hg, Below.heap_setCell _ _ _ _ hg]
      have HOT : Hid (∀ u1 u2 g, g ≠ w.heap.size → g < w5.heap.size → ((w5.setCell ⟨w.heap.size, 0, none⟩ u1).setCell ⟨w.heap.size, 1, none⟩ u2).heap[g]? = w5.heap[g]?) := hot
      clear hch hK5 hrc5 hP hot hnm4 hrc4
      have hts : (tsOf ps n).tail.tail = tsOf ps (n + 1 + 1) := by rw [tl_tsOf hn, tl_tsOf hn1]
      have HTS : Hid ((tsOf ps n).tail.tail = tsOf ps (n + 1 + 1)) := hts
      clear hts
      cases res with
      | err er p =>
        obtain ⟨rfl, n', hR5⟩ := hE
        simp only [faultV]
        have H5 : Hid (Rd w5 rb tb tc ps n' 0) := hR5
        clear hR5
        go_wp2_with fail
        refine bodyPost_ret (v := .tuple #[.agg #[.string ⟨List.toArray ps[n].1.text⟩, .slice none 0 0], faultV er p]) (by simp [results, Tryz.results101, go_sem, faultV, q5, hlt5]) rfl ?_
        refine ⟨.err er p, ?_, ?_, _, rfl, n', ?_⟩
        · exact .err (by rw [hd_tsOf hn]; exact HK.out) (by rw [tl_tsOf hn, hd_tsOf hn1]; exact HKA.out) hm20 (by rw [HTS.out]; exact HP.out)
        · exact (HK5.out.setCell (Nat.le_refl _) _).setCell (Nat.le_refl _) _
        · exact H5.out.other (b := w.heap.size) (HOT.out _ _) HRC5.out (by decide) (by decide) (by decide)
      | ok c rest =>
        obtain ⟨n', a, l, cp, rfl, hle, hn', rfl, hRC, hR5⟩ := hE
        have H5 : Hid (Rd w5 rb tb tc ps n' 0) := hR5
        rw [hsz4] at hRC
        have HRCC : Hid (RChoice w5 (w3.heap.size + 1 ≤ ·) c (.slice a l cp)) := hRC
        clear hR5 hRC
        go_wp2_with fail
        refine bodyPost_ret (v := .tuple #[.agg #[.string ⟨List.toArray ps[n].1.text⟩, .slice a l cp], .nilIface]) (by simp [results, Tryz.results101, go_sem, q5, hlt5]) rfl ?_
        refine ⟨.ok ⟨ps[n].1.text, c⟩ (tsOf ps n'), ?_, ?_, n', a, l, cp, rfl, by omega, hn', rfl, ?_, ?_, HTX.out⟩
        · have := Thk.PRule.ok (n := m) (ts := tsOf ps n) (c := c) (rest := tsOf ps n') (by rw [hd_tsOf hn]; exact HK.out) (by rw [tl_tsOf hn, hd_tsOf hn1]; exact HKA.out) hm20 (by rw [HTS.out]; exact HP.out)
          rw [hd_tsOf hn] at this
          exact this
        · exact (HK5.out.setCell (Nat.le_refl _) _).setCell (Nat.le_refl _) _
        · have hs : Sm (w3.heap.size + 1 ≤ ·) w5 ((w5.setCell ⟨w.heap.size, 0, none⟩ (.string ⟨List.toArray ps[n].1.text⟩)).setCell ⟨w.heap.size, 1, none⟩ (.slice a l cp)) := ⟨fun u l hl => own_other hl (HOT.out _ _) HRC5.out (by decide), fun g hg ha => HOT.out _ _ g (by omega) hg⟩
          exact (HRCC.out.kept hs).mono (fun g _ hg => by omega)
        · exact H5.out.other (b := w.heap.size) (HOT.out _ _) HRC5.out (by decide) (by decide) (by decide)
  · have HKA : Hid (ps[n + 1].1.kind ≠ .arrow) := hka
    have tk : (kindI ps[n + 1].1.kind == 3) = false := beq_eq_false_iff_ne.2 hki
    have hen' := fun q => hen q hki
    clear hka hey hen hrf hki
    generalize kindI ps[n + 1].1.kind = K at *
    go_wp2_with (first | (go_at_call 102; refine hkd.mono ?_; rintro e w2 ⟨rfl, q, rfl⟩))
    refine (hen' q).mono ?_
    rintro e w3 ⟨rfl, hR3, hK3⟩
    have hsz3 := hK3.size
    simp only [World.heap_drewN, hszO] at hsz3
    have hrc3 : w3.heap[w.heap.size]? = some zRuleO := by
      rw [kp_block hK3 (by simp; omega) (by omega)]; exact HRC.out
    have HK3 : Hid (Kp rb w.heap.size w w3) := (HW.out.drewN q).trans (hK3.mono (by simp; omega))
    have H3 : Hid (Rd w3 rb tb tc ps (n + 1) 0) := hR3
    have HRC3 : Hid (w3.heap[w.heap.size]? = some zRuleO) := hrc3
    have q3 := cell_of_block hrc3
    have f3 := frozen_of_block hrc3
    have hlt3 : w.heap.size < w3.heap.size := by omega
    clear hR3 hK3 hrc3 hkd hen' q1 f1 hname
    go_wp2_with fail
    refine bodyPost_ret (v := .tuple #[.agg #[.string ⟨#[]⟩, .slice none 0 0], faultV 2 ps[n + 1].1.place]) (by simp [results, Tryz.results101, go_sem, faultV, q3, hlt3]) rfl ?_
    refine ⟨.err 2 ps[n + 1].1.place, ?_, ?_, _, rfl, n + 1, ?_⟩
    · rw [← hd_tsOf hn1, ← tl_tsOf hn]; exact .noArrow (by rw [hd_tsOf hn]; exact HK.out) (by rw [tl_tsOf hn, hd_tsOf hn1]; exact HKA.out)
    · exact ((HK3.out.setCell (Nat.le_refl _) _).setCell (Nat.le_refl _) _).alloc (by simp; omega) _
    · refine (H3.out.other (b := w.heap.size) (fun g hg _ => ?_) HRC3.out (by decide) (by decide) (by decide)).below (below_alloc _ _)
      rw [Below.heap_setCell _ _ _ _ hg, Below.heap_setCell _ _ _ _ hg]

theorem rule_any (w : World) (rb tb tc : Nat) (ps : List (Thk.Tok × Value)) (m n : Nat) (h : Rd w rb tb tc ps n 0) (hg : GoodP ps) (hn : n < ps.length) (hm : m ≤ 20) :
    Calls Tryz.prog 101 #[.pointer (some ⟨rb, 0, none⟩), .int .i64 m] w fun e w' => RulePost w rb tb tc ps m n e w' := by
  rcases kindI_name (hg n hn).1 with ⟨hk, _⟩ | ⟨hk, hki⟩
  · exact rule_name w rb tb tc ps m n h hg hn hm hk
  · exact rule_noName w rb tb tc ps m n h hn hk hki
end Go.Proofs.YtjmcdklhaieldaaGreatDoor
namespace Go.Proofs.YtjmcdklhaieldaaGreatDoor
open Go.RowKit

def ruleC : List Thk.Rule → List Value → List Value
  | r :: g, v :: vs => .string ⟨r.name.toArray⟩ :: v :: ruleC g vs
  | _, _ => []

def RRules (w : World) (A : Nat → Prop) : List Thk.Rule → List Value → Prop
  | [], vs => vs = []
  | r :: g, vs => ∃ v vs', vs = v :: vs' ∧ (RChoice w A r.choice v ∧ r.name.length ≤ 2000) ∧ RRules w A g vs'

theorem RRules.kept {w w' : World} {A : Nat → Prop} (h : Sm A w w') : ∀ {g : List Thk.Rule} {vs : List Value}, RRules w A g vs → RRules w' A g vs
  | [], _, hs => hs
  | _ :: _, _, ⟨v, vs', hv, hc, hs⟩ => ⟨v, vs', hv, ⟨hc.1.kept h, hc.2⟩, RRules.kept h hs⟩
theorem RRules.mono {w : World} {A A' : Nat → Prop} (h : ∀ g, g < w.heap.size → A g → A' g) : ∀ {g : List Thk.Rule} {vs : List Value}, RRules w A g vs → RRules w A' g vs
  | [], _, hs => hs
  | _ :: _, _, ⟨v, vs', hv, hc, hs⟩ => ⟨v, vs', hv, ⟨hc.1.mono h, hc.2⟩, RRules.mono h hs⟩
theorem RRules.length {w : World} {A : Nat → Prop} : ∀ {g : List Thk.Rule} {vs : List Value}, RRules w A g vs → g.length = vs.length
  | [], _, hs => by simp only [RRules] at hs; subst hs; rfl
  | _ :: _, _, ⟨v, vs', hv, hc, hs⟩ => by subst hv; simp [RRules.length hs]
theorem RRules.snoc {w : World} {A : Nat → Prop} {r : Thk.Rule} {v : Value} (hr : RChoice w A r.choice v ∧ r.name.length ≤ 2000) : ∀ {g : List Thk.Rule} {vs : List Value}, RRules w A g vs → RRules w A (g ++ [r]) (vs ++ [v])
  | [], _, hs => by simp only [RRules] at hs; subst hs; exact ⟨v, [], rfl, hr, rfl⟩
  | _ :: _, _, ⟨v', vs', hv, hc, hs⟩ => by subst hv; exact ⟨v', vs' ++ [v], rfl, hc, RRules.snoc hr hs⟩
theorem ruleC_append (g : List Thk.Rule) (vs : List Value) (h : g.length = vs.length) (r : Thk.Rule) (v : Value) : ruleC (g ++ [r]) (vs ++ [v]) = ruleC g vs ++ [.string ⟨r.name.toArray⟩, v] := by
  induction g generalizing vs with
  | nil => cases vs with
    | nil => rfl
    | cons _ _ => simp at h
  | cons t s ih => cases vs with
    | nil => simp at h
    | cons u vs => simp only [List.cons_append, ruleC]; rw [ih vs (by simpa using h)]

/-- The slice v holds the grammar. -/
def RGram (w : World) (A : Nat → Prop) (g : List Thk.Rule) (v : Value) : Prop := ∃ vs, Row w A 119 2 v g.length (ruleC g vs) ∧ RRules w A g vs

def preG (g : List Thk.Rule) : Except (Nat × Nat) (List Thk.Rule) → Except (Nat × Nat) (List Thk.Rule)
  | .ok g' => .ok (g ++ g')
  | .error x => .error x

def GramPost (w : World) (rb : Nat) (ts : List Thk.Tok) (e : Ending) (w' : World) : Prop :=
  ∃ res, Thk.PGram 0 ts res ∧ Kp rb w.heap.size w w' ∧ match res with
    | .ok g => g ≠ [] ∧ g.length ≤ 20 ∧ ∃ a cp, e = .returned (.tuple #[.slice (some a) g.length cp, .nilIface]) ∧ RGram w' (w.heap.size ≤ ·) g (.slice (some a) g.length cp)
    | .error (er, p) => e = .returned (.tuple #[.slice none 0 0, faultV er p])

structure GrRel (w : World) (rb tb tc : Nat) (ps : List (Thk.Tok × Value)) (n k : Nat) (g : List Thk.Rule) (vs : List Value) (v : Value) (wr : World) : Prop where
  lt : k < ps.length
  len : g.length ≤ 20
  own : wr.ownsRow w.heap.size 119 2 v g.length (ruleC g vs)
  rules : RRules wr (fun b => w.heap.size ≤ b ∧ some b ≠ v.ownBlock) g vs
  rd : Rd wr rb tb tc ps k 0
  kp : Kp rb w.heap.size w wr
  goes : ∀ r, Thk.PGram g.length (tsOf ps k) r → Thk.PGram 0 (tsOf ps n) (preG g r)

theorem GrRel.push {w : World} {rb tb tc : Nat} {ps : List (Thk.Tok × Value)} {n k : Nat} {g : List Thk.Rule} {us : List Value} {v : Value} {wr : World} (h : GrRel w rb tb tc ps n k g us v wr) (hrl : rb < w.heap.size)
    {r : Thk.Rule} {x : Value} {k' : Nat} {w1 w5 : World} {v' : Value} {O1 O2 : Obj}
    (hK : Kp rb wr.heap.size wr w1) (hP : RChoice w1 (wr.heap.size ≤ ·) r.choice x) (hnm : r.name.length ≤ 2000) (hR : Rd w1 rb tb tc ps k' 0)
    (ho : w5.ownsRow w.heap.size 119 2 v' (g.length + 1) (ruleC g us ++ [.string ⟨r.name.toArray⟩, x])) (hg : ((w1.alloc O1).alloc O2).grownBy w5 v.ownBlock)
    (hat : v'.ownBlock = v.ownBlock ∨ v'.ownBlock = some (w1.heap.size + 1 + 1)) :
    w5.ownsRow w.heap.size 119 2 v' (g ++ [r]).length (ruleC (g ++ [r]) (us ++ [x])) ∧ RRules w5 (fun b => w.heap.size ≤ b ∧ some b ≠ v'.ownBlock) (g ++ [r]) (us ++ [x]) ∧ Rd w5 rb tb tc ps k' 0 ∧ Kp rb w.heap.size w w5 := by
  have hsz := hK.size
  have hwr := h.kp.size
  have hown1 : w1.ownsRow w.heap.size 119 2 v g.length (ruleC g us) := own_kp h.own h.rd.1 (by decide) hK
  have hbl := grown2_blocks hg
  have hgs := hg.size
  simp at hgs
  have hvb : ∀ g, v.ownBlock = some g → g < wr.heap.size := fun g hg => (h.own.lt g hg).2
  have hA : ∀ g, g < w1.heap.size → w.heap.size ≤ g → some g ≠ v.ownBlock → (w.heap.size ≤ g ∧ some g ≠ v'.ownBlock) := by
    intro g h1 h2 h3
    refine ⟨h2, ?_⟩
    rcases hat with e | e <;> rw [e]
    · exact h3
    · simp; omega
  refine ⟨by rw [ruleC_append _ _ (RRules.length h.rules)]; simpa using ho, ?_, ?_, ?_⟩
  · refine RRules.snoc ⟨?_, hnm⟩ ?_
    · have p1 : RChoice w1 (fun g => wr.heap.size ≤ g ∧ g < w1.heap.size) r.choice x := hP.mono (fun g h1 h2 => ⟨h2, h1⟩)
      have p2 : RChoice w5 (fun g => wr.heap.size ≤ g ∧ g < w1.heap.size) r.choice x := p1.kept (sm_but hown1 hbl (by decide) (fun g hg e => by have := hvb g e.symm; omega))
      exact p2.mono (fun g _ hg => hA g hg.2 (by omega) (fun e => by have := hvb g e.symm; omega))
    · have p0 := RRules.kept (sm_kp (A := fun g => w.heap.size ≤ g ∧ some g ≠ v.ownBlock) h.rd.1 hK (fun g hg => by omega)) h.rules
      have p1 : RRules w1 (fun g => (w.heap.size ≤ g ∧ some g ≠ v.ownBlock) ∧ g < w1.heap.size) g us := RRules.mono (fun g h1 h2 => ⟨h2, h1⟩) p0
      have p2 : RRules w5 (fun g => (w.heap.size ≤ g ∧ some g ≠ v.ownBlock) ∧ g < w1.heap.size) g us := RRules.kept (sm_but hown1 hbl (by decide) (fun g hg => hg.1.2)) p1
      exact RRules.mono (fun g _ hg => hA g hg.2 hg.1.1 hg.1.2) p2
  · exact hR.but hown1 hbl (by decide) (by decide) (by decide)
  · exact ((((h.kp.trans (hK.mono hwr))).alloc (by omega) O1).alloc (by simp; omega) O2).grown hg (by simp; omega) (fun g hg' => (h.own.lt g hg').1)

theorem Tryz.infoRule : (Tryz.prog.info? 119).map (fun i => (i.zero, i.size, i.bytes)) = some (some (.agg #[.string ⟨#[]⟩, .slice none 0 0]), 2, 40) := by kernel_rfl

theorem kindI_fin {k : Thk.TK} (hk : okKind k) : (k = .fin ∧ kindI k = 0) ∨ (k ≠ .fin ∧ (kindI k == 0) = false) := by
  cases k with
  | fin => left; exact ⟨rfl, rfl⟩
  | sign c => right; have := signB_ge hk; refine ⟨by simp, beq_eq_false_iff_ne.2 ?_⟩; simp only [kindI]; omega
  | _ => right; simp [kindI]

theorem PRule_lt {m : Nat} {ts rest : List Thk.Tok} {r : Thk.Rule} (h : Thk.PRule m ts (.ok r rest)) : m ≠ 20 := by cases h; assumption

set_option maxHeartbeats 8000000 in
set_option maxRecDepth 100000 in
theorem grammar_any (w : World) (rb tb tc : Nat) (ps : List (Thk.Tok × Value)) (n : Nat) (h : Rd w rb tb tc ps n 0) (hg : GoodP ps) (hn : n < ps.length) :
    Calls Tryz.prog 68 #[.pointer (some ⟨rb, 0, none⟩)] w fun e w' => GramPost w rb (tsOf ps n) e w' := by
  obtain ⟨i0, hi, hz0, hz1, hz2⟩ := info_parts Tryz.infoRule
  have hrl := h.lt
  have hl := h.2.2.1
  have H : Hid (Rd w rb tb tc ps n 0) := h
  clear h
  go_enter Tryz.func68, Tryz.ntmps68
  go_wp2_with fail
  go_loopg [4] (ps.length - n) (fun m v wr => ∃ k g us, m = ps.length - k ∧ GrRel w rb tb tc ps n k g us v wr)
  case atStart =>
    refine ⟨n, [], [], rfl, hn, by simp, World.ownsRow_nil _ _ _ _, by simp [RRules], H.out, Kp.refl _ _ _, ?_⟩
    intro r hr; cases r <;> exact hr
  case round =>
    obtain ⟨k, g, us, rfl, hS⟩ := hrel
    have hs := rule_any wr rb tb tc ps g.length k hS.rd hg hS.lt hS.len
    have hkl := hS.lt
    have hgl := hS.len
    have hwr := hS.kp.size
    have hown := hS.own
    obtain ⟨va0, vc0, hv⟩ := own_form hown
    subst hv
    have HS : Hid (GrRel w rb tb tc ps n k g us (.slice va0 g.length vc0) wr) := hS
    clear hS
    go_wp2_with fail
    refine hs.mono ?_
    rintro e w1 ⟨res, hP, hK1, hE⟩
    have hsz1 := hK1.size
    have HP : Hid (Thk.PRule g.length (tsOf ps k) res) := hP
    have HK1 : Hid (Kp rb wr.heap.size wr w1) := hK1
    clear hs hP hK1
    cases res with
    | err er p =>
      obtain ⟨z, rfl, n', hR1⟩ := hE
      simp only [faultV]
      clear hR1 hown
      go_wp2_with fail
      go_ret2
      exact ⟨.error (er, p), HS.out.goes _ (.err HP.out), (HS.out.kp.trans (HK1.out.mono hwr)).alloc (by omega) _, rfl⟩
    | ok r rest =>
      obtain ⟨k', sa, sl, sc, rfl, hlt, hk', rfl, hRS, hR1, hnm⟩ := hE
      have HNM : Hid (r.name.length ≤ 2000) := hnm
      clear hnm
      have hg19 := PRule_lt HP.out
      have HRS : Hid (RChoice w1 (wr.heap.size ≤ ·) r.choice (.slice sa sl sc)) := hRS
      have H1 : Hid (Rd w1 rb tb tc ps k' 0) := hR1
      have hown1 : w1.ownsRow w.heap.size 119 2 (.slice va0 g.length vc0) g.length (ruleC g us) := own_kp hown HS.out.rd.1 (by decide) HK1.out
      clear hRS hR1 hown
      go_wp2_with (first | (at_builtin; refine wpList_append_own_at _ rfl _ _ 60 rfl (w.heap.size) 119 i0 _ 2 40 Tryz.underlying60 hi hz0 hz1 hz2 rfl (by decide) _ _ _ rfl ((hown1.alloc _).alloc _) ⟨w1.heap.size + 1, 0, none⟩ 1 1 [.string ⟨r.name.toArray⟩, .slice sa sl sc] rfl rfl ?c1 ?c2 ?c3 ?c4 ?c5 ?_))
      case c1 => rw [← World.size_alloc w1 (.cells #[.string ⟨r.name.toArray⟩, .slice sa sl sc] 119)]; exact cell_two_new' _ _ _ _
      case c2 => intro u hu; simp at hu; rcases hu with rfl | rfl <;> rfl
      case c3 => unfold maxLen; omega
      case c4 => omega
      case c5 => simp; omega
      intro v' w5 hown' hgrow hnn hat
      obtain ⟨p1, p2, p3, p4⟩ := HS.out.push hrl HK1.out HRS.out HNM.out H1.out hown' hgrow hat
      have hvf : ∃ a c, v' = .slice (some a) (g.length + 1) c := by
        rcases hown'.2 with ⟨h, _⟩ | ⟨g', cap, cur, h, _⟩
        · exact absurd h hnn
        · exact ⟨_, _, h⟩
      obtain ⟨va, vc, rfl⟩ := hvf
      have P1 : Hid (w5.ownsRow w.heap.size 119 2 (.slice (some va) (g.length + 1) vc) (g ++ [r]).length (ruleC (g ++ [r]) (us ++ [.slice sa sl sc]))) := p1
      have P2 : Hid (RRules w5 (fun b => w.heap.size ≤ b ∧ some b ≠ (Value.slice (some va) (g.length + 1) vc).ownBlock) (g ++ [r]) (us ++ [.slice sa sl sc])) := p2
      have P3 : Hid (Rd w5 rb tb tc ps k' 0) := p3
      have P4 : Hid (Kp rb w.heap.size w w5) := p4
      clear hown' hgrow hat hown1 p1 p2 p3 p4 hnn
      rcases kindI_fin (hg k' hk').1 with ⟨hks, hki⟩ | ⟨hks, hki⟩
      · have hkd := kind_of w5 rb tb tc ps k' 0 P3.out hk' 0 hki
        have HKS : Hid (ps[k'].1.kind = .fin) := hks
        clear hks hki
        go_wp2_with (first | (go_at_call 102; refine hkd.mono ?_; rintro e w6 ⟨rfl, q, rfl⟩))
        go_ret2
        have hp := HS.out.goes _ (.last HP.out (by rw [hd_tsOf hk']; exact HKS.out))
        refine ⟨.ok (g ++ [r]), hp, P4.out.drewN q, by simp, by simp; omega, va, vc, by simp, ⟨us ++ [.slice sa sl sc], ⟨?_, ?_⟩, ?_⟩⟩
        · have h1 : w5.ownsRow 0 119 2 (.slice (some va) (g ++ [r]).length vc) (g ++ [r]).length (ruleC (g ++ [r]) (us ++ [.slice sa sl sc])) := by
            have := own_mono P1.out (Nat.zero_le _); simpa using this
          exact h1
        · intro b hb; exact (P1.out.lt b (by simpa using hb)).1
        · have h1 : RRules w5 (w.heap.size ≤ ·) (g ++ [r]) (us ++ [.slice sa sl sc]) := RRules.mono (fun g _ hg => hg.1) P2.out
          exact RRules.kept (w := w5) (w' := w5.drewN q) ⟨fun _ _ h => h, fun _ _ _ => rfl⟩ h1
      · have hkd := kind_of w5 rb tb tc ps k' 0 P3.out hk' _ rfl
        have HKS : Hid (ps[k'].1.kind ≠ .fin) := hks
        clear hks
        generalize kindI ps[k'].1.kind = K at *
        go_wp2_with (first | (go_at_call 102; refine hkd.mono ?_; rintro e w6 ⟨rfl, q, rfl⟩))
        have hN : GrRel w rb tb tc ps n k' (g ++ [r]) (us ++ [.slice sa sl sc]) (.slice (some va) (g.length + 1) vc) (w5.drewN q) := by
          refine ⟨hk', by simp; omega, P1.out, RRules.kept (w := w5) (w' := w5.drewN q) ⟨fun _ _ h => h, fun _ _ _ => rfl⟩ P2.out, P3.out.drewN q, P4.out.drewN q, ?_⟩
          intro x hx
          have hm : Thk.PRule g.length (tsOf ps k) (.ok r (tsOf ps k')) := HP.out
          have hf : (Thk.hd (tsOf ps k')).kind ≠ .fin := by rw [hd_tsOf hk']; exact HKS.out
          simp only [List.length_append, List.length_cons, List.length_nil] at hx
          cases x with
          | ok g' => exact (by simpa [preG] using HS.out.goes _ (.more hm hf hx))
          | error y => exact (by simpa [preG] using HS.out.goes _ (.later hm hf hx))
        go_roundg (ps.length - k')
        case measure => omega
        case rel => exact ⟨k', _, _, rfl, hN⟩
end Go.Proofs.YtjmcdklhaieldaaGreatDoor
namespace Go.Proofs.YtjmcdklhaieldaaGreatDoor
open Go.RowKit

theorem TL_good (N : Nat) : ∀ (pos : Nat) (l : List UInt8), l.length ≤ N → (TL pos l).length ≤ l.length + 1 ∧ TL pos l ≠ [] ∧ ∀ i (h : i < (TL pos l).length), okKind (TL pos l)[i].kind ∧ ((TL pos l)[i].kind.last = false → i + 1 < (TL pos l).length) := by
  induction N with
  | zero =>
    intro pos l hl
    have : l = [] := List.length_eq_zero_iff.1 (by omega)
    subst this
    refine ⟨by rw [show TL pos [] = [⟨.fin, pos, 0, [], []⟩] from rfl]; simp, by rw [TL_eq]; simp, ?_⟩
    intro i h
    have e : TL pos [] = [⟨.fin, pos, 0, [], []⟩] := rfl
    simp only [e] at h ⊢
    simp at h
    subst h
    simp [okKind, Thk.TK.last]
  | succ N ih =>
    intro pos l hl
    rw [TL_eq]
    have hok : okKind (tokAt pos l).kind := tokL_ok _
    cases hk : (tokAt pos l).kind.last with
    | true =>
      simp only [if_true]
      refine ⟨by simp, by simp, ?_⟩
      intro i h
      simp at h
      subst h
      simp only [List.getElem_cons_zero]
      exact ⟨hok, fun hx => by rw [hk] at hx; cases hx⟩
    | false =>
      have hs := tokL_size (l.drop (Thk.blk false l)) hk
      have hb := blk_le false l
      rw [List.length_drop] at hs
      have hd : (l.drop (Thk.blk false l + (tokAt pos l).size)).length = l.length - (Thk.blk false l + (tokAt pos l).size) := List.length_drop
      have e : (tokAt pos l).size = (Thk.tokL (l.drop (Thk.blk false l))).size := rfl
      simp only [Bool.false_eq_true, if_false]
      obtain ⟨h1, h2, h3⟩ := ih ((tokAt pos l).place + (tokAt pos l).size) (l.drop (Thk.blk false l + (tokAt pos l).size)) (by omega)
      generalize TL ((tokAt pos l).place + (tokAt pos l).size) (l.drop (Thk.blk false l + (tokAt pos l).size)) = L at *
      refine ⟨by simp; omega, by simp, ?_⟩
      intro i h
      cases i with
      | zero =>
        simp only [List.getElem_cons_zero]
        refine ⟨hok, fun _ => ?_⟩
        cases L with
        | nil => exact absurd rfl h2
        | cons _ _ => simp
      | succ i =>
        simp only [List.getElem_cons_succ]
        have := h3 i (by simpa using h)
        exact ⟨this.1, fun hx => by have := this.2 hx; simp; omega⟩

theorem charsL_le' (m l : List UInt8) : (Thk.charsL m l).1.length ≤ l.length := by have := charsL_le m l; omega

theorem tokL_text (l : List UInt8) : (Thk.tokL l).text.length ≤ l.length := by
  cases l with
  | nil => simp [Thk.tokL]
  | cons c t =>
    simp only [Thk.tokL]
    split
    · unfold Thk.nameT; split
      · simp [Thk.badT]
      · simp only [List.length_take]; omega
    · split
      · simp
      · split
        · unfold Thk.litT; split
          · have := charsL_le' [39] t; simp only [List.length_cons]; omega
          · simp [Thk.badT]
        · split
          · unfold Thk.clsT; split <;> simp [Thk.badT]
          · split <;> simp [Thk.badT]

theorem toksF_text : ∀ (f pos : Nat) (l : List UInt8), ∀ t ∈ Thk.toksF f pos l, t.text.length ≤ l.length
  | 0, _, _, t, h => by simp [Thk.toksF] at h
  | f + 1, pos, l, t, h => by
    rw [toksF_succ] at h
    have hb := blk_le false l
    rcases List.mem_cons.1 h with rfl | h
    · have := tokL_text (l.drop (Thk.blk false l))
      rw [List.length_drop] at this
      show (Thk.tokL (l.drop (Thk.blk false l))).text.length ≤ _
      omega
    · split at h
      · cases h
      · have := toksF_text f _ _ t h
        rw [List.length_drop] at this
        omega
theorem toks_text (l : List UInt8) : ∀ t ∈ Thk.toks l, t.text.length ≤ l.length := toksF_text _ _ _

theorem good_ps {l : List UInt8} {ps : List (Thk.Tok × Value)} (h : ps.map (·.1) = Thk.toks l) : GoodP ps ∧ 0 < ps.length ∧ ps.length ≤ l.length + 1 := by
  obtain ⟨h1, h2, h3⟩ := TL_good l.length 0 l (Nat.le_refl _)
  rw [← toks_TL, ← h] at h1 h2 h3
  simp only [List.length_map] at h1 h3
  refine ⟨?_, ?_, h1⟩
  · intro i hi
    have := h3 i hi
    simpa using this
  · cases ps with
    | nil => simp at h2
    | cons _ _ => simp

/-- The document's reading of a text, in so many words of the program's. -/
inductive PRead (l : List UInt8) : Except (Nat × Nat) (List Thk.Rule) → Prop
  | long : 2000 < l.length → PRead l (.error (1, 0))
  | read {res} : l.length ≤ 2000 → Thk.PGram 0 (Thk.toks l) res → PRead l res

def ReadPost (l : List UInt8) (w : World) (e : Ending) (w' : World) : Prop :=
  ∃ res, PRead l res ∧ Below w.heap.size w w' ∧ match res with
    | .ok g => g ≠ [] ∧ g.length ≤ 20 ∧ ∃ a cp, e = .returned (.tuple #[.slice (some a) g.length cp, .nilIface]) ∧ RGram w' (w.heap.size ≤ ·) g (.slice (some a) g.length cp)
    | .error (er, p) => e = .returned (.tuple #[.slice none 0 0, faultV er p])

theorem Kp.below {rb B : Nat} {w w' : World} (h : Kp rb B w w') (hr : B ≤ rb) : Below B w w' := ⟨h.os, h.tape, h.output, h.size, fun k hk => h.block k hk (by omega)⟩

set_option maxHeartbeats 4000000 in
set_option maxRecDepth 100000 in
theorem read_any (s : ByteArray) (w : World) (hs : s.size ≤ maxLen) :
    Calls Tryz.prog 47 #[.string s] w fun e w' => ReadPost s.data.toList w e w' := by
  unfold maxLen at hs
  have hll : s.data.toList.length = s.size := rfl
  by_cases hl : 2000 < s.size
  · have hl' : (2000 : Int) < s.size := by omega
    go_enter Tryz.func47, Tryz.ntmps47
    go_wp2_with fail
    go_ret2
    exact ⟨.error (1, 0), .long (by rw [hll]; exact hl), Below.refl _ _, rfl⟩
  · have hl' : ¬ (2000 : Int) < s.size := by omega
    have hct := cut_any s w (by omega)
    go_enter Tryz.func47, Tryz.ntmps47
    go_wp2_with fail
    refine hct.mono ?_
    rintro e w1 ⟨a, c, ps, rfl, hb, hps, htk⟩
    obtain ⟨hg, hpos, hlen⟩ := good_ps hps
    have hpl : ps.length = (Thk.toks s.data.toList).length := by rw [← hps]; simp
    obtain ⟨tb, rfl⟩ : ∃ tb, a = ⟨tb, 0, none⟩ := by
      rcases htk.1.2 with ⟨h, _⟩ | ⟨g', cap, cur, h, _⟩
      · cases h
      · simp only [Value.slice.injEq, Option.some.injEq] at h; exact ⟨g', h.1⟩
    rw [← hpl] at htk ⊢
    obtain ⟨O, hO⟩ : ∃ O : Obj, O = .cells #[.slice (some ⟨tb, 0, none⟩) ps.length c, .int .i64 0, .int .i64 0] 154 := ⟨_, rfl⟩
    have hRd : Rd (w1.alloc O) w1.heap.size tb c ps 0 0 := by
      refine ⟨by rw [hO]; exact heap_alloc_same _ _, ?_, by omega, ?_⟩
      rotate_left
      · intro p hp
        have h1 : p.1 ∈ Thk.toks s.data.toList := by rw [← hps]; exact List.mem_map_of_mem hp
        have := toks_text s.data.toList p.1 h1
        omega
      have := htk.below (below_alloc w1 O)
      exact ⟨own_mono this.1 (Nat.zero_le _), fun p hp => own_mono (this.2 p hp) (Nat.zero_le _)⟩
    have hgr := grammar_any (w1.alloc O) w1.heap.size tb c ps 0 hRd hg hpos
    have hts : tsOf ps 0 = Thk.toks s.data.toList := by unfold tsOf; rw [hps]; rfl
    rw [hts] at hgr
    have hsz := hb.size
    have HB : Hid (Below w.heap.size w w1) := hb
    have HL : Hid (s.data.toList.length ≤ 2000) := by show _ ≤ _; omega
    subst hO
    clear hct hRd hps htk hts hb hpl
    go_wp2_with fail
    refine hgr.mono ?_
    rintro e w2 ⟨res, hP, hK, hE⟩
    have hB2 : Below w.heap.size w w2 := (HB.out.trans ((below_alloc _ _).mono hsz)).trans ((Kp.below (hK.mono (by simp)) (by exact Nat.le_refl _) : Below w1.heap.size _ w2).mono hsz)
    have HP : Hid (Thk.PGram 0 (Thk.toks s.data.toList) res) := hP
    have HB2 : Hid (Below w.heap.size w w2) := hB2
    clear hgr hP hB2 hK
    cases res with
    | error x =>
      obtain ⟨er, p⟩ := x
      simp only [faultV] at hE
      subst hE
      go_wp2_with fail
      go_ret2
      exact ⟨.error (er, p), .read HL.out HP.out, HB2.out, rfl⟩
    | ok g =>
      obtain ⟨h1, h2, a', cp, rfl, hRG⟩ := hE
      obtain ⟨vs, hrow, hrules⟩ := hRG
      have hRG' : RGram w2 (w.heap.size ≤ ·) g (.slice (some a') g.length cp) := ⟨vs, hrow.mono (fun b _ hb => by simp at hb; omega), RRules.mono (fun b _ hb => by simp at hb; omega) hrules⟩
      have HR : Hid (RGram w2 (w.heap.size ≤ ·) g (.slice (some a') g.length cp)) := hRG'
      clear hrow hrules hRG'
      go_wp2_with fail
      go_ret2
      exact ⟨.ok g, .read HL.out HP.out, HB2.out, h1, h2, a', cp, rfl, HR.out⟩
end Go.Proofs.YtjmcdklhaieldaaGreatDoor
