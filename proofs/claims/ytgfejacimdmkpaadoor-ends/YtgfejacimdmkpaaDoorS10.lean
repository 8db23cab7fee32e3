import Derived.Test.YtgfejacimdmkpaaDoorS9
set_option linter.all false
namespace Go.Proofs.YtgfejacimdmkpaaDoor
open Go.RowKit Go.WideMaps Go.Maps

def markL (names : List Thk.Bytes) (B : List Bool) (l : List Thk.Bytes) : List Bool := l.foldl (fun B b => B.set (idx0 names b) true) B

theorem markL_len (names : List Thk.Bytes) (B : List Bool) (l : List Thk.Bytes) : (markL names B l).length = B.length := by
  induction l generalizing B with
  | nil => rfl
  | cons b l ih => show (markL names (B.set _ true) l).length = _; rw [ih]; simp
theorem markL_append (names : List Thk.Bytes) (B : List Bool) (l l' : List Thk.Bytes) : markL names B (l ++ l') = markL names (markL names B l) l' := by
  simp [markL, List.foldl_append]

theorem FactsAt.kpo {w w' : World} {mb eb fb : Nat} {names : List Thk.Bytes} {E B : List Bool} (h : FactsAt w mb eb names E) (hk : Kp fb w.heap.size w w') (hfb : w.heap[fb]? = some (boolsO B)) (hne : eb ≠ fb) : FactsAt w' mb eb names E := by
  refine ⟨h.map.same (hk.block mb h.map.lt ?_), by rw [hk.block _ (heap_lt h.emp) hne]; exact h.emp, h.len, h.pos, h.le⟩
  intro e
  subst e
  obtain ⟨D, ⟨es, clock, h1, _⟩, _⟩ := h.map
  rw [h1] at hfb
  simp [boolsO] at hfb

def rowV (fb n : Nat) : Value := .slice (some ⟨fb, 0, none⟩) n n

def MarkC (k : Nat) : Prop := ∀ (w : World) (mb eb fb : Nat) (names : List Thk.Bytes) (E B : List Bool) (A : Nat → Prop) (c : Thk.Choice) (u : Value), FactsAt w mb eb names E → w.heap[fb]? = some (boolsO B) → B.length = names.length → eb ≠ fb →
  RChoice w A c u → (∀ g, A g → g ≠ fb) → depC c ≤ k →
  Calls Tryd.prog 39 #[factsV mb eb names.length, u, rowV fb names.length] w fun e w' => e = .returned (.tuple #[]) ∧ Kp fb w.heap.size w w' ∧ w'.heap[fb]? = some (boolsO (markL names B (Thk.firstC (Eb names E) c)))

set_option maxHeartbeats 4000000 in
set_option maxRecDepth 100000 in
theorem markPiece_step (k : Nat) (hC : ∀ k', k' < k → MarkC k') (w : World) (mb eb fb : Nat) (names : List Thk.Bytes) (E B : List Bool) (A : Nat → Prop) (p : Thk.Piece) (v : Value) (hF : FactsAt w mb eb names E) (hfb : w.heap[fb]? = some (boolsO B)) (hBl : B.length = names.length) (hne : eb ≠ fb)
    (hp : RPiece w A p v) (hA : ∀ g, A g → g ≠ fb) (hk : depP p ≤ k) :
    Calls Tryd.prog 56 #[factsV mb eb names.length, v, rowV fb names.length] w fun e w' => e = .returned (.tuple #[]) ∧ Kp fb w.heap.size w w' ∧ w'.heap[fb]? = some (boolsO (markL names B (Thk.firstP (Eb names E) p))) := by
  have hle := hF.le
  have hpos := hF.pos
  have hfl := heap_lt hfb
  have hcl := cell_of_block hfb
  have hfz := frozen_of_block hfb
  have HFB : Hid (w.heap[fb]? = some (boolsO B)) := hfb
  simp only [factsV, rowV]
  have still : ∀ O, w.heap[fb]? = some (boolsO B) → (w.alloc O).heap[fb]? = some (boolsO B) := fun O h => by rw [heap_alloc_old _ _ hfl]; exact h
  cases p with
  | name b =>
    simp only [RPiece] at hp
    obtain ⟨rfl, hbl⟩ := hp
    have hix := idx0_lt b hpos
    have hB : ∀ O1 O2, Below w.heap.size w ((w.alloc O1).alloc O2) := fun O1 O2 => (below_alloc _ _).alloc (by simp) _
    have hlk := fun O1 O2 => (hF.map.below (hB O1 O2)).look b hbl
    have e1 : markL names B (Thk.firstP (Eb names E) (.name b)) = B.set (idx0 names b) true := rfl
    rw [e1]
    have hcx : w.cell? ⟨fb, idx0 names b, none⟩ = some (.bool (B.getD (idx0 names b) false)) := by
      have hh : idx0 names b < B.length := by omega
      rw [hcl]; simp [hh]
    generalize idx0 names b = ix at *
    clear hF hC hk hfb e1 hB still hBl hcl
    have a1 := asNameName
    go_enter Tryd.func56, Tryd.ntmps56
    go_wp2_with fail
    go_end0
    refine ⟨rfl, (((Kp.refl _ _ _).setRb _ _).alloc (by simp) _).alloc (by simp) _, ?_⟩
    rw [heap_alloc_old _ _ (by simp; omega), heap_alloc_old _ _ (by simp; omega), heap_setCell_at HFB.out, boolsO_set]
  | lit b =>
    simp only [RPiece] at hp
    subst hp
    have a1 := asLitName
    have a2 := asLitGroup
    clear hF hC hk hfb
    go_enter Tryd.func56, Tryd.ntmps56
    go_wp2_with fail
    go_end0
    exact ⟨rfl, Kp.of (below_alloc _ _), still _ HFB.out⟩
  | cls l =>
    simp only [RPiece] at hp
    obtain ⟨u, rfl, _⟩ := hp
    have a1 := asClsName
    have a2 := asClsGroup
    clear hF hC hk hfb
    go_enter Tryd.func56, Tryd.ntmps56
    go_wp2_with fail
    go_end0
    exact ⟨rfl, Kp.of (below_alloc _ _), still _ HFB.out⟩
  | any =>
    simp only [RPiece] at hp
    subst hp
    have a1 := asAnyName
    have a2 := asAnyGroup
    clear hF hC hk hfb
    go_enter Tryd.func56, Tryd.ntmps56
    go_wp2_with fail
    go_end0
    exact ⟨rfl, Kp.of (below_alloc _ _), still _ HFB.out⟩
  | group c =>
    simp only [RPiece] at hp
    obtain ⟨u, us, rfl, hrow, hseqs⟩ := hp
    obtain ⟨ua, uc, rfl⟩ := own_form hrow.1
    have hdep : depC c < k := by simp only [depP] at hk; omega
    have e1 : markL names B (Thk.firstP (Eb names E) (.group c)) = markL names B (Thk.firstC (Eb names E) c) := rfl
    rw [e1]
    have hB : ∀ O1 O2, Below w.heap.size w ((w.alloc O1).alloc O2) := fun O1 O2 => (below_alloc _ _).alloc (by simp) _
    have hch := fun O1 O2 => hC _ hdep ((w.alloc O1).alloc O2) mb eb fb names E B A c (.slice ua c.length uc) (hF.below (hB O1 O2)) (by rw [(hB O1 O2).block _ hfl]; exact hfb) hBl hne (RChoice.kept (sm_below (hB O1 O2)) ⟨us, hrow, hseqs⟩) hA (Nat.le_refl _)
    simp only [factsV, rowV] at hch
    have a1 := asGroupName
    have a2 := asGroupGroup
    clear hF hC hk hdep hrow hseqs e1 hfb hB hcl hfz still hBl
    go_enter Tryd.func56, Tryd.ntmps56
    go_wp2_with fail
    refine (hch _ _).mono ?_
    rintro e w1 ⟨rfl, hk1, hf1⟩
    have HK1 := (show Hid _ from hk1)
    have HF1 := (show Hid _ from hf1)
    clear hch hk1 hf1
    go_wp2_with fail
    go_end0
    exact ⟨rfl, (Kp.of ((below_alloc _ _).alloc (by simp) _)).trans (HK1.out.mono (by simp; omega)), HF1.out⟩

theorem firstS_drop (E : Thk.Bytes → Bool) (s : List Thk.Term) (j : Nat) (hj : j < s.length) : Thk.firstS E (s.drop j) = Thk.firstT E s[j] ++ (if Thk.emptyT E s[j] then Thk.firstS E (s.drop (j + 1)) else []) := by
  rw [List.drop_eq_getElem_cons hj]; simp only [Thk.firstS]
theorem firstC_drop (E : Thk.Bytes → Bool) (c : List (List Thk.Term)) (j : Nat) (hj : j < c.length) : Thk.firstC E (c.drop j) = Thk.firstS E c[j] ++ Thk.firstC E (c.drop (j + 1)) := by
  rw [List.drop_eq_getElem_cons hj]; simp only [Thk.firstC]

/-- What the marking keeps: the world behind it, the marks so far. -/
structure MkRel (W : World) (fb : Nat) (B : List Bool) (wr : World) : Prop where
  kp : Kp fb W.heap.size W wr
  row : wr.heap[fb]? = some (boolsO B)

set_option maxHeartbeats 8000000 in
set_option maxRecDepth 100000 in
theorem mark_step (k : Nat) (hC : ∀ k', k' < k → MarkC k') : MarkC k := by
  intro w mb eb fb names E B A c u hF hfb hBl hne hp hA hk
  obtain ⟨us, ⟨hrow, hAr⟩, hseqs⟩ := hp
  obtain ⟨ua, uc, rfl⟩ := own_form hrow
  have hcap := own_len hrow
  have hfl := heap_lt hfb
  have HVL : Hid (c.length = us.length) := RSeqs.length hseqs
  obtain ⟨W, hW⟩ : ∃ W, W = w.alloc (factsO mb eb names.length) := ⟨_, rfl⟩
  have hB0 : Below w.heap.size w W := by rw [hW]; exact below_alloc _ _
  have hWsz : W.heap.size = w.heap.size + 1 := by rw [hW]; simp
  have hbox : W.heap[w.heap.size]? = some (factsO mb eb names.length) := by rw [hW]; exact heap_alloc_same _ _
  have HF : Hid (FactsAt W mb eb names E) := hF.below hB0
  have HFB : Hid (W.heap[fb]? = some (boolsO B)) := by show _ = _; rw [hB0.block _ hfl]; exact hfb
  have HROW : Hid (W.ownsRow 0 133 1 (.slice ua c.length uc) c.length us) := own_below hrow hB0
  have HAR : Hid (∀ g, (Value.slice ua c.length uc).ownBlock = some g → A g) := hAr
  have HSQ : Hid (RSeqs W A c us) := RSeqs.kept (sm_below hB0) c us hseqs
  have HB0 : Hid (Below w.heap.size w W) := hB0
  have HBL : Hid (B.length = names.length) := hBl
  have HA : Hid (∀ g, A g → g ≠ fb) := hA
  have hSm : Hid (∀ wr, Kp fb W.heap.size W wr → Sm A W wr) := fun wr hk => sm_kpB HFB.out hk hA
  simp only [factsV, rowV]
  clear hF hfb hrow hseqs hB0 hBl hA hAr
  go_enter Tryd.func39, Tryd.ntmps39
  go_wp2_with fail
  rw [← hW]
  go_loopg [12] c.length (fun m i wr => ∃ (j : Nat) (B1 : List Bool), m = c.length - j ∧ j ≤ c.length ∧ i = .int .i64 j ∧ MkRel W fb B1 wr ∧ B1.length = names.length ∧ Hid (markL names B (Thk.firstC (Eb names E) c) = markL names B1 (Thk.firstC (Eb names E) (c.drop j))))
  case atStart => exact ⟨0, B, rfl, Nat.zero_le _, rfl, ⟨Kp.refl _ _ _, HFB.out⟩, HBL.out, rfl⟩
  case round =>
    obtain ⟨j, B1, rfl, hj, rfl, hR, hB1, hH⟩ := hrel
    have HR : Hid (MkRel W fb B1 wr) := hR
    have HB1 : Hid (B1.length = names.length) := hB1
    have hszr := hR.kp.size
    clear hR hB1
    by_cases hlt : j < c.length
    · have hjv : j < us.length := by have := HVL.out; omega
      obtain ⟨g, rfl, hcs, hgl⟩ := own_at HROW.out (by omega)
      have hgf : g ≠ fb := HA.out g (HAR.out g rfl)
      have c0 : wr.cell? ⟨g, j, none⟩ = some (us[j]'hjv) := by rw [kp_cell HR.out.kp hgl hgf, hcs _ (by omega)]; exact List.getElem?_eq_getElem hjv
      have hsq := RSeqs.get HSQ.out j hlt hjv
      have hdj := Nat.le_trans (depC_get c j hlt) hk
      have hed := firstC_drop (Eb names E) c j hlt
      obtain ⟨vs, ⟨hrow, hAr⟩, hts⟩ := hsq
      obtain ⟨sa, sc, hvx⟩ := own_form hrow
      rw [hvx] at c0 hrow hAr
      have hcaps := own_len hrow
      have hlt' : (j : Int) < c.length := by omega
      obtain ⟨s, hs⟩ : ∃ s, s = c[j] := ⟨_, rfl⟩
      rw [← hs] at hrow hts hdj c0 hcaps hAr hed
      have HED : Hid (Thk.firstC (Eb names E) (c.drop j) = Thk.firstS (Eb names E) s ++ Thk.firstC (Eb names E) (c.drop (j + 1))) := hed
      have HVLs : Hid (s.length = vs.length) := RTerms.length hts
      have HROWs : Hid (W.ownsRow 0 100 3 (.slice sa s.length sc) s.length (termC s vs)) := hrow
      have HARs : Hid (∀ g, (Value.slice sa s.length sc).ownBlock = some g → A g) := hAr
      have HTS : Hid (RTerms W A s vs) := hts
      clear hed hvx hcs hs hrow hts hAr hgl hgf
      have NEXT : Hid (∀ wx, MkRel W fb (markL names B1 (Thk.firstS (Eb names E) s)) wx → ∃ (j' : Nat) (B2 : List Bool), c.length - (j + 1) = c.length - j' ∧ j' ≤ c.length ∧ Value.int IntKind.i64 ((j : Int) + 1) = .int .i64 j' ∧ MkRel W fb B2 wx ∧ B2.length = names.length ∧ Hid (markL names B (Thk.firstC (Eb names E) c) = markL names B2 (Thk.firstC (Eb names E) (c.drop j')))) := by
        intro wx hx
        refine ⟨j + 1, _, rfl, by omega, by go_num, hx, by rw [markL_len]; exact HB1.out, ?_⟩
        show _ = _
        rw [hH.out, HED.out, markL_append]
      go_wp2_with fail
      go_loopg [18] s.length (fun m i wx => ∃ (i1 : Nat) (B2 : List Bool), m = s.length - i1 ∧ i1 ≤ s.length ∧ i = .int .i64 i1 ∧ MkRel W fb B2 wx ∧ B2.length = names.length ∧ Hid (markL names B1 (Thk.firstS (Eb names E) s) = markL names B2 (Thk.firstS (Eb names E) (s.drop i1))))
      case atStart => exact ⟨0, B1, rfl, Nat.zero_le _, rfl, HR.out, HB1.out, rfl⟩
      case round =>
        obtain ⟨i, B2, rfl, hi, rfl, hR2, hB2, hS⟩ := hrel
        have HR2 : Hid (MkRel W fb B2 wr) := hR2
        have HB2 : Hid (B2.length = names.length) := hB2
        have hsz2 := hR2.kp.size
        have hbx0 : wr.heap[w.heap.size]? = some (factsO mb eb names.length) := by rw [hR2.kp.block _ (by omega) (by omega)]; exact hbox
        have hbx := cell_of_block hbx0
        have HBX : Hid (wr.heap[w.heap.size]? = some (factsO mb eb names.length)) := hbx0
        clear hR2 hB2 hbx0
        by_cases hlti : i < s.length
        · have hiv : i < vs.length := by have := HVLs.out; omega
          obtain ⟨g2, rfl, hcs2, hgl2⟩ := own_at HROWs.out (by omega)
          have hgf2 : g2 ≠ fb := HA.out g2 (HARs.out g2 rfl)
          obtain ⟨t0, t1, t2⟩ := termC_get s vs HVLs.out i hlti
          have d0 : wr.cell? ⟨g2, i * 3, none⟩ = some (.int .u8 s[i].ahead.toNat) := by rw [kp_cell HR2.out.kp hgl2 hgf2, hcs2 _ (by omega)]; exact t0
          have d1 : wr.cell? ⟨g2, i * 3 + 1, none⟩ = some (vs[i]'hiv) := by rw [kp_cell HR2.out.kp hgl2 hgf2, hcs2 _ (by omega)]; exact t1
          have d2 : wr.cell? ⟨g2, i * 3 + 2, none⟩ = some (.int .u8 s[i].behind.toNat) := by rw [kp_cell HR2.out.kp hgl2 hgf2, hcs2 _ (by omega)]; exact t2
          have htr := RTerms.get HTS.out i hlti hiv
          have hdt : depT s[i] ≤ k := Nat.le_trans (depS_get s i hlti) hdj
          have hsd := firstS_drop (Eb names E) s i hlti
          have hlti' : (i : Int) < s.length := by omega
          obtain ⟨t, ht⟩ : ∃ t, t = s[i] := ⟨_, rfl⟩
          obtain ⟨vv, hvv⟩ : ∃ vv, vv = vs[i]'hiv := ⟨_, rfl⟩
          rw [← ht] at d0 d2 htr hdt hsd
          rw [← hvv] at d1 htr
          have HSD : Hid (Thk.firstS (Eb names E) (s.drop i) = Thk.firstT (Eb names E) t ++ (if Thk.emptyT (Eb names E) t then Thk.firstS (Eb names E) (s.drop (i + 1)) else [])) := hsd
          clear hsd ht hvv t0 t1 t2 hcs2 hgl2 hgf2
          have HTR : Hid (RTerm W A t vv) := htr
          obtain ⟨ta, tp, tb⟩ := t
          simp only [RTerm] at htr
          simp only [depT] at hdt
          obtain ⟨vt, vx, rfl⟩ := RPiece.oneCell htr
          simp only [Thk.Term.ahead, Thk.Term.behind] at d0 d2
          have HTP : Hid (RPiece W A tp (.iface vt vx)) := htr
          clear htr
          have hmk := fun O => markPiece_step k hC (wr.alloc O) mb eb fb names E B2 A tp (.iface vt vx) (HF.out.kpo (HR2.out.kp.alloc hsz2 O) HFB.out hne) (by rw [heap_alloc_old _ _ (heap_lt HR2.out.row)]; exact HR2.out.row) HB2.out hne (RPiece.kept (hSm.out _ (HR2.out.kp.alloc hsz2 O)) tp _ HTP.out) HA.out hdt
          simp only [factsV, rowV] at hmk
          have hw9 : w.heap.size < wr.heap.size := by omega
          go_wp2_with fail
          refine (hmk _).mono ?_
          rintro e w1 ⟨rfl, hk1, hf1⟩
          have hs1 := hk1.size
          simp at hs1
          have hk3 : Kp fb W.heap.size W w1 := (HR2.out.kp.alloc hsz2 _).trans (hk1.mono (by simp; omega))
          have hfr : fb < wr.heap.size := heap_lt HR2.out.row
          have hct : ∀ o, w1.cell? ⟨wr.heap.size, o, none⟩ = (#[.int .u8 ta.toNat, .iface vt vx, .int .u8 tb.toNat] : Array Value)[o]? := fun o => by
            rw [kp_cell hk1 (by simp) (by omega)]; exact cell_of_block (heap_alloc_same _ _) o
          have hbx1 : ∀ o, w1.cell? ⟨w.heap.size, o, none⟩ = (#[.map (some mb), .slice (some ⟨eb, 0, none⟩) names.length names.length] : Array Value)[o]? := fun o => by
            rw [kp_cell hk1 (by simp; omega) (by omega), World.cell?_alloc_lt _ _ _ (by simp only []; omega)]; exact hbx o
          have hem := emptyTerm_any w1 mb eb names E A (.mk ta tp tb) (.iface vt vx) (HF.out.kpo hk3 HFB.out hne) (RTerm.kept (hSm.out _ hk3) _ _ HTR.out)
          simp only [factsV, termV, Thk.Term.ahead, Thk.Term.behind] at hem
          have HK3 : Hid (Kp fb W.heap.size W w1) := hk3
          have HF1 : Hid (w1.heap[fb]? = some (boolsO (markL names B2 (Thk.firstP (Eb names E) tp)))) := hf1
          have HFT : Hid (Thk.firstT (Eb names E) (.mk ta tp tb) = Thk.firstP (Eb names E) tp) := by show _ = _; simp only [Thk.firstT]
          have hw91 : w.heap.size < w1.heap.size := by omega
          have hwr1 : wr.heap.size < w1.heap.size := by omega
          have hfb1 : fb < w1.heap.size := by omega
          clear hmk hk1 hf1 hk3 hbx d0 d1 d2
          cases hr : Thk.emptyT (Eb names E) (.mk ta tp tb) with
          | true =>
            rw [hr] at hem
            have HRr : Hid (Thk.emptyT (Eb names E) (.mk ta tp tb) = true) := hr
            clear hr
            go_wp2_with fail
            refine hem.mono ?_
            rintro e w2 ⟨rfl, hb2⟩
            have hs2 := hb2.size
            have hN : MkRel W fb (markL names B2 (Thk.firstP (Eb names E) tp)) w2 := ⟨HK3.out.trans (Kp.of (hb2.mono (by omega))), by rw [hb2.block _ hfb1]; exact HF1.out⟩
            clear hem hb2
            go_wp2_with fail
            go_roundg (s.length - (i + 1))
            case measure => omega
            case rel =>
              refine ⟨i + 1, _, rfl, by omega, by go_num, hN, by rw [markL_len]; exact HB2.out, ?_⟩
              show _ = _
              rw [hS.out, HSD.out, HFT.out, if_pos HRr.out, markL_append]
          | false =>
            rw [hr] at hem
            have HRr : Hid (Thk.emptyT (Eb names E) (.mk ta tp tb) = false) := hr
            clear hr
            go_wp2_with fail
            refine hem.mono ?_
            rintro e w2 ⟨rfl, hb2⟩
            have hs2 := hb2.size
            have hN : MkRel W fb (markL names B1 (Thk.firstS (Eb names E) s)) w2 := by
              refine ⟨HK3.out.trans (Kp.of (hb2.mono (by omega))), ?_⟩
              rw [hb2.block _ hfb1, HF1.out, hS.out, HSD.out, HFT.out, HRr.out]
              simp
            have hNN := NEXT.out w2 hN
            clear hem hb2 hN
            go_wp2_with fail
            go_roundg (c.length - (j + 1))
            case measure => omega
            case rel => exact hNN
        · have hie : i = s.length := by omega
          have hN : MkRel W fb (markL names B1 (Thk.firstS (Eb names E) s)) wr := by
            refine ⟨HR2.out.kp, ?_⟩
            rw [HR2.out.row, hS.out, hie, List.drop_length]
            rfl
          have hNN := NEXT.out wr hN
          clear hS hN
          go_wp2_with fail
          go_roundg (c.length - (j + 1))
          case measure => omega
          case rel => exact hNN
    · have hje : j = c.length := by omega
      have hN : wr.heap[fb]? = some (boolsO (markL names B (Thk.firstC (Eb names E) c))) := by
        rw [HR.out.row, hH.out, hje, List.drop_length]
        rfl
      have HN := (show Hid _ from hN)
      clear hH hN
      go_wp2_with fail
      go_end0
      exact ⟨rfl, (Kp.of HB0.out).trans (HR.out.kp.mono (by omega)), HN.out⟩

theorem mark_all (k : Nat) : MarkC k := by
  induction k using Nat.strongRecOn with
  | ind k ih => exact mark_step k ih
end Go.Proofs.YtgfejacimdmkpaaDoor
