import Derived.Test.YtjmcdklhaieldaaGreatDoorPB
import Derived.Test.YtjmcdklhaieldaaGreatDoorBA
import Derived.BigQuiet
set_option linter.all false
namespace Go.Proofs.YtjmcdklhaieldaaGreatDoor
open Go.RowKit
attribute [local go_sem ↓] Go.wp_at_zero Go.wp_at_succ

theorem conv_two (c d : UInt8) (w : World) : (convert 113 9 (.slice (some ⟨w.heap.size, 0, none⟩) 2 2)).run Tryz.prog (w.alloc (.cells #[.int .u8 c.toNat, .int .u8 d.toNat] 5)) = .ok (.string ⟨#[c, d]⟩) (w.alloc (.cells #[.int .u8 c.toNat, .int .u8 d.toNat] 5)) := by
  have h := run_convert_bytes_back (P := Tryz.prog) (w.alloc (.cells #[.int .u8 c.toNat, .int .u8 d.toNat] 5)) 113 9 5 ⟨w.heap.size, 0, none⟩ 2 [c, d] Tryz.underlying113 Tryz.underlying5 Tryz.underlying9 (by
    intro j hj
    have e : j = 0 ∨ j = 1 := by simp at hj; omega
    rcases e with rfl | rfl
    · exact cell_of_block (heap_alloc_same w _) 0
    · exact cell_of_block (heap_alloc_same w _) 1)
  exact h

set_option maxHeartbeats 4000000 in
set_option maxRecDepth 100000 in
theorem written_any (c : UInt8) (m : ByteArray) (w : World) :
    Calls Tryz.prog 177 #[.int .u8 c.toNat, .string m] w fun e w' => e = .returned (.string ⟨(Thk.escB m.data.toList c).toArray⟩) ∧ Below w.heap.size w w' := by
  by_cases h10 : c = 10
  · subst h10
    go_enter Tryz.func177, Tryz.ntmps177
    go_wp2_with fail
    go_ret
    exact ⟨rfl, Below.refl _ _⟩
  · have g10 : ¬ (c.toNat : Int) = 10 := by intro e; apply h10; apply UInt8.toNat_inj.1; simpa using (by omega : c.toNat = 10)
    have g10b : ((c.toNat : Int) == 10) = false := by simpa using g10
    by_cases h9 : c = 9
    · subst h9
      go_enter Tryz.func177, Tryz.ntmps177
      go_wp2_with fail
      go_ret
      exact ⟨rfl, Below.refl _ _⟩
    · have g9 : ¬ (c.toNat : Int) = 9 := by intro e; apply h9; apply UInt8.toNat_inj.1; simpa using (by omega : c.toNat = 9)
      have g9b : ((c.toNat : Int) == 9) = false := by simpa using g9
      by_cases hb : c = 92
      · subst hb
        have hX : Thk.escB m.data.toList 92 = [92, 92] := by unfold Thk.escB; rw [if_neg h10, if_neg h9, if_pos (.inl rfl)]
        rw [hX]
        have hconv := conv_two 92 92 w
        rw [show (((92 : UInt8).toNat : Nat) : Int) = 92 from rfl] at hconv
        clear g10 g10b g9 g9b h10 h9 hX
        go_enter Tryz.func177, Tryz.ntmps177
        go_wp2_with fail
        go_ret
        exact ⟨rfl, below_alloc _ _⟩
      · have g92 : ¬ (c.toNat : Int) = 92 := by intro e; apply hb; apply UInt8.toNat_inj.1; simpa using (by omega : c.toNat = 92)
        have g92b : ((c.toNat : Int) == 92) = false := by simpa using g92
        cases hr : m.data.toList.contains c with
        | true =>
          have hX : Thk.escB m.data.toList c = [92, c] := by unfold Thk.escB; rw [if_neg h10, if_neg h9, if_pos (.inr hr)]
          rw [hX]
          have hc := indexByte_yes m c w hr
          have hconv := conv_two 92 c w
          rw [show (((92 : UInt8).toNat : Nat) : Int) = 92 from rfl] at hconv
          clear hX hr
          go_enter Tryz.func177, Tryz.ntmps177
          go_wp2_with (go_at_call 137; refine hc.mono ?_; rintro e w' ⟨j, hj, rfl, rfl⟩)
          go_wp2_with fail
          go_ret
          exact ⟨rfl, below_alloc _ _⟩
        | false =>
          have hX : Thk.escB m.data.toList c = [c] := by unfold Thk.escB; rw [if_neg h10, if_neg h9, if_neg (by rw [hr]; simp [hb])]
          rw [hX]
          have hc := indexByte_no m c w hr
          have hconv := conv_one c w
          clear hX hr
          go_enter Tryz.func177, Tryz.ntmps177
          go_wp2_with (go_at_call 137; refine hc.mono ?_; rintro e w' ⟨rfl, rfl⟩)
          go_wp2_with fail
          go_ret
          exact ⟨rfl, below_alloc _ _⟩

theorem signText_any (b : UInt8) (w : World) :
    Calls Tryz.prog 146 #[.int .u8 b.toNat] w fun e w' => e = .returned (.string ⟨(Thk.sgnB b).toArray⟩) ∧ Below w.heap.size w w' := by
  by_cases h0 : b = 0
  · subst h0
    go_enter Tryz.func146, Tryz.ntmps146
    go_wp2_with fail
    go_ret
    exact ⟨rfl, Below.refl _ _⟩
  · have g0 : ((b.toNat : Int) == 0) = false := u8_beq_false h0 0 rfl
    have hX : Thk.sgnB b = [b] := by unfold Thk.sgnB; rw [if_neg h0]
    rw [hX]
    have hconv := conv_one b w
    clear h0 hX
    go_enter Tryz.func146, Tryz.ntmps146
    go_wp2_with fail
    go_ret
    exact ⟨rfl, below_alloc _ _⟩

theorem u8_bne {a : UInt8} : ((a.toNat : Int) != 0) = (a != 0) := by
  rw [Bool.eq_iff_iff, bne_iff_ne, bne_iff_ne]
  constructor
  · intro h e; apply h; rw [e]; rfl
  · intro h e; apply h; apply UInt8.toNat_inj.1; rw [show (0 : UInt8).toNat = 0 from rfl]; omega

theorem signed_any (a b : UInt8) (vt : TypeId) (vx : Value) (w : World) :
    Calls Tryz.prog 148 #[.agg #[.int .u8 a.toNat, .iface vt vx, .int .u8 b.toNat]] w fun e w' => e = .returned (.bool (a != 0 || b != 0)) ∧ Below w.heap.size w w' := by
  have h1 := u8_bne (a := a)
  have h2 := u8_bne (a := b)
  cases h : (a != 0) with
  | true =>
    rw [h] at h1
    clear h
    go_enter Tryz.func148, Tryz.ntmps148
    go_wp2_with fail
    go_ret
    exact ⟨rfl, below_alloc _ _⟩
  | false =>
    rw [h] at h1
    generalize (b != 0) = r at *
    clear h
    go_enter Tryz.func148, Tryz.ntmps148
    go_wp2_with fail
    go_ret
    exact ⟨by simp, below_alloc _ _⟩

theorem bwriteByte' (B b : Nat) (l : List UInt8) (c : UInt8) (i : Int) (hi : (c.toNat : Int) = i) (w : World) (h : Bld B b l w) (hlen : l.length + 1 ≤ 140737488355328) (hBw : B ≤ w.heap.size) :
    Calls Tryz.prog 176 #[.pointer (some ⟨b, 0, none⟩), .int .u8 i] w fun e w' => e = .returned .nilIface ∧ Bld B b (l ++ [c]) w' ∧ Below B w w' := hi ▸ bwriteByte B b l c w h hlen hBw

/-- Below the builder nothing is changed; other new blocks leave it as it is. -/
theorem Bld.below {B b : Nat} {l : List UInt8} {w w' : World} (h : Bld B b l w) (hb : Below w.heap.size w w') : Bld B b l w' := by
  rcases h with ⟨h1, v, h2, h3, h4⟩ | ⟨h1, v, h2, h3, h4⟩
  · exact .inl ⟨h1, v, by rw [hb.block _ (heap_lt h2)]; exact h2, own_below h3 hb, h4⟩
  · exact .inr ⟨h1, v, by rw [hb.block _ (heap_lt h2)]; exact h2, own_below h3 hb, h4⟩

theorem mk_size (l : List UInt8) : (ByteArray.mk l.toArray).size = l.length := by show l.toArray.size = _; simp

set_option maxHeartbeats 4000000 in
set_option maxRecDepth 100000 in
theorem literalText_any (s : ByteArray) (w : World) (hb : s.size ≤ 250000) :
    Calls Tryz.prog 164 #[.string s] w fun e w' => e = .returned (.string ⟨(Thk.litB s.data.toList).toArray⟩) ∧ Below w.heap.size w w' := by
  have hlen : ∀ i, ((s.data.toList.take i).flatMap (Thk.escB [39])).length ≤ 500000 := by
    intro i
    have h : ∀ b : Thk.Bytes, (b.flatMap (Thk.escB [39])).length ≤ 2 * b.length := by
      intro b
      induction b with
      | nil => simp
      | cons c b ih => have := esc_len [39] c; rw [List.flatMap_cons, List.length_append, List.length_cons]; omega
    have := h (s.data.toList.take i)
    rw [List.length_take] at this
    have : s.data.toList.length = s.size := rfl
    omega
  have hw1 := bwriteByte' w.heap.size w.heap.size [] 39 39 rfl _ (bld_new w) (by simp) (by simp)
  have HL := hideP hlen
  clear hlen
  go_enter Tryz.func164, Tryz.ntmps164
  go_wp2_with fail
  refine hw1.mono ?_
  rintro _ w1 ⟨rfl, hB1, hb1⟩
  have hs1 := hb1.size
  simp at hs1
  have HS : Hid (Bld w.heap.size w.heap.size (39 :: (s.data.toList.take 0).flatMap (Thk.escB [39])) w1 ∧ Below w.heap.size w w1) := ⟨hB1, (below_alloc _ _).trans hb1⟩
  clear hw1 hB1 hb1
  go_wp2_with fail
  go_loopg [8] s.size (fun m v wr => ∃ i : Nat, m = s.size - i ∧ v = .int .i64 i ∧ i ≤ s.size ∧ Hid (Bld w.heap.size w.heap.size (39 :: (s.data.toList.take i).flatMap (Thk.escB [39])) wr ∧ Below w.heap.size w wr))
  case atStart => exact ⟨0, by omega, rfl, by omega, HS⟩
  case round =>
    obtain ⟨i, rfl, rfl, hi, HI⟩ := hrel
    have hsr := HI.out.2.size
    by_cases hlt : i < s.size
    · have hwr := written_any s[i] ⟨#[39]⟩ wr
      have htk : s.data.toList.take (i + 1) = s.data.toList.take i ++ [s[i]] := by
        have : i < s.data.toList.length := by simpa using hlt
        rw [List.take_succ_eq_append_getElem this]
        simp; rfl
      have HTK := hideP htk
      clear htk
      go_wp2_with fail
      refine hwr.mono ?_
      rintro _ w2 ⟨rfl, hb2⟩
      have hs2 := hb2.size
      have hw2 := bwrite w.heap.size w.heap.size _ ⟨(Thk.escB [39] s[i]).toArray⟩ w2 (HI.out.1.below hb2) (by rw [mk_size, List.length_cons]; have := HL.out i; have := esc_len [39] s[i]; omega) (by omega)
      have HB2 := hideP (HI.out.2.trans (hb2.mono hsr))
      clear hwr hb2
      go_wp2_with fail
      refine hw2.mono ?_
      rintro _ w3 ⟨rfl, hB3, hb3⟩
      have HN : Hid (Bld w.heap.size w.heap.size (39 :: (s.data.toList.take (i + 1)).flatMap (Thk.escB [39])) w3 ∧ Below w.heap.size w w3) := by
        refine ⟨?_, HB2.out.trans hb3⟩
        rw [HTK.out, List.flatMap_append]
        simpa using hB3
      clear hw2 hB3 hb3
      go_wp2_with fail
      go_roundg (s.size - (i + 1))
      case measure => omega
      case rel => exact ⟨i + 1, rfl, by go_num, by omega, HN⟩
    · have htk : s.data.toList.take i = s.data.toList := List.take_of_length_le (by simp; show s.size ≤ i; omega)
      have hw4 := bwriteByte' w.heap.size w.heap.size _ 39 39 rfl wr HI.out.1 (by rw [List.length_cons]; have := HL.out i; omega) hsr
      have HTK := hideP htk
      clear htk
      go_wp2_with fail
      refine hw4.mono ?_
      rintro _ w5 ⟨rfl, hB5, hb5⟩
      have hs5 := hb5.size
      have hst := bstring w.heap.size w.heap.size _ w5 hB5 (by omega)
      have HB5 := hideP (HI.out.2.trans hb5)
      clear hw4 hB5 hb5
      go_wp2_with fail
      refine hst.mono ?_
      rintro _ w6 ⟨rfl, hb6⟩
      have HB6 := hideP (HB5.out.trans hb6)
      clear hst hb6
      go_wp2_with fail
      go_ret
      refine ⟨?_, HB6.out⟩
      rw [HTK.out]
      rfl
end Go.Proofs.YtjmcdklhaieldaaGreatDoor
namespace Go.Proofs.YtjmcdklhaieldaaGreatDoor
open Go.RowKit
attribute [local go_sem ↓] Go.wp_at_zero Go.wp_at_succ

abbrev spanO (p : Thk.Span) : Obj := .cells #[.int .u8 p.1.toNat, .int .u8 p.2.toNat] 286 (0, 0)

theorem cls_le (l : List Thk.Span) (i : Nat) (h : l.length ≤ 100000) : ((l.take i).flatMap (Thk.spanB [93, 45])).length ≤ 500000 := by
  have := spans_len [93, 45] (l.take i)
  rw [List.length_take] at this
  omega

set_option maxHeartbeats 8000000 in
set_option maxRecDepth 100000 in
theorem classText_any (w : World) (u : Value) (l : List Thk.Span) (h : Spans w 0 u l) (hl : l.length ≤ 100000) :
    Calls Tryz.prog 165 #[u] w fun e w' => e = .returned (.string ⟨(Thk.clsB l).toArray⟩) ∧ Below w.heap.size w w' := by
  obtain ⟨ua, uc, rfl⟩ := own_form h
  have hw1 := bwriteByteF w.heap.size w.heap.size [] 91 91 rfl _ (bldF_new w) (by simp) (by simp)
  have HSP := hideP h
  clear h
  go_enter Tryz.func165, Tryz.ntmps165
  go_wp2_with fail
  refine hw1.mono ?_
  rintro _ w1 ⟨rfl, hB1, hb1, _⟩
  have hs1 := hb1.size
  simp at hs1
  have HS : Hid (BldF w.heap.size w.heap.size (91 :: (l.take 0).flatMap (Thk.spanB [93, 45])) w1 ∧ Below w.heap.size w w1) := ⟨hB1, (below_alloc _ _).trans hb1⟩
  clear hw1 hB1 hb1
  go_wp2_with fail
  go_loopg [9] l.length (fun m v wr => ∃ i : Nat, m = l.length - i ∧ v = .int .i64 i ∧ i ≤ l.length ∧ Hid (BldF w.heap.size w.heap.size (91 :: (l.take i).flatMap (Thk.spanB [93, 45])) wr ∧ Below w.heap.size w wr))
  case atStart => exact ⟨0, by omega, rfl, by omega, HS⟩
  case round =>
    obtain ⟨i, rfl, rfl, hi, HI⟩ := hrel
    have hsr := HI.out.2.size
    have hbl := HI.out.1.lt
    by_cases hlt : i < l.length
    · have hlt' : (i : Int) < l.length := by omega
      obtain ⟨g, rfl, hcs, hgl⟩ := own_at HSP.out (by omega)
      have c0 : wr.cell? ⟨g, i * 2, none⟩ = some (.int .u8 l[i].1.toNat) := by
        rw [HI.out.2.cell (p := ⟨g, _, none⟩) hgl, hcs _ (by omega)]
        have := spanC_get l i 0 hlt (by decide)
        exact this
      have c1 : wr.cell? ⟨g, i * 2 + 1, none⟩ = some (.int .u8 l[i].2.toNat) := by
        rw [HI.out.2.cell (p := ⟨g, _, none⟩) hgl, hcs _ (by omega)]
        have := spanC_get l i 1 hlt (by decide)
        exact this
      have hsn : (l.take (i + 1)).flatMap (Thk.spanB [93, 45]) = (l.take i).flatMap (Thk.spanB [93, 45]) ++ Thk.spanB [93, 45] l[i] := by
        rw [List.take_succ_eq_append_getElem hlt, List.flatMap_append]; simp
      have hcl := cls_le l i hl
      obtain ⟨⟨lo, hi1⟩, hp⟩ : ∃ p, p = l[i] := ⟨_, rfl⟩
      rw [← hp] at c0 c1 hsn
      simp only [] at c0 c1
      generalize (l.take i).flatMap (Thk.spanB [93, 45]) = P at *
      obtain ⟨X, hX⟩ : ∃ X, X = wr.alloc (.cells #[.int .u8 lo.toNat, .int .u8 hi1.toNat] 286) := ⟨_, rfl⟩
      have hXb : Below wr.heap.size wr X := by rw [hX]; exact below_alloc _ _
      have hXo : X.heap[wr.heap.size]? = some (spanO (lo, hi1)) := by rw [hX]; exact heap_alloc_same _ _
      have hXs : X.heap.size = wr.heap.size + 1 := by rw [hX]; simp
      have xo := cell_of_block hXo
      have hwr := written_any lo ⟨#[93, 45]⟩ X
      have HXB := hideP hXb
      have HXO := hideP hXo
      have HSN := hideP hsn
      have HCL := hideP hcl
      have hxl : wr.heap.size < X.heap.size := by omega
      clear hp hsn hcl hcs hXb hXo
      go_wp2_with fail
      rw [← hX]
      clear hX
      go_wp2_with fail
      refine hwr.mono ?_
      rintro _ w2 ⟨rfl, hb2⟩
      have hs2 := hb2.size
      have hO2 : w2.heap[wr.heap.size]? = some (spanO (lo, hi1)) := by rw [hb2.block _ hxl]; exact HXO.out
      have hw2 := bwriteF w.heap.size w.heap.size _ ⟨(Thk.escB [93, 45] lo).toArray⟩ w2 (HI.out.1.below (HXB.out.trans (hb2.mono (by omega)))) (by rw [mk_size, List.length_cons]; have := HCL.out; have := esc_len [93, 45] lo; omega) (by omega)
      have HB2 := hideP ((HI.out.2.trans (HXB.out.mono hsr)).trans (hb2.mono (by omega)))
      have HO2 := hideP hO2
      clear hwr hb2 hO2
      go_wp2_with fail
      refine hw2.mono ?_
      rintro _ w3 ⟨rfl, hB3, hb3, hk3⟩
      have hs3 := hb3.size
      have hO3 : w3.heap[wr.heap.size]? = some (spanO (lo, hi1)) := hk3 _ _ HO2.out (by intro e; have := Option.some.inj e; omega) (by intro c fz e; cases e)
      have x3 := cell_of_block hO3
      have l3 := heap_lt' hO3
      have HB3 := hideP (HB2.out.trans hb3)
      have HBL3 := hideP hB3
      clear hw2 hB3 hb3 hk3
      by_cases hne : lo = hi1
      · subst hne
        have HN : Hid (BldF w.heap.size w.heap.size (91 :: (l.take (i + 1)).flatMap (Thk.spanB [93, 45])) w3 ∧ Below w.heap.size w w3) := by
          refine ⟨?_, HB3.out⟩
          rw [HSN.out]
          have := HBL3.out
          simpa [Thk.spanB] using this
        go_wp2_with fail
        go_roundg (l.length - (i + 1))
        case measure => omega
        case rel => exact ⟨i + 1, rfl, by go_num, by omega, HN⟩
      · have hneb : ((lo.toNat : Int) != (hi1.toNat : Int)) = true := by
          rw [bne_iff_ne]; intro e; apply hne; apply UInt8.toNat_inj.1; omega
        have hneb2 : ((lo.toNat : Int) == (hi1.toNat : Int)) = false := by
          rw [beq_eq_false_iff_ne]; intro e; apply hne; apply UInt8.toNat_inj.1; omega
        have hw4 := bwriteByteF w.heap.size w.heap.size _ 45 45 rfl w3 HBL3.out (by simp; have := HCL.out; have := esc_len [93, 45] lo; omega) (by omega)
        have HO3 := hideP hO3
        have HNE := hideP hne
        clear hne
        go_wp2_with fail
        refine hw4.mono ?_
        rintro _ w5 ⟨rfl, hB5, hb5, hk5⟩
        have hs5 := hb5.size
        have hO5 : w5.heap[wr.heap.size]? = some (spanO (lo, hi1)) := hk5 _ _ HO3.out (by intro e; have := Option.some.inj e; omega) (by intro c fz e; cases e)
        have x5 := cell_of_block hO5
        have l5 := heap_lt' hO5
        have hwr2 := written_any hi1 ⟨#[93, 45]⟩ w5
        have HB5 := hideP (HB3.out.trans hb5)
        have HBL5 := hideP hB5
        clear hw4 hB5 hb5 hk5 hO5 x3 xo
        go_wp2_with fail
        refine hwr2.mono ?_
        rintro _ w6 ⟨rfl, hb6⟩
        have hs6 := hb6.size
        have hw7 := bwriteF w.heap.size w.heap.size _ ⟨(Thk.escB [93, 45] hi1).toArray⟩ w6 (HBL5.out.below hb6) (by rw [mk_size]; simp; have := HCL.out; have := esc_len [93, 45] lo; have := esc_len [93, 45] hi1; omega) (by omega)
        have HB6 := hideP (HB5.out.trans (hb6.mono (by omega)))
        clear hwr2 hb6
        go_wp2_with fail
        refine hw7.mono ?_
        rintro _ w8 ⟨rfl, hB8, hb8, hk8⟩
        have HN : Hid (BldF w.heap.size w.heap.size (91 :: (l.take (i + 1)).flatMap (Thk.spanB [93, 45])) w8 ∧ Below w.heap.size w w8) := by
          refine ⟨?_, HB6.out.trans hb8⟩
          rw [HSN.out]
          have hne2 : ¬ hi1 = lo := fun e => HNE.out e.symm
          have := hB8
          simpa [Thk.spanB, hne2] using this
        clear hw7 hB8 hb8 hk8
        go_wp2_with fail
        go_roundg (l.length - (i + 1))
        case measure => omega
        case rel => exact ⟨i + 1, rfl, by go_num, by omega, HN⟩
    · have hlt' : ¬ (i : Int) < l.length := by omega
      have htk : l.take i = l := List.take_of_length_le (by omega)
      have hcl := cls_le l i hl
      have hw4 := bwriteByteF w.heap.size w.heap.size _ 93 93 rfl wr HI.out.1 (by rw [List.length_cons]; omega) hsr
      have HTK := hideP htk
      clear htk
      go_wp2_with fail
      refine hw4.mono ?_
      rintro _ w5 ⟨rfl, hB5, hb5, _⟩
      have hs5 := hb5.size
      have hst := bstringF w.heap.size w.heap.size _ w5 hB5 (by omega)
      have HB5 := hideP (HI.out.2.trans hb5)
      clear hw4 hB5 hb5
      go_wp2_with fail
      refine hst.mono ?_
      rintro _ w6 ⟨rfl, hb6⟩
      have HB6 := hideP (HB5.out.trans hb6)
      clear hst hb6
      go_wp2_with fail
      go_ret
      refine ⟨?_, HB6.out⟩
      rw [HTK.out]
      rfl
end Go.Proofs.YtjmcdklhaieldaaGreatDoor
