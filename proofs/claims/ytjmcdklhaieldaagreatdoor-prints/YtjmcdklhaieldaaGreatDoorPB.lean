import Derived.Test.YtjmcdklhaieldaaGreatDoorTB
import Derived.Test.YtjmcdklhaieldaaGreatDoorNA
set_option linter.all false
namespace Thk

/-- A byte as it is written, with these signs escaped. -/
def escB (m : Bytes) (c : UInt8) : Bytes := if c = 10 then [92, 110] else if c = 9 then [92, 116] else if c = 92 ∨ m.contains c = true then [92, c] else [c]

def spanB (m : Bytes) (s : Span) : Bytes := escB m s.1 ++ (if s.2 = s.1 then [] else 45 :: escB m s.2)

def litB (b : Bytes) : Bytes := 39 :: (b.flatMap (escB [39]) ++ [39])
def clsB (l : List Span) : Bytes := 91 :: (l.flatMap (spanB [93, 45]) ++ [93])

def sgnB (b : UInt8) : Bytes := if b = 0 then [] else [b]

mutual
/-- The plain form. -/
def prP : Piece → Bool → Bytes
  | .name b, _ => b
  | .lit b, _ => litB b
  | .cls l, _ => clsB l
  | .any, _ => [46]
  | .group [[]], _ => [40, 41]
  | .group [[.mk a p b]], sg => if a = 0 ∧ b = 0 then prP p sg else if sg then 40 :: (prT (.mk a p b) ++ [41]) else prT (.mk a p b)
  | .group c, _ => 40 :: (prC c ++ [41])
def prT : Term → Bytes
  | .mk a p b => sgnB a ++ (prP p (a != 0 || b != 0) ++ sgnB b)
def prS : List Term → Bytes
  | [] => []
  | [t] => prT t
  | t :: s => prT t ++ (32 :: prS s)
def prSq : List Term → Bytes
  | [] => [40, 41]
  | s => prS s
def prC : List (List Term) → Bytes
  | [] => []
  | [s] => prSq s
  | s :: c => prSq s ++ ([32, 47, 32] ++ prC c)
 end
end Thk
namespace Go.Proofs.YtjmcdklhaieldaaGreatDoor
open Go.RowKit
attribute [local go_sem ↓] Go.wp_at_zero Go.wp_at_succ

theorem conv_one (c : UInt8) (w : World) : (convert 113 9 (.slice (some ⟨w.heap.size, 0, none⟩) 1 1)).run Tryz.prog (w.alloc (.cells #[.int .u8 c.toNat] 5)) = .ok (.string ⟨#[c]⟩) (w.alloc (.cells #[.int .u8 c.toNat] 5)) := by
  have h := run_convert_bytes_back (P := Tryz.prog) (w.alloc (.cells #[.int .u8 c.toNat] 5)) 113 9 5 ⟨w.heap.size, 0, none⟩ 1 [c] Tryz.underlying113 Tryz.underlying5 Tryz.underlying9 (by
    intro j hj
    have e : j = 0 := by simp at hj; omega
    subst e
    exact cell_of_block (heap_alloc_same w _) 0)
  exact h

set_option maxHeartbeats 4000000 in
set_option maxRecDepth 100000 in
theorem rquoted_any (c : UInt8) (m : ByteArray) (w : World) (hm : m.size ≤ 2000) :
    Calls Tryz.prog 168 #[.int .u8 c.toNat, .string m] w fun e w' => e = .returned (.string ⟨(Thk.escB m.data.toList c).toArray⟩) ∧ Below w.heap.size w w' := by
  have hh := fun r hr => rhas_of m c r w hm hr
  obtain ⟨r, hr⟩ : ∃ r, m.data.toList.contains c = r := ⟨_, rfl⟩
  have hh1 := hh r hr
  clear hh
  by_cases h10 : c = 10
  · subst h10
    go_enter Tryz.func168, Tryz.ntmps168
    go_wp2_with fail
    refine hh1.mono ?_
    rintro _ w1 ⟨rfl, hw⟩
    replace hw := hw.symm
    subst hw
    clear hh1
    go_wp2_with fail
    go_ret
    exact ⟨rfl, Below.refl _ _⟩
  · have g10 : ¬ (c.toNat : Int) = 10 := by intro e; apply h10; apply UInt8.toNat_inj.1; simpa using (by omega : c.toNat = 10)
    have g10b : ((c.toNat : Int) == 10) = false := by simpa using g10
    by_cases h9 : c = 9
    · subst h9
      go_enter Tryz.func168, Tryz.ntmps168
      go_wp2_with fail
      refine hh1.mono ?_
      rintro _ w1 ⟨rfl, hw⟩
      replace hw := hw.symm
      subst hw
      clear hh1
      go_wp2_with fail
      go_ret
      exact ⟨rfl, Below.refl _ _⟩
    · have g9 : ¬ (c.toNat : Int) = 9 := by intro e; apply h9; apply UInt8.toNat_inj.1; simpa using (by omega : c.toNat = 9)
      have g9b : ((c.toNat : Int) == 9) = false := by simpa using g9
      have hconv := conv_one c w
      by_cases h92 : c = 92 ∨ m.data.toList.contains c = true
      · have hX : Thk.escB m.data.toList c = [92, c] := by unfold Thk.escB; rw [if_neg h10, if_neg h9, if_pos h92]
        by_cases hb : c = 92
        · subst hb
          rw [hX]
          rw [show (((92 : UInt8).toNat : Nat) : Int) = 92 from rfl] at hconv
          go_enter Tryz.func168, Tryz.ntmps168
          go_wp2_with fail
          refine hh1.mono ?_
          rintro _ w1 ⟨rfl, hw⟩
          replace hw := hw.symm
          subst hw
          clear hh1 g10 g10b g9 g9b
          go_wp2_with fail
          go_ret
          exact ⟨rfl, below_alloc _ _⟩
        · have g92 : ¬ (c.toNat : Int) = 92 := by intro e; apply hb; apply UInt8.toNat_inj.1; simpa using (by omega : c.toNat = 92)
          have g92b : ((c.toNat : Int) == 92) = false := by simpa using g92
          have hrt : r = true := by rw [← hr]; exact h92.resolve_left hb
          subst hrt
          rw [hX]
          go_enter Tryz.func168, Tryz.ntmps168
          go_wp2_with fail
          refine hh1.mono ?_
          rintro _ w1 ⟨rfl, hw⟩
          replace hw := hw.symm
          subst hw
          clear hh1
          go_wp2_with fail
          go_ret
          exact ⟨rfl, below_alloc _ _⟩
      · have hX : Thk.escB m.data.toList c = [c] := by unfold Thk.escB; rw [if_neg h10, if_neg h9, if_neg h92]
        have hb : ¬ c = 92 := fun e => h92 (.inl e)
        have g92 : ¬ (c.toNat : Int) = 92 := by intro e; apply hb; apply UInt8.toNat_inj.1; simpa using (by omega : c.toNat = 92)
        have g92b : ((c.toNat : Int) == 92) = false := by simpa using g92
        have hrf : r = false := by
          cases r with
          | false => rfl
          | true => exact absurd (.inr hr) h92
        subst hrf
        rw [hX]
        go_enter Tryz.func168, Tryz.ntmps168
        go_wp2_with fail
        refine hh1.mono ?_
        rintro _ w1 ⟨rfl, hw⟩
        replace hw := hw.symm
        subst hw
        clear hh1
        go_wp2_with fail
        go_ret
        exact ⟨rfl, below_alloc _ _⟩
end Go.Proofs.YtjmcdklhaieldaaGreatDoor
namespace Go.Proofs.YtjmcdklhaieldaaGreatDoor
open Go.RowKit
attribute [local go_sem ↓] Go.wp_at_zero Go.wp_at_succ

theorem spanC_get (ps : List Thk.Span) (i j : Nat) (hi : i < ps.length) (hj : j < 2) : (ps.flatMap spanC)[i * 2 + j]? = (spanC ps[i])[j]? := by
  induction ps generalizing i with
  | nil => simp at hi
  | cons p ps ih =>
    have hl : (spanC p).length = 2 := rfl
    cases i with
    | zero =>
      simp only [List.flatMap_cons, Nat.zero_mul, Nat.zero_add, List.getElem_cons_zero]
      rw [List.getElem?_append_left (by omega)]
    | succ i =>
      simp only [List.flatMap_cons, List.getElem_cons_succ]
      rw [List.getElem?_append_right (by omega), hl, show (i + 1) * 2 + j - 2 = i * 2 + j from by omega]
      exact ih i (by simpa using hi)

theorem Items.gen {w : World} {B : Nat} {v : Value} {rs : List Thk.Span} (h : Items w B v rs) : ∃ pa pc, v = .slice pa rs.length pc ∧ ∀ j (hj : j < rs.length), ∃ pg, pa = some ⟨pg, 0, none⟩ ∧ pg < w.heap.size ∧ w.cell? ⟨pg, j * 2, none⟩ = some (.int .u8 rs[j].1.toNat) ∧ w.cell? ⟨pg, j * 2 + 1, none⟩ = some (.int .u8 rs[j].2.toNat) := by
  have h' := h
  rcases h'.2 with ⟨rfl, h0⟩ | ⟨g, cap, cur, rfl, _, hg, h1, h2, _⟩
  · exact ⟨none, 0, by rw [h0], fun j hj => by omega⟩
  · refine ⟨_, cap, rfl, fun j hj => ⟨g, rfl, heap_lt' hg, ?_, ?_⟩⟩
    · have := h.cellAt (g := g) (j * 2 + 0) (by omega)
      rw [spanC_get _ _ _ hj (by decide)] at this; exact this
    · have := h.cellAt (g := g) (j * 2 + 1) (by omega)
      rw [spanC_get _ _ _ hj (by decide)] at this; exact this

theorem esc_len (m : Thk.Bytes) (c : UInt8) : (Thk.escB m c).length ≤ 2 := by
  unfold Thk.escB; repeat' split
  all_goals simp
theorem span_len (m : Thk.Bytes) (s : Thk.Span) : (Thk.spanB m s).length ≤ 5 := by
  unfold Thk.spanB
  have h1 := esc_len m s.1
  have h2 := esc_len m s.2
  split
  · simp; omega
  · simp; omega
theorem spans_len (m : Thk.Bytes) (l : List Thk.Span) : (l.flatMap (Thk.spanB m)).length ≤ 5 * l.length := by
  induction l with
  | nil => simp
  | cons s l ih => have := span_len m s; rw [List.flatMap_cons, List.length_append, List.length_cons]; omega

theorem bs_app (a b : Thk.Bytes) : (ByteArray.mk a.toArray) ++ (ByteArray.mk b.toArray) = ByteArray.mk (a ++ b).toArray := by
  apply ByteArray.ext
  simp

structure LsRel (w : World) (B : Nat) (v : Value) (rs : List Thk.Span) (wr : World) : Prop where
  below : Below w.heap.size w wr

set_option maxHeartbeats 4000000 in
set_option maxRecDepth 100000 in
theorem rlisted_any (w : World) (B : Nat) (v : Value) (rs : List Thk.Span) (m : ByteArray) (h : Items w B v rs) (hm : m.size ≤ 2000) (hl : rs.length ≤ 250000) :
    Calls Tryz.prog 150 #[v, .string m] w fun e w' => e = .returned (.string ⟨(rs.flatMap (Thk.spanB m.data.toList)).toArray⟩) ∧ Below w.heap.size w w' := by
  obtain ⟨pa, pc, rfl, hc⟩ := h.gen
  clear h
  go_enter Tryz.func150, Tryz.ntmps150
  go_wp2_with fail
  go_loopg [5, 6] rs.length (fun k vs vi wr => ∃ i : Nat, k = rs.length - i ∧ vs = .string ⟨((rs.take i).flatMap (Thk.spanB m.data.toList)).toArray⟩ ∧ vi = .int .i64 i ∧ i ≤ rs.length ∧ Hid (Below w.heap.size w wr))
  case atStart => exact ⟨0, by omega, rfl, rfl, by omega, Below.refl _ _⟩
  case round =>
    obtain ⟨i, rfl, rfl, rfl, hi, HB⟩ := hrel
    by_cases hlt : i < rs.length
    · have hlt' : (i : Int) < rs.length := by omega
      obtain ⟨pg, rfl, hpg, c0, c1⟩ := hc i hlt
      have c0' : wr.cell? ⟨pg, i * 2, none⟩ = some (.int .u8 rs[i].1.toNat) := by rw [World.cell?_of_block (a := ⟨pg, _, none⟩) (HB.out.block pg hpg)]; exact c0
      have c1' : wr.cell? ⟨pg, i * 2 + 1, none⟩ = some (.int .u8 rs[i].2.toNat) := by rw [World.cell?_of_block (a := ⟨pg, _, none⟩) (HB.out.block pg hpg)]; exact c1
      have hq := rquoted_any rs[i].1 m wr hm
      have hsz : (ByteArray.mk ((rs.take i).flatMap (Thk.spanB m.data.toList)).toArray).size ≤ 1250000 := by
        have := spans_len m.data.toList (rs.take i)
        rw [List.length_take] at this
        show ((rs.take i).flatMap (Thk.spanB m.data.toList)).toArray.size ≤ _
        simp only [List.size_toArray]
        omega
      have hsz2 : (ByteArray.mk (Thk.escB m.data.toList rs[i].1).toArray).size ≤ 2 := by
        show (Thk.escB m.data.toList rs[i].1).toArray.size ≤ _
        simp only [List.size_toArray]
        exact esc_len _ _
      clear c0 c1
      go_wp2_with fail
      refine hq.mono ?_
      rintro _ w1 ⟨rfl, hb1⟩
      have HB1 : Hid (Below w.heap.size w w1) := HB.out.trans (hb1.mono HB.out.size)
      have d0 : w1.cell? ⟨pg, i * 2, none⟩ = some (.int .u8 rs[i].1.toNat) := by rw [World.cell?_of_block (a := ⟨pg, _, none⟩) (hb1.block pg (by have := HB.out.size; omega))]; exact c0'
      have d1 : w1.cell? ⟨pg, i * 2 + 1, none⟩ = some (.int .u8 rs[i].2.toNat) := by rw [World.cell?_of_block (a := ⟨pg, _, none⟩) (hb1.block pg (by have := HB.out.size; omega))]; exact c1'
      have htk : rs.take (i + 1) = rs.take i ++ [rs[i]] := List.take_succ_eq_append_getElem hlt
      have HTK := hideP htk
      clear htk hb1 hq c0' c1'
      by_cases hne : rs[i].2 = rs[i].1
      · have hneb : ((rs[i].2.toNat : Int) != (rs[i].1.toNat : Int)) = false := by rw [hne]; simp
        have HEQ : Hid ((ByteArray.mk ((rs.take i).flatMap (Thk.spanB m.data.toList)).toArray) ++ (ByteArray.mk (Thk.escB m.data.toList rs[i].1).toArray) = ByteArray.mk ((rs.take (i + 1)).flatMap (Thk.spanB m.data.toList)).toArray) := by
          show _ = _
          rw [bs_app, HTK.out, List.flatMap_append]
          congr 3
          simp [Thk.spanB, hne]
        clear hne
        go_wp2_with fail
        go_quiet (fail)
        go_wp2_with fail
        go_roundg (rs.length - (i + 1))
        case measure => omega
        case rel => exact ⟨i + 1, rfl, congrArg Value.string HEQ.out, by go_num, by omega, below_drewN HB1.out _⟩
      · have hneb : ((rs[i].2.toNat : Int) != (rs[i].1.toNat : Int)) = true := by
          rw [bne_iff_ne]
          intro e
          apply hne
          apply UInt8.toNat_inj.1
          omega
        have hq2 := fun W => rquoted_any rs[i].2 m W hm
        have hsz3 : (ByteArray.mk (Thk.escB m.data.toList rs[i].2).toArray).size ≤ 2 := by
          show (Thk.escB m.data.toList rs[i].2).toArray.size ≤ _
          simp only [List.size_toArray]
          exact esc_len _ _
        have HEQ : Hid (((ByteArray.mk ((rs.take i).flatMap (Thk.spanB m.data.toList)).toArray ++ ByteArray.mk (Thk.escB m.data.toList rs[i].1).toArray) ++ ⟨#[45]⟩) ++ ByteArray.mk (Thk.escB m.data.toList rs[i].2).toArray = ByteArray.mk ((rs.take (i + 1)).flatMap (Thk.spanB m.data.toList)).toArray) := by
          show _ = _
          rw [bs_app, show (ByteArray.mk #[45]) = ByteArray.mk ([45] : Thk.Bytes).toArray from rfl, bs_app, bs_app, HTK.out, List.flatMap_append]
          congr 2
          simp [Thk.spanB, hne]
        have HQ2 := hideP hq2
        have hsz4 : (ByteArray.mk ((rs.take i).flatMap (Thk.spanB m.data.toList)).toArray ++ ByteArray.mk (Thk.escB m.data.toList rs[i].1).toArray).size ≤ 1250002 := by rw [ByteArray.size_append]; omega
        have hsz6 : (ByteArray.mk #[45]).size = 1 := rfl
        have hsz5 : ((ByteArray.mk ((rs.take i).flatMap (Thk.spanB m.data.toList)).toArray ++ ByteArray.mk (Thk.escB m.data.toList rs[i].1).toArray) ++ ⟨#[45]⟩).size ≤ 1250003 := by rw [ByteArray.size_append, hsz6]; omega
        clear hne hq2
        go_wp2_with fail
        go_quiet (fail)
        go_wp2_with fail
        refine (HQ2.out _).mono ?_
        rintro _ w3 ⟨rfl, hb3⟩
        have HB3 : Hid (Below w.heap.size w w3) := (below_drewN HB1.out _).trans (hb3.mono HB1.out.size)
        clear hb3
        go_wp2_with fail
        go_roundg (rs.length - (i + 1))
        case measure => omega
        case rel => exact ⟨i + 1, rfl, congrArg Value.string HEQ.out, by go_num, by omega, HB3⟩
    · have hlt' : ¬ (i : Int) < rs.length := by omega
      have hie : rs.take i = rs := List.take_of_length_le (by omega)
      have HIE := hideP hie
      clear hie
      go_wp2_with fail
      go_ret
      exact ⟨congrArg (fun l => Ending.returned (Value.string ⟨(List.flatMap (Thk.spanB m.data.toList) l).toArray⟩)) HIE.out, HB.out⟩
end Go.Proofs.YtjmcdklhaieldaaGreatDoor
namespace Thk

def small (t : Tok) : Prop := t.text.length ≤ 20 ∧ t.spans.length ≤ 20
def Small (ts : List Tok) : Prop := ∀ t ∈ ts, small t

mutual
def wtP : Piece → Nat
  | .name b => b.length
  | .lit b => 2 + 2 * b.length
  | .cls l => 2 + 5 * l.length
  | .any => 1
  | .group c => 2 + wtC c
def wtT : Term → Nat
  | .mk _ p _ => 2 + wtP p
def wtS : List Term → Nat
  | [] => 2
  | t :: s => 1 + wtT t + wtS s
def wtC : List (List Term) → Nat
  | [] => 1000000
  | [s] => 3 + wtS s
  | s :: c => 3 + wtS s + wtC c
 end

theorem wtC_le (s : List Term) (c : List (List Term)) : wtC (s :: c) ≤ 3 + wtS s + wtC c := by
  cases c with
  | nil => simp only [wtC]; omega
  | cons s2 c => simp only [wtC]; omega

theorem Small.tail {ts : List Tok} (h : Small ts) : Small ts.tail := fun t ht => h t (List.mem_of_mem_tail ht)
theorem Small.ahead {ts : List Tok} (h : Small ts) : Small (aheadOf ts).2 := by
  unfold aheadOf
  repeat' split
  all_goals first | exact h | exact h.tail
theorem Small.behind {ts : List Tok} (h : Small ts) : Small (behindOf ts).2 := by
  unfold behindOf
  repeat' split
  all_goals first | exact h | exact h.tail

def WP1 (ts : List Tok) (r : Res Piece) : Prop := Small ts → ∀ p rest, r = .ok p rest → wtP p + 200 * rest.length + 50 ≤ 200 * ts.length ∧ Small rest
def WP2 (ts : List Tok) (r : Res Term) : Prop := Small ts → ∀ p rest, r = .ok p rest → wtT p + 200 * rest.length + 40 ≤ 200 * ts.length ∧ Small rest
def WP3 (ts : List Tok) (r : Res Seq) : Prop := Small ts → ∀ p rest, r = .ok p rest → wtS p + 200 * rest.length ≤ 200 * ts.length + 2 ∧ Small rest
def WP4 (ts : List Tok) (r : Res Choice) : Prop := Small ts → ∀ p rest, r = .ok p rest → wtC p + 200 * rest.length ≤ 200 * ts.length + 10 ∧ Small rest

theorem hd_sign_ne {ts : List Tok} {c : UInt8} (h : (hd ts).kind = .sign c) : 1 ≤ ts.length := by
  cases ts with
  | nil => simp [hd, badT] at h
  | cons t ts => simp

theorem wp_plain {ts : List Tok} {p : Piece} (h : plainPiece (hd ts) = some p) : WP1 ts (.ok p ts.tail) := by
  intro hs p' rest e
  cases e
  cases ts with
  | nil => simp [hd, plainPiece, badT] at h
  | cons t ts =>
    have ht := hs t (by simp)
    obtain ⟨h1, h2⟩ := ht
    refine ⟨?_, hs.tail⟩
    simp only [hd, List.headD_cons] at h
    unfold plainPiece at h
    split at h
    · cases h; simp [wtP]; omega
    · cases h; simp [wtP]; omega
    · cases h; simp [wtP]; omega
    · split at h
      · cases h; simp [wtP]; omega
      · cases h
    · cases h

theorem PChoice.wt {d : Nat} {ts : List Tok} {c : Choice} {rest : List Tok} (h : PChoice d ts (.ok c rest)) (hs : Small ts) : wtC c + 200 * rest.length ≤ 200 * ts.length + 10 ∧ Small rest := by
  refine (PChoice.rec (motive_1 := fun _ ts r _ => WP1 ts r) (motive_2 := fun _ ts r _ => WP2 ts r) (motive_3 := fun _ ts r _ => WP3 ts r) (motive_4 := fun _ ts r _ => WP4 ts r) ?_ ?_ ?_ ?_ ?_ ?_ ?_ ?_ ?_ ?_ ?_ ?_ ?_ ?_ ?_ ?_ h : WP4 ts (.ok c rest)) hs c rest rfl
  · intro d ts p h; exact wp_plain h
  · intro d ts h h' hs p rest e; cases e
  · intro ts h hs p rest e; cases e
  · intro d ts c rest h1 h2 h3 h4 ih hs p rest' e
    cases e
    obtain ⟨i1, i2⟩ := ih hs.tail _ _ rfl
    have n1 := hd_sign_ne h1
    have n2 := hd_sign_ne h4
    refine ⟨?_, i2.tail⟩
    simp only [wtP, List.length_tail] at i1 ⊢
    omega
  · intros; intro hs p rest e; cases e
  · intros; intro hs p rest e; cases e
  · intro d ts p rest h ih hs t rest' e
    cases e
    obtain ⟨i1, i2⟩ := ih hs.ahead _ _ rfl
    have h1 := ahead_len ts
    have h2 := behind_len rest
    refine ⟨?_, i2.behind⟩
    simp only [wtT]
    omega
  · intros; intro hs p rest e; cases e
  · intro d ts h hs p rest e
    cases e
    refine ⟨?_, hs⟩
    simp only [wtS]
    omega
  · intro d ts t rest s rest' h1 h2 h3 ih1 ih2 hs p r e
    cases e
    obtain ⟨i1, i2⟩ := ih1 hs _ _ rfl
    obtain ⟨j1, j2⟩ := ih2 i2 _ _ rfl
    refine ⟨?_, j2⟩
    simp only [wtS]
    omega
  · intros; intro hs p rest e; cases e
  · intros; intro hs p rest e; cases e
  · intro d ts s rest h1 h2 ih hs p r e
    cases e
    obtain ⟨i1, i2⟩ := ih hs _ _ rfl
    refine ⟨?_, i2⟩
    simp only [wtC]
    omega
  · intro d ts s rest c rest' h1 h2 h3 ih1 ih2 hs p r e
    cases e
    obtain ⟨i1, i2⟩ := ih1 hs _ _ rfl
    obtain ⟨j1, j2⟩ := ih2 i2.tail _ _ rfl
    have n1 := hd_sign_ne h2
    refine ⟨?_, j2⟩
    have hw := wtC_le s c
    simp only [List.length_tail] at *
    omega
  · intros; intro hs p rest e; cases e
  · intros; intro hs p rest e; cases e

theorem closes_le {l : Bytes} {n : Nat} {m : UInt8} {k : Nat} (h : closesL l n m k = true) : k ≤ 20 := by
  unfold closesL at h
  simp at h
  omega

theorem tokL_small (l : Bytes) : small (tokL l) := by
  have hb : small badT := ⟨by simp [badT], by simp [badT]⟩
  cases l with
  | nil => exact ⟨by simp [tokL], by simp [tokL]⟩
  | cons c t =>
    simp only [tokL]
    split
    · unfold nameT
      split
      · exact hb
      · refine ⟨?_, by simp⟩
        rw [List.length_take]; omega
    · split
      · exact ⟨by simp, by simp⟩
      · split
        · unfold litT
          split
          · rename_i h; exact ⟨closes_le h, by simp⟩
          · exact hb
        · split
          · unfold clsT
            split
            · rename_i h; exact ⟨by simp, closes_le h⟩
            · exact hb
          · split
            · exact ⟨by simp, by simp⟩
            · exact hb

theorem toksF_small : ∀ (f pos : Nat) (l : Bytes), Small (toksF f pos l)
  | 0, _, _ => by intro t ht; simp [toksF] at ht
  | f + 1, pos, l => by
    intro t ht
    simp only [toksF, List.mem_cons] at ht
    rcases ht with rfl | ht
    · exact tokL_small _
    · split at ht
      · simp at ht
      · exact toksF_small f _ _ t ht

theorem PRule.wt {n : Nat} {ts : List Tok} {r : Rule} {rest : List Tok} (h : PRule n ts (.ok r rest)) (hs : Small ts) : wtC r.choice ≤ 200 * ts.length + 10 ∧ r.name.length ≤ 20 ∧ rest.length ≤ ts.length ∧ Small rest := by
  cases h with
  | ok hk _ _ hc =>
    obtain ⟨i1, i2⟩ := hc.wt hs.tail.tail
    have hn := hc.nc
    simp only [List.length_tail] at i1 hn
    refine ⟨by simp only []; omega, ?_, by omega, i2⟩
    cases ts with
    | nil => simp [hd, badT]
    | cons t ts => simp only [hd, List.headD_cons]; exact (hs t (by simp)).1

theorem PGram.wt {n : Nat} {ts : List Tok} {g : List Rule} (h : PGram n ts (.ok g)) (hs : Small ts) : ∀ r ∈ g, wtC r.choice ≤ 200 * ts.length + 10 ∧ r.name.length ≤ 20 := by
  generalize hres : (Except.ok g : Except (Nat × Nat) (List Rule)) = res at h
  induction h generalizing g with
  | last hr hk =>
    cases hres
    intro r hr'
    simp only [List.mem_singleton] at hr'
    subst hr'
    have := hr.wt hs
    exact ⟨this.1, this.2.1⟩
  | more hr hk _ ih =>
    cases hres
    intro r hr'
    have h1 := hr.wt hs
    rcases List.mem_cons.1 hr' with rfl | hr'
    · exact ⟨h1.1, h1.2.1⟩
    · have := ih h1.2.2.2 rfl r hr'
      omega
  | err hr => cases hres
  | later _ _ _ _ => cases hres

theorem gram_wt {l : Bytes} {g : List Rule} (h : PGram 0 (toks l) (.ok g)) (hl : l.length ≤ 2000) : ∀ r ∈ g, wtC r.choice ≤ 500000 ∧ r.name.length ≤ 20 := by
  intro r hr
  have h1 := h.wt (toksF_small _ _ _) r hr
  have h2 := toks_len l
  omega
end Thk
namespace Thk
open Go.Proofs.YtjmcdklhaieldaaGreatDoor

theorem sgn_len (b : UInt8) : (sgnB b).length ≤ 1 := by unfold sgnB; split <;> simp
theorem lit_len (b : Bytes) : (litB b).length ≤ 2 + 2 * b.length := by
  unfold litB
  have h : (b.flatMap (escB [39])).length ≤ 2 * b.length := by
    induction b with
    | nil => simp
    | cons c b ih => have := esc_len [39] c; rw [List.flatMap_cons, List.length_append, List.length_cons]; omega
  rw [List.length_cons, List.length_append, List.length_singleton]; omega
theorem cls_len (l : List Span) : (clsB l).length ≤ 2 + 5 * l.length := by
  unfold clsB
  have h := spans_len [93, 45] l
  rw [List.length_cons, List.length_append, List.length_singleton]; omega

theorem prP_brk (c : List (List Term)) (sg : Bool) (h : ∀ a p b, c ≠ [[.mk a p b]]) (h0 : c ≠ [[]]) : prP (.group c) sg = 40 :: (prC c ++ [41]) := by
  rw [prP.eq_def]
  split
  · rename_i e; cases e
  · rename_i e; cases e
  · rename_i e; cases e
  · rename_i e; cases e
  · rename_i e; cases e; exact absurd rfl h0
  · rename_i e; cases e; exact absurd rfl (h _ _ _)
  · rename_i e; cases e; rfl

mutual
theorem prP_len : ∀ (p : Piece) (sg : Bool), (prP p sg).length ≤ wtP p
  | .name b, sg => by simp [prP, wtP]
  | .lit b, sg => by simp only [prP, wtP]; exact lit_len b
  | .cls l, sg => by simp only [prP, wtP]; exact cls_len l
  | .any, sg => by simp [prP, wtP]
  | .group [[.mk a p b]], sg => by
    have h1 := prT_len (.mk a p b)
    have h2 := prP_len p sg
    simp only [prP, wtP, wtC, wtS, wtT] at *
    split
    · omega
    · split
      · rw [List.length_cons, List.length_append, List.length_singleton]; omega
      · omega
  | .group [], sg => by rw [prP_brk _ _ (by simp) (by simp)]; simp [prC, wtP, wtC]
  | .group [[]], sg => by simp [prP, wtP, wtC, wtS]
  | .group ([] :: s2 :: c), sg => by
    have := prC_len ([] :: s2 :: c)
    rw [prP_brk _ _ (by simp) (by simp), List.length_cons, List.length_append, List.length_singleton]
    simp only [wtP]; omega
  | .group ((t :: t2 :: s) :: c), sg => by
    have := prC_len ((t :: t2 :: s) :: c)
    rw [prP_brk _ _ (by simp) (by simp), List.length_cons, List.length_append, List.length_singleton]
    simp only [wtP]; omega
  | .group ([t] :: s2 :: c), sg => by
    have := prC_len ([t] :: s2 :: c)
    rw [prP_brk _ _ (by simp) (by simp), List.length_cons, List.length_append, List.length_singleton]
    simp only [wtP]; omega
theorem prT_len : ∀ (t : Term), (prT t).length ≤ wtT t
  | .mk a p b => by
    have h1 := prP_len p (a != 0 || b != 0)
    have h2 := sgn_len a
    have h3 := sgn_len b
    simp only [prT, wtT, List.length_append]
    omega
theorem prS_len : ∀ (s : List Term), (prS s).length ≤ wtS s
  | [] => by simp [prS]
  | [t] => by
    have := prT_len t
    simp only [prS, wtS]; omega
  | t :: t2 :: s => by
    have h1 := prT_len t
    have h2 := prS_len (t2 :: s)
    simp only [prS, wtS, List.length_append, List.length_cons] at *
    omega
theorem prC_len : ∀ (c : List (List Term)), (prC c).length ≤ wtC c
  | [] => by simp [prC]
  | [s] => by
    have h1 := prS_len s
    cases s with
    | nil => simp [prC, prSq, wtC, wtS]
    | cons t s => simp only [prC, prSq, wtC] at *; omega
  | s :: s2 :: c => by
    have h1 := prS_len s
    have h2 := prC_len (s2 :: c)
    have h3 : (prSq s).length ≤ wtS s := by
      cases s with
      | nil => simp [prSq, wtS]
      | cons t s => simp only [prSq]; exact h1
    simp only [prC, wtC, List.length_append, List.length_cons, List.length_nil] at *
    omega
 end
end Thk
namespace Go.Proofs.YtjmcdklhaieldaaGreatDoor
open Thk

/-- Texts with blanks, with slashes between them. -/
def jS : List Bytes → Bytes
  | [] => []
  | [s] => s
  | s :: ss => s ++ (32 :: jS ss)
def jSq : List Bytes → Bytes
  | [] => [40, 41]
  | ss => jS ss
def jC : List (List Bytes) → Bytes
  | [] => []
  | [s] => jSq s
  | s :: c => jSq s ++ ([32, 47, 32] ++ jC c)

theorem prS_j : ∀ s : List Term, prS s = jS (s.map prT)
  | [] => by simp [prS, jS]
  | [t] => by simp [prS, jS]
  | t :: t2 :: s => by
    have := prS_j (t2 :: s)
    simp only [prS, List.map_cons, jS] at *
    rw [this]
theorem prSq_j : ∀ s : List Term, prSq s = jSq (s.map prT)
  | [] => by simp [prSq, jSq]
  | t :: s => by
    have := prS_j (t :: s)
    simp only [prSq, List.map_cons, jSq] at *
    exact this
theorem prC_j : ∀ c : List (List Term), prC c = jC (c.map (fun s => s.map prT))
  | [] => by simp [prC, jC]
  | [s] => by simp [prC, jC, prSq_j]
  | s :: s2 :: c => by
    have := prC_j (s2 :: c)
    simp only [prC, List.map_cons, jC] at *
    rw [this, prSq_j]

def SeqR (xs : List RE) (RT : Nat → Bytes → Prop) (q : Nat) (ss : List Bytes) : Prop := ∃ ks, xs[q]? = some ⟨5, [], [], 0, ks⟩ ∧ AllR RT ks ss

structure StepsP (xs : List RE) (RP RI : Nat → Bool → Bytes → Prop) (RT RC : Nat → Bytes → Prop) : Prop where
  name : ∀ k b sg, xs[k]? = some ⟨4, [], b, 0, []⟩ → RP k sg b
  lit : ∀ k b sg, xs[k]? = some ⟨1, b.map (fun c => (c, c)), [], 0, []⟩ → b.length ≤ 250000 → RP k sg (litB b)
  cls : ∀ k l sg, xs[k]? = some ⟨2, l, [], 0, []⟩ → l.length ≤ 100000 → RP k sg (clsB l)
  any : ∀ k sg, xs[k]? = some ⟨3, [], [], 0, []⟩ → RP k sg [46]
  brk : ∀ k q qs ks sg s, xs[k]? = some ⟨6, [], [], 0, q :: qs⟩ → xs[q]? = some ⟨5, [], [], 0, ks⟩ → (qs ≠ [] ∨ 1 < ks.length) → s.length ≤ 600000 → RC k s → RP k sg (40 :: (s ++ [41]))
  unit : ∀ k q sg, xs[k]? = some ⟨6, [], [], 0, [q]⟩ → xs[q]? = some ⟨5, [], [], 0, []⟩ → RP k sg [40, 41]
  thru : ∀ k q t e sg s, xs[k]? = some ⟨6, [], [], 0, [q]⟩ → xs[q]? = some ⟨5, [], [], 0, [t]⟩ → xs[t]? = some e → ¬ (7 ≤ e.kind ∧ e.kind ≤ 11) → RP t sg s → RP k sg s
  sgn : ∀ k q t e sg s, xs[k]? = some ⟨6, [], [], 0, [q]⟩ → xs[q]? = some ⟨5, [], [], 0, [t]⟩ → xs[t]? = some e → 7 ≤ e.kind → e.kind ≤ 11 → s.length ≤ 600000 → RT t s → RP k sg (if sg then 40 :: (s ++ [41]) else s)
  item : ∀ k e sg s, xs[k]? = some e → ¬ (7 ≤ e.kind ∧ e.kind ≤ 9) → RP k sg s → RI k sg s
  itemS : ∀ k j b sg s, xs[k]? = some (wrapE (sgnKind [b]) j) → (b = 63 ∨ b = 42 ∨ b = 43) → s.length ≤ 600000 → RP j true s → RI k sg (s ++ [b])
  term : ∀ k e s, xs[k]? = some e → ¬ (e.kind = 10 ∨ e.kind = 11) → RI k false s → RT k s
  termS : ∀ k i a s, xs[k]? = some (wrapE (sgnKind [a]) i) → (a = 38 ∨ a = 33) → s.length ≤ 600000 → RI i true s → RT k (a :: s)
  choice : ∀ k qs sss, xs[k]? = some ⟨6, [], [], 0, qs⟩ → AllR (SeqR xs RT) qs sss → (jC sss).length ≤ 600000 → RC k (jC sss)

theorem DenP.kind9 {xs : List RE} {j : Nat} {p : Piece} (h : DenP xs j p) : ∃ x, xs[j]? = some x ∧ ¬ (7 ≤ x.kind ∧ x.kind ≤ 11) := by
  cases p with
  | name b => simp only [DenP] at h; exact ⟨_, h, by simp⟩
  | lit b => simp only [DenP] at h; exact ⟨_, h, by simp⟩
  | cls l => simp only [DenP] at h; exact ⟨_, h, by simp⟩
  | any => simp only [DenP] at h; exact ⟨_, h, by simp⟩
  | group c => simp only [DenP] at h; obtain ⟨qs, h, _⟩ := h; exact ⟨_, h, by simp⟩

theorem sgnKind_b {b : UInt8} (h : b = 63 ∨ b = 42 ∨ b = 43) : 7 ≤ sgnKind [b] ∧ sgnKind [b] ≤ 9 := by
  rcases h with rfl | rfl | rfl <;> decide
theorem sgnKind_a {b : UInt8} (h : b = 38 ∨ b = 33) : 10 ≤ sgnKind [b] ∧ sgnKind [b] ≤ 11 := by
  rcases h with rfl | rfl <;> decide

theorem AllR.sg {xs : List RE} {RT : Nat → Bytes → Prop} {qs : List Nat} {c : List (List Bytes)} (h : AllR (SeqR xs RT) qs c) : qs.length = c.length := h.len.symm

/-- What piece, item, term and choice tell of a node is the plain form of what it stands for. -/
theorem bang_ne {a b : UInt8} (h : ¬ (a = 0 ∧ b = 0)) : (a != 0 || b != 0) = true := by
  by_cases ha : a = 0
  · have : b ≠ 0 := fun e => h ⟨ha, e⟩
    simp [this]
  · simp [ha]

mutual
theorem ppP {xs : List RE} {RP RI : Nat → Bool → Bytes → Prop} {RT RC : Nat → Bytes → Prop} (h : StepsP xs RP RI RT RC) : ∀ (p : Piece) {k : Nat} (sg : Bool), DenP xs k p → wtP p ≤ 500000 → RP k sg (prP p sg)
  | .name b, k, sg => by
    intro hd _
    simp only [DenP] at hd
    simp only [prP]; exact h.name k b sg hd
  | .lit b, k, sg => by
    intro hd hw
    simp only [DenP] at hd
    simp only [wtP] at hw
    simp only [prP]; exact h.lit k b sg hd (by omega)
  | .cls l, k, sg => by
    intro hd hw
    simp only [DenP] at hd
    simp only [wtP] at hw
    simp only [prP]; exact h.cls k l sg hd (by omega)
  | .any, k, sg => by
    intro hd _
    simp only [DenP] at hd
    simp only [prP]; exact h.any k sg hd
  | .group [], k, sg => by
    intro hd hw
    simp only [wtP, wtC] at hw
    omega
  | .group [[]], k, sg => by
    intro hd _
    simp only [DenP, DenC, DenS] at hd
    obtain ⟨qs, h1, q, qs', ks, rfl, h2, rfl, rfl⟩ := hd
    simp only [prP]; exact h.unit k q sg h1 h2
  | .group [[.mk a p b]], k, sg => by
    intro hd hw
    have hT := fun (k : Nat) => ppT h (.mk a p b) (k := k)
    have hP := fun (k : Nat) => ppP h p (k := k) sg
    have hlen := prT_len (.mk a p b)
    simp only [DenP, DenC, DenS] at hd
    obtain ⟨qs, h1, q, qs', ks, rfl, h2, ⟨t, ks', rfl, h3, rfl⟩, rfl⟩ := hd
    simp only [wtP, wtC, wtS] at hw
    have hT' := hT t h3 (by omega)
    have h3' := h3
    simp only [DenT] at h3
    obtain ⟨i, j, e1, e2, h4, h5, h6⟩ := h3
    by_cases h0 : a = 0 ∧ b = 0
    · obtain ⟨rfl, rfl⟩ := h0
      simp only [if_pos] at e1 e2
      subst e1
      subst e2
      obtain ⟨x, hx, hx2⟩ := DenP.kind9 h4
      have := h.thru k q t x sg _ h1 h2 hx hx2 (hP t h4 (by simp only [wtT] at hw; omega))
      simpa [prP] using this
    · have hx : ∃ x, xs[t]? = some x ∧ 7 ≤ x.kind ∧ x.kind ≤ 11 := by
        by_cases ha : a = 0
        · rw [if_pos ha] at e1
          subst e1
          have hb : b ≠ 0 := fun e => h0 ⟨ha, e⟩
          rw [if_neg hb] at e2
          have := sgnKind_b (h5.resolve_left hb)
          exact ⟨_, e2, by simp only [wrapE]; omega, by simp only [wrapE]; omega⟩
        · rw [if_neg ha] at e1
          have := sgnKind_a (h6.resolve_left ha)
          exact ⟨_, e1, by simp only [wrapE]; omega, by simp only [wrapE]; omega⟩
      obtain ⟨x, hx, hx1, hx2⟩ := hx
      have := h.sgn k q t x sg _ h1 h2 hx hx1 hx2 (by omega) hT'
      simp only [prP, if_neg h0]; exact this
  | .group ([] :: s2 :: c), k, sg => by
    intro hd hw
    have hC := fun (qs : List Nat) => ppC h ([] :: s2 :: c) (qs := qs)
    have hl := prC_len ([] :: s2 :: c)
    simp only [DenP] at hd
    obtain ⟨qs, h1, h2⟩ := hd
    simp only [wtP] at hw
    have hA := hC qs h2 (by omega)
    have hc := h.choice k qs _ h1 hA (by rw [← prC_j]; omega)
    rw [← prC_j] at hc
    rw [prP_brk _ _ (by simp) (by simp)]
    simp only [DenC] at h2
    obtain ⟨q, qs1, ks, rfl, h3, h4, q2, qs2, ks2, rfl, h5⟩ := h2
    exact h.brk k q _ ks sg _ h1 h3 (.inl (by simp)) (by omega) hc
  | .group ((t :: t2 :: s) :: c), k, sg => by
    intro hd hw
    have hC := fun (qs : List Nat) => ppC h ((t :: t2 :: s) :: c) (qs := qs)
    have hl := prC_len ((t :: t2 :: s) :: c)
    simp only [DenP] at hd
    obtain ⟨qs, h1, h2⟩ := hd
    simp only [wtP] at hw
    have hA := hC qs h2 (by omega)
    have hc := h.choice k qs _ h1 hA (by rw [← prC_j]; omega)
    rw [← prC_j] at hc
    rw [prP_brk _ _ (by simp) (by simp)]
    simp only [DenC, DenS] at h2
    obtain ⟨q, qs1, ks, rfl, h3, ⟨k1, ks1, rfl, h4, k2, ks2, rfl, h5⟩, h6⟩ := h2
    exact h.brk k q _ _ sg _ h1 h3 (.inr (by simp)) (by omega) hc
  | .group ([t] :: s2 :: c), k, sg => by
    intro hd hw
    have hC := fun (qs : List Nat) => ppC h ([t] :: s2 :: c) (qs := qs)
    have hl := prC_len ([t] :: s2 :: c)
    simp only [DenP] at hd
    obtain ⟨qs, h1, h2⟩ := hd
    simp only [wtP] at hw
    have hA := hC qs h2 (by omega)
    have hc := h.choice k qs _ h1 hA (by rw [← prC_j]; omega)
    rw [← prC_j] at hc
    rw [prP_brk _ _ (by simp) (by simp)]
    simp only [DenC] at h2
    obtain ⟨q, qs1, ks, rfl, h3, h4, q2, qs2, ks2, rfl, h5⟩ := h2
    exact h.brk k q _ ks sg _ h1 h3 (.inl (by simp)) (by omega) hc
theorem ppT {xs : List RE} {RP RI : Nat → Bool → Bytes → Prop} {RT RC : Nat → Bytes → Prop} (h : StepsP xs RP RI RT RC) : ∀ (t : Term) {k : Nat}, DenT xs k t → wtT t ≤ 500000 → RT k (prT t)
  | .mk a p b, k => by
    intro hd hw
    have hP := fun (k : Nat) (sg : Bool) => ppP h p (k := k) sg
    have hlen := fun sg => prP_len p sg
    simp only [DenT] at hd
    obtain ⟨i, j, e1, e2, h4, h5, h6⟩ := hd
    simp only [wtT] at hw
    have hw' : wtP p ≤ 500000 := by omega
    have hI : ∀ sg, (sg = (a != 0)) → RI i sg (prP p (a != 0 || b != 0) ++ sgnB b) := by
      intro sg hsg
      by_cases hb : b = 0
      · rw [if_pos hb] at e2
        subst e2
        obtain ⟨x, hx, hx2⟩ := DenP.kind9 h4
        have := h.item i x sg _ hx (by omega) (hP i sg h4 hw')
        subst hb
        simpa [sgnB, hsg] using this
      · rw [if_neg hb] at e2
        have hb1 : (a != 0 || b != 0) = true := by simp [hb]
        rw [hb1]
        have := h.itemS i j b sg _ e2 (h5.resolve_left hb) (by have := hlen true; omega) (hP j true h4 hw')
        simpa [sgnB, hb] using this
    by_cases ha : a = 0
    · rw [if_pos ha] at e1
      subst e1
      subst ha
      have hk : ∃ x, xs[k]? = some x ∧ ¬ (x.kind = 10 ∨ x.kind = 11) := by
        by_cases hb : b = 0
        · rw [if_pos hb] at e2
          subst e2
          obtain ⟨x, hx, hx2⟩ := DenP.kind9 h4
          exact ⟨x, hx, by omega⟩
        · rw [if_neg hb] at e2
          have := sgnKind_b (h5.resolve_left hb)
          exact ⟨_, e2, by simp only [wrapE]; omega⟩
      obtain ⟨x, hx, hx2⟩ := hk
      have := h.term k x _ hx hx2 (hI false rfl)
      simpa [prT, sgnB] using this
    · rw [if_neg ha] at e1
      have h1 : (a != 0) = true := by simp [ha]
      have hl : (prP p (a != 0 || b != 0) ++ sgnB b).length ≤ 600000 := by
        have g1 := hlen (a != 0 || b != 0)
        have g2 := sgn_len b
        rw [List.length_append]; omega
      have := h.termS k i a _ e1 (h6.resolve_left ha) hl (hI true h1.symm)
      simpa [prT, sgnB, ha] using this
theorem ppS {xs : List RE} {RP RI : Nat → Bool → Bytes → Prop} {RT RC : Nat → Bytes → Prop} (h : StepsP xs RP RI RT RC) : ∀ (s : List Term) {ks : List Nat}, DenS xs ks s → wtS s ≤ 500000 → AllR RT ks (s.map prT)
  | [], ks => by
    intro hd _
    simp only [DenS] at hd
    subst hd
    exact trivial
  | t :: s, ks => by
    intro hd hw
    simp only [DenS] at hd
    obtain ⟨k, ks', rfl, h1, h2⟩ := hd
    simp only [wtS] at hw
    exact ⟨ppT h t h1 (by omega), ppS h s h2 (by omega)⟩
theorem ppC {xs : List RE} {RP RI : Nat → Bool → Bytes → Prop} {RT RC : Nat → Bytes → Prop} (h : StepsP xs RP RI RT RC) : ∀ (c : List (List Term)) {qs : List Nat}, DenC xs qs c → wtC c ≤ 500000 → AllR (SeqR xs RT) qs (c.map (fun s => s.map prT))
  | [], qs => by
    intro hd _
    simp only [DenC] at hd
    subst hd
    exact trivial
  | [s], qs => by
    intro hd hw
    simp only [DenC] at hd
    obtain ⟨q, qs', ks, rfl, h1, h2, rfl⟩ := hd
    simp only [wtC] at hw
    exact ⟨⟨ks, h1, ppS h s h2 (by omega)⟩, trivial⟩
  | s :: s2 :: c, qs => by
    intro hd hw
    have hC := fun (qs : List Nat) => ppC h (s2 :: c) (qs := qs)
    simp only [DenC] at hd
    obtain ⟨q, qs', ks, rfl, h1, h2, h3⟩ := hd
    have hw1 : wtC (s :: s2 :: c) = 3 + wtS s + wtC (s2 :: c) := by simp only [wtC]
    exact ⟨⟨ks, h1, ppS h s h2 (by omega)⟩, hC qs' (by simp only [DenC]; exact h3) (by omega)⟩
 end

theorem ppBody {xs : List RE} {RP RI : Nat → Bool → Bytes → Prop} {RT RC : Nat → Bytes → Prop} (h : StepsP xs RP RI RT RC) {k : Nat} {c : List (List Term)} (hd : DenP xs k (.group c)) (hw : wtC c ≤ 500000) : RC k (prC c) := by
  simp only [DenP] at hd
  obtain ⟨qs, h1, h2⟩ := hd
  have hl := prC_len c
  have := h.choice k qs _ h1 (ppC h c h2 hw) (by rw [← prC_j]; omega)
  rw [← prC_j] at this
  exact this
end Go.Proofs.YtjmcdklhaieldaaGreatDoor
