import Derived.Test.YtjmcdklhaieldaaGreatDoorQ5
set_option linter.all false
namespace Go.Proofs.YtjmcdklhaieldaaGreatDoor
open Go.RowKit
attribute [local go_sem ↓] Go.wp_at_zero Go.wp_at_succ

theorem Tryz.infoString : (Tryz.prog.info? 9).map (fun i => (i.zero, i.size, i.bytes)) = some (some (.string ⟨#[]⟩), 1, 16) := by kernel_rfl

def strC (b : Thk.Bytes) : Value := .string ⟨b.toArray⟩

theorem make_strs (n : Nat) (hn : n ≤ 1000000) (w : World) : ∃ cur : Array Value, cur.size = n * 1 ∧ (Instr.makeSlice 55 (.int .i64 0) (.int .i64 n)).run Tryz.prog w = .ok (.slice (some ⟨w.heap.size, 0, none⟩) 0 n) (w.alloc (.cells cur 9)) := by
  obtain ⟨i0, hi, hz0, hz1, hz2⟩ := info_parts Tryz.infoString
  refine ⟨madeCells (Value.string ⟨#[]⟩).cells (((n : Nat) : Int).toNat * i0.size), ?_, ?_⟩
  · rw [size_madeCells, hz1]; simp
  · have h := run_make (P := Tryz.prog) w 55 9 i0 _ Tryz.underlying55 hi hz0 .i64 .i64 0 (n : Int) (by omega) (by omega) (by rw [hz2]; omega) (by omega)
    simpa using h

theorem below_grown {W wr w1 w6 : World} {O : Obj} {v : Value} {e : TypeId} {sz n : Nat} {xs : List Value} (hB : Below W.heap.size W wr) (hown : w1.ownsRow W.heap.size e sz v n xs) (h1 : Below wr.heap.size wr w1) (hg : (w1.alloc O).grownBy w6 v.ownBlock) : Below W.heap.size W w6 := by
  have hs := hB.size
  have hs1 := h1.size
  have hs2 := hg.size
  simp at hs2
  refine ⟨hg.os.trans (h1.os.trans hB.os), hg.tape.trans (h1.tape.trans hB.tape), hg.output.trans (h1.output.trans hB.output), by omega, fun k hk => ?_⟩
  rw [hg.block k (by simp; omega) (fun e => by have := (hown.lt k e.symm).1; omega), heap_alloc_old _ _ (by omega), h1.block k (by omega)]
  exact hB.block k hk

theorem joinTail_cons (sep y : List UInt8) (r : List (List UInt8)) : Lib.joinTail sep (y :: r) = sep ++ y ++ Lib.joinTail sep r := by
  simp [Lib.joinTail]
theorem jS_join : ∀ (x : Thk.Bytes) (r : List Thk.Bytes), jS (x :: r) = x ++ Lib.joinTail [32] r
  | x, [] => by simp [jS, Lib.joinTail]
  | x, y :: r => by
    have := jS_join y r
    simp only [jS]
    rw [this, joinTail_cons]
    simp
theorem jC_join : ∀ (x : List Thk.Bytes) (r : List (List Thk.Bytes)), jC (x :: r) = jSq x ++ Lib.joinTail [32, 47, 32] (r.map jSq)
  | x, [] => by simp [jC, Lib.joinTail]
  | x, y :: r => by
    have := jC_join y r
    simp only [jC, List.map_cons]
    rw [this, joinTail_cons]
    simp

theorem prSq_join (s : List Thk.Term) (h : s ≠ []) : Lib.join (s.map Thk.prT) [32] = Thk.prSq s := by
  cases s with
  | nil => exact absurd rfl h
  | cons t s => rw [prSq_j, List.map_cons, Lib.join_cons]; simp only [jSq]; rw [jS_join]
theorem prC_join (c : List (List Thk.Term)) (h : c ≠ []) : Lib.join (c.map Thk.prSq) [32, 47, 32] = Thk.prC c := by
  cases c with
  | nil => exact absurd rfl h
  | cons s c =>
    rw [prC_j, List.map_cons, List.map_cons, Lib.join_cons, jC_join, prSq_j, List.map_map]
    congr 3
    funext x
    simp [prSq_j]

/-- Texts in a row of strings, joined. -/
theorem join_strs {w : World} {B : Nat} {va : Option Addr} {n cap : Nat} {L : List Thk.Bytes} {sep : Thk.Bytes} {R : Thk.Bytes} (h : w.ownsRow B 9 1 (.slice va n cap) n (L.map strC)) (hL : L.length = n) (hn : 0 < n) (hn2 : n ≤ 1000000) (hR : Lib.join L sep = R) (hl : R.length ≤ 1000000) :
    Calls Tryz.prog 89 #[.slice va n cap, .string ⟨sep.toArray⟩] w fun e w' => e = .returned (.string ⟨R.toArray⟩) ∧ Below w.heap.size w w' := by
  obtain ⟨g, rfl, hcs, hgl⟩ := own_at h hn
  have hcap : n ≤ cap := by
    rcases h.2 with ⟨_, h2⟩ | ⟨g, cap, cur, hv, _, _, h1, h2, _⟩
    · omega
    · cases hv; exact h1
  have hx : (L.map (fun b => ByteArray.mk b.toArray)).map (·.data.toList) = L := by
    rw [List.map_map]
    conv => rhs; rw [← List.map_id L]
    apply List.map_congr_left
    intro a _
    simp
  have hj := bjoin g 0 cap (L.map (fun b => ByteArray.mk b.toArray)) ⟨sep.toArray⟩ w (by
    intro j x hjx
    rw [List.getElem?_map] at hjx
    have hj : j < L.length := by
      rcases Nat.lt_or_ge j L.length with h | h
      · exact h
      · rw [List.getElem?_eq_none h] at hjx; cases hjx
    rw [List.getElem?_eq_getElem hj] at hjx
    simp only [Option.map_some, Option.some.injEq] at hjx
    rw [Nat.zero_add, hcs j (by omega), List.getElem?_map, List.getElem?_eq_getElem hj]
    simp only [Option.map_some, Option.some.injEq]
    rw [← hjx]; rfl) hgl (by rw [List.length_map]; omega) (by rw [List.length_map]; omega) (by
      rw [hx, show (ByteArray.mk sep.toArray).data.toList = sep from by simp, hR]; omega)
  rw [hx, show (ByteArray.mk sep.toArray).data.toList = sep from by simp, hR, List.length_map, hL] at hj
  exact hj

def PlS (k : Nat) : Prop := ∀ (w : World) (A : Nat → Prop) (s : Thk.Seq) (u : Value), RSeq w A s u → depS s ≤ k → Thk.wtS s ≤ 500000 →
  Calls Tryz.prog 88 #[u] w fun e w' => e = .returned (.string ⟨(Thk.prSq s).toArray⟩) ∧ Below w.heap.size w w'

theorem wtS_get : ∀ (s : List Thk.Term) (j : Nat) (hj : j < s.length), Thk.wtT s[j] ≤ Thk.wtS s
  | [], _, hj => by simp at hj
  | t :: s, 0, _ => by simp only [Thk.wtS, List.getElem_cons_zero]; omega
  | t :: s, j + 1, hj => by simp only [Thk.wtS, List.getElem_cons_succ]; have := wtS_get s j (by simpa using hj); omega
theorem wtS_len : ∀ (s : List Thk.Term), s.length ≤ Thk.wtS s
  | [] => by simp
  | t :: s => by have := wtS_len s; simp only [Thk.wtS, List.length_cons]; omega
theorem prSq_len (s : List Thk.Term) : (Thk.prSq s).length ≤ Thk.wtS s := by
  cases s with
  | nil => simp [Thk.prSq, Thk.wtS]
  | cons t s => have := Thk.prS_len (t :: s); simpa only [Thk.prSq] using this
theorem wtC_get : ∀ (c : List (List Thk.Term)) (j : Nat) (hj : j < c.length), Thk.wtS c[j] ≤ Thk.wtC c
  | [], _, hj => by simp at hj
  | [s], j, hj => by
    have : j = 0 := by simp at hj; exact hj
    subst this
    simp only [Thk.wtC, List.getElem_cons_zero]; omega
  | s :: s2 :: c, 0, _ => by simp only [Thk.wtC, List.getElem_cons_zero]; omega
  | s :: s2 :: c, j + 1, hj => by
    have := wtC_get (s2 :: c) j (by simpa using hj)
    simp only [Thk.wtC, List.getElem_cons_succ]; omega
theorem wtC_len : ∀ (c : List (List Thk.Term)), c.length ≤ Thk.wtC c
  | [] => by simp
  | [s] => by simp only [Thk.wtC, List.length_singleton]; omega
  | s :: s2 :: c => by have := wtC_len (s2 :: c); simp only [Thk.wtC, List.length_cons] at *; omega

set_option maxHeartbeats 16000000 in
set_option maxRecDepth 100000 in
theorem sequenceText_step (k : Nat) (hT : PlT k) : PlS k := by
  intro w A s u hp hk hw
  obtain ⟨vs, ⟨hrow, hA⟩, hts⟩ := hp
  obtain ⟨ua, uc, rfl⟩ := own_form hrow
  have hsl := wtS_len s
  by_cases hs0 : s = []
  · subst hs0
    simp only [List.length_nil, Thk.prSq]
    clear hrow hA hts hk hw hT hsl
    go_enter Tryz.func88, Tryz.ntmps88
    go_wp2_with fail
    go_ret
    exact ⟨rfl, Below.refl _ _⟩
  · have hpos : 0 < s.length := List.length_pos_iff.2 hs0
    have HVL : Hid (s.length = vs.length) := RTerms.length hts
    obtain ⟨i0, hi0, hz0, hz1, hz2⟩ := info_parts Tryz.infoString
    obtain ⟨cur, hcs0, hmk⟩ := make_strs s.length (by omega) w
    obtain ⟨g, rfl, hcs, hgl⟩ := own_at hrow hpos
    have HM0 : Hid (Below w.heap.size w (w.alloc (.cells cur 9)) ∧ (w.alloc (.cells cur 9)).ownsRow w.heap.size 9 1 (.slice (some ⟨w.heap.size, 0, none⟩) 0 s.length) 0 (((s.map Thk.prT).take 0).map strC)) := ⟨below_alloc _ _, World.ownsRow_made w cur s.length (Nat.le_refl _) (by unfold maxLen; omega) hcs0⟩
    have HJ := hideP (prSq_join s hs0)
    have HLEN := hideP (Nat.le_trans (prSq_len s) hw)
    have h0 : ¬ (s.length : Int) = 0 := by omega
    have h0b : ((s.length : Int) == 0) = false := by simpa using h0
    have hn1 : s.length ≤ 500000 := by omega
    have HTS := hideP hts
    have HCS := hideP hcs
    have HK := hideP hk
    have HW := hideP hw
    clear hrow hA hts hk hw hsl hs0 hcs0 hcs
    go_enter Tryz.func88, Tryz.ntmps88
    go_wp2_with fail
    go_loopg [3, 14] s.length (fun m vo vi wr => ∃ i : Nat, m = s.length - i ∧ vi = .int .i64 i ∧ i ≤ s.length ∧ Hid (Below w.heap.size w wr ∧ wr.ownsRow w.heap.size 9 1 vo i (((s.map Thk.prT).take i).map strC)))
    case atStart => exact ⟨0, by omega, rfl, by omega, HM0⟩
    case round =>
      obtain ⟨i, rfl, rfl, hi, HI⟩ := hrel
      have hsr := HI.out.1.size
      obtain ⟨oa, oc, hvo⟩ := own_form HI.out.2
      subst hvo
      by_cases hlt : i < s.length
      · have hlt' : (i : Int) < s.length := by omega
        have hjv : i < vs.length := by have := HVL.out; omega
        obtain ⟨t0, t1, t2⟩ := termC_get s vs HVL.out i hlt
        have c0 : wr.cell? ⟨g, i * 3, none⟩ = some (.int .u8 s[i].ahead.toNat) := by rw [HI.out.1.cell (p := ⟨g, _, none⟩) hgl, HCS.out _ (by omega)]; exact t0
        have c1 : wr.cell? ⟨g, i * 3 + 1, none⟩ = some (vs[i]'hjv) := by rw [HI.out.1.cell (p := ⟨g, _, none⟩) hgl, HCS.out _ (by omega)]; exact t1
        have c2 : wr.cell? ⟨g, i * 3 + 2, none⟩ = some (.int .u8 s[i].behind.toNat) := by rw [HI.out.1.cell (p := ⟨g, _, none⟩) hgl, HCS.out _ (by omega)]; exact t2
        have htr := RTerms.get HTS.out i hlt hjv
        have hpc := fun O => hT (wr.alloc O) A s[i] (vs[i]'hjv) (RTerm.kept (sm_below (HI.out.1.alloc hsr O)) _ _ htr) (Nat.le_trans (depS_get s i hlt) HK.out) (Nat.le_trans (wtS_get s i hlt) HW.out)
        obtain ⟨tt, xx, hvx⟩ : ∃ t x, vs[i]'hjv = .iface t x := by
          cases htt : s[i] with
          | mk a p b => rw [htt] at htr; simp only [RTerm] at htr; exact RPiece.oneCell htr
        rw [hvx] at c1
        simp only [hvx, termV] at hpc
        have hsn : ((s.map Thk.prT).take (i + 1)).map strC = ((s.map Thk.prT).take i).map strC ++ [strC (Thk.prT s[i])] := by
          rw [List.take_succ_eq_append_getElem (by simpa using hlt), List.map_append]; simp
        have HSN := hideP hsn
        generalize Thk.prT s[i] = T at *
        generalize s[i].ahead = ah at *
        generalize s[i].behind = be at *
        clear htr t0 t1 t2 hvx hsn
        go_wp2_with fail
        refine (hpc _).mono ?_
        rintro _ w1 ⟨rfl, hb1⟩
        have hz1' := hb1.size
        simp at hz1'
        have HB1 := hideP ((below_alloc wr _).trans (hb1.mono (by simp)))
        have hown1 := own_below HI.out.2 HB1.out
        clear hpc hb1
        go_wp2_with (first | (at_builtin; refine wpList_append_own_at _ rfl _ _ 55 rfl (w.heap.size) 9 i0 _ 1 16 Tryz.underlying55 hi0 hz0 hz1 hz2 rfl (by decide) _ _ _ rfl (hown1.alloc _) ⟨w1.heap.size, 0, none⟩ 1 1 [.string ⟨T.toArray⟩] rfl rfl ?c1 ?c2 ?c3 ?c4 ?c5 ?_))
        case c1 => exact cell_one_new _ _ _
        case c2 => intro u hu; simp at hu; subst hu; rfl
        case c3 => unfold maxLen; omega
        case c4 => omega
        case c5 => simp; omega
        intro v' w5 hown' hgrow _ hat
        obtain ⟨va, vc, hv⟩ := own_form hown'
        subst hv
        have HN : Hid (Below w.heap.size w w5 ∧ w5.ownsRow w.heap.size 9 1 (.slice va (i + 1) vc) (i + 1) (((s.map Thk.prT).take (i + 1)).map strC)) := by
          refine ⟨below_grown HI.out.1 hown1 HB1.out hgrow, ?_⟩
          rw [HSN.out, List.map_take, List.map_map]
          exact hown'
        clear hown' hgrow hat hown1
        go_wp2_with fail
        go_roundg (s.length - (i + 1))
        case measure => omega
        case rel => exact ⟨i + 1, rfl, by go_num, by omega, HN⟩
      · have hlt' : ¬ (i : Int) < s.length := by omega
        have hie : i = s.length := by omega
        subst hie
        have htk : (s.map Thk.prT).take s.length = s.map Thk.prT := List.take_of_length_le (by simp)
        have hrw := HI.out.2
        rw [htk] at hrw
        have hjn := join_strs hrw (by simp) hpos (by omega) HJ.out (by have := HLEN.out; omega)
        have HJN := hideP hjn
        clear htk hrw hjn
        go_wp2_with fail
        refine HJN.out.mono ?_
        rintro _ w6 ⟨rfl, hb6⟩
        have HB6 := hideP (HI.out.1.trans (hb6.mono hsr))
        clear hb6
        go_wp2_with fail
        go_ret
        exact ⟨rfl, HB6.out⟩
end Go.Proofs.YtjmcdklhaieldaaGreatDoor
namespace Go.Proofs.YtjmcdklhaieldaaGreatDoor
open Go.RowKit
attribute [local go_sem ↓] Go.wp_at_zero Go.wp_at_succ

set_option maxHeartbeats 16000000 in
set_option maxRecDepth 100000 in
theorem choiceText_step (k : Nat) (hS : PlS k) : PlC k := by
  intro w A c u hp hk hw
  obtain ⟨us, ⟨hrow, hA⟩, hts⟩ := hp
  obtain ⟨ua, uc, rfl⟩ := own_form hrow
  have hsl := wtC_len c
  have hs0 : c ≠ [] := by
    rintro rfl
    simp only [Thk.wtC] at hw
    omega
  have hpos : 0 < c.length := List.length_pos_iff.2 hs0
  have HVL : Hid (c.length = us.length) := RSeqs.length hts
  obtain ⟨i0, hi0, hz0, hz1, hz2⟩ := info_parts Tryz.infoString
  obtain ⟨cur, hcs0, hmk⟩ := make_strs c.length (by omega) w
  obtain ⟨g, rfl, hcs, hgl⟩ := own_at hrow hpos
  have HM0 : Hid (Below w.heap.size w (w.alloc (.cells cur 9)) ∧ (w.alloc (.cells cur 9)).ownsRow w.heap.size 9 1 (.slice (some ⟨w.heap.size, 0, none⟩) 0 c.length) 0 (((c.map Thk.prSq).take 0).map strC)) := ⟨below_alloc _ _, World.ownsRow_made w cur c.length (Nat.le_refl _) (by unfold maxLen; omega) hcs0⟩
  have HJ := hideP (prC_join c hs0)
  have HLEN := hideP (Nat.le_trans (Thk.prC_len c) hw)
  have hn1 : c.length ≤ 500000 := by omega
  have HTS := hideP hts
  have HCS := hideP hcs
  have HK := hideP hk
  have HW := hideP hw
  clear hrow hA hts hk hw hsl hs0 hcs0 hcs
  go_enter Tryz.func56, Tryz.ntmps56
  go_wp2_with fail
  go_loopg [3, 11] c.length (fun m vo vi wr => ∃ i : Nat, m = c.length - i ∧ vi = .int .i64 i ∧ i ≤ c.length ∧ Hid (Below w.heap.size w wr ∧ wr.ownsRow w.heap.size 9 1 vo i (((c.map Thk.prSq).take i).map strC)))
  case atStart => exact ⟨0, by omega, rfl, by omega, HM0⟩
  case round =>
    obtain ⟨i, rfl, rfl, hi, HI⟩ := hrel
    have hsr := HI.out.1.size
    obtain ⟨oa, oc, hvo⟩ := own_form HI.out.2
    subst hvo
    by_cases hlt : i < c.length
    · have hlt' : (i : Int) < c.length := by omega
      have hjv : i < us.length := by have := HVL.out; omega
      have c0 : wr.cell? ⟨g, i, none⟩ = some (us[i]'hjv) := by rw [HI.out.1.cell (p := ⟨g, _, none⟩) hgl, HCS.out _ (by omega)]; exact List.getElem?_eq_getElem hjv
      have htr := RSeqs.get HTS.out i hlt hjv
      have hpc := hS wr A c[i] (us[i]'hjv) (htr.kept (sm_below HI.out.1)) (Nat.le_trans (depC_get c i hlt) HK.out) (Nat.le_trans (wtC_get c i hlt) HW.out)
      obtain ⟨tt, xx, hvx⟩ : ∃ t x, us[i]'hjv = .slice t c[i].length x := by
        obtain ⟨_, hr, _⟩ := htr
        exact own_form hr.1
      rw [hvx] at c0 hpc
      have hsn : ((c.map Thk.prSq).take (i + 1)).map strC = ((c.map Thk.prSq).take i).map strC ++ [strC (Thk.prSq c[i])] := by
        rw [List.take_succ_eq_append_getElem (by simpa using hlt), List.map_append]; simp
      have HSN := hideP hsn
      generalize Thk.prSq c[i] = T at *
      generalize c[i].length = cl at *
      clear htr hvx hsn
      go_wp2_with fail
      refine hpc.mono ?_
      rintro _ w1 ⟨rfl, hb1⟩
      have hz1' := hb1.size
      have HB1 := hideP hb1
      have hown1 := own_below HI.out.2 HB1.out
      clear hpc hb1
      go_wp2_with (first | (at_builtin; refine wpList_append_own_at _ rfl _ _ 55 rfl (w.heap.size) 9 i0 _ 1 16 Tryz.underlying55 hi0 hz0 hz1 hz2 rfl (by decide) _ _ _ rfl (hown1.alloc _) ⟨w1.heap.size, 0, none⟩ 1 1 [.string ⟨T.toArray⟩] rfl rfl ?c1 ?c2 ?c3 ?c4 ?c5 ?_))
      case c1 => exact cell_one_new _ _ _
      case c2 => intro u hu; simp at hu; subst hu; rfl
      case c3 => unfold maxLen; omega
      case c4 => omega
      case c5 => simp; omega
      intro v' w5 hown' hgrow _ hat
      obtain ⟨va, vc, hv⟩ := own_form hown'
      subst hv
      have HN : Hid (Below w.heap.size w w5 ∧ w5.ownsRow w.heap.size 9 1 (.slice va (i + 1) vc) (i + 1) (((c.map Thk.prSq).take (i + 1)).map strC)) := by
        refine ⟨below_grown HI.out.1 hown1 HB1.out hgrow, ?_⟩
        rw [HSN.out, List.map_take, List.map_map]
        exact hown'
      clear hown' hgrow hat hown1
      go_wp2_with fail
      go_roundg (c.length - (i + 1))
      case measure => omega
      case rel => exact ⟨i + 1, rfl, by go_num, by omega, HN⟩
    · have hlt' : ¬ (i : Int) < c.length := by omega
      have hie : i = c.length := by omega
      subst hie
      have htk : (c.map Thk.prSq).take c.length = c.map Thk.prSq := List.take_of_length_le (by simp)
      have hrw := HI.out.2
      rw [htk] at hrw
      have hjn := join_strs hrw (by simp) hpos (by omega) HJ.out (by have := HLEN.out; omega)
      have HJN := hideP hjn
      clear htk hrw hjn
      go_wp2_with fail
      refine HJN.out.mono ?_
      rintro _ w6 ⟨rfl, hb6⟩
      have HB6 := hideP (HI.out.1.trans (hb6.mono hsr))
      clear hb6
      go_wp2_with fail
      go_ret
      exact ⟨rfl, HB6.out⟩

theorem plain_all (k : Nat) : PlC k ∧ PlG k := by
  induction k using Nat.strongRecOn with
  | ind k ih =>
    have hP : PlP k := pieceText_step k (fun k' h => (ih k' h).2)
    have hT : PlT k := termText_step k hP
    have hC : PlC k := choiceText_step k (sequenceText_step k hT)
    exact ⟨hC, groupText_step k hP hT hC⟩

theorem choiceText_any (w : World) (A : Nat → Prop) (c : Thk.Choice) (u : Value) (h : RChoice w A c u) (hw : Thk.wtC c ≤ 500000) :
    Calls Tryz.prog 56 #[u] w fun e w' => e = .returned (.string ⟨(Thk.prC c).toArray⟩) ∧ Below w.heap.size w w' :=
  (plain_all (depC c)).1 w A c u h (Nat.le_refl _) hw
end Go.Proofs.YtjmcdklhaieldaaGreatDoor
