import Derived.Test.YtkbepcjgadkfaaaGreatDoorW8
set_option linter.all false
namespace Go.Proofs.YtkbepcjgadkfaaaGreatDoor
open Go.RowKit

theorem Tryz.infoTok : (Tryz.prog.info? 191).map (fun i => (i.zero, i.size, i.bytes)) = some (some (.agg #[.int .u8 0, .int .i64 0, .string ⟨#[]⟩, .slice none 0 0]), 4, 56) := by kernel_rfl

theorem spansL_le (l : List UInt8) : (Thk.spansL l).2 ≤ l.length := by
  generalize hn : l.length = N
  induction N using Nat.strongRecOn generalizing l with
  | ind N ih =>
    cases hc : Thk.spanL l with
    | none => rw [spansL_none hc]; simp
    | some p =>
      obtain ⟨c, n⟩ := p
      have := spanL_le hc
      rw [spansL_some hc]
      have hd : (l.drop n).length = l.length - n := List.length_drop
      have := ih (N - n) (by omega) (l.drop n) (by omega)
      simp
      omega

theorem closesL_lt {l : List UInt8} {n : Nat} {m : UInt8} {k : Nat} (h : Thk.closesL l n m k = true) : n < l.length := by
  unfold Thk.closesL at h
  simp only [Bool.and_eq_true, beq_iff_eq] at h
  exact (List.getElem?_eq_some_iff.1 h.1.1).1

theorem tokL_size (l : List UInt8) (h : (Thk.tokL l).kind.last = false) : 1 ≤ (Thk.tokL l).size ∧ (Thk.tokL l).size ≤ l.length := by
  cases l with
  | nil => simp [Thk.tokL, Thk.TK.last] at h
  | cons c t =>
    simp only [Thk.tokL] at h ⊢
    split
    · rename_i h1
      rw [if_pos h1] at h
      unfold Thk.nameT at h ⊢
      split
      · rename_i h2; rw [if_pos h2] at h; cases h
      · have := letN_le (c :: t)
        have : Thk.letN (c :: t) = Thk.letN t + 1 := by simp [Thk.letN, h1]
        simp only []; omega
    · rename_i h1
      rw [if_neg h1] at h
      split
      · rename_i h2
        simp only [List.length_cons]
        cases t with
        | nil => simp at h2
        | cons d t => simp
      · rename_i h2
        rw [if_neg h2] at h
        split
        · rename_i h3
          rw [if_pos h3] at h
          unfold Thk.litT at h ⊢
          split
          · rename_i h4
            have := closesL_lt h4
            simp only [List.length_cons]; omega
          · rename_i h4; rw [if_neg h4] at h; cases h
        · rename_i h3
          rw [if_neg h3] at h
          split
          · rename_i h4
            rw [if_pos h4] at h
            unfold Thk.clsT at h ⊢
            split
            · rename_i h5
              have := closesL_lt h5
              simp only [List.length_cons]; omega
            · rename_i h5; rw [if_neg h5] at h; cases h
          · rename_i h4
            rw [if_neg h4] at h
            split
            · simp
            · rename_i h5; rw [if_neg h5] at h; cases h

/-- The token behind the blanks, with its place. -/
def tokAt (pos : Nat) (l : List UInt8) : Thk.Tok := { Thk.tokL (l.drop (Thk.blk false l)) with place := pos + Thk.blk false l }

theorem toksF_succ (f pos : Nat) (l : List UInt8) : Thk.toksF (f + 1) pos l = tokAt pos l ::
    (if (tokAt pos l).kind.last then [] else Thk.toksF f ((tokAt pos l).place + (tokAt pos l).size) (l.drop (Thk.blk false l + (tokAt pos l).size))) := by
  simp only [Thk.toksF, tokAt, List.drop_drop]
  rfl

theorem toksF_more : ∀ (f g pos : Nat) (l : List UInt8), l.length < f → l.length < g → Thk.toksF f pos l = Thk.toksF g pos l
  | 0, _, _, _, h, _ => by omega
  | _ + 1, 0, _, _, _, h => by omega
  | f + 1, g + 1, pos, l, hf, hg => by
    rw [toksF_succ, toksF_succ]
    cases hk : (tokAt pos l).kind.last with
    | true => rfl
    | false =>
      have hs := tokL_size (l.drop (Thk.blk false l)) hk
      have hb := blk_le false l
      rw [List.length_drop] at hs
      have hd : (l.drop (Thk.blk false l + (tokAt pos l).size)).length = l.length - (Thk.blk false l + (tokAt pos l).size) := List.length_drop
      have e : (tokAt pos l).size = (Thk.tokL (l.drop (Thk.blk false l))).size := rfl
      simp only [Bool.false_eq_true, if_false]
      rw [toksF_more f g _ _ (by omega) (by omega)]

def TL (pos : Nat) (l : List UInt8) : List Thk.Tok := Thk.toksF (l.length + 1) pos l

theorem TL_eq (pos : Nat) (l : List UInt8) : TL pos l = tokAt pos l :: (if (tokAt pos l).kind.last then [] else TL ((tokAt pos l).place + (tokAt pos l).size) (l.drop (Thk.blk false l + (tokAt pos l).size))) := by
  unfold TL
  rw [toksF_succ]
  cases hk : (tokAt pos l).kind.last with
  | true => rfl
  | false =>
    have hs := tokL_size (l.drop (Thk.blk false l)) hk
    have hb := blk_le false l
    rw [List.length_drop] at hs
    have hd : (l.drop (Thk.blk false l + (tokAt pos l).size)).length = l.length - (Thk.blk false l + (tokAt pos l).size) := List.length_drop
    have e : (tokAt pos l).size = (Thk.tokL (l.drop (Thk.blk false l))).size := rfl
    simp only [Bool.false_eq_true, if_false]
    rw [toksF_more l.length _ _ _ (by omega) (Nat.lt_succ_self _)]

theorem toks_TL (l : List UInt8) : Thk.toks l = TL 0 l := rfl

def tokC (p : Thk.Tok × Value) : List Value := [.int .u8 (kindI p.1.kind), .int .i64 p.1.place, .string ⟨p.1.text.toArray⟩, p.2]

theorem tokC_len (ps : List (Thk.Tok × Value)) : (ps.flatMap tokC).length = ps.length * 4 := by
  induction ps with
  | nil => rfl
  | cons x xs ih => simp [tokC, ih] at *; omega

/-- The slice v holds the tokens (each with its spans' slice). -/
def Toks (w : World) (B : Nat) (v : Value) (ps : List (Thk.Tok × Value)) : Prop :=
  w.ownsRow B 191 4 v ps.length (ps.flatMap tokC) ∧ ∀ p ∈ ps, Spans w B p.2 p.1.spans

theorem Toks.below {w w' : World} {B : Nat} {v : Value} {ps : List (Thk.Tok × Value)} (h : Toks w B v ps) (hb : Below w.heap.size w w') : Toks w' B v ps :=
  ⟨own_below h.1 hb, fun p hp => own_below (h.2 p hp) hb⟩

/-- What the loop of Cut keeps. -/
def CutRel (s : ByteArray) (B : Nat) (w0 : World) (j : Nat) (ps : List (Thk.Tok × Value)) (v : Value) (wr : World) : Prop :=
  j ≤ s.size ∧ ps.length ≤ j ∧ Toks wr B v ps ∧ Below B w0 wr ∧ B ≤ wr.heap.size ∧ (∀ p ∈ ps, p.1.kind.last = false) ∧
  Thk.toks s.data.toList = ps.map (·.1) ++ TL j (s.data.toList.drop j)


theorem tokAt_drop (s : ByteArray) (j : Nat) : tokAt j (s.data.toList.drop j) = { Thk.tokL (s.data.toList.drop (j + Thk.blk false (s.data.toList.drop j))) with place := j + Thk.blk false (s.data.toList.drop j) } := by
  unfold tokAt; rw [List.drop_drop]

theorem cell_four_new (w : World) (x y z u : Value) (t : TypeId) : ∀ j q, [x, y, z, u][j]? = some q → (w.alloc (.cells #[x, y, z, u] t)).cell? ((⟨w.heap.size, 0, none⟩ : Addr).add j) = some q := by
  intro j q hj
  match j, hj with
  | 0, hj => simp at hj; subst hj; simp [Addr.add]
  | 1, hj => simp at hj; subst hj; simp [Addr.add]
  | 2, hj => simp at hj; subst hj; simp [Addr.add]
  | 3, hj => simp at hj; subst hj; simp [Addr.add]

theorem nameT_kind (l : List UInt8) : (Thk.nameT l).kind = .bad ∨ (Thk.nameT l).kind = .name := by unfold Thk.nameT; split <;> simp [Thk.badT]
theorem litT_kind (l : List UInt8) : (Thk.litT l).kind = .bad ∨ (Thk.litT l).kind = .lit := by unfold Thk.litT; split <;> simp [Thk.badT]
theorem clsT_kind (l : List UInt8) : (Thk.clsT l).kind = .bad ∨ (Thk.clsT l).kind = .cls := by unfold Thk.clsT; split <;> simp [Thk.badT]

/-- A sign that a token may be. -/
def okKind : Thk.TK → Prop
  | .sign c => Thk.signB c = true
  | _ => True

theorem tokL_ok (l : List UInt8) : okKind (Thk.tokL l).kind := by
  cases l with
  | nil => simp [Thk.tokL, okKind]
  | cons c t =>
    simp only [Thk.tokL]
    split
    · rcases nameT_kind (c :: t) with h | h <;> simp [h, okKind]
    · split
      · simp [okKind]
      · split
        · rcases litT_kind t with h | h <;> simp [h, okKind]
        · split
          · rcases clsT_kind t with h | h <;> simp [h, okKind]
          · split
            · assumption
            · simp [Thk.badT, okKind]

theorem signB_ge {c : UInt8} (h : Thk.signB c = true) : 33 ≤ c.toNat := by
  simp [Thk.signB] at h
  rcases h with rfl | rfl | rfl | rfl | rfl | rfl | rfl | rfl | rfl <;> decide

theorem kindI_last {k : Thk.TK} (hk : okKind k) : (k.last = true ∧ (kindI k = 0 ∨ kindI k = 1)) ∨ (k.last = false ∧ (kindI k == 0) = false ∧ (kindI k == 1) = false) := by
  cases k with
  | fin => left; simp [Thk.TK.last, kindI]
  | bad => left; simp [Thk.TK.last, kindI]
  | sign c =>
    right
    have := signB_ge hk
    refine ⟨rfl, beq_eq_false_iff_ne.2 ?_, beq_eq_false_iff_ne.2 ?_⟩ <;> simp only [kindI] <;> omega
  | _ => right; simp [Thk.TK.last, kindI]

/-- One token more. -/
theorem CutRel.push {s : ByteArray} {B : Nat} {w0 : World} {j : Nat} {ps : List (Thk.Tok × Value)} {v : Value} {wr : World} (h : CutRel s B w0 j ps v wr)
    {T : Thk.Tok} {sv : Value} {w1 w2 : World} {v' : Value} (hb : Below wr.heap.size wr w1) (hsv : Spans w1 wr.heap.size sv T.spans) {O1 O2 : Obj}
    (ho : w2.ownsRow B 191 4 v' (ps.length + 1) (ps.flatMap tokC ++ tokC (T, sv))) (hg : ((w1.alloc O1).alloc O2).grownBy w2 v.ownBlock) :
    Toks w2 B v' (ps ++ [(T, sv)]) ∧ Below B w0 w2 ∧ B ≤ w2.heap.size := by
  obtain ⟨h1, h2, h3, h4, h5, h6⟩ := h
  have hs := hg.size
  have hs1 := hb.size
  simp at hs
  have hK : ∀ {e : TypeId} {sz : Nat} {u : Value} {n : Nat} {xs : List Value}, w1.ownsRow B e sz u n xs → e ≠ 191 → w2.ownsRow B e sz u n xs := by
    intro e sz u n xs hu he
    refine ((hu.alloc O1).alloc O2).kept hg ?_
    rcases hu.2 with ⟨rfl, _⟩ | ⟨g, cap, cur, rfl, _, hc, _⟩
    · left; rfl
    · right
      intro hx
      rcases (own_below h3.1 hb).2 with ⟨rfl, _⟩ | ⟨g', cap', cur', rfl, _, hc', _⟩
      · simp [Value.ownBlock] at hx
      · simp [Value.ownBlock] at hx
        subst hx
        rw [hc] at hc'
        simp at hc'
        exact he hc'.2
  refine ⟨⟨by simpa using ho, ?_⟩, ?_, by omega⟩
  · intro p hp
    rcases List.mem_append.1 hp with hp | hp
    · exact hK (own_below (h3.2 p hp) hb) (by decide)
    · simp at hp; subst hp
      exact hK (own_mono hsv h5) (by decide)
  · exact (((h4.trans (hb.mono h5)).alloc (by omega) O1).alloc (by simp; omega) O2).grown hg (by simp; omega) (fun g hg' => (h3.1.lt g hg').1)

set_option maxHeartbeats 2000000 in
set_option maxRecDepth 100000 in
theorem cut_any (s : ByteArray) (w : World) (hs : s.size ≤ 2000) :
    Calls Tryz.prog 58 #[.string s] w fun e w' => ∃ a c ps, e = .returned (.slice (some a) (Thk.toks s.data.toList).length c) ∧ Below w.heap.size w w' ∧
      ps.map (·.1) = Thk.toks s.data.toList ∧ Toks w' w.heap.size (.slice (some a) (Thk.toks s.data.toList).length c) ps := by
  obtain ⟨i0, hi, hz0, hz1, hz2⟩ := info_parts Tryz.infoTok
  go_enter Tryz.func58, Tryz.ntmps58
  go_wp2_with fail
  go_loopw [3, 4] (fun v i wr => ∃ (j : Nat) (ps : List (Thk.Tok × Value)), i = .int .i64 j ∧ CutRel s w.heap.size w j ps v wr) (fun _ i _ => s.size - (intOf i).toNat)
  case atStart =>
    refine ⟨0, [], rfl, by omega, by simp, ⟨World.ownsRow_nil _ _ _ _, by simp⟩, Below.refl _ _, Nat.le_refl _, by simp, ?_⟩
    rw [toks_TL]; simp
  case round =>
    obtain ⟨j, ps, rfl, hR⟩ := hrel
    have hj := hR.1
    have hbl := blk_le false (s.data.toList.drop j)
    rw [List.length_drop, show s.data.toList.length = s.size from rfl] at hbl
    obtain ⟨T, hT⟩ : ∃ T, T = Thk.tokL (s.data.toList.drop (j + Thk.blk false (s.data.toList.drop j))) := ⟨_, rfl⟩
    obtain ⟨r, hr⟩ : ∃ r, r = j + Thk.blk false (s.data.toList.drop j) := ⟨_, rfl⟩
    have hrs : r ≤ s.size := by omega
    have hsk := fun w => skipBlanks_of s j r w hj hs hr.symm
    have htk := fun w => tokenAt_any s r w hs hrs
    rw [← hr] at hT
    rw [← hT] at htk
    have HT : Hid (tokAt j (s.data.toList.drop j) = { T with place := r }) := by rw [tokAt_drop, ← hr, ← hT]; rfl
    have HR : Hid (r = j + Thk.blk false (s.data.toList.drop j)) := hr
    have HTT : Hid (T = Thk.tokL (s.data.toList.drop r)) := hT
    clear hr hT hbl
    have hown := hR.2.2.1.1
    have hxl := hR.2.1
    have hB := hR.2.2.2.2.1
    go_wp2_with (first | (go_at_call 89; refine (hsk _).mono ?_; rintro e w' ⟨rfl, rfl⟩) | (go_at_call 90; refine (htk _).mono ?_; rintro e w1 ⟨v, rfl, hb1, hv⟩; obtain ⟨a0, c0, rfl⟩ := own_form hv; have hown1 := own_below hown hb1; have hsz1 := hb1.size; simp only [tokV]) | (at_builtin; refine wpList_append_own _ rfl _ _ 142 rfl (w.heap.size) 191 i0 _ 4 56 Tryz.underlying142 hi hz0 hz1 hz2 rfl (by decide) _ _ _ rfl ((hown1.alloc _).alloc _) ⟨w1.heap.size + 1, 0, none⟩ 1 1 (tokC ({ T with place := r }, .slice a0 T.spans.length c0)) rfl rfl ?c1 ?c2 ?c3 ?c4 ?c5 ?_))
    case c1 => rw [← World.size_alloc w1 (Obj.cells #[Value.int IntKind.u8 (kindI T.kind), Value.int IntKind.i64 ↑r, Value.string ⟨List.toArray T.text⟩, Value.slice a0 T.spans.length c0] 191)]; exact cell_four_new _ _ _ _ _ _
    case c2 => intro u hu; simp [tokC] at hu; rcases hu with rfl | rfl | rfl | rfl <;> rfl
    case c3 => unfold maxLen; omega
    case c4 => omega
    case c5 => simp; omega
    intro v' w2 hown' hgrow hnn
    have hP := hR.push (T := { T with place := r }) (sv := .slice a0 T.spans.length c0) hb1 hv hown' hgrow
    have hcell : w2.cell? ⟨w1.heap.size, 0, none⟩ = some (.int .u8 (kindI T.kind)) := by
      refine hgrow.cell ?_ ?_
      · rw [World.cell?_alloc_lt _ _ _ (by simp)]; simp
      · intro hx
        have := (hown1.lt _ hx.symm)
        simp at this
    have hTok : okKind T.kind := by rw [HTT.out]; exact tokL_ok _
    have hTL := TL_eq j (s.data.toList.drop j)
    rw [HT.out] at hTL
    have HTL : Hid (TL j (s.data.toList.drop j) = _) := hTL
    have hall := hR.2.2.2.2.2.2
    have hpl := hR.2.2.2.2.2.1
    have HALL : Hid (Thk.toks s.data.toList = ps.map (·.1) ++ TL j (s.data.toList.drop j)) := hall
    clear hTL hall hR hown hown1 hown' hgrow hv hb1 hsk htk
    rcases kindI_last hTok with ⟨hl, hk⟩ | ⟨hl, hk0, hk1⟩
    · have hD : ps.map (·.1) ++ [{ T with place := r }] = Thk.toks s.data.toList := by
        rw [HALL.out, HTL.out, if_pos hl]
      have hLen : (Thk.toks s.data.toList).length = ps.length + 1 := by rw [← hD]; simp
      obtain ⟨hP1, hP2, hP3⟩ := hP
      have hvf : ∃ a c, v' = .slice (some a) (ps.length + 1) c := by
        rcases hP1.1.2 with ⟨h, _⟩ | ⟨g, cap, cur, h, _⟩
        · exact absurd h hnn
        · exact ⟨_, _, by simpa using h⟩
      obtain ⟨a, c, rfl⟩ := hvf
      have hfin : ∃ a1 c1 ps1, Ending.returned (.slice (some a) (ps.length + 1) c) = .returned (.slice (some a1) (Thk.toks s.data.toList).length c1) ∧ Below w.heap.size w w2 ∧
          ps1.map (·.1) = Thk.toks s.data.toList ∧ Toks w2 w.heap.size (.slice (some a1) (Thk.toks s.data.toList).length c1) ps1 :=
        ⟨a, c, ps ++ [({ T with place := r }, .slice a0 T.spans.length c0)], by rw [hLen], hP2, by rw [← hD]; simp, by rw [hLen]; exact hP1⟩
      have HF : Hid _ := hfin
      clear hfin hP1 hP2 hP3 hLen hD HALL HTL HT HTT
      have hk' : (kindI T.kind == 0) = true ∨ ((kindI T.kind == 0) = false ∧ (kindI T.kind == 1) = true) := by
        rcases hk with h | h <;> rw [h]
        · left; rfl
        · right; exact ⟨rfl, rfl⟩
      rcases hk' with hk0 | ⟨hk0, hk1⟩
      · go_wp2
        go_ret
        exact HF.out
      · go_wp2
        go_ret
        exact HF.out
    · have hs1 := tokL_size (s.data.toList.drop r) (by rw [← HTT.out]; exact hl)
      rw [← HTT.out, List.length_drop, show s.data.toList.length = s.size from rfl] at hs1
      obtain ⟨hs1, hs2⟩ := hs1
      have hN : CutRel s w.heap.size w (r + T.size) (ps ++ [({ T with place := r }, .slice a0 T.spans.length c0)]) v' w2 := by
        refine ⟨by omega, by have := HR.out; simp; omega, hP.1, hP.2.1, hP.2.2, ?_, ?_⟩
        · intro p hp
          rcases List.mem_append.1 hp with hp | hp
          · exact hpl p hp
          · simp at hp; subst hp; exact hl
        · rw [HALL.out, HTL.out, if_neg (by simp [hl])]
          have e : j + (Thk.blk false (s.data.toList.drop j) + T.size) = r + T.size := by have := HR.out; omega
          simp only [List.drop_drop, e, List.map_append, List.map_cons, List.map_nil, List.append_assoc, List.cons_append, List.nil_append]
      clear hP hpl HALL HTL HT
      go_wp2
      go_roundw
      case rel => exact ⟨r + T.size, _, by go_num, hN⟩
      case measure => have := HR.out; simp [intOf]; omega
end Go.Proofs.YtkbepcjgadkfaaaGreatDoor
