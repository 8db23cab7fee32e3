import Derived.Test.YtgfejacimdmkpaaDoorG8
set_option linter.all false
namespace Go.Proofs.YtgfejacimdmkpaaDoor
open Go.RowKit

theorem kindI_sign {k : Thk.TK} (hk : okKind k) {c : UInt8} (hc : 33 ≤ c.toNat) (h : (c.toNat : Int) = kindI k) : k = .sign c := by
  cases k with
  | sign b => congr 1; apply UInt8.toNat_inj.1; simp only [kindI] at h; omega
  | _ => simp only [kindI] at h; omega

theorem hit_ahead {ps : List (Thk.Tok × Value)} {n : Nat} (hn : n < ps.length) (hg : GoodP ps) :
    (hitK [38, 33] (kindI ps[n].1.kind) = true → ∃ a : UInt8, kindI ps[n].1.kind = a.toNat ∧ Thk.aheadOf (tsOf ps n) = (a, tsOf ps (n + 1)) ∧ n + 1 < ps.length) ∧
    (hitK [38, 33] (kindI ps[n].1.kind) = false → Thk.aheadOf (tsOf ps n) = (0, tsOf ps n)) := by
  obtain ⟨hok, hnx⟩ := hg n hn
  constructor
  · intro h
    simp only [hitK, List.any_cons, List.any_nil, Bool.or_false, Bool.or_eq_true, beq_iff_eq] at h
    rcases h with h | h
    · have hk := kindI_sign hok (by decide) h
      refine ⟨38, h.symm, ?_, hnx (by rw [hk]; rfl)⟩
      unfold Thk.aheadOf; rw [hd_tsOf hn, hk, tl_tsOf hn]; rfl
    · have hk := kindI_sign hok (by decide) h
      refine ⟨33, h.symm, ?_, hnx (by rw [hk]; rfl)⟩
      unfold Thk.aheadOf; rw [hd_tsOf hn, hk, tl_tsOf hn]; rfl
  · intro h
    simp only [hitK, List.any_cons, List.any_nil, Bool.or_false, Bool.or_eq_false_iff, beq_eq_false_iff_ne] at h
    unfold Thk.aheadOf
    rw [hd_tsOf hn]
    cases hk : ps[n].1.kind with
    | sign c =>
      rw [hk] at h
      simp only [kindI] at h
      simp only []
      rw [if_neg]
      rintro (rfl | rfl)
      · exact h.1 rfl
      · exact h.2 rfl
    | _ => rfl

theorem hit_behind {ps : List (Thk.Tok × Value)} {n : Nat} (hn : n < ps.length) (hg : GoodP ps) :
    (hitK [63, 42, 43] (kindI ps[n].1.kind) = true → ∃ a : UInt8, kindI ps[n].1.kind = a.toNat ∧ Thk.behindOf (tsOf ps n) = (a, tsOf ps (n + 1)) ∧ n + 1 < ps.length) ∧
    (hitK [63, 42, 43] (kindI ps[n].1.kind) = false → Thk.behindOf (tsOf ps n) = (0, tsOf ps n)) := by
  obtain ⟨hok, hnx⟩ := hg n hn
  constructor
  · intro h
    simp only [hitK, List.any_cons, List.any_nil, Bool.or_false, Bool.or_eq_true, beq_iff_eq] at h
    rcases h with h | h | h
    · have hk := kindI_sign hok (by decide) h
      refine ⟨63, h.symm, ?_, hnx (by rw [hk]; rfl)⟩
      unfold Thk.behindOf; rw [hd_tsOf hn, hk, tl_tsOf hn]; rfl
    · have hk := kindI_sign hok (by decide) h
      refine ⟨42, h.symm, ?_, hnx (by rw [hk]; rfl)⟩
      unfold Thk.behindOf; rw [hd_tsOf hn, hk, tl_tsOf hn]; rfl
    · have hk := kindI_sign hok (by decide) h
      refine ⟨43, h.symm, ?_, hnx (by rw [hk]; rfl)⟩
      unfold Thk.behindOf; rw [hd_tsOf hn, hk, tl_tsOf hn]; rfl
  · intro h
    simp only [hitK, List.any_cons, List.any_nil, Bool.or_false, Bool.or_eq_false_iff, beq_eq_false_iff_ne] at h
    unfold Thk.behindOf
    rw [hd_tsOf hn]
    cases hk : ps[n].1.kind with
    | sign c =>
      rw [hk] at h
      simp only [kindI] at h
      simp only []
      rw [if_neg]
      rintro (rfl | rfl | rfl)
      · exact h.1 rfl
      · exact h.2.1 rfl
      · exact h.2.2 rfl
    | _ => rfl

/-- What a call of sign leaves. -/
def SignPost (f : List Thk.Tok → UInt8 × List Thk.Tok) (w : World) (rb tb tc : Nat) (ps : List (Thk.Tok × Value)) (n d : Nat) (e : Ending) (w' : World) : Prop :=
  ∃ (a : UInt8) (n1 : Nat), e = .returned (.int .u8 a.toNat) ∧ f (tsOf ps n) = (a, tsOf ps n1) ∧ n ≤ n1 ∧ n1 < ps.length ∧ Rd w' rb tb tc ps n1 d ∧ Kp rb w.heap.size w w'

theorem sign_ahead (w : World) (rb tb tc : Nat) (ps : List (Thk.Tok × Value)) (n d : Nat) (h : Rd w rb tb tc ps n d) (hg : GoodP ps) (hn : n < ps.length) (kb : Nat)
    (h0 : w.cell? ⟨kb, 0, none⟩ = some (.int .u8 38)) (h1 : w.cell? ⟨kb, 1, none⟩ = some (.int .u8 33)) :
    Calls Tryd.prog 69 #[.pointer (some ⟨rb, 0, none⟩), .slice (some ⟨kb, 0, none⟩) 2 2] w fun e w' => SignPost Thk.aheadOf w rb tb tc ps n d e w' := by
  refine (sign_any w rb tb tc ps n d h hn _ rfl [38, 33] kb (by decide) ?_).mono ?_
  · intro i hi
    match i, hi with
    | 0, _ => exact h0
    | 1, _ => exact h1
  rintro e w' ⟨hy, hno, hk⟩
  obtain ⟨ha, hb⟩ := hit_ahead hn hg
  cases hx : hitK [38, 33] (kindI ps[n].1.kind) with
  | true =>
    obtain ⟨a, e1, e2, e3⟩ := ha hx
    obtain ⟨rfl, hR⟩ := hy hx
    exact ⟨a, n + 1, by rw [e1], e2, by omega, e3, hR, hk⟩
  | false =>
    obtain ⟨rfl, hR⟩ := hno hx
    exact ⟨0, n, rfl, hb hx, by omega, hn, hR, hk⟩

theorem sign_behind (w : World) (rb tb tc : Nat) (ps : List (Thk.Tok × Value)) (n d : Nat) (h : Rd w rb tb tc ps n d) (hg : GoodP ps) (hn : n < ps.length) (kb : Nat)
    (h0 : w.cell? ⟨kb, 0, none⟩ = some (.int .u8 63)) (h1 : w.cell? ⟨kb, 1, none⟩ = some (.int .u8 42)) (h2 : w.cell? ⟨kb, 2, none⟩ = some (.int .u8 43)) :
    Calls Tryd.prog 69 #[.pointer (some ⟨rb, 0, none⟩), .slice (some ⟨kb, 0, none⟩) 3 3] w fun e w' => SignPost Thk.behindOf w rb tb tc ps n d e w' := by
  refine (sign_any w rb tb tc ps n d h hn _ rfl [63, 42, 43] kb (by decide) ?_).mono ?_
  · intro i hi
    match i, hi with
    | 0, _ => exact h0
    | 1, _ => exact h1
    | 2, _ => exact h2
  rintro e w' ⟨hy, hno, hk⟩
  obtain ⟨ha, hb⟩ := hit_behind hn hg
  cases hx : hitK [63, 42, 43] (kindI ps[n].1.kind) with
  | true =>
    obtain ⟨a, e1, e2, e3⟩ := ha hx
    obtain ⟨rfl, hR⟩ := hy hx
    exact ⟨a, n + 1, by rw [e1], e2, by omega, e3, hR, hk⟩
  | false =>
    obtain ⟨rfl, hR⟩ := hno hx
    exact ⟨0, n, rfl, hb hx, by omega, hn, hR, hk⟩

abbrev zTerm : Value := .agg #[.int .u8 0, .nilIface, .int .u8 0]

def TermEnd (w : World) (rb tb tc : Nat) (ps : List (Thk.Tok × Value)) (n d : Nat) (e : Ending) (w' : World) : Thk.Res Thk.Term → Prop
  | .ok (.mk a p b) rest => ∃ n' v, rest = tsOf ps n' ∧ n < n' ∧ n' < ps.length ∧ e = .returned (.tuple #[.agg #[.int .u8 a.toNat, v, .int .u8 b.toNat], .nilIface]) ∧ RPiece w' (w.heap.size ≤ ·) p v ∧ Rd w' rb tb tc ps n' d
  | .err er p => EndErr rb tb tc ps d zTerm er p e w'

def TermPost (w : World) (rb tb tc : Nat) (ps : List (Thk.Tok × Value)) (n d : Nat) (e : Ending) (w' : World) : Prop :=
  ∃ res, Thk.PTerm d (tsOf ps n) res ∧ Kp rb w.heap.size w w' ∧ TermEnd w rb tb tc ps n d e w' res

theorem RPiece.oneCell {w : World} {A : Nat → Prop} {p : Thk.Piece} {v : Value} (h : RPiece w A p v) : ∃ t x, v = .iface t x := by
  cases p <;> simp only [RPiece] at h
  · exact ⟨_, _, h.1⟩
  · exact ⟨_, _, h⟩
  · obtain ⟨_, h, _⟩ := h; exact ⟨_, _, h⟩
  · exact ⟨_, _, h⟩
  · obtain ⟨_, _, h, _⟩ := h; exact ⟨_, _, h⟩

/-- Rows of another type than a block's stay while that block is written. -/
theorem own_other {w w' : World} {base b : Nat} {e e' : TypeId} {size : Nat} {v : Value} {n : Nat} {xs : List Value} {cs : Array Value} {fr : Nat × Nat} (h : w.ownsRow base e size v n xs)
    (hb : ∀ g, g ≠ b → g < w.heap.size → w'.heap[g]? = w.heap[g]?) (ht : w.heap[b]? = some (.cells cs e' fr)) (he : e ≠ e') : w'.ownsRow base e size v n xs := by
  refine own_blocks h (fun g hg => hb g ?_ (h.lt g hg).2)
  intro e1
  subst e1
  rcases h.2 with ⟨rfl, _⟩ | ⟨g', cap, cur, rfl, _, hc, _⟩
  · simp [Value.ownBlock] at hg
  · simp [Value.ownBlock] at hg
    subst hg
    rw [hc] at ht
    simp at ht
    exact he ht.2.1

theorem Rd.other {w w' : World} {rb tb tc b : Nat} {ps : List (Thk.Tok × Value)} {n d : Nat} {cs : Array Value} {fr : Nat × Nat} {e' : TypeId} (h : Rd w rb tb tc ps n d)
    (hb : ∀ g, g ≠ b → g < w.heap.size → w'.heap[g]? = w.heap[g]?) (ht : w.heap[b]? = some (.cells cs e' fr)) (h1 : 61 ≠ e') (h2 : 84 ≠ e') (h3 : 144 ≠ e') : Rd w' rb tb tc ps n d := by
  refine ⟨?_, ⟨own_other h.2.1.1 hb ht h2, fun p hp => own_other (h.2.1.2 p hp) hb ht h3⟩, h.2.2⟩
  rw [hb rb ?_ h.lt]
  · exact h.1
  · intro e; subst e
    have := h.1
    rw [ht] at this
    simp at this
    exact h1 this.2.1.symm

theorem heap_alloc_same (w : World) (o : Obj) : (w.alloc o).heap[w.heap.size]? = some o := by
  show (w.heap.push o)[w.heap.size]? = _
  simp
theorem heap_alloc_old (w : World) (o : Obj) {b : Nat} (h : b < w.heap.size) : (w.alloc o).heap[b]? = w.heap[b]? := Below.heap_alloc w o b h

abbrev zTermO : Obj := .cells #[.int .u8 0, .nilIface, .int .u8 0] 100
abbrev aheadO : Obj := .cells #[.int .u8 38, .int .u8 33] 81
abbrev behindO : Obj := .cells #[.int .u8 63, .int .u8 42, .int .u8 43] 81

theorem PieceEnd.form {w : World} {rb tb tc : Nat} {ps : List (Thk.Tok × Value)} {n d : Nat} {e : Ending} {w' : World} {pc : Thk.Piece} {rest : List Thk.Tok} (h : PieceEnd w rb tb tc ps n d e w' (.ok pc rest)) :
    ∃ n' t x, rest = tsOf ps n' ∧ n < n' ∧ n' < ps.length ∧ e = .returned (.tuple #[.iface t x, .nilIface]) ∧ RPiece w' (w.heap.size ≤ ·) pc (.iface t x) ∧ Rd w' rb tb tc ps n' d := by
  obtain ⟨n', v, h1, h2, h3, h4, h5, h6⟩ := h
  obtain ⟨t, x, rfl⟩ := RPiece.oneCell h5
  exact ⟨n', t, x, h1, h2, h3, h4, h5, h6⟩

set_option maxHeartbeats 4000000 in
set_option maxRecDepth 100000 in
theorem term_any (w : World) (rb tb tc : Nat) (ps : List (Thk.Tok × Value)) (n d : Nat) (h : Rd w rb tb tc ps n d) (hg : GoodP ps) (hn : n < ps.length) (hd : d ≤ 6)
    (R : Nat) (hR : ps.length - n ≤ R) (hC : ∀ R', R' < R → ChoiceC rb tb tc ps R') :
    Calls Tryd.prog 67 #[.pointer (some ⟨rb, 0, none⟩)] w fun e w' => TermPost w rb tb tc ps n d e w' := by
  have hrl := h.lt
  have hB1 : Below w.heap.size w ((w.alloc zTermO).alloc aheadO) := (below_alloc _ _).alloc (by simp) _
  have hsg := sign_ahead _ rb tb tc ps n d (h.below hB1) hg hn (w.heap.size + 1) (by simp) (by simp)
  have HB1 : Hid (Below w.heap.size w ((w.alloc zTermO).alloc aheadO)) := hB1
  have hsz1 : ((w.alloc zTermO).alloc aheadO).heap.size = w.heap.size + 2 := by simp
  have hrc1 : ((w.alloc zTermO).alloc aheadO).heap[w.heap.size]? = some zTermO := by
    rw [heap_alloc_old _ _ (by simp)]; exact heap_alloc_same _ _
  have hpc : ∀ w' n1, Rd w' rb tb tc ps n1 d → n ≤ n1 → n1 < ps.length → Calls Tryd.prog 70 #[.pointer (some ⟨rb, 0, none⟩)] w' fun e w'' => PiecePost w' rb tb tc ps n1 d e w'' :=
    fun w' n1 hr h1 h2 => piece_any w' rb tb tc ps n1 d hr hg h2 hd (hC _ (by omega))
  clear h hB1 hC
  go_enter Tryd.func67, Tryd.ntmps67
  go_wp2_with fail
  refine hsg.mono ?_
  rintro e w2 ⟨a, n1, rfl, ha, hle1, hn1, hR2, hK2⟩
  have hrc2 : w2.heap[w.heap.size]? = some zTermO := by rw [hK2.block _ (by rw [hsz1]; omega) (by omega)]; exact hrc1
  have hsz2 := hK2.size
  rw [hsz1] at hsz2
  have hKw2 : Kp rb w.heap.size w w2 := (Kp.of HB1.out).trans (hK2.mono (by rw [hsz1]; omega))
  have hp2 := hpc w2 n1 hR2 hle1 hn1
  have HR2 : Hid (Rd w2 rb tb tc ps n1 d) := hR2
  have HKw2 : Hid (Kp rb w.heap.size w w2) := hKw2
  have HA : Hid (Thk.aheadOf (tsOf ps n) = (a, tsOf ps n1)) := ha
  clear hK2 hrc1 hsg hpc HB1 hR2 hKw2 ha
  go_wp2_with fail
  refine hp2.mono ?_
  rintro e w3 ⟨res, hP, hK3, hE⟩
  have hrc3 : w3.heap[w.heap.size]? = some zTermO := by rw [hK3.block _ (by omega) (by omega)]; exact hrc2
  have hsz3 := hK3.size
  have hKw3 : Kp rb w.heap.size w w3 := HKw2.out.trans (hK3.mono (by omega))
  clear hp2 hrc2 hK3
  have q3 := cell_of_block hrc3
  have f3 := frozen_of_block hrc3
  have hlt3 : w.heap.size < w3.heap.size := by omega
  have HP : Hid (Thk.PPiece d (tsOf ps n1) res) := hP
  have HK3 : Hid (Kp rb w.heap.size w w3) := hKw3
  have HRC3 : Hid (w3.heap[w.heap.size]? = some zTermO) := hrc3
  clear hP hKw3 hrc3
  cases res with
  | err er p =>
    obtain ⟨rfl, n', hR⟩ := hE
    simp only [faultV]
    have H : Hid (Rd w3 rb tb tc ps n' d) := hR
    clear hR
    go_wp2_with fail
    refine bodyPost_ret (v := .tuple #[zTerm, faultV er p]) (by simp [results, Tryd.results67, go_sem, faultV, q3]) rfl ?_
    refine ⟨.err er p, .err (by rw [HA.out]; exact HP.out), ((HK3.out.setCell (Nat.le_refl _) _).setCell (Nat.le_refl _) _).setCell (Nat.le_refl _) _, rfl, n', ?_⟩
    refine H.out.other (b := w.heap.size) (fun g hg _ => ?_) HRC3.out (by decide) (by decide) (by decide)
    rw [Below.heap_setCell _ _ _ _ hg, Below.heap_setCell _ _ _ _ hg, Below.heap_setCell _ _ _ _ hg]
  | ok pc rest =>
    obtain ⟨n', t, x, rfl, hlt, hn2, rfl, hRP, hR⟩ := hE.form
    clear hE
    have hB4 : Below w3.heap.size w3 (w3.alloc behindO) := below_alloc _ _
    have hsz4 : (w3.alloc behindO).heap.size = w3.heap.size + 1 := by simp
    have hsg := sign_behind (w3.alloc behindO) rb tb tc ps n' d (hR.below hB4) hg hn2 w3.heap.size (by simp) (by simp) (by simp)
    have HRP : Hid (RPiece w3 (w2.heap.size ≤ ·) pc (.iface t x)) := hRP
    have H3 : Hid (Rd w3 rb tb tc ps n' d) := hR
    clear hRP hR
    go_wp2_with fail
    refine hsg.mono ?_
    rintro e w4 ⟨b, n4, rfl, hb, hle4, hn4, hR4, hK4⟩
    rw [hsz4] at hK4
    have hrc4 : w4.heap[w.heap.size]? = some zTermO := by
      rw [hK4.block _ (by omega) (by omega), heap_alloc_old _ _ hlt3]; exact HRC3.out
    have hsz5 := hK4.size
    rw [hsz4] at hsz5
    have hKw4 : Kp rb w.heap.size w w4 := (HK3.out.alloc (by omega) behindO).trans (hK4.mono (by omega))
    have q4 := cell_of_block hrc4
    have f4 := frozen_of_block hrc4
    have hlt4 : w.heap.size < w4.heap.size := by omega
    have HK34 : Hid (Kp rb w3.heap.size w3 w4) := (Kp.of hB4).trans (hK4.mono (by omega))
    have HB : Hid (Thk.behindOf (tsOf ps n') = (b, tsOf ps n4)) := hb
    have H4 : Hid (Rd w4 rb tb tc ps n4 d) := hR4
    have HKw4 : Hid (Kp rb w.heap.size w w4) := hKw4
    have HRC4 : Hid (w4.heap[w.heap.size]? = some zTermO) := hrc4
    clear hb hR4 hKw4 hrc4 hsg hB4 hK4 q3 f3
    go_wp2_with fail
    refine bodyPost_ret (v := .tuple #[.agg #[.int .u8 a.toNat, .iface t x, .int .u8 b.toNat], .nilIface]) (by simp [results, Tryd.results67, go_sem, q4]) rfl ?_
    have hot : ∀ g, g ≠ w.heap.size → g < w4.heap.size → (((w4.setCell ⟨w.heap.size, 0, none⟩ (.int .u8 a.toNat)).setCell ⟨w.heap.size, 1, none⟩ (.iface t x)).setCell ⟨w.heap.size, 2, none⟩ (.int .u8 b.toNat)).heap[g]? = w4.heap[g]? := by
      intro g hg _
      rw [Below.heap_setCell _ _ _ _ hg, Below.heap_setCell _ _ _ _ hg, Below.heap_setCell _ _ _ _ hg]
    have hPT : Thk.PTerm d (tsOf ps n) (.ok (.mk a pc b) (tsOf ps n4)) := by
      have := Thk.PTerm.ok (d := d) (ts := tsOf ps n) (p := pc) (rest := tsOf ps n') (by rw [HA.out]; exact HP.out)
      rw [HA.out, HB.out] at this
      exact this
    refine ⟨_, hPT, ((HKw4.out.setCell (Nat.le_refl _) _).setCell (Nat.le_refl _) _).setCell (Nat.le_refl _) _, n4, _, rfl, by omega, hn4, rfl, ?_, ?_⟩
    · have h34 := RPiece.kept (sm_kp H3.out.1 HK34.out (fun g hg => by omega)) pc _ HRP.out
      have hs : Sm (w2.heap.size ≤ ·) w4 _ := ⟨fun u l hl => own_other hl hot HRC4.out (by decide), fun g hg ha => hot g (by omega) hg⟩
      exact RPiece.mono (fun g _ hg => by omega) pc _ (RPiece.kept hs pc _ h34)
    · exact H4.out.other (b := w.heap.size) hot HRC4.out (by decide) (by decide) (by decide)
end Go.Proofs.YtgfejacimdmkpaaDoor
