import Derived.Test.YtjmcdklhaieldaaGreatDoorGB
import Derived.Deep.LoopGhost
set_option linter.all false
namespace Go.Proofs.YtjmcdklhaieldaaGreatDoor
open Go.RowKit

theorem own_block_type {w : World} {base : Nat} {e : TypeId} {sz : Nat} {v : Value} {n : Nat} {xs : List Value} (h : w.ownsRow base e sz v n xs) {g : Nat} (hg : v.ownBlock = some g) : ∃ cur, w.heap[g]? = some (.cells cur e (0, 0)) := by
  rcases h.2 with ⟨rfl, _⟩ | ⟨g', cap, cur, rfl, _, hc, _⟩
  · simp [Value.ownBlock] at hg
  · simp [Value.ownBlock] at hg; subst hg; exact ⟨cur, hc⟩

/-- Behind a store into one's own row, rows of other types are as they were. -/
theorem own_but {w w' : World} {b0 base : Nat} {e0 e : TypeId} {sz0 sz : Nat} {u v : Value} {n0 n : Nat} {xs0 xs : List Value} (h : w.ownsRow b0 e0 sz0 u n0 xs0) (hv : w.ownsRow base e sz v n xs)
    (hb : ∀ g, some g ≠ v.ownBlock → g < w.heap.size → w'.heap[g]? = w.heap[g]?) (he : e0 ≠ e) : w'.ownsRow b0 e0 sz0 u n0 xs0 := by
  refine own_blocks h (fun g hg => hb g ?_ (h.lt g hg).2)
  intro e1
  obtain ⟨c1, h1⟩ := own_block_type h hg
  obtain ⟨c2, h2⟩ := own_block_type hv e1.symm
  rw [h1] at h2
  simp at h2
  exact he h2.2

theorem Rd.but {w w' : World} {rb tb tc base : Nat} {ps : List (Thk.Tok × Value)} {k d : Nat} {e : TypeId} {sz : Nat} {v : Value} {n : Nat} {xs : List Value} (h : Rd w rb tb tc ps k d) (hv : w.ownsRow base e sz v n xs)
    (hb : ∀ g, some g ≠ v.ownBlock → g < w.heap.size → w'.heap[g]? = w.heap[g]?) (h1 : 154 ≠ e) (h2 : 207 ≠ e) (h3 : 286 ≠ e) : Rd w' rb tb tc ps k d := by
  refine ⟨?_, ⟨own_but h.2.1.1 hv hb h2, fun p hp => own_but (h.2.1.2 p hp) hv hb h3⟩, h.2.2⟩
  rw [hb rb ?_ h.lt]
  · exact h.1
  · intro e1
    obtain ⟨c2, h2⟩ := own_block_type hv e1.symm
    have := h.1
    rw [h2] at this
    simp at this
    exact h1 this.2.symm

theorem sm_but {w w' : World} {base : Nat} {e : TypeId} {sz : Nat} {v : Value} {n : Nat} {xs : List Value} (hv : w.ownsRow base e sz v n xs)
    (hb : ∀ g, some g ≠ v.ownBlock → g < w.heap.size → w'.heap[g]? = w.heap[g]?) (h3 : 286 ≠ e) {A : Nat → Prop} (hA : ∀ g, A g → some g ≠ v.ownBlock) : Sm A w w' :=
  ⟨fun _ _ h => own_but h hv hb h3, fun g hg ha => hb g (hA g ha) hg⟩

theorem grown2_blocks {w1 w5 : World} {O1 O2 : Obj} {row : Option Nat} (hg : ((w1.alloc O1).alloc O2).grownBy w5 row) : ∀ g, some g ≠ row → g < w1.heap.size → w5.heap[g]? = w1.heap[g]? := by
  intro g h1 h2
  rw [hg.block g (by simp; omega) h1, heap_alloc_old _ _ (by simp; omega), heap_alloc_old _ _ h2]
theorem grown1_blocks {w1 w5 : World} {O1 : Obj} {row : Option Nat} (hg : (w1.alloc O1).grownBy w5 row) : ∀ g, some g ≠ row → g < w1.heap.size → w5.heap[g]? = w1.heap[g]? := by
  intro g h1 h2
  rw [hg.block g (by simp; omega) h1, heap_alloc_old _ _ h2]

def preS (s : Thk.Seq) : Thk.Res Thk.Seq → Thk.Res Thk.Seq := Thk.Res.map (s ++ ·)

def SeqEnd (w : World) (rb tb tc : Nat) (ps : List (Thk.Tok × Value)) (n d : Nat) (e : Ending) (w' : World) : Thk.Res Thk.Seq → Prop
  | .ok s rest => ∃ n' a l cp, rest = tsOf ps n' ∧ n ≤ n' ∧ n' < ps.length ∧ e = .returned (.tuple #[.slice a l cp, .nilIface]) ∧ RSeq w' (w.heap.size ≤ ·) s (.slice a l cp) ∧ Rd w' rb tb tc ps n' d
  | .err er p => EndErr rb tb tc ps d (.slice none 0 0) er p e w'

def SeqPost (w : World) (rb tb tc : Nat) (ps : List (Thk.Tok × Value)) (n d : Nat) (e : Ending) (w' : World) : Prop :=
  ∃ res, Thk.PSeq d (tsOf ps n) res ∧ Kp rb w.heap.size w w' ∧ SeqEnd w rb tb tc ps n d e w' res

/-- What the loop of sequence keeps. -/
structure SeqRel (w : World) (rb tb tc : Nat) (ps : List (Thk.Tok × Value)) (n d k : Nat) (s : Thk.Seq) (vs : List Value) (v : Value) (wr : World) : Prop where
  le : n ≤ k
  lt : k < ps.length
  len : s.length ≤ k - n
  own : wr.ownsRow w.heap.size 219 3 v s.length (termC s vs)
  terms : RTerms wr (fun g => w.heap.size ≤ g ∧ some g ≠ v.ownBlock) s vs
  rd : Rd wr rb tb tc ps k d
  kp : Kp rb w.heap.size w wr
  goes : ∀ r, Thk.PSeq d (tsOf ps k) r → Thk.PSeq d (tsOf ps n) (preS s r)

theorem SeqRel.next {w : World} {rb tb tc : Nat} {ps : List (Thk.Tok × Value)} {n d k : Nat} {s : Thk.Seq} {vs : List Value} {v : Value} {wr : World} (h : SeqRel w rb tb tc ps n d k s vs v wr) (hrl : rb < w.heap.size)
    {a b : UInt8} {pc : Thk.Piece} {x : Value} {k' : Nat} {w1 w5 : World} {v' : Value} {O1 O2 : Obj} (hbg : Thk.begins d (tsOf ps k) = true) (hT : Thk.PTerm d (tsOf ps k) (.ok (.mk a pc b) (tsOf ps k'))) (hk : k < k') (hk' : k' < ps.length)
    (hK : Kp rb wr.heap.size wr w1) (hP : RPiece w1 (wr.heap.size ≤ ·) pc x) (hR : Rd w1 rb tb tc ps k' d)
    (ho : w5.ownsRow w.heap.size 219 3 v' (s.length + 1) (termC s vs ++ [.int .u8 a.toNat, x, .int .u8 b.toNat])) (hg : ((w1.alloc O1).alloc O2).grownBy w5 v.ownBlock)
    (hat : v'.ownBlock = v.ownBlock ∨ v'.ownBlock = some (w1.heap.size + 1 + 1)) :
    SeqRel w rb tb tc ps n d k' (s ++ [.mk a pc b]) (vs ++ [x]) v' w5 := by
  have hsz := hK.size
  have hwr := h.kp.size
  have hown1 : w1.ownsRow w.heap.size 219 3 v s.length (termC s vs) := own_kp h.own h.rd.1 (by decide) hK
  have hbl := grown2_blocks hg
  have hgs := hg.size
  simp at hgs
  have hvb : ∀ g, v.ownBlock = some g → g < wr.heap.size := fun g hg => (h.own.lt g hg).2
  have hA : ∀ g, g < w1.heap.size → w.heap.size ≤ g → some g ≠ v.ownBlock → (w.heap.size ≤ g ∧ some g ≠ v'.ownBlock) := by
    intro g h1 h2 h3
    refine ⟨h2, ?_⟩
    rcases hat with e | e <;> rw [e]
    · exact h3
    · simp; omega
  refine ⟨by have := h.le; omega, hk', by have := h.len; have := h.le; simp; omega, ?_, ?_, ?_, ?_, ?_⟩
  · rw [termC_append _ _ (RTerms.length h.terms)]; simpa using ho
  · refine RTerms.snoc ?_ ?_
    · simp only [RTerm]
      have p1 : RPiece w1 (fun g => wr.heap.size ≤ g ∧ g < w1.heap.size) pc x := RPiece.mono (fun g h1 h2 => ⟨h2, h1⟩) pc x hP
      have p2 : RPiece w5 (fun g => wr.heap.size ≤ g ∧ g < w1.heap.size) pc x := RPiece.kept (sm_but hown1 hbl (by decide) (fun g hg e => by have := hvb g e.symm; omega)) pc x p1
      exact RPiece.mono (fun g _ hg => hA g hg.2 (by omega) (fun e => by have := hvb g e.symm; omega)) pc x p2
    · have p0 := RTerms.kept (sm_kp (A := fun g => w.heap.size ≤ g ∧ some g ≠ v.ownBlock) h.rd.1 hK (fun g hg => by omega)) s vs h.terms
      have p1 : RTerms w1 (fun g => (w.heap.size ≤ g ∧ some g ≠ v.ownBlock) ∧ g < w1.heap.size) s vs := RTerms.mono (fun g h1 h2 => ⟨h2, h1⟩) s vs p0
      have p2 : RTerms w5 (fun g => (w.heap.size ≤ g ∧ some g ≠ v.ownBlock) ∧ g < w1.heap.size) s vs := RTerms.kept (sm_but hown1 hbl (by decide) (fun g hg => hg.1.2)) s vs p1
      exact RTerms.mono (fun g _ hg => hA g hg.2 hg.1.1 hg.1.2) s vs p2
  · exact hR.but hown1 hbl (by decide) (by decide) (by decide)
  · exact ((((h.kp.trans (hK.mono hwr))).alloc (by omega) O1).alloc (by simp; omega) O2).grown hg (by simp; omega) (fun g hg' => (h.own.lt g hg').1)
  · intro r hr
    cases r with
    | ok s' rest => exact (by simpa [preS, Thk.Res.map] using h.goes _ (.cons hbg hT hr))
    | err e p => exact (by simpa [preS, Thk.Res.map] using h.goes _ (.later hbg hT hr))

theorem cell_three_new (w : World) (x y z : Value) (t : TypeId) : ∀ j q, [x, y, z][j]? = some q → (w.alloc (.cells #[x, y, z] t)).cell? ((⟨w.heap.size, 0, none⟩ : Addr).add j) = some q := by
  intro j q hj
  match j, hj with
  | 0, hj => simp at hj; subst hj; simp [Addr.add]
  | 1, hj => simp at hj; subst hj; simp [Addr.add]
  | 2, hj => simp at hj; subst hj; simp [Addr.add]

theorem Tryz.infoTerm : (Tryz.prog.info? 219).map (fun i => (i.zero, i.size, i.bytes)) = some (some (.agg #[.int .u8 0, .nilIface, .int .u8 0]), 3, 32) := by kernel_rfl

set_option maxHeartbeats 4000000 in
set_option maxRecDepth 100000 in
theorem sequence_any (w : World) (rb tb tc : Nat) (ps : List (Thk.Tok × Value)) (n d : Nat) (h : Rd w rb tb tc ps n d) (hg : GoodP ps) (hn : n < ps.length) (hd : d ≤ 6)
    (R : Nat) (hR : ps.length - n ≤ R) (hC : ∀ R', R' < R → ChoiceC rb tb tc ps R') :
    Calls Tryz.prog 163 #[.pointer (some ⟨rb, 0, none⟩)] w fun e w' => SeqPost w rb tb tc ps n d e w' := by
  obtain ⟨i0, hi, hz0, hz1, hz2⟩ := info_parts Tryz.infoTerm
  have hrl := h.lt
  have hl := h.2.2.1
  have hbt := fun w' k (hr : Rd w' rb tb tc ps k d) (hk : k < ps.length) => beginsTerm_any w' rb tb tc ps k d hr hg hk hd
  have htm := fun w' k (hr : Rd w' rb tb tc ps k d) (hk : k < ps.length) (hnk : n ≤ k) => term_any w' rb tb tc ps k d hr hg hk hd R (by omega) hC
  have H : Hid (Rd w rb tb tc ps n d) := h
  clear h hC
  go_enter Tryz.func163, Tryz.ntmps163
  go_wp2_with fail
  go_loopg [4] (ps.length - n) (fun g v wr => ∃ k s vs, g = ps.length - k ∧ SeqRel w rb tb tc ps n d k s vs v wr)
  case atStart =>
    refine ⟨n, [], [], rfl, Nat.le_refl _, hn, by simp, World.ownsRow_nil _ _ _ _, by simp [RTerms], H.out, Kp.refl _ _ _, ?_⟩
    intro r hr; cases r <;> exact hr
  case round =>
    obtain ⟨k, s, vs, rfl, hS⟩ := hrel
    have hb := hbt wr k hS.rd hS.lt
    have hkl := hS.lt
    have hnk := hS.le
    have hsl := hS.len
    have hwr := hS.kp.size
    have HS : Hid (SeqRel w rb tb tc ps n d k s vs u4 wr) := hS
    have hown := hS.own
    obtain ⟨a0, c0, hv⟩ := own_form hown
    subst hv
    clear hS hbt
    cases hbg : Thk.begins d (tsOf ps k) with
    | false =>
      rw [hbg] at hb
      have HBG : Hid (Thk.begins d (tsOf ps k) = false) := hbg
      clear hbg htm hown
      go_wp2_with (first | (go_at_call 174; refine hb.mono ?_; rintro e w1 ⟨rfl, q, rfl⟩))
      go_ret2
      have hp := HS.out.goes _ (.nil HBG.out)
      simp only [preS, Thk.Res.map, List.append_nil] at hp
      refine ⟨_, hp, HS.out.kp.drewN q, k, a0, s.length, c0, rfl, hnk, hkl, rfl, ⟨vs, ⟨?_, ?_⟩, ?_⟩, HS.out.rd.drewN q⟩
      · exact own_mono HS.out.own (Nat.zero_le _)
      · intro g hg; exact (HS.out.own.lt g hg).1
      · have h1 : RTerms wr (w.heap.size ≤ ·) s vs := RTerms.mono (fun g _ hg => hg.1) s vs HS.out.terms
        exact RTerms.kept (w := wr) (w' := wr.drewN q) ⟨fun _ _ h => h, fun _ _ _ => rfl⟩ s vs h1
    | true =>
      rw [hbg] at hb
      have HBG : Hid (Thk.begins d (tsOf ps k) = true) := hbg
      have ht := fun q => htm (wr.drewN q) k (HS.out.rd.drewN q) hkl hnk
      clear hbg htm
      go_wp2_with (first | (go_at_call 174; refine hb.mono ?_; rintro e w1 ⟨rfl, q, rfl⟩))
      refine (ht q).mono ?_
      rintro e w1 ⟨res, hP, hK1, hE⟩
      have hsz1 := hK1.size
      have hK1' : Kp rb wr.heap.size wr w1 := (Kp.drewN (Kp.refl _ _ _) q).trans hK1
      clear hK1 ht hb
      simp only [World.heap_drewN] at hsz1
      have HP : Hid (Thk.PTerm d (tsOf ps k) res) := hP
      have HK1 : Hid (Kp rb wr.heap.size wr w1) := hK1'
      clear hP hK1'
      cases res with
      | err er p =>
        obtain ⟨rfl, n', hR1⟩ := hE
        simp only [faultV, zTerm]
        have H1 : Hid (Rd w1 rb tb tc ps n' d) := hR1
        clear hR1 hown
        go_wp2_with fail
        go_ret2
        have hp := HS.out.goes _ (.err HBG.out HP.out)
        exact ⟨_, hp, (HS.out.kp.trans (HK1.out.mono hwr)).alloc (by omega) _, rfl, n', H1.out.below (below_alloc _ _)⟩
      | ok t rest =>
        obtain ⟨a, pc, b⟩ := t
        obtain ⟨k', x, rfl, hlt, hk', rfl, hRP, hR1⟩ := hE
        obtain ⟨tt, xx, rfl⟩ := RPiece.oneCell hRP
        have HRP : Hid (RPiece w1 (wr.heap.size ≤ ·) pc (.iface tt xx)) := hRP
        have H1 : Hid (Rd w1 rb tb tc ps k' d) := hR1
        have hown1 : w1.ownsRow w.heap.size 219 3 (.slice a0 s.length c0) s.length (termC s vs) := own_kp hown HS.out.rd.1 (by decide) HK1.out
        clear hRP hR1 hown
        go_wp2_with (first | (at_builtin; refine wpList_append_own_at _ rfl _ _ 187 rfl (w.heap.size) 219 i0 _ 3 32 Tryz.underlying187 hi hz0 hz1 hz2 rfl (by decide) _ _ _ rfl ((hown1.alloc _).alloc _) ⟨w1.heap.size + 1, 0, none⟩ 1 1 [.int .u8 a.toNat, .iface tt xx, .int .u8 b.toNat] rfl rfl ?c1 ?c2 ?c3 ?c4 ?c5 ?_))
        case c1 => rw [← World.size_alloc w1 (.cells #[.int .u8 a.toNat, .iface tt xx, .int .u8 b.toNat] 219)]; exact cell_three_new _ _ _ _ _
        case c2 => intro u hu; simp at hu; rcases hu with rfl | rfl | rfl <;> rfl
        case c3 => unfold maxLen; omega
        case c4 => omega
        case c5 => simp; omega
        intro v' w5 hown' hgrow _ hat
        have hN := HS.out.next hrl HBG.out HP.out hlt hk' HK1.out HRP.out H1.out hown' hgrow hat
        clear hown' hgrow hat hown1
        go_wp2_with fail
        go_roundg (ps.length - k')
        case measure => omega
        case rel => exact ⟨k', _, _, rfl, hN⟩
end Go.Proofs.YtjmcdklhaieldaaGreatDoor
namespace Go.Proofs.YtjmcdklhaieldaaGreatDoor
open Go.RowKit

def preC (c : Thk.Choice) : Thk.Res Thk.Choice → Thk.Res Thk.Choice := Thk.Res.map (c ++ ·)

/-- What the loop of choice keeps. -/
structure ChRel (w : World) (rb tb tc : Nat) (ps : List (Thk.Tok × Value)) (n d k : Nat) (c : Thk.Choice) (us : List Value) (v : Value) (wr : World) : Prop where
  le : n ≤ k
  lt : k < ps.length
  len : c.length ≤ k - n
  own : wr.ownsRow w.heap.size 187 1 v c.length us
  seqs : RSeqs wr (fun g => w.heap.size ≤ g ∧ some g ≠ v.ownBlock) c us
  rd : Rd wr rb tb tc ps k d
  kp : Kp rb w.heap.size w wr
  goes : ∀ r, Thk.PChoice d (tsOf ps k) r → Thk.PChoice d (tsOf ps n) (preC c r)

/-- One sequence more. -/
theorem ChRel.push {w : World} {rb tb tc : Nat} {ps : List (Thk.Tok × Value)} {n d k : Nat} {c : Thk.Choice} {us : List Value} {v : Value} {wr : World} (h : ChRel w rb tb tc ps n d k c us v wr) (hrl : rb < w.heap.size)
    {s : Thk.Seq} {x : Value} {k' : Nat} {w1 w5 : World} {v' : Value} {O1 : Obj}
    (hK : Kp rb wr.heap.size wr w1) (hP : RSeq w1 (wr.heap.size ≤ ·) s x) (hR : Rd w1 rb tb tc ps k' d)
    (ho : w5.ownsRow w.heap.size 187 1 v' (c.length + 1) (us ++ [x])) (hg : (w1.alloc O1).grownBy w5 v.ownBlock)
    (hat : v'.ownBlock = v.ownBlock ∨ v'.ownBlock = some (w1.heap.size + 1)) :
    w5.ownsRow w.heap.size 187 1 v' (c ++ [s]).length (us ++ [x]) ∧ RSeqs w5 (fun g => w.heap.size ≤ g ∧ some g ≠ v'.ownBlock) (c ++ [s]) (us ++ [x]) ∧ Rd w5 rb tb tc ps k' d ∧ Kp rb w.heap.size w w5 := by
  have hsz := hK.size
  have hwr := h.kp.size
  have hown1 : w1.ownsRow w.heap.size 187 1 v c.length us := own_kp h.own h.rd.1 (by decide) hK
  have hbl := grown1_blocks hg
  have hgs := hg.size
  simp at hgs
  have hvb : ∀ g, v.ownBlock = some g → g < wr.heap.size := fun g hg => (h.own.lt g hg).2
  have hA : ∀ g, g < w1.heap.size → w.heap.size ≤ g → some g ≠ v.ownBlock → (w.heap.size ≤ g ∧ some g ≠ v'.ownBlock) := by
    intro g h1 h2 h3
    refine ⟨h2, ?_⟩
    rcases hat with e | e <;> rw [e]
    · exact h3
    · simp; omega
  refine ⟨by simpa using ho, ?_, ?_, ?_⟩
  · refine RSeqs.snoc ?_ ?_
    · have p1 : RSeq w1 (fun g => wr.heap.size ≤ g ∧ g < w1.heap.size) s x := hP.mono (fun g h1 h2 => ⟨h2, h1⟩)
      have p2 : RSeq w5 (fun g => wr.heap.size ≤ g ∧ g < w1.heap.size) s x := p1.kept (sm_but hown1 hbl (by decide) (fun g hg e => by have := hvb g e.symm; omega))
      exact p2.mono (fun g _ hg => hA g hg.2 (by omega) (fun e => by have := hvb g e.symm; omega))
    · have p0 := RSeqs.kept (sm_kp (A := fun g => w.heap.size ≤ g ∧ some g ≠ v.ownBlock) h.rd.1 hK (fun g hg => by omega)) c us h.seqs
      have p1 : RSeqs w1 (fun g => (w.heap.size ≤ g ∧ some g ≠ v.ownBlock) ∧ g < w1.heap.size) c us := RSeqs.mono (fun g h1 h2 => ⟨h2, h1⟩) c us p0
      have p2 : RSeqs w5 (fun g => (w.heap.size ≤ g ∧ some g ≠ v.ownBlock) ∧ g < w1.heap.size) c us := RSeqs.kept (sm_but hown1 hbl (by decide) (fun g hg => hg.1.2)) c us p1
      exact RSeqs.mono (fun g _ hg => hA g hg.2 hg.1.1 hg.1.2) c us p2
  · exact hR.but hown1 hbl (by decide) (by decide) (by decide)
  · exact (((h.kp.trans (hK.mono hwr))).alloc (by omega) O1).grown hg (by simp; omega) (fun g hg' => (h.own.lt g hg').1)

theorem Tryz.infoSeq : (Tryz.prog.info? 187).map (fun i => (i.zero, i.size, i.bytes)) = some (some (.slice none 0 0), 1, 24) := by kernel_rfl

theorem kindI_slash {k : Thk.TK} (hk : okKind k) : (k = .sign 47 ∧ kindI k = 47) ∨ (k ≠ .sign 47 ∧ (kindI k != 47) = true) := by
  by_cases h : k = .sign 47
  · left; subst h; exact ⟨rfl, rfl⟩
  · right
    refine ⟨h, ?_⟩
    rw [bne_iff_ne]
    intro e
    exact h (kindI_sign hk (c := 47) (by decide) (by rw [e]; rfl))

set_option maxHeartbeats 4000000 in
set_option maxRecDepth 100000 in
theorem choice_step (rb tb tc : Nat) (ps : List (Thk.Tok × Value)) (hg : GoodP ps) (R : Nat) (hC : ∀ R', R' < R → ChoiceC rb tb tc ps R') : ChoiceC rb tb tc ps R := by
  intro w n d h hn hR hd
  obtain ⟨i0, hi, hz0, hz1, hz2⟩ := info_parts Tryz.infoSeq
  have hrl := h.lt
  have hl := h.2.2.1
  have hsq := fun w' k (hr : Rd w' rb tb tc ps k d) (hk : k < ps.length) (hnk : n ≤ k) => sequence_any w' rb tb tc ps k d hr hg hk hd R (by omega) hC
  have H : Hid (Rd w rb tb tc ps n d) := h
  clear h hC
  go_enter Tryz.func141, Tryz.ntmps141
  go_wp2_with fail
  go_loopg [4] (ps.length - n) (fun g v wr => ∃ k c us, g = ps.length - k ∧ ChRel w rb tb tc ps n d k c us v wr)
  case atStart =>
    refine ⟨n, [], [], rfl, Nat.le_refl _, hn, by simp, World.ownsRow_nil _ _ _ _, by simp [RSeqs], H.out, Kp.refl _ _ _, ?_⟩
    intro r hr; cases r <;> exact hr
  case round =>
    obtain ⟨k, c, us, rfl, hS⟩ := hrel
    have hs := hsq wr k hS.rd hS.lt hS.le
    have hkl := hS.lt
    have hnk := hS.le
    have hcl := hS.len
    have hwr := hS.kp.size
    have HS : Hid (ChRel w rb tb tc ps n d k c us u4 wr) := hS
    have hown := hS.own
    clear hS hsq
    go_wp2_with fail
    refine hs.mono ?_
    rintro e w1 ⟨res, hP, hK1, hE⟩
    have hsz1 := hK1.size
    have HP : Hid (Thk.PSeq d (tsOf ps k) res) := hP
    have HK1 : Hid (Kp rb wr.heap.size wr w1) := hK1
    clear hs hP hK1
    cases res with
    | err er p =>
      obtain ⟨rfl, n', hR1⟩ := hE
      simp only [faultV]
      have H1 : Hid (Rd w1 rb tb tc ps n' d) := hR1
      clear hR1 hown
      go_wp2_with fail
      go_ret2
      exact ⟨_, HS.out.goes _ (.err HP.out), HS.out.kp.trans (HK1.out.mono hwr), rfl, n', H1.out⟩
    | ok s rest =>
      obtain ⟨k', sa, sl, sc, rfl, hle, hk', rfl, hRS, hR1⟩ := hE
      have HRS : Hid (RSeq w1 (wr.heap.size ≤ ·) s (.slice sa sl sc)) := hRS
      have H1 : Hid (Rd w1 rb tb tc ps k' d) := hR1
      have hown1 : w1.ownsRow w.heap.size 187 1 u4 c.length us := own_kp hown HS.out.rd.1 (by decide) HK1.out
      clear hRS hR1 hown
      go_wp2_with (first | (at_builtin; refine wpList_append_own_at _ rfl _ _ 117 rfl (w.heap.size) 187 i0 _ 1 24 Tryz.underlying117 hi hz0 hz1 hz2 rfl (by decide) _ _ _ rfl (hown1.alloc _) ⟨w1.heap.size, 0, none⟩ 1 1 [.slice sa sl sc] rfl rfl ?c1 ?c2 ?c3 ?c4 ?c5 ?_))
      case c1 => exact cell_one_new _ _ _
      case c2 => intro u hu; simp at hu; subst hu; rfl
      case c3 => unfold maxLen; omega
      case c4 => omega
      case c5 => simp; omega
      intro v' w5 hown' hgrow _ hat
      obtain ⟨p1, p2, p3, p4⟩ := HS.out.push hrl HK1.out HRS.out H1.out hown' hgrow hat
      obtain ⟨va, vc, hv⟩ := own_form hown'
      subst hv
      have P1 : Hid (w5.ownsRow w.heap.size 187 1 (.slice va (c.length + 1) vc) (c ++ [s]).length (us ++ [.slice sa sl sc])) := p1
      have P2 : Hid (RSeqs w5 (fun g => w.heap.size ≤ g ∧ some g ≠ (Value.slice va (c.length + 1) vc).ownBlock) (c ++ [s]) (us ++ [.slice sa sl sc])) := p2
      have P3 : Hid (Rd w5 rb tb tc ps k' d) := p3
      have P4 : Hid (Kp rb w.heap.size w w5) := p4
      obtain ⟨r0, r1, r2, rf⟩ := p3.cells
      clear hown' hgrow hat hown1 p1 p2 p3 p4
      rcases kindI_slash (hg k' hk').1 with ⟨hks, hki⟩ | ⟨hks, hki⟩
      · have hkd := kind_of w5 rb tb tc ps k' d P3.out hk' 47 hki
        have hk1 : k' + 1 < ps.length := (hg k' hk').2 (by rw [hks]; rfl)
        have HKS : Hid (ps[k'].1.kind = .sign 47) := hks
        clear hks hki
        go_wp2_with (first | (go_at_call 102; refine hkd.mono ?_; rintro e w6 ⟨rfl, q, rfl⟩))
        have hN : ChRel w rb tb tc ps n d (k' + 1) (c ++ [s]) (us ++ [.slice sa sl sc]) (.slice va (c.length + 1) vc) ((w5.setCell ⟨rb, 1, none⟩ (.int .i64 ((k' : Int) + 1))).drewN q) := by
          have hKs : Kp rb w5.heap.size w5 ((w5.setCell ⟨rb, 1, none⟩ (.int .i64 ((k' : Int) + 1))).drewN q) := ((Kp.refl _ _ _).setRb _ _).drewN q
          refine ⟨by omega, hk1, by simp; omega, own_kp P1.out P3.out.1 (by decide) hKs, RSeqs.kept (sm_kp P3.out.1 hKs (fun g hg => by omega)) _ _ P2.out, (P3.out.set1 (k' + 1)).drewN q, (P4.out.setRb _ _).drewN q, ?_⟩
          intro r hr
          have hm : Thk.PSeq d (tsOf ps k) (.ok s (tsOf ps k')) := HP.out
          rw [← tl_tsOf hk'] at hr
          have hsl : (Thk.hd (tsOf ps k')).kind = .sign 47 := by rw [hd_tsOf hk']; exact HKS.out
          cases r with
          | ok c' rest => exact (by simpa [preC, Thk.Res.map] using HS.out.goes _ (.more hm hsl hr))
          | err e p => exact (by simpa [preC, Thk.Res.map] using HS.out.goes _ (.later hm hsl hr))
        go_roundg (ps.length - (k' + 1))
        case measure => omega
        case rel => exact ⟨k' + 1, _, _, rfl, hN⟩
      · have hkd := kind_of w5 rb tb tc ps k' d P3.out hk' _ rfl
        have HKS : Hid (ps[k'].1.kind ≠ .sign 47) := hks
        clear hks
        generalize kindI ps[k'].1.kind = K at *
        go_wp2_with (first | (go_at_call 102; refine hkd.mono ?_; rintro e w6 ⟨rfl, q, rfl⟩))
        go_ret2
        have hp := HS.out.goes _ (.last HP.out (by rw [hd_tsOf hk']; exact HKS.out))
        refine ⟨_, hp, P4.out.drewN q, k', va, c.length + 1, vc, rfl, by omega, hk', rfl, ⟨us ++ [.slice sa sl sc], ⟨?_, ?_⟩, ?_⟩, P3.out.drewN q⟩
        · exact own_mono P1.out (Nat.zero_le _)
        · intro g hg; exact (P1.out.lt g hg).1
        · have h1 : RSeqs w5 (w.heap.size ≤ ·) (c ++ [s]) (us ++ [.slice sa sl sc]) := RSeqs.mono (fun g _ hg => hg.1) _ _ P2.out
          exact RSeqs.kept (w := w5) (w' := w5.drewN q) ⟨fun _ _ h => h, fun _ _ _ => rfl⟩ _ _ h1

theorem choice_any (rb tb tc : Nat) (ps : List (Thk.Tok × Value)) (hg : GoodP ps) (R : Nat) : ChoiceC rb tb tc ps R := by
  induction R using Nat.strongRecOn with
  | ind R ih => exact choice_step rb tb tc ps hg R ih
end Go.Proofs.YtjmcdklhaieldaaGreatDoor
namespace Go.Proofs.YtjmcdklhaieldaaGreatDoor
open Go.RowKit

def RuleEnd (w : World) (rb tb tc : Nat) (ps : List (Thk.Tok × Value)) (n : Nat) (e : Ending) (w' : World) : Thk.Res Thk.Rule → Prop
  | .ok r rest => ∃ n' a l cp, rest = tsOf ps n' ∧ n < n' ∧ n' < ps.length ∧ e = .returned (.tuple #[.agg #[.string ⟨r.name.toArray⟩, .slice a l cp], .nilIface]) ∧ RChoice w' (w.heap.size ≤ ·) r.choice (.slice a l cp) ∧ Rd w' rb tb tc ps n' 0 ∧ r.name.length ≤ 2000
  | .err er p => ∃ z, e = .returned (.tuple #[.agg #[.string z, .slice none 0 0], faultV er p]) ∧ ∃ n', Rd w' rb tb tc ps n' 0

def RulePost (w : World) (rb tb tc : Nat) (ps : List (Thk.Tok × Value)) (m n : Nat) (e : Ending) (w' : World) : Prop :=
  ∃ res, Thk.PRule m (tsOf ps n) res ∧ Kp rb w.heap.size w w' ∧ RuleEnd w rb tb tc ps n e w' res

abbrev zRuleO : Obj := .cells #[.string ⟨#[]⟩, .slice none 0 0] 119

theorem kindI_name {k : Thk.TK} (hk : okKind k) : (k = .name ∧ kindI k = 2) ∨ (k ≠ .name ∧ kindI k ≠ 2) := by
  cases k with
  | name => left; exact ⟨rfl, rfl⟩
  | sign c => right; have := signB_ge hk; refine ⟨by simp, ?_⟩; simp only [kindI]; omega
  | _ => right; simp [kindI]
theorem kindI_arrow' {k : Thk.TK} (hk : okKind k) : (k = .arrow ∧ kindI k = 3) ∨ (k ≠ .arrow ∧ kindI k ≠ 3) := by
  cases k with
  | arrow => left; exact ⟨rfl, rfl⟩
  | sign c => right; have := signB_ge hk; refine ⟨by simp, ?_⟩; simp only [kindI]; omega
  | _ => right; simp [kindI]

theorem kp_block {rb : Nat} {W w1 : World} (hb : Kp rb W.heap.size W w1) {b : Nat} (h1 : b < W.heap.size) (h2 : b ≠ rb) : w1.heap[b]? = W.heap[b]? := hb.block b h1 h2

set_option maxHeartbeats 4000000 in
set_option maxRecDepth 100000 in
/-- No name stands there. -/
theorem rule_noName (w : World) (rb tb tc : Nat) (ps : List (Thk.Tok × Value)) (m n : Nat) (h : Rd w rb tb tc ps n 0) (hn : n < ps.length) (hk : ps[n].1.kind ≠ .name) (hki : kindI ps[n].1.kind ≠ 2) :
    Calls Tryz.prog 101 #[.pointer (some ⟨rb, 0, none⟩), .int .i64 m] w fun e w' => RulePost w rb tb tc ps m n e w' := by
  have hrl := h.lt
  have hex := expect_no (w.alloc zRuleO) rb tb tc ps n 0 (h.below (below_alloc _ _)) hn 2 hki
  obtain ⟨a0, b0, e0⟩ := own_form (h.2.1.2 ps[n] (List.getElem_mem hn))
  simp only [tokV, e0] at hex
  clear e0 h hki
  go_enter Tryz.func101, Tryz.ntmps101
  go_wp2_with fail
  refine hex.mono ?_
  rintro e w1 ⟨rfl, hR1, hK1⟩
  have hsz1 := hK1.size
  simp at hsz1
  have hrc1 : w1.heap[w.heap.size]? = some zRuleO := by rw [kp_block hK1 (by simp) (by omega)]; exact heap_alloc_same _ _
  have q1 := cell_of_block hrc1
  have f1 := frozen_of_block hrc1
  have hlt1 : w.heap.size < w1.heap.size := by omega
  have H1 : Hid (Rd w1 rb tb tc ps n 0) := hR1
  have HK1 : Hid (Kp rb w.heap.size w w1) := (Kp.of (below_alloc _ _)).trans (hK1.mono (by simp))
  have HRC : Hid (w1.heap[w.heap.size]? = some zRuleO) := hrc1
  clear hex hR1 hK1 hrc1
  go_wp2_with fail
  refine bodyPost_ret (v := .tuple #[.agg #[.string ⟨#[]⟩, .slice none 0 0], faultV 2 ps[n].1.place]) (by simp [results, Tryz.results101, go_sem, faultV, q1, hlt1]) rfl ?_
  refine ⟨.err 2 ps[n].1.place, ?_, ?_, _, rfl, n, ?_⟩
  · rw [← hd_tsOf hn]; exact .noName (by rw [hd_tsOf hn]; exact hk)
  · exact ((HK1.out.setCell (Nat.le_refl _) _).setCell (Nat.le_refl _) _).alloc (by simp; omega) _
  · refine (H1.out.other (b := w.heap.size) (fun g hg _ => ?_) HRC.out (by decide) (by decide) (by decide)).below (below_alloc _ _)
    rw [Below.heap_setCell _ _ _ _ hg, Below.heap_setCell _ _ _ _ hg]
end Go.Proofs.YtjmcdklhaieldaaGreatDoor
