import Derived.Test.YtiganlkabilblaaGreatDoorV00
import Derived.Deep.LoopGhost
import Derived.Maps.Own
import Derived.Maps.OwnOps
import Derived.Maps.OwnSet
import Derived.Maps.Views
import Derived.Deep.OwnRows
set_option linter.all false
namespace Go.Proofs.YtiganlkabilblaaGreatDoor
open Go.RowKit
theorem own_block_type {w : World} {base : Nat} {e : TypeId} {sz : Nat} {v : Value} {n : Nat} {xs : List Value} (h : w.ownsRow base e sz v n xs) {g : Nat} (hg : v.ownBlock = some g) : ∃ cur, w.heap[g]? = some (.cells cur e (0, 0)) := by
  rcases h.2 with ⟨rfl, _⟩ | ⟨g', cap, cur, rfl, _, hc, _⟩
  · simp [Value.ownBlock] at hg
  · simp [Value.ownBlock] at hg; subst hg; exact ⟨cur, hc⟩
/-- Behind a store into one's own row, rows of other types are as they were. -/
theorem own_but {w w' : World} {b0 base : Nat} {e0 e : TypeId} {sz0 sz : Nat} {u v : Value} {n0 n : Nat} {xs0 xs : List Value} (h : w.ownsRow b0 e0 sz0 u n0 xs0) (hv : w.ownsRow base e sz v n xs)
    (hb : ∀ g, some g ≠ v.ownBlock → g < w.heap.size → w'.heap[g]? = w.heap[g]?) (he : e0 ≠ e) : w'.ownsRow b0 e0 sz0 u n0 xs0 := by
  refine own_blocks h (fun g hg => hb g ?_ (h.lt g hg).2)
  intro e1
  obtain ⟨c1, h1⟩ := own_block_type h hg
  obtain ⟨c2, h2⟩ := own_block_type hv e1.symm
  rw [h1] at h2
  simp at h2
  exact he h2.2
theorem Rd.but {w w' : World} {rb tb tc base : Nat} {ps : List (Thk.Tok × Value)} {k d : Nat} {e : TypeId} {sz : Nat} {v : Value} {n : Nat} {xs : List Value} (h : Rd w rb tb tc ps k d) (hv : w.ownsRow base e sz v n xs)
    (hb : ∀ g, some g ≠ v.ownBlock → g < w.heap.size → w'.heap[g]? = w.heap[g]?) (h1 : 183 ≠ e) (h2 : 237 ≠ e) (h3 : 313 ≠ e) : Rd w' rb tb tc ps k d := by
  refine ⟨?_, ⟨own_but h.2.1.1 hv hb h2, fun p hp => own_but (h.2.1.2 p hp) hv hb h3⟩, h.2.2⟩
  rw [hb rb ?_ h.lt]
  · exact h.1
  · intro e1
    obtain ⟨c2, h2⟩ := own_block_type hv e1.symm
    have := h.1
    rw [h2] at this
    simp at this
    exact h1 this.2.symm
theorem sm_but {w w' : World} {base : Nat} {e : TypeId} {sz : Nat} {v : Value} {n : Nat} {xs : List Value} (hv : w.ownsRow base e sz v n xs)
    (hb : ∀ g, some g ≠ v.ownBlock → g < w.heap.size → w'.heap[g]? = w.heap[g]?) (h3 : 313 ≠ e) {A : Nat → Prop} (hA : ∀ g, A g → some g ≠ v.ownBlock) : Sm A w w' :=
  ⟨fun _ _ h => own_but h hv hb h3, fun g hg ha => hb g (hA g ha) hg⟩
theorem grown2_blocks {w1 w5 : World} {O1 O2 : Obj} {row : Option Nat} (hg : ((w1.alloc O1).alloc O2).grownBy w5 row) : ∀ g, some g ≠ row → g < w1.heap.size → w5.heap[g]? = w1.heap[g]? := by
  intro g h1 h2
  rw [hg.block g (by simp; omega) h1, heap_alloc_old _ _ (by simp; omega), heap_alloc_old _ _ h2]
theorem grown1_blocks {w1 w5 : World} {O1 : Obj} {row : Option Nat} (hg : (w1.alloc O1).grownBy w5 row) : ∀ g, some g ≠ row → g < w1.heap.size → w5.heap[g]? = w1.heap[g]? := by
  intro g h1 h2
  rw [hg.block g (by simp; omega) h1, heap_alloc_old _ _ h2]
def preS (s : Thk.Seq) : Thk.Res Thk.Seq → Thk.Res Thk.Seq := Thk.Res.map (s ++ ·)
def SeqEnd (w : World) (rb tb tc : Nat) (ps : List (Thk.Tok × Value)) (n d : Nat) (e : Ending) (w' : World) : Thk.Res Thk.Seq → Prop
  | .ok s rest => ∃ n' a l cp, rest = tsOf ps n' ∧ n ≤ n' ∧ n' < ps.length ∧ e = .returned (.tuple #[.slice a l cp, .nilIface]) ∧ RSeq w' (w.heap.size ≤ ·) s (.slice a l cp) ∧ Rd w' rb tb tc ps n' d
  | .err er p => EndErr rb tb tc ps d (.slice none 0 0) er p e w'
def SeqPost (w : World) (rb tb tc : Nat) (ps : List (Thk.Tok × Value)) (n d : Nat) (e : Ending) (w' : World) : Prop :=
  ∃ res, Thk.PSeq d (tsOf ps n) res ∧ Kp rb w.heap.size w w' ∧ SeqEnd w rb tb tc ps n d e w' res
/-- What the loop of sequence keeps. -/
structure SeqRel (w : World) (rb tb tc : Nat) (ps : List (Thk.Tok × Value)) (n d k : Nat) (s : Thk.Seq) (vs : List Value) (v : Value) (wr : World) : Prop where
  le : n ≤ k
  lt : k < ps.length
  len : s.length ≤ k - n
  own : wr.ownsRow w.heap.size 249 3 v s.length (termC s vs)
  terms : RTerms wr (fun g => w.heap.size ≤ g ∧ some g ≠ v.ownBlock) s vs
  rd : Rd wr rb tb tc ps k d
  kp : Kp rb w.heap.size w wr
  goes : ∀ r, Thk.PSeq d (tsOf ps k) r → Thk.PSeq d (tsOf ps n) (preS s r)
theorem SeqRel.next {w : World} {rb tb tc : Nat} {ps : List (Thk.Tok × Value)} {n d k : Nat} {s : Thk.Seq} {vs : List Value} {v : Value} {wr : World} (h : SeqRel w rb tb tc ps n d k s vs v wr) (hrl : rb < w.heap.size)
    {a b : UInt8} {pc : Thk.Piece} {x : Value} {k' : Nat} {w1 w5 : World} {v' : Value} {O1 O2 : Obj} (hbg : Thk.begins d (tsOf ps k) = true) (hT : Thk.PTerm d (tsOf ps k) (.ok (.mk a pc b) (tsOf ps k'))) (hk : k < k') (hk' : k' < ps.length)
    (hK : Kp rb wr.heap.size wr w1) (hP : RPiece w1 (wr.heap.size ≤ ·) pc x) (hR : Rd w1 rb tb tc ps k' d)
    (ho : w5.ownsRow w.heap.size 249 3 v' (s.length + 1) (termC s vs ++ [.int .u8 a.toNat, x, .int .u8 b.toNat])) (hg : ((w1.alloc O1).alloc O2).grownBy w5 v.ownBlock)
    (hat : v'.ownBlock = v.ownBlock ∨ v'.ownBlock = some (w1.heap.size + 1 + 1)) :
    SeqRel w rb tb tc ps n d k' (s ++ [.mk a pc b]) (vs ++ [x]) v' w5 := by
  have hsz := hK.size
  have hwr := h.kp.size
  have hown1 : w1.ownsRow w.heap.size 249 3 v s.length (termC s vs) := own_kp h.own h.rd.1 (by decide) hK
  have hbl := grown2_blocks hg
  have hgs := hg.size
  simp at hgs
  have hvb : ∀ g, v.ownBlock = some g → g < wr.heap.size := fun g hg => (h.own.lt g hg).2
  have hA : ∀ g, g < w1.heap.size → w.heap.size ≤ g → some g ≠ v.ownBlock → (w.heap.size ≤ g ∧ some g ≠ v'.ownBlock) := by
    intro g h1 h2 h3
    refine ⟨h2, ?_⟩
    rcases hat with e | e <;> rw [e]
    · exact h3
    · simp; omega
  refine ⟨by have := h.le; omega, hk', by have := h.len; have := h.le; simp; omega, ?_, ?_, ?_, ?_, ?_⟩
  · rw [termC_append _ _ (RTerms.length h.terms)]; simpa using ho
  · refine RTerms.snoc ?_ ?_
    · simp only [RTerm]
      have p1 : RPiece w1 (fun g => wr.heap.size ≤ g ∧ g < w1.heap.size) pc x := RPiece.mono (fun g h1 h2 => ⟨h2, h1⟩) pc x hP
      have p2 : RPiece w5 (fun g => wr.heap.size ≤ g ∧ g < w1.heap.size) pc x := RPiece.kept (sm_but hown1 hbl (by decide) (fun g hg e => by have := hvb g e.symm; omega)) pc x p1
      exact RPiece.mono (fun g _ hg => hA g hg.2 (by omega) (fun e => by have := hvb g e.symm; omega)) pc x p2
    · have p0 := RTerms.kept (sm_kp (A := fun g => w.heap.size ≤ g ∧ some g ≠ v.ownBlock) h.rd.1 hK (fun g hg => by omega)) s vs h.terms
      have p1 : RTerms w1 (fun g => (w.heap.size ≤ g ∧ some g ≠ v.ownBlock) ∧ g < w1.heap.size) s vs := RTerms.mono (fun g h1 h2 => ⟨h2, h1⟩) s vs p0
      have p2 : RTerms w5 (fun g => (w.heap.size ≤ g ∧ some g ≠ v.ownBlock) ∧ g < w1.heap.size) s vs := RTerms.kept (sm_but hown1 hbl (by decide) (fun g hg => hg.1.2)) s vs p1
      exact RTerms.mono (fun g _ hg => hA g hg.2 hg.1.1 hg.1.2) s vs p2
  · exact hR.but hown1 hbl (by decide) (by decide) (by decide)
  · exact ((((h.kp.trans (hK.mono hwr))).alloc (by omega) O1).alloc (by simp; omega) O2).grown hg (by simp; omega) (fun g hg' => (h.own.lt g hg').1)
  · intro r hr
    cases r with
    | ok s' rest => exact (by simpa [preS, Thk.Res.map] using h.goes _ (.cons hbg hT hr))
    | err e p => exact (by simpa [preS, Thk.Res.map] using h.goes _ (.later hbg hT hr))
theorem cell_three_new (w : World) (x y z : Value) (t : TypeId) : ∀ j q, [x, y, z][j]? = some q → (w.alloc (.cells #[x, y, z] t)).cell? ((⟨w.heap.size, 0, none⟩ : Addr).add j) = some q := by
  intro j q hj
  match j, hj with
  | 0, hj => simp at hj; subst hj; simp [Addr.add]
  | 1, hj => simp at hj; subst hj; simp [Addr.add]
  | 2, hj => simp at hj; subst hj; simp [Addr.add]
theorem Tryz.infoTerm : (Tryz.prog.info? 249).map (fun i => (i.zero, i.size, i.bytes)) = some (some (.agg #[.int .u8 0, .nilIface, .int .u8 0]), 3, 32) := by kernel_rfl
set_option maxHeartbeats 4000000 in
set_option maxRecDepth 100000 in
theorem sequence_any (w : World) (rb tb tc : Nat) (ps : List (Thk.Tok × Value)) (n d : Nat) (h : Rd w rb tb tc ps n d) (hg : GoodP ps) (hn : n < ps.length) (hd : d ≤ 6)
    (R : Nat) (hR : ps.length - n ≤ R) (hC : ∀ R', R' < R → ChoiceC rb tb tc ps R') :
    Calls Tryz.prog 184 #[.pointer (some ⟨rb, 0, none⟩)] w fun e w' => SeqPost w rb tb tc ps n d e w' := by
  obtain ⟨i0, hi, hz0, hz1, hz2⟩ := info_parts Tryz.infoTerm
  have hrl := h.lt
  have hl := h.2.2.1
  have hbt := fun w' k (hr : Rd w' rb tb tc ps k d) (hk : k < ps.length) => beginsTerm_any w' rb tb tc ps k d hr hg hk hd
  have htm := fun w' k (hr : Rd w' rb tb tc ps k d) (hk : k < ps.length) (hnk : n ≤ k) => term_any w' rb tb tc ps k d hr hg hk hd R (by omega) hC
  have H : Hid (Rd w rb tb tc ps n d) := h
  clear h hC
  go_enter Tryz.func184, Tryz.ntmps184
  go_wp2_with fail
  go_loopg [4] (ps.length - n) (fun g v wr => ∃ k s vs, g = ps.length - k ∧ SeqRel w rb tb tc ps n d k s vs v wr)
  case atStart =>
    refine ⟨n, [], [], rfl, Nat.le_refl _, hn, by simp, World.ownsRow_nil _ _ _ _, by simp [RTerms], H.out, Kp.refl _ _ _, ?_⟩
    intro r hr; cases r <;> exact hr
  case round =>
    obtain ⟨k, s, vs, rfl, hS⟩ := hrel
    have hb := hbt wr k hS.rd hS.lt
    have hkl := hS.lt
    have hnk := hS.le
    have hsl := hS.len
    have hwr := hS.kp.size
    have HS : Hid (SeqRel w rb tb tc ps n d k s vs u4 wr) := hS
    have hown := hS.own
    obtain ⟨a0, c0, hv⟩ := own_form hown
    subst hv
    clear hS hbt
    cases hbg : Thk.begins d (tsOf ps k) with
    | false =>
      rw [hbg] at hb
      have HBG : Hid (Thk.begins d (tsOf ps k) = false) := hbg
      clear hbg htm hown
      go_wp2_with (first | (go_at_call 195; refine hb.mono ?_; rintro e w1 ⟨rfl, q, rfl⟩))
      go_ret2
      have hp := HS.out.goes _ (.nil HBG.out)
      simp only [preS, Thk.Res.map, List.append_nil] at hp
      refine ⟨_, hp, HS.out.kp.drewN q, k, a0, s.length, c0, rfl, hnk, hkl, rfl, ⟨vs, ⟨?_, ?_⟩, ?_⟩, HS.out.rd.drewN q⟩
      · exact own_mono HS.out.own (Nat.zero_le _)
      · intro g hg; exact (HS.out.own.lt g hg).1
      · have h1 : RTerms wr (w.heap.size ≤ ·) s vs := RTerms.mono (fun g _ hg => hg.1) s vs HS.out.terms
        exact RTerms.kept (w := wr) (w' := wr.drewN q) ⟨fun _ _ h => h, fun _ _ _ => rfl⟩ s vs h1
    | true =>
      rw [hbg] at hb
      have HBG : Hid (Thk.begins d (tsOf ps k) = true) := hbg
      have ht := fun q => htm (wr.drewN q) k (HS.out.rd.drewN q) hkl hnk
      clear hbg htm
      go_wp2_with (first | (go_at_call 195; refine hb.mono ?_; rintro e w1 ⟨rfl, q, rfl⟩))
      refine (ht q).mono ?_
      rintro e w1 ⟨res, hP, hK1, hE⟩
      have hsz1 := hK1.size
      have hK1' : Kp rb wr.heap.size wr w1 := (Kp.drewN (Kp.refl _ _ _) q).trans hK1
      clear hK1 ht hb
      simp only [World.heap_drewN] at hsz1
      have HP : Hid (Thk.PTerm d (tsOf ps k) res) := hP
      have HK1 : Hid (Kp rb wr.heap.size wr w1) := hK1'
      clear hP hK1'
      cases res with
      | err er p =>
        obtain ⟨rfl, n', hR1⟩ := hE
        simp only [faultV, zTerm]
        have H1 : Hid (Rd w1 rb tb tc ps n' d) := hR1
        clear hR1 hown
        go_wp2_with fail
        go_ret2
        have hp := HS.out.goes _ (.err HBG.out HP.out)
        exact ⟨_, hp, (HS.out.kp.trans (HK1.out.mono hwr)).alloc (by omega) _, rfl, n', H1.out.below (below_alloc _ _)⟩
      | ok t rest =>
        obtain ⟨a, pc, b⟩ := t
        obtain ⟨k', x, rfl, hlt, hk', rfl, hRP, hR1⟩ := hE
        obtain ⟨tt, xx, rfl⟩ := RPiece.oneCell hRP
        have HRP : Hid (RPiece w1 (wr.heap.size ≤ ·) pc (.iface tt xx)) := hRP
        have H1 : Hid (Rd w1 rb tb tc ps k' d) := hR1
        have hown1 : w1.ownsRow w.heap.size 249 3 (.slice a0 s.length c0) s.length (termC s vs) := own_kp hown HS.out.rd.1 (by decide) HK1.out
        clear hRP hR1 hown
        go_wp2_with (first | (at_builtin; refine wpList_append_own_at _ rfl _ _ 215 rfl (w.heap.size) 249 i0 _ 3 32 Tryz.underlying215 hi hz0 hz1 hz2 rfl (by decide) _ _ _ rfl ((hown1.alloc _).alloc _) ⟨w1.heap.size + 1, 0, none⟩ 1 1 [.int .u8 a.toNat, .iface tt xx, .int .u8 b.toNat] rfl rfl ?c1 ?c2 ?c3 ?c4 ?c5 ?_))
        case c1 => rw [← World.size_alloc w1 (.cells #[.int .u8 a.toNat, .iface tt xx, .int .u8 b.toNat] 249)]; exact cell_three_new _ _ _ _ _
        case c2 => intro u hu; simp at hu; rcases hu with rfl | rfl | rfl <;> rfl
        case c3 => unfold maxLen; omega
        case c4 => omega
        case c5 => simp; omega
        intro v' w5 hown' hgrow _ hat
        have hN := HS.out.next hrl HBG.out HP.out hlt hk' HK1.out HRP.out H1.out hown' hgrow hat
        clear hown' hgrow hat hown1
        go_wp2_with fail
        go_roundg (ps.length - k')
        case measure => omega
        case rel => exact ⟨k', _, _, rfl, hN⟩
end Go.Proofs.YtiganlkabilblaaGreatDoor
namespace Go.Proofs.YtiganlkabilblaaGreatDoor
open Go.RowKit
def preC (c : Thk.Choice) : Thk.Res Thk.Choice → Thk.Res Thk.Choice := Thk.Res.map (c ++ ·)
/-- What the loop of choice keeps. -/
structure ChRel (w : World) (rb tb tc : Nat) (ps : List (Thk.Tok × Value)) (n d k : Nat) (c : Thk.Choice) (us : List Value) (v : Value) (wr : World) : Prop where
  le : n ≤ k
  lt : k < ps.length
  len : c.length ≤ k - n
  own : wr.ownsRow w.heap.size 215 1 v c.length us
  seqs : RSeqs wr (fun g => w.heap.size ≤ g ∧ some g ≠ v.ownBlock) c us
  rd : Rd wr rb tb tc ps k d
  kp : Kp rb w.heap.size w wr
  goes : ∀ r, Thk.PChoice d (tsOf ps k) r → Thk.PChoice d (tsOf ps n) (preC c r)
/-- One sequence more. -/
theorem ChRel.push {w : World} {rb tb tc : Nat} {ps : List (Thk.Tok × Value)} {n d k : Nat} {c : Thk.Choice} {us : List Value} {v : Value} {wr : World} (h : ChRel w rb tb tc ps n d k c us v wr) (hrl : rb < w.heap.size)
    {s : Thk.Seq} {x : Value} {k' : Nat} {w1 w5 : World} {v' : Value} {O1 : Obj}
    (hK : Kp rb wr.heap.size wr w1) (hP : RSeq w1 (wr.heap.size ≤ ·) s x) (hR : Rd w1 rb tb tc ps k' d)
    (ho : w5.ownsRow w.heap.size 215 1 v' (c.length + 1) (us ++ [x])) (hg : (w1.alloc O1).grownBy w5 v.ownBlock)
    (hat : v'.ownBlock = v.ownBlock ∨ v'.ownBlock = some (w1.heap.size + 1)) :
    w5.ownsRow w.heap.size 215 1 v' (c ++ [s]).length (us ++ [x]) ∧ RSeqs w5 (fun g => w.heap.size ≤ g ∧ some g ≠ v'.ownBlock) (c ++ [s]) (us ++ [x]) ∧ Rd w5 rb tb tc ps k' d ∧ Kp rb w.heap.size w w5 := by
  have hsz := hK.size
  have hwr := h.kp.size
  have hown1 : w1.ownsRow w.heap.size 215 1 v c.length us := own_kp h.own h.rd.1 (by decide) hK
  have hbl := grown1_blocks hg
  have hgs := hg.size
  simp at hgs
  have hvb : ∀ g, v.ownBlock = some g → g < wr.heap.size := fun g hg => (h.own.lt g hg).2
  have hA : ∀ g, g < w1.heap.size → w.heap.size ≤ g → some g ≠ v.ownBlock → (w.heap.size ≤ g ∧ some g ≠ v'.ownBlock) := by
    intro g h1 h2 h3
    refine ⟨h2, ?_⟩
    rcases hat with e | e <;> rw [e]
    · exact h3
    · simp; omega
  refine ⟨by simpa using ho, ?_, ?_, ?_⟩
  · refine RSeqs.snoc ?_ ?_
    · have p1 : RSeq w1 (fun g => wr.heap.size ≤ g ∧ g < w1.heap.size) s x := hP.mono (fun g h1 h2 => ⟨h2, h1⟩)
      have p2 : RSeq w5 (fun g => wr.heap.size ≤ g ∧ g < w1.heap.size) s x := p1.kept (sm_but hown1 hbl (by decide) (fun g hg e => by have := hvb g e.symm; omega))
      exact p2.mono (fun g _ hg => hA g hg.2 (by omega) (fun e => by have := hvb g e.symm; omega))
    · have p0 := RSeqs.kept (sm_kp (A := fun g => w.heap.size ≤ g ∧ some g ≠ v.ownBlock) h.rd.1 hK (fun g hg => by omega)) c us h.seqs
      have p1 : RSeqs w1 (fun g => (w.heap.size ≤ g ∧ some g ≠ v.ownBlock) ∧ g < w1.heap.size) c us := RSeqs.mono (fun g h1 h2 => ⟨h2, h1⟩) c us p0
      have p2 : RSeqs w5 (fun g => (w.heap.size ≤ g ∧ some g ≠ v.ownBlock) ∧ g < w1.heap.size) c us := RSeqs.kept (sm_but hown1 hbl (by decide) (fun g hg => hg.1.2)) c us p1
      exact RSeqs.mono (fun g _ hg => hA g hg.2 hg.1.1 hg.1.2) c us p2
  · exact hR.but hown1 hbl (by decide) (by decide) (by decide)
  · exact (((h.kp.trans (hK.mono hwr))).alloc (by omega) O1).grown hg (by simp; omega) (fun g hg' => (h.own.lt g hg').1)
theorem Tryz.infoSeq : (Tryz.prog.info? 215).map (fun i => (i.zero, i.size, i.bytes)) = some (some (.slice none 0 0), 1, 24) := by kernel_rfl
theorem kindI_slash {k : Thk.TK} (hk : okKind k) : (k = .sign 47 ∧ kindI k = 47) ∨ (k ≠ .sign 47 ∧ (kindI k != 47) = true) := by
  by_cases h : k = .sign 47
  · left; subst h; exact ⟨rfl, rfl⟩
  · right
    refine ⟨h, ?_⟩
    rw [bne_iff_ne]
    intro e
    exact h (kindI_sign hk (c := 47) (by decide) (by rw [e]; rfl))
set_option maxHeartbeats 4000000 in
set_option maxRecDepth 100000 in
theorem choice_step (rb tb tc : Nat) (ps : List (Thk.Tok × Value)) (hg : GoodP ps) (R : Nat) (hC : ∀ R', R' < R → ChoiceC rb tb tc ps R') : ChoiceC rb tb tc ps R := by
  intro w n d h hn hR hd
  obtain ⟨i0, hi, hz0, hz1, hz2⟩ := info_parts Tryz.infoSeq
  have hrl := h.lt
  have hl := h.2.2.1
  have hsq := fun w' k (hr : Rd w' rb tb tc ps k d) (hk : k < ps.length) (hnk : n ≤ k) => sequence_any w' rb tb tc ps k d hr hg hk hd R (by omega) hC
  have H : Hid (Rd w rb tb tc ps n d) := h
  clear h hC
  go_enter Tryz.func163, Tryz.ntmps163
  go_wp2_with fail
  go_loopg [4] (ps.length - n) (fun g v wr => ∃ k c us, g = ps.length - k ∧ ChRel w rb tb tc ps n d k c us v wr)
  case atStart =>
    refine ⟨n, [], [], rfl, Nat.le_refl _, hn, by simp, World.ownsRow_nil _ _ _ _, by simp [RSeqs], H.out, Kp.refl _ _ _, ?_⟩
    intro r hr; cases r <;> exact hr
  case round =>
    obtain ⟨k, c, us, rfl, hS⟩ := hrel
    have hs := hsq wr k hS.rd hS.lt hS.le
    have hkl := hS.lt
    have hnk := hS.le
    have hcl := hS.len
    have hwr := hS.kp.size
    have HS : Hid (ChRel w rb tb tc ps n d k c us u4 wr) := hS
    have hown := hS.own
    clear hS hsq
    go_wp2_with fail
    refine hs.mono ?_
    rintro e w1 ⟨res, hP, hK1, hE⟩
    have hsz1 := hK1.size
    have HP : Hid (Thk.PSeq d (tsOf ps k) res) := hP
    have HK1 : Hid (Kp rb wr.heap.size wr w1) := hK1
    clear hs hP hK1
    cases res with
    | err er p =>
      obtain ⟨rfl, n', hR1⟩ := hE
      simp only [faultV]
      have H1 : Hid (Rd w1 rb tb tc ps n' d) := hR1
      clear hR1 hown
      go_wp2_with fail
      go_ret2
      exact ⟨_, HS.out.goes _ (.err HP.out), HS.out.kp.trans (HK1.out.mono hwr), rfl, n', H1.out⟩
    | ok s rest =>
      obtain ⟨k', sa, sl, sc, rfl, hle, hk', rfl, hRS, hR1⟩ := hE
      have HRS : Hid (RSeq w1 (wr.heap.size ≤ ·) s (.slice sa sl sc)) := hRS
      have H1 : Hid (Rd w1 rb tb tc ps k' d) := hR1
      have hown1 : w1.ownsRow w.heap.size 215 1 u4 c.length us := own_kp hown HS.out.rd.1 (by decide) HK1.out
      clear hRS hR1 hown
      go_wp2_with (first | (at_builtin; refine wpList_append_own_at _ rfl _ _ 140 rfl (w.heap.size) 215 i0 _ 1 24 Tryz.underlying140 hi hz0 hz1 hz2 rfl (by decide) _ _ _ rfl (hown1.alloc _) ⟨w1.heap.size, 0, none⟩ 1 1 [.slice sa sl sc] rfl rfl ?c1 ?c2 ?c3 ?c4 ?c5 ?_))
      case c1 => exact cell_one_new _ _ _
      case c2 => intro u hu; simp at hu; subst hu; rfl
      case c3 => unfold maxLen; omega
      case c4 => omega
      case c5 => simp; omega
      intro v' w5 hown' hgrow _ hat
      obtain ⟨p1, p2, p3, p4⟩ := HS.out.push hrl HK1.out HRS.out H1.out hown' hgrow hat
      obtain ⟨va, vc, hv⟩ := own_form hown'
      subst hv
      have P1 : Hid (w5.ownsRow w.heap.size 215 1 (.slice va (c.length + 1) vc) (c ++ [s]).length (us ++ [.slice sa sl sc])) := p1
      have P2 : Hid (RSeqs w5 (fun g => w.heap.size ≤ g ∧ some g ≠ (Value.slice va (c.length + 1) vc).ownBlock) (c ++ [s]) (us ++ [.slice sa sl sc])) := p2
      have P3 : Hid (Rd w5 rb tb tc ps k' d) := p3
      have P4 : Hid (Kp rb w.heap.size w w5) := p4
      obtain ⟨r0, r1, r2, rf⟩ := p3.cells
      clear hown' hgrow hat hown1 p1 p2 p3 p4
      rcases kindI_slash (hg k' hk').1 with ⟨hks, hki⟩ | ⟨hks, hki⟩
      · have hkd := kind_of w5 rb tb tc ps k' d P3.out hk' 47 hki
        have hk1 : k' + 1 < ps.length := (hg k' hk').2 (by rw [hks]; rfl)
        have HKS : Hid (ps[k'].1.kind = .sign 47) := hks
        clear hks hki
        go_wp2_with (first | (go_at_call 124; refine hkd.mono ?_; rintro e w6 ⟨rfl, q, rfl⟩))
        have hN : ChRel w rb tb tc ps n d (k' + 1) (c ++ [s]) (us ++ [.slice sa sl sc]) (.slice va (c.length + 1) vc) ((w5.setCell ⟨rb, 1, none⟩ (.int .i64 ((k' : Int) + 1))).drewN q) := by
          have hKs : Kp rb w5.heap.size w5 ((w5.setCell ⟨rb, 1, none⟩ (.int .i64 ((k' : Int) + 1))).drewN q) := ((Kp.refl _ _ _).setRb _ _).drewN q
          refine ⟨by omega, hk1, by simp; omega, own_kp P1.out P3.out.1 (by decide) hKs, RSeqs.kept (sm_kp P3.out.1 hKs (fun g hg => by omega)) _ _ P2.out, (P3.out.set1 (k' + 1)).drewN q, (P4.out.setRb _ _).drewN q, ?_⟩
          intro r hr
          have hm : Thk.PSeq d (tsOf ps k) (.ok s (tsOf ps k')) := HP.out
          rw [← tl_tsOf hk'] at hr
          have hsl : (Thk.hd (tsOf ps k')).kind = .sign 47 := by rw [hd_tsOf hk']; exact HKS.out
          cases r with
          | ok c' rest => exact (by simpa [preC, Thk.Res.map] using HS.out.goes _ (.more hm hsl hr))
          | err e p => exact (by simpa [preC, Thk.Res.map] using HS.out.goes _ (.later hm hsl hr))
        go_roundg (ps.length - (k' + 1))
        case measure => omega
        case rel => exact ⟨k' + 1, _, _, rfl, hN⟩
      · have hkd := kind_of w5 rb tb tc ps k' d P3.out hk' _ rfl
        have HKS : Hid (ps[k'].1.kind ≠ .sign 47) := hks
        clear hks
        generalize kindI ps[k'].1.kind = K at *
        go_wp2_with (first | (go_at_call 124; refine hkd.mono ?_; rintro e w6 ⟨rfl, q, rfl⟩))
        go_ret2
        have hp := HS.out.goes _ (.last HP.out (by rw [hd_tsOf hk']; exact HKS.out))
        refine ⟨_, hp, P4.out.drewN q, k', va, c.length + 1, vc, rfl, by omega, hk', rfl, ⟨us ++ [.slice sa sl sc], ⟨?_, ?_⟩, ?_⟩, P3.out.drewN q⟩
        · exact own_mono P1.out (Nat.zero_le _)
        · intro g hg; exact (P1.out.lt g hg).1
        · have h1 : RSeqs w5 (w.heap.size ≤ ·) (c ++ [s]) (us ++ [.slice sa sl sc]) := RSeqs.mono (fun g _ hg => hg.1) _ _ P2.out
          exact RSeqs.kept (w := w5) (w' := w5.drewN q) ⟨fun _ _ h => h, fun _ _ _ => rfl⟩ _ _ h1
theorem choice_any (rb tb tc : Nat) (ps : List (Thk.Tok × Value)) (hg : GoodP ps) (R : Nat) : ChoiceC rb tb tc ps R := by
  induction R using Nat.strongRecOn with
  | ind R ih => exact choice_step rb tb tc ps hg R ih
end Go.Proofs.YtiganlkabilblaaGreatDoor
namespace Go.Proofs.YtiganlkabilblaaGreatDoor
open Go.RowKit
def RuleEnd (w : World) (rb tb tc : Nat) (ps : List (Thk.Tok × Value)) (n : Nat) (e : Ending) (w' : World) : Thk.Res Thk.Rule → Prop
  | .ok r rest => ∃ n' a l cp, rest = tsOf ps n' ∧ n < n' ∧ n' < ps.length ∧ e = .returned (.tuple #[.agg #[.string ⟨r.name.toArray⟩, .slice a l cp], .nilIface]) ∧ RChoice w' (w.heap.size ≤ ·) r.choice (.slice a l cp) ∧ Rd w' rb tb tc ps n' 0 ∧ r.name.length ≤ 2000
  | .err er p => ∃ z, e = .returned (.tuple #[.agg #[.string z, .slice none 0 0], faultV er p]) ∧ ∃ n', Rd w' rb tb tc ps n' 0
def RulePost (w : World) (rb tb tc : Nat) (ps : List (Thk.Tok × Value)) (m n : Nat) (e : Ending) (w' : World) : Prop :=
  ∃ res, Thk.PRule m (tsOf ps n) res ∧ Kp rb w.heap.size w w' ∧ RuleEnd w rb tb tc ps n e w' res
abbrev zRuleO : Obj := .cells #[.string ⟨#[]⟩, .slice none 0 0] 142
theorem kindI_name {k : Thk.TK} (hk : okKind k) : (k = .name ∧ kindI k = 2) ∨ (k ≠ .name ∧ kindI k ≠ 2) := by
  cases k with
  | name => left; exact ⟨rfl, rfl⟩
  | sign c => right; have := signB_ge hk; refine ⟨by simp, ?_⟩; simp only [kindI]; omega
  | _ => right; simp [kindI]
theorem kindI_arrow' {k : Thk.TK} (hk : okKind k) : (k = .arrow ∧ kindI k = 3) ∨ (k ≠ .arrow ∧ kindI k ≠ 3) := by
  cases k with
  | arrow => left; exact ⟨rfl, rfl⟩
  | sign c => right; have := signB_ge hk; refine ⟨by simp, ?_⟩; simp only [kindI]; omega
  | _ => right; simp [kindI]
theorem kp_block {rb : Nat} {W w1 : World} (hb : Kp rb W.heap.size W w1) {b : Nat} (h1 : b < W.heap.size) (h2 : b ≠ rb) : w1.heap[b]? = W.heap[b]? := hb.block b h1 h2
set_option maxHeartbeats 4000000 in
set_option maxRecDepth 100000 in
/-- No name stands there. -/
theorem rule_noName (w : World) (rb tb tc : Nat) (ps : List (Thk.Tok × Value)) (m n : Nat) (h : Rd w rb tb tc ps n 0) (hn : n < ps.length) (hk : ps[n].1.kind ≠ .name) (hki : kindI ps[n].1.kind ≠ 2) :
    Calls Tryz.prog 123 #[.pointer (some ⟨rb, 0, none⟩), .int .i64 m] w fun e w' => RulePost w rb tb tc ps m n e w' := by
  have hrl := h.lt
  have hex := expect_no (w.alloc zRuleO) rb tb tc ps n 0 (h.below (below_alloc _ _)) hn 2 hki
  obtain ⟨a0, b0, e0⟩ := own_form (h.2.1.2 ps[n] (List.getElem_mem hn))
  simp only [tokV, e0] at hex
  clear e0 h hki
  go_enter Tryz.func123, Tryz.ntmps123
  go_wp2_with fail
  refine hex.mono ?_
  rintro e w1 ⟨rfl, hR1, hK1⟩
  have hsz1 := hK1.size
  simp at hsz1
  have hrc1 : w1.heap[w.heap.size]? = some zRuleO := by rw [kp_block hK1 (by simp) (by omega)]; exact heap_alloc_same _ _
  have q1 := cell_of_block hrc1
  have f1 := frozen_of_block hrc1
  have hlt1 : w.heap.size < w1.heap.size := by omega
  have H1 : Hid (Rd w1 rb tb tc ps n 0) := hR1
  have HK1 : Hid (Kp rb w.heap.size w w1) := (Kp.of (below_alloc _ _)).trans (hK1.mono (by simp))
  have HRC : Hid (w1.heap[w.heap.size]? = some zRuleO) := hrc1
  clear hex hR1 hK1 hrc1
  go_wp2_with fail
  refine bodyPost_ret (v := .tuple #[.agg #[.string ⟨#[]⟩, .slice none 0 0], faultV 2 ps[n].1.place]) (by simp [results, Tryz.results123, go_sem, faultV, q1, hlt1]) rfl ?_
  refine ⟨.err 2 ps[n].1.place, ?_, ?_, _, rfl, n, ?_⟩
  · rw [← hd_tsOf hn]; exact .noName (by rw [hd_tsOf hn]; exact hk)
  · exact ((HK1.out.setCell (Nat.le_refl _) _).setCell (Nat.le_refl _) _).alloc (by simp; omega) _
  · refine (H1.out.other (b := w.heap.size) (fun g hg _ => ?_) HRC.out (by decide) (by decide) (by decide)).below (below_alloc _ _)
    rw [Below.heap_setCell _ _ _ _ hg, Below.heap_setCell _ _ _ _ hg]
end Go.Proofs.YtiganlkabilblaaGreatDoor
namespace Go.Proofs.YtiganlkabilblaaGreatDoor
open Go.RowKit
set_option maxHeartbeats 8000000 in
set_option maxRecDepth 100000 in
/-- A name stands there. -/
theorem rule_name (w : World) (rb tb tc : Nat) (ps : List (Thk.Tok × Value)) (m n : Nat) (h : Rd w rb tb tc ps n 0) (hg : GoodP ps) (hn : n < ps.length) (hm : m ≤ 20) (hk : ps[n].1.kind = .name) :
    Calls Tryz.prog 123 #[.pointer (some ⟨rb, 0, none⟩), .int .i64 m] w fun e w' => RulePost w rb tb tc ps m n e w' := by
  have hrl := h.lt
  have hl := h.2.2.1
  have HTX : Hid (ps[n].1.text.length ≤ 2000) := h.2.2.2 ps[n] (List.getElem_mem hn)
  have hex := expect_yes (w.alloc zRuleO) rb tb tc ps n 0 (h.below (below_alloc _ _)) hn 2 (by rw [hk]; rfl)
  have hn1 : n + 1 < ps.length := (hg n hn).2 (by rw [hk]; rfl)
  have hok1 := (hg (n + 1) hn1).1
  obtain ⟨a0, b0, e0⟩ := own_form (h.2.1.2 ps[n] (List.getElem_mem hn))
  obtain ⟨a1, b1, e1⟩ := own_form (h.2.1.2 ps[n + 1] (List.getElem_mem hn1))
  simp only [tokV, e0] at hex
  have HK : Hid (ps[n].1.kind = .name) := hk
  have E1 : Hid (ps[n + 1].2 = .slice a1 ps[n + 1].1.spans.length b1) := e1
  clear e0 h hk e1
  go_enter Tryz.func123, Tryz.ntmps123
  go_wp2_with fail
  refine hex.mono ?_
  rintro e w1 ⟨rfl, hR1, hK1⟩
  have hsz1 := hK1.size
  simp at hsz1
  have hrc1 : w1.heap[w.heap.size]? = some zRuleO := by rw [kp_block hK1 (by simp) (by omega)]; exact heap_alloc_same _ _
  have hlt1 : w.heap.size < w1.heap.size := by omega
  have HK1 : Hid (Kp rb w.heap.size w w1) := (Kp.of (below_alloc _ _)).trans (hK1.mono (by simp))
  obtain ⟨O, hO⟩ : ∃ O : Obj, O = .cells #[.int .u8 (kindI ps[n].1.kind), .int .i64 ↑ps[n].1.place, .string ⟨List.toArray ps[n].1.text⟩, .slice a0 ps[n].1.spans.length b0] 237 := ⟨_, rfl⟩
  have hR1' : Rd (w1.alloc O) rb tb tc ps (n + 1) 0 := hR1.below (below_alloc _ _)
  have hrc1' : (w1.alloc O).heap[w.heap.size]? = some zRuleO := by rw [heap_alloc_old _ _ hlt1]; exact hrc1
  have hkd := kind_of (w1.alloc O) rb tb tc ps (n + 1) 0 hR1' hn1 _ rfl
  have hrf := fun q => refuse_any ((w1.alloc O).drewN q) rb tb tc ps (n + 1) 0 hR1' hn1 4
  have hey := fun q (hK3 : kindI ps[n + 1].1.kind = 3) => expect_yes ((w1.alloc O).drewN q) rb tb tc ps (n + 1) 0 hR1' hn1 3 hK3
  have hen := fun q (hK3 : kindI ps[n + 1].1.kind ≠ 3) => expect_no ((w1.alloc O).drewN q) rb tb tc ps (n + 1) 0 hR1' hn1 3 hK3
  simp only [tokV, E1.out] at hey hen
  have H1 : Hid (Rd (w1.alloc O) rb tb tc ps (n + 1) 0) := hR1'
  have HRC : Hid ((w1.alloc O).heap[w.heap.size]? = some zRuleO) := hrc1'
  have HW : Hid (Kp rb w.heap.size w (w1.alloc O)) := HK1.out.alloc (by omega) O
  have hszO : (w1.alloc O).heap.size = w1.heap.size + 1 := by simp
  have hname : (w1.alloc O).cell? ⟨w1.heap.size, 2, none⟩ = some (.string ⟨List.toArray ps[n].1.text⟩) := by rw [hO]; simp
  have HR1 : Hid (Rd w1 rb tb tc ps (n + 1) 0) := hR1
  have HRC1 : Hid (w1.heap[w.heap.size]? = some zRuleO) := hrc1
  subst hO
  clear hex hR1 hK1 hrc1 hR1' hrc1'
  have q1 := cell_of_block HRC.out
  have f1 := frozen_of_block HRC.out
  rcases kindI_arrow' hok1 with ⟨hka, hki⟩ | ⟨hka, hki⟩
  · by_cases hm20 : m = 20
    · subst hm20
      rw [hki] at hkd
      have HKA : Hid (ps[n + 1].1.kind = .arrow) := hka
      clear hka hey hen
      go_wp2_with (first | (go_at_call 124; refine hkd.mono ?_; rintro e w2 ⟨rfl, q, rfl⟩) | (go_at_call 162; refine (hrf _).mono ?_; rintro e w3 ⟨rfl, q2, rfl⟩))
      refine bodyPost_ret (v := .tuple #[.agg #[.string ⟨#[]⟩, .slice none 0 0], faultV 4 ps[n + 1].1.place]) (by simp [results, Tryz.results123, go_sem, faultV, q1, hlt1, HRC1.out, cell_of_block HRC1.out]) rfl ?_
      refine ⟨.err 4 ps[n + 1].1.place, ?_, ?_, _, rfl, n + 1, ?_⟩
      · rw [← hd_tsOf hn1, ← tl_tsOf hn]; exact .many (by rw [hd_tsOf hn]; exact HK.out) (by rw [tl_tsOf hn, hd_tsOf hn1]; exact HKA.out)
      · exact ((HW.out.drewN _).setCell (Nat.le_refl _) _).setCell (Nat.le_refl _) _
      · refine (H1.out.drewN (q + q2)).other (b := w.heap.size) (fun g hg _ => ?_) HRC.out (by decide) (by decide) (by decide)
        rw [Below.heap_setCell _ _ _ _ hg, Below.heap_setCell _ _ _ _ hg]
    · have tm : ((m : Int) == 20) = false := beq_eq_false_iff_ne.2 (by omega)
      rw [hki] at hkd
      have HKA : Hid (ps[n + 1].1.kind = .arrow) := hka
      have hey' := fun q => hey q hki
      have hn2 : n + 1 + 1 < ps.length := (hg (n + 1) hn1).2 (by rw [hka]; rfl)
      clear hka hey hen hrf
      go_wp2_with (first | (go_at_call 124; refine hkd.mono ?_; rintro e w2 ⟨rfl, q, rfl⟩))
      refine (hey' q).mono ?_
      rintro e w3 ⟨rfl, hR3, hK3⟩
      have hsz3 := hK3.size
      simp only [World.heap_drewN, hszO] at hsz3
      have hrc3 : w3.heap[w.heap.size]? = some zRuleO := by
        rw [kp_block hK3 (by simp; omega) (by omega)]; exact HRC.out
      have hK3' : Kp rb w.heap.size w w3 := (HW.out.drewN q).trans (hK3.mono (by simp; omega))
      have hnm3 : w3.cell? ⟨w1.heap.size, 2, none⟩ = some (.string ⟨List.toArray ps[n].1.text⟩) := by
        rw [kp_cell hK3 (by simp) (by omega)]; exact hname
      obtain ⟨O2, hO2⟩ : ∃ O : Obj, O = .cells #[.int .u8 3, .int .i64 ↑ps[n + 1].1.place, .string ⟨List.toArray ps[n + 1].1.text⟩, .slice a1 ps[n + 1].1.spans.length b1] 237 := ⟨_, rfl⟩
      have hch := choice_any rb tb tc ps hg ps.length (w3.alloc O2) (n + 1 + 1) 0 (hR3.below (below_alloc _ _)) hn2 (by omega) (by omega)
      have hsz4 : (w3.alloc O2).heap.size = w3.heap.size + 1 := by simp
      have hrc4 : (w3.alloc O2).heap[w.heap.size]? = some zRuleO := by rw [heap_alloc_old _ _ (by omega)]; exact hrc3
      have hnm4 : (w3.alloc O2).cell? ⟨w1.heap.size, 2, none⟩ = some (.string ⟨List.toArray ps[n].1.text⟩) := by
        rw [World.cell?_alloc_lt _ _ _ (by simp only []; omega)]; exact hnm3
      have HK4 : Hid (Kp rb w.heap.size w (w3.alloc O2)) := hK3'.alloc (by omega) _
      subst hO2
      clear hR3 hK3 hrc3 hnm3 hK3' hkd hey' q1 f1 hname
      go_wp2_with fail
      refine hch.mono ?_
      rintro e w5 ⟨res, hP, hK5, hE⟩
      have hsz5 := hK5.size
      rw [hsz4] at hsz5
      have hrc5 : w5.heap[w.heap.size]? = some zRuleO := by rw [kp_block hK5 (by rw [hsz4]; omega) (by omega)]; exact hrc4
      have hnm5 : w5.cell? ⟨w1.heap.size, 2, none⟩ = some (.string ⟨List.toArray ps[n].1.text⟩) := by
        rw [kp_cell hK5 (by rw [hsz4]; omega) (by omega)]; exact hnm4
      have HK5 : Hid (Kp rb w.heap.size w w5) := HK4.out.trans (hK5.mono (by rw [hsz4]; omega))
      have HP : Hid (Thk.PChoice 0 (tsOf ps (n + 1 + 1)) res) := hP
      have HRC5 : Hid (w5.heap[w.heap.size]? = some zRuleO) := hrc5
      have q5 := cell_of_block hrc5
      have f5 := frozen_of_block hrc5
      have hlt5 : w.heap.size < w5.heap.size := by omega
      have hot : ∀ u1 u2 g, g ≠ w.heap.size → g < w5.heap.size → ((w5.setCell ⟨w.heap.size, 0, none⟩ u1).setCell ⟨w.heap.size, 1, none⟩ u2).heap[g]? = w5.heap[g]? := by
        intro u1 u2 g hg _
        rw [Below.heap_setCell _ _ _ _ hg, Below.heap_setCell _ _ _ _ hg]
      have HOT : Hid (∀ u1 u2 g, g ≠ w.heap.size → g < w5.heap.size → ((w5.setCell ⟨w.heap.size, 0, none⟩ u1).setCell ⟨w.heap.size, 1, none⟩ u2).heap[g]? = w5.heap[g]?) := hot
      clear hch hK5 hrc5 hP hot hnm4 hrc4
      have hts : (tsOf ps n).tail.tail = tsOf ps (n + 1 + 1) := by rw [tl_tsOf hn, tl_tsOf hn1]
      have HTS : Hid ((tsOf ps n).tail.tail = tsOf ps (n + 1 + 1)) := hts
      clear hts
      cases res with
      | err er p =>
        obtain ⟨rfl, n', hR5⟩ := hE
        simp only [faultV]
        have H5 : Hid (Rd w5 rb tb tc ps n' 0) := hR5
        clear hR5
        go_wp2_with fail
        refine bodyPost_ret (v := .tuple #[.agg #[.string ⟨List.toArray ps[n].1.text⟩, .slice none 0 0], faultV er p]) (by simp [results, Tryz.results123, go_sem, faultV, q5, hlt5]) rfl ?_
        refine ⟨.err er p, ?_, ?_, _, rfl, n', ?_⟩
        · exact .err (by rw [hd_tsOf hn]; exact HK.out) (by rw [tl_tsOf hn, hd_tsOf hn1]; exact HKA.out) hm20 (by rw [HTS.out]; exact HP.out)
        · exact (HK5.out.setCell (Nat.le_refl _) _).setCell (Nat.le_refl _) _
        · exact H5.out.other (b := w.heap.size) (HOT.out _ _) HRC5.out (by decide) (by decide) (by decide)
      | ok c rest =>
        obtain ⟨n', a, l, cp, rfl, hle, hn', rfl, hRC, hR5⟩ := hE
        have H5 : Hid (Rd w5 rb tb tc ps n' 0) := hR5
        rw [hsz4] at hRC
        have HRCC : Hid (RChoice w5 (w3.heap.size + 1 ≤ ·) c (.slice a l cp)) := hRC
        clear hR5 hRC
        go_wp2_with fail
        refine bodyPost_ret (v := .tuple #[.agg #[.string ⟨List.toArray ps[n].1.text⟩, .slice a l cp], .nilIface]) (by simp [results, Tryz.results123, go_sem, q5, hlt5]) rfl ?_
        refine ⟨.ok ⟨ps[n].1.text, c⟩ (tsOf ps n'), ?_, ?_, n', a, l, cp, rfl, by omega, hn', rfl, ?_, ?_, HTX.out⟩
        · have := Thk.PRule.ok (n := m) (ts := tsOf ps n) (c := c) (rest := tsOf ps n') (by rw [hd_tsOf hn]; exact HK.out) (by rw [tl_tsOf hn, hd_tsOf hn1]; exact HKA.out) hm20 (by rw [HTS.out]; exact HP.out)
          rw [hd_tsOf hn] at this
          exact this
        · exact (HK5.out.setCell (Nat.le_refl _) _).setCell (Nat.le_refl _) _
        · have hs : Sm (w3.heap.size + 1 ≤ ·) w5 ((w5.setCell ⟨w.heap.size, 0, none⟩ (.string ⟨List.toArray ps[n].1.text⟩)).setCell ⟨w.heap.size, 1, none⟩ (.slice a l cp)) := ⟨fun u l hl => own_other hl (HOT.out _ _) HRC5.out (by decide), fun g hg ha => HOT.out _ _ g (by omega) hg⟩
          exact (HRCC.out.kept hs).mono (fun g _ hg => by omega)
        · exact H5.out.other (b := w.heap.size) (HOT.out _ _) HRC5.out (by decide) (by decide) (by decide)
  · have HKA : Hid (ps[n + 1].1.kind ≠ .arrow) := hka
    have tk : (kindI ps[n + 1].1.kind == 3) = false := beq_eq_false_iff_ne.2 hki
    have hen' := fun q => hen q hki
    clear hka hey hen hrf hki
    generalize kindI ps[n + 1].1.kind = K at *
    go_wp2_with (first | (go_at_call 124; refine hkd.mono ?_; rintro e w2 ⟨rfl, q, rfl⟩))
    refine (hen' q).mono ?_
    rintro e w3 ⟨rfl, hR3, hK3⟩
    have hsz3 := hK3.size
    simp only [World.heap_drewN, hszO] at hsz3
    have hrc3 : w3.heap[w.heap.size]? = some zRuleO := by
      rw [kp_block hK3 (by simp; omega) (by omega)]; exact HRC.out
    have HK3 : Hid (Kp rb w.heap.size w w3) := (HW.out.drewN q).trans (hK3.mono (by simp; omega))
    have H3 : Hid (Rd w3 rb tb tc ps (n + 1) 0) := hR3
    have HRC3 : Hid (w3.heap[w.heap.size]? = some zRuleO) := hrc3
    have q3 := cell_of_block hrc3
    have f3 := frozen_of_block hrc3
    have hlt3 : w.heap.size < w3.heap.size := by omega
    clear hR3 hK3 hrc3 hkd hen' q1 f1 hname
    go_wp2_with fail
    refine bodyPost_ret (v := .tuple #[.agg #[.string ⟨#[]⟩, .slice none 0 0], faultV 2 ps[n + 1].1.place]) (by simp [results, Tryz.results123, go_sem, faultV, q3, hlt3]) rfl ?_
    refine ⟨.err 2 ps[n + 1].1.place, ?_, ?_, _, rfl, n + 1, ?_⟩
    · rw [← hd_tsOf hn1, ← tl_tsOf hn]; exact .noArrow (by rw [hd_tsOf hn]; exact HK.out) (by rw [tl_tsOf hn, hd_tsOf hn1]; exact HKA.out)
    · exact ((HK3.out.setCell (Nat.le_refl _) _).setCell (Nat.le_refl _) _).alloc (by simp; omega) _
    · refine (H3.out.other (b := w.heap.size) (fun g hg _ => ?_) HRC3.out (by decide) (by decide) (by decide)).below (below_alloc _ _)
      rw [Below.heap_setCell _ _ _ _ hg, Below.heap_setCell _ _ _ _ hg]
theorem rule_any (w : World) (rb tb tc : Nat) (ps : List (Thk.Tok × Value)) (m n : Nat) (h : Rd w rb tb tc ps n 0) (hg : GoodP ps) (hn : n < ps.length) (hm : m ≤ 20) :
    Calls Tryz.prog 123 #[.pointer (some ⟨rb, 0, none⟩), .int .i64 m] w fun e w' => RulePost w rb tb tc ps m n e w' := by
  rcases kindI_name (hg n hn).1 with ⟨hk, _⟩ | ⟨hk, hki⟩
  · exact rule_name w rb tb tc ps m n h hg hn hm hk
  · exact rule_noName w rb tb tc ps m n h hn hk hki
end Go.Proofs.YtiganlkabilblaaGreatDoor
namespace Go.Proofs.YtiganlkabilblaaGreatDoor
open Go.RowKit
def ruleC : List Thk.Rule → List Value → List Value
  | r :: g, v :: vs => .string ⟨r.name.toArray⟩ :: v :: ruleC g vs
  | _, _ => []
def RRules (w : World) (A : Nat → Prop) : List Thk.Rule → List Value → Prop
  | [], vs => vs = []
  | r :: g, vs => ∃ v vs', vs = v :: vs' ∧ (RChoice w A r.choice v ∧ r.name.length ≤ 2000) ∧ RRules w A g vs'
theorem RRules.kept {w w' : World} {A : Nat → Prop} (h : Sm A w w') : ∀ {g : List Thk.Rule} {vs : List Value}, RRules w A g vs → RRules w' A g vs
  | [], _, hs => hs
  | _ :: _, _, ⟨v, vs', hv, hc, hs⟩ => ⟨v, vs', hv, ⟨hc.1.kept h, hc.2⟩, RRules.kept h hs⟩
theorem RRules.mono {w : World} {A A' : Nat → Prop} (h : ∀ g, g < w.heap.size → A g → A' g) : ∀ {g : List Thk.Rule} {vs : List Value}, RRules w A g vs → RRules w A' g vs
  | [], _, hs => hs
  | _ :: _, _, ⟨v, vs', hv, hc, hs⟩ => ⟨v, vs', hv, ⟨hc.1.mono h, hc.2⟩, RRules.mono h hs⟩
theorem RRules.length {w : World} {A : Nat → Prop} : ∀ {g : List Thk.Rule} {vs : List Value}, RRules w A g vs → g.length = vs.length
  | [], _, hs => by simp only [RRules] at hs; subst hs; rfl
  | _ :: _, _, ⟨v, vs', hv, hc, hs⟩ => by subst hv; simp [RRules.length hs]
theorem RRules.snoc {w : World} {A : Nat → Prop} {r : Thk.Rule} {v : Value} (hr : RChoice w A r.choice v ∧ r.name.length ≤ 2000) : ∀ {g : List Thk.Rule} {vs : List Value}, RRules w A g vs → RRules w A (g ++ [r]) (vs ++ [v])
  | [], _, hs => by simp only [RRules] at hs; subst hs; exact ⟨v, [], rfl, hr, rfl⟩
  | _ :: _, _, ⟨v', vs', hv, hc, hs⟩ => by subst hv; exact ⟨v', vs' ++ [v], rfl, hc, RRules.snoc hr hs⟩
theorem ruleC_append (g : List Thk.Rule) (vs : List Value) (h : g.length = vs.length) (r : Thk.Rule) (v : Value) : ruleC (g ++ [r]) (vs ++ [v]) = ruleC g vs ++ [.string ⟨r.name.toArray⟩, v] := by
  induction g generalizing vs with
  | nil => cases vs with
    | nil => rfl
    | cons _ _ => simp at h
  | cons t s ih => cases vs with
    | nil => simp at h
    | cons u vs => simp only [List.cons_append, ruleC]; rw [ih vs (by simpa using h)]
/-- The slice v holds the grammar. -/
def RGram (w : World) (A : Nat → Prop) (g : List Thk.Rule) (v : Value) : Prop := ∃ vs, Row w A 142 2 v g.length (ruleC g vs) ∧ RRules w A g vs
def preG (g : List Thk.Rule) : Except (Nat × Nat) (List Thk.Rule) → Except (Nat × Nat) (List Thk.Rule)
  | .ok g' => .ok (g ++ g')
  | .error x => .error x
def GramPost (w : World) (rb : Nat) (ts : List Thk.Tok) (e : Ending) (w' : World) : Prop :=
  ∃ res, Thk.PGram 0 ts res ∧ Kp rb w.heap.size w w' ∧ match res with
    | .ok g => g ≠ [] ∧ g.length ≤ 20 ∧ ∃ a cp, e = .returned (.tuple #[.slice (some a) g.length cp, .nilIface]) ∧ RGram w' (w.heap.size ≤ ·) g (.slice (some a) g.length cp)
    | .error (er, p) => e = .returned (.tuple #[.slice none 0 0, faultV er p])
structure GrRel (w : World) (rb tb tc : Nat) (ps : List (Thk.Tok × Value)) (n k : Nat) (g : List Thk.Rule) (vs : List Value) (v : Value) (wr : World) : Prop where
  lt : k < ps.length
  len : g.length ≤ 20
  own : wr.ownsRow w.heap.size 142 2 v g.length (ruleC g vs)
  rules : RRules wr (fun b => w.heap.size ≤ b ∧ some b ≠ v.ownBlock) g vs
  rd : Rd wr rb tb tc ps k 0
  kp : Kp rb w.heap.size w wr
  goes : ∀ r, Thk.PGram g.length (tsOf ps k) r → Thk.PGram 0 (tsOf ps n) (preG g r)
theorem GrRel.push {w : World} {rb tb tc : Nat} {ps : List (Thk.Tok × Value)} {n k : Nat} {g : List Thk.Rule} {us : List Value} {v : Value} {wr : World} (h : GrRel w rb tb tc ps n k g us v wr) (hrl : rb < w.heap.size)
    {r : Thk.Rule} {x : Value} {k' : Nat} {w1 w5 : World} {v' : Value} {O1 O2 : Obj}
    (hK : Kp rb wr.heap.size wr w1) (hP : RChoice w1 (wr.heap.size ≤ ·) r.choice x) (hnm : r.name.length ≤ 2000) (hR : Rd w1 rb tb tc ps k' 0)
    (ho : w5.ownsRow w.heap.size 142 2 v' (g.length + 1) (ruleC g us ++ [.string ⟨r.name.toArray⟩, x])) (hg : ((w1.alloc O1).alloc O2).grownBy w5 v.ownBlock)
    (hat : v'.ownBlock = v.ownBlock ∨ v'.ownBlock = some (w1.heap.size + 1 + 1)) :
    w5.ownsRow w.heap.size 142 2 v' (g ++ [r]).length (ruleC (g ++ [r]) (us ++ [x])) ∧ RRules w5 (fun b => w.heap.size ≤ b ∧ some b ≠ v'.ownBlock) (g ++ [r]) (us ++ [x]) ∧ Rd w5 rb tb tc ps k' 0 ∧ Kp rb w.heap.size w w5 := by
  have hsz := hK.size
  have hwr := h.kp.size
  have hown1 : w1.ownsRow w.heap.size 142 2 v g.length (ruleC g us) := own_kp h.own h.rd.1 (by decide) hK
  have hbl := grown2_blocks hg
  have hgs := hg.size
  simp at hgs
  have hvb : ∀ g, v.ownBlock = some g → g < wr.heap.size := fun g hg => (h.own.lt g hg).2
  have hA : ∀ g, g < w1.heap.size → w.heap.size ≤ g → some g ≠ v.ownBlock → (w.heap.size ≤ g ∧ some g ≠ v'.ownBlock) := by
    intro g h1 h2 h3
    refine ⟨h2, ?_⟩
    rcases hat with e | e <;> rw [e]
    · exact h3
    · simp; omega
  refine ⟨by rw [ruleC_append _ _ (RRules.length h.rules)]; simpa using ho, ?_, ?_, ?_⟩
  · refine RRules.snoc ⟨?_, hnm⟩ ?_
    · have p1 : RChoice w1 (fun g => wr.heap.size ≤ g ∧ g < w1.heap.size) r.choice x := hP.mono (fun g h1 h2 => ⟨h2, h1⟩)
      have p2 : RChoice w5 (fun g => wr.heap.size ≤ g ∧ g < w1.heap.size) r.choice x := p1.kept (sm_but hown1 hbl (by decide) (fun g hg e => by have := hvb g e.symm; omega))
      exact p2.mono (fun g _ hg => hA g hg.2 (by omega) (fun e => by have := hvb g e.symm; omega))
    · have p0 := RRules.kept (sm_kp (A := fun g => w.heap.size ≤ g ∧ some g ≠ v.ownBlock) h.rd.1 hK (fun g hg => by omega)) h.rules
      have p1 : RRules w1 (fun g => (w.heap.size ≤ g ∧ some g ≠ v.ownBlock) ∧ g < w1.heap.size) g us := RRules.mono (fun g h1 h2 => ⟨h2, h1⟩) p0
      have p2 : RRules w5 (fun g => (w.heap.size ≤ g ∧ some g ≠ v.ownBlock) ∧ g < w1.heap.size) g us := RRules.kept (sm_but hown1 hbl (by decide) (fun g hg => hg.1.2)) p1
      exact RRules.mono (fun g _ hg => hA g hg.2 hg.1.1 hg.1.2) p2
  · exact hR.but hown1 hbl (by decide) (by decide) (by decide)
  · exact ((((h.kp.trans (hK.mono hwr))).alloc (by omega) O1).alloc (by simp; omega) O2).grown hg (by simp; omega) (fun g hg' => (h.own.lt g hg').1)
theorem Tryz.infoRule : (Tryz.prog.info? 142).map (fun i => (i.zero, i.size, i.bytes)) = some (some (.agg #[.string ⟨#[]⟩, .slice none 0 0]), 2, 40) := by kernel_rfl
theorem kindI_fin {k : Thk.TK} (hk : okKind k) : (k = .fin ∧ kindI k = 0) ∨ (k ≠ .fin ∧ (kindI k == 0) = false) := by
  cases k with
  | fin => left; exact ⟨rfl, rfl⟩
  | sign c => right; have := signB_ge hk; refine ⟨by simp, beq_eq_false_iff_ne.2 ?_⟩; simp only [kindI]; omega
  | _ => right; simp [kindI]
theorem PRule_lt {m : Nat} {ts rest : List Thk.Tok} {r : Thk.Rule} (h : Thk.PRule m ts (.ok r rest)) : m ≠ 20 := by cases h; assumption
set_option maxHeartbeats 8000000 in
set_option maxRecDepth 100000 in
theorem grammar_any (w : World) (rb tb tc : Nat) (ps : List (Thk.Tok × Value)) (n : Nat) (h : Rd w rb tb tc ps n 0) (hg : GoodP ps) (hn : n < ps.length) :
    Calls Tryz.prog 86 #[.pointer (some ⟨rb, 0, none⟩)] w fun e w' => GramPost w rb (tsOf ps n) e w' := by
  obtain ⟨i0, hi, hz0, hz1, hz2⟩ := info_parts Tryz.infoRule
  have hrl := h.lt
  have hl := h.2.2.1
  have H : Hid (Rd w rb tb tc ps n 0) := h
  clear h
  go_enter Tryz.func86, Tryz.ntmps86
  go_wp2_with fail
  go_loopg [4] (ps.length - n) (fun m v wr => ∃ k g us, m = ps.length - k ∧ GrRel w rb tb tc ps n k g us v wr)
  case atStart =>
    refine ⟨n, [], [], rfl, hn, by simp, World.ownsRow_nil _ _ _ _, by simp [RRules], H.out, Kp.refl _ _ _, ?_⟩
    intro r hr; cases r <;> exact hr
  case round =>
    obtain ⟨k, g, us, rfl, hS⟩ := hrel
    have hs := rule_any wr rb tb tc ps g.length k hS.rd hg hS.lt hS.len
    have hkl := hS.lt
    have hgl := hS.len
    have hwr := hS.kp.size
    have hown := hS.own
    obtain ⟨va0, vc0, hv⟩ := own_form hown
    subst hv
    have HS : Hid (GrRel w rb tb tc ps n k g us (.slice va0 g.length vc0) wr) := hS
    clear hS
    go_wp2_with fail
    refine hs.mono ?_
    rintro e w1 ⟨res, hP, hK1, hE⟩
    have hsz1 := hK1.size
    have HP : Hid (Thk.PRule g.length (tsOf ps k) res) := hP
    have HK1 : Hid (Kp rb wr.heap.size wr w1) := hK1
    clear hs hP hK1
    cases res with
    | err er p =>
      obtain ⟨z, rfl, n', hR1⟩ := hE
      simp only [faultV]
      clear hR1 hown
      go_wp2_with fail
      go_ret2
      exact ⟨.error (er, p), HS.out.goes _ (.err HP.out), (HS.out.kp.trans (HK1.out.mono hwr)).alloc (by omega) _, rfl⟩
    | ok r rest =>
      obtain ⟨k', sa, sl, sc, rfl, hlt, hk', rfl, hRS, hR1, hnm⟩ := hE
      have HNM : Hid (r.name.length ≤ 2000) := hnm
      clear hnm
      have hg19 := PRule_lt HP.out
      have HRS : Hid (RChoice w1 (wr.heap.size ≤ ·) r.choice (.slice sa sl sc)) := hRS
      have H1 : Hid (Rd w1 rb tb tc ps k' 0) := hR1
      have hown1 : w1.ownsRow w.heap.size 142 2 (.slice va0 g.length vc0) g.length (ruleC g us) := own_kp hown HS.out.rd.1 (by decide) HK1.out
      clear hRS hR1 hown
      go_wp2_with (first | (at_builtin; refine wpList_append_own_at _ rfl _ _ 72 rfl (w.heap.size) 142 i0 _ 2 40 Tryz.underlying72 hi hz0 hz1 hz2 rfl (by decide) _ _ _ rfl ((hown1.alloc _).alloc _) ⟨w1.heap.size + 1, 0, none⟩ 1 1 [.string ⟨r.name.toArray⟩, .slice sa sl sc] rfl rfl ?c1 ?c2 ?c3 ?c4 ?c5 ?_))
      case c1 => rw [← World.size_alloc w1 (.cells #[.string ⟨r.name.toArray⟩, .slice sa sl sc] 142)]; exact cell_two_new' _ _ _ _
      case c2 => intro u hu; simp at hu; rcases hu with rfl | rfl <;> rfl
      case c3 => unfold maxLen; omega
      case c4 => omega
      case c5 => simp; omega
      intro v' w5 hown' hgrow hnn hat
      obtain ⟨p1, p2, p3, p4⟩ := HS.out.push hrl HK1.out HRS.out HNM.out H1.out hown' hgrow hat
      have hvf : ∃ a c, v' = .slice (some a) (g.length + 1) c := by
        rcases hown'.2 with ⟨h, _⟩ | ⟨g', cap, cur, h, _⟩
        · exact absurd h hnn
        · exact ⟨_, _, h⟩
      obtain ⟨va, vc, rfl⟩ := hvf
      have P1 : Hid (w5.ownsRow w.heap.size 142 2 (.slice (some va) (g.length + 1) vc) (g ++ [r]).length (ruleC (g ++ [r]) (us ++ [.slice sa sl sc]))) := p1
      have P2 : Hid (RRules w5 (fun b => w.heap.size ≤ b ∧ some b ≠ (Value.slice (some va) (g.length + 1) vc).ownBlock) (g ++ [r]) (us ++ [.slice sa sl sc])) := p2
      have P3 : Hid (Rd w5 rb tb tc ps k' 0) := p3
      have P4 : Hid (Kp rb w.heap.size w w5) := p4
      clear hown' hgrow hat hown1 p1 p2 p3 p4 hnn
      rcases kindI_fin (hg k' hk').1 with ⟨hks, hki⟩ | ⟨hks, hki⟩
      · have hkd := kind_of w5 rb tb tc ps k' 0 P3.out hk' 0 hki
        have HKS : Hid (ps[k'].1.kind = .fin) := hks
        clear hks hki
        go_wp2_with (first | (go_at_call 124; refine hkd.mono ?_; rintro e w6 ⟨rfl, q, rfl⟩))
        go_ret2
        have hp := HS.out.goes _ (.last HP.out (by rw [hd_tsOf hk']; exact HKS.out))
        refine ⟨.ok (g ++ [r]), hp, P4.out.drewN q, by simp, by simp; omega, va, vc, by simp, ⟨us ++ [.slice sa sl sc], ⟨?_, ?_⟩, ?_⟩⟩
        · have h1 : w5.ownsRow 0 142 2 (.slice (some va) (g ++ [r]).length vc) (g ++ [r]).length (ruleC (g ++ [r]) (us ++ [.slice sa sl sc])) := by
            have := own_mono P1.out (Nat.zero_le _); simpa using this
          exact h1
        · intro b hb; exact (P1.out.lt b (by simpa using hb)).1
        · have h1 : RRules w5 (w.heap.size ≤ ·) (g ++ [r]) (us ++ [.slice sa sl sc]) := RRules.mono (fun g _ hg => hg.1) P2.out
          exact RRules.kept (w := w5) (w' := w5.drewN q) ⟨fun _ _ h => h, fun _ _ _ => rfl⟩ h1
      · have hkd := kind_of w5 rb tb tc ps k' 0 P3.out hk' _ rfl
        have HKS : Hid (ps[k'].1.kind ≠ .fin) := hks
        clear hks
        generalize kindI ps[k'].1.kind = K at *
        go_wp2_with (first | (go_at_call 124; refine hkd.mono ?_; rintro e w6 ⟨rfl, q, rfl⟩))
        have hN : GrRel w rb tb tc ps n k' (g ++ [r]) (us ++ [.slice sa sl sc]) (.slice (some va) (g.length + 1) vc) (w5.drewN q) := by
          refine ⟨hk', by simp; omega, P1.out, RRules.kept (w := w5) (w' := w5.drewN q) ⟨fun _ _ h => h, fun _ _ _ => rfl⟩ P2.out, P3.out.drewN q, P4.out.drewN q, ?_⟩
          intro x hx
          have hm : Thk.PRule g.length (tsOf ps k) (.ok r (tsOf ps k')) := HP.out
          have hf : (Thk.hd (tsOf ps k')).kind ≠ .fin := by rw [hd_tsOf hk']; exact HKS.out
          simp only [List.length_append, List.length_cons, List.length_nil] at hx
          cases x with
          | ok g' => exact (by simpa [preG] using HS.out.goes _ (.more hm hf hx))
          | error y => exact (by simpa [preG] using HS.out.goes _ (.later hm hf hx))
        go_roundg (ps.length - k')
        case measure => omega
        case rel => exact ⟨k', _, _, rfl, hN⟩
end Go.Proofs.YtiganlkabilblaaGreatDoor
namespace Go.Proofs.YtiganlkabilblaaGreatDoor
open Go.RowKit
theorem TL_good (N : Nat) : ∀ (pos : Nat) (l : List UInt8), l.length ≤ N → (TL pos l).length ≤ l.length + 1 ∧ TL pos l ≠ [] ∧ ∀ i (h : i < (TL pos l).length), okKind (TL pos l)[i].kind ∧ ((TL pos l)[i].kind.last = false → i + 1 < (TL pos l).length) := by
  induction N with
  | zero =>
    intro pos l hl
    have : l = [] := List.length_eq_zero_iff.1 (by omega)
    subst this
    refine ⟨by rw [show TL pos [] = [⟨.fin, pos, 0, [], []⟩] from rfl]; simp, by rw [TL_eq]; simp, ?_⟩
    intro i h
    have e : TL pos [] = [⟨.fin, pos, 0, [], []⟩] := rfl
    simp only [e] at h ⊢
    simp at h
    subst h
    simp [okKind, Thk.TK.last]
  | succ N ih =>
    intro pos l hl
    rw [TL_eq]
    have hok : okKind (tokAt pos l).kind := tokL_ok _
    cases hk : (tokAt pos l).kind.last with
    | true =>
      simp only [if_true]
      refine ⟨by simp, by simp, ?_⟩
      intro i h
      simp at h
      subst h
      simp only [List.getElem_cons_zero]
      exact ⟨hok, fun hx => by rw [hk] at hx; cases hx⟩
    | false =>
      have hs := tokL_size (l.drop (Thk.blk false l)) hk
      have hb := blk_le false l
      rw [List.length_drop] at hs
      have hd : (l.drop (Thk.blk false l + (tokAt pos l).size)).length = l.length - (Thk.blk false l + (tokAt pos l).size) := List.length_drop
      have e : (tokAt pos l).size = (Thk.tokL (l.drop (Thk.blk false l))).size := rfl
      simp only [Bool.false_eq_true, if_false]
      obtain ⟨h1, h2, h3⟩ := ih ((tokAt pos l).place + (tokAt pos l).size) (l.drop (Thk.blk false l + (tokAt pos l).size)) (by omega)
      generalize TL ((tokAt pos l).place + (tokAt pos l).size) (l.drop (Thk.blk false l + (tokAt pos l).size)) = L at *
      refine ⟨by simp; omega, by simp, ?_⟩
      intro i h
      cases i with
      | zero =>
        simp only [List.getElem_cons_zero]
        refine ⟨hok, fun _ => ?_⟩
        cases L with
        | nil => exact absurd rfl h2
        | cons _ _ => simp
      | succ i =>
        simp only [List.getElem_cons_succ]
        have := h3 i (by simpa using h)
        exact ⟨this.1, fun hx => by have := this.2 hx; simp; omega⟩
theorem charsL_le' (m l : List UInt8) : (Thk.charsL m l).1.length ≤ l.length := by have := charsL_le m l; omega
theorem tokL_text (l : List UInt8) : (Thk.tokL l).text.length ≤ l.length := by
  cases l with
  | nil => simp [Thk.tokL]
  | cons c t =>
    simp only [Thk.tokL]
    split
    · unfold Thk.nameT; split
      · simp [Thk.badT]
      · simp only [List.length_take]; omega
    · split
      · simp
      · split
        · unfold Thk.litT; split
          · have := charsL_le' [39] t; simp only [List.length_cons]; omega
          · simp [Thk.badT]
        · split
          · unfold Thk.clsT; split <;> simp [Thk.badT]
          · split <;> simp [Thk.badT]
theorem toksF_text : ∀ (f pos : Nat) (l : List UInt8), ∀ t ∈ Thk.toksF f pos l, t.text.length ≤ l.length
  | 0, _, _, t, h => by simp [Thk.toksF] at h
  | f + 1, pos, l, t, h => by
    rw [toksF_succ] at h
    have hb := blk_le false l
    rcases List.mem_cons.1 h with rfl | h
    · have := tokL_text (l.drop (Thk.blk false l))
      rw [List.length_drop] at this
      show (Thk.tokL (l.drop (Thk.blk false l))).text.length ≤ _
      omega
    · split at h
      · cases h
      · have := toksF_text f _ _ t h
        rw [List.length_drop] at this
        omega
theorem toks_text (l : List UInt8) : ∀ t ∈ Thk.toks l, t.text.length ≤ l.length := toksF_text _ _ _
theorem good_ps {l : List UInt8} {ps : List (Thk.Tok × Value)} (h : ps.map (·.1) = Thk.toks l) : GoodP ps ∧ 0 < ps.length ∧ ps.length ≤ l.length + 1 := by
  obtain ⟨h1, h2, h3⟩ := TL_good l.length 0 l (Nat.le_refl _)
  rw [← toks_TL, ← h] at h1 h2 h3
  simp only [List.length_map] at h1 h3
  refine ⟨?_, ?_, h1⟩
  · intro i hi
    have := h3 i hi
    simpa using this
  · cases ps with
    | nil => simp at h2
    | cons _ _ => simp
/-- The document's reading of a text, in so many words of the program's. -/
inductive PRead (l : List UInt8) : Except (Nat × Nat) (List Thk.Rule) → Prop
  | long : 2000 < l.length → PRead l (.error (1, 0))
  | read {res} : l.length ≤ 2000 → Thk.PGram 0 (Thk.toks l) res → PRead l res
def ReadPost (l : List UInt8) (w : World) (e : Ending) (w' : World) : Prop :=
  ∃ res, PRead l res ∧ Below w.heap.size w w' ∧ match res with
    | .ok g => g ≠ [] ∧ g.length ≤ 20 ∧ ∃ a cp, e = .returned (.tuple #[.slice (some a) g.length cp, .nilIface]) ∧ RGram w' (w.heap.size ≤ ·) g (.slice (some a) g.length cp)
    | .error (er, p) => e = .returned (.tuple #[.slice none 0 0, faultV er p])
theorem Kp.below {rb B : Nat} {w w' : World} (h : Kp rb B w w') (hr : B ≤ rb) : Below B w w' := ⟨h.os, h.tape, h.output, h.size, fun k hk => h.block k hk (by omega)⟩
set_option maxHeartbeats 4000000 in
set_option maxRecDepth 100000 in
theorem read_any (s : ByteArray) (w : World) (hs : s.size ≤ maxLen) :
    Calls Tryz.prog 61 #[.string s] w fun e w' => ReadPost s.data.toList w e w' := by
  unfold maxLen at hs
  have hll : s.data.toList.length = s.size := rfl
  by_cases hl : 2000 < s.size
  · have hl' : (2000 : Int) < s.size := by omega
    go_enter Tryz.func61, Tryz.ntmps61
    go_wp2_with fail
    go_ret2
    exact ⟨.error (1, 0), .long (by rw [hll]; exact hl), Below.refl _ _, rfl⟩
  · have hl' : ¬ (2000 : Int) < s.size := by omega
    have hct := cut_any s w (by omega)
    go_enter Tryz.func61, Tryz.ntmps61
    go_wp2_with fail
    refine hct.mono ?_
    rintro e w1 ⟨a, c, ps, rfl, hb, hps, htk⟩
    obtain ⟨hg, hpos, hlen⟩ := good_ps hps
    have hpl : ps.length = (Thk.toks s.data.toList).length := by rw [← hps]; simp
    obtain ⟨tb, rfl⟩ : ∃ tb, a = ⟨tb, 0, none⟩ := by
      rcases htk.1.2 with ⟨h, _⟩ | ⟨g', cap, cur, h, _⟩
      · cases h
      · simp only [Value.slice.injEq, Option.some.injEq] at h; exact ⟨g', h.1⟩
    rw [← hpl] at htk ⊢
    obtain ⟨O, hO⟩ : ∃ O : Obj, O = .cells #[.slice (some ⟨tb, 0, none⟩) ps.length c, .int .i64 0, .int .i64 0] 183 := ⟨_, rfl⟩
    have hRd : Rd (w1.alloc O) w1.heap.size tb c ps 0 0 := by
      refine ⟨by rw [hO]; exact heap_alloc_same _ _, ?_, by omega, ?_⟩
      rotate_left
      · intro p hp
        have h1 : p.1 ∈ Thk.toks s.data.toList := by rw [← hps]; exact List.mem_map_of_mem hp
        have := toks_text s.data.toList p.1 h1
        omega
      have := htk.below (below_alloc w1 O)
      exact ⟨own_mono this.1 (Nat.zero_le _), fun p hp => own_mono (this.2 p hp) (Nat.zero_le _)⟩
    have hgr := grammar_any (w1.alloc O) w1.heap.size tb c ps 0 hRd hg hpos
    have hts : tsOf ps 0 = Thk.toks s.data.toList := by unfold tsOf; rw [hps]; rfl
    rw [hts] at hgr
    have hsz := hb.size
    have HB : Hid (Below w.heap.size w w1) := hb
    have HL : Hid (s.data.toList.length ≤ 2000) := by show _ ≤ _; omega
    subst hO
    clear hct hRd hps htk hts hb hpl
    go_wp2_with fail
    refine hgr.mono ?_
    rintro e w2 ⟨res, hP, hK, hE⟩
    have hB2 : Below w.heap.size w w2 := (HB.out.trans ((below_alloc _ _).mono hsz)).trans ((Kp.below (hK.mono (by simp)) (by exact Nat.le_refl _) : Below w1.heap.size _ w2).mono hsz)
    have HP : Hid (Thk.PGram 0 (Thk.toks s.data.toList) res) := hP
    have HB2 : Hid (Below w.heap.size w w2) := hB2
    clear hgr hP hB2 hK
    cases res with
    | error x =>
      obtain ⟨er, p⟩ := x
      simp only [faultV] at hE
      subst hE
      go_wp2_with fail
      go_ret2
      exact ⟨.error (er, p), .read HL.out HP.out, HB2.out, rfl⟩
    | ok g =>
      obtain ⟨h1, h2, a', cp, rfl, hRG⟩ := hE
      obtain ⟨vs, hrow, hrules⟩ := hRG
      have hRG' : RGram w2 (w.heap.size ≤ ·) g (.slice (some a') g.length cp) := ⟨vs, hrow.mono (fun b _ hb => by simp at hb; omega), RRules.mono (fun b _ hb => by simp at hb; omega) hrules⟩
      have HR : Hid (RGram w2 (w.heap.size ≤ ·) g (.slice (some a') g.length cp)) := hRG'
      clear hrow hrules hRG'
      go_wp2_with fail
      go_ret2
      exact ⟨.ok g, .read HL.out HP.out, HB2.out, h1, h2, a', cp, rfl, HR.out⟩
end Go.Proofs.YtiganlkabilblaaGreatDoor
namespace Go.Proofs.YtiganlkabilblaaGreatDoor
open Go.RowKit Go.WideMaps Go.Maps
theorem keyLaw : Keyed Tryz.prog 9 := string_keyed Tryz.underlying9
theorem zeroInt (w : World) : (zeroValue 3).run Tryz.prog w = .ok (.int .i64 0) w := by kernel_rfl
def idx0 (names : List Thk.Bytes) (b : Thk.Bytes) : Nat := if names.contains b then names.idxOf b else 0
theorem idx0_lt {names : List Thk.Bytes} (b : Thk.Bytes) (h : 0 < names.length) : idx0 names b < names.length := by
  unfold idx0; split
  · rename_i hc; exact List.idxOf_lt_length_iff.2 (by simpa using hc)
  · exact h
/-- Block mb is the map of these names to their numbers. -/
def MapIs (w : World) (mb : Nat) (names : List Thk.Bytes) : Prop :=
  ∃ D : DataW Unit, w.ownsMap Tryz.prog 9 (plainElem Tryz.prog 3) mb names.length D ∧
    ∀ b, D.atKey (.string b) (.lit (.int .i64 0)) = .lit (.int .i64 (idx0 names b)) ∧ Maps.has D (.string b) = names.contains b
theorem key_of (b : Thk.Bytes) (hb : b.length ≤ 2000) : keyOf Tryz.prog 9 (.string ⟨b.toArray⟩) = some (.string b) := by
  have := keyOf_string_mk (s := ⟨b.toArray⟩) Tryz.underlying9 (by show b.toArray.size ≤ maxLen; unfold maxLen; simp; omega)
  simpa using this
theorem MapIs.look {w : World} {mb : Nat} {names : List Thk.Bytes} (h : MapIs w mb names) (b : Thk.Bytes) (hb : b.length ≤ 2000) :
    (Instr.lookup 73 (.map (some mb)) (.string ⟨b.toArray⟩) false).run Tryz.prog w = .ok (.int .i64 (idx0 names b)) w := by
  obtain ⟨D, ho, hD⟩ := h
  obtain ⟨c, hrun, hat, _⟩ := ho.lookup_int keyLaw Tryz.underlying73 Tryz.underlying3 (zeroInt _) (key_of b hb)
  rw [(hD b).1] at hat
  simp at hat
  rw [hrun, ← hat]
theorem MapIs.lookOk {w : World} {mb : Nat} {names : List Thk.Bytes} (h : MapIs w mb names) (b : Thk.Bytes) (hb : b.length ≤ 2000) :
    (Instr.lookup 73 (.map (some mb)) (.string ⟨b.toArray⟩) true).run Tryz.prog w = .ok (.tuple #[.int .i64 (idx0 names b), .bool (names.contains b)]) w := by
  obtain ⟨D, ho, hD⟩ := h
  obtain ⟨v, ps, hrun, hv⟩ := ho.look_ok keyLaw Tryz.underlying73 (zeroInt _) (plainElem_int Tryz.underlying3 (by decide)) (key_of b hb)
  rw [(hD b).1] at hv
  obtain ⟨a, rfl, ha, _⟩ := plainElem_int_inv Tryz.underlying3 hv
  simp at ha
  rw [hrun, (hD b).2, ← ha.1]
theorem MapIs.same {w w' : World} {mb : Nat} {names : List Thk.Bytes} (h : MapIs w mb names) (hb : w'.heap[mb]? = w.heap[mb]?) : MapIs w' mb names := by
  obtain ⟨D, ⟨es, clock, h1, h2⟩, hD⟩ := h
  exact ⟨D, ⟨es, clock, by rw [hb]; exact h1, h2⟩, hD⟩
theorem MapIs.lt {w : World} {mb : Nat} {names : List Thk.Bytes} (h : MapIs w mb names) : mb < w.heap.size := by
  obtain ⟨D, ho, _⟩ := h; exact ho.lt
theorem MapIs.below {w w' : World} {mb : Nat} {names : List Thk.Bytes} (h : MapIs w mb names) (hb : Below w.heap.size w w') : MapIs w' mb names := h.same (hb.block _ h.lt)
theorem isKeyLit (b : Thk.Bytes) : WideAt.IsKeyLit (.string b) := by
  simp [WideAt.IsKeyLit]
theorem MapIs.put {w : World} {mb : Nat} {names : List Thk.Bytes} {b : Thk.Bytes} {D : DataW Unit} {w' : World} (hD : ∀ b, D.atKey (.string b) (.lit (.int .i64 0)) = .lit (.int .i64 (idx0 names b)) ∧ Maps.has D (.string b) = names.contains b) (hm : IsMap D)
    (hb : names.contains b = false) (ho : w'.ownsMap Tryz.prog 9 (plainElem Tryz.prog 3) mb (names.length + 1) (D.put (.string b) (.lit (.int .i64 names.length)))) (hl : b.length ≤ 2000) : MapIs w' mb (names ++ [b]) := by
  refine ⟨_, by simpa using ho, ?_⟩
  intro c
  by_cases hc : c = b
  · subst hc
    have hn : c ∉ names := by simpa using hb
    rw [atKey_put_same hm (isKeyLit c), has_put_same hm (isKeyLit c)]
    constructor
    · congr 3
      unfold idx0
      rw [if_pos (by simp)]
      rw [List.idxOf_append, if_neg hn]
      simp
    · simp
  · have hne : (Lit.string c) ≠ (Lit.string b) := by simpa using hc
    rw [atKey_put_other hne, has_put_other hne, (hD c).1, (hD c).2]
    have hcc : (names ++ [b]).contains c = names.contains c := by
      rw [Bool.eq_iff_iff]; simp [hc]
    constructor
    · congr 3
      unfold idx0
      rw [hcc]
      split
      · rename_i h1
        rw [List.idxOf_append, if_pos (by simpa using h1)]
      · rfl
    · exact hcc.symm
end Go.Proofs.YtiganlkabilblaaGreatDoor
namespace Go.Proofs.YtiganlkabilblaaGreatDoor
open Go.RowKit Go.WideMaps Go.Maps
mutual
def depP : Thk.Piece → Nat
  | .group c => depC c + 1
  | _ => 0
def depT : Thk.Term → Nat
  | .mk _ p _ => depP p
def depS : List Thk.Term → Nat
  | [] => 0
  | t :: s => max (depT t) (depS s)
def depC : List (List Thk.Term) → Nat
  | [] => 0
  | s :: c => max (depS s) (depC c)
 end
def boolsO (E : List Bool) : Obj := .cells (E.map Value.bool).toArray 4 (0, 0)
structure FactsAt (w : World) (mb eb : Nat) (names : List Thk.Bytes) (E : List Bool) : Prop where
  map : MapIs w mb names
  emp : w.heap[eb]? = some (boolsO E)
  len : E.length = names.length
  pos : 0 < names.length
  le : names.length ≤ 20
def factsV (mb eb n : Nat) : Value := .agg #[.map (some mb), .slice (some ⟨eb, 0, none⟩) n n]
theorem heap_lt {w : World} {b : Nat} {o : Obj} (h : w.heap[b]? = some o) : b < w.heap.size := (Array.getElem?_eq_some_iff.1 h).1
theorem FactsAt.below {w w' : World} {mb eb : Nat} {names : List Thk.Bytes} {E : List Bool} (h : FactsAt w mb eb names E) (hb : Below w.heap.size w w') : FactsAt w' mb eb names E :=
  ⟨h.map.below hb, by rw [hb.block _ (heap_lt h.emp)]; exact h.emp, h.len, h.pos, h.le⟩
def Eb (names : List Thk.Bytes) (E : List Bool) (b : Thk.Bytes) : Bool := E.getD (idx0 names b) false
theorem FactsAt.cell {w : World} {mb eb : Nat} {names : List Thk.Bytes} {E : List Bool} (h : FactsAt w mb eb names E) (i : Nat) (hi : i < names.length) : w.cell? ⟨eb, i, none⟩ = some (.bool (E.getD i false)) := by
  rw [cell_of_block h.emp]
  have : i < E.length := by rw [h.len]; exact hi
  simp [this]
/-- A row of all that a world's blocks hold stays behind new blocks. -/
theorem sm_below {A : Nat → Prop} {w w' : World} (hb : Below w.heap.size w w') : Sm A w w' := ⟨fun _ _ h => own_below h hb, fun g hg _ => hb.block g hg⟩
def EmptyC (k : Nat) : Prop := ∀ (w : World) (mb eb : Nat) (names : List Thk.Bytes) (E : List Bool) (A : Nat → Prop) (c : Thk.Choice) (u : Value), FactsAt w mb eb names E → RChoice w A c u → depC c ≤ k →
  Calls Tryz.prog 127 #[factsV mb eb names.length, u] w fun e w' => e = .returned (.bool (Thk.emptyC (Eb names E) c)) ∧ Below w.heap.size w w'
theorem asNameName (x : Value) (w : World) : (Instr.typeAssert (.iface 251 x) 247 251 true).run Tryz.prog w = .ok (.tuple #[x, .bool true]) w := by kernel_rfl
theorem asNameGroup (x : Value) (w : World) : (Instr.typeAssert (.iface 251 x) 247 296 true).run Tryz.prog w = .ok (.tuple #[.agg #[.slice none 0 0], .bool false]) w := by kernel_rfl
theorem asLitName (x : Value) (w : World) : (Instr.typeAssert (.iface 319 x) 247 251 true).run Tryz.prog w = .ok (.tuple #[.agg #[.string ⟨#[]⟩], .bool false]) w := by kernel_rfl
theorem asLitGroup (x : Value) (w : World) : (Instr.typeAssert (.iface 319 x) 247 296 true).run Tryz.prog w = .ok (.tuple #[.agg #[.slice none 0 0], .bool false]) w := by kernel_rfl
theorem asClsName (x : Value) (w : World) : (Instr.typeAssert (.iface 321 x) 247 251 true).run Tryz.prog w = .ok (.tuple #[.agg #[.string ⟨#[]⟩], .bool false]) w := by kernel_rfl
theorem asClsGroup (x : Value) (w : World) : (Instr.typeAssert (.iface 321 x) 247 296 true).run Tryz.prog w = .ok (.tuple #[.agg #[.slice none 0 0], .bool false]) w := by kernel_rfl
theorem asAnyName (x : Value) (w : World) : (Instr.typeAssert (.iface 345 x) 247 251 true).run Tryz.prog w = .ok (.tuple #[.agg #[.string ⟨#[]⟩], .bool false]) w := by kernel_rfl
theorem asAnyGroup (x : Value) (w : World) : (Instr.typeAssert (.iface 345 x) 247 296 true).run Tryz.prog w = .ok (.tuple #[.agg #[.slice none 0 0], .bool false]) w := by kernel_rfl
theorem asGroupName (x : Value) (w : World) : (Instr.typeAssert (.iface 296 x) 247 251 true).run Tryz.prog w = .ok (.tuple #[.agg #[.string ⟨#[]⟩], .bool false]) w := by kernel_rfl
theorem asGroupGroup (x : Value) (w : World) : (Instr.typeAssert (.iface 296 x) 247 296 true).run Tryz.prog w = .ok (.tuple #[x, .bool true]) w := by kernel_rfl
set_option maxHeartbeats 4000000 in
set_option maxRecDepth 100000 in
theorem emptyPiece_step (k : Nat) (hC : ∀ k', k' < k → EmptyC k') (w : World) (mb eb : Nat) (names : List Thk.Bytes) (E : List Bool) (A : Nat → Prop) (p : Thk.Piece) (v : Value) (hF : FactsAt w mb eb names E) (hp : RPiece w A p v) (hk : depP p ≤ k) :
    Calls Tryz.prog 130 #[factsV mb eb names.length, v] w fun e w' => e = .returned (.bool (Thk.emptyP (Eb names E) p)) ∧ Below w.heap.size w w' := by
  have hle := hF.le
  have hpos := hF.pos
  cases p with
  | name b =>
    simp only [RPiece] at hp
    obtain ⟨rfl, hbl⟩ := hp
    have e1 : Thk.emptyP (Eb names E) (.name b) = E.getD (idx0 names b) false := rfl
    have hix := idx0_lt b hpos
    rw [e1]
    have hB : ∀ O1 O2, Below w.heap.size w ((w.alloc O1).alloc O2) := fun O1 O2 => (below_alloc _ _).alloc (by simp) _
    have hlk := fun O1 O2 => (hF.map.below (hB O1 O2)).look b hbl
    have hce := fun O1 O2 => (hF.below (hB O1 O2)).cell (idx0 names b) hix
    simp only [factsV]
    clear e1 hB
    generalize E.getD (idx0 names b) false = r at *
    generalize idx0 names b = i at *
    clear hF hC hk
    have a1 := asNameName
    go_enter Tryz.func130, Tryz.ntmps130
    go_wp2_with fail
    go_ret
    exact ⟨rfl, (below_alloc _ _).alloc (by simp) _⟩
  | lit b =>
    simp only [RPiece] at hp
    subst hp
    have a1 := asLitName
    have a2 := asLitGroup
    simp only [factsV]
    clear hF hC hk
    go_enter Tryz.func130, Tryz.ntmps130
    go_wp2_with fail
    go_ret
    exact ⟨rfl, below_alloc _ _⟩
  | cls l =>
    simp only [RPiece] at hp
    obtain ⟨u, rfl, _⟩ := hp
    have a1 := asClsName
    have a2 := asClsGroup
    simp only [factsV]
    clear hF hC hk
    go_enter Tryz.func130, Tryz.ntmps130
    go_wp2_with fail
    go_ret
    exact ⟨rfl, below_alloc _ _⟩
  | any =>
    simp only [RPiece] at hp
    subst hp
    have a1 := asAnyName
    have a2 := asAnyGroup
    simp only [factsV]
    clear hF hC hk
    go_enter Tryz.func130, Tryz.ntmps130
    go_wp2_with fail
    go_ret
    exact ⟨rfl, below_alloc _ _⟩
  | group c =>
    simp only [RPiece] at hp
    obtain ⟨u, us, rfl, hrow, hseqs⟩ := hp
    obtain ⟨ua, uc, rfl⟩ := own_form hrow.1
    have hdep : depC c < k := by simp only [depP] at hk; omega
    have e1 : Thk.emptyP (Eb names E) (.group c) = Thk.emptyC (Eb names E) c := rfl
    rw [e1]
    have hB : ∀ O1 O2, Below w.heap.size w ((w.alloc O1).alloc O2) := fun O1 O2 => (below_alloc _ _).alloc (by simp) _
    have hch := fun O1 O2 => hC _ hdep ((w.alloc O1).alloc O2) mb eb names E A c (.slice ua c.length uc) (hF.below (hB O1 O2)) (RChoice.kept (sm_below (hB O1 O2)) ⟨us, hrow, hseqs⟩) (Nat.le_refl _)
    simp only [factsV] at hch ⊢
    generalize Thk.emptyC (Eb names E) c = r at *
    have a1 := asGroupName
    have a2 := asGroupGroup
    clear hF hC hk hB hdep hrow hseqs e1
    go_enter Tryz.func130, Tryz.ntmps130
    go_wp2_with fail
    refine (hch _ _).mono ?_
    rintro e w1 ⟨rfl, hb⟩
    clear hch
    go_wp2_with fail
    go_ret
    exact ⟨rfl, ((below_alloc _ _).alloc (by simp) _).trans (hb.mono (by simp; omega))⟩
/-- A term as it is handed over. -/
def termV (t : Thk.Term) (v : Value) : Value := .agg #[.int .u8 t.ahead.toNat, v, .int .u8 t.behind.toNat]
set_option maxHeartbeats 4000000 in
set_option maxRecDepth 100000 in
theorem emptyTerm_step (k : Nat) (hC : ∀ k', k' < k → EmptyC k') (w : World) (mb eb : Nat) (names : List Thk.Bytes) (E : List Bool) (A : Nat → Prop) (t : Thk.Term) (v : Value) (hF : FactsAt w mb eb names E) (hp : RTerm w A t v) (hk : depT t ≤ k) :
    Calls Tryz.prog 166 #[factsV mb eb names.length, termV t v] w fun e w' => e = .returned (.bool (Thk.emptyT (Eb names E) t)) ∧ Below w.heap.size w w' := by
  obtain ⟨a, p, b⟩ := t
  simp only [RTerm] at hp
  simp only [depT] at hk
  obtain ⟨vt, vx, rfl⟩ := RPiece.oneCell hp
  have e1 : Thk.emptyT (Eb names E) (.mk a p b) = ((a != 0 || b == 63 || b == 42) || Thk.emptyP (Eb names E) p) := by simp only [Thk.emptyT]
  rw [e1]
  have hB : ∀ O1 O2, Below w.heap.size w ((w.alloc O1).alloc O2) := fun O1 O2 => (below_alloc _ _).alloc (by simp) _
  have hpc := fun O1 O2 => emptyPiece_step k hC ((w.alloc O1).alloc O2) mb eb names E A p (.iface vt vx) (hF.below (hB O1 O2)) (RPiece.kept (sm_below (hB O1 O2)) p _ hp) hk
  generalize Thk.emptyP (Eb names E) p = r at *
  simp only [factsV, termV, Thk.Term.ahead, Thk.Term.behind] at hpc ⊢
  clear hF hC hk hB hp e1
  by_cases h1 : a = 0
  · subst h1
    by_cases h2 : b = 63
    · subst h2
      go_enter Tryz.func166, Tryz.ntmps166
      go_wp2_with fail
      go_ret
      exact ⟨rfl, (below_alloc _ _).alloc (by simp) _⟩
    · have t2 : ((b.toNat : Int) == 63) = false := u8_beq_false h2 63 rfl
      by_cases h3 : b = 42
      · subst h3
        go_enter Tryz.func166, Tryz.ntmps166
        go_wp2_with fail
        go_ret
        exact ⟨rfl, (below_alloc _ _).alloc (by simp) _⟩
      · have t3 : ((b.toNat : Int) == 42) = false := u8_beq_false h3 42 rfl
        rw [show (((0 : UInt8) != 0 || b == 63 || b == 42) || r) = r from by simp [h2, h3]]
        clear h2 h3
        go_enter Tryz.func166, Tryz.ntmps166
        go_wp2_with fail
        refine (hpc _ _).mono ?_
        rintro e w1 ⟨rfl, hb⟩
        clear hpc
        go_wp2_with fail
        go_ret
        exact ⟨rfl, ((below_alloc _ _).alloc (by simp) _).trans (hb.mono (by simp; omega))⟩
  · have t1 : ((a.toNat : Int) != 0) = true := by rw [bne_iff_ne]; intro e; apply h1; apply UInt8.toNat_inj.1; rw [show (0 : UInt8).toNat = 0 from rfl]; omega
    rw [show ((a != 0 || b == 63 || b == 42) || r) = true from by simp [h1]]
    clear h1
    go_enter Tryz.func166, Tryz.ntmps166
    go_wp2_with fail
    go_ret
    exact ⟨rfl, (below_alloc _ _).alloc (by simp) _⟩
end Go.Proofs.YtiganlkabilblaaGreatDoor
namespace Go.Proofs.YtiganlkabilblaaGreatDoor
open Go.RowKit Go.WideMaps Go.Maps
theorem own_at {w : World} {base : Nat} {e : TypeId} {sz : Nat} {a : Option Addr} {n c : Nat} {xs : List Value} (h : w.ownsRow base e sz (.slice a n c) n xs) (hn : 0 < n) : ∃ g, a = some ⟨g, 0, none⟩ ∧ (∀ i, i < n * sz → w.cell? ⟨g, i, none⟩ = xs[i]?) ∧ g < w.heap.size := by
  rcases h.2 with ⟨h1, h2⟩ | ⟨g, cap, cur, hv, _, hh, _⟩
  · omega
  · simp only [Value.slice.injEq] at hv
    obtain ⟨rfl, _, rfl⟩ := hv
    exact ⟨g, rfl, fun i hi => h.cellAt i hi, heap_lt hh⟩
theorem termC_get : ∀ (s : List Thk.Term) (vs : List Value) (h : s.length = vs.length) (j : Nat) (hj : j < s.length),
    (termC s vs)[j * 3]? = some (.int .u8 s[j].ahead.toNat) ∧ (termC s vs)[j * 3 + 1]? = some (vs[j]'(by omega)) ∧ (termC s vs)[j * 3 + 2]? = some (.int .u8 s[j].behind.toNat)
  | [], _, _, _, hj => by simp at hj
  | _ :: _, [], h, _, _ => by simp at h
  | .mk a p b :: s, v :: vs, h, 0, _ => by simp [termC, Thk.Term.ahead, Thk.Term.behind]
  | .mk a p b :: s, v :: vs, h, j + 1, hj => by
    have := termC_get s vs (by simpa using h) j (by simpa using hj)
    simp only [termC, List.getElem_cons_succ]
    rw [show (j + 1) * 3 = j * 3 + 1 + 1 + 1 from by omega]
    simpa using this
theorem RTerms.get {w : World} {A : Nat → Prop} : ∀ {s : List Thk.Term} {vs : List Value} (h : RTerms w A s vs) (j : Nat) (hj : j < s.length) (hv : j < vs.length), RTerm w A s[j] vs[j]
  | [], _, _, _, hj, _ => by simp at hj
  | t :: s, vs, h, j, hj, hv => by
    simp only [RTerms] at h
    obtain ⟨v, vs', rfl, h1, h2⟩ := h
    cases j with
    | zero => exact h1
    | succ j => exact RTerms.get h2 j (by simpa using hj) (by simpa using hv)
theorem RSeqs.get {w : World} {A : Nat → Prop} : ∀ {c : List (List Thk.Term)} {us : List Value} (h : RSeqs w A c us) (j : Nat) (hj : j < c.length) (hv : j < us.length), RSeq w A c[j] us[j]
  | [], _, _, _, hj, _ => by simp at hj
  | t :: s, vs, h, j, hj, hv => by
    simp only [RSeqs] at h
    obtain ⟨v, vs', rfl, h1, h2⟩ := h
    cases j with
    | zero => exact h1
    | succ j => exact RSeqs.get h2 j (by simpa using hj) (by simpa using hv)
theorem emptyS_drop (E : Thk.Bytes → Bool) (s : List Thk.Term) (j : Nat) (hj : j < s.length) : Thk.emptyS E (s.drop j) = (Thk.emptyT E s[j] && Thk.emptyS E (s.drop (j + 1))) := by
  rw [List.drop_eq_getElem_cons hj]; simp only [Thk.emptyS]
theorem emptyC_drop (E : Thk.Bytes → Bool) (c : List (List Thk.Term)) (j : Nat) (hj : j < c.length) : Thk.emptyC E (c.drop j) = (Thk.emptyS E c[j] || Thk.emptyC E (c.drop (j + 1))) := by
  rw [List.drop_eq_getElem_cons hj]; simp only [Thk.emptyC]
theorem depS_get : ∀ (s : List Thk.Term) (j : Nat) (hj : j < s.length), depT s[j] ≤ depS s
  | [], _, hj => by simp at hj
  | t :: s, 0, _ => by simp only [depS, List.getElem_cons_zero]; omega
  | t :: s, j + 1, hj => by simp only [depS, List.getElem_cons_succ]; have := depS_get s j (by simpa using hj); omega
theorem depC_get : ∀ (c : List (List Thk.Term)) (j : Nat) (hj : j < c.length), depS c[j] ≤ depC c
  | [], _, hj => by simp at hj
  | t :: s, 0, _ => by simp only [depC, List.getElem_cons_zero]; omega
  | t :: s, j + 1, hj => by simp only [depC, List.getElem_cons_succ]; have := depC_get s j (by simpa using hj); omega
/-- The facts' box of a method's receiver. -/
abbrev factsO (mb eb n : Nat) : Obj := .cells #[.map (some mb), .slice (some ⟨eb, 0, none⟩) n n] 76
set_option maxHeartbeats 4000000 in
set_option maxRecDepth 100000 in
theorem emptySeq_step (k : Nat) (hC : ∀ k', k' < k → EmptyC k') (w : World) (mb eb : Nat) (names : List Thk.Bytes) (E : List Bool) (A : Nat → Prop) (s : Thk.Seq) (u : Value) (hF : FactsAt w mb eb names E) (hp : RSeq w A s u) (hk : depS s ≤ k) :
    Calls Tryz.prog 164 #[factsV mb eb names.length, u] w fun e w' => e = .returned (.bool (Thk.emptyS (Eb names E) s)) ∧ Below w.heap.size w w' := by
  obtain ⟨vs, ⟨hrow, hA⟩, hts⟩ := hp
  obtain ⟨ua, uc, rfl⟩ := own_form hrow
  have hcap : s.length ≤ maxLen := by
    rcases hrow.2 with ⟨_, h2⟩ | ⟨g, cap, cur, hv, _, _, h1, h2, _⟩
    · omega
    · exact Nat.le_trans h1 h2
  unfold maxLen at hcap
  have HVL : Hid (s.length = vs.length) := RTerms.length hts
  obtain ⟨W, hW⟩ : ∃ W, W = w.alloc (factsO mb eb names.length) := ⟨_, rfl⟩
  have hB0 : Below w.heap.size w W := by rw [hW]; exact below_alloc _ _
  have hWsz : W.heap.size = w.heap.size + 1 := by rw [hW]; simp
  have hbox : W.heap[w.heap.size]? = some (factsO mb eb names.length) := by rw [hW]; exact heap_alloc_same _ _
  have HB0 : Hid (Below w.heap.size w W) := hB0
  have HE : ∃ R, R = Thk.emptyS (Eb names E) s := ⟨_, rfl⟩
  obtain ⟨R, hR⟩ := HE
  rw [← hR]
  have HR : Hid (R = Thk.emptyS (Eb names E) (s.drop 0)) := by rw [hR]; rfl
  clear hR
  simp only [factsV]
  go_enter Tryz.func164, Tryz.ntmps164
  go_wp2_with fail
  rw [← hW]
  go_loopg [9] s.length (fun m i wr => ∃ j : Nat, m = s.length - j ∧ j ≤ s.length ∧ i = .int .i64 j ∧ Below W.heap.size W wr ∧ Hid (R = Thk.emptyS (Eb names E) (s.drop j)))
  case atStart => exact ⟨0, rfl, Nat.zero_le _, rfl, Below.refl _ _, HR⟩
  case round =>
    obtain ⟨j, rfl, hj, rfl, hb, hH⟩ := hrel
    have hbx0 : wr.heap[w.heap.size]? = some (factsO mb eb names.length) := by rw [hb.block _ (by omega)]; exact hbox
    have hbx := cell_of_block hbx0
    clear hbx0
    have hbw : Below w.heap.size w wr := HB0.out.trans (hb.mono (by omega))
    have hsz := hb.size
    by_cases hlt : j < s.length
    · have hjv : j < vs.length := by have := HVL.out; omega
      obtain ⟨g, rfl, hcs, hgl⟩ := own_at hrow (by omega)
      obtain ⟨t0, t1, t2⟩ := termC_get s vs HVL.out j hlt
      have c0 : wr.cell? ⟨g, j * 3, none⟩ = some (.int .u8 s[j].ahead.toNat) := by rw [hbw.cell (p := ⟨g, _, none⟩) hgl, hcs _ (by omega)]; exact t0
      have c1 : wr.cell? ⟨g, j * 3 + 1, none⟩ = some (vs[j]'hjv) := by rw [hbw.cell (p := ⟨g, _, none⟩) hgl, hcs _ (by omega)]; exact t1
      have c2 : wr.cell? ⟨g, j * 3 + 2, none⟩ = some (.int .u8 s[j].behind.toNat) := by rw [hbw.cell (p := ⟨g, _, none⟩) hgl, hcs _ (by omega)]; exact t2
      have htr := RTerms.get hts j hlt hjv
      have hpc := fun O => emptyTerm_step k hC (wr.alloc O) mb eb names E A s[j] (vs[j]'hjv) (hF.below (hbw.alloc (by omega) O)) (RTerm.kept (sm_below (hbw.alloc (by omega) O)) _ _ htr) (Nat.le_trans (depS_get s j hlt) hk)
      have hed := emptyS_drop (Eb names E) s j hlt
      obtain ⟨tt, xx, hvx⟩ : ∃ t x, vs[j]'hjv = .iface t x := by
        cases htt : s[j] with
        | mk a p b => rw [htt] at htr; simp only [RTerm] at htr; exact RPiece.oneCell htr
      rw [hvx] at c1
      simp only [hvx, termV, factsV] at hpc
      have HED : Hid (Thk.emptyS (Eb names E) (s.drop j) = (Thk.emptyT (Eb names E) s[j] && Thk.emptyS (Eb names E) (s.drop (j + 1)))) := hed
      have hlt' : (j : Int) < s.length := by omega
      clear hed htr t0 t1 t2 hvx hcs
      generalize hr : Thk.emptyT (Eb names E) s[j] = r at *
      generalize s[j].ahead = ah at *
      generalize s[j].behind = be at *
      clear hr
      have hw9 : w.heap.size < wr.heap.size := by omega
      cases r with
      | true =>
        go_wp2_with fail
        refine (hpc _).mono ?_
        rintro e w1 ⟨rfl, hb1⟩
        have hs1 := hb1.size
        simp at hs1
        have hb2 : Below W.heap.size W w1 := (hb.alloc hsz _).trans (hb1.mono (by simp; omega))
        clear hpc hb1
        go_wp2_with fail
        go_roundg (s.length - (j + 1))
        case measure => omega
        case rel => exact ⟨j + 1, rfl, by omega, by go_num, hb2, by have h1 := hH.out; rw [HED.out, Bool.true_and] at h1; exact h1⟩
      | false =>
        go_wp2_with fail
        refine (hpc _).mono ?_
        rintro e w1 ⟨rfl, hb1⟩
        have hs1 := hb1.size
        simp at hs1
        have hb2 : Below w.heap.size w w1 := (hbw.alloc (by omega) _).trans (hb1.mono (by simp; omega))
        clear hpc hb1
        go_wp2_with fail
        go_ret
        exact ⟨by have h1 := hH.out; rw [HED.out, Bool.false_and] at h1; rw [h1]; rfl, hb2⟩
    · have hje : j = s.length := by omega
      have hRt : Hid (R = true) := by
        have h1 := hH.out
        rw [hje, List.drop_length] at h1
        exact h1
      clear hH
      go_wp2_with fail
      go_ret
      exact ⟨by rw [hRt.out]; rfl, hbw⟩
set_option maxHeartbeats 4000000 in
set_option maxRecDepth 100000 in
theorem emptyChoice_step (k : Nat) (hC : ∀ k', k' < k → EmptyC k') : EmptyC k := by
  intro w mb eb names E A c u hF hp hk
  obtain ⟨vs, ⟨hrow, hA⟩, hts⟩ := hp
  obtain ⟨ua, uc, rfl⟩ := own_form hrow
  have hcap : c.length ≤ maxLen := by
    rcases hrow.2 with ⟨_, h2⟩ | ⟨g, cap, cur, hv, _, _, h1, h2, _⟩
    · omega
    · exact Nat.le_trans h1 h2
  unfold maxLen at hcap
  have HVL : Hid (c.length = vs.length) := RSeqs.length hts
  obtain ⟨W, hW⟩ : ∃ W, W = w.alloc (factsO mb eb names.length) := ⟨_, rfl⟩
  have hB0 : Below w.heap.size w W := by rw [hW]; exact below_alloc _ _
  have hWsz : W.heap.size = w.heap.size + 1 := by rw [hW]; simp
  have hbox : W.heap[w.heap.size]? = some (factsO mb eb names.length) := by rw [hW]; exact heap_alloc_same _ _
  have HB0 : Hid (Below w.heap.size w W) := hB0
  have HE : ∃ R, R = Thk.emptyC (Eb names E) c := ⟨_, rfl⟩
  obtain ⟨R, hR⟩ := HE
  rw [← hR]
  have HR : Hid (R = Thk.emptyC (Eb names E) (c.drop 0)) := by rw [hR]; rfl
  clear hR
  simp only [factsV]
  go_enter Tryz.func127, Tryz.ntmps127
  go_wp2_with fail
  rw [← hW]
  go_loopg [9] c.length (fun m i wr => ∃ j : Nat, m = c.length - j ∧ j ≤ c.length ∧ i = .int .i64 j ∧ Below W.heap.size W wr ∧ Hid (R = Thk.emptyC (Eb names E) (c.drop j)))
  case atStart => exact ⟨0, rfl, Nat.zero_le _, rfl, Below.refl _ _, HR⟩
  case round =>
    obtain ⟨j, rfl, hj, rfl, hb, hH⟩ := hrel
    have hbx0 : wr.heap[w.heap.size]? = some (factsO mb eb names.length) := by rw [hb.block _ (by omega)]; exact hbox
    have hbx := cell_of_block hbx0
    clear hbx0
    have hbw : Below w.heap.size w wr := HB0.out.trans (hb.mono (by omega))
    have hsz := hb.size
    by_cases hlt : j < c.length
    · have hjv : j < vs.length := by have := HVL.out; omega
      obtain ⟨g, rfl, hcs, hgl⟩ := own_at hrow (by omega)
      have c0 : wr.cell? ⟨g, j, none⟩ = some (vs[j]'hjv) := by rw [hbw.cell (p := ⟨g, _, none⟩) hgl, hcs _ (by omega)]; exact List.getElem?_eq_getElem hjv
      have htr := RSeqs.get hts j hlt hjv
      have hdj := Nat.le_trans (depC_get c j hlt) hk
      have hpc := emptySeq_step k hC wr mb eb names E A c[j] (vs[j]'hjv) (hF.below hbw) (htr.kept (sm_below hbw)) hdj
      have hed := emptyC_drop (Eb names E) c j hlt
      obtain ⟨tt, xx, hvx⟩ : ∃ t x, vs[j]'hjv = .slice t c[j].length x := by
        obtain ⟨_, hr, _⟩ := htr
        exact own_form hr.1
      rw [hvx] at c0
      simp only [hvx, factsV] at hpc
      have HED : Hid (Thk.emptyC (Eb names E) (c.drop j) = (Thk.emptyS (Eb names E) c[j] || Thk.emptyC (Eb names E) (c.drop (j + 1)))) := hed
      have hlt' : (j : Int) < c.length := by omega
      clear hed htr hvx hcs
      generalize hr : Thk.emptyS (Eb names E) c[j] = r at *
      generalize c[j].length = cl at *
      clear hr
      have hw9 : w.heap.size < wr.heap.size := by omega
      cases r with
      | false =>
        go_wp2_with fail
        refine hpc.mono ?_
        rintro e w1 ⟨rfl, hb1⟩
        have hb2 : Below W.heap.size W w1 := hb.trans (hb1.mono (by omega))
        clear hpc hb1
        go_wp2_with fail
        go_roundg (c.length - (j + 1))
        case measure => omega
        case rel => exact ⟨j + 1, rfl, by omega, by go_num, hb2, by have h1 := hH.out; rw [HED.out, Bool.false_or] at h1; exact h1⟩
      | true =>
        go_wp2_with fail
        refine hpc.mono ?_
        rintro e w1 ⟨rfl, hb1⟩
        have hb2 : Below w.heap.size w w1 := hbw.trans (hb1.mono (by omega))
        clear hpc hb1
        go_wp2_with fail
        go_ret
        exact ⟨by have h1 := hH.out; rw [HED.out, Bool.true_or] at h1; rw [h1]; rfl, hb2⟩
    · have hje : j = c.length := by omega
      have hRt : Hid (R = false) := by
        have h1 := hH.out
        rw [hje, List.drop_length] at h1
        exact h1
      clear hH
      go_wp2_with fail
      go_ret
      exact ⟨by rw [hRt.out]; rfl, hbw⟩
theorem empty_all (k : Nat) : EmptyC k := by
  induction k using Nat.strongRecOn with
  | ind k ih => exact emptyChoice_step k ih
theorem emptyPiece_any (w : World) (mb eb : Nat) (names : List Thk.Bytes) (E : List Bool) (A : Nat → Prop) (p : Thk.Piece) (v : Value) (hF : FactsAt w mb eb names E) (hp : RPiece w A p v) :
    Calls Tryz.prog 130 #[factsV mb eb names.length, v] w fun e w' => e = .returned (.bool (Thk.emptyP (Eb names E) p)) ∧ Below w.heap.size w w' :=
  emptyPiece_step (depP p) (fun k _ => empty_all k) w mb eb names E A p v hF hp (Nat.le_refl _)
theorem emptyTerm_any (w : World) (mb eb : Nat) (names : List Thk.Bytes) (E : List Bool) (A : Nat → Prop) (t : Thk.Term) (v : Value) (hF : FactsAt w mb eb names E) (hp : RTerm w A t v) :
    Calls Tryz.prog 166 #[factsV mb eb names.length, termV t v] w fun e w' => e = .returned (.bool (Thk.emptyT (Eb names E) t)) ∧ Below w.heap.size w w' :=
  emptyTerm_step (depT t) (fun k _ => empty_all k) w mb eb names E A t v hF hp (Nat.le_refl _)
theorem emptyChoice_any (w : World) (mb eb : Nat) (names : List Thk.Bytes) (E : List Bool) (A : Nat → Prop) (c : Thk.Choice) (u : Value) (hF : FactsAt w mb eb names E) (hp : RChoice w A c u) :
    Calls Tryz.prog 127 #[factsV mb eb names.length, u] w fun e w' => e = .returned (.bool (Thk.emptyC (Eb names E) c)) ∧ Below w.heap.size w w' :=
  empty_all (depC c) w mb eb names E A c u hF hp (Nat.le_refl _)
end Go.Proofs.YtiganlkabilblaaGreatDoor
namespace Go.Proofs.YtiganlkabilblaaGreatDoor
open Go.RowKit Go.WideMaps Go.Maps
mutual
theorem emptyP_mono {E F : Thk.Bytes → Bool} (h : ∀ b, E b = true → F b = true) : ∀ (p : Thk.Piece), Thk.emptyP E p = true → Thk.emptyP F p = true
  | .name b, hp => h b hp
  | .group c, hp => by simp only [Thk.emptyP] at hp ⊢; exact emptyC_mono h c hp
  | .lit _, hp => by simp [Thk.emptyP] at hp
  | .cls _, hp => by simp [Thk.emptyP] at hp
  | .any, hp => by simp [Thk.emptyP] at hp
theorem emptyT_mono {E F : Thk.Bytes → Bool} (h : ∀ b, E b = true → F b = true) : ∀ (t : Thk.Term), Thk.emptyT E t = true → Thk.emptyT F t = true
  | .mk a p b, ht => by
    simp only [Thk.emptyT, Bool.or_eq_true] at ht ⊢
    rcases ht with ht | ht
    · exact .inl ht
    · exact .inr (emptyP_mono h p ht)
theorem emptyS_mono {E F : Thk.Bytes → Bool} (h : ∀ b, E b = true → F b = true) : ∀ (s : List Thk.Term), Thk.emptyS E s = true → Thk.emptyS F s = true
  | [], _ => by simp [Thk.emptyS]
  | t :: s, hs => by
    simp only [Thk.emptyS, Bool.and_eq_true] at hs ⊢
    exact ⟨emptyT_mono h t hs.1, emptyS_mono h s hs.2⟩
theorem emptyC_mono {E F : Thk.Bytes → Bool} (h : ∀ b, E b = true → F b = true) : ∀ (c : List (List Thk.Term)), Thk.emptyC E c = true → Thk.emptyC F c = true
  | [], hc => by simp [Thk.emptyC] at hc
  | s :: c, hc => by
    simp only [Thk.emptyC, Bool.or_eq_true] at hc ⊢
    rcases hc with hc | hc
    · exact .inl (emptyS_mono h s hc)
    · exact .inr (emptyC_mono h c hc)
 end
/-- E says of each rule that may take nothing, by E, that it may. -/
def Closed (names : List Thk.Bytes) (g : List Thk.Rule) (E : List Bool) : Prop := ∀ i (h : i < g.length), Thk.emptyC (Eb names E) g[i].choice = true → E.getD i false = true
def Least (names : List Thk.Bytes) (g : List Thk.Rule) (E : List Bool) : Prop := ∀ F : List Bool, Closed names g F → ∀ i, E.getD i false = true → F.getD i false = true
theorem Least.set {names : List Thk.Bytes} {g : List Thk.Rule} {E : List Bool} (h : Least names g E) {i : Nat} (hi : i < g.length) (he : Thk.emptyC (Eb names E) g[i].choice = true) : Least names g (E.set i true) := by
  intro F hF j hj
  by_cases hij : j = i
  · subst hij
    exact hF j hi (emptyC_mono (fun b hb => h F hF _ hb) _ he)
  · refine h F hF j ?_
    rw [List.getD_eq_getElem?_getD, List.getElem?_set, if_neg (fun e => hij e.symm)] at hj
    rw [List.getD_eq_getElem?_getD]; exact hj
def cf (E : List Bool) : Nat := E.countP (· == false)
theorem cf_set {E : List Bool} {i : Nat} (hi : i < E.length) (h : E.getD i false = false) : cf (E.set i true) < cf E := by
  unfold cf
  have h' : E[i] = false := by simpa [hi] using h
  induction E generalizing i with
  | nil => simp at hi
  | cons x xs ih =>
    cases i with
    | zero => simp at h'; subst h'; simp
    | succ i =>
      have := ih (i := i) (by simpa using hi) (by simpa using h) (by simpa using h')
      simp only [List.set_cons_succ, List.countP_cons]
      omega
theorem boolsO_set (E : List Bool) (i : Nat) : Obj.cells ((E.map Value.bool).toArray.setIfInBounds i (.bool true)) 4 (0, 0) = boolsO (E.set i true) := by
  unfold boolsO
  congr 1
  apply Array.toList_inj.1
  simp [List.map_set]
theorem sm_kpB {A : Nat → Prop} {eb : Nat} {w w' : World} {E : List Bool} (hr : w.heap[eb]? = some (boolsO E)) (hk : Kp eb w.heap.size w w') (hA : ∀ g, A g → g ≠ eb) : Sm A w w' :=
  ⟨fun _ _ h => own_kp h hr (by decide) hk, fun g hg ha => hk.block g hg (hA g ha)⟩
theorem RGram.kept {w w' : World} {A : Nat → Prop} (h : Sm A w w') {g : List Thk.Rule} {v : Value} (hg : RGram w A g v) : RGram w' A g v := by
  obtain ⟨vs, h1, h2⟩ := hg
  exact ⟨vs, h1.kept h.blocks, RRules.kept h h2⟩
theorem RRules.get {w : World} {A : Nat → Prop} : ∀ {g : List Thk.Rule} {vs : List Value} (h : RRules w A g vs) (j : Nat) (hj : j < g.length) (hv : j < vs.length), RChoice w A g[j].choice vs[j] ∧ g[j].name.length ≤ 2000
  | [], _, _, _, hj, _ => by simp at hj
  | t :: s, vs, h, j, hj, hv => by
    obtain ⟨v, vs', rfl, h1, h2⟩ := h
    cases j with
    | zero => exact h1
    | succ j => exact RRules.get h2 j (by simpa using hj) (by simpa using hv)
theorem ruleC_get : ∀ (g : List Thk.Rule) (vs : List Value) (h : g.length = vs.length) (j : Nat) (hj : j < g.length),
    (ruleC g vs)[j * 2]? = some (.string ⟨g[j].name.toArray⟩) ∧ (ruleC g vs)[j * 2 + 1]? = some (vs[j]'(by omega))
  | [], _, _, _, hj => by simp at hj
  | _ :: _, [], h, _, _ => by simp at h
  | r :: s, v :: vs, h, 0, _ => by simp [ruleC]
  | r :: s, v :: vs, h, j + 1, hj => by
    have := ruleC_get s vs (by simpa using h) j (by simpa using hj)
    simp only [ruleC, List.getElem_cons_succ]
    rw [show (j + 1) * 2 = j * 2 + 1 + 1 from by omega]
    simpa using this
/-- The cells of rule j, and its choice. -/
theorem RGram.at {w : World} {A : Nat → Prop} {g : List Thk.Rule} {ga : Addr} {gc : Nat} (h : RGram w A g (.slice (some ga) g.length gc)) (j : Nat) (hj : j < g.length) :
    ∃ gb a c, ga = ⟨gb, 0, none⟩ ∧ gb < w.heap.size ∧ A gb ∧ w.cell? ⟨gb, j * 2, none⟩ = some (.string ⟨g[j].name.toArray⟩) ∧ w.cell? ⟨gb, j * 2 + 1, none⟩ = some (.slice a g[j].choice.length c) ∧
      RChoice w A g[j].choice (.slice a g[j].choice.length c) ∧ g[j].name.length ≤ 2000 := by
  obtain ⟨vs, ⟨h1, h2⟩, h3⟩ := h
  obtain ⟨gb, e1, hcs, hlt⟩ := own_at h1 (by omega)
  have hvl := RRules.length h3
  obtain ⟨r0, r1⟩ := ruleC_get g vs hvl j hj
  obtain ⟨hc, hn⟩ := RRules.get h3 j hj (by omega)
  have hform : ∃ a c, vs[j]'(by omega) = .slice a g[j].choice.length c := by
    obtain ⟨us, hr, _⟩ := hc
    exact own_form hr.1
  obtain ⟨a, c, hv⟩ := hform
  simp only [Option.some.injEq] at e1
  rw [hv] at r1 hc
  exact ⟨gb, a, c, e1, hlt, h2 gb (by rw [e1]; rfl), by rw [hcs _ (by omega)]; exact r0, by rw [hcs _ (by omega)]; exact r1, hc, hn⟩
end Go.Proofs.YtiganlkabilblaaGreatDoor
namespace Go.Proofs.YtiganlkabilblaaGreatDoor
open Go.RowKit Go.WideMaps Go.Maps
theorem FactsAt.kp {w w' : World} {mb eb : Nat} {names : List Thk.Bytes} {E E' : List Bool} (h : FactsAt w mb eb names E) (hk : Kp eb w.heap.size w w') (he : w'.heap[eb]? = some (boolsO E')) (hl : E'.length = E.length) : FactsAt w' mb eb names E' := by
  refine ⟨h.map.same (hk.block mb h.map.lt ?_), he, hl.trans h.len, h.pos, h.le⟩
  intro e
  subst e
  obtain ⟨D, ⟨es, clock, h1, _⟩, _⟩ := h.map
  have := h.emp
  rw [h1] at this
  simp [boolsO] at this
/-- What findEmpty keeps at its outer loop's head. -/
structure FeRel (W : World) (mb eb : Nat) (names : List Thk.Bytes) (g : List Thk.Rule) (E : List Bool) (wr : World) : Prop where
  facts : FactsAt wr mb eb names E
  kp : Kp eb W.heap.size W wr
  least : Least names g E
set_option maxHeartbeats 8000000 in
set_option maxRecDepth 100000 in
theorem findEmpty_any (w : World) (mb eb : Nat) (names : List Thk.Bytes) (E : List Bool) (A : Nat → Prop) (g : List Thk.Rule) (ga : Addr) (gc : Nat) (hF : FactsAt w mb eb names E) (hG : RGram w A g (.slice (some ga) g.length gc)) (hA : ∀ b, A b → b ≠ eb)
    (hgn : g.length = names.length) (hL : Least names g E) :
    Calls Tryz.prog 90 #[factsV mb eb names.length, .slice (some ga) g.length gc] w fun e w' =>
      e = .returned (.tuple #[]) ∧ Kp eb w.heap.size w w' ∧ ∃ E', FactsAt w' mb eb names E' ∧ Closed names g E' ∧ Least names g E' := by
  have hle := hF.le
  have hpos := hF.pos
  obtain ⟨W, hW⟩ : ∃ W, W = w.alloc (factsO mb eb names.length) := ⟨_, rfl⟩
  have hB0 : Below w.heap.size w W := by rw [hW]; exact below_alloc _ _
  have hWsz : W.heap.size = w.heap.size + 1 := by rw [hW]; simp
  have hbox : W.heap[w.heap.size]? = some (factsO mb eb names.length) := by rw [hW]; exact heap_alloc_same _ _
  have hebl : eb < w.heap.size := heap_lt hF.emp
  have HB0 : Hid (Below w.heap.size w W) := hB0
  have HS0 : Hid (FeRel W mb eb names g E W) := ⟨hF.below hB0, Kp.refl _ _ _, hL⟩
  have HG : Hid (RGram W A g (.slice (some ga) g.length gc)) := hG.kept (sm_below hB0)
  have HA : Hid (∀ b, A b → b ≠ eb) := hA
  have HGN : Hid (g.length = names.length) := hgn
  have hgl : g.length ≤ 20 := by omega
  have hgp : 0 < g.length := by omega
  clear hF hG hL hB0 hA hgn
  simp only [factsV]
  go_enter Tryz.func90, Tryz.ntmps90
  go_wp2_with fail
  rw [← hW]
  go_loopg [4] (cf E + 1) (fun m v wr => ∃ E' ad, v = .bool ad ∧ m = (if ad then cf E' + 1 else 0) ∧ FeRel W mb eb names g E' wr ∧ Hid (ad = false → Closed names g E'))
  case atStart => exact ⟨E, true, rfl, rfl, HS0.out, fun h => by cases h⟩
  case round =>
    obtain ⟨E1, ad, rfl, hm, hR, hcl⟩ := hrel
    have HM : Hid (gk = if ad then cf E1 + 1 else 0) := hm
    clear hm
    have HR : Hid (FeRel W mb eb names g E1 wr) := hR
    have hszr := hR.kp.size
    clear hR
    cases ad with
    | false =>
      have HC : Hid (Closed names g E1) := hcl.out rfl
      clear hcl
      go_wp2_with fail
      go_end0
      exact ⟨rfl, (Kp.of HB0.out).trans (HR.out.kp.mono (by omega)), E1, HR.out.facts, HC.out, HR.out.least⟩
    | true =>
      clear hcl
      go_wp2_with fail
      go_loopg [4, 10] g.length (fun m v i wr => ∃ (j : Nat) (E2 : List Bool) (ad : Bool), m = g.length - j ∧ j ≤ g.length ∧ v = .bool ad ∧ i = .int .i64 j ∧ FeRel W mb eb names g E2 wr ∧
        Hid (ad = false → E2 = E1 ∧ ∀ t (ht : t < g.length), t < j → Thk.emptyC (Eb names E1) g[t].choice = true → E1.getD t false = true) ∧ Hid (ad = true → cf E2 < cf E1))
      case atStart => exact ⟨0, E1, false, rfl, Nat.zero_le _, rfl, rfl, HR.out, fun _ => ⟨rfl, fun t _ ht => by omega⟩, fun h => by cases h⟩
      case round =>
        obtain ⟨j, E2, ad, rfl, hj, rfl, rfl, hR2, hf, ht⟩ := hrel
        have HR2 : Hid (FeRel W mb eb names g E2 wr) := hR2
        have hszr2 := hR2.kp.size
        have hE2 := hR2.facts.emp
        have hbx0 : wr.heap[w.heap.size]? = some (factsO mb eb names.length) := by rw [hR2.kp.block _ (by omega) (by omega)]; exact hbox
        have hbx := cell_of_block hbx0
        clear hR2 hbx0
        by_cases hlt : j < g.length
        · have hGr : RGram wr A g (.slice (some ga) g.length gc) := HG.out.kept (sm_kpB HS0.out.facts.emp HR2.out.kp HA.out)
          obtain ⟨gb, a, c, rfl, hgb, hAgb, c0, c1, hCh, hnm⟩ := hGr.at j hlt
          have hjn : j < names.length := by have := HGN.out; omega
          have hem := HR2.out.facts.cell j hjn
          have hfz := frozen_of_block hE2 j
          have hB1 : ∀ O, Below wr.heap.size wr (wr.alloc O) := fun O => below_alloc _ _
          have hec := fun O => emptyChoice_any (wr.alloc O) mb eb names E2 A g[j].choice _ (HR2.out.facts.below (hB1 O)) (hCh.kept (sm_below (hB1 O)))
          simp only [factsV] at hec
          have hlt' : (j : Int) < g.length := by omega
          have hjn' : (j : Int) < names.length := by omega
          have hw9 : w.heap.size < wr.heap.size := by omega
          have hebr : eb < wr.heap.size := heap_lt hE2
          have hle2 : E2.length = names.length := HR2.out.facts.len
          have HLE2 : Hid (E2.length = names.length) := hle2
          have HE2 : Hid (wr.heap[eb]? = some (boolsO E2)) := hE2
          clear hGr hCh hB1 hle2 hE2
          cases hej : E2.getD j false with
          | true =>
            rw [hej] at hem
            have hN : Hid (ad = false → E2 = E1 ∧ ∀ t (ht : t < g.length), t < j + 1 → Thk.emptyC (Eb names E1) g[t].choice = true → E1.getD t false = true) := by
              intro had
              obtain ⟨h1, h2⟩ := hf.out had
              refine ⟨h1, fun t ht htj he => ?_⟩
              by_cases e : t = j
              · subst e; rw [← h1]; exact hej
              · exact h2 t ht (by omega) he
            clear hej hec hf
            go_wp2_with fail
            go_roundg (g.length - (j + 1))
            case measure => omega
            case rel => exact ⟨j + 1, E2, ad, rfl, by omega, rfl, by go_num, ⟨HR2.out.facts.below (below_alloc _ _), HR2.out.kp.alloc (by omega) _, HR2.out.least⟩, hN, ht⟩
          | false =>
            rw [hej] at hem
            have HEJ : Hid (E2.getD j false = false) := hej
            clear hej
            cases hr : Thk.emptyC (Eb names E2) g[j].choice with
            | false =>
              have HRR : Hid (Thk.emptyC (Eb names E2) g[j].choice = false) := hr
              simp only [hr] at hec
              clear hr
              have hN : Hid (ad = false → E2 = E1 ∧ ∀ t (ht : t < g.length), t < j + 1 → Thk.emptyC (Eb names E1) g[t].choice = true → E1.getD t false = true) := by
                intro had
                obtain ⟨h1, h2⟩ := hf.out had
                refine ⟨h1, fun t ht htj he => ?_⟩
                by_cases e : t = j
                · subst e; rw [← h1, HRR.out] at he; cases he
                · exact h2 t ht (by omega) he
              clear hf
              go_wp2_with fail
              refine (hec _).mono ?_
              rintro e w1 ⟨rfl, hb1⟩
              have hs1 := hb1.size
              simp at hs1
              have hb2 : Below wr.heap.size wr w1 := (below_alloc _ _).trans (hb1.mono (by simp))
              clear hec hb1
              go_wp2_with fail
              go_roundg (g.length - (j + 1))
              case measure => omega
              case rel => exact ⟨j + 1, E2, ad, rfl, by omega, rfl, by go_num, ⟨HR2.out.facts.below hb2, HR2.out.kp.trans (Kp.of (hb2.mono (by omega))), HR2.out.least⟩, hN, ht⟩
            | true =>
              have HRR : Hid (Thk.emptyC (Eb names E2) g[j].choice = true) := hr
              simp only [hr] at hec
              clear hr
              go_wp2_with fail
              refine (hec _).mono ?_
              rintro e w1 ⟨rfl, hb1⟩
              have hs1 := hb1.size
              simp at hs1
              have hb2 : Below wr.heap.size wr w1 := (below_alloc _ _).trans (hb1.mono (by simp))
              have hem1 : w1.heap[eb]? = some (boolsO E2) := by rw [hb2.block _ hebr]; exact HE2.out
              have hc1 : w1.cell? ⟨eb, j, none⟩ = some (.bool false) := by rw [hb2.cell (p := ⟨eb, j, none⟩) hebr]; exact hem
              have hfz1 := frozen_of_block hem1 j
              have hbx1 : ∀ o, w1.cell? ⟨w.heap.size, o, none⟩ = (#[.map (some mb), .slice (some ⟨eb, 0, none⟩) names.length names.length] : Array Value)[o]? := fun o => by rw [hb2.cell (p := ⟨w.heap.size, o, none⟩) hw9]; exact hbx o
              have hw91 : w.heap.size < w1.heap.size := by omega
              have HB2 : Hid (Below wr.heap.size wr w1) := hb2
              have HEM1 : Hid (w1.heap[eb]? = some (boolsO E2)) := hem1
              clear hec hb1 hb2 hem1
              go_wp2_with fail
              have hset : (w1.setCell ⟨eb, j, none⟩ (.bool true)).heap[eb]? = some (boolsO (E2.set j true)) := by
                rw [heap_setCell_at HEM1.out, boolsO_set]
              have hkp1 : Kp eb w1.heap.size w1 (w1.setCell ⟨eb, j, none⟩ (.bool true)) := (Kp.refl _ _ _).setRb _ _
              have hF1 : FactsAt w1 mb eb names E2 := HR2.out.facts.below HB2.out
              go_roundg (g.length - (j + 1))
              case measure => omega
              case rel =>
                refine ⟨j + 1, E2.set j true, true, rfl, by omega, rfl, by go_num, ⟨hF1.kp hkp1 hset (by simp), (HR2.out.kp.trans (Kp.of (HB2.out.mono (by omega)))).setRb _ _, HR2.out.least.set hlt HRR.out⟩, (fun h => by cases h), fun _ => ?_⟩
                have h1 := cf_set (E := E2) (i := j) (by rw [HLE2.out]; exact hjn) HEJ.out
                cases ad with
                | true => have := ht.out rfl; omega
                | false => obtain ⟨h2, _⟩ := hf.out rfl; rw [← h2]; exact h1
        · have hjg : j = g.length := by omega
          have HT : Hid ((if ad then cf E2 + 1 else 0) < gk) := by
            show _ < _
            rw [HM.out]
            cases ad with
            | true => have := ht.out rfl; simp; omega
            | false => simp
          have HC : Hid (ad = false → Closed names g E2) := by
            intro had
            obtain ⟨h1, h2⟩ := hf.out had
            intro t htl he
            rw [h1] at he ⊢
            exact h2 t htl (by omega) he
          clear hf ht
          go_wp2_with fail
          go_roundg (if ad then cf E2 + 1 else 0)
          case measure => exact HT.out
          case rel => exact ⟨E2, ad, rfl, rfl, HR2.out, HC⟩
end Go.Proofs.YtiganlkabilblaaGreatDoor
namespace Go.Proofs.YtiganlkabilblaaGreatDoor
open Go.RowKit Go.WideMaps Go.Maps
/-- Rule i has the name of an earlier one. -/
def twiceAt (ns : List Thk.Bytes) (i : Nat) : Bool := (ns.take i).contains (ns.getD i [])
def namesOf (g : List Thk.Rule) : List Thk.Bytes := g.map (·.name)
theorem namesOf_get (g : List Thk.Rule) (j : Nat) (hj : j < g.length) : (namesOf g).getD j [] = g[j].name := by simp [namesOf, hj]
theorem names_take (g : List Thk.Rule) (j : Nat) (hj : j < g.length) : (namesOf g).take (j + 1) = (namesOf g).take j ++ [g[j].name] := by
  have h : j < (namesOf g).length := by simp [namesOf, hj]
  rw [List.take_succ_eq_append_getElem h]
  simp [namesOf]
def FirstTwice (ns : List Thk.Bytes) : Option Nat → Prop
  | none => ∀ i, i < ns.length → twiceAt ns i = false
  | some i => i < ns.length ∧ twiceAt ns i = true ∧ ∀ t, t < i → twiceAt ns t = false
/-- A fault, or none. -/
def faultO (er : Nat) : Option Nat → Value
  | none => .nilIface
  | some i => faultV er i
set_option maxHeartbeats 8000000 in
set_option maxRecDepth 100000 in
theorem number_any (w : World) (mb eb n : Nat) (A : Nat → Prop) (g : List Thk.Rule) (ga : Addr) (gc : Nat) (hM : MapIs w mb []) (hG : RGram w A g (.slice (some ga) g.length gc)) (hA : ∀ b, A b → b ≠ mb) (hgl : g.length ≤ 20) :
    Calls Tryz.prog 87 #[factsV mb eb n, .slice (some ga) g.length gc] w fun e w' =>
      Kp mb w.heap.size w w' ∧ ∃ o, FirstTwice (namesOf g) o ∧ e = .returned (faultO 5 o) ∧ (o = none → MapIs w' mb (namesOf g)) := by
  obtain ⟨W, hW⟩ : ∃ W, W = w.alloc (factsO mb eb n) := ⟨_, rfl⟩
  have hB0 : Below w.heap.size w W := by rw [hW]; exact below_alloc _ _
  have hWsz : W.heap.size = w.heap.size + 1 := by rw [hW]; simp
  have hbox : W.heap[w.heap.size]? = some (factsO mb eb n) := by rw [hW]; exact heap_alloc_same _ _
  have hmbl : mb < w.heap.size := hM.lt
  obtain ⟨es0, cl0, hmb0⟩ : ∃ es cl, w.heap[mb]? = some (.map es cl) := by obtain ⟨D, ⟨es, cl, h1, _⟩, _⟩ := hM; exact ⟨es, cl, h1⟩
  have hmbW : W.heap[mb]? = some (.map es0 cl0) := by rw [hB0.block _ hmbl]; exact hmb0
  have HB0 : Hid (Below w.heap.size w W) := hB0
  have HM0 : Hid (MapIs W mb []) := hM.below hB0
  have HG : Hid (RGram W A g (.slice (some ga) g.length gc)) := hG.kept (sm_below hB0)
  have HA : Hid (∀ b, A b → b ≠ mb) := hA
  clear hM hG hB0 hmb0 hA
  have HMB : Hid (W.heap[mb]? = some (.map es0 cl0)) := hmbW
  clear hmbW
  simp only [factsV]
  go_enter Tryz.func87, Tryz.ntmps87
  go_wp2_with fail
  rw [← hW]
  go_loopg [11] g.length (fun m i wr => ∃ (j : Nat), m = g.length - j ∧ j ≤ g.length ∧ i = .int .i64 j ∧ MapIs wr mb ((namesOf g).take j) ∧ Kp mb W.heap.size W wr ∧ Hid (∀ t, t < j → twiceAt (namesOf g) t = false))
  case atStart => exact ⟨0, rfl, Nat.zero_le _, rfl, by simpa using HM0.out, Kp.refl _ _ _, fun t ht => by omega⟩
  case round =>
    obtain ⟨j, rfl, hj, rfl, hMr, hK, hno⟩ := hrel
    have hszr := hK.size
    have hbx0 : wr.heap[w.heap.size]? = some (factsO mb eb n) := by rw [hK.block _ (by omega) (by omega)]; exact hbox
    have hbx := cell_of_block hbx0
    have hw9 : w.heap.size < wr.heap.size := by omega
    have hmr := hMr.lt
    have HK : Hid (Kp mb W.heap.size W wr) := hK
    have HM : Hid (MapIs wr mb ((namesOf g).take j)) := hMr
    clear hbx0 hK hMr
    by_cases hlt : j < g.length
    · have hSm : Sm A W wr := by
        refine ⟨fun u l hl => own_blocks hl (fun b hb => HK.out.block b (hl.lt b hb).2 ?_), fun b hb ha => HK.out.block b hb ?_⟩
        · intro e; subst e
          obtain ⟨cur, h1⟩ := own_block_type hl hb
          rw [HMB.out] at h1; cases h1
        · exact HA.out b ha
      have hGr : RGram wr A g (.slice (some ga) g.length gc) := HG.out.kept hSm
      obtain ⟨gb, a, c, rfl, hgb, hAgb, c0, c1, hCh, hnm⟩ := hGr.at j hlt
      have hnt := names_take g j hlt
      have htw : twiceAt (namesOf g) j = ((namesOf g).take j).contains g[j].name := by unfold twiceAt; rw [namesOf_get g j hlt]
      have hlk := fun O => (HM.out.below (below_alloc wr O)).lookOk g[j].name hnm
      have hlt' : (j : Int) < g.length := by omega
      have HNT : Hid ((namesOf g).take (j + 1) = (namesOf g).take j ++ [g[j].name]) := hnt
      have HTW : Hid (twiceAt (namesOf g) j = ((namesOf g).take j).contains g[j].name) := htw
      have HNM : Hid (g[j].name.length ≤ 2000) := hnm
      have htl : ((namesOf g).take j).length = j := by simp [namesOf]; omega
      clear hGr hCh hnt htw hSm hnm
      cases hcn : ((namesOf g).take j).contains g[j].name with
      | true =>
        simp only [hcn] at hlk
        have HF : Hid (FirstTwice (namesOf g) (some j)) := ⟨by simp [namesOf]; exact hlt, by rw [HTW.out]; exact hcn, hno.out⟩
        clear hcn hno
        go_wp2_with fail
        go_ret
        exact ⟨((Kp.of HB0.out).trans (HK.out.mono (by omega))).alloc (by omega) _, some j, HF.out, rfl, fun h => by cases h⟩
      | false =>
        simp only [hcn] at hlk
        have HN : Hid (∀ t, t < j + 1 → twiceAt (namesOf g) t = false) := by
          intro t ht
          by_cases e : t = j
          · subst e; rw [HTW.out]; exact hcn
          · exact hno.out t (by omega)
        have HCN : Hid (((namesOf g).take j).contains g[j].name = false) := hcn
        clear hcn hno
        obtain ⟨D, hown, hD⟩ := HM.out
        rw [htl] at hown
        have HD : Hid (∀ b, D.atKey (.string b) (.lit (.int .i64 0)) = .lit (.int .i64 (idx0 ((namesOf g).take j) b)) ∧ Maps.has D (.string b) = ((namesOf g).take j).contains b) := hD
        have hkey := key_of g[j].name HNM.out
        clear hD
        go_wp2_with (first | (at_mapUpdate; refine wpList_mapUpdate_own _ rfl _ _ _ 73 rfl 9 3 keyLaw Tryz.underlying73 _ mb j _ rfl (hown.alloc _) (by unfold maxLen; omega) _ _ _ rfl rfl hkey _ [] (plainElem_int Tryz.underlying3 (WalkArith.wf_i64 (by omega))) ?_))
        intro w1 hown1 hgrow1
        have hm1 : MapIs w1 mb ((namesOf g).take (j + 1)) := by
          rw [HNT.out]
          refine MapIs.put (w := wr) HD.out hown.isMap HCN.out ?_ HNM.out
          rw [htl]; exact hown1
        have hk1 : Kp mb W.heap.size W w1 := by
          have h1 : Kp mb W.heap.size W (wr.alloc (.cells #[.string ⟨g[j].name.toArray⟩, .slice a g[j].choice.length c] 142)) := HK.out.alloc hszr _
          exact h1.trans ⟨hgrow1.os, hgrow1.tape, hgrow1.output, hgrow1.size, fun b hb hne => hgrow1.block b (by simp; omega) (by simpa using hne)⟩
        clear hown1 hgrow1 hown hlk
        go_wp2_with fail
        go_roundg (g.length - (j + 1))
        case measure => omega
        case rel => exact ⟨j + 1, rfl, by omega, by go_num, hm1, hk1, HN⟩
    · have hjg : j = g.length := by omega
      have HF : Hid (FirstTwice (namesOf g) none) := fun t ht => hno.out t (by simp [namesOf] at ht; omega)
      have HM2 : Hid (MapIs wr mb (namesOf g)) := by
        have := HM.out
        rw [hjg, List.take_of_length_le (by simp [namesOf])] at this
        exact this
      clear hno
      go_wp2_with fail
      go_ret
      exact ⟨(Kp.of HB0.out).trans (HK.out.mono (by omega)), none, HF.out, rfl, fun _ => HM2.out⟩
end Go.Proofs.YtiganlkabilblaaGreatDoor
namespace Go.Proofs.YtiganlkabilblaaGreatDoor
open Go.RowKit Go.WideMaps Go.Maps
/-- The closures' captured receiver. -/
structure CapAt (w : World) (bx mb eb : Nat) (names : List Thk.Bytes) (E : List Bool) : Prop where
  box : w.heap[bx]? = some (factsO mb eb names.length)
  facts : FactsAt w mb eb names E
theorem CapAt.below {w w' : World} {bx mb eb : Nat} {names : List Thk.Bytes} {E : List Bool} (h : CapAt w bx mb eb names E) (hb : Below w.heap.size w w') : CapAt w' bx mb eb names E :=
  ⟨by rw [hb.block _ (heap_lt h.box)]; exact h.box, h.facts.below hb⟩
def unkT (names : List Thk.Bytes) (t : Thk.Term) : Bool := match t.piece with
  | .name b => !names.contains b
  | _ => false
def loopT (Em : Thk.Bytes → Bool) (t : Thk.Term) : Bool := (t.behind == 42 || t.behind == 43) && Thk.emptyP Em t.piece
set_option maxHeartbeats 4000000 in
set_option maxRecDepth 100000 in
theorem unk1_any (w : World) (bx mb eb : Nat) (names : List Thk.Bytes) (E : List Bool) (A : Nat → Prop) (t : Thk.Term) (v : Value) (hF : CapAt w bx mb eb names E) (hp : RTerm w A t v) :
    Calls Tryz.prog 126 #[termV t v, .pointer (some ⟨bx, 0, none⟩)] w fun e w' => e = .returned (.bool (unkT names t)) ∧ Below w.heap.size w w' := by
  obtain ⟨a, p, b⟩ := t
  simp only [RTerm] at hp
  have hbx := cell_of_block hF.box
  have hbl := heap_lt hF.box
  have hB : ∀ O1 O2, Below w.heap.size w ((w.alloc O1).alloc O2) := fun O1 O2 => (below_alloc _ _).alloc (by simp) _
  simp only [termV, Thk.Term.ahead, Thk.Term.behind]
  cases p with
  | name nm =>
    simp only [RPiece] at hp
    obtain ⟨rfl, hnl⟩ := hp
    have e1 : unkT names (.mk a (.name nm) b) = !names.contains nm := rfl
    rw [e1]
    have hlk := fun O1 O2 => (hF.facts.map.below (hB O1 O2)).lookOk nm hnl
    have a1 := asNameName
    generalize names.contains nm = r at *
    generalize idx0 names nm = ix at *
    clear hF hB e1
    go_enter Tryz.func126, Tryz.ntmps126
    go_wp2_with fail
    go_ret
    exact ⟨rfl, (below_alloc _ _).alloc (by simp) _⟩
  | lit nm =>
    simp only [RPiece] at hp
    subst hp
    have a1 := asLitName
    clear hF hB
    go_enter Tryz.func126, Tryz.ntmps126
    go_wp2_with fail
    go_ret
    exact ⟨rfl, (below_alloc _ _).alloc (by simp) _⟩
  | cls nm =>
    simp only [RPiece] at hp
    obtain ⟨u, rfl, _⟩ := hp
    have a1 := asClsName
    clear hF hB
    go_enter Tryz.func126, Tryz.ntmps126
    go_wp2_with fail
    go_ret
    exact ⟨rfl, (below_alloc _ _).alloc (by simp) _⟩
  | any =>
    simp only [RPiece] at hp
    subst hp
    have a1 := asAnyName
    clear hF hB
    go_enter Tryz.func126, Tryz.ntmps126
    go_wp2_with fail
    go_ret
    exact ⟨rfl, (below_alloc _ _).alloc (by simp) _⟩
  | group c =>
    simp only [RPiece] at hp
    obtain ⟨u, us, rfl, hrow, _⟩ := hp
    have a1 := asGroupName
    clear hF hB hrow
    go_enter Tryz.func126, Tryz.ntmps126
    go_wp2_with fail
    go_ret
    exact ⟨rfl, (below_alloc _ _).alloc (by simp) _⟩
set_option maxHeartbeats 4000000 in
theorem repeated_any (w : World) (a b : UInt8) (t : TypeId) (x : Value) :
    Calls Tryz.prog 129 #[.agg #[.int .u8 a.toNat, .iface t x, .int .u8 b.toNat]] w fun e w' => e = .returned (.bool (b == 42 || b == 43)) ∧ Below w.heap.size w w' := by
  by_cases h1 : b = 42
  · subst h1
    go_enter Tryz.func129, Tryz.ntmps129
    go_wp2_with fail
    go_ret
    exact ⟨rfl, below_alloc _ _⟩
  · have t1 := u8_beq_false h1 42 rfl
    by_cases h2 : b = 43
    · subst h2
      go_enter Tryz.func129, Tryz.ntmps129
      go_wp2_with fail
      go_ret
      exact ⟨rfl, below_alloc _ _⟩
    · have t2 := u8_beq_false h2 43 rfl
      rw [show (b == 42 || b == 43) = false from by simp [h1, h2]]
      clear h1 h2
      go_enter Tryz.func129, Tryz.ntmps129
      go_wp2_with fail
      go_ret
      exact ⟨rfl, below_alloc _ _⟩
set_option maxHeartbeats 4000000 in
set_option maxRecDepth 100000 in
theorem loop1_any (w : World) (bx mb eb : Nat) (names : List Thk.Bytes) (E : List Bool) (A : Nat → Prop) (t : Thk.Term) (v : Value) (hF : CapAt w bx mb eb names E) (hp : RTerm w A t v) :
    Calls Tryz.prog 128 #[termV t v, .pointer (some ⟨bx, 0, none⟩)] w fun e w' => e = .returned (.bool (loopT (Eb names E) t)) ∧ Below w.heap.size w w' := by
  obtain ⟨a, p, b⟩ := t
  simp only [RTerm] at hp
  obtain ⟨vt, vx, rfl⟩ := RPiece.oneCell hp
  have hbl := heap_lt hF.box
  have e1 : loopT (Eb names E) (.mk a p b) = ((b == 42 || b == 43) && Thk.emptyP (Eb names E) p) := rfl
  rw [e1]
  simp only [termV, Thk.Term.ahead, Thk.Term.behind]
  obtain ⟨W, hW⟩ : ∃ W, W = w.alloc (.cells #[.int .u8 a.toNat, .iface vt vx, .int .u8 b.toNat] 249) := ⟨_, rfl⟩
  have hB0 : Below w.heap.size w W := by rw [hW]; exact below_alloc _ _
  have hWsz : W.heap.size = w.heap.size + 1 := by rw [hW]; simp
  have hrp := repeated_any W a b vt vx
  have hkeep : ∀ w1, Below W.heap.size W w1 → (∀ o, w1.cell? ⟨bx, o, none⟩ = (#[.map (some mb), .slice (some ⟨eb, 0, none⟩) names.length names.length] : Array Value)[o]?) ∧ (∀ o, w1.cell? ⟨w.heap.size, o, none⟩ = (#[.int .u8 a.toNat, .iface vt vx, .int .u8 b.toNat] : Array Value)[o]?) ∧
      Calls Tryz.prog 130 #[factsV mb eb names.length, .iface vt vx] w1 fun e w' => e = .returned (.bool (Thk.emptyP (Eb names E) p)) ∧ Below w1.heap.size w1 w' := by
    intro w1 hb1
    have hb2 : Below w.heap.size w w1 := hB0.trans (hb1.mono (by omega))
    refine ⟨fun o => ?_, fun o => ?_, emptyPiece_any w1 mb eb names E A p _ (hF.facts.below hb2) (RPiece.kept (sm_below hb2) p _ hp)⟩
    · rw [hb2.cell (p := ⟨bx, o, none⟩) hbl]; exact cell_of_block hF.box o
    · rw [hb1.cell (p := ⟨w.heap.size, o, none⟩) (by simp only []; omega), hW]; exact cell_of_block (heap_alloc_same _ _) o
  have HB0 : Hid (Below w.heap.size w W) := hB0
  clear hF hp e1 hB0
  generalize Thk.emptyP (Eb names E) p = r at *
  have HKE := (show Hid _ from hkeep)
  clear hkeep
  go_enter Tryz.func128, Tryz.ntmps128
  go_wp2_with fail
  rw [← hW]
  cases hrr : (b == 42 || b == 43) with
  | false =>
    rw [hrr] at hrp
    refine hrp.mono ?_
    rintro e w1 ⟨rfl, hb1⟩
    have hb2 : Below w.heap.size w w1 := HB0.out.trans (hb1.mono (by omega))
    have HRR : Hid ((b == 42 || b == 43) = false) := hrr
    clear hrp hb1 HKE hrr
    go_wp2_with fail
    go_ret
    exact ⟨by rw [HRR.out]; simp, hb2⟩
  | true =>
    rw [hrr] at hrp
    refine hrp.mono ?_
    rintro e w1 ⟨rfl, hb1⟩
    obtain ⟨q1, q2, hep⟩ := HKE.out w1 hb1
    have hs1 := hb1.size
    have hb2 : Below w.heap.size w w1 := HB0.out.trans (hb1.mono (by omega))
    simp only [factsV] at hep
    have HRR : Hid ((b == 42 || b == 43) = true) := hrr
    clear hrp hb1 HKE hrr
    go_wp2_with fail
    refine hep.mono ?_
    rintro e w3 ⟨rfl, hb3⟩
    have hb4 : Below w.heap.size w w3 := hb2.trans (hb3.mono (by omega))
    clear hep hb3 hb2
    go_wp2_with fail
    go_ret
    exact ⟨by rw [HRR.out]; simp, hb4⟩
end Go.Proofs.YtiganlkabilblaaGreatDoor
namespace Go.Proofs.YtiganlkabilblaaGreatDoor
open Go.RowKit Go.WideMaps Go.Maps
theorem someS_drop (H : Thk.Term → Bool) (s : List Thk.Term) (j : Nat) (hj : j < s.length) : Thk.someS H (s.drop j) = (Thk.someT H s[j] || Thk.someS H (s.drop (j + 1))) := by
  rw [List.drop_eq_getElem_cons hj]; simp only [Thk.someS]
theorem someC_drop (H : Thk.Term → Bool) (c : List (List Thk.Term)) (j : Nat) (hj : j < c.length) : Thk.someC H (c.drop j) = (Thk.someS H c[j] || Thk.someC H (c.drop (j + 1))) := by
  rw [List.drop_eq_getElem_cons hj]; simp only [Thk.someC]
theorem own_len {w : World} {base : Nat} {e : TypeId} {sz : Nat} {v : Value} {n : Nat} {xs : List Value} (h : w.ownsRow base e sz v n xs) : n ≤ 9223372036854775807 := by
  rcases h.2 with ⟨_, h2⟩ | ⟨g, cap, cur, hv, _, _, h1, h2, _⟩
  · omega
  · unfold maxLen at h2; omega
def SomeCU (k : Nat) : Prop := ∀ (w : World) (bx mb eb : Nat) (names : List Thk.Bytes) (E : List Bool) (A : Nat → Prop) (c : Thk.Choice) (u : Value), CapAt w bx mb eb names E → RChoice w A c u → depC c ≤ k →
  Calls Tryz.prog 125 #[u, .func (.func 126) #[] #[.pointer (some ⟨bx, 0, none⟩)]] w fun e w' => e = .returned (.bool (Thk.someC (unkT names) c)) ∧ Below w.heap.size w w'
set_option maxHeartbeats 8000000 in
set_option maxRecDepth 100000 in
theorem some_stepU (k : Nat) (hC : ∀ k', k' < k → SomeCU k') : SomeCU k := by
  intro w bx mb eb names E A c u hF hp hk
  obtain ⟨us, ⟨hrow, hA⟩, hseqs⟩ := hp
  obtain ⟨ua, uc, rfl⟩ := own_form hrow
  have hcap := own_len hrow
  have HVL : Hid (c.length = us.length) := RSeqs.length hseqs
  have HF : Hid (CapAt w bx mb eb names E) := hF
  have HROW : Hid (w.ownsRow 0 215 1 (.slice ua c.length uc) c.length us) := hrow
  have HSQ : Hid (RSeqs w A c us) := hseqs
  obtain ⟨R, hR⟩ : ∃ R, R = Thk.someC (unkT names) c := ⟨_, rfl⟩
  rw [← hR]
  have HR : Hid (R = Thk.someC (unkT names) (c.drop 0)) := by rw [hR]; rfl
  clear hR hF hrow hseqs
  go_enter Tryz.func125, Tryz.ntmps125
  go_wp2_with fail
  go_loopg [13] c.length (fun m i wr => ∃ j : Nat, m = c.length - j ∧ j ≤ c.length ∧ i = .int .i64 j ∧ Below w.heap.size w wr ∧ Hid (R = Thk.someC (unkT names) (c.drop j)))
  case atStart => exact ⟨0, rfl, Nat.zero_le _, rfl, Below.refl _ _, HR⟩
  case round =>
    obtain ⟨j, rfl, hj, rfl, hb, hH⟩ := hrel
    have HB : Hid (Below w.heap.size w wr) := hb
    have hsz := hb.size
    clear hb
    by_cases hlt : j < c.length
    · have hjv : j < us.length := by have := HVL.out; omega
      obtain ⟨g, rfl, hcs, hgl⟩ := own_at HROW.out (by omega)
      have c0 : wr.cell? ⟨g, j, none⟩ = some (us[j]'hjv) := by rw [HB.out.cell (p := ⟨g, _, none⟩) hgl, hcs _ (by omega)]; exact List.getElem?_eq_getElem hjv
      have hsq := RSeqs.get HSQ.out j hlt hjv
      have hdj := Nat.le_trans (depC_get c j hlt) hk
      have hed := someC_drop (unkT names) c j hlt
      obtain ⟨vs, ⟨hrow, hAr⟩, hts⟩ := hsq
      obtain ⟨sa, sc, hvx⟩ := own_form hrow
      rw [hvx] at c0 hrow
      have hcaps := own_len hrow
      have HED : Hid (Thk.someC (unkT names) (c.drop j) = (Thk.someS (unkT names) c[j] || Thk.someC (unkT names) (c.drop (j + 1)))) := hed
      have hlt' : (j : Int) < c.length := by omega
      obtain ⟨s, hs⟩ : ∃ s, s = c[j] := ⟨_, rfl⟩
      rw [← hs] at hrow hts hdj c0 hcaps
      have HED : Hid (Thk.someC (unkT names) (c.drop j) = (Thk.someS (unkT names) s || Thk.someC (unkT names) (c.drop (j + 1)))) := by rw [hs]; exact hed
      have HVLs : Hid (s.length = vs.length) := RTerms.length hts
      have HROWs : Hid (w.ownsRow 0 249 3 (.slice sa s.length sc) s.length (termC s vs)) := hrow
      have HTS : Hid (RTerms w A s vs) := hts
      clear hed hvx hcs hs hrow hts hAr hgl
      go_wp2_with fail
      go_loopg [19] s.length (fun m i wx => ∃ i1 : Nat, m = s.length - i1 ∧ i1 ≤ s.length ∧ i = .int .i64 i1 ∧ Below w.heap.size w wx ∧ Hid (Thk.someS (unkT names) s = Thk.someS (unkT names) (s.drop i1)))
      case atStart => exact ⟨0, rfl, Nat.zero_le _, rfl, HB.out, rfl⟩
      case round =>
        obtain ⟨i, rfl, hi, rfl, hb2, hS⟩ := hrel
        have HB2 : Hid (Below w.heap.size w wr) := hb2
        have hsz2 := hb2.size
        clear hb2
        by_cases hlti : i < s.length
        · have hiv : i < vs.length := by have := HVLs.out; omega
          obtain ⟨g2, rfl, hcs2, hgl2⟩ := own_at HROWs.out (by omega)
          obtain ⟨t0, t1, t2⟩ := termC_get s vs HVLs.out i hlti
          have d0 : wr.cell? ⟨g2, i * 3, none⟩ = some (.int .u8 s[i].ahead.toNat) := by rw [HB2.out.cell (p := ⟨g2, _, none⟩) hgl2, hcs2 _ (by omega)]; exact t0
          have d1 : wr.cell? ⟨g2, i * 3 + 1, none⟩ = some (vs[i]'hiv) := by rw [HB2.out.cell (p := ⟨g2, _, none⟩) hgl2, hcs2 _ (by omega)]; exact t1
          have d2 : wr.cell? ⟨g2, i * 3 + 2, none⟩ = some (.int .u8 s[i].behind.toNat) := by rw [HB2.out.cell (p := ⟨g2, _, none⟩) hgl2, hcs2 _ (by omega)]; exact t2
          have htr := RTerms.get HTS.out i hlti hiv
          have hcl := fun O => unk1_any (wr.alloc O) bx mb eb names E A s[i] (vs[i]'hiv) (HF.out.below (HB2.out.alloc hsz2 O)) (RTerm.kept (sm_below (HB2.out.alloc hsz2 O)) _ _ htr)
          have hdt : depT s[i] ≤ k := Nat.le_trans (depS_get s i hlti) hdj
          have hsd := someS_drop (unkT names) s i hlti
          have hlti' : (i : Int) < s.length := by omega
          obtain ⟨t, ht⟩ : ∃ t, t = s[i] := ⟨_, rfl⟩
          obtain ⟨vv, hvv⟩ : ∃ vv, vv = vs[i]'hiv := ⟨_, rfl⟩
          rw [← ht] at d0 d2 htr hdt hsd
          rw [← hvv] at d1 htr
          simp only [← ht, ← hvv] at hcl
          have HSD : Hid (Thk.someS (unkT names) (s.drop i) = (Thk.someT (unkT names) t || Thk.someS (unkT names) (s.drop (i + 1)))) := hsd
          clear hsd ht hvv t0 t1 t2 hcs2 hgl2
          obtain ⟨ta, tp, tb⟩ := t
          simp only [RTerm] at htr
          simp only [depT] at hdt
          obtain ⟨vt, vx, rfl⟩ := RPiece.oneCell htr
          simp only [termV, Thk.Term.ahead, Thk.Term.behind] at hcl d0 d2
          have HTP : Hid (RPiece w A tp (.iface vt vx)) := htr
          have HST : Hid (Thk.someT (unkT names) (.mk ta tp tb) = ((unkT names) (.mk ta tp tb) || Thk.someP (unkT names) tp)) := by show _ = _; simp only [Thk.someT]
          clear htr
          obtain ⟨r, hr⟩ : ∃ r, r = (unkT names) (.mk ta tp tb) := ⟨_, rfl⟩
          simp only [← hr] at hcl
          have HRr : Hid (r = (unkT names) (.mk ta tp tb)) := hr
          clear hr
          cases r with
          | true =>
            go_wp2_with fail
            refine (hcl _).mono ?_
            rintro e w1 ⟨rfl, hb1⟩
            have hs1 := hb1.size
            simp at hs1
            have hb3 : Below w.heap.size w w1 := (HB2.out.alloc hsz2 _).trans (hb1.mono (by simp; omega))
            clear hcl hb1
            go_wp2_with fail
            go_ret
            exact ⟨by rw [hH.out, HED.out, hS.out, HSD.out, HST.out, ← HRr.out]; simp, hb3⟩
          | false =>
            go_wp2_with fail
            refine (hcl _).mono ?_
            rintro e w1 ⟨rfl, hb1⟩
            have hs1 := hb1.size
            simp at hs1
            have hb3 : Below w.heap.size w w1 := (HB2.out.alloc hsz2 _).trans (hb1.mono (by simp; omega))
            have hct : ∀ o, w1.cell? ⟨wr.heap.size, o, none⟩ = (#[.int .u8 ta.toNat, .iface vt vx, .int .u8 tb.toNat] : Array Value)[o]? := fun o => by
              rw [hb1.cell (p := ⟨wr.heap.size, o, none⟩) (by simp)]; exact cell_of_block (heap_alloc_same _ _) o
            have HB3 : Hid (Below w.heap.size w w1) := hb3
            have hs3 : w.heap.size ≤ w1.heap.size := hb3.size
            have hwr1 : wr.heap.size < w1.heap.size := by omega
            clear hcl hb1 hb3
            have fin : ∀ w5, Below w.heap.size w w5 → Thk.someP (unkT names) tp = false → ∃ i1 : Nat, s.length - (i + 1) = s.length - i1 ∧ i1 ≤ s.length ∧ Value.int IntKind.i64 ((i : Int) + 1) = .int .i64 i1 ∧ Below w.heap.size w w5 ∧ Hid (Thk.someS (unkT names) s = Thk.someS (unkT names) (s.drop i1)) := by
              intro w5 h5 hsp
              refine ⟨i + 1, rfl, by omega, by go_num, h5, ?_⟩
              show _ = _
              rw [hS.out, HSD.out, HST.out, ← HRr.out, hsp]; simp
            have FIN := (show Hid _ from fin)
            clear fin
            cases tp with
            | group c2 =>
              have htp := HTP.out
              simp only [RPiece] at htp
              obtain ⟨u2, us2, hux, hrow2, hseqs2⟩ := htp
              obtain ⟨u2a, u2c, rfl⟩ := own_form hrow2.1
              simp only [Value.iface.injEq] at hux
              obtain ⟨rfl, rfl⟩ := hux
              have hdep : depC c2 < k := by simp only [depP] at hdt; omega
              have hrec := fun O => hC _ hdep (w1.alloc O) bx mb eb names E A c2 (.slice u2a c2.length u2c) (HF.out.below (HB3.out.alloc hs3 O)) (RChoice.kept (sm_below (HB3.out.alloc hs3 O)) ⟨us2, hrow2, hseqs2⟩) (Nat.le_refl _)
              have a1 := asGroupGroup
              obtain ⟨r2, hr2⟩ : ∃ r2, r2 = Thk.someC (unkT names) c2 := ⟨_, rfl⟩
              simp only [← hr2] at hrec
              have HR2 : Hid (r2 = Thk.someP (unkT names) (.group c2)) := by show _ = _; simp only [Thk.someP]; exact hr2
              clear hr2 hrow2 hseqs2 hdep
              cases r2 with
              | true =>
                go_wp2_with fail
                refine (hrec _).mono ?_
                rintro e w5 ⟨rfl, hb5⟩
                have hb6 : Below w.heap.size w w5 := (HB3.out.alloc hs3 _).trans (hb5.mono (by simp; omega))
                clear hrec hb5
                go_wp2_with fail
                go_ret
                exact ⟨by rw [hH.out, HED.out, hS.out, HSD.out, HST.out, ← HR2.out]; simp, hb6⟩
              | false =>
                go_wp2_with fail
                refine (hrec _).mono ?_
                rintro e w5 ⟨rfl, hb5⟩
                have hb6 : Below w.heap.size w w5 := (HB3.out.alloc hs3 _).trans (hb5.mono (by simp; omega))
                have hN := FIN.out w5 hb6 HR2.out.symm
                clear hrec hb5
                go_wp2_with fail
                go_roundg (s.length - (i + 1))
                case measure => omega
                case rel => exact hN
            | name b =>
              have htp := HTP.out
              simp only [RPiece] at htp
              simp only [Value.iface.injEq] at htp
              obtain ⟨⟨rfl, rfl⟩, _⟩ := htp
              have a1 := asNameGroup
              have hN := FIN.out
              go_wp2_with fail
              go_roundg (s.length - (i + 1))
              case measure => omega
              case rel => exact FIN.out _ (HB3.out.alloc hs3 _) rfl
            | lit b =>
              have htp := HTP.out
              simp only [RPiece] at htp
              simp only [Value.iface.injEq] at htp
              obtain ⟨rfl, rfl⟩ := htp
              have a1 := asLitGroup
              go_wp2_with fail
              go_roundg (s.length - (i + 1))
              case measure => omega
              case rel => exact FIN.out _ (HB3.out.alloc hs3 _) rfl
            | cls b =>
              have htp := HTP.out
              simp only [RPiece] at htp
              obtain ⟨u3, hux, _⟩ := htp
              simp only [Value.iface.injEq] at hux
              obtain ⟨rfl, rfl⟩ := hux
              have a1 := asClsGroup
              go_wp2_with fail
              go_roundg (s.length - (i + 1))
              case measure => omega
              case rel => exact FIN.out _ (HB3.out.alloc hs3 _) rfl
            | any =>
              have htp := HTP.out
              simp only [RPiece] at htp
              simp only [Value.iface.injEq] at htp
              obtain ⟨rfl, rfl⟩ := htp
              have a1 := asAnyGroup
              go_wp2_with fail
              go_roundg (s.length - (i + 1))
              case measure => omega
              case rel => exact FIN.out _ (HB3.out.alloc hs3 _) rfl
        · have hie : i = s.length := by omega
          have HN : Hid (R = Thk.someC (unkT names) (c.drop (j + 1))) := by
            show _ = _
            rw [hH.out, HED.out, hS.out, hie, List.drop_length]; simp only [Thk.someS, Bool.false_or]
          clear hS
          go_wp2_with fail
          go_roundg (c.length - (j + 1))
          case measure => omega
          case rel => exact ⟨j + 1, rfl, by omega, by go_num, HB2.out, HN⟩
    · have hje : j = c.length := by omega
      have hRt : Hid (R = false) := by
        have h1 := hH.out
        rw [hje, List.drop_length] at h1
        exact h1
      clear hH
      go_wp2_with fail
      go_ret
      exact ⟨by rw [hRt.out]; rfl, HB.out⟩
theorem some_allU (k : Nat) : SomeCU k := by
  induction k using Nat.strongRecOn with
  | ind k ih => exact some_stepU k ih
end Go.Proofs.YtiganlkabilblaaGreatDoor
namespace Go.Proofs.YtiganlkabilblaaGreatDoor
open Go.RowKit Go.WideMaps Go.Maps
def SomeCL (k : Nat) : Prop := ∀ (w : World) (bx mb eb : Nat) (names : List Thk.Bytes) (E : List Bool) (A : Nat → Prop) (c : Thk.Choice) (u : Value), CapAt w bx mb eb names E → RChoice w A c u → depC c ≤ k →
  Calls Tryz.prog 125 #[u, .func (.func 128) #[] #[.pointer (some ⟨bx, 0, none⟩)]] w fun e w' => e = .returned (.bool (Thk.someC (loopT (Eb names E)) c)) ∧ Below w.heap.size w w'
set_option maxHeartbeats 8000000 in
set_option maxRecDepth 100000 in
theorem some_stepL (k : Nat) (hC : ∀ k', k' < k → SomeCL k') : SomeCL k := by
  intro w bx mb eb names E A c u hF hp hk
  obtain ⟨us, ⟨hrow, hA⟩, hseqs⟩ := hp
  obtain ⟨ua, uc, rfl⟩ := own_form hrow
  have hcap := own_len hrow
  have HVL : Hid (c.length = us.length) := RSeqs.length hseqs
  have HF : Hid (CapAt w bx mb eb names E) := hF
  have HROW : Hid (w.ownsRow 0 215 1 (.slice ua c.length uc) c.length us) := hrow
  have HSQ : Hid (RSeqs w A c us) := hseqs
  obtain ⟨R, hR⟩ : ∃ R, R = Thk.someC (loopT (Eb names E)) c := ⟨_, rfl⟩
  rw [← hR]
  have HR : Hid (R = Thk.someC (loopT (Eb names E)) (c.drop 0)) := by rw [hR]; rfl
  clear hR hF hrow hseqs
  go_enter Tryz.func125, Tryz.ntmps125
  go_wp2_with fail
  go_loopg [13] c.length (fun m i wr => ∃ j : Nat, m = c.length - j ∧ j ≤ c.length ∧ i = .int .i64 j ∧ Below w.heap.size w wr ∧ Hid (R = Thk.someC (loopT (Eb names E)) (c.drop j)))
  case atStart => exact ⟨0, rfl, Nat.zero_le _, rfl, Below.refl _ _, HR⟩
  case round =>
    obtain ⟨j, rfl, hj, rfl, hb, hH⟩ := hrel
    have HB : Hid (Below w.heap.size w wr) := hb
    have hsz := hb.size
    clear hb
    by_cases hlt : j < c.length
    · have hjv : j < us.length := by have := HVL.out; omega
      obtain ⟨g, rfl, hcs, hgl⟩ := own_at HROW.out (by omega)
      have c0 : wr.cell? ⟨g, j, none⟩ = some (us[j]'hjv) := by rw [HB.out.cell (p := ⟨g, _, none⟩) hgl, hcs _ (by omega)]; exact List.getElem?_eq_getElem hjv
      have hsq := RSeqs.get HSQ.out j hlt hjv
      have hdj := Nat.le_trans (depC_get c j hlt) hk
      have hed := someC_drop (loopT (Eb names E)) c j hlt
      obtain ⟨vs, ⟨hrow, hAr⟩, hts⟩ := hsq
      obtain ⟨sa, sc, hvx⟩ := own_form hrow
      rw [hvx] at c0 hrow
      have hcaps := own_len hrow
      have HED : Hid (Thk.someC (loopT (Eb names E)) (c.drop j) = (Thk.someS (loopT (Eb names E)) c[j] || Thk.someC (loopT (Eb names E)) (c.drop (j + 1)))) := hed
      have hlt' : (j : Int) < c.length := by omega
      obtain ⟨s, hs⟩ : ∃ s, s = c[j] := ⟨_, rfl⟩
      rw [← hs] at hrow hts hdj c0 hcaps
      have HED : Hid (Thk.someC (loopT (Eb names E)) (c.drop j) = (Thk.someS (loopT (Eb names E)) s || Thk.someC (loopT (Eb names E)) (c.drop (j + 1)))) := by rw [hs]; exact hed
      have HVLs : Hid (s.length = vs.length) := RTerms.length hts
      have HROWs : Hid (w.ownsRow 0 249 3 (.slice sa s.length sc) s.length (termC s vs)) := hrow
      have HTS : Hid (RTerms w A s vs) := hts
      clear hed hvx hcs hs hrow hts hAr hgl
      go_wp2_with fail
      go_loopg [19] s.length (fun m i wx => ∃ i1 : Nat, m = s.length - i1 ∧ i1 ≤ s.length ∧ i = .int .i64 i1 ∧ Below w.heap.size w wx ∧ Hid (Thk.someS (loopT (Eb names E)) s = Thk.someS (loopT (Eb names E)) (s.drop i1)))
      case atStart => exact ⟨0, rfl, Nat.zero_le _, rfl, HB.out, rfl⟩
      case round =>
        obtain ⟨i, rfl, hi, rfl, hb2, hS⟩ := hrel
        have HB2 : Hid (Below w.heap.size w wr) := hb2
        have hsz2 := hb2.size
        clear hb2
        by_cases hlti : i < s.length
        · have hiv : i < vs.length := by have := HVLs.out; omega
          obtain ⟨g2, rfl, hcs2, hgl2⟩ := own_at HROWs.out (by omega)
          obtain ⟨t0, t1, t2⟩ := termC_get s vs HVLs.out i hlti
          have d0 : wr.cell? ⟨g2, i * 3, none⟩ = some (.int .u8 s[i].ahead.toNat) := by rw [HB2.out.cell (p := ⟨g2, _, none⟩) hgl2, hcs2 _ (by omega)]; exact t0
          have d1 : wr.cell? ⟨g2, i * 3 + 1, none⟩ = some (vs[i]'hiv) := by rw [HB2.out.cell (p := ⟨g2, _, none⟩) hgl2, hcs2 _ (by omega)]; exact t1
          have d2 : wr.cell? ⟨g2, i * 3 + 2, none⟩ = some (.int .u8 s[i].behind.toNat) := by rw [HB2.out.cell (p := ⟨g2, _, none⟩) hgl2, hcs2 _ (by omega)]; exact t2
          have htr := RTerms.get HTS.out i hlti hiv
          have hcl := fun O => loop1_any (wr.alloc O) bx mb eb names E A s[i] (vs[i]'hiv) (HF.out.below (HB2.out.alloc hsz2 O)) (RTerm.kept (sm_below (HB2.out.alloc hsz2 O)) _ _ htr)
          have hdt : depT s[i] ≤ k := Nat.le_trans (depS_get s i hlti) hdj
          have hsd := someS_drop (loopT (Eb names E)) s i hlti
          have hlti' : (i : Int) < s.length := by omega
          obtain ⟨t, ht⟩ : ∃ t, t = s[i] := ⟨_, rfl⟩
          obtain ⟨vv, hvv⟩ : ∃ vv, vv = vs[i]'hiv := ⟨_, rfl⟩
          rw [← ht] at d0 d2 htr hdt hsd
          rw [← hvv] at d1 htr
          simp only [← ht, ← hvv] at hcl
          have HSD : Hid (Thk.someS (loopT (Eb names E)) (s.drop i) = (Thk.someT (loopT (Eb names E)) t || Thk.someS (loopT (Eb names E)) (s.drop (i + 1)))) := hsd
          clear hsd ht hvv t0 t1 t2 hcs2 hgl2
          obtain ⟨ta, tp, tb⟩ := t
          simp only [RTerm] at htr
          simp only [depT] at hdt
          obtain ⟨vt, vx, rfl⟩ := RPiece.oneCell htr
          simp only [termV, Thk.Term.ahead, Thk.Term.behind] at hcl d0 d2
          have HTP : Hid (RPiece w A tp (.iface vt vx)) := htr
          have HST : Hid (Thk.someT (loopT (Eb names E)) (.mk ta tp tb) = ((loopT (Eb names E)) (.mk ta tp tb) || Thk.someP (loopT (Eb names E)) tp)) := by show _ = _; simp only [Thk.someT]
          clear htr
          obtain ⟨r, hr⟩ : ∃ r, r = (loopT (Eb names E)) (.mk ta tp tb) := ⟨_, rfl⟩
          simp only [← hr] at hcl
          have HRr : Hid (r = (loopT (Eb names E)) (.mk ta tp tb)) := hr
          clear hr
          cases r with
          | true =>
            go_wp2_with fail
            refine (hcl _).mono ?_
            rintro e w1 ⟨rfl, hb1⟩
            have hs1 := hb1.size
            simp at hs1
            have hb3 : Below w.heap.size w w1 := (HB2.out.alloc hsz2 _).trans (hb1.mono (by simp; omega))
            clear hcl hb1
            go_wp2_with fail
            go_ret
            exact ⟨by rw [hH.out, HED.out, hS.out, HSD.out, HST.out, ← HRr.out]; simp, hb3⟩
          | false =>
            go_wp2_with fail
            refine (hcl _).mono ?_
            rintro e w1 ⟨rfl, hb1⟩
            have hs1 := hb1.size
            simp at hs1
            have hb3 : Below w.heap.size w w1 := (HB2.out.alloc hsz2 _).trans (hb1.mono (by simp; omega))
            have hct : ∀ o, w1.cell? ⟨wr.heap.size, o, none⟩ = (#[.int .u8 ta.toNat, .iface vt vx, .int .u8 tb.toNat] : Array Value)[o]? := fun o => by
              rw [hb1.cell (p := ⟨wr.heap.size, o, none⟩) (by simp)]; exact cell_of_block (heap_alloc_same _ _) o
            have HB3 : Hid (Below w.heap.size w w1) := hb3
            have hs3 : w.heap.size ≤ w1.heap.size := hb3.size
            have hwr1 : wr.heap.size < w1.heap.size := by omega
            clear hcl hb1 hb3
            have fin : ∀ w5, Below w.heap.size w w5 → Thk.someP (loopT (Eb names E)) tp = false → ∃ i1 : Nat, s.length - (i + 1) = s.length - i1 ∧ i1 ≤ s.length ∧ Value.int IntKind.i64 ((i : Int) + 1) = .int .i64 i1 ∧ Below w.heap.size w w5 ∧ Hid (Thk.someS (loopT (Eb names E)) s = Thk.someS (loopT (Eb names E)) (s.drop i1)) := by
              intro w5 h5 hsp
              refine ⟨i + 1, rfl, by omega, by go_num, h5, ?_⟩
              show _ = _
              rw [hS.out, HSD.out, HST.out, ← HRr.out, hsp]; simp
            have FIN := (show Hid _ from fin)
            clear fin
            cases tp with
            | group c2 =>
              have htp := HTP.out
              simp only [RPiece] at htp
              obtain ⟨u2, us2, hux, hrow2, hseqs2⟩ := htp
              obtain ⟨u2a, u2c, rfl⟩ := own_form hrow2.1
              simp only [Value.iface.injEq] at hux
              obtain ⟨rfl, rfl⟩ := hux
              have hdep : depC c2 < k := by simp only [depP] at hdt; omega
              have hrec := fun O => hC _ hdep (w1.alloc O) bx mb eb names E A c2 (.slice u2a c2.length u2c) (HF.out.below (HB3.out.alloc hs3 O)) (RChoice.kept (sm_below (HB3.out.alloc hs3 O)) ⟨us2, hrow2, hseqs2⟩) (Nat.le_refl _)
              have a1 := asGroupGroup
              obtain ⟨r2, hr2⟩ : ∃ r2, r2 = Thk.someC (loopT (Eb names E)) c2 := ⟨_, rfl⟩
              simp only [← hr2] at hrec
              have HR2 : Hid (r2 = Thk.someP (loopT (Eb names E)) (.group c2)) := by show _ = _; simp only [Thk.someP]; exact hr2
              clear hr2 hrow2 hseqs2 hdep
              cases r2 with
              | true =>
                go_wp2_with fail
                refine (hrec _).mono ?_
                rintro e w5 ⟨rfl, hb5⟩
                have hb6 : Below w.heap.size w w5 := (HB3.out.alloc hs3 _).trans (hb5.mono (by simp; omega))
                clear hrec hb5
                go_wp2_with fail
                go_ret
                exact ⟨by rw [hH.out, HED.out, hS.out, HSD.out, HST.out, ← HR2.out]; simp, hb6⟩
              | false =>
                go_wp2_with fail
                refine (hrec _).mono ?_
                rintro e w5 ⟨rfl, hb5⟩
                have hb6 : Below w.heap.size w w5 := (HB3.out.alloc hs3 _).trans (hb5.mono (by simp; omega))
                have hN := FIN.out w5 hb6 HR2.out.symm
                clear hrec hb5
                go_wp2_with fail
                go_roundg (s.length - (i + 1))
                case measure => omega
                case rel => exact hN
            | name b =>
              have htp := HTP.out
              simp only [RPiece] at htp
              simp only [Value.iface.injEq] at htp
              obtain ⟨⟨rfl, rfl⟩, _⟩ := htp
              have a1 := asNameGroup
              have hN := FIN.out
              go_wp2_with fail
              go_roundg (s.length - (i + 1))
              case measure => omega
              case rel => exact FIN.out _ (HB3.out.alloc hs3 _) rfl
            | lit b =>
              have htp := HTP.out
              simp only [RPiece] at htp
              simp only [Value.iface.injEq] at htp
              obtain ⟨rfl, rfl⟩ := htp
              have a1 := asLitGroup
              go_wp2_with fail
              go_roundg (s.length - (i + 1))
              case measure => omega
              case rel => exact FIN.out _ (HB3.out.alloc hs3 _) rfl
            | cls b =>
              have htp := HTP.out
              simp only [RPiece] at htp
              obtain ⟨u3, hux, _⟩ := htp
              simp only [Value.iface.injEq] at hux
              obtain ⟨rfl, rfl⟩ := hux
              have a1 := asClsGroup
              go_wp2_with fail
              go_roundg (s.length - (i + 1))
              case measure => omega
              case rel => exact FIN.out _ (HB3.out.alloc hs3 _) rfl
            | any =>
              have htp := HTP.out
              simp only [RPiece] at htp
              simp only [Value.iface.injEq] at htp
              obtain ⟨rfl, rfl⟩ := htp
              have a1 := asAnyGroup
              go_wp2_with fail
              go_roundg (s.length - (i + 1))
              case measure => omega
              case rel => exact FIN.out _ (HB3.out.alloc hs3 _) rfl
        · have hie : i = s.length := by omega
          have HN : Hid (R = Thk.someC (loopT (Eb names E)) (c.drop (j + 1))) := by
            show _ = _
            rw [hH.out, HED.out, hS.out, hie, List.drop_length]; simp only [Thk.someS, Bool.false_or]
          clear hS
          go_wp2_with fail
          go_roundg (c.length - (j + 1))
          case measure => omega
          case rel => exact ⟨j + 1, rfl, by omega, by go_num, HB2.out, HN⟩
    · have hje : j = c.length := by omega
      have hRt : Hid (R = false) := by
        have h1 := hH.out
        rw [hje, List.drop_length] at h1
        exact h1
      clear hH
      go_wp2_with fail
      go_ret
      exact ⟨by rw [hRt.out]; rfl, HB.out⟩
theorem some_allL (k : Nat) : SomeCL k := by
  induction k using Nat.strongRecOn with
  | ind k ih => exact some_stepL k ih
end Go.Proofs.YtiganlkabilblaaGreatDoor
namespace Go.Proofs.YtiganlkabilblaaGreatDoor
open Go.RowKit Go.WideMaps Go.Maps
/-- The first rule of which p holds. -/
def FirstIs (g : List Thk.Rule) (p : Thk.Choice → Bool) : Option Nat → Prop
  | none => ∀ i (h : i < g.length), p g[i].choice = false
  | some i => ∃ h : i < g.length, p g[i].choice = true ∧ ∀ t (ht : t < g.length), t < i → p g[t].choice = false
set_option maxHeartbeats 4000000 in
set_option maxRecDepth 100000 in
theorem hasU_any (w : World) (mb eb : Nat) (names : List Thk.Bytes) (E : List Bool) (A : Nat → Prop) (c : Thk.Choice) (u : Value) (hF : FactsAt w mb eb names E) (hc : RChoice w A c u) :
    Calls Tryz.prog 89 #[factsV mb eb names.length, u] w fun e w' => e = .returned (.bool (Thk.someC (unkT names) c)) ∧ Below w.heap.size w w' := by
  have hmf : ∀ (fn : Fn) (first cap : Array Value) (w : World), (Instr.makeFunc fn first cap).run Tryz.prog w = .ok (.func fn first cap) w := fun _ _ _ _ => rfl
  have hB : Below w.heap.size w (w.alloc (factsO mb eb names.length)) := below_alloc _ _
  have hs := some_allU (depC c) (w.alloc (factsO mb eb names.length)) w.heap.size mb eb names E A c u ⟨heap_alloc_same _ _, hF.below hB⟩ (hc.kept (sm_below hB)) (Nat.le_refl _)
  obtain ⟨us, hrow, _⟩ := hc
  obtain ⟨ua, uc, rfl⟩ := own_form hrow.1
  generalize Thk.someC (unkT names) c = r at *
  simp only [factsV]
  clear hF hrow
  go_enter Tryz.func89, Tryz.ntmps89
  go_wp2_with fail
  refine hs.mono ?_
  rintro e w1 ⟨rfl, hb⟩
  clear hs
  go_wp2_with fail
  go_ret
  exact ⟨rfl, hB.trans (hb.mono (by simp))⟩
set_option maxHeartbeats 8000000 in
set_option maxRecDepth 100000 in
theorem firstU_any (w : World) (mb eb : Nat) (names : List Thk.Bytes) (E : List Bool) (A : Nat → Prop) (g : List Thk.Rule) (ga : Addr) (gc er : Nat) (hF : FactsAt w mb eb names E) (hG : RGram w A g (.slice (some ga) g.length gc)) (hgl : g.length ≤ 20) :
    Calls Tryz.prog 88 #[.slice (some ga) g.length gc, .int .i64 er, .func (.func 89) #[factsV mb eb names.length] #[]] w fun e w' =>
      Below w.heap.size w w' ∧ ∃ o, FirstIs g (Thk.someC (unkT names)) o ∧ e = .returned (faultO er o) := by
  have HF : Hid (FactsAt w mb eb names E) := hF
  have HG : Hid (RGram w A g (.slice (some ga) g.length gc)) := hG
  clear hF hG
  simp only [factsV]
  go_enter Tryz.func88, Tryz.ntmps88
  go_wp2_with fail
  go_loopg [11] g.length (fun m i wr => ∃ (j : Nat), m = g.length - j ∧ j ≤ g.length ∧ i = .int .i64 j ∧ Below w.heap.size w wr ∧ Hid (∀ t (ht : t < g.length), t < j → Thk.someC (unkT names) g[t].choice = false))
  case atStart => exact ⟨0, rfl, Nat.zero_le _, rfl, Below.refl _ _, fun t _ ht => by omega⟩
  case round =>
    obtain ⟨j, rfl, hj, rfl, hb, hno⟩ := hrel
    have HB : Hid (Below w.heap.size w wr) := hb
    have hsz := hb.size
    clear hb
    by_cases hlt : j < g.length
    · have hGr : RGram wr A g (.slice (some ga) g.length gc) := HG.out.kept (sm_below HB.out)
      obtain ⟨gb, a, c, rfl, hgb, hAgb, c0, c1, hCh, hnm⟩ := hGr.at j hlt
      have hlt' : (j : Int) < g.length := by omega
      have hh := fun O => hasU_any (wr.alloc O) mb eb names E A g[j].choice _ (HF.out.below (HB.out.alloc hsz O)) (hCh.kept (sm_below (below_alloc wr O)))
      simp only [factsV] at hh
      clear hGr hCh hnm
      cases hr : Thk.someC (unkT names) g[j].choice with
      | true =>
        simp only [hr] at hh
        have HFI : Hid (FirstIs g (Thk.someC (unkT names)) (some j)) := ⟨hlt, hr, fun t ht htj => hno.out t ht htj⟩
        clear hr hno
        go_wp2_with fail
        refine (hh _).mono ?_
        rintro e w1 ⟨rfl, hb1⟩
        have hs1 := hb1.size
        simp at hs1
        have hb3 : Below w.heap.size w w1 := (HB.out.alloc hsz _).trans (hb1.mono (by simp; omega))
        clear hh hb1
        go_wp2_with fail
        go_ret
        exact ⟨hb3, some j, HFI.out, rfl⟩
      | false =>
        simp only [hr] at hh
        have HN : Hid (∀ t (ht : t < g.length), t < j + 1 → Thk.someC (unkT names) g[t].choice = false) := by
          intro t ht htj
          by_cases e : t = j
          · subst e; exact hr
          · exact hno.out t ht (by omega)
        clear hr hno
        go_wp2_with fail
        refine (hh _).mono ?_
        rintro e w1 ⟨rfl, hb1⟩
        have hs1 := hb1.size
        simp at hs1
        have hb3 : Below w.heap.size w w1 := (HB.out.alloc hsz _).trans (hb1.mono (by simp; omega))
        clear hh hb1
        go_wp2_with fail
        go_roundg (g.length - (j + 1))
        case measure => omega
        case rel => exact ⟨j + 1, rfl, by omega, by go_num, hb3, HN⟩
    · have HFI : Hid (FirstIs g (Thk.someC (unkT names)) none) := fun t ht => hno.out t ht (by omega)
      clear hno
      go_wp2_with fail
      go_ret
      exact ⟨HB.out, none, HFI.out, rfl⟩
set_option maxHeartbeats 4000000 in
set_option maxRecDepth 100000 in
theorem hasL_any (w : World) (mb eb : Nat) (names : List Thk.Bytes) (E : List Bool) (A : Nat → Prop) (c : Thk.Choice) (u : Value) (hF : FactsAt w mb eb names E) (hc : RChoice w A c u) :
    Calls Tryz.prog 91 #[factsV mb eb names.length, u] w fun e w' => e = .returned (.bool (Thk.someC (loopT (Eb names E)) c)) ∧ Below w.heap.size w w' := by
  have hmf : ∀ (fn : Fn) (first cap : Array Value) (w : World), (Instr.makeFunc fn first cap).run Tryz.prog w = .ok (.func fn first cap) w := fun _ _ _ _ => rfl
  have hB : Below w.heap.size w (w.alloc (factsO mb eb names.length)) := below_alloc _ _
  have hs := some_allL (depC c) (w.alloc (factsO mb eb names.length)) w.heap.size mb eb names E A c u ⟨heap_alloc_same _ _, hF.below hB⟩ (hc.kept (sm_below hB)) (Nat.le_refl _)
  obtain ⟨us, hrow, _⟩ := hc
  obtain ⟨ua, uc, rfl⟩ := own_form hrow.1
  generalize Thk.someC (loopT (Eb names E)) c = r at *
  simp only [factsV]
  clear hF hrow
  go_enter Tryz.func91, Tryz.ntmps91
  go_wp2_with fail
  refine hs.mono ?_
  rintro e w1 ⟨rfl, hb⟩
  clear hs
  go_wp2_with fail
  go_ret
  exact ⟨rfl, hB.trans (hb.mono (by simp))⟩
set_option maxHeartbeats 8000000 in
set_option maxRecDepth 100000 in
theorem firstL_any (w : World) (mb eb : Nat) (names : List Thk.Bytes) (E : List Bool) (A : Nat → Prop) (g : List Thk.Rule) (ga : Addr) (gc er : Nat) (hF : FactsAt w mb eb names E) (hG : RGram w A g (.slice (some ga) g.length gc)) (hgl : g.length ≤ 20) :
    Calls Tryz.prog 88 #[.slice (some ga) g.length gc, .int .i64 er, .func (.func 91) #[factsV mb eb names.length] #[]] w fun e w' =>
      Below w.heap.size w w' ∧ ∃ o, FirstIs g (Thk.someC (loopT (Eb names E))) o ∧ e = .returned (faultO er o) := by
  have HF : Hid (FactsAt w mb eb names E) := hF
  have HG : Hid (RGram w A g (.slice (some ga) g.length gc)) := hG
  clear hF hG
  simp only [factsV]
  go_enter Tryz.func88, Tryz.ntmps88
  go_wp2_with fail
  go_loopg [11] g.length (fun m i wr => ∃ (j : Nat), m = g.length - j ∧ j ≤ g.length ∧ i = .int .i64 j ∧ Below w.heap.size w wr ∧ Hid (∀ t (ht : t < g.length), t < j → Thk.someC (loopT (Eb names E)) g[t].choice = false))
  case atStart => exact ⟨0, rfl, Nat.zero_le _, rfl, Below.refl _ _, fun t _ ht => by omega⟩
  case round =>
    obtain ⟨j, rfl, hj, rfl, hb, hno⟩ := hrel
    have HB : Hid (Below w.heap.size w wr) := hb
    have hsz := hb.size
    clear hb
    by_cases hlt : j < g.length
    · have hGr : RGram wr A g (.slice (some ga) g.length gc) := HG.out.kept (sm_below HB.out)
      obtain ⟨gb, a, c, rfl, hgb, hAgb, c0, c1, hCh, hnm⟩ := hGr.at j hlt
      have hlt' : (j : Int) < g.length := by omega
      have hh := fun O => hasL_any (wr.alloc O) mb eb names E A g[j].choice _ (HF.out.below (HB.out.alloc hsz O)) (hCh.kept (sm_below (below_alloc wr O)))
      simp only [factsV] at hh
      clear hGr hCh hnm
      cases hr : Thk.someC (loopT (Eb names E)) g[j].choice with
      | true =>
        simp only [hr] at hh
        have HFI : Hid (FirstIs g (Thk.someC (loopT (Eb names E))) (some j)) := ⟨hlt, hr, fun t ht htj => hno.out t ht htj⟩
        clear hr hno
        go_wp2_with fail
        refine (hh _).mono ?_
        rintro e w1 ⟨rfl, hb1⟩
        have hs1 := hb1.size
        simp at hs1
        have hb3 : Below w.heap.size w w1 := (HB.out.alloc hsz _).trans (hb1.mono (by simp; omega))
        clear hh hb1
        go_wp2_with fail
        go_ret
        exact ⟨hb3, some j, HFI.out, rfl⟩
      | false =>
        simp only [hr] at hh
        have HN : Hid (∀ t (ht : t < g.length), t < j + 1 → Thk.someC (loopT (Eb names E)) g[t].choice = false) := by
          intro t ht htj
          by_cases e : t = j
          · subst e; exact hr
          · exact hno.out t ht (by omega)
        clear hr hno
        go_wp2_with fail
        refine (hh _).mono ?_
        rintro e w1 ⟨rfl, hb1⟩
        have hs1 := hb1.size
        simp at hs1
        have hb3 : Below w.heap.size w w1 := (HB.out.alloc hsz _).trans (hb1.mono (by simp; omega))
        clear hh hb1
        go_wp2_with fail
        go_roundg (g.length - (j + 1))
        case measure => omega
        case rel => exact ⟨j + 1, rfl, by omega, by go_num, hb3, HN⟩
    · have HFI : Hid (FirstIs g (Thk.someC (loopT (Eb names E))) none) := fun t ht => hno.out t ht (by omega)
      clear hno
      go_wp2_with fail
      go_ret
      exact ⟨HB.out, none, HFI.out, rfl⟩
end Go.Proofs.YtiganlkabilblaaGreatDoor
namespace Go.Proofs.YtiganlkabilblaaGreatDoor
open Go.RowKit Go.WideMaps Go.Maps
def markL (names : List Thk.Bytes) (B : List Bool) (l : List Thk.Bytes) : List Bool := l.foldl (fun B b => B.set (idx0 names b) true) B
theorem markL_len (names : List Thk.Bytes) (B : List Bool) (l : List Thk.Bytes) : (markL names B l).length = B.length := by
  induction l generalizing B with
  | nil => rfl
  | cons b l ih => show (markL names (B.set _ true) l).length = _; rw [ih]; simp
theorem markL_append (names : List Thk.Bytes) (B : List Bool) (l l' : List Thk.Bytes) : markL names B (l ++ l') = markL names (markL names B l) l' := by
  simp [markL, List.foldl_append]
theorem FactsAt.kpo {w w' : World} {mb eb fb : Nat} {names : List Thk.Bytes} {E B : List Bool} (h : FactsAt w mb eb names E) (hk : Kp fb w.heap.size w w') (hfb : w.heap[fb]? = some (boolsO B)) (hne : eb ≠ fb) : FactsAt w' mb eb names E := by
  refine ⟨h.map.same (hk.block mb h.map.lt ?_), by rw [hk.block _ (heap_lt h.emp) hne]; exact h.emp, h.len, h.pos, h.le⟩
  intro e
  subst e
  obtain ⟨D, ⟨es, clock, h1, _⟩, _⟩ := h.map
  rw [h1] at hfb
  simp [boolsO] at hfb
def rowV (fb n : Nat) : Value := .slice (some ⟨fb, 0, none⟩) n n
def MarkC (k : Nat) : Prop := ∀ (w : World) (mb eb fb : Nat) (names : List Thk.Bytes) (E B : List Bool) (A : Nat → Prop) (c : Thk.Choice) (u : Value), FactsAt w mb eb names E → w.heap[fb]? = some (boolsO B) → B.length = names.length → eb ≠ fb →
  RChoice w A c u → (∀ g, A g → g ≠ fb) → depC c ≤ k →
  Calls Tryz.prog 131 #[factsV mb eb names.length, u, rowV fb names.length] w fun e w' => e = .returned (.tuple #[]) ∧ Kp fb w.heap.size w w' ∧ w'.heap[fb]? = some (boolsO (markL names B (Thk.firstC (Eb names E) c)))
set_option maxHeartbeats 4000000 in
set_option maxRecDepth 100000 in
theorem markPiece_step (k : Nat) (hC : ∀ k', k' < k → MarkC k') (w : World) (mb eb fb : Nat) (names : List Thk.Bytes) (E B : List Bool) (A : Nat → Prop) (p : Thk.Piece) (v : Value) (hF : FactsAt w mb eb names E) (hfb : w.heap[fb]? = some (boolsO B)) (hBl : B.length = names.length) (hne : eb ≠ fb)
    (hp : RPiece w A p v) (hA : ∀ g, A g → g ≠ fb) (hk : depP p ≤ k) :
    Calls Tryz.prog 165 #[factsV mb eb names.length, v, rowV fb names.length] w fun e w' => e = .returned (.tuple #[]) ∧ Kp fb w.heap.size w w' ∧ w'.heap[fb]? = some (boolsO (markL names B (Thk.firstP (Eb names E) p))) := by
  have hle := hF.le
  have hpos := hF.pos
  have hfl := heap_lt hfb
  have hcl := cell_of_block hfb
  have hfz := frozen_of_block hfb
  have HFB : Hid (w.heap[fb]? = some (boolsO B)) := hfb
  simp only [factsV, rowV]
  have still : ∀ O, w.heap[fb]? = some (boolsO B) → (w.alloc O).heap[fb]? = some (boolsO B) := fun O h => by rw [heap_alloc_old _ _ hfl]; exact h
  cases p with
  | name b =>
    simp only [RPiece] at hp
    obtain ⟨rfl, hbl⟩ := hp
    have hix := idx0_lt b hpos
    have hB : ∀ O1 O2, Below w.heap.size w ((w.alloc O1).alloc O2) := fun O1 O2 => (below_alloc _ _).alloc (by simp) _
    have hlk := fun O1 O2 => (hF.map.below (hB O1 O2)).look b hbl
    have e1 : markL names B (Thk.firstP (Eb names E) (.name b)) = B.set (idx0 names b) true := rfl
    rw [e1]
    have hcx : w.cell? ⟨fb, idx0 names b, none⟩ = some (.bool (B.getD (idx0 names b) false)) := by
      have hh : idx0 names b < B.length := by omega
      rw [hcl]; simp [hh]
    generalize idx0 names b = ix at *
    clear hF hC hk hfb e1 hB still hBl hcl
    have a1 := asNameName
    go_enter Tryz.func165, Tryz.ntmps165
    go_wp2_with fail
    go_end0
    refine ⟨rfl, (((Kp.refl _ _ _).setRb _ _).alloc (by simp) _).alloc (by simp) _, ?_⟩
    rw [heap_alloc_old _ _ (by simp; omega), heap_alloc_old _ _ (by simp; omega), heap_setCell_at HFB.out, boolsO_set]
  | lit b =>
    simp only [RPiece] at hp
    subst hp
    have a1 := asLitName
    have a2 := asLitGroup
    clear hF hC hk hfb
    go_enter Tryz.func165, Tryz.ntmps165
    go_wp2_with fail
    go_end0
    exact ⟨rfl, Kp.of (below_alloc _ _), still _ HFB.out⟩
  | cls l =>
    simp only [RPiece] at hp
    obtain ⟨u, rfl, _⟩ := hp
    have a1 := asClsName
    have a2 := asClsGroup
    clear hF hC hk hfb
    go_enter Tryz.func165, Tryz.ntmps165
    go_wp2_with fail
    go_end0
    exact ⟨rfl, Kp.of (below_alloc _ _), still _ HFB.out⟩
  | any =>
    simp only [RPiece] at hp
    subst hp
    have a1 := asAnyName
    have a2 := asAnyGroup
    clear hF hC hk hfb
    go_enter Tryz.func165, Tryz.ntmps165
    go_wp2_with fail
    go_end0
    exact ⟨rfl, Kp.of (below_alloc _ _), still _ HFB.out⟩
  | group c =>
    simp only [RPiece] at hp
    obtain ⟨u, us, rfl, hrow, hseqs⟩ := hp
    obtain ⟨ua, uc, rfl⟩ := own_form hrow.1
    have hdep : depC c < k := by simp only [depP] at hk; omega
    have e1 : markL names B (Thk.firstP (Eb names E) (.group c)) = markL names B (Thk.firstC (Eb names E) c) := rfl
    rw [e1]
    have hB : ∀ O1 O2, Below w.heap.size w ((w.alloc O1).alloc O2) := fun O1 O2 => (below_alloc _ _).alloc (by simp) _
    have hch := fun O1 O2 => hC _ hdep ((w.alloc O1).alloc O2) mb eb fb names E B A c (.slice ua c.length uc) (hF.below (hB O1 O2)) (by rw [(hB O1 O2).block _ hfl]; exact hfb) hBl hne (RChoice.kept (sm_below (hB O1 O2)) ⟨us, hrow, hseqs⟩) hA (Nat.le_refl _)
    simp only [factsV, rowV] at hch
    have a1 := asGroupName
    have a2 := asGroupGroup
    clear hF hC hk hdep hrow hseqs e1 hfb hB hcl hfz still hBl
    go_enter Tryz.func165, Tryz.ntmps165
    go_wp2_with fail
    refine (hch _ _).mono ?_
    rintro e w1 ⟨rfl, hk1, hf1⟩
    have HK1 := (show Hid _ from hk1)
    have HF1 := (show Hid _ from hf1)
    clear hch hk1 hf1
    go_wp2_with fail
    go_end0
    exact ⟨rfl, (Kp.of ((below_alloc _ _).alloc (by simp) _)).trans (HK1.out.mono (by simp; omega)), HF1.out⟩
theorem firstS_drop (E : Thk.Bytes → Bool) (s : List Thk.Term) (j : Nat) (hj : j < s.length) : Thk.firstS E (s.drop j) = Thk.firstT E s[j] ++ (if Thk.emptyT E s[j] then Thk.firstS E (s.drop (j + 1)) else []) := by
  rw [List.drop_eq_getElem_cons hj]; simp only [Thk.firstS]
theorem firstC_drop (E : Thk.Bytes → Bool) (c : List (List Thk.Term)) (j : Nat) (hj : j < c.length) : Thk.firstC E (c.drop j) = Thk.firstS E c[j] ++ Thk.firstC E (c.drop (j + 1)) := by
  rw [List.drop_eq_getElem_cons hj]; simp only [Thk.firstC]
/-- What the marking keeps: the world behind it, the marks so far. -/
structure MkRel (W : World) (fb : Nat) (B : List Bool) (wr : World) : Prop where
  kp : Kp fb W.heap.size W wr
  row : wr.heap[fb]? = some (boolsO B)
set_option maxHeartbeats 8000000 in
set_option maxRecDepth 100000 in
theorem mark_step (k : Nat) (hC : ∀ k', k' < k → MarkC k') : MarkC k := by
  intro w mb eb fb names E B A c u hF hfb hBl hne hp hA hk
  obtain ⟨us, ⟨hrow, hAr⟩, hseqs⟩ := hp
  obtain ⟨ua, uc, rfl⟩ := own_form hrow
  have hcap := own_len hrow
  have hfl := heap_lt hfb
  have HVL : Hid (c.length = us.length) := RSeqs.length hseqs
  obtain ⟨W, hW⟩ : ∃ W, W = w.alloc (factsO mb eb names.length) := ⟨_, rfl⟩
  have hB0 : Below w.heap.size w W := by rw [hW]; exact below_alloc _ _
  have hWsz : W.heap.size = w.heap.size + 1 := by rw [hW]; simp
  have hbox : W.heap[w.heap.size]? = some (factsO mb eb names.length) := by rw [hW]; exact heap_alloc_same _ _
  have HF : Hid (FactsAt W mb eb names E) := hF.below hB0
  have HFB : Hid (W.heap[fb]? = some (boolsO B)) := by show _ = _; rw [hB0.block _ hfl]; exact hfb
  have HROW : Hid (W.ownsRow 0 215 1 (.slice ua c.length uc) c.length us) := own_below hrow hB0
  have HAR : Hid (∀ g, (Value.slice ua c.length uc).ownBlock = some g → A g) := hAr
  have HSQ : Hid (RSeqs W A c us) := RSeqs.kept (sm_below hB0) c us hseqs
  have HB0 : Hid (Below w.heap.size w W) := hB0
  have HBL : Hid (B.length = names.length) := hBl
  have HA : Hid (∀ g, A g → g ≠ fb) := hA
  have hSm : Hid (∀ wr, Kp fb W.heap.size W wr → Sm A W wr) := fun wr hk => sm_kpB HFB.out hk hA
  simp only [factsV, rowV]
  clear hF hfb hrow hseqs hB0 hBl hA hAr
  go_enter Tryz.func131, Tryz.ntmps131
  go_wp2_with fail
  rw [← hW]
  go_loopg [12] c.length (fun m i wr => ∃ (j : Nat) (B1 : List Bool), m = c.length - j ∧ j ≤ c.length ∧ i = .int .i64 j ∧ MkRel W fb B1 wr ∧ B1.length = names.length ∧ Hid (markL names B (Thk.firstC (Eb names E) c) = markL names B1 (Thk.firstC (Eb names E) (c.drop j))))
  case atStart => exact ⟨0, B, rfl, Nat.zero_le _, rfl, ⟨Kp.refl _ _ _, HFB.out⟩, HBL.out, rfl⟩
  case round =>
    obtain ⟨j, B1, rfl, hj, rfl, hR, hB1, hH⟩ := hrel
    have HR : Hid (MkRel W fb B1 wr) := hR
    have HB1 : Hid (B1.length = names.length) := hB1
    have hszr := hR.kp.size
    clear hR hB1
    by_cases hlt : j < c.length
    · have hjv : j < us.length := by have := HVL.out; omega
      obtain ⟨g, rfl, hcs, hgl⟩ := own_at HROW.out (by omega)
      have hgf : g ≠ fb := HA.out g (HAR.out g rfl)
      have c0 : wr.cell? ⟨g, j, none⟩ = some (us[j]'hjv) := by rw [kp_cell HR.out.kp hgl hgf, hcs _ (by omega)]; exact List.getElem?_eq_getElem hjv
      have hsq := RSeqs.get HSQ.out j hlt hjv
      have hdj := Nat.le_trans (depC_get c j hlt) hk
      have hed := firstC_drop (Eb names E) c j hlt
      obtain ⟨vs, ⟨hrow, hAr⟩, hts⟩ := hsq
      obtain ⟨sa, sc, hvx⟩ := own_form hrow
      rw [hvx] at c0 hrow hAr
      have hcaps := own_len hrow
      have hlt' : (j : Int) < c.length := by omega
      obtain ⟨s, hs⟩ : ∃ s, s = c[j] := ⟨_, rfl⟩
      rw [← hs] at hrow hts hdj c0 hcaps hAr hed
      have HED : Hid (Thk.firstC (Eb names E) (c.drop j) = Thk.firstS (Eb names E) s ++ Thk.firstC (Eb names E) (c.drop (j + 1))) := hed
      have HVLs : Hid (s.length = vs.length) := RTerms.length hts
      have HROWs : Hid (W.ownsRow 0 249 3 (.slice sa s.length sc) s.length (termC s vs)) := hrow
      have HARs : Hid (∀ g, (Value.slice sa s.length sc).ownBlock = some g → A g) := hAr
      have HTS : Hid (RTerms W A s vs) := hts
      clear hed hvx hcs hs hrow hts hAr hgl hgf
      have NEXT : Hid (∀ wx, MkRel W fb (markL names B1 (Thk.firstS (Eb names E) s)) wx → ∃ (j' : Nat) (B2 : List Bool), c.length - (j + 1) = c.length - j' ∧ j' ≤ c.length ∧ Value.int IntKind.i64 ((j : Int) + 1) = .int .i64 j' ∧ MkRel W fb B2 wx ∧ B2.length = names.length ∧ Hid (markL names B (Thk.firstC (Eb names E) c) = markL names B2 (Thk.firstC (Eb names E) (c.drop j')))) := by
        intro wx hx
        refine ⟨j + 1, _, rfl, by omega, by go_num, hx, by rw [markL_len]; exact HB1.out, ?_⟩
        show _ = _
        rw [hH.out, HED.out, markL_append]
      go_wp2_with fail
      go_loopg [18] s.length (fun m i wx => ∃ (i1 : Nat) (B2 : List Bool), m = s.length - i1 ∧ i1 ≤ s.length ∧ i = .int .i64 i1 ∧ MkRel W fb B2 wx ∧ B2.length = names.length ∧ Hid (markL names B1 (Thk.firstS (Eb names E) s) = markL names B2 (Thk.firstS (Eb names E) (s.drop i1))))
      case atStart => exact ⟨0, B1, rfl, Nat.zero_le _, rfl, HR.out, HB1.out, rfl⟩
      case round =>
        obtain ⟨i, B2, rfl, hi, rfl, hR2, hB2, hS⟩ := hrel
        have HR2 : Hid (MkRel W fb B2 wr) := hR2
        have HB2 : Hid (B2.length = names.length) := hB2
        have hsz2 := hR2.kp.size
        have hbx0 : wr.heap[w.heap.size]? = some (factsO mb eb names.length) := by rw [hR2.kp.block _ (by omega) (by omega)]; exact hbox
        have hbx := cell_of_block hbx0
        have HBX : Hid (wr.heap[w.heap.size]? = some (factsO mb eb names.length)) := hbx0
        clear hR2 hB2 hbx0
        by_cases hlti : i < s.length
        · have hiv : i < vs.length := by have := HVLs.out; omega
          obtain ⟨g2, rfl, hcs2, hgl2⟩ := own_at HROWs.out (by omega)
          have hgf2 : g2 ≠ fb := HA.out g2 (HARs.out g2 rfl)
          obtain ⟨t0, t1, t2⟩ := termC_get s vs HVLs.out i hlti
          have d0 : wr.cell? ⟨g2, i * 3, none⟩ = some (.int .u8 s[i].ahead.toNat) := by rw [kp_cell HR2.out.kp hgl2 hgf2, hcs2 _ (by omega)]; exact t0
          have d1 : wr.cell? ⟨g2, i * 3 + 1, none⟩ = some (vs[i]'hiv) := by rw [kp_cell HR2.out.kp hgl2 hgf2, hcs2 _ (by omega)]; exact t1
          have d2 : wr.cell? ⟨g2, i * 3 + 2, none⟩ = some (.int .u8 s[i].behind.toNat) := by rw [kp_cell HR2.out.kp hgl2 hgf2, hcs2 _ (by omega)]; exact t2
          have htr := RTerms.get HTS.out i hlti hiv
          have hdt : depT s[i] ≤ k := Nat.le_trans (depS_get s i hlti) hdj
          have hsd := firstS_drop (Eb names E) s i hlti
          have hlti' : (i : Int) < s.length := by omega
          obtain ⟨t, ht⟩ : ∃ t, t = s[i] := ⟨_, rfl⟩
          obtain ⟨vv, hvv⟩ : ∃ vv, vv = vs[i]'hiv := ⟨_, rfl⟩
          rw [← ht] at d0 d2 htr hdt hsd
          rw [← hvv] at d1 htr
          have HSD : Hid (Thk.firstS (Eb names E) (s.drop i) = Thk.firstT (Eb names E) t ++ (if Thk.emptyT (Eb names E) t then Thk.firstS (Eb names E) (s.drop (i + 1)) else [])) := hsd
          clear hsd ht hvv t0 t1 t2 hcs2 hgl2 hgf2
          have HTR : Hid (RTerm W A t vv) := htr
          obtain ⟨ta, tp, tb⟩ := t
          simp only [RTerm] at htr
          simp only [depT] at hdt
          obtain ⟨vt, vx, rfl⟩ := RPiece.oneCell htr
          simp only [Thk.Term.ahead, Thk.Term.behind] at d0 d2
          have HTP : Hid (RPiece W A tp (.iface vt vx)) := htr
          clear htr
          have hmk := fun O => markPiece_step k hC (wr.alloc O) mb eb fb names E B2 A tp (.iface vt vx) (HF.out.kpo (HR2.out.kp.alloc hsz2 O) HFB.out hne) (by rw [heap_alloc_old _ _ (heap_lt HR2.out.row)]; exact HR2.out.row) HB2.out hne (RPiece.kept (hSm.out _ (HR2.out.kp.alloc hsz2 O)) tp _ HTP.out) HA.out hdt
          simp only [factsV, rowV] at hmk
          have hw9 : w.heap.size < wr.heap.size := by omega
          go_wp2_with fail
          refine (hmk _).mono ?_
          rintro e w1 ⟨rfl, hk1, hf1⟩
          have hs1 := hk1.size
          simp at hs1
          have hk3 : Kp fb W.heap.size W w1 := (HR2.out.kp.alloc hsz2 _).trans (hk1.mono (by simp; omega))
          have hfr : fb < wr.heap.size := heap_lt HR2.out.row
          have hct : ∀ o, w1.cell? ⟨wr.heap.size, o, none⟩ = (#[.int .u8 ta.toNat, .iface vt vx, .int .u8 tb.toNat] : Array Value)[o]? := fun o => by
            rw [kp_cell hk1 (by simp) (by omega)]; exact cell_of_block (heap_alloc_same _ _) o
          have hbx1 : ∀ o, w1.cell? ⟨w.heap.size, o, none⟩ = (#[.map (some mb), .slice (some ⟨eb, 0, none⟩) names.length names.length] : Array Value)[o]? := fun o => by
            rw [kp_cell hk1 (by simp; omega) (by omega), World.cell?_alloc_lt _ _ _ (by simp only []; omega)]; exact hbx o
          have hem := emptyTerm_any w1 mb eb names E A (.mk ta tp tb) (.iface vt vx) (HF.out.kpo hk3 HFB.out hne) (RTerm.kept (hSm.out _ hk3) _ _ HTR.out)
          simp only [factsV, termV, Thk.Term.ahead, Thk.Term.behind] at hem
          have HK3 : Hid (Kp fb W.heap.size W w1) := hk3
          have HF1 : Hid (w1.heap[fb]? = some (boolsO (markL names B2 (Thk.firstP (Eb names E) tp)))) := hf1
          have HFT : Hid (Thk.firstT (Eb names E) (.mk ta tp tb) = Thk.firstP (Eb names E) tp) := by show _ = _; simp only [Thk.firstT]
          have hw91 : w.heap.size < w1.heap.size := by omega
          have hwr1 : wr.heap.size < w1.heap.size := by omega
          have hfb1 : fb < w1.heap.size := by omega
          clear hmk hk1 hf1 hk3 hbx d0 d1 d2
          cases hr : Thk.emptyT (Eb names E) (.mk ta tp tb) with
          | true =>
            rw [hr] at hem
            have HRr : Hid (Thk.emptyT (Eb names E) (.mk ta tp tb) = true) := hr
            clear hr
            go_wp2_with fail
            refine hem.mono ?_
            rintro e w2 ⟨rfl, hb2⟩
            have hs2 := hb2.size
            have hN : MkRel W fb (markL names B2 (Thk.firstP (Eb names E) tp)) w2 := ⟨HK3.out.trans (Kp.of (hb2.mono (by omega))), by rw [hb2.block _ hfb1]; exact HF1.out⟩
            clear hem hb2
            go_wp2_with fail
            go_roundg (s.length - (i + 1))
            case measure => omega
            case rel =>
              refine ⟨i + 1, _, rfl, by omega, by go_num, hN, by rw [markL_len]; exact HB2.out, ?_⟩
              show _ = _
              rw [hS.out, HSD.out, HFT.out, if_pos HRr.out, markL_append]
          | false =>
            rw [hr] at hem
            have HRr : Hid (Thk.emptyT (Eb names E) (.mk ta tp tb) = false) := hr
            clear hr
            go_wp2_with fail
            refine hem.mono ?_
            rintro e w2 ⟨rfl, hb2⟩
            have hs2 := hb2.size
            have hN : MkRel W fb (markL names B1 (Thk.firstS (Eb names E) s)) w2 := by
              refine ⟨HK3.out.trans (Kp.of (hb2.mono (by omega))), ?_⟩
              rw [hb2.block _ hfb1, HF1.out, hS.out, HSD.out, HFT.out, HRr.out]
              simp
            have hNN := NEXT.out w2 hN
            clear hem hb2 hN
            go_wp2_with fail
            go_roundg (c.length - (j + 1))
            case measure => omega
            case rel => exact hNN
        · have hie : i = s.length := by omega
          have hN : MkRel W fb (markL names B1 (Thk.firstS (Eb names E) s)) wr := by
            refine ⟨HR2.out.kp, ?_⟩
            rw [HR2.out.row, hS.out, hie, List.drop_length]
            rfl
          have hNN := NEXT.out wr hN
          clear hS hN
          go_wp2_with fail
          go_roundg (c.length - (j + 1))
          case measure => omega
          case rel => exact hNN
    · have hje : j = c.length := by omega
      have hN : wr.heap[fb]? = some (boolsO (markL names B (Thk.firstC (Eb names E) c))) := by
        rw [HR.out.row, hH.out, hje, List.drop_length]
        rfl
      have HN := (show Hid _ from hN)
      clear hH hN
      go_wp2_with fail
      go_end0
      exact ⟨rfl, (Kp.of HB0.out).trans (HR.out.kp.mono (by omega)), HN.out⟩
theorem mark_all (k : Nat) : MarkC k := by
  induction k using Nat.strongRecOn with
  | ind k ih => exact mark_step k ih
end Go.Proofs.YtiganlkabilblaaGreatDoor
namespace Go.Proofs.YtiganlkabilblaaGreatDoor
open Go.RowKit Go.WideMaps Go.Maps
abbrev Mat := Nat → Nat → Bool
/-- Over the middles below m. -/
def Wm (M : Mat) : Nat → Mat
  | 0 => M
  | m + 1 => fun i j => Wm M m i j || (Wm M m i m && Wm M m m j)
theorem Wm_self (M : Mat) (m t : Nat) : Wm M (m + 1) m t = Wm M m m t := by
  simp only [Wm]
  cases Wm M m m m <;> cases Wm M m m t <;> rfl
def rowL (N : Nat) (f : Nat → Bool) : List Bool := (List.range N).map f
theorem rowL_len (N : Nat) (f : Nat → Bool) : (rowL N f).length = N := by simp [rowL]
structure MatAt (w : World) (xb N : Nat) (rbs : List Nat) (M : Mat) : Prop where
  rows : w.heap[xb]? = some (.cells (rbs.map (rowV · N)).toArray 74 (0, 0))
  len : rbs.length = N
  row : ∀ i (h : i < rbs.length), w.heap[rbs[i]]? = some (boolsO (rowL N (M i)))
  nodup : rbs.Nodup
theorem MatAt.congr {w : World} {xb N : Nat} {rbs : List Nat} {M M' : Mat} (h : MatAt w xb N rbs M) (he : ∀ i j, i < N → j < N → M i j = M' i j) : MatAt w xb N rbs M' := by
  refine ⟨h.rows, h.len, fun i hi => ?_, h.nodup⟩
  rw [h.row i hi]
  congr 2
  unfold rowL
  apply List.map_congr_left
  intro j hj
  exact he i j (by rw [← h.len]; exact hi) (by simpa using hj)
structure KpM (rbs : List Nat) (B : Nat) (w w' : World) : Prop where
  os : w'.os = w.os
  tape : w'.tape = w.tape
  output : w'.output = w.output
  size : w.heap.size ≤ w'.heap.size
  block : ∀ k, k < B → k ∉ rbs → w'.heap[k]? = w.heap[k]?
theorem KpM.refl (rbs : List Nat) (B : Nat) (w : World) : KpM rbs B w w := ⟨rfl, rfl, rfl, Nat.le_refl _, fun _ _ _ => rfl⟩
theorem KpM.trans {rbs : List Nat} {B : Nat} {a b c : World} (h : KpM rbs B a b) (k : KpM rbs B b c) : KpM rbs B a c :=
  ⟨k.os.trans h.os, k.tape.trans h.tape, k.output.trans h.output, Nat.le_trans h.size k.size, fun i hi hr => (k.block i hi hr).trans (h.block i hi hr)⟩
theorem KpM.set {rbs : List Nat} {B : Nat} {a w : World} (h : KpM rbs B a w) {b o : Nat} (hb : b ∈ rbs) (u : Value) : KpM rbs B a (w.setCell ⟨b, o, none⟩ u) :=
  h.trans ⟨rfl, rfl, rfl, by simp [World.setCell], fun k _ hr => Below.heap_setCell _ _ _ _ (fun e => hr (e ▸ hb))⟩
theorem MatAt.cell {w : World} {xb N : Nat} {rbs : List Nat} {M : Mat} (h : MatAt w xb N rbs M) (i : Nat) (hi : i < rbs.length) : w.cell? ⟨xb, i, none⟩ = some (.slice (some ⟨rbs[i], 0, none⟩) N N) := by
  rw [cell_of_block h.rows]; simp [hi, rowV]
theorem MatAt.at {w : World} {xb N : Nat} {rbs : List Nat} {M : Mat} (h : MatAt w xb N rbs M) (i j : Nat) (hi : i < rbs.length) (hj : j < N) : w.cell? ⟨rbs[i], j, none⟩ = some (.bool (M i j)) := by
  rw [cell_of_block (h.row i hi)]; simp [rowL, hj]
theorem rowL_set (N : Nat) (f : Nat → Bool) (t : Nat) : (rowL N f).set t true = rowL N (fun j => if j = t then true else f j) := by
  apply List.ext_getElem
  · simp [rowL]
  · intro i h1 h2
    simp only [rowL, List.getElem_set, List.getElem_map, List.getElem_range]
    by_cases e : t = i
    · subst e; simp
    · have : ¬ i = t := fun h => e h.symm
      simp [e, this]
theorem MatAt.set {w : World} {xb N : Nat} {rbs : List Nat} {M : Mat} (h : MatAt w xb N rbs M) (f t : Nat) (hf : f < rbs.length) : MatAt (w.setCell ⟨rbs[f], t, none⟩ (.bool true)) xb N rbs (fun i j => if i = f ∧ j = t then true else M i j) := by
  refine ⟨?_, h.len, fun i hi => ?_, h.nodup⟩
  · rw [Below.heap_setCell]
    · exact h.rows
    · intro e
      have h1 := h.row f hf
      simp only [] at e
      rw [← e, h.rows] at h1
      simp [boolsO] at h1
  · by_cases e : i = f
    · subst e
      rw [heap_setCell_at (h.row i hi), boolsO_set, rowL_set]
      congr 3
      funext j
      by_cases e2 : j = t <;> simp [e2]
    · have hne : rbs[i] ≠ rbs[f] := fun e2 => e ((List.getElem_inj h.nodup).1 e2)
      rw [Below.heap_setCell _ _ _ _ hne, h.row i hi]
      congr 3
      funext j
      simp [e]
theorem MatAt.frozen {w : World} {xb N : Nat} {rbs : List Nat} {M : Mat} (h : MatAt w xb N rbs M) (i : Nat) (hi : i < rbs.length) (o : Nat) : w.frozen? ⟨rbs[i], o, none⟩ = false := frozen_of_block (h.row i hi) o
set_option maxHeartbeats 8000000 in
set_option maxRecDepth 100000 in
theorem spread_any (w : World) (xb N : Nat) (rbs : List Nat) (M : Mat) (hM : MatAt w xb N rbs M) (hN : N ≤ 20) :
    Calls Tryz.prog 132 #[.slice (some ⟨xb, 0, none⟩) N N] w fun e w' => e = .returned (.tuple #[]) ∧ MatAt w' xb N rbs (Wm M N) ∧ KpM rbs w.heap.size w w' := by
  have HL : Hid (rbs.length = N) := hM.len
  have HM0 : Hid (MatAt w xb N rbs M) := hM
  clear hM
  go_enter Tryz.func132, Tryz.ntmps132
  go_wp2_with fail
  go_loopg [7] N (fun n i wr => ∃ m : Nat, n = N - m ∧ m ≤ N ∧ i = .int .i64 m ∧ MatAt wr xb N rbs (Wm M m) ∧ KpM rbs w.heap.size w wr)
  case atStart => exact ⟨0, rfl, Nat.zero_le _, rfl, HM0.out, KpM.refl _ _ _⟩
  case round =>
    obtain ⟨m, rfl, hm, rfl, hA, hK⟩ := hrel
    have HA : Hid (MatAt wr xb N rbs (Wm M m)) := hA
    have HK : Hid (KpM rbs w.heap.size w wr) := hK
    clear hA hK
    by_cases hltm : m < N
    · have hltm' : (m : Int) < N := by omega
      go_wp2_with fail
      go_loopg [12] N (fun n i wx => ∃ f : Nat, n = N - f ∧ f ≤ N ∧ i = .int .i64 f ∧ MatAt wx xb N rbs (fun i j => if i < f then Wm M (m + 1) i j else Wm M m i j) ∧ KpM rbs w.heap.size w wx)
      case atStart => exact ⟨0, rfl, Nat.zero_le _, rfl, HA.out.congr (fun i j _ _ => by simp), HK.out⟩
      case round =>
        obtain ⟨f, rfl, hf, rfl, hA2, hK2⟩ := hrel
        have HA2 : Hid (MatAt wr xb N rbs (fun i j => if i < f then Wm M (m + 1) i j else Wm M m i j)) := hA2
        have HK2 : Hid (KpM rbs w.heap.size w wr) := hK2
        clear hA2 hK2
        by_cases hltf : f < N
        · have hltf' : (f : Int) < N := by omega
          have hfr : f < rbs.length := by rw [HL.out]; exact hltf
          have c1 := HA2.out.cell f hfr
          have c2 := HA2.out.at f m hfr hltm
          simp only [Nat.lt_irrefl, if_false] at c2
          cases hv : Wm M m f m with
          | false =>
            rw [hv] at c2
            have hN1 : MatAt wr xb N rbs (fun i j => if i < f + 1 then Wm M (m + 1) i j else Wm M m i j) := by
              refine HA2.out.congr (fun i j _ _ => ?_)
              by_cases h1 : i < f
              · simp [h1, Nat.lt_succ_of_lt h1]
              · by_cases h2 : i = f
                · subst h2; simp [Wm, hv]
                · have h3 : ¬ i < f + 1 := by omega
                  simp [h1, h3]
            clear hv
            go_wp2_with fail
            go_roundg (N - (f + 1))
            case measure => omega
            case rel => exact ⟨f + 1, rfl, by omega, by go_num, hN1, HK2.out⟩
          | true =>
            rw [hv] at c2
            have HV : Hid (Wm M m f m = true) := hv
            clear hv
            go_wp2_with fail
            go_loopg [25] N (fun n i wy => ∃ t : Nat, n = N - t ∧ t ≤ N ∧ i = .int .i64 t ∧ MatAt wy xb N rbs (fun i j => if i < f then Wm M (m + 1) i j else if i = f ∧ j < t then Wm M (m + 1) i j else Wm M m i j) ∧ KpM rbs w.heap.size w wy)
            case atStart => exact ⟨0, rfl, Nat.zero_le _, rfl, HA2.out.congr (fun i j _ _ => by simp), HK2.out⟩
            case round =>
              obtain ⟨t, rfl, ht, rfl, hA3, hK3⟩ := hrel
              have HA3 : Hid (MatAt wr xb N rbs (fun i j => if i < f then Wm M (m + 1) i j else if i = f ∧ j < t then Wm M (m + 1) i j else Wm M m i j)) := hA3
              have HK3 : Hid (KpM rbs w.heap.size w wr) := hK3
              clear hA3 hK3
              by_cases hltt : t < N
              · have hltt' : (t : Int) < N := by omega
                have hmr : m < rbs.length := by rw [HL.out]; exact hltm
                have d1 := HA3.out.cell f hfr
                have d2 := HA3.out.cell m hmr
                have d3 := HA3.out.at m t hmr hltt
                have d4 := HA3.out.at f t hfr hltt
                have d5 := HA3.out.frozen f hfr t
                have hval : (if m < f then Wm M (m + 1) m t else if m = f ∧ t < t then Wm M (m + 1) m t else Wm M m m t) = Wm M m m t := by
                  rw [Wm_self]; simp
                rw [hval] at d3
                obtain ⟨old, hold⟩ : ∃ old, wr.cell? ⟨rbs[f], t, none⟩ = some (.bool old) := ⟨_, d4⟩
                obtain ⟨bf, hbf⟩ : ∃ b, b = rbs[f] := ⟨_, rfl⟩
                obtain ⟨bm, hbm⟩ : ∃ b, b = rbs[m] := ⟨_, rfl⟩
                have hmem : bf ∈ rbs := by rw [hbf]; exact List.getElem_mem hfr
                have hset := HA3.out.set f t hfr
                rw [← hbf] at d1 d5 hold hset
                rw [← hbm] at d2 d3
                clear d4 hval hbf hbm c1 c2
                cases hv2 : Wm M m m t with
                | false =>
                  rw [hv2] at d3
                  have hN3 : MatAt wr xb N rbs (fun i j => if i < f then Wm M (m + 1) i j else if i = f ∧ j < t + 1 then Wm M (m + 1) i j else Wm M m i j) := by
                    refine HA3.out.congr (fun i j _ _ => ?_)
                    by_cases h1 : i < f
                    · simp [h1]
                    · by_cases h2 : i = f
                      · subst h2
                        by_cases h3 : j < t
                        · simp [h3, Nat.lt_succ_of_lt h3]
                        · by_cases h4 : j = t
                          · subst h4; simp [Wm, hv2]
                          · have h5 : ¬ j < t + 1 := by omega
                            simp [h3, h5]
                      · simp [h1, h2]
                  clear hv2 hset hold
                  go_wp2_with fail
                  go_roundg (N - (t + 1))
                  case measure => omega
                  case rel => exact ⟨t + 1, rfl, by omega, by go_num, hN3, HK3.out⟩
                | true =>
                  rw [hv2] at d3
                  have hN3 : MatAt (wr.setCell ⟨bf, t, none⟩ (.bool true)) xb N rbs (fun i j => if i < f then Wm M (m + 1) i j else if i = f ∧ j < t + 1 then Wm M (m + 1) i j else Wm M m i j) := by
                    refine hset.congr (fun i j _ _ => ?_)
                    by_cases h1 : i < f
                    · have h2 : ¬ i = f := by omega
                      simp [h1, h2]
                    · by_cases h2 : i = f
                      · subst h2
                        by_cases h4 : j = t
                        · subst h4; simp [Wm, hv2, HV.out]
                        · by_cases h3 : j < t
                          · simp [h3, h4, Nat.lt_succ_of_lt h3]
                          · have h5 : ¬ j < t + 1 := by omega
                            simp [h3, h4, h5]
                      · simp [h1, h2]
                  have HK4 : Hid (KpM rbs w.heap.size w (wr.setCell ⟨bf, t, none⟩ (.bool true))) := HK3.out.set hmem _
                  clear hv2 hset
                  go_wp2_with fail
                  go_roundg (N - (t + 1))
                  case measure => omega
                  case rel => exact ⟨t + 1, rfl, by omega, by go_num, hN3, HK4.out⟩
              · have hte : t = N := by omega
                have hN1 : MatAt wr xb N rbs (fun i j => if i < f + 1 then Wm M (m + 1) i j else Wm M m i j) := by
                  refine HA3.out.congr (fun i j _ hj => ?_)
                  by_cases h1 : i < f
                  · simp [h1, Nat.lt_succ_of_lt h1]
                  · by_cases h2 : i = f
                    · subst h2; have : j < t := by omega
                      simp [this]
                    · have h3 : ¬ i < f + 1 := by omega
                      simp [h1, h2, h3]
                clear hte
                go_wp2_with fail
                go_roundg (N - (f + 1))
                case measure => omega
                case rel => exact ⟨f + 1, rfl, by omega, by go_num, hN1, HK3.out⟩
        · have hfe : f = N := by omega
          have hN1 : MatAt wr xb N rbs (Wm M (m + 1)) := by
            refine HA2.out.congr (fun i j hi _ => ?_)
            have : i < f := by omega
            simp [this]
          clear hfe
          go_wp2_with fail
          go_roundg (N - (m + 1))
          case measure => omega
          case rel => exact ⟨m + 1, rfl, by omega, by go_num, hN1, HK2.out⟩
    · have hme : m = N := by omega
      have HE : Hid (MatAt wr xb N rbs (Wm M N)) := by have h := HA.out; rw [hme] at h; exact h
      clear hme
      go_wp2_with fail
      go_end0
      exact ⟨rfl, HE.out, HK.out⟩
end Go.Proofs.YtiganlkabilblaaGreatDoor
namespace Go.Proofs.YtiganlkabilblaaGreatDoor
open Go.RowKit Go.WideMaps Go.Maps Go.Deep
theorem Tryz.infoBool : (Tryz.prog.info? 4).map (fun i => (i.zero, i.size, i.bytes)) = some (some (.bool false), 1, 1) := by kernel_rfl
theorem Tryz.infoBools : (Tryz.prog.info? 74).map (fun i => (i.zero, i.size, i.bytes)) = some (some (.slice none 0 0), 1, 24) := by kernel_rfl
def rowsO (rbs : List Nat) (N : Nat) : Obj := .cells (rbs.map (rowV · N) ++ List.replicate (N - rbs.length) (Value.slice none 0 0)).toArray 74 (0, 0)
theorem make_bools (n : Nat) (hn : n ≤ 20) (w : World) : (Instr.makeSlice 74 (.int .i64 n) (.int .i64 n)).run Tryz.prog w = .ok (.slice (some ⟨w.heap.size, 0, none⟩) n n) (w.alloc (boolsO (List.replicate n false))) := by
  rw [run_make_row' 74 4 (.bool false) 1 Tryz.underlying74 Tryz.infoBool rfl .i64 .i64 n (by omega) (by omega) w]
  congr 3
  apply Array.toList_inj.1
  rw [toList_madeCells_one]; simp
theorem make_rows (n : Nat) (hn : n ≤ 20) (w : World) : (Instr.makeSlice 255 (.int .i64 n) (.int .i64 n)).run Tryz.prog w = .ok (.slice (some ⟨w.heap.size, 0, none⟩) n n) (w.alloc (rowsO [] n)) := by
  rw [run_make_row' 255 74 (.slice none 0 0) 24 Tryz.underlying255 Tryz.infoBools rfl .i64 .i64 n (by omega) (by omega) w]
  congr 3
  apply Array.toList_inj.1
  rw [toList_madeCells_one]; simp
/-- Which rules a rule comes first to, by its own names. -/
def dirM (names : List Thk.Bytes) (E : List Bool) (g : List Thk.Rule) : Mat := fun i j => (markL names (List.replicate names.length false) (Thk.firstC (Eb names E) ((g[i]?.map (·.choice)).getD []))).getD j false
theorem row_dir (names : List Thk.Bytes) (E : List Bool) (g : List Thk.Rule) (i : Nat) (hi : i < g.length) : markL names (List.replicate names.length false) (Thk.firstC (Eb names E) g[i].choice) = rowL names.length (dirM names E g i) := by
  apply List.ext_getElem
  · rw [markL_len, rowL_len]; simp
  · intro j h1 h2
    simp only [rowL, List.getElem_map, List.getElem_range, dirM, hi, List.getElem?_eq_getElem, Option.map_some, Option.getD_some]
    rw [List.getD_eq_getElem?_getD, List.getElem?_eq_getElem h1]; rfl
structure ClRel (W : World) (xb N : Nat) (rbs : List Nat) (M : Mat) (wr : World) : Prop where
  kp : Kp xb W.heap.size W wr
  rows : wr.heap[xb]? = some (rowsO rbs N)
  row : ∀ i (h : i < rbs.length), wr.heap[rbs[i]]? = some (boolsO (rowL N (M i)))
  nodup : rbs.Nodup
  new : ∀ b ∈ rbs, W.heap.size ≤ b
theorem rowsO_cell {w : World} {xb N : Nat} {rbs : List Nat} (h : w.heap[xb]? = some (rowsO rbs N)) (hl : rbs.length < N) : w.cell? ⟨xb, rbs.length, none⟩ = some (.slice none 0 0) := by
  rw [cell_of_block h]
  have : 0 < N - rbs.length := by omega
  simp [this]
theorem rowsO_set (rbs : List Nat) (N b : Nat) (hl : rbs.length < N) : Obj.cells ((rbs.map (rowV · N) ++ List.replicate (N - rbs.length) (Value.slice none 0 0)).toArray.setIfInBounds rbs.length (rowV b N)) 74 (0, 0) = rowsO (rbs ++ [b]) N := by
  unfold rowsO
  congr 1
  apply Array.toList_inj.1
  simp only [Array.toList_setIfInBounds]
  rw [List.set_append_right _ _ (by simp)]
  simp only [List.length_map, Nat.sub_self, List.map_append, List.map_cons, List.map_nil, List.append_assoc, List.length_append, List.length_cons, List.length_nil]
  congr 1
  rw [show N - rbs.length = (N - (rbs.length + 1)) + 1 from by omega, List.replicate_succ]
  simp
theorem heap_alloc_at (w : World) (o : Obj) (b : Nat) (hb : b = w.heap.size) : (w.alloc o).heap[b]? = some o := by rw [hb]; exact heap_alloc_same _ _
theorem FactsAt.blocks {w w' : World} {mb eb : Nat} {names : List Thk.Bytes} {E : List Bool} (h : FactsAt w mb eb names E) (h1 : w'.heap[mb]? = w.heap[mb]?) (h2 : w'.heap[eb]? = w.heap[eb]?) : FactsAt w' mb eb names E :=
  ⟨h.map.same h1, by rw [h2]; exact h.emp, h.len, h.pos, h.le⟩
theorem ClRel.next {W : World} {xb N : Nat} {rbs : List Nat} {M : Mat} {wr X w5 : World} (h : ClRel W xb N rbs M wr) (hxb : xb < W.heap.size) (hKX : Kp xb wr.heap.size wr X) (hXs : wr.heap.size + 1 < X.heap.size) (hX : X.heap[xb]? = some (rowsO (rbs ++ [wr.heap.size + 1]) N))
    (hk : Kp (wr.heap.size + 1) X.drew.heap.size X.drew w5) (hf : w5.heap[wr.heap.size + 1]? = some (boolsO (rowL N (M rbs.length)))) : ClRel W xb N (rbs ++ [wr.heap.size + 1]) M w5 := by
  have hs := h.kp.size
  have hlt : ∀ b ∈ rbs, b < wr.heap.size := by
    intro b hb
    obtain ⟨i, hi, rfl⟩ := List.getElem_of_mem hb
    exact heap_lt (h.row i hi)
  have hb5 : ∀ k, k < wr.heap.size → k ≠ xb → w5.heap[k]? = wr.heap[k]? := by
    intro k h1 h2
    rw [hk.block k (by show k < X.heap.size; omega) (by omega)]
    exact hKX.block k h1 h2
  refine ⟨?_, ?_, ?_, ?_, ?_⟩
  · refine h.kp.trans ⟨hk.os.trans hKX.os, hk.tape.trans hKX.tape, hk.output.trans hKX.output, Nat.le_trans hKX.size hk.size, fun k h1 h2 => hb5 k (by omega) h2⟩
  · rw [hk.block xb (by show xb < X.heap.size; omega) (by omega)]; exact hX
  · intro i hi
    rw [List.length_append] at hi
    by_cases h1 : i < rbs.length
    · rw [List.getElem_append_left h1]
      have hm := List.getElem_mem h1
      rw [hb5 _ (hlt _ hm) (by have := h.new _ hm; omega)]
      exact h.row i h1
    · have h2 : i = rbs.length := by simp at hi; omega
      subst h2
      simp
      exact hf
  · rw [List.nodup_append]
    refine ⟨h.nodup, by simp, ?_⟩
    intro a ha b hb
    simp at hb
    have := hlt a ha
    omega
  · intro b hb
    rcases List.mem_append.1 hb with hb | hb
    · exact h.new b hb
    · simp at hb; omega
set_option maxHeartbeats 8000000 in
set_option maxRecDepth 100000 in
theorem checkLeft_any (w : World) (mb eb : Nat) (names : List Thk.Bytes) (E : List Bool) (A : Nat → Prop) (g : List Thk.Rule) (ga : Addr) (gc : Nat) (hF : FactsAt w mb eb names E) (hG : RGram w A g (.slice (some ga) g.length gc)) (hA : ∀ b, A b → b < w.heap.size) (hgn : g.length = names.length) :
    Calls Tryz.prog 92 #[factsV mb eb names.length, .slice (some ga) g.length gc] w fun e w' =>
      Below w.heap.size w w' ∧ ∃ o, e = .returned (faultO 8 o) ∧ (match o with
        | none => ∀ i, i < g.length → Wm (dirM names E g) g.length i i = false
        | some i => i < g.length ∧ Wm (dirM names E g) g.length i i = true ∧ ∀ t, t < i → Wm (dirM names E g) g.length t t = false) := by
  have hle := hF.le
  have hpos := hF.pos
  have hgl : g.length ≤ 20 := by omega
  obtain ⟨W, hW⟩ : ∃ W, W = (w.alloc (factsO mb eb names.length)).alloc (rowsO [] g.length) := ⟨_, rfl⟩
  have hB0 : Below w.heap.size w W := by rw [hW]; exact (below_alloc _ _).alloc (by simp) _
  have hWsz : W.heap.size = w.heap.size + 2 := by rw [hW]; simp
  have hbox : W.heap[w.heap.size]? = some (factsO mb eb names.length) := by rw [hW, heap_alloc_old _ _ (by simp)]; exact heap_alloc_same _ _
  have hxb : W.heap[w.heap.size + 1]? = some (rowsO [] g.length) := by
    rw [hW, show w.heap.size + 1 = (w.alloc (factsO mb eb names.length)).heap.size from by simp]; exact heap_alloc_same _ _
  have HF : Hid (FactsAt W mb eb names E) := hF.below hB0
  have HG : Hid (RGram W A g (.slice (some ga) g.length gc)) := hG.kept (sm_below hB0)
  have HA : Hid (∀ b, A b → b < w.heap.size) := hA
  have HB0 : Hid (Below w.heap.size w W) := hB0
  have HGN : Hid (g.length = names.length) := hgn
  have HX : Hid (W.heap[w.heap.size + 1]? = some (rowsO [] g.length)) := hxb
  have hmk1 := make_rows g.length hgl
  have hmk2 := make_bools g.length hgl
  have hebl : eb < w.heap.size := heap_lt hF.emp
  have hmbl : mb < w.heap.size := hF.map.lt
  clear hF hG hB0 hA hgn hxb
  simp only [factsV]
  go_enter Tryz.func92, Tryz.ntmps92
  go_wp2_with fail
  rw [← hW]
  clear hmk1
  go_loopg [14] g.length (fun m i wr => ∃ (j : Nat) (rbs : List Nat), m = g.length - j ∧ rbs.length = j ∧ j ≤ g.length ∧ i = .int .i64 j ∧ ClRel W (w.heap.size + 1) g.length rbs (dirM names E g) wr)
  case atStart => exact ⟨0, [], rfl, rfl, Nat.zero_le _, rfl, Kp.refl _ _ _, HX.out, by simp, List.nodup_nil, by simp⟩
  case round =>
    obtain ⟨j, rbs, rfl, hrl, hj, rfl, hR⟩ := hrel
    have HR : Hid (ClRel W (w.heap.size + 1) g.length rbs (dirM names E g) wr) := hR
    have HRL : Hid (rbs.length = j) := hrl
    have hszr := hR.kp.size
    have hbx0 : wr.heap[w.heap.size]? = some (factsO mb eb names.length) := by rw [hR.kp.block _ (by omega) (by omega)]; exact hbox
    have hbx := cell_of_block hbx0
    clear hR hbx0 hrl
    by_cases hlt : j < g.length
    · have hSm : Sm A W wr := by
        refine ⟨fun u l hl => own_blocks hl (fun b hb => HR.out.kp.block b (hl.lt b hb).2 ?_), fun b hb ha => HR.out.kp.block b hb (by have := HA.out b ha; omega)⟩
        intro e; subst e
        obtain ⟨cur, h1⟩ := own_block_type hl hb
        rw [HX.out] at h1
        simp [rowsO] at h1
      have hGr : RGram wr A g (.slice (some ga) g.length gc) := HG.out.kept hSm
      obtain ⟨gb, a, c, rfl, hgb, hAgb, c0, c1, hCh, hnm⟩ := hGr.at j hlt
      have hlt' : (j : Int) < g.length := by omega
      have hxc : wr.cell? ⟨w.heap.size + 1, j, none⟩ = some (.slice none 0 0) := by
        have := rowsO_cell HR.out.rows (by rw [HRL.out]; exact hlt)
        rw [HRL.out] at this; exact this
      have hxf := frozen_of_block HR.out.rows j
      have hgbl := HA.out gb hAgb
      have hw9 : w.heap.size < wr.heap.size := by omega
      have hw10 : w.heap.size + 1 < wr.heap.size := by omega
      clear hGr hnm
      go_wp2_with fail
      obtain ⟨X, hX⟩ : ∃ X, X = (((wr.setCell ⟨w.heap.size + 1, j, none⟩ (.slice (some ⟨wr.heap.size + 1, 0, none⟩) g.length g.length)).alloc (.cells #[.string ⟨List.toArray g[j].name⟩, .slice a g[j].choice.length c] 142)).alloc (boolsO (List.replicate g.length false))) := ⟨_, rfl⟩
      have hXsz : X.heap.size = wr.heap.size + 2 := by rw [hX]; simp
      have hKX : Kp (w.heap.size + 1) wr.heap.size wr X := by
        rw [hX]; exact (((Kp.refl _ _ _).setRb _ _).alloc (by simp) _).alloc (by simp) _
      have hKWX : Kp (w.heap.size + 1) W.heap.size W X := HR.out.kp.trans (hKX.mono hszr)
      have hXfb : X.heap[wr.heap.size + 1]? = some (boolsO (List.replicate g.length false)) := by
        rw [hX]; exact heap_alloc_at _ _ _ (by simp)
      have hXxb : X.heap[w.heap.size + 1]? = some (rowsO (rbs ++ [wr.heap.size + 1]) g.length) := by
        rw [hX, heap_alloc_old _ _ (by simp; omega), heap_alloc_old _ _ (by simp; omega)]
        have h1 := HRL.out
        have h2 := rowsO_set rbs g.length (wr.heap.size + 1) (by omega)
        rw [heap_setCell_at (cs := (rbs.map (rowV · g.length) ++ List.replicate (g.length - rbs.length) (Value.slice none 0 0)).toArray) HR.out.rows, ← h2, h1]
        rfl
      have hFX : FactsAt X.drew mb eb names E := HF.out.blocks (hKWX.block mb (by omega) (by omega)) (hKWX.block eb (by omega) (by omega))
      have hSX : Sm A wr X.drew := ⟨fun u l hl => own_blocks hl (fun b hb => hKX.block b (hl.lt b hb).2 (by
          intro e; subst e
          obtain ⟨cur, h1⟩ := own_block_type hl hb
          rw [HR.out.rows] at h1
          simp [rowsO] at h1)), fun b hb ha => hKX.block b hb (by have := HA.out b ha; omega)⟩
      have hch := mark_all (depC g[j].choice) X.drew mb eb (wr.heap.size + 1) names E (List.replicate names.length false) A g[j].choice (.slice a g[j].choice.length c) hFX (by rw [← HGN.out]; exact hXfb) (by simp) (by omega) (hCh.kept hSX) (fun b hb => by have := HA.out b hb; omega) (Nat.le_refl _)
      rw [row_dir names E g j hlt] at hch
      have hch' : Calls Tryz.prog 131 #[.agg #[.map (some mb), .slice (some ⟨eb, 0, none⟩) names.length names.length], .slice a g[j].choice.length c, .slice (some ⟨wr.heap.size + 1, 0, none⟩) g.length g.length] X.drew fun e w' =>
          e = .returned (.tuple #[]) ∧ Kp (wr.heap.size + 1) X.drew.heap.size X.drew w' ∧ w'.heap[wr.heap.size + 1]? = some (boolsO (rowL g.length (dirM names E g j))) := by
        have h1 := hch
        simp only [factsV, rowV] at h1
        rw [HGN.out]
        exact h1
      have q0 : ∀ o, X.cell? ⟨w.heap.size, o, none⟩ = (#[.map (some mb), .slice (some ⟨eb, 0, none⟩) names.length names.length] : Array Value)[o]? := fun o => by
        rw [kp_cell hKX (by omega) (by omega)]; exact hbx o
      have q1 : X.cell? ⟨wr.heap.size, 1, none⟩ = some (.slice a g[j].choice.length c) := by
        rw [hX, World.cell?_alloc_lt _ _ _ (by simp)]
        rw [cell_of_block (heap_alloc_at _ _ _ (by simp))]; rfl
      have q2 : X.cell? ⟨w.heap.size + 1, j, none⟩ = some (.slice (some ⟨wr.heap.size + 1, 0, none⟩) g.length g.length) := by
        rw [cell_of_block hXxb]
        have := HRL.out
        simp [rowV, ← this]
      have HKWX : Hid (Kp (w.heap.size + 1) W.heap.size W X) := hKWX
      have HKX : Hid (Kp (w.heap.size + 1) wr.heap.size wr X) := hKX
      have HXX : Hid (X.heap[w.heap.size + 1]? = some (rowsO (rbs ++ [wr.heap.size + 1]) g.length)) := hXxb
      rw [← hX]
      clear hX hKX hKWX hXfb hXxb hFX hSX hch hCh c0 c1 hxc hxf hbx hmk2
      go_region_with (go_at_call 131; refine hch'.mono ?_; rintro e w5 ⟨rfl, hk5, hf5⟩)
      all_goals
        have hN := HR.out.next (by omega) HKX.out (by omega) HXX.out hk5 (by rw [HRL.out]; exact hf5)
        have hNl : (rbs ++ [wr.heap.size + 1]).length = j + 1 := by have := HRL.out; simp; omega
        have HNN : Hid (ClRel W (w.heap.size + 1) g.length (rbs ++ [wr.heap.size + 1]) (dirM names E g) w5) := hN
        have HNL : Hid ((rbs ++ [wr.heap.size + 1]).length = j + 1) := hNl
        clear hN hNl hk5 hf5 hch'
        go_wp2_with fail
        go_roundg (g.length - (j + 1))
        case measure => omega
        case rel => exact ⟨j + 1, _, rfl, HNL.out, by omega, by go_num, HNN.out⟩
    · have hjg : j = g.length := by omega
      have hrl : rbs.length = g.length := by rw [HRL.out]; exact hjg
      have hMat : MatAt wr (w.heap.size + 1) g.length rbs (dirM names E g) := by
        refine ⟨?_, hrl, HR.out.row, HR.out.nodup⟩
        rw [HR.out.rows]
        unfold rowsO
        rw [hrl]
        simp
      have hsp := spread_any wr (w.heap.size + 1) g.length rbs (dirM names E g) hMat hgl
      have HRLg : Hid (rbs.length = g.length) := hrl
      clear hjg hrl hMat hmk2
      go_wp2_with fail
      refine hsp.mono ?_
      rintro e w2 ⟨rfl, hM2, hK2⟩
      have HM2 : Hid (MatAt w2 (w.heap.size + 1) g.length rbs (Wm (dirM names E g) g.length)) := hM2
      have hBw : Below w.heap.size w w2 := by
        have h1 : Kp (w.heap.size + 1) w.heap.size w wr := (Kp.of HB0.out).trans (HR.out.kp.mono (by omega))
        refine ⟨hK2.os.trans h1.os, hK2.tape.trans h1.tape, hK2.output.trans h1.output, Nat.le_trans h1.size hK2.size, fun k hk => ?_⟩
        rw [hK2.block k (by omega) (fun hm => by have := HR.out.new k hm; omega)]
        exact h1.block k hk (by omega)
      have HBW : Hid (Below w.heap.size w w2) := hBw
      clear hsp hM2 hK2 hBw
      go_wp2_with fail
      go_loopg [38] g.length (fun m i wx => ∃ j : Nat, m = g.length - j ∧ j ≤ g.length ∧ i = .int .i64 j ∧ wx = w2 ∧ Hid (∀ t, t < j → Wm (dirM names E g) g.length t t = false))
      case atStart => exact ⟨0, rfl, Nat.zero_le _, rfl, rfl, fun t ht => by omega⟩
      case round =>
        obtain ⟨t, rfl, ht, rfl, rfl, hno⟩ := hrel
        by_cases hlt2 : t < g.length
        · have htr : t < rbs.length := by rw [HRLg.out]; exact hlt2
          have d1 := HM2.out.cell t htr
          have d2 := HM2.out.at t t htr hlt2
          have hlt2' : (t : Int) < g.length := by omega
          generalize rbs[t] = bt at *
          cases hv : Wm (dirM names E g) g.length t t with
          | true =>
            rw [hv] at d2
            have HV : Hid (Wm (dirM names E g) g.length t t = true) := hv
            clear hv
            go_wp2_with fail
            go_ret
            exact ⟨HBW.out, some t, rfl, hlt2, HV.out, hno.out⟩
          | false =>
            rw [hv] at d2
            have HN : Hid (∀ i, i < t + 1 → Wm (dirM names E g) g.length i i = false) := by
              intro i hi
              by_cases e : i = t
              · subst e; exact hv
              · exact hno.out i (by omega)
            clear hv hno
            go_wp2_with fail
            go_roundg (g.length - (t + 1))
            case measure => omega
            case rel => exact ⟨t + 1, rfl, by omega, by go_num, rfl, HN⟩
        · have HN : Hid (∀ i, i < g.length → Wm (dirM names E g) g.length i i = false) := fun i hi => hno.out i (by omega)
          clear hno
          go_wp2_with fail
          go_ret
          exact ⟨HBW.out, none, rfl, HN.out⟩
end Go.Proofs.YtiganlkabilblaaGreatDoor
namespace Go.Proofs.YtiganlkabilblaaGreatDoor
theorem Wm_base (M : Mat) : ∀ (m i j : Nat), M i j = true → Wm M m i j = true
  | 0, _, _, h => h
  | m + 1, i, j, h => by simp only [Wm]; rw [Wm_base M m i j h]; rfl
/-- By way of k, a middle that is let. -/
theorem Wm_trans (M : Mat) : ∀ (m k i j : Nat), k < m → Wm M m i k = true → Wm M m k j = true → Wm M m i j = true
  | 0, _, _, _, h, _, _ => by omega
  | m + 1, k, i, j, hk, h1, h2 => by
    simp only [Wm, Bool.or_eq_true, Bool.and_eq_true] at h1 h2 ⊢
    rcases Nat.lt_or_ge k m with hkm | hkm
    · rcases h1 with h1 | ⟨h1, h1'⟩ <;> rcases h2 with h2 | ⟨h2, h2'⟩
      · exact .inl (Wm_trans M m k i j hkm h1 h2)
      · exact .inr ⟨Wm_trans M m k i m hkm h1 h2, h2'⟩
      · exact .inr ⟨h1, Wm_trans M m k m j hkm h1' h2⟩
      · exact .inr ⟨h1, h2'⟩
    · have hkm' : k = m := by omega
      subst hkm'
      right
      constructor
      · rcases h1 with h1 | ⟨h1, _⟩ <;> exact h1
      · rcases h2 with h2 | ⟨_, h2⟩ <;> exact h2
theorem Wm_step (M : Mat) (n k i j : Nat) (hk : k < n) (h1 : Wm M n i k = true) (h2 : M k j = true) : Wm M n i j = true := Wm_trans M n k i j hk h1 (Wm_base M n k j h2)
/-- What is shut under the steps holds what is come to. -/
theorem Wm_shut (M : Mat) (C : Nat → Prop) (hc : ∀ j k, C j → M j k = true → C k) : ∀ (m i j : Nat), (∀ k, M i k = true → C k) → Wm M m i j = true → C j
  | 0, i, j, hi, h => hi j h
  | m + 1, i, j, hi, h => by
    simp only [Wm, Bool.or_eq_true, Bool.and_eq_true] at h
    rcases h with h | ⟨h1, h2⟩
    · exact Wm_shut M C hc m i j hi h
    · have hm := Wm_shut M C hc m i m hi h1
      exact Wm_shut M C hc m m j (fun k hk => hc m k hm hk) h2
/-- Two least ones are the same. -/
theorem Least.same {names : List Thk.Bytes} {g : List Thk.Rule} {E F : List Bool} (hE : Closed names g E) (hE' : Least names g E) (hF : Closed names g F) (hF' : Least names g F) (i : Nat) : E.getD i false = F.getD i false := by
  cases h1 : E.getD i false with
  | true => exact (hE' F hF i h1).symm
  | false =>
    cases h2 : F.getD i false with
    | false => rfl
    | true => have := hF' E hE i h2; rw [h1] at this; cases this
end Go.Proofs.YtiganlkabilblaaGreatDoor
namespace Go.Proofs.YtiganlkabilblaaGreatDoor
open Thk
/-- May an expression take nothing, if its parts may as l says? (names: the rules' names, bodies: their choices.) -/
def emptyX (xs : List RE) (names : List Bytes) (bodies : List Nat) (l : List Bool) (i : Nat) : Bool :=
  match xs[i]? with
  | none => false
  | some e =>
    if e.kind = 1 ∨ e.kind = 2 ∨ e.kind = 3 then false
    else if e.kind = 4 then names.contains e.text && l.getD (bodies.getD (names.idxOf e.text) 0) false
    else if e.kind = 5 then e.parts.all fun k => l.getD k false
    else if e.kind = 6 then e.parts.any fun k => l.getD k false
    else if e.kind = 9 then l.getD (e.parts.headD 0) false
    else true
def CloL (xs : List RE) (names : List Bytes) (bodies : List Nat) (l : List Bool) : Prop := ∀ i, emptyX xs names bodies l i = true → l.getD i false = true
def Eof (bodies : List Nat) (l : List Bool) : List Bool := bodies.map fun k => l.getD k false
theorem Eof_get (bodies : List Nat) (l : List Bool) (i : Nat) (h : i < bodies.length) : (Eof bodies l).getD i false = l.getD (bodies.getD i 0) false := by
  simp [Eof, h]
theorem Eb_known {names : List Bytes} {bodies : List Nat} {l : List Bool} {b : Bytes} (hn : names.contains b = true) (hl : bodies.length = names.length) : Eb names (Eof bodies l) b = l.getD (bodies.getD (names.idxOf b) 0) false := by
  unfold Eb idx0
  rw [if_pos hn]
  exact Eof_get _ _ _ (by rw [hl]; exact List.idxOf_lt_length_iff.2 (by simpa using hn))
mutual
theorem cloP {xs : List RE} {names : List Bytes} {bodies : List Nat} {l : List Bool} (hc : CloL xs names bodies l) (hl : bodies.length = names.length) {k : Nat} : ∀ p : Piece, DenP xs k p → someP (unkT names) p = false → (∀ b, p = .name b → names.contains b = true) → emptyP (Eb names (Eof bodies l)) p = true → l.getD k false = true
  | .name b => by
    intro h _ hb he
    simp only [DenP] at h
    simp only [emptyP] at he
    have hn := hb b rfl
    rw [Eb_known hn hl] at he
    refine hc k ?_
    simp only [emptyX, h]
    simp at hn he ⊢
    exact ⟨hn, he⟩
  | .lit b => by intro _ _ _ he; simp [emptyP] at he
  | .cls b => by intro _ _ _ he; simp [emptyP] at he
  | .any => by intro _ _ _ he; simp [emptyP] at he
  | .group c => by
    intro h hu _ he
    simp only [DenP] at h
    obtain ⟨qs, h1, h2⟩ := h
    simp only [someP] at hu
    simp only [emptyP] at he
    refine hc k ?_
    simp only [emptyX, h1]
    simpa using cloC hc hl c h2 hu he
theorem cloT {xs : List RE} {names : List Bytes} {bodies : List Nat} {l : List Bool} (hc : CloL xs names bodies l) (hl : bodies.length = names.length) {k : Nat} : ∀ t : Term, DenT xs k t → someT (unkT names) t = false → emptyT (Eb names (Eof bodies l)) t = true → l.getD k false = true
  | .mk a p b => by
    intro h hu he
    simp only [DenT] at h
    obtain ⟨i, j, h1, h2, h3, h4, h5⟩ := h
    simp only [someT, Bool.or_eq_false_iff] at hu
    have hnm : ∀ b', p = .name b' → names.contains b' = true := by
      intro b' hp
      subst hp
      have := hu.1
      simpa [unkT, Term.piece] using this
    simp only [emptyT, Bool.or_eq_true] at he
    by_cases ha : a = 0
    · rw [if_pos ha] at h1
      subst h1
      subst ha
      by_cases hb : b = 0
      · rw [if_pos hb] at h2
        subst h2; subst hb
        refine cloP hc hl p h3 hu.2 hnm ?_
        simpa using he
      · rw [if_neg hb] at h2
        refine hc k ?_
        rcases h4 with rfl | rfl | rfl | rfl
        · exact absurd rfl hb
        · simp [emptyX, h2, wrapE, sgnKind]
        · simp [emptyX, h2, wrapE, sgnKind]
        · have hj : l.getD j false = true := cloP hc hl p h3 hu.2 hnm (by simpa using he)
          simp only [emptyX, h2, wrapE, sgnKind]
          simpa using hj
    · rw [if_neg ha] at h1
      refine hc k ?_
      rcases h5 with rfl | rfl | rfl
      · exact absurd rfl ha
      · simp [emptyX, h1, wrapE, sgnKind]
      · simp [emptyX, h1, wrapE, sgnKind]
theorem cloS {xs : List RE} {names : List Bytes} {bodies : List Nat} {l : List Bool} (hc : CloL xs names bodies l) (hl : bodies.length = names.length) : ∀ {ks : List Nat} (s : List Term), DenS xs ks s → someS (unkT names) s = false → emptyS (Eb names (Eof bodies l)) s = true → ks.all (fun k => l.getD k false) = true
  | ks, [] => by
    intro h _ _
    simp only [DenS] at h
    subst h; rfl
  | ks, t :: s => by
    intro h hu he
    simp only [DenS] at h
    obtain ⟨k, ks', rfl, h1, h2⟩ := h
    simp only [someS, Bool.or_eq_false_iff] at hu
    simp only [emptyS, Bool.and_eq_true] at he
    rw [List.all_cons, cloT hc hl t h1 hu.1 he.1, cloS hc hl s h2 hu.2 he.2]; rfl
theorem cloC {xs : List RE} {names : List Bytes} {bodies : List Nat} {l : List Bool} (hc : CloL xs names bodies l) (hl : bodies.length = names.length) : ∀ {qs : List Nat} (c : List (List Term)), DenC xs qs c → someC (unkT names) c = false → emptyC (Eb names (Eof bodies l)) c = true → qs.any (fun k => l.getD k false) = true
  | qs, [] => by intro _ _ he; simp [emptyC] at he
  | qs, s :: c => by
    intro h hu he
    simp only [DenC] at h
    obtain ⟨q, qs', ks, rfl, h1, h2, h3⟩ := h
    simp only [someC, Bool.or_eq_false_iff] at hu
    simp only [emptyC, Bool.or_eq_true] at he
    rw [List.any_cons]
    rcases he with he | he
    · have := cloS hc hl s h2 hu.1 he
      rw [hc q (by simp only [emptyX, h1]; simpa using this)]; rfl
    · rw [cloC hc hl c h3 hu.2 he]; simp
 end
end Go.Proofs.YtiganlkabilblaaGreatDoor
namespace Go.Proofs.YtiganlkabilblaaGreatDoor
open Thk
/-- What is said to take nothing takes nothing under whatever is closed. -/
def FndL (xs : List RE) (names : List Bytes) (g : List Rule) (l : List Bool) : Prop := ∀ F, Closed names g F → ∀ k, l.getD k false = true →
  (∀ p, DenP xs k p → emptyP (Eb names F) p = true) ∧ (∀ t, DenT xs k t → emptyT (Eb names F) t = true) ∧ (∀ ks s, xs[k]? = some ⟨5, [], [], 0, ks⟩ → DenS xs ks s → emptyS (Eb names F) s = true)
theorem DenR.get {xs : List RE} : ∀ (rs : List (Bytes × Nat)) (g : List Rule), DenR xs rs g → rs.length = g.length ∧ ∀ i (h : i < g.length), (rs.map (·.1)).getD i [] = g[i].name ∧ DenP xs ((rs.map (·.2)).getD i 0) (.group g[i].choice)
  | [], [] => fun _ => ⟨rfl, fun i h => by simp at h⟩
  | x :: rs, r :: g => fun ⟨h1, h2, h3⟩ => by
    obtain ⟨e, ih⟩ := DenR.get rs g h3
    refine ⟨by simp [e], fun i h => ?_⟩
    cases i with
    | zero => exact ⟨h1, h2⟩
    | succ i => exact ih i (by simpa using h)
  | [], _ :: _ => fun h => h.elim
  | _ :: _, [] => fun h => h.elim
theorem denS_empty {xs : List RE} {F : Bytes → Bool} {l : List Bool} (hT : ∀ k, l.getD k false = true → ∀ t, DenT xs k t → emptyT F t = true) : ∀ {ks : List Nat} (s : List Term), DenS xs ks s → ks.all (fun k => l.getD k false) = true → emptyS F s = true
  | ks, [] => fun _ _ => by simp [emptyS]
  | ks, t :: s => by
    intro h ha
    simp only [DenS] at h
    obtain ⟨k, ks', rfl, h1, h2⟩ := h
    rw [List.all_cons, Bool.and_eq_true] at ha
    simp only [emptyS, hT k ha.1 t h1, denS_empty hT s h2 ha.2, Bool.and_self]
theorem denC_empty {xs : List RE} {F : Bytes → Bool} {l : List Bool} (hS : ∀ k, l.getD k false = true → ∀ ks s, xs[k]? = some ⟨5, [], [], 0, ks⟩ → DenS xs ks s → emptyS F s = true) : ∀ {qs : List Nat} (c : List (List Term)), DenC xs qs c → qs.any (fun k => l.getD k false) = true → emptyC F c = true
  | qs, [] => by
    intro h ha
    simp only [DenC] at h
    subst h; simp at ha
  | qs, s :: c => by
    intro h ha
    simp only [DenC] at h
    obtain ⟨q, qs', ks, rfl, h1, h2, h3⟩ := h
    rw [List.any_cons, Bool.or_eq_true] at ha
    simp only [emptyC, Bool.or_eq_true]
    rcases ha with ha | ha
    · exact .inl (hS q ha ks s h1 h2)
    · exact .inr (denC_empty hS c h3 ha)
theorem FndL.step {xs : List RE} {rs : List (Bytes × Nat)} {g : List Rule} {l : List Bool} {i : Nat} (hR : DenR xs rs g) (h : FndL xs (rs.map (·.1)) g l) (he : emptyX xs (rs.map (·.1)) (rs.map (·.2)) l i = true) : FndL xs (rs.map (·.1)) g (l.set i true) := by
  intro F hF k hk
  obtain ⟨hlen, hget⟩ := DenR.get rs g hR
  by_cases hik : k = i
  · subst hik
    have hP : ∀ p, DenP xs k p → emptyP (Eb (rs.map (·.1)) F) p = true := by
      intro p hp
      cases p with
      | name b =>
        simp only [DenP] at hp
        simp only [emptyX, hp] at he
        simp only [Nat.reduceEqDiff, or_self, if_false, if_true, Bool.and_eq_true] at he
        obtain ⟨hn, hb⟩ := he
        have hi : (rs.map (·.1)).idxOf b < g.length := by
          rw [← hlen, ← List.length_map (f := (·.1))]; exact List.idxOf_lt_length_iff.2 (by simpa using hn)
        have h1 := (h F hF _ hb).1 _ (hget _ hi).2
        simp only [emptyP] at h1
        have h2 := hF _ hi h1
        simp only [emptyP]
        unfold Eb idx0
        rw [if_pos hn]; exact h2
      | lit b => simp only [DenP] at hp; simp [emptyX, hp] at he
      | cls b => simp only [DenP] at hp; simp [emptyX, hp] at he
      | any => simp only [DenP] at hp; simp [emptyX, hp] at he
      | group c =>
        simp only [DenP] at hp
        obtain ⟨qs, h1, h2⟩ := hp
        simp only [emptyX, h1] at he
        simp only [Nat.reduceEqDiff, or_self, if_false, if_true] at he
        simp only [emptyP]
        exact denC_empty (fun k hk => (h F hF k hk).2.2) c h2 he
    refine ⟨hP, ?_, ?_⟩
    · rintro ⟨a, p, b⟩ ht
      simp only [DenT] at ht
      obtain ⟨i', j, h1, h2, h3, h4, h5⟩ := ht
      by_cases ha : a = 0
      · rw [if_pos ha] at h1
        subst h1; subst ha
        by_cases hb : b = 0
        · rw [if_pos hb] at h2
          subst h2; subst hb
          simp [emptyT, hP p h3]
        · rw [if_neg hb] at h2
          rcases h4 with rfl | rfl | rfl | rfl
          · exact absurd rfl hb
          · simp [emptyT]
          · simp [emptyT]
          · have hj : l.getD j false = true := by simpa [emptyX, h2, wrapE, sgnKind] using he
            simp [emptyT, (h F hF j hj).1 p h3]
      · simp [emptyT, ha]
    · intro ks s hx hs
      simp only [emptyX, hx] at he
      simp only [Nat.reduceEqDiff, or_self, if_false, if_true] at he
      exact denS_empty (fun k hk => (h F hF k hk).2.1) s hs he
  · refine h F hF k ?_
    rw [List.getD_eq_getElem?_getD, List.getElem?_set, if_neg (fun e => hik e.symm)] at hk
    rw [List.getD_eq_getElem?_getD]; exact hk
theorem FndL.none {xs : List RE} {names : List Bytes} {g : List Rule} (n : Nat) : FndL xs names g (List.replicate n false) := by
  intro F _ k hk
  rw [List.getD_eq_getElem?_getD, List.getElem?_replicate] at hk
  split at hk <;> cases hk
/-- WHAT MAY TAKE NOTHING BY THE REFERENCE IS THE LEAST THAT IS CLOSED. -/
theorem least_of {xs : List RE} {rs : List (Bytes × Nat)} {g : List Rule} {l : List Bool} (hR : DenR xs rs g) (hc : CloL xs (rs.map (·.1)) (rs.map (·.2)) l) (hf : FndL xs (rs.map (·.1)) g l) (hu : ∀ i (h : i < g.length), someC (unkT (rs.map (·.1))) g[i].choice = false) :
    Closed (rs.map (·.1)) g (Eof (rs.map (·.2)) l) ∧ Least (rs.map (·.1)) g (Eof (rs.map (·.2)) l) ∧ (Eof (rs.map (·.2)) l).length = g.length := by
  obtain ⟨hlen, hget⟩ := DenR.get rs g hR
  refine ⟨?_, ?_, by simp [Eof, hlen]⟩
  · intro i hi he
    rw [Eof_get _ _ _ (by simp [hlen, hi])]
    exact cloP hc (by simp) _ (hget i hi).2 (by simp only [someP]; exact hu i hi) (by intro b hb; cases hb) (by simp only [emptyP]; exact he)
  · intro F hF i hi
    by_cases hig : i < g.length
    · rw [Eof_get _ _ _ (by simp [hlen, hig])] at hi
      have := (hf F hF _ hi).1 _ (hget i hig).2
      simp only [emptyP] at this
      exact hF i hig this
    · exfalso
      rw [List.getD_eq_getElem?_getD, List.getElem?_eq_none (by simp [Eof, hlen]; omega)] at hi
      cases hi
end Go.Proofs.YtiganlkabilblaaGreatDoor
namespace Thk
/-- How great a state is, behind so many tokens. -/
structure Bd (c : Nat) (S : ST) : Prop where
  xs : S.xs.length ≤ 4 * c
  os : S.os.length ≤ 7
  each : ∀ o ∈ S.os, o.terms.length ≤ c ∧ o.seqs.length ≤ c
  rs : S.rs.length ≤ 20
theorem Bd.zero : Bd 0 S0 := ⟨by simp [S0], by simp [S0], by simp [S0], by simp [S0]⟩
theorem Bd.mono {c c' : Nat} {S : ST} (h : Bd c S) (hc : c ≤ c') : Bd c' S :=
  ⟨by have := h.xs; omega, h.os, fun o ho => by have := h.each o ho; omega, h.rs⟩
theorem top_mem {S : ST} (h : S.os ≠ []) : ∃ pre o, S.os = pre ++ [o] ∧ S.top = o := by
  refine ⟨S.os.dropLast, S.os.getLast h, (List.dropLast_concat_getLast h).symm, ?_⟩
  unfold ST.top
  conv => lhs; rw [← List.dropLast_concat_getLast h]
  rw [List.getLastD_concat]
theorem Bd.top {c : Nat} {S : ST} (h : Bd c S) (hne : S.os ≠ []) : S.top.terms.length ≤ c ∧ S.top.seqs.length ≤ c := by
  obtain ⟨pre, o, h1, h2⟩ := top_mem hne
  rw [h2]; exact h.each o (by rw [h1]; simp)
/-- A term more, with at most so many expressions. -/
theorem Bd.term {c n : Nat} {T : ST} {j : Nat} {sg : Bytes} (hx : T.xs.length + 1 ≤ 4 * n) (ho : T.os.length ≤ 7) (hne : T.os ≠ []) (he : ∀ o ∈ T.os, o.terms.length ≤ c ∧ o.seqs.length ≤ c) (hr : T.rs.length ≤ 20) (hn : c + 1 ≤ n) : Bd n (T.term j sg) := by
  obtain ⟨pre, o, h1, _⟩ := top_mem hne
  refine ⟨?_, ?_, ?_, by rw [term_rs]; exact hr⟩
  · rw [term_xs]; split
    · omega
    · simp; omega
  · rw [term_os _ _ _ h1]; rw [h1] at ho; simpa using ho
  · rw [term_os _ _ _ h1]
    intro x hx'
    rcases List.mem_append.1 hx' with hx' | hx'
    · have := he x (by rw [h1]; simp [hx']); omega
    · simp only [List.mem_singleton] at hx'
      subst hx'
      have := he o (by rw [h1]; simp)
      simp; omega
theorem Bd.lay {c : Nat} {S : ST} (h : Bd c S) (hne : S.os ≠ []) (e : RE) : Bd (c + 1) (S.lay e) := by
  have hx := h.xs
  exact Bd.term (c := c) (by simp [ST.add]; omega) h.os hne h.each h.rs (Nat.le_refl _)
theorem Bd.slash {c : Nat} {S : ST} (h : Bd c S) (hne : S.os ≠ []) : Bd (c + 1) { S.slash with may := false } := by
  obtain ⟨pre, o, h1, _⟩ := top_mem hne
  obtain ⟨f1, f2, f3, f4⟩ := slash_os h1
  have hx := h.xs
  have ho := h.os
  refine ⟨by simp only [f2]; simp; omega, by simp only [f1]; rw [h1] at ho; simpa using ho, ?_, by simp only [f3]; exact h.rs⟩
  simp only [f1]
  intro x hx'
  rcases List.mem_append.1 hx' with hx' | hx'
  · have := h.each x (by rw [h1]; simp [hx']); omega
  · simp only [List.mem_singleton] at hx'
    subst hx'
    have := h.each o (by rw [h1]; simp)
    simp; omega
theorem Bd.behind {c : Nat} {S : ST} (h : Bd c S) (hne : S.os ≠ []) (b : Bytes) : Bd (c + 1) (S.behind b) := by
  obtain ⟨pre, o, h1, h2⟩ := top_mem hne
  have hx := h.xs
  have ho := h.os
  unfold ST.behind
  simp only []
  split
  · exact ⟨by simp; omega, ho, fun x hx' => by have := h.each x hx'; omega, h.rs⟩
  · refine ⟨by simp [ST.setTop, ST.add]; omega, ?_, ?_, by simp [ST.setTop, ST.add]; exact h.rs⟩
    · simp [ST.setTop, ST.add, h1] at ho ⊢; exact ho
    · simp only [ST.setTop, ST.add, h1, List.dropLast_concat]
      intro x hx'
      rcases List.mem_append.1 hx' with hx' | hx'
      · have := h.each x (by rw [h1]; simp [hx']); omega
      · simp only [List.mem_singleton] at hx'
        subst hx'
        have := h.each o (by rw [h1]; simp)
        rw [h2]; simp; omega
theorem Bd.opened {c : Nat} {S : ST} (h : Bd c S) (hd : S.os.length ≤ 6) (sg : Bytes) : Bd (c + 1) { S with os := S.os ++ [⟨[], [], sg⟩], sign := [], may := false } := by
  have hx := h.xs
  refine ⟨by simp only []; omega, by simp; omega, ?_, h.rs⟩
  intro x hx'
  rcases List.mem_append.1 hx' with hx' | hx'
  · have := h.each x hx'; omega
  · simp only [List.mem_singleton] at hx'
    subst hx'; simp
theorem Bd.closed {c : Nat} {S : ST} (h : Bd c S) (hl : 2 ≤ S.os.length) (j : Nat) (sg : Bytes) : Bd (c + 1) (S.closed.term j sg) := by
  have hne : S.os ≠ [] := by intro e; rw [e] at hl; simp at hl
  obtain ⟨pre, o, h1, _⟩ := top_mem hne
  obtain ⟨f1, f2, f3, f4⟩ := closed_os h1
  have hx := h.xs
  have ho := h.os
  rw [h1] at hl ho
  simp at hl ho
  refine Bd.term (c := c) (by rw [f2]; simp; omega) (by rw [f1]; omega) (by rw [f1]; intro e; rw [e] at hl; simp at hl) ?_ (by rw [f3]; exact h.rs) (Nat.le_refl _)
  rw [f1]
  intro x hx'
  exact h.each x (by rw [h1]; simp [hx'])
theorem Bd.begin {c : Nat} {S : ST} (h : Bd c S) (hl : S.os.length ≤ 1) (hr : S.rs.length < 20) (b : Bytes) (hor : S.rs ≠ [] → S.os ≠ []) : Bd (c + 2) (S.begin b) := by
  have hx := h.xs
  by_cases hrs : S.rs = []
  · have e : S.rule = S := by unfold ST.rule; rw [if_pos hrs]
    unfold ST.begin; rw [e]
    refine ⟨by simp only []; omega, by simp; omega, ?_, by simp; omega⟩
    intro x hx'
    rcases List.mem_append.1 hx' with hx' | hx'
    · have := h.each x hx'; omega
    · simp only [List.mem_singleton] at hx'
      subst hx'; simp
  · obtain ⟨pre, o, h1, _⟩ := top_mem (hor hrs)
    obtain ⟨f1, f2, f3, f4⟩ := closed_os h1
    have e1 : S.rule.xs = S.closed.xs := by unfold ST.rule; rw [if_neg hrs]
    have e2 : S.rule.os = S.closed.os := by unfold ST.rule; rw [if_neg hrs]
    have e3 : S.rule.rs.length = S.rs.length := by
      unfold ST.rule; rw [if_neg hrs]; simp
      have : 0 < S.rs.length := List.length_pos_iff.2 hrs
      omega
    have hpre : pre = [] := by
      rw [h1] at hl; simp at hl; exact hl
    unfold ST.begin
    refine ⟨by simp only [e1, f2]; simp; omega, by simp only [e2, f1, hpre]; simp, ?_, by simp only [List.length_append, e3]; simp; omega⟩
    simp only [e2, f1, hpre]
    intro x hx'
    simp at hx'
    subst hx'; simp
end Thk
namespace Thk
def okSign (b : Bytes) : Prop := b = [] ∨ b = [38] ∨ b = [33]
/-- What holds of every state that is come to. -/
structure StOk (S : ST) : Prop where
  sg : okSign S.sign
  osg : ∀ o ∈ S.os, okSign o.sign
  may : S.may = true → ∃ tl k x, S.top.terms = tl ++ [k] ∧ S.xs[k]? = some x ∧ ((x.kind = 10 ∨ x.kind = 11) → x.parts ≠ [])
  ne : S.rs ≠ [] → S.os ≠ []
theorem StOk.zero : StOk S0 := ⟨.inl rfl, by simp [S0], by simp [S0], by simp [S0]⟩
/-- Behind a term. -/
theorem StOk.term {T : ST} {j : Nat} {sg : Bytes} {x : RE} (hne : T.os ≠ []) (hs : okSign T.sign) (ho : ∀ o ∈ T.os, okSign o.sign) (hx : T.xs[j]? = some x) (hk : (x.kind = 10 ∨ x.kind = 11) → x.parts ≠ []) : StOk (T.term j sg) := by
  obtain ⟨pre, o, h1, _⟩ := top_mem hne
  have hos := term_os T j sg h1
  have htop : (T.term j sg).top = { o with terms := o.terms ++ [if sg = [] then j else T.xs.length] } := by unfold ST.top; rw [hos, List.getLastD_concat]
  refine ⟨by rw [term_sign]; exact hs, ?_, ?_, by rw [hos]; simp⟩
  · rw [hos]
    intro y hy
    rcases List.mem_append.1 hy with hy | hy
    · exact ho y (by rw [h1]; simp [hy])
    · simp only [List.mem_singleton] at hy
      subst hy
      exact ho o (by rw [h1]; simp)
  · intro _
    rw [htop, term_xs]
    by_cases hsg : sg = []
    · simp only [hsg, if_true]
      exact ⟨o.terms, j, x, rfl, hx, hk⟩
    · simp only [hsg, if_false]
      exact ⟨o.terms, T.xs.length, wrapE (sgnKind sg) j, rfl, get_last, by simp [wrapE]⟩
theorem StOk.lay {S : ST} (h : StOk S) (hne : S.os ≠ []) {e : RE} (he : e.kind ≠ 10 ∧ e.kind ≠ 11) : StOk (S.lay e) :=
  StOk.term (x := e) hne (.inl rfl) h.osg (by simp [ST.add]) (by rintro (h' | h'); exact absurd h' he.1; exact absurd h' he.2)
theorem exprOf_kind (t : Tok) : (exprOf t).kind ≠ 10 ∧ (exprOf t).kind ≠ 11 := by
  unfold exprOf; split <;> simp
theorem StOk.begin {S : ST} (h : StOk S) (b : Bytes) (hs : S.sign = []) : StOk (S.begin b) := by
  have hr : okSign S.rule.sign ∧ ∀ o ∈ S.rule.os, okSign o.sign := by
    by_cases hrs : S.rs = []
    · have e : S.rule = S := by unfold ST.rule; rw [if_pos hrs]
      rw [e]; exact ⟨h.sg, h.osg⟩
    · obtain ⟨pre, o, h1, _⟩ := top_mem (h.ne hrs)
      obtain ⟨f1, f2, f3, f4⟩ := closed_os h1
      have e : S.rule.sign = S.closed.sign ∧ S.rule.os = S.closed.os := by unfold ST.rule; rw [if_neg hrs]; exact ⟨rfl, rfl⟩
      rw [e.1, e.2, f1, f4]
      exact ⟨h.sg, fun y hy => h.osg y (by rw [h1]; simp [hy])⟩
  refine ⟨hr.1, ?_, by simp [ST.begin], by simp [ST.begin]⟩
  intro y hy
  rcases List.mem_append.1 hy with hy | hy
  · exact hr.2 y hy
  · simp only [List.mem_singleton] at hy
    subst hy; exact .inl rfl
theorem behind_ok {S : ST} (h : StOk S) (hne : S.os ≠ []) (b : Bytes) : StOk (S.behind b) ∧ (S.behind b).os ≠ [] ∧ (S.behind b).rs = S.rs := by
  obtain ⟨pre, o, h1, h2⟩ := top_mem hne
  unfold ST.behind
  simp only []
  split
  · exact ⟨⟨h.sg, h.osg, by simp, fun _ => hne⟩, hne, rfl⟩
  · refine ⟨⟨h.sg, ?_, by simp, by simp [ST.setTop]⟩, by simp [ST.setTop], by simp [ST.setTop, ST.add]⟩
    simp only [ST.setTop, ST.add, h1, List.dropLast_concat]
    intro y hy
    rcases List.mem_append.1 hy with hy | hy
    · exact h.osg y (by rw [h1]; simp [hy])
    · simp only [List.mem_singleton] at hy
      subst hy
      rw [h2]
      exact h.osg o (by rw [h1]; simp)
/-- What a sign leaves. -/
theorem signs_ok {S S' : ST} {c : UInt8} {n : Nat} (h : StOk S) (hb : Bd n S) (hne : S.os ≠ []) (hrs : S.rs ≠ []) (hc : signB c = true) (hs : S.signs c = .ok S') : StOk S' ∧ Bd (n + 1) S' ∧ S'.os ≠ [] ∧ S'.rs = S.rs := by
  obtain ⟨pre, o, h1, h2⟩ := top_mem hne
  rcases sign9 hc with rfl | rfl | rfl | rfl | rfl | rfl | rfl | rfl | rfl
  · simp only [ST.signs] at hs
    by_cases hg : S.sign = []
    · simp [hg] at hs
      subst hs
      obtain ⟨f1, f2, f3, f4⟩ := slash_os h1
      refine ⟨⟨by simp only [f4]; exact h.sg, ?_, by simp, by simp only [f1]; simp⟩, hb.slash hne, by simp only [f1]; simp, by simp only [f3]⟩
      simp only [f1]
      intro y hy
      rcases List.mem_append.1 hy with hy | hy
      · exact h.osg y (by rw [h1]; simp [hy])
      · simp only [List.mem_singleton] at hy
        subst hy
        exact h.osg o (by rw [h1]; simp)
    · simp [hg] at hs
  · simp only [ST.signs] at hs
    by_cases hg : S.sign = []
    · simp [hg] at hs
      subst hs
      exact ⟨⟨.inr (.inl rfl), h.osg, by simp, fun _ => hne⟩, ⟨by have := hb.xs; simp only []; omega, hb.os, fun x hx => by have := hb.each x hx; omega, hb.rs⟩, hne, rfl⟩
    · simp [hg] at hs
  · simp only [ST.signs] at hs
    by_cases hg : S.sign = []
    · simp [hg] at hs
      subst hs
      exact ⟨⟨.inr (.inr rfl), h.osg, by simp, fun _ => hne⟩, ⟨by have := hb.xs; simp only []; omega, hb.os, fun x hx => by have := hb.each x hx; omega, hb.rs⟩, hne, rfl⟩
    · simp [hg] at hs
  · by_cases hm : S.may = true
    · have e : S' = S.behind [63] := by simp [ST.signs, hm] at hs; exact hs.symm
      subst e
      obtain ⟨g1, g2, g3⟩ := behind_ok h hne [63]
      exact ⟨g1, hb.behind hne [63], g2, g3⟩
    · simp [ST.signs, hm] at hs
  · by_cases hm : S.may = true
    · have e : S' = S.behind [42] := by simp [ST.signs, hm] at hs; exact hs.symm
      subst e
      obtain ⟨g1, g2, g3⟩ := behind_ok h hne [42]
      exact ⟨g1, hb.behind hne [42], g2, g3⟩
    · simp [ST.signs, hm] at hs
  · by_cases hm : S.may = true
    · have e : S' = S.behind [43] := by simp [ST.signs, hm] at hs; exact hs.symm
      subst e
      obtain ⟨g1, g2, g3⟩ := behind_ok h hne [43]
      exact ⟨g1, hb.behind hne [43], g2, g3⟩
    · simp [ST.signs, hm] at hs
  · by_cases hd : 6 < S.os.length
    · simp [ST.signs, hd] at hs
    · have e : S' = { S with os := S.os ++ [⟨[], [], S.sign⟩], sign := [], may := false } := by simp [ST.signs, hd] at hs; exact hs.symm
      subst e
      refine ⟨⟨.inl rfl, ?_, by simp, by simp⟩, hb.opened (by omega) _, by simp, rfl⟩
      intro y hy
      rcases List.mem_append.1 hy with hy | hy
      · exact h.osg y hy
      · simp only [List.mem_singleton] at hy
        subst hy; exact h.sg
  · by_cases hd : S.sign = [] ∧ 2 ≤ S.os.length
    · have e : S' = S.closed.term (S.xs.length + 1) S.top.sign := by simp [ST.signs, hd] at hs; exact hs.symm
      subst e
      obtain ⟨f1, f2, f3, f4⟩ := closed_os h1
      have hp : pre ≠ [] := by
        intro e
        have := hd.2
        rw [h1, e] at this; simp at this
      refine ⟨StOk.term (x := ⟨6, [], [], 0, o.seqs ++ [S.xs.length]⟩) (by rw [f1]; exact hp) (by rw [f4]; exact h.sg) (by rw [f1]; exact fun y hy => h.osg y (by rw [h1]; simp [hy])) (by rw [f2]; simp) (by simp), hb.closed hd.2 _ _, ?_, by rw [term_rs, f3]⟩
      obtain ⟨pre', o', h1', _⟩ := top_mem (S := S.closed) (by rw [f1]; exact hp)
      rw [term_os _ _ _ h1']; simp
    · simp [ST.signs, hd] at hs
  · have e : S' = S.lay ⟨3, [], [], 0, []⟩ := by simp [ST.signs] at hs; exact hs.symm
    subst e
    refine ⟨h.lay hne (by simp), hb.lay hne _, ?_, ?_⟩
    · unfold ST.lay
      rw [term_os (({ S with sign := [] } : ST).add ⟨3, [], [], 0, []⟩) _ _ (pre := pre) (o := o) h1]; simp
    · unfold ST.lay; rw [term_rs]; rfl
theorem signs_err {S : ST} {c : UInt8} {er : Nat} (h : S.signs c = .error er) : er = 2 ∨ er = 3 := by
  unfold ST.signs at h
  repeat' split at h
  all_goals first | (cases h; simp; done) | cases h
end Thk
namespace Thk
/-- Its parts are among the first n. -/
def RE.Fit (n : Nat) (e : RE) : Prop := (∀ p ∈ e.parts, p < n) ∧ (6 < e.kind → ∃ p, e.parts = [p]) ∧ e.rule = 0
theorem RE.Fit.mono {n m : Nat} {e : RE} (h : e.Fit n) (hm : n ≤ m) : e.Fit m := ⟨fun p hp => Nat.lt_of_lt_of_le (h.1 p hp) hm, h.2⟩
/-- Every number of an expression is one. -/
structure Wx (S : ST) : Prop where
  ex : ∀ e ∈ S.xs, e.Fit S.xs.length
  os : ∀ o ∈ S.os, (∀ k ∈ o.terms, k < S.xs.length) ∧ ∀ k ∈ o.seqs, k < S.xs.length
  rs : ∀ r ∈ S.rs.dropLast, r.2 < S.xs.length
theorem Wx.zero : Wx S0 := ⟨by simp [S0], by simp [S0], by simp [S0]⟩
theorem Wx.top {S : ST} (h : Wx S) : (∀ k ∈ S.top.terms, k < S.xs.length) ∧ ∀ k ∈ S.top.seqs, k < S.xs.length := by
  by_cases hne : S.os = []
  · simp [ST.top, hne]
  · obtain ⟨pre, o, h1, h2⟩ := top_mem hne
    rw [h2]; exact h.os o (by rw [h1]; simp)
theorem Wx.add {S : ST} (h : Wx S) {e : RE} (he : e.Fit (S.xs.length + 1)) : Wx (S.add e) := by
  have hl : (S.add e).xs.length = S.xs.length + 1 := by simp [ST.add]
  refine ⟨?_, ?_, ?_⟩
  · rw [hl]
    intro x hx
    rcases List.mem_append.1 hx with hx | hx
    · exact (h.ex x hx).mono (by omega)
    · simp only [List.mem_singleton] at hx
      subst hx; exact he
  · rw [hl]
    intro o ho
    have := h.os o ho
    exact ⟨fun k hk => by have := this.1 k hk; omega, fun k hk => by have := this.2 k hk; omega⟩
  · rw [hl]
    intro r hr
    have := h.rs r hr
    omega
theorem Wx.setTop {S : ST} (h : Wx S) {o : OP} (h1 : ∀ k ∈ o.terms, k < S.xs.length) (h2 : ∀ k ∈ o.seqs, k < S.xs.length) : Wx (S.setTop o) := by
  refine ⟨h.ex, ?_, h.rs⟩
  intro x hx
  rcases List.mem_append.1 hx with hx | hx
  · exact h.os x (List.dropLast_subset _ hx)
  · simp only [List.mem_singleton] at hx
    subst hx; exact ⟨h1, h2⟩
theorem Wx.may {S : ST} (h : Wx S) (m : Bool) : Wx { S with may := m } := ⟨h.ex, h.os, h.rs⟩
theorem Wx.sgn {S : ST} (h : Wx S) (m : Bytes) : Wx { S with sign := m } := ⟨h.ex, h.os, h.rs⟩
theorem Wx.push {S : ST} (h : Wx S) {k : Nat} (hk : k < S.xs.length) : Wx (S.push k) := by
  refine Wx.may (h.setTop (o := { S.top with terms := S.top.terms ++ [k] }) ?_ h.top.2) true
  intro x hx
  rcases List.mem_append.1 hx with hx | hx
  · exact h.top.1 x hx
  · simp only [List.mem_singleton] at hx
    subst hx; exact hk
theorem wrapE_fit {n k e : Nat} (h : e < n) : (wrapE k e).Fit n := ⟨by intro p hp; simp [wrapE] at hp; omega, fun _ => ⟨e, rfl⟩, rfl⟩
theorem Wx.term {S : ST} (h : Wx S) {k : Nat} (hk : k < S.xs.length) (sg : Bytes) : Wx (S.term k sg) := by
  unfold ST.term
  split
  · exact h.push hk
  · exact (h.add (wrapE_fit (by omega))).push (by simp [ST.add])
theorem Wx.lay {S : ST} (h : Wx S) {e : RE} (he : e.Fit (S.xs.length + 1)) : Wx (S.lay e) := by
  unfold ST.lay
  exact Wx.term ((h.sgn []).add he) (by simp [ST.add]) _
theorem exprOf_fit (t : Tok) (n : Nat) : (exprOf t).Fit n := by
  unfold exprOf RE.Fit
  split <;> simp
theorem Wx.behind {S : ST} (h : Wx S) (b : Bytes) : Wx (S.behind b) := by
  unfold ST.behind
  simp only []
  split
  · rename_i hk
    by_cases hlt : S.top.terms.getLastD 0 < S.xs.length
    · have hx : S.xs.getD (S.top.terms.getLastD 0) RE.z = S.xs[S.top.terms.getLastD 0] := by rw [List.getD_eq_getElem?_getD, List.getElem?_eq_getElem hlt]; rfl
      rw [hx] at hk ⊢
      have hf := h.ex _ (List.getElem_mem hlt)
      obtain ⟨p, hp⟩ := hf.2.1 (by omega)
      have hpl := hf.1 p (by rw [hp]; simp)
      refine ⟨?_, ?_, ?_⟩
      · simp only [List.length_set, List.length_append, List.length_cons, List.length_nil]
        intro y hy
        rcases List.mem_or_eq_of_mem_set hy with hy | hy
        · rcases List.mem_append.1 hy with hy | hy
          · exact (h.ex y hy).mono (by omega)
          · simp only [List.mem_singleton] at hy
            subst hy
            exact wrapE_fit (by rw [hp]; simp; omega)
        · subst hy
          exact ⟨by intro q hq; simp at hq; omega, fun _ => ⟨_, rfl⟩, hf.2.2⟩
      · simp only [List.length_set, List.length_append, List.length_cons, List.length_nil]
        intro o ho
        have := h.os o ho
        exact ⟨fun k hk => by have := this.1 k hk; omega, fun k hk => by have := this.2 k hk; omega⟩
      · simp only [List.length_set, List.length_append, List.length_cons, List.length_nil]
        intro r hr
        have := h.rs r hr
        omega
    · have hx : S.xs.getD (S.top.terms.getLastD 0) RE.z = RE.z := by
        rw [List.getD_eq_getElem?_getD, List.getElem?_eq_none (by omega)]; rfl
      rw [hx] at hk
      simp [RE.z] at hk
  · refine Wx.may (S := (S.add (wrapE (sgnKind b) (S.top.terms.getLastD 0))).setTop { S.top with terms := S.top.terms.dropLast ++ [S.xs.length] }) ((h.add (wrapE_fit ?_)).setTop ?_ ?_) false
    · by_cases hn : S.top.terms = []
      · rw [hn]; simp
      · obtain ⟨l, a, hla⟩ : ∃ l a, S.top.terms = l ++ [a] := ⟨_, _, (List.dropLast_concat_getLast hn).symm⟩
        have := h.top.1 a (by rw [hla]; simp)
        rw [hla, List.getLastD_concat]; omega
    · intro k hk
      rcases List.mem_append.1 hk with hk | hk
      · have := h.top.1 k (List.dropLast_subset _ hk)
        simp [ST.add]; omega
      · simp only [List.mem_singleton] at hk
        subst hk; simp [ST.add]
    · intro k hk
      have := h.top.2 k hk
      simp [ST.add]; omega
theorem Wx.slash {S : ST} (h : Wx S) : Wx S.slash := by
  unfold ST.slash
  refine (h.add (e := ⟨5, [], [], 0, S.top.terms⟩) ⟨fun p hp => by have := h.top.1 p hp; omega, by simp, rfl⟩).setTop (by simp) ?_
  intro k hk
  rcases List.mem_append.1 hk with hk | hk
  · have := h.top.2 k hk
    simp [ST.add]; omega
  · simp only [List.mem_singleton] at hk
    subst hk; simp [ST.add]
theorem Wx.less {S : ST} (h : Wx S) {os : List OP} (ho : ∀ o ∈ os, o ∈ S.os ∨ (o.terms = [] ∧ o.seqs = [])) : Wx { S with os := os } := by
  refine ⟨h.ex, ?_, h.rs⟩
  intro o h1
  rcases ho o h1 with h2 | ⟨h2, h3⟩
  · exact h.os o h2
  · rw [h2, h3]; simp
theorem slash_len (S : ST) : S.slash.xs.length = S.xs.length + 1 := by simp [ST.slash, ST.setTop, ST.add]
theorem Wx.closed {S : ST} (h : Wx S) : Wx S.closed := by
  unfold ST.closed
  refine Wx.add (h.slash.less (os := S.os.dropLast) ?_) ⟨?_, by simp, rfl⟩
  · intro o ho
    left
    show o ∈ S.os.dropLast ++ _
    exact List.mem_append_left _ ho
  · simp only [slash_len]
    intro p hp
    rcases List.mem_append.1 hp with hp | hp
    · have := h.top.2 p hp; omega
    · simp only [List.mem_singleton] at hp
      omega
theorem closed_len (S : ST) : S.closed.xs.length = S.xs.length + 2 := by simp [ST.closed, ST.slash, ST.setTop, ST.add]
/-- Behind a rule's end every body is one. -/
theorem Wx.rule {S : ST} (h : Wx S) : Wx S.rule ∧ ∀ r ∈ S.rule.rs, r.2 < S.rule.xs.length := by
  unfold ST.rule
  split
  · rename_i hr
    exact ⟨h, by rw [hr]; simp⟩
  · have hc := h.closed
    refine ⟨⟨hc.ex, hc.os, ?_⟩, ?_⟩
    · simp only [List.dropLast_concat, closed_len]
      intro r hr
      have := h.rs r hr; omega
    · simp only [closed_len]
      intro r hr
      rcases List.mem_append.1 hr with hr | hr
      · have := h.rs r hr; omega
      · simp only [List.mem_singleton] at hr
        subst hr; simp
theorem Wx.begin {S : ST} (h : Wx S) (b : Bytes) : Wx (S.begin b) := by
  obtain ⟨h1, h2⟩ := h.rule
  refine ⟨h1.ex, ?_, ?_⟩
  · intro o ho
    rcases List.mem_append.1 ho with ho | ho
    · exact h1.os o ho
    · simp only [List.mem_singleton] at ho
      subst ho; simp
  · simp only [ST.begin, List.dropLast_concat]
    exact h2
theorem Wx.signs {S S' : ST} (h : Wx S) {c : UInt8} (hs : S.signs c = .ok S') : Wx S' := by
  unfold ST.signs at hs
  repeat' split at hs
  all_goals first
    | cases hs; done
    | (cases hs; exact h.slash.may false)
    | (cases hs; exact ⟨h.ex, h.os, h.rs⟩)
    | (cases hs; exact h.behind _)
    | (cases hs; refine ⟨h.ex, ?_, h.rs⟩; intro o ho; rcases List.mem_append.1 ho with ho | ho; exact h.os o ho; simp only [List.mem_singleton] at ho; subst ho; simp)
    | (cases hs; exact h.closed.term (by rw [closed_len]; omega) _)
    | (cases hs; exact h.lay ⟨by simp, by simp, rfl⟩)
theorem run_wx : ∀ (n : Nat) (ts : List Tok), ts.length ≤ n → ∀ S S', Wx S → run ts S = .ok S' → Wx S' ∧ ∀ r ∈ S'.rs, r.2 < S'.xs.length := by
  intro n
  induction n with
  | zero =>
    intro ts hl S S' _ hr
    have : ts = [] := List.length_eq_zero_iff.1 (by omega)
    subst this
    simp [run] at hr
  | succ n ih =>
    intro ts hl S S' h hr
    cases ts with
    | nil => simp [run] at hr
    | cons t rest =>
      simp at hl
      rw [run.eq_def] at hr
      simp only [] at hr
      cases hk : t.kind with
      | bad => simp only [hk] at hr; cases hr
      | fin =>
        simp only [hk] at hr
        split at hr
        · cases hr
        · cases hr; exact h.rule
      | arrow => simp only [hk] at hr; cases hr
      | sign c =>
        simp only [hk] at hr
        split at hr
        · cases hr
        · split at hr
          · cases hr
          · rename_i S1 hs
            exact ih rest hl S1 S' (h.signs hs) hr
      | lit =>
        simp only [hk] at hr
        split at hr
        · cases hr
        · exact ih rest hl _ S' (h.lay (exprOf_fit _ _)) hr
      | cls =>
        simp only [hk] at hr
        split at hr
        · cases hr
        · exact ih rest hl _ S' (h.lay (exprOf_fit _ _)) hr
      | name =>
        simp only [hk] at hr
        cases rest with
        | nil => simp at hr
        | cons m rest' =>
          simp only [] at hr
          simp at hl
          split at hr
          · split at hr
            · cases hr
            · split at hr
              · cases hr
              · exact ih rest' (by omega) _ S' (h.begin _) hr
          · split at hr
            · cases hr
            · exact ih (m :: rest') (by simp; omega) _ S' (h.lay (exprOf_fit _ _)) hr
end Thk
namespace Go.Proofs.YtiganlkabilblaaGreatDoor
open Thk
/-- Each with its own. -/
def AllR {β : Type} (R : Nat → β → Prop) : List Nat → List β → Prop
  | [], [] => True
  | k :: ks, b :: bs => R k b ∧ AllR R ks bs
  | _, _ => False
theorem AllR.len {β : Type} {R : Nat → β → Prop} : ∀ {ks : List Nat} {bs : List β}, AllR R ks bs → bs.length = ks.length
  | [], [], _ => rfl
  | _ :: _, _ :: _, h => by simp [AllR.len h.2]
  | [], _ :: _, h => h.elim
  | _ :: _, [], h => h.elim
theorem AllR.get {β : Type} {R : Nat → β → Prop} : ∀ {ks : List Nat} {bs : List β}, AllR R ks bs → ∀ i (h1 : i < ks.length) (h2 : i < bs.length), R ks[i] bs[i]
  | [], [], _, i, h1, _ => by simp at h1
  | _ :: _, _ :: _, h, 0, _, _ => h.1
  | _ :: _, _ :: _, h, i + 1, h1, h2 => AllR.get h.2 i (by simpa using h1) (by simpa using h2)
  | [], _ :: _, h, _, _, _ => h.elim
  | _ :: _, [], h, _, _, _ => h.elim
/-- Does it hold of the expression itself? (u: it is a name of no rule; else: it repeats what may take nothing.) -/
def hitX (names : List Bytes) (l : List Bool) (u : Bool) (e : RE) : Bool :=
  (u && e.kind == 4 && !names.contains e.text) || (!u && (e.kind == 8 || e.kind == 9) && l.getD (e.parts.headD 0) false)
def hitP (names : List Bytes) (u : Bool) : Piece → Bool
  | .name b => u && !names.contains b
  | _ => false
def HT (names : List Bytes) (E : List Bool) (u : Bool) : Term → Bool := if u then unkT names else loopT (Eb names E)
def StepW (xs : List RE) (names : List Bytes) (l : List Bool) (u : Bool) (R : Nat → Bool → Prop) : Prop :=
  ∀ k e bs, xs[k]? = some e → AllR R e.parts bs → R k (hitX names l u e || bs.any id)
/-- What l tells of pieces. -/
def LP (xs : List RE) (names : List Bytes) (E l : List Bool) : Prop := (∀ j p, DenP xs j p → someP (unkT names) p = false → (∀ b, p = .name b → names.contains b = true) → l.getD j false = emptyP (Eb names E) p) ∧ ∀ j t, DenT xs j t → someT (unkT names) t = false → l.getD j false = emptyT (Eb names E) t
theorem lp_of {xs : List RE} {rs : List (Bytes × Nat)} {g : List Rule} {l : List Bool} (hc : CloL xs (rs.map (·.1)) (rs.map (·.2)) l) (hf : FndL xs (rs.map (·.1)) g l) (hE : Closed (rs.map (·.1)) g (Eof (rs.map (·.2)) l)) : LP xs (rs.map (·.1)) (Eof (rs.map (·.2)) l) l := by
  refine ⟨?_, ?_⟩
  · intro j p hd hu hn
    rw [Bool.eq_iff_iff]
    exact ⟨fun h => (hf _ hE j h).1 p hd, fun h => cloP hc (by simp) p hd hu hn h⟩
  · intro j t hd hu
    rw [Bool.eq_iff_iff]
    exact ⟨fun h => (hf _ hE j h).2.1 t hd, fun h => cloT hc (by simp) t hd hu h⟩
theorem free_name {names : List Bytes} {a b : UInt8} {p : Piece} (h : someT (unkT names) (.mk a p b) = false) : someP (unkT names) p = false ∧ ∀ b', p = .name b' → names.contains b' = true := by
  simp only [someT, Bool.or_eq_false_iff] at h
  refine ⟨h.2, ?_⟩
  intro b' hp
  subst hp
  have := h.1
  simpa [unkT, Term.piece] using this
mutual
theorem wiP {xs : List RE} {names : List Bytes} {E l : List Bool} {u : Bool} {R : Nat → Bool → Prop} (hl : u = false → LP xs names E l) (hR : StepW xs names l u R) : ∀ (p : Piece) {k : Nat}, DenP xs k p → (u = false → someP (unkT names) p = false) → R k (hitP names u p || someP (HT names E u) p)
  | .name b, k => by
    intro h _
    simp only [DenP] at h
    have := hR k _ [] h (by simp [AllR])
    simpa [hitX, hitP, someP] using this
  | .lit b, k => by
    intro h _
    simp only [DenP] at h
    have := hR k _ [] h (by simp [AllR])
    simpa [hitX, hitP, someP] using this
  | .cls b, k => by
    intro h _
    simp only [DenP] at h
    have := hR k _ [] h (by simp [AllR])
    simpa [hitX, hitP, someP] using this
  | .any, k => by
    intro h _
    simp only [DenP] at h
    have := hR k _ [] h (by simp [AllR])
    simpa [hitX, hitP, someP] using this
  | .group c, k => by
    intro h hu
    simp only [DenP] at h
    obtain ⟨qs, h1, h2⟩ := h
    simp only [someP] at hu
    obtain ⟨bs, h3, h4⟩ := wiC hl hR c h2 hu
    have := hR k _ bs h1 h3
    rw [h4] at this
    simpa [hitX, hitP, someP] using this
theorem wiT {xs : List RE} {names : List Bytes} {E l : List Bool} {u : Bool} {R : Nat → Bool → Prop} (hl : u = false → LP xs names E l) (hR : StepW xs names l u R) : ∀ (t : Term) {k : Nat}, DenT xs k t → (u = false → someT (unkT names) t = false) → R k (someT (HT names E u) t)
  | .mk a p b, k => by
    intro h hu
    simp only [DenT] at h
    obtain ⟨i, j, h1, h2, h3, h4, h5⟩ := h
    have hj := wiP hl hR p h3 (fun e => (free_name (hu e)).1)
    have hi : R i (someT (HT names E u) (.mk a p b)) := by
      by_cases hb : b = 0
      · rw [if_pos hb] at h2
        subst h2
        have key : someT (HT names E u) (.mk a p b) = (hitP names u p || someP (HT names E u) p) := by
          cases u with
          | true => cases p <;> simp [someT, HT, hitP, unkT, Term.piece, someP]
          | false => cases p <;> simp [someT, HT, hitP, loopT, Term.behind, hb]
        rw [key]; exact hj
      · rw [if_neg hb] at h2
        have hq := hR i _ [_] h2 ⟨hj, trivial⟩
        have key : someT (HT names E u) (.mk a p b) = (hitX names l u (wrapE (sgnKind [b]) j) || [hitP names u p || someP (HT names E u) p].any id) := by
         cases u with
         | true => cases p <;> simp [someT, HT, hitP, unkT, Term.piece, someP, hitX, wrapE, sgnKind] <;> (repeat' split) <;> simp
         | false =>
          have hlj := (hl rfl).1 j p h3 (free_name (hu rfl)).1 (free_name (hu rfl)).2
          have hP : hitP names false p = false := by cases p <;> simp [hitP]
          rcases h4 with rfl | rfl | rfl | rfl
          · exact absurd rfl hb
          · simp [someT, HT, loopT, Term.behind, Term.piece, hitX, wrapE, sgnKind, hP]
          · simp [someT, HT, loopT, Term.behind, Term.piece, hitX, wrapE, sgnKind, hP, ← hlj]
          · simp [someT, HT, loopT, Term.behind, Term.piece, hitX, wrapE, sgnKind, hP, ← hlj]
        rw [key]; exact hq
    by_cases ha : a = 0
    · rw [if_pos ha] at h1
      subst h1; exact hi
    · rw [if_neg ha] at h1
      have := hR k _ [_] h1 ⟨hi, trivial⟩
      rcases h5 with rfl | rfl | rfl
      · exact absurd rfl ha
      · simpa [hitX, wrapE, sgnKind] using this
      · simpa [hitX, wrapE, sgnKind] using this
theorem wiS {xs : List RE} {names : List Bytes} {E l : List Bool} {u : Bool} {R : Nat → Bool → Prop} (hl : u = false → LP xs names E l) (hR : StepW xs names l u R) : ∀ (s : List Term) {ks : List Nat}, DenS xs ks s → (u = false → someS (unkT names) s = false) → ∃ bs, AllR R ks bs ∧ bs.any id = someS (HT names E u) s
  | [], ks => by
    intro h _
    simp only [DenS] at h
    subst h
    exact ⟨[], trivial, by simp [someS]⟩
  | t :: s, ks => by
    intro h hu
    simp only [DenS] at h
    obtain ⟨k, ks', rfl, h1, h2⟩ := h
    have hu1 : u = false → someT (unkT names) t = false ∧ someS (unkT names) s = false := fun e => by have := hu e; simpa only [someS, Bool.or_eq_false_iff] using this
    obtain ⟨bs, h3, h4⟩ := wiS hl hR s h2 (fun e => (hu1 e).2)
    exact ⟨_ :: bs, ⟨wiT hl hR t h1 (fun e => (hu1 e).1), h3⟩, by simp [someS, h4]⟩
theorem wiC {xs : List RE} {names : List Bytes} {E l : List Bool} {u : Bool} {R : Nat → Bool → Prop} (hl : u = false → LP xs names E l) (hR : StepW xs names l u R) : ∀ (c : List (List Term)) {qs : List Nat}, DenC xs qs c → (u = false → someC (unkT names) c = false) → ∃ bs, AllR R qs bs ∧ bs.any id = someC (HT names E u) c
  | [], qs => by
    intro h _
    simp only [DenC] at h
    subst h
    exact ⟨[], trivial, by simp [someC]⟩
  | s :: c, qs => by
    intro h hu
    simp only [DenC] at h
    obtain ⟨q, qs', ks, rfl, h1, h2, h3⟩ := h
    have hu1 : u = false → someS (unkT names) s = false ∧ someC (unkT names) c = false := fun e => by have := hu e; simpa only [someC, Bool.or_eq_false_iff] using this
    obtain ⟨bs, h4, h5⟩ := wiS hl hR s h2 (fun e => (hu1 e).1)
    obtain ⟨cs, h6, h7⟩ := wiC hl hR c h3 (fun e => (hu1 e).2)
    refine ⟨_ :: cs, ⟨hR q _ bs h1 h4, h6⟩, ?_⟩
    simp [someC, h7, h5, hitX]
 end
theorem markL_get (names : List Bytes) (j : Nat) : ∀ (l : List Bytes) (B : List Bool), j < B.length → (markL names B l).getD j false = (B.getD j false || (l.map (idx0 names)).contains j)
  | [], B, _ => by simp [markL]
  | b :: l, B, hj => by
    show (markL names (B.set (idx0 names b) true) l).getD j false = _
    rw [markL_get names j l _ (by simpa using hj)]
    simp only [List.getD_eq_getElem?_getD, List.getElem?_set, List.map_cons, List.contains_cons]
    by_cases h : idx0 names b = j
    · subst h; simp [hj]
    · rw [if_neg h]
      have : (j == idx0 names b) = false := by simpa using fun e => h e.symm
      rw [this]; simp
theorem dirM_iff {names : List Bytes} {E : List Bool} {g : List Rule} {i j : Nat} (hi : i < g.length) (hn : 0 < names.length) : dirM names E g i j = true ↔ j ∈ (firstC (Eb names E) g[i].choice).map (idx0 names) := by
  unfold dirM
  simp only [List.getElem?_eq_getElem hi, Option.map_some, Option.getD_some]
  by_cases hj : j < names.length
  · rw [markL_get _ _ _ _ (by simpa using hj)]
    simp [hj]
  · constructor
    · intro h
      rw [List.getD_eq_getElem?_getD, List.getElem?_eq_none (by rw [markL_len]; simp; omega)] at h
      cases h
    · intro h
      obtain ⟨b, _, hb⟩ := List.mem_map.1 h
      have := idx0_lt b hn
      omega
end Go.Proofs.YtiganlkabilblaaGreatDoor
