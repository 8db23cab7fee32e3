import Derived.Test.YtgfejacimdmkpaaDoorG10
set_option linter.all false
namespace Go.Proofs.YtgfejacimdmkpaaDoor
open Go.RowKit

def preC (c : Thk.Choice) : Thk.Res Thk.Choice → Thk.Res Thk.Choice := Thk.Res.map (c ++ ·)

/-- What the loop of choice keeps. -/
structure ChRel (w : World) (rb tb tc : Nat) (ps : List (Thk.Tok × Value)) (n d k : Nat) (c : Thk.Choice) (us : List Value) (v : Value) (wr : World) : Prop where
  le : n ≤ k
  lt : k < ps.length
  len : c.length ≤ k - n
  own : wr.ownsRow w.heap.size 133 1 v c.length us
  seqs : RSeqs wr (fun g => w.heap.size ≤ g ∧ some g ≠ v.ownBlock) c us
  rd : Rd wr rb tb tc ps k d
  kp : Kp rb w.heap.size w wr
  goes : ∀ r, Thk.PChoice d (tsOf ps k) r → Thk.PChoice d (tsOf ps n) (preC c r)

/-- One sequence more. -/
theorem ChRel.push {w : World} {rb tb tc : Nat} {ps : List (Thk.Tok × Value)} {n d k : Nat} {c : Thk.Choice} {us : List Value} {v : Value} {wr : World} (h : ChRel w rb tb tc ps n d k c us v wr) (hrl : rb < w.heap.size)
    {s : Thk.Seq} {x : Value} {k' : Nat} {w1 w5 : World} {v' : Value} {O1 : Obj}
    (hK : Kp rb wr.heap.size wr w1) (hP : RSeq w1 (wr.heap.size ≤ ·) s x) (hR : Rd w1 rb tb tc ps k' d)
    (ho : w5.ownsRow w.heap.size 133 1 v' (c.length + 1) (us ++ [x])) (hg : (w1.alloc O1).grownBy w5 v.ownBlock)
    (hat : v'.ownBlock = v.ownBlock ∨ v'.ownBlock = some (w1.heap.size + 1)) :
    w5.ownsRow w.heap.size 133 1 v' (c ++ [s]).length (us ++ [x]) ∧ RSeqs w5 (fun g => w.heap.size ≤ g ∧ some g ≠ v'.ownBlock) (c ++ [s]) (us ++ [x]) ∧ Rd w5 rb tb tc ps k' d ∧ Kp rb w.heap.size w w5 := by
  have hsz := hK.size
  have hwr := h.kp.size
  have hown1 : w1.ownsRow w.heap.size 133 1 v c.length us := own_kp h.own h.rd.1 (by decide) hK
  have hbl := grown1_blocks hg
  have hgs := hg.size
  simp at hgs
  have hvb : ∀ g, v.ownBlock = some g → g < wr.heap.size := fun g hg => (h.own.lt g hg).2
  have hA : ∀ g, g < w1.heap.size → w.heap.size ≤ g → some g ≠ v.ownBlock → (w.heap.size ≤ g ∧ some g ≠ v'.ownBlock) := by
    intro g h1 h2 h3
    refine ⟨h2, ?_⟩
    rcases hat with e | e <;> rw [e]
    · exact h3
    · simp; omega
  refine ⟨by simpa using ho, ?_, ?_, ?_⟩
  · refine RSeqs.snoc ?_ ?_
    · have p1 : RSeq w1 (fun g => wr.heap.size ≤ g ∧ g < w1.heap.size) s x := hP.mono (fun g h1 h2 => ⟨h2, h1⟩)
      have p2 : RSeq w5 (fun g => wr.heap.size ≤ g ∧ g < w1.heap.size) s x := p1.kept (sm_but hown1 hbl (by decide) (fun g hg e => by have := hvb g e.symm; omega))
      exact p2.mono (fun g _ hg => hA g hg.2 (by omega) (fun e => by have := hvb g e.symm; omega))
    · have p0 := RSeqs.kept (sm_kp (A := fun g => w.heap.size ≤ g ∧ some g ≠ v.ownBlock) h.rd.1 hK (fun g hg => by omega)) c us h.seqs
      have p1 : RSeqs w1 (fun g => (w.heap.size ≤ g ∧ some g ≠ v.ownBlock) ∧ g < w1.heap.size) c us := RSeqs.mono (fun g h1 h2 => ⟨h2, h1⟩) c us p0
      have p2 : RSeqs w5 (fun g => (w.heap.size ≤ g ∧ some g ≠ v.ownBlock) ∧ g < w1.heap.size) c us := RSeqs.kept (sm_but hown1 hbl (by decide) (fun g hg => hg.1.2)) c us p1
      exact RSeqs.mono (fun g _ hg => hA g hg.2 hg.1.1 hg.1.2) c us p2
  · exact hR.but hown1 hbl (by decide) (by decide) (by decide)
  · exact (((h.kp.trans (hK.mono hwr))).alloc (by omega) O1).grown hg (by simp; omega) (fun g hg' => (h.own.lt g hg').1)

theorem Tryd.infoSeq : (Tryd.prog.info? 133).map (fun i => (i.zero, i.size, i.bytes)) = some (some (.slice none 0 0), 1, 24) := by kernel_rfl

theorem kindI_slash {k : Thk.TK} (hk : okKind k) : (k = .sign 47 ∧ kindI k = 47) ∨ (k ≠ .sign 47 ∧ (kindI k != 47) = true) := by
  by_cases h : k = .sign 47
  · left; subst h; exact ⟨rfl, rfl⟩
  · right
    refine ⟨h, ?_⟩
    rw [bne_iff_ne]
    intro e
    exact h (kindI_sign hk (c := 47) (by decide) (by rw [e]; rfl))

set_option maxHeartbeats 4000000 in
set_option maxRecDepth 100000 in
theorem choice_step (rb tb tc : Nat) (ps : List (Thk.Tok × Value)) (hg : GoodP ps) (R : Nat) (hC : ∀ R', R' < R → ChoiceC rb tb tc ps R') : ChoiceC rb tb tc ps R := by
  intro w n d h hn hR hd
  obtain ⟨i0, hi, hz0, hz1, hz2⟩ := info_parts Tryd.infoSeq
  have hrl := h.lt
  have hl := h.2.2.1
  have hsq := fun w' k (hr : Rd w' rb tb tc ps k d) (hk : k < ps.length) (hnk : n ≤ k) => sequence_any w' rb tb tc ps k d hr hg hk hd R (by omega) hC
  have H : Hid (Rd w rb tb tc ps n d) := h
  clear h hC
  go_enter Tryd.func54, Tryd.ntmps54
  go_wp2_with fail
  go_loopg [4] (ps.length - n) (fun g v wr => ∃ k c us, g = ps.length - k ∧ ChRel w rb tb tc ps n d k c us v wr)
  case atStart =>
    refine ⟨n, [], [], rfl, Nat.le_refl _, hn, by simp, World.ownsRow_nil _ _ _ _, by simp [RSeqs], H.out, Kp.refl _ _ _, ?_⟩
    intro r hr; cases r <;> exact hr
  case round =>
    obtain ⟨k, c, us, rfl, hS⟩ := hrel
    have hs := hsq wr k hS.rd hS.lt hS.le
    have hkl := hS.lt
    have hnk := hS.le
    have hcl := hS.len
    have hwr := hS.kp.size
    have HS : Hid (ChRel w rb tb tc ps n d k c us u4 wr) := hS
    have hown := hS.own
    clear hS hsq
    go_wp2_with fail
    refine hs.mono ?_
    rintro e w1 ⟨res, hP, hK1, hE⟩
    have hsz1 := hK1.size
    have HP : Hid (Thk.PSeq d (tsOf ps k) res) := hP
    have HK1 : Hid (Kp rb wr.heap.size wr w1) := hK1
    clear hs hP hK1
    cases res with
    | err er p =>
      obtain ⟨rfl, n', hR1⟩ := hE
      simp only [faultV]
      have H1 : Hid (Rd w1 rb tb tc ps n' d) := hR1
      clear hR1 hown
      go_wp2_with fail
      go_ret2
      exact ⟨_, HS.out.goes _ (.err HP.out), HS.out.kp.trans (HK1.out.mono hwr), rfl, n', H1.out⟩
    | ok s rest =>
      obtain ⟨k', sa, sl, sc, rfl, hle, hk', rfl, hRS, hR1⟩ := hE
      have HRS : Hid (RSeq w1 (wr.heap.size ≤ ·) s (.slice sa sl sc)) := hRS
      have H1 : Hid (Rd w1 rb tb tc ps k' d) := hR1
      have hown1 : w1.ownsRow w.heap.size 133 1 u4 c.length us := own_kp hown HS.out.rd.1 (by decide) HK1.out
      clear hRS hR1 hown
      go_wp2_with (first | (at_builtin; refine wpList_append_own_at _ rfl _ _ 88 rfl (w.heap.size) 133 i0 _ 1 24 Tryd.underlying88 hi hz0 hz1 hz2 rfl (by decide) _ _ _ rfl (hown1.alloc _) ⟨w1.heap.size, 0, none⟩ 1 1 [.slice sa sl sc] rfl rfl ?c1 ?c2 ?c3 ?c4 ?c5 ?_))
      case c1 => exact cell_one_new _ _ _
      case c2 => intro u hu; simp at hu; subst hu; rfl
      case c3 => unfold maxLen; omega
      case c4 => omega
      case c5 => simp; omega
      intro v' w5 hown' hgrow _ hat
      obtain ⟨p1, p2, p3, p4⟩ := HS.out.push hrl HK1.out HRS.out H1.out hown' hgrow hat
      obtain ⟨va, vc, hv⟩ := own_form hown'
      subst hv
      have P1 : Hid (w5.ownsRow w.heap.size 133 1 (.slice va (c.length + 1) vc) (c ++ [s]).length (us ++ [.slice sa sl sc])) := p1
      have P2 : Hid (RSeqs w5 (fun g => w.heap.size ≤ g ∧ some g ≠ (Value.slice va (c.length + 1) vc).ownBlock) (c ++ [s]) (us ++ [.slice sa sl sc])) := p2
      have P3 : Hid (Rd w5 rb tb tc ps k' d) := p3
      have P4 : Hid (Kp rb w.heap.size w w5) := p4
      obtain ⟨r0, r1, r2, rf⟩ := p3.cells
      clear hown' hgrow hat hown1 p1 p2 p3 p4
      rcases kindI_slash (hg k' hk').1 with ⟨hks, hki⟩ | ⟨hks, hki⟩
      · have hkd := kind_of w5 rb tb tc ps k' d P3.out hk' 47 hki
        have hk1 : k' + 1 < ps.length := (hg k' hk').2 (by rw [hks]; rfl)
        have HKS : Hid (ps[k'].1.kind = .sign 47) := hks
        clear hks hki
        go_wp2_with (first | (go_at_call 32; refine hkd.mono ?_; rintro e w6 ⟨rfl, q, rfl⟩))
        have hN : ChRel w rb tb tc ps n d (k' + 1) (c ++ [s]) (us ++ [.slice sa sl sc]) (.slice va (c.length + 1) vc) ((w5.setCell ⟨rb, 1, none⟩ (.int .i64 ((k' : Int) + 1))).drewN q) := by
          have hKs : Kp rb w5.heap.size w5 ((w5.setCell ⟨rb, 1, none⟩ (.int .i64 ((k' : Int) + 1))).drewN q) := ((Kp.refl _ _ _).setRb _ _).drewN q
          refine ⟨by omega, hk1, by simp; omega, own_kp P1.out P3.out.1 (by decide) hKs, RSeqs.kept (sm_kp P3.out.1 hKs (fun g hg => by omega)) _ _ P2.out, (P3.out.set1 (k' + 1)).drewN q, (P4.out.setRb _ _).drewN q, ?_⟩
          intro r hr
          have hm : Thk.PSeq d (tsOf ps k) (.ok s (tsOf ps k')) := HP.out
          rw [← tl_tsOf hk'] at hr
          have hsl : (Thk.hd (tsOf ps k')).kind = .sign 47 := by rw [hd_tsOf hk']; exact HKS.out
          cases r with
          | ok c' rest => exact (by simpa [preC, Thk.Res.map] using HS.out.goes _ (.more hm hsl hr))
          | err e p => exact (by simpa [preC, Thk.Res.map] using HS.out.goes _ (.later hm hsl hr))
        go_roundg (ps.length - (k' + 1))
        case measure => omega
        case rel => exact ⟨k' + 1, _, _, rfl, hN⟩
      · have hkd := kind_of w5 rb tb tc ps k' d P3.out hk' _ rfl
        have HKS : Hid (ps[k'].1.kind ≠ .sign 47) := hks
        clear hks
        generalize kindI ps[k'].1.kind = K at *
        go_wp2_with (first | (go_at_call 32; refine hkd.mono ?_; rintro e w6 ⟨rfl, q, rfl⟩))
        go_ret2
        have hp := HS.out.goes _ (.last HP.out (by rw [hd_tsOf hk']; exact HKS.out))
        refine ⟨_, hp, P4.out.drewN q, k', va, c.length + 1, vc, rfl, by omega, hk', rfl, ⟨us ++ [.slice sa sl sc], ⟨?_, ?_⟩, ?_⟩, P3.out.drewN q⟩
        · exact own_mono P1.out (Nat.zero_le _)
        · intro g hg; exact (P1.out.lt g hg).1
        · have h1 : RSeqs w5 (w.heap.size ≤ ·) (c ++ [s]) (us ++ [.slice sa sl sc]) := RSeqs.mono (fun g _ hg => hg.1) _ _ P2.out
          exact RSeqs.kept (w := w5) (w' := w5.drewN q) ⟨fun _ _ h => h, fun _ _ _ => rfl⟩ _ _ h1

theorem choice_any (rb tb tc : Nat) (ps : List (Thk.Tok × Value)) (hg : GoodP ps) (R : Nat) : ChoiceC rb tb tc ps R := by
  induction R using Nat.strongRecOn with
  | ind R ih => exact choice_step rb tb tc ps hg R ih
end Go.Proofs.YtgfejacimdmkpaaDoor
