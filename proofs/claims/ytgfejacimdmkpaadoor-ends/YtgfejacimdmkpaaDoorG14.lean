import Derived.Test.YtgfejacimdmkpaaDoorG13
set_option linter.all false
namespace Go.Proofs.YtgfejacimdmkpaaDoor
open Go.RowKit

def ruleC : List Thk.Rule → List Value → List Value
  | r :: g, v :: vs => .string ⟨r.name.toArray⟩ :: v :: ruleC g vs
  | _, _ => []

def RRules (w : World) (A : Nat → Prop) : List Thk.Rule → List Value → Prop
  | [], vs => vs = []
  | r :: g, vs => ∃ v vs', vs = v :: vs' ∧ (RChoice w A r.choice v ∧ r.name.length ≤ 2000) ∧ RRules w A g vs'

theorem RRules.kept {w w' : World} {A : Nat → Prop} (h : Sm A w w') : ∀ {g : List Thk.Rule} {vs : List Value}, RRules w A g vs → RRules w' A g vs
  | [], _, hs => hs
  | _ :: _, _, ⟨v, vs', hv, hc, hs⟩ => ⟨v, vs', hv, ⟨hc.1.kept h, hc.2⟩, RRules.kept h hs⟩
theorem RRules.mono {w : World} {A A' : Nat → Prop} (h : ∀ g, g < w.heap.size → A g → A' g) : ∀ {g : List Thk.Rule} {vs : List Value}, RRules w A g vs → RRules w A' g vs
  | [], _, hs => hs
  | _ :: _, _, ⟨v, vs', hv, hc, hs⟩ => ⟨v, vs', hv, ⟨hc.1.mono h, hc.2⟩, RRules.mono h hs⟩
theorem RRules.length {w : World} {A : Nat → Prop} : ∀ {g : List Thk.Rule} {vs : List Value}, RRules w A g vs → g.length = vs.length
  | [], _, hs => by simp only [RRules] at hs; subst hs; rfl
  | _ :: _, _, ⟨v, vs', hv, hc, hs⟩ => by subst hv; simp [RRules.length hs]
theorem RRules.snoc {w : World} {A : Nat → Prop} {r : Thk.Rule} {v : Value} (hr : RChoice w A r.choice v ∧ r.name.length ≤ 2000) : ∀ {g : List Thk.Rule} {vs : List Value}, RRules w A g vs → RRules w A (g ++ [r]) (vs ++ [v])
  | [], _, hs => by simp only [RRules] at hs; subst hs; exact ⟨v, [], rfl, hr, rfl⟩
  | _ :: _, _, ⟨v', vs', hv, hc, hs⟩ => by subst hv; exact ⟨v', vs' ++ [v], rfl, hc, RRules.snoc hr hs⟩
theorem ruleC_append (g : List Thk.Rule) (vs : List Value) (h : g.length = vs.length) (r : Thk.Rule) (v : Value) : ruleC (g ++ [r]) (vs ++ [v]) = ruleC g vs ++ [.string ⟨r.name.toArray⟩, v] := by
  induction g generalizing vs with
  | nil => cases vs with
    | nil => rfl
    | cons _ _ => simp at h
  | cons t s ih => cases vs with
    | nil => simp at h
    | cons u vs => simp only [List.cons_append, ruleC]; rw [ih vs (by simpa using h)]

/-- The slice v holds the grammar. -/
def RGram (w : World) (A : Nat → Prop) (g : List Thk.Rule) (v : Value) : Prop := ∃ vs, Row w A 90 2 v g.length (ruleC g vs) ∧ RRules w A g vs

def preG (g : List Thk.Rule) : Except (Nat × Nat) (List Thk.Rule) → Except (Nat × Nat) (List Thk.Rule)
  | .ok g' => .ok (g ++ g')
  | .error x => .error x

def GramPost (w : World) (rb : Nat) (ts : List Thk.Tok) (e : Ending) (w' : World) : Prop :=
  ∃ res, Thk.PGram 0 ts res ∧ Kp rb w.heap.size w w' ∧ match res with
    | .ok g => g ≠ [] ∧ g.length ≤ 20 ∧ ∃ a cp, e = .returned (.tuple #[.slice (some a) g.length cp, .nilIface]) ∧ RGram w' (w.heap.size ≤ ·) g (.slice (some a) g.length cp)
    | .error (er, p) => e = .returned (.tuple #[.slice none 0 0, faultV er p])

structure GrRel (w : World) (rb tb tc : Nat) (ps : List (Thk.Tok × Value)) (n k : Nat) (g : List Thk.Rule) (vs : List Value) (v : Value) (wr : World) : Prop where
  lt : k < ps.length
  len : g.length ≤ 20
  own : wr.ownsRow w.heap.size 90 2 v g.length (ruleC g vs)
  rules : RRules wr (fun b => w.heap.size ≤ b ∧ some b ≠ v.ownBlock) g vs
  rd : Rd wr rb tb tc ps k 0
  kp : Kp rb w.heap.size w wr
  goes : ∀ r, Thk.PGram g.length (tsOf ps k) r → Thk.PGram 0 (tsOf ps n) (preG g r)

theorem GrRel.push {w : World} {rb tb tc : Nat} {ps : List (Thk.Tok × Value)} {n k : Nat} {g : List Thk.Rule} {us : List Value} {v : Value} {wr : World} (h : GrRel w rb tb tc ps n k g us v wr) (hrl : rb < w.heap.size)
    {r : Thk.Rule} {x : Value} {k' : Nat} {w1 w5 : World} {v' : Value} {O1 O2 : Obj}
    (hK : Kp rb wr.heap.size wr w1) (hP : RChoice w1 (wr.heap.size ≤ ·) r.choice x) (hnm : r.name.length ≤ 2000) (hR : Rd w1 rb tb tc ps k' 0)
    (ho : w5.ownsRow w.heap.size 90 2 v' (g.length + 1) (ruleC g us ++ [.string ⟨r.name.toArray⟩, x])) (hg : ((w1.alloc O1).alloc O2).grownBy w5 v.ownBlock)
    (hat : v'.ownBlock = v.ownBlock ∨ v'.ownBlock = some (w1.heap.size + 1 + 1)) :
    w5.ownsRow w.heap.size 90 2 v' (g ++ [r]).length (ruleC (g ++ [r]) (us ++ [x])) ∧ RRules w5 (fun b => w.heap.size ≤ b ∧ some b ≠ v'.ownBlock) (g ++ [r]) (us ++ [x]) ∧ Rd w5 rb tb tc ps k' 0 ∧ Kp rb w.heap.size w w5 := by
  have hsz := hK.size
  have hwr := h.kp.size
  have hown1 : w1.ownsRow w.heap.size 90 2 v g.length (ruleC g us) := own_kp h.own h.rd.1 (by decide) hK
  have hbl := grown2_blocks hg
  have hgs := hg.size
  simp at hgs
  have hvb : ∀ g, v.ownBlock = some g → g < wr.heap.size := fun g hg => (h.own.lt g hg).2
  have hA : ∀ g, g < w1.heap.size → w.heap.size ≤ g → some g ≠ v.ownBlock → (w.heap.size ≤ g ∧ some g ≠ v'.ownBlock) := by
    intro g h1 h2 h3
    refine ⟨h2, ?_⟩
    rcases hat with e | e <;> rw [e]
    · exact h3
    · simp; omega
  refine ⟨by rw [ruleC_append _ _ (RRules.length h.rules)]; simpa using ho, ?_, ?_, ?_⟩
  · refine RRules.snoc ⟨?_, hnm⟩ ?_
    · have p1 : RChoice w1 (fun g => wr.heap.size ≤ g ∧ g < w1.heap.size) r.choice x := hP.mono (fun g h1 h2 => ⟨h2, h1⟩)
      have p2 : RChoice w5 (fun g => wr.heap.size ≤ g ∧ g < w1.heap.size) r.choice x := p1.kept (sm_but hown1 hbl (by decide) (fun g hg e => by have := hvb g e.symm; omega))
      exact p2.mono (fun g _ hg => hA g hg.2 (by omega) (fun e => by have := hvb g e.symm; omega))
    · have p0 := RRules.kept (sm_kp (A := fun g => w.heap.size ≤ g ∧ some g ≠ v.ownBlock) h.rd.1 hK (fun g hg => by omega)) h.rules
      have p1 : RRules w1 (fun g => (w.heap.size ≤ g ∧ some g ≠ v.ownBlock) ∧ g < w1.heap.size) g us := RRules.mono (fun g h1 h2 => ⟨h2, h1⟩) p0
      have p2 : RRules w5 (fun g => (w.heap.size ≤ g ∧ some g ≠ v.ownBlock) ∧ g < w1.heap.size) g us := RRules.kept (sm_but hown1 hbl (by decide) (fun g hg => hg.1.2)) p1
      exact RRules.mono (fun g _ hg => hA g hg.2 hg.1.1 hg.1.2) p2
  · exact hR.but hown1 hbl (by decide) (by decide) (by decide)
  · exact ((((h.kp.trans (hK.mono hwr))).alloc (by omega) O1).alloc (by simp; omega) O2).grown hg (by simp; omega) (fun g hg' => (h.own.lt g hg').1)

theorem Tryd.infoRule : (Tryd.prog.info? 90).map (fun i => (i.zero, i.size, i.bytes)) = some (some (.agg #[.string ⟨#[]⟩, .slice none 0 0]), 2, 40) := by kernel_rfl

theorem kindI_fin {k : Thk.TK} (hk : okKind k) : (k = .fin ∧ kindI k = 0) ∨ (k ≠ .fin ∧ (kindI k == 0) = false) := by
  cases k with
  | fin => left; exact ⟨rfl, rfl⟩
  | sign c => right; have := signB_ge hk; refine ⟨by simp, beq_eq_false_iff_ne.2 ?_⟩; simp only [kindI]; omega
  | _ => right; simp [kindI]

theorem PRule_lt {m : Nat} {ts rest : List Thk.Tok} {r : Thk.Rule} (h : Thk.PRule m ts (.ok r rest)) : m ≠ 20 := by cases h; assumption

set_option maxHeartbeats 8000000 in
set_option maxRecDepth 100000 in
theorem grammar_any (w : World) (rb tb tc : Nat) (ps : List (Thk.Tok × Value)) (n : Nat) (h : Rd w rb tb tc ps n 0) (hg : GoodP ps) (hn : n < ps.length) :
    Calls Tryd.prog 18 #[.pointer (some ⟨rb, 0, none⟩)] w fun e w' => GramPost w rb (tsOf ps n) e w' := by
  obtain ⟨i0, hi, hz0, hz1, hz2⟩ := info_parts Tryd.infoRule
  have hrl := h.lt
  have hl := h.2.2.1
  have H : Hid (Rd w rb tb tc ps n 0) := h
  clear h
  go_enter Tryd.func18, Tryd.ntmps18
  go_wp2_with fail
  go_loopg [4] (ps.length - n) (fun m v wr => ∃ k g us, m = ps.length - k ∧ GrRel w rb tb tc ps n k g us v wr)
  case atStart =>
    refine ⟨n, [], [], rfl, hn, by simp, World.ownsRow_nil _ _ _ _, by simp [RRules], H.out, Kp.refl _ _ _, ?_⟩
    intro r hr; cases r <;> exact hr
  case round =>
    obtain ⟨k, g, us, rfl, hS⟩ := hrel
    have hs := rule_any wr rb tb tc ps g.length k hS.rd hg hS.lt hS.len
    have hkl := hS.lt
    have hgl := hS.len
    have hwr := hS.kp.size
    have hown := hS.own
    obtain ⟨va0, vc0, hv⟩ := own_form hown
    subst hv
    have HS : Hid (GrRel w rb tb tc ps n k g us (.slice va0 g.length vc0) wr) := hS
    clear hS
    go_wp2_with fail
    refine hs.mono ?_
    rintro e w1 ⟨res, hP, hK1, hE⟩
    have hsz1 := hK1.size
    have HP : Hid (Thk.PRule g.length (tsOf ps k) res) := hP
    have HK1 : Hid (Kp rb wr.heap.size wr w1) := hK1
    clear hs hP hK1
    cases res with
    | err er p =>
      obtain ⟨z, rfl, n', hR1⟩ := hE
      simp only [faultV]
      clear hR1 hown
      go_wp2_with fail
      go_ret2
      exact ⟨.error (er, p), HS.out.goes _ (.err HP.out), (HS.out.kp.trans (HK1.out.mono hwr)).alloc (by omega) _, rfl⟩
    | ok r rest =>
      obtain ⟨k', sa, sl, sc, rfl, hlt, hk', rfl, hRS, hR1, hnm⟩ := hE
      have HNM : Hid (r.name.length ≤ 2000) := hnm
      clear hnm
      have hg19 := PRule_lt HP.out
      have HRS : Hid (RChoice w1 (wr.heap.size ≤ ·) r.choice (.slice sa sl sc)) := hRS
      have H1 : Hid (Rd w1 rb tb tc ps k' 0) := hR1
      have hown1 : w1.ownsRow w.heap.size 90 2 (.slice va0 g.length vc0) g.length (ruleC g us) := own_kp hown HS.out.rd.1 (by decide) HK1.out
      clear hRS hR1 hown
      go_wp2_with (first | (at_builtin; refine wpList_append_own_at _ rfl _ _ 38 rfl (w.heap.size) 90 i0 _ 2 40 Tryd.underlying38 hi hz0 hz1 hz2 rfl (by decide) _ _ _ rfl ((hown1.alloc _).alloc _) ⟨w1.heap.size + 1, 0, none⟩ 1 1 [.string ⟨r.name.toArray⟩, .slice sa sl sc] rfl rfl ?c1 ?c2 ?c3 ?c4 ?c5 ?_))
      case c1 => rw [← World.size_alloc w1 (.cells #[.string ⟨r.name.toArray⟩, .slice sa sl sc] 90)]; exact cell_two_new' _ _ _ _
      case c2 => intro u hu; simp at hu; rcases hu with rfl | rfl <;> rfl
      case c3 => unfold maxLen; omega
      case c4 => omega
      case c5 => simp; omega
      intro v' w5 hown' hgrow hnn hat
      obtain ⟨p1, p2, p3, p4⟩ := HS.out.push hrl HK1.out HRS.out HNM.out H1.out hown' hgrow hat
      have hvf : ∃ a c, v' = .slice (some a) (g.length + 1) c := by
        rcases hown'.2 with ⟨h, _⟩ | ⟨g', cap, cur, h, _⟩
        · exact absurd h hnn
        · exact ⟨_, _, h⟩
      obtain ⟨va, vc, rfl⟩ := hvf
      have P1 : Hid (w5.ownsRow w.heap.size 90 2 (.slice (some va) (g.length + 1) vc) (g ++ [r]).length (ruleC (g ++ [r]) (us ++ [.slice sa sl sc]))) := p1
      have P2 : Hid (RRules w5 (fun b => w.heap.size ≤ b ∧ some b ≠ (Value.slice (some va) (g.length + 1) vc).ownBlock) (g ++ [r]) (us ++ [.slice sa sl sc])) := p2
      have P3 : Hid (Rd w5 rb tb tc ps k' 0) := p3
      have P4 : Hid (Kp rb w.heap.size w w5) := p4
      clear hown' hgrow hat hown1 p1 p2 p3 p4 hnn
      rcases kindI_fin (hg k' hk').1 with ⟨hks, hki⟩ | ⟨hks, hki⟩
      · have hkd := kind_of w5 rb tb tc ps k' 0 P3.out hk' 0 hki
        have HKS : Hid (ps[k'].1.kind = .fin) := hks
        clear hks hki
        go_wp2_with (first | (go_at_call 32; refine hkd.mono ?_; rintro e w6 ⟨rfl, q, rfl⟩))
        go_ret2
        have hp := HS.out.goes _ (.last HP.out (by rw [hd_tsOf hk']; exact HKS.out))
        refine ⟨.ok (g ++ [r]), hp, P4.out.drewN q, by simp, by simp; omega, va, vc, by simp, ⟨us ++ [.slice sa sl sc], ⟨?_, ?_⟩, ?_⟩⟩
        · have h1 : w5.ownsRow 0 90 2 (.slice (some va) (g ++ [r]).length vc) (g ++ [r]).length (ruleC (g ++ [r]) (us ++ [.slice sa sl sc])) := by
            have := own_mono P1.out (Nat.zero_le _); simpa using this
          exact h1
        · intro b hb; exact (P1.out.lt b (by simpa using hb)).1
        · have h1 : RRules w5 (w.heap.size ≤ ·) (g ++ [r]) (us ++ [.slice sa sl sc]) := RRules.mono (fun g _ hg => hg.1) P2.out
          exact RRules.kept (w := w5) (w' := w5.drewN q) ⟨fun _ _ h => h, fun _ _ _ => rfl⟩ h1
      · have hkd := kind_of w5 rb tb tc ps k' 0 P3.out hk' _ rfl
        have HKS : Hid (ps[k'].1.kind ≠ .fin) := hks
        clear hks
        generalize kindI ps[k'].1.kind = K at *
        go_wp2_with (first | (go_at_call 32; refine hkd.mono ?_; rintro e w6 ⟨rfl, q, rfl⟩))
        have hN : GrRel w rb tb tc ps n k' (g ++ [r]) (us ++ [.slice sa sl sc]) (.slice (some va) (g.length + 1) vc) (w5.drewN q) := by
          refine ⟨hk', by simp; omega, P1.out, RRules.kept (w := w5) (w' := w5.drewN q) ⟨fun _ _ h => h, fun _ _ _ => rfl⟩ P2.out, P3.out.drewN q, P4.out.drewN q, ?_⟩
          intro x hx
          have hm : Thk.PRule g.length (tsOf ps k) (.ok r (tsOf ps k')) := HP.out
          have hf : (Thk.hd (tsOf ps k')).kind ≠ .fin := by rw [hd_tsOf hk']; exact HKS.out
          simp only [List.length_append, List.length_cons, List.length_nil] at hx
          cases x with
          | ok g' => exact (by simpa [preG] using HS.out.goes _ (.more hm hf hx))
          | error y => exact (by simpa [preG] using HS.out.goes _ (.later hm hf hx))
        go_roundg (ps.length - k')
        case measure => omega
        case rel => exact ⟨k', _, _, rfl, hN⟩
end Go.Proofs.YtgfejacimdmkpaaDoor
