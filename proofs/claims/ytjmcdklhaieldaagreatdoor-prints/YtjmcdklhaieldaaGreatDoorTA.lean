import Derived.Test.YtjmcdklhaieldaaGreatDoorRC
import Derived.BigQuiet
import Derived.Deep.CutRange
import Derived.Test.YtjmcdklhaieldaaGreatDoorR12
set_option linter.all false
namespace Go.Proofs.YtjmcdklhaieldaaGreatDoor
open Go.RowKit
attribute [local go_sem ↓] Go.wp_at_zero Go.wp_at_succ

abbrev gramO (vx vr : Value) : Obj := .cells #[vx, vr] 73 (0, 0)

/-- A grammar of the reference in memory. -/
structure GM (w : World) (B gb : Nat) (vx vr : Value) (ps : List (Thk.RE × Value × Value)) (rs : List (Thk.Bytes × Nat)) : Prop where
  blk : w.heap[gb]? = some (gramO vx vr)
  ex : w.ownsRow B 126 5 vx ps.length (ps.flatMap exC)
  ru : w.ownsRow B 78 2 vr rs.length (rs.flatMap ruC)
  items : ∀ p ∈ ps, Items w B p.2.1 p.1.items
  parts : ∀ p ∈ ps, Ints w B p.2.2 p.1.parts

theorem GM.lt {w : World} {B gb : Nat} {vx vr : Value} {ps : List (Thk.RE × Value × Value)} {rs : List (Thk.Bytes × Nat)} (h : GM w B gb vx vr ps rs) : gb < w.heap.size := heap_lt' h.blk

theorem GM.kept {w w' : World} {B gb : Nat} {vx vr : Value} {ps : List (Thk.RE × Value × Value)} {rs : List (Thk.Bytes × Nat)} (h : GM w B gb vx vr ps rs) (hb : ∀ k, k < w.heap.size → w'.heap[k]? = w.heap[k]?) : GM w' B gb vx vr ps rs :=
  ⟨by rw [hb gb h.lt]; exact h.blk, own_blocks h.ex (fun b e => hb b (h.ex.lt b e).2), own_blocks h.ru (fun b e => hb b (h.ru.lt b e).2), fun p hp => own_blocks (h.items p hp) (fun b e => hb b ((h.items p hp).lt b e).2), fun p hp => own_blocks (h.parts p hp) (fun b e => hb b ((h.parts p hp).lt b e).2)⟩

theorem GM.below {w w' : World} {B gb : Nat} {vx vr : Value} {ps : List (Thk.RE × Value × Value)} {rs : List (Thk.Bytes × Nat)} (h : GM w B gb vx vr ps rs) (hb : Below w.heap.size w w') : GM w' B gb vx vr ps rs := h.kept hb.block

theorem GM.exAt {w : World} {B gb : Nat} {vx vr : Value} {ps : List (Thk.RE × Value × Value)} {rs : List (Thk.Bytes × Nat)} (h : GM w B gb vx vr ps rs) (hn : 0 < ps.length) :
    ∃ xg xc, vx = .slice (some ⟨xg, 0, none⟩) ps.length xc ∧ B ≤ xg ∧ xg < w.heap.size ∧ ps.length ≤ maxLen := by
  have hex := h.ex
  rcases hex.2 with ⟨_, h0⟩ | ⟨g, cap, cur, rfl, hB, hg, h1, h2, _⟩
  · omega
  · exact ⟨g, cap, rfl, hB, heap_lt' hg, by omega⟩

theorem GM.exCells {w : World} {B gb : Nat} {vr : Value} {ps : List (Thk.RE × Value × Value)} {rs : List (Thk.Bytes × Nat)} {xg n xc : Nat} (h : GM w B gb (.slice (some ⟨xg, 0, none⟩) n xc) vr ps rs) :
    (∀ o, w.frozen? ⟨xg, o, none⟩ = false) ∧
      ∀ k (hk : k < ps.length), w.cell? ⟨xg, k * 5, none⟩ = some (.int .i64 ps[k].1.kind) ∧ w.cell? ⟨xg, k * 5 + 1, none⟩ = some ps[k].2.1 ∧ w.cell? ⟨xg, k * 5 + 2, none⟩ = some (.string ⟨ps[k].1.text.toArray⟩) ∧ w.cell? ⟨xg, k * 5 + 3, none⟩ = some (.int .i64 ps[k].1.rule) ∧ w.cell? ⟨xg, k * 5 + 4, none⟩ = some ps[k].2.2 := by
  have hex := h.ex
  have hv : n = ps.length := by
    rcases hex.2 with ⟨h0, _⟩ | ⟨g, cap, cur, h0, _⟩
    · cases h0
    · cases h0; rfl
  subst hv
  refine ⟨fun o => hex.frozenAt o, fun k hk => ?_⟩
  have hc : ∀ j, j < 5 → w.cell? ⟨xg, k * 5 + j, none⟩ = (exC ps[k])[j]? := fun j hj => by rw [hex.cellAt _ (by omega), exC_get _ _ _ hk hj]
  exact ⟨hc 0 (by decide), hc 1 (by decide), hc 2 (by decide), hc 3 (by decide), hc 4 (by decide)⟩

theorem ruC_get (ps : List (Thk.Bytes × Nat)) (i j : Nat) (hi : i < ps.length) (hj : j < 2) : (ps.flatMap ruC)[i * 2 + j]? = (ruC ps[i])[j]? := by
  induction ps generalizing i with
  | nil => simp at hi
  | cons p ps ih =>
    have hl : (ruC p).length = 2 := rfl
    cases i with
    | zero =>
      simp only [List.flatMap_cons, Nat.zero_mul, Nat.zero_add, List.getElem_cons_zero]
      rw [List.getElem?_append_left (by omega)]
    | succ i =>
      simp only [List.flatMap_cons, List.getElem_cons_succ]
      rw [List.getElem?_append_right (by omega), hl, show (i + 1) * 2 + j - 2 = i * 2 + j from by omega]
      exact ih i (by simpa using hi)

theorem GM.ruAt {w : World} {B gb : Nat} {vx vr : Value} {ps : List (Thk.RE × Value × Value)} {rs : List (Thk.Bytes × Nat)} (h : GM w B gb vx vr ps rs) (hn : 0 < rs.length) :
    ∃ rg rc, vr = .slice (some ⟨rg, 0, none⟩) rs.length rc ∧ B ≤ rg ∧ rg < w.heap.size := by
  have hex := h.ru
  rcases hex.2 with ⟨_, h0⟩ | ⟨g, cap, cur, rfl, hB, hg, h1, h2, _⟩
  · omega
  · exact ⟨g, cap, rfl, hB, heap_lt' hg⟩

theorem GM.ruCells {w : World} {B gb : Nat} {vx : Value} {ps : List (Thk.RE × Value × Value)} {rs : List (Thk.Bytes × Nat)} {rg n rc : Nat} (h : GM w B gb vx (.slice (some ⟨rg, 0, none⟩) n rc) ps rs) :
    ∀ k (hk : k < rs.length), w.cell? ⟨rg, k * 2, none⟩ = some (.string ⟨rs[k].1.toArray⟩) ∧ w.cell? ⟨rg, k * 2 + 1, none⟩ = some (.int .i64 rs[k].2) := by
  have hex := h.ru
  have hv : n = rs.length := by
    rcases hex.2 with ⟨h0, _⟩ | ⟨g, cap, cur, h0, _⟩
    · cases h0
    · cases h0; rfl
  subst hv
  intro k hk
  have hc : ∀ j, j < 2 → w.cell? ⟨rg, k * 2 + j, none⟩ = (ruC rs[k])[j]? := fun j hj => by rw [hex.cellAt _ (by omega), ruC_get _ _ _ hk hj]
  exact ⟨hc 0 (by decide), hc 1 (by decide)⟩

theorem GM.setRule {w : World} {B gb : Nat} {vr : Value} {ps : List (Thk.RE × Value × Value)} {rs : List (Thk.Bytes × Nat)} {xg n xc : Nat} (h : GM w B gb (.slice (some ⟨xg, 0, none⟩) n xc) vr ps rs) {i : Nat} (hi : i < ps.length) (r : Int) :
    GM (w.setCell ⟨xg, i * 5 + 3, none⟩ (.int .i64 r)) B gb (.slice (some ⟨xg, 0, none⟩) n xc) vr (ps.set i ({ ps[i].1 with rule := r }, ps[i].2)) rs := by
  have c := Chg.set xg (i * 5 + 3) (.int .i64 r) w
  have hex := h.ex
  have hv : n = ps.length := by
    rcases hex.2 with ⟨h0, _⟩ | ⟨g, cap, cur, h0, _⟩
    · cases h0
    · cases h0; rfl
  subst hv
  obtain ⟨cs, hxb⟩ := own_blk hex (b := xg) rfl
  have hng : gb ≠ xg := by
    intro e1; subst e1
    rw [h.blk] at hxb; simp at hxb
  have hst := (hex.stored (i * 5 + 3) (.int .i64 r)).1
  rw [exC_set ps i 3 hi (by decide) (.int .i64 r) ({ ps[i].1 with rule := r }, ps[i].2) rfl] at hst
  have hmem : ∀ p ∈ ps.set i ({ ps[i].1 with rule := r }, ps[i].2), p ∈ ps ∨ p = ({ ps[i].1 with rule := r }, ps[i].2) := fun p hp => List.mem_or_eq_of_mem_set hp
  refine ⟨by rw [c.same gb h.lt hng]; exact h.blk, by rw [List.length_set]; exact hst, own_keep c h.ru (own_ty h.ru hxb (by decide)), fun p hp => ?_, fun p hp => ?_⟩
  · rcases hmem p hp with hp | rfl
    · exact own_keep c (h.items p hp) (own_ty (h.items p hp) hxb (by decide))
    · have := h.items ps[i] (List.getElem_mem hi)
      exact own_keep c this (own_ty this hxb (by decide))
  · rcases hmem p hp with hp | rfl
    · exact own_keep c (h.parts p hp) (own_ty (h.parts p hp) hxb (by decide))
    · have := h.parts ps[i] (List.getElem_mem hi)
      exact own_keep c this (own_ty this hxb (by decide))

/-- The first rule from k on that has a name. -/
def rf (names : List Thk.Bytes) (b : Thk.Bytes) (k : Nat) : Int := if (names.drop k).contains b then ((k + (names.drop k).idxOf b : Nat) : Int) else -1

theorem rf_step (names : List Thk.Bytes) (b : Thk.Bytes) (k : Nat) (hk : k < names.length) : rf names b k = if names[k] = b then (k : Int) else rf names b (k + 1) := by
  unfold rf
  rw [List.drop_eq_getElem_cons hk]
  by_cases h : names[k] = b
  · rw [if_pos h, if_pos (by simp [h])]; simp [h]
  · have hb : (b == names[k]) = false := by simpa using fun e => h e.symm
    have hb' : (names[k] == b) = false := by simpa using h
    rw [if_neg h, List.contains_cons, hb, Bool.false_or, List.idxOf_cons, hb']
    simp only [cond_false]
    rw [show k + ((names.drop (k + 1)).idxOf b + 1) = k + 1 + (names.drop (k + 1)).idxOf b from by omega]

theorem rf_end (names : List Thk.Bytes) (b : Thk.Bytes) (k : Nat) (hk : names.length ≤ k) : rf names b k = -1 := by
  unfold rf; rw [List.drop_eq_nil_of_le hk]; rfl

/-- The rule of an expression, from rule k on. -/
def rfE (names : List Thk.Bytes) (e : Thk.RE) (k : Nat) : Int := if e.kind = 4 then rf names e.text k else -1
def ruled (names : List Thk.Bytes) (p : Thk.RE × Value × Value) : Thk.RE × Value × Value := ({ p.1 with rule := rfE names p.1 0 }, p.2)

structure NmAt (names : List Thk.Bytes) (ps qs : List (Thk.RE × Value × Value)) (i : Nat) : Prop where
  len : qs.length = ps.length
  lo : ∀ j, j < i → qs[j]? = (ps[j]?).map (ruled names)
  hi : ∀ j, i ≤ j → qs[j]? = ps[j]?

theorem NmAt.next {names : List Thk.Bytes} {ps qs : List (Thk.RE × Value × Value)} {i : Nat} (h : NmAt names ps qs i) (hi : i < qs.length) : NmAt names ps (qs.set i ({ qs[i].1 with rule := rfE names qs[i].1 0 }, qs[i].2)) (i + 1) := by
  have e := h.hi i (Nat.le_refl _)
  refine ⟨by simp [h.len], ?_, ?_⟩
  · intro j hj
    rw [List.getElem?_set]
    by_cases hij : i = j
    · subst hij
      rw [if_pos rfl, if_pos hi, ← e, List.getElem?_eq_getElem hi]; rfl
    · rw [if_neg hij]; exact h.lo j (by omega)
  · intro j hj
    rw [List.getElem?_set, if_neg (by omega)]; exact h.hi j (by omega)

theorem NmAt.done {names : List Thk.Bytes} {ps qs : List (Thk.RE × Value × Value)} (h : NmAt names ps qs ps.length) : qs = ps.map (ruled names) := by
  apply List.ext_getElem?
  intro j
  rw [List.getElem?_map]
  by_cases hj : j < ps.length
  · exact h.lo j hj
  · rw [h.hi j (by omega), List.getElem?_eq_none (by omega)]; rfl
end Go.Proofs.YtjmcdklhaieldaaGreatDoor
namespace Go.Proofs.YtjmcdklhaieldaaGreatDoor
open Go.RowKit
attribute [local go_sem ↓] Go.wp_at_zero Go.wp_at_succ

theorem str_eq (a b : Thk.Bytes) : (ByteArray.mk a.toArray = ByteArray.mk b.toArray) ↔ a = b := by
  constructor
  · intro h
    have := congrArg (fun x => x.data.toList) h
    simpa using this
  · intro h; rw [h]

abbrev nmOf' (rs : List (Thk.Bytes × Nat)) : List Thk.Bytes := rs.map (·.1)

/-- What names keeps in a round of its own. -/
structure NmRel (w : World) (B gb xg n xc : Nat) (vr : Value) (names : List Thk.Bytes) (ps : List (Thk.RE × Value × Value)) (rs : List (Thk.Bytes × Nat)) (i : Nat) (qs : List (Thk.RE × Value × Value)) (wr : World) : Prop where
  mem : GM wr B gb (.slice (some ⟨xg, 0, none⟩) n xc) vr qs rs
  at_ : NmAt names ps qs i
  below : Below B w wr

set_option maxHeartbeats 16000000 in
set_option maxRecDepth 100000 in
theorem rnames_any (w : World) (B gb : Nat) (vx vr : Value) (ps : List (Thk.RE × Value × Value)) (rs : List (Thk.Bytes × Nat)) (h : GM w B gb vx vr ps rs) (h0 : 0 < ps.length) (h1 : 0 < rs.length) (hl : rs.length ≤ 20) (hpl : ps.length ≤ 100000) :
    Calls Tryz.prog 51 #[.pointer (some ⟨gb, 0, none⟩)] w fun e w' => e = .returned (.tuple #[]) ∧ GM w' B gb vx vr (ps.map (ruled (rs.map (·.1)))) rs ∧ Below B w w' := by
  obtain ⟨xg, xc, rfl, hxB, hxl, hmx⟩ := h.exAt h0
  obtain ⟨rg, rc, rfl, hrB, hrl⟩ := h.ruAt h1
  have HST : Hid (NmRel w B gb xg ps.length xc (.slice (some ⟨rg, 0, none⟩) rs.length rc) (rs.map (·.1)) ps rs 0 ps w) := ⟨h, ⟨rfl, fun j hj => by omega, fun _ _ => rfl⟩, Below.refl _ _⟩
  clear h
  go_enter Tryz.func51, Tryz.ntmps51
  go_wp2_with fail
  go_loopg [2] ps.length (fun m v wr => ∃ (i : Nat) (qs : List (Thk.RE × Value × Value)), m = ps.length - i ∧ v = .int .i64 i ∧ i ≤ ps.length ∧ Hid (NmRel w B gb xg ps.length xc (.slice (some ⟨rg, 0, none⟩) rs.length rc) (rs.map (·.1)) ps rs i qs wr))
  case atStart => exact ⟨0, ps, by omega, rfl, by omega, HST⟩
  case round =>
    obtain ⟨i, qs, rfl, rfl, hi, HR⟩ := hrel
    have q := cell_of_block HR.out.mem.blk
    have hql := HR.out.at_.len
    by_cases hlt : i < ps.length
    · have hlt' : (i : Int) < ps.length := by omega
      have hiq : i < qs.length := by omega
      have hc := HR.out.mem.exCells.2 i hiq
      have hf := HR.out.mem.exCells.1
      obtain ⟨c0, c1, c2, c3, c4⟩ := hc
      have hgx : gb ≠ xg := by
        intro e; subst e
        obtain ⟨cs, hb⟩ := own_blk HR.out.mem.ex (b := gb) rfl
        rw [HR.out.mem.blk] at hb; simp at hb
      have hm1 : rfE (nmOf' rs) qs[i].1 rs.length = -1 := by unfold rfE; split; exact rf_end _ _ _ (by simp [nmOf']); rfl
      have HM := hideP (HR.out.mem.setRule hiq (rfE (nmOf' rs) qs[i].1 rs.length))
      have HB := hideP (HR.out.below.setCell (p := ⟨xg, i * 5 + 3, none⟩) hxB (.int .i64 (rfE (nmOf' rs) qs[i].1 rs.length)))
      have HM1 := hideP hm1
      rw [hm1] at HM HB
      have hf3 := hf (i * 5 + 3)
      have HAT := hideP HR.out.at_
      clear hm1 hf c0 c1 c2 c4
      go_wp2_with fail
      go_loopg [3] rs.length (fun m v wr => ∃ k : Nat, m = k ∧ v = .int .i64 ((k : Int) - 1) ∧ k ≤ rs.length ∧ Hid (GM wr B gb (.slice (some ⟨xg, 0, none⟩) ps.length xc) (.slice (some ⟨rg, 0, none⟩) rs.length rc) (qs.set i ({ qs[i].1 with rule := rfE (nmOf' rs) qs[i].1 k }, qs[i].2)) rs ∧ Below B w wr))
      case atStart => exact ⟨rs.length, rfl, by go_num, Nat.le_refl _, by rw [HM1.out]; exact ⟨HM.out, HB.out⟩⟩
      case round =>
        obtain ⟨k, hmk, rfl, hk, HI⟩ := hrel
        have hisl : i < (qs.set i ({ qs[i].1 with rule := rfE (nmOf' rs) qs[i].1 k }, qs[i].2)).length := by simpa using hiq
        have hc := HI.out.1.exCells.2 i hisl
        simp only [List.getElem_set_self] at hc
        obtain ⟨c0, c1, c2, c3, c4⟩ := hc
        have q2 := cell_of_block HI.out.1.blk
        have hf2 := HI.out.1.exCells.1 (i * 5 + 3)
        by_cases hm0 : k = 0
        · subst hm0
          have HN := hideP (HAT.out.next hiq)
          clear c1 c2 c3 c4 hf2
          go_wp2_with fail
          go_roundg (ps.length - (i + 1))
          case measure => omega
          case rel => exact ⟨i + 1, _, rfl, by go_num, by omega, ⟨HI.out.1, HN.out, HI.out.2⟩⟩
        · obtain ⟨t, rfl⟩ : ∃ t, k = t + 1 := ⟨k - 1, by omega⟩
          have ht : t < rs.length := by omega
          have hr := HI.out.1.ruCells t ht
          obtain ⟨d0, d1⟩ := hr
          have ht' : (t : Int) < rs.length := by omega
          have hstep := rf_step (nmOf' rs) qs[i].1.text t (by simpa [nmOf'] using ht)
          simp only [nmOf', List.getElem_map] at hstep
          have HSTEP := hideP hstep
          have e1 : ((t + 1 : Nat) : Int) - 1 = t := by omega
          rw [e1]
          clear hstep c1 c4 d1
          by_cases hk4 : qs[i].1.kind = 4
          · rw [hk4] at c0
            by_cases hnm : rs[t].1 = qs[i].1.text
            · have hnm' : (ByteArray.mk rs[t].1.toArray = ByteArray.mk qs[i].1.text.toArray) := by rw [hnm]
              have HS := hideP (HI.out.1.setRule hisl t)
              have HSB := hideP (HI.out.2.setCell (p := ⟨xg, i * 5 + 3, none⟩) hxB (.int .i64 t))
              simp only [List.getElem_set_self, List.set_set] at HS
              have hrt : rfE (nmOf' rs) qs[i].1 t = t := by
                unfold rfE; rw [if_pos hk4, HSTEP.out, if_pos hnm]
              go_wp2_with fail
              go_quiet (fail)
              go_wp2_with fail
              go_roundg t
              case measure => omega
              case rel => exact ⟨t, rfl, by go_num, by omega, by rw [hrt]; exact ⟨HS.out.kept (fun _ _ => rfl), (below_drewN HI.out.2 _).setCell hxB _⟩⟩
            · have hnm2 : (rs[t].1 == qs[i].1.text) = false := by simpa using hnm
              have hnm' : decide (ByteArray.mk rs[t].1.toArray = ByteArray.mk qs[i].1.text.toArray) = false := by
                rw [decide_eq_false_iff_not, str_eq]; exact hnm
              have hrt : rfE (nmOf' rs) qs[i].1 (t + 1) = rfE (nmOf' rs) qs[i].1 t := by
                unfold rfE; rw [if_pos hk4, if_pos hk4, HSTEP.out, if_neg hnm]
              go_wp2_with fail
              go_quiet (fail)
              go_wp2_with fail
              go_roundg t
              case measure => omega
              case rel => exact ⟨t, rfl, by go_num, by omega, by rw [← hrt]; exact ⟨HI.out.1.kept (fun _ _ => rfl), below_drewN HI.out.2 _⟩⟩
          · have hk4' : decide ((qs[i].1.kind : Int) = 4) = false := by simp; omega
            have hk5' : ((qs[i].1.kind : Int) == 4) = false := by simp; omega
            have hk6' : (qs[i].1.kind == 4) = false := by simpa using hk4
            have hrt : rfE (nmOf' rs) qs[i].1 (t + 1) = rfE (nmOf' rs) qs[i].1 t := by
              unfold rfE; rw [if_neg hk4, if_neg hk4]
            go_wp2_with fail
            go_quiet (fail)
            go_wp2_with fail
            go_roundg t
            case measure => omega
            case rel => exact ⟨t, rfl, by go_num, by omega, by rw [← hrt]; exact ⟨HI.out.1.kept (fun _ _ => rfl), below_drewN HI.out.2 _⟩⟩
    · have hie : i = ps.length := by omega
      have hlt' : ¬ (i : Int) < ps.length := by omega
      go_wp2_with fail
      go_end0
      refine ⟨rfl, ?_, HR.out.below⟩
      have := HR.out.at_
      rw [hie] at this
      rw [← this.done]; exact HR.out.mem
end Go.Proofs.YtjmcdklhaieldaaGreatDoor
