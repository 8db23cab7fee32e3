import Derived.Test.YtiganlkabilblaaGreatDoorV07
import Derived.Test.YtiganlkabilblaaGreatDoorV02
import Derived.Test.YtiganlkabilblaaGreatDoorV09
import Derived.Test.YtiganlkabilblaaGreatDoorV00
import Derived.Test.YtiganlkabilblaaGreatDoorV01
import Derived.Deep.RegionHeld
import Derived.Test.YtiganlkabilblaaGreatDoorV06
import Derived.Test.YtiganlkabilblaaGreatDoorRows
import Derived.WalkKit
import Derived.ProofKit
import Derived.OpenShut
import Derived.ShutString
import Derived.ChangeMaps5
import Derived.ChangeOld
import Derived.Below
import Derived.ChangeSame
import Derived.ChangeVars
import Derived.JoinedOf
import Derived.RowKit
import Derived.RowKitTokens
import Derived.LaidLaws
import Derived.LaidHandle
import Derived.Stop.Joined
import Derived.Test.YtiganlkabilblaaGreatDoorTie
import Derived.Test.YtiganlkabilblaaGreatDoorCards
import Derived.SevenTiedAt
set_option linter.all false
namespace Go.Proofs.YtiganlkabilblaaGreatDoor
open Go.RowKit
attribute [local go_sem ↓] Go.wp_at_zero Go.wp_at_succ
/-- What is known of a grammar that is loaded. -/
structure LdOk (w' : World) (B : Nat) (g : List Thk.Rule) (E : List Bool) (vx vr : Value) (gb lb : Nat) (ps : List (Thk.RE × Value × Value)) (rs : List (Thk.Bytes × Nat)) (l : List Bool) : Prop where
  mem : GM w' B gb vx vr (ps.map (ruled (nmOf rs))) rs
  row : w'.heap[lb]? = some (boolsO l)
  len : l.length = ps.length
  fits : Fits ps rs
  den : Thk.DenR (xsOf ps) rs g
  lp : LP (xsOf ps) (nmOf rs) E l
  eof : E = Eof (bdOf rs) l
  rle : rs.length ≤ 20
  rpos : 0 < rs.length
  ple : ps.length ≤ 10000
def LoadPost (t : List UInt8) (w : World) (e : Ending) (w' : World) : Prop :=
  Below w.heap.size w w' ∧ ∃ res, PAll t res ∧ match res with
    | .error (er, p) => er ≠ 0 ∧ ∃ (xa : Option Addr) (xn xc : Nat) (ra : Option Addr) (rn rc : Nat), e = .returned (.tuple #[.agg #[.slice xa xn xc, .slice ra rn rc], .slice none 0 0, .int .i64 er, .int .i64 p])
    | .ok (g, E) => ∃ vx vr gb lb ps rs l, e = .returned (.tuple #[.agg #[vx, vr], .slice (some ⟨lb, 0, none⟩) ps.length ps.length, .int .i64 0, .int .i64 0]) ∧ LdOk w' w.heap.size g E vx vr gb lb ps rs l
theorem GM.setLow {w : World} {B gb : Nat} {vx vr : Value} {ps : List (Thk.RE × Value × Value)} {rs : List (Thk.Bytes × Nat)} (h : GM w B gb vx vr ps rs) {b : Nat} (hb : b < B) (hg : gb ≠ b) (o : Nat) (u : Value) : GM (w.setCell ⟨b, o, none⟩ u) B gb vx vr ps rs :=
  ⟨by rw [Below.heap_setCell _ _ _ _ (by show gb ≠ b; exact hg)]; exact h.blk, own_set h.ex hb, own_set h.ru hb, fun p hp => own_set (h.items p hp) hb, fun p hp => own_set (h.parts p hp) hb⟩
theorem GM.mono {w : World} {B B' gb : Nat} {vx vr : Value} {ps : List (Thk.RE × Value × Value)} {rs : List (Thk.Bytes × Nat)} (h : GM w B gb vx vr ps rs) (hb : B' ≤ B) : GM w B' gb vx vr ps rs :=
  ⟨h.blk, own_mono h.ex hb, own_mono h.ru hb, fun p hp => own_mono (h.items p hp) hb, fun p hp => own_mono (h.parts p hp) hb⟩
/-- What the reference tells of the rules, and the places of their bodies. -/
theorem den_body {ps : List (Thk.RE × Value × Value)} {rs : List (Thk.Bytes × Nat)} {g : List Thk.Rule} (h : Thk.DenR (xsOf ps) rs g) {i : Nat} (hi : i < rs.length) (hg : i < g.length) : Thk.DenP (xsOf ps) rs[i].2 (.group g[i].choice) := by
  have := ((DenR.get rs g h).2 i hg).2
  rw [List.getD_eq_getElem?_getD, List.getElem?_map, List.getElem?_eq_getElem hi] at this
  exact this
def nxOf (names : List Thk.Bytes) (E : List Bool) (g : List Thk.Rule) (k : Nat) : List Nat := (Thk.firstC (Eb names E) ((g[k]?.map (·.choice)).getD [])).map (idx0 names)
theorem nxOf_at {names : List Thk.Bytes} {E : List Bool} {g : List Thk.Rule} {k : Nat} (h : k < g.length) : nxOf names E g k = (Thk.firstC (Eb names E) g[k].choice).map (idx0 names) := by
  unfold nxOf; rw [List.getElem?_eq_getElem h]; rfl
/-- What stands while Load looks at the rules. -/
structure LdAt (w : World) (B gb : Nat) (vx vr : Value) (ps : List (Thk.RE × Value × Value)) (rs : List (Thk.Bytes × Nat)) (wr : World) : Prop where
  res : wr.heap[w.heap.size]? = some zGramO
  mem : GM wr B gb vx vr (ps.map (ruled (nmOf rs))) rs
  below : Below w.heap.size w wr
theorem LdAt.go {w : World} {B gb : Nat} {vx vr : Value} {ps : List (Thk.RE × Value × Value)} {rs : List (Thk.Bytes × Nat)} {wr w2 : World} (h : LdAt w B gb vx vr ps rs wr) (hb : Below wr.heap.size wr w2) : LdAt w B gb vx vr ps rs w2 :=
  ⟨by rw [hb.block _ (heap_lt' h.res)]; exact h.res, h.mem.below hb, h.below.trans (hb.mono h.below.size)⟩
theorem LdAt.drewN {w : World} {B gb : Nat} {vx vr : Value} {ps : List (Thk.RE × Value × Value)} {rs : List (Thk.Bytes × Nat)} {wr : World} (h : LdAt w B gb vx vr ps rs wr) (q : Nat) : LdAt w B gb vx vr ps rs (wr.drewN q) := h.go (below_drewN (Below.refl _ _) q)
set_option maxHeartbeats 64000000 in
set_option maxRecDepth 100000 in
theorem rload_any (s : ByteArray) (w : World) (hs : s.size ≤ maxLen) (r : Except (Nat × Nat) (List Thk.Rule)) (hP : PRead s.data.toList r) :
    Calls Tryz.prog 39 #[.string s] w fun e w' => LoadPost s.data.toList w e w' := by
  have hrd := rread_any s (w.alloc zGramO) hs
  have hsl : s.data.toList.length = s.size := rfl
  go_enter Tryz.func39, Tryz.ntmps39
  go_wp2_with fail
  refine hrd.mono ?_
  rintro e w1 ⟨hb1, hE⟩
  have hz1 := hb1.size
  simp at hz1
  have hr1 : w1.heap[w.heap.size]? = some zGramO := by rw [hb1.block _ (by simp)]; exact heap_alloc_same _ _
  have HB1 : Hid (Below w.heap.size w w1) := (below_alloc _ _).trans (hb1.mono (by simp))
  clear hrd
  cases r with
  | error x =>
    have hx0 := read_err0 hP
    have hE2 : e = .returned (.tuple #[zGram, .int .i64 x.1, .int .i64 x.2]) := by
      rcases read_err hP with ⟨h1, rfl⟩ | ⟨h1, h2⟩
      · rw [if_pos (by omega)] at hE; exact hE
      · rw [if_neg (by omega), h2] at hE; exact hE
    subst hE2
    obtain ⟨er, p⟩ := x
    simp only [] at hx0
    have hx1 : ¬ (er : Int) = 0 := by omega
    have rq := cell_of_block hr1
    have rf := frozen_of_block hr1
    have hlt1 : w.heap.size < w1.heap.size := by omega
    have HP := hideP hP
    clear hE hb1 hP hr1
    simp only [zGram]
    go_wp2_with fail
    refine bodyPost_ret (v := .tuple #[.agg #[.slice none 0 0, .slice none 0 0], .slice none 0 0, .int .i64 er, .int .i64 p]) (by simp [results, Tryz.results39, go_sem, rq, hlt1]; done) rfl ⟨?_, .error (er, p), .text HP.out, hx0, _, _, _, _, _, _, rfl⟩
    exact ((HB1.out.setCell (p := ⟨w.heap.size, 0, none⟩) (Nat.le_refl _) _).setCell (p := ⟨w.heap.size, 1, none⟩) (Nat.le_refl _) _).alloc (by simp; omega) _
  | ok g =>
    obtain ⟨hl, S', hrun, hOK⟩ := read_ok hP
    rw [if_neg (by omega), hrun] at hE
    obtain ⟨M, lab, rfl, hMem, hst⟩ := hE
    obtain ⟨xa, xc, hvx⟩ := own_form hMem.ex
    obtain ⟨ra, rc, hvr⟩ := own_form hMem.ru
    have hxl : S'.xs = M.xs.map (·.1) := by rw [← hst]; rfl
    have hrsl : S'.rs = M.rs := by rw [← hst]; rfl
    obtain ⟨ps, hps⟩ : ∃ ps, ps = M.xs := ⟨_, rfl⟩
    obtain ⟨rs, hrs⟩ : ∃ rs, rs = M.rs := ⟨_, rfl⟩
    rw [← hps] at hxl
    rw [← hrs] at hrsl
    have hden : Thk.DenR (xsOf ps) rs g := by have := hOK.den; rw [hxl, hrsl] at this; exact this
    have hfits : Fits ps rs := by
      refine ⟨fun p hp => ?_, fun x hx => ?_⟩
      · have := hOK.wx.ex p.1 (by rw [hxl]; exact List.mem_map_of_mem hp)
        rw [hxl, List.length_map] at this; exact this
      · have := hOK.bd x (by rw [hrsl]; exact hx)
        rw [hxl, List.length_map] at this; exact this
    have hple : ps.length ≤ 10000 := by have := hOK.len; rw [hxl, List.length_map] at this; exact this
    have hgl : rs.length = g.length := (DenR.get rs g hden).1
    have hrle : rs.length ≤ 20 := by rw [hgl]; exact hOK.le
    have hrpos : 0 < rs.length := by rw [hgl]; exact List.length_pos_iff.2 hOK.ne
    have hppos : 0 < ps.length := by
      have := hfits.ru rs[0] (List.getElem_mem hrpos); omega
    have hnames : nmOf rs = namesOf g := DenR.names rs g hden
    have hnc := hOK.nc
    have hG2 : GM (w1.alloc (gramO (.slice xa ps.length xc) (.slice ra rs.length rc))) (w.heap.size + 1) w1.heap.size (.slice xa ps.length xc) (.slice ra rs.length rc) ps rs := by
      have hex := hMem.ex
      have hru := hMem.ru
      rw [hvx] at hex
      rw [hvr] at hru
      rw [hps, hrs]
      exact ⟨heap_alloc_same _ _, (own_mono hex (by simp)).alloc _, (own_mono hru (by simp)).alloc _, fun p hp => (own_mono (hMem.items p hp) (by simp)).alloc _, fun p hp => (own_mono (hMem.parts p hp).1 (by simp)).alloc _⟩
    have hnm := rnames_any _ _ _ _ _ ps rs hG2 hppos hrpos hrle (by omega)
    rw [hvx, hvr, ← hps, ← hrs]
    have hr2 : (w1.alloc (gramO (.slice xa ps.length xc) (.slice ra rs.length rc))).heap[w.heap.size]? = some zGramO := by rw [heap_alloc_old _ _ (by omega)]; exact hr1
    have HB2 : Hid (Below w.heap.size w (w1.alloc (gramO (.slice xa ps.length xc) (.slice ra rs.length rc)))) := HB1.out.alloc (by omega) _
    have HR2 := hideP hr2
    have HP := hideP hP
    have HDEN := hideP hden
    have HFITS := hideP hfits
    have HNAMES := hideP hnames
    have HNC := hideP hnc
    have HGL := hideP hgl
    clear hP hMem hst hOK hrun hvx hvr hxl hrsl hps hrs hden hfits hnames hnc hG2 hr1 hr2 hb1 HB1 hgl hl
    go_wp2_with fail
    refine hnm.mono ?_
    rintro _ w3 ⟨rfl, hG3, hb3⟩
    have HL3 : Hid (LdAt w (w.heap.size + 1) w1.heap.size (.slice xa ps.length xc) (.slice ra rs.length rc) ps rs w3) := by
      refine ⟨by rw [hb3.block _ (by omega)]; exact HR2.out, hG3, HB2.out.trans (hb3.mono (by omega))⟩
    clear hnm hG3 hb3
    obtain ⟨rg, rfl⟩ : ∃ rg, ra = some ⟨rg, 0, none⟩ := by
      obtain ⟨rg, rc', h1, _⟩ := HL3.out.mem.ruAt hrpos
      cases h1; exact ⟨rg, rfl⟩
    go_wp2_with fail
    go_loopg [9] rs.length (fun m v wr => ∃ i : Nat, m = rs.length - i ∧ v = .int .i64 i ∧ i ≤ rs.length ∧ Hid (LdAt w (w.heap.size + 1) w1.heap.size (.slice xa ps.length xc) (.slice (some ⟨rg, 0, none⟩) rs.length rc) ps rs wr) ∧ Hid (∀ t, t < i → twiceAt (namesOf g) t = false))
    case atStart => exact ⟨0, by omega, rfl, by omega, HL3, fun t ht => by omega⟩
    case round =>
      obtain ⟨i, rfl, rfl, hi, HI, HT⟩ := hrel
      have q := cell_of_block HI.out.mem.blk
      have hgbl := HI.out.mem.lt
      by_cases hlt : i < rs.length
      · have hlt' : (i : Int) < rs.length := by omega
        clear HL3 HB2 HR2
        go_wp2_with fail
        go_loopg [10] i (fun m v wr => ∃ k : Nat, m = i - k ∧ v = .int .i64 k ∧ k ≤ i ∧ Hid (LdAt w (w.heap.size + 1) w1.heap.size (.slice xa ps.length xc) (.slice (some ⟨rg, 0, none⟩) rs.length rc) ps rs wr) ∧ Hid (∀ t (h : t < rs.length), t < k → rs[t].1 ≠ rs[i].1))
        case atStart => exact ⟨0, by omega, rfl, by omega, HI, fun t _ ht => by omega⟩
        case round =>
          obtain ⟨k, rfl, rfl, hk, HI2, HT2⟩ := hrel
          have q2 := cell_of_block HI2.out.mem.blk
          have hni : (namesOf g).length = rs.length := by rw [← HNAMES.out]; simp
          by_cases hlk : k < i
          · have hlk' : (k : Int) < i := by omega
            have hkr : (k : Int) < rs.length := by omega
            have hk2 : k < rs.length := by omega
            obtain ⟨d0, _⟩ := HI2.out.mem.ruCells k hk2
            obtain ⟨d1, _⟩ := HI2.out.mem.ruCells i hlt
            by_cases hnm : rs[k].1 = rs[i].1
            · have hnb : (rs[k].1 == rs[i].1) = true := by simpa using hnm
              have htw : twiceAt (namesOf g) i = true := by
                refine (twice_iff (by omega)).2 ⟨k, hlk, ?_⟩
                simp only [← HNAMES.out, List.getElem_map]; exact hnm
              have rq := cell_of_block HI2.out.res
              have rf := frozen_of_block HI2.out.res
              have rl := heap_lt' HI2.out.res
              have HPL : Hid (PLook g (.error (5, i))) := .twice ⟨by omega, htw, HT.out⟩
              clear htw hnm
              go_wp2_with fail
              go_quiet (fail)
              go_wp2_with fail
              refine bodyPost_ret (v := .tuple #[.agg #[.slice xa ps.length xc, .slice (some ⟨rg, 0, none⟩) rs.length rc], .slice none 0 0, .int .i64 5, .int .i64 i]) (by simp [results, Tryz.results39, go_sem, rq, rl]; done) rfl ⟨?_, .error (5, i), .rules HP.out HPL.out, by simp, _, _, _, _, _, _, rfl⟩
              exact ((below_drewN HI2.out.below _).setCell (p := ⟨w.heap.size, 0, none⟩) (Nat.le_refl _) _).setCell (p := ⟨w.heap.size, 1, none⟩) (Nat.le_refl _) _
            · have hnb : (rs[k].1 == rs[i].1) = false := by simpa using hnm
              have HN2 : Hid (∀ t (h : t < rs.length), t < k + 1 → rs[t].1 ≠ rs[i].1) := by
                intro t h ht
                by_cases hte : t = k
                · subst hte; exact hnm
                · exact HT2.out t h (by omega)
              clear hnm
              go_wp2_with fail
              go_quiet (fail)
              go_wp2_with fail
              go_roundg (i - (k + 1))
              case measure => omega
              case rel => exact ⟨k + 1, rfl, by go_num, by omega, HI2.out.drewN _, HN2⟩
          · have hlk' : ¬ (k : Int) < i := by omega
            have HNT : Hid (∀ t, t < i + 1 → twiceAt (namesOf g) t = false) := by
              intro t ht
              by_cases hte : t = i
              · subst hte
                cases htw : twiceAt (namesOf g) t with
                | false => rfl
                | true =>
                  obtain ⟨x, hx, h2⟩ := (twice_iff (by omega)).1 htw
                  simp only [← HNAMES.out, List.getElem_map] at h2
                  exact absurd h2 (HT2.out x (by omega) (by omega))
              · exact HT.out t (by omega)
            go_wp2_with fail
            go_roundg (rs.length - (i + 1))
            case measure => omega
            case rel => exact ⟨i + 1, rfl, by go_num, by omega, HI2, HNT⟩
      · have hlt' : ¬ (i : Int) < rs.length := by omega
        have HFT : Hid (FirstTwice (namesOf g) none) := by
          intro t ht
          refine HT.out t ?_
          have : (namesOf g).length = rs.length := by rw [← HNAMES.out]; simp
          omega
        have hem := rempties_any wr _ _ _ _ ps rs g HI.out.mem HFITS.out hppos hrpos (by omega) HDEN.out
        have HRES := hideP HI.out.res
        have HBEL := hideP HI.out.below
        have hrl := heap_lt' HI.out.res
        clear HI HL3 HB2 HR2 HT
        go_wp2_with fail
        refine hem.mono ?_
        rintro _ w5 ⟨rfl, l, hEm, hClo⟩
        obtain ⟨lb, hlbe⟩ : ∃ lb, lb = wr.heap.size := ⟨_, rfl⟩
        rw [← hlbe] at hEm ⊢
        have hlbw : w.heap.size < lb := by rw [hlbe]; exact hrl
        have hres5 : w5.heap[w.heap.size]? = some zGramO := by rw [hEm.below.block _ hrl]; exact HRES.out
        have HL5 : Hid (LdAt w (w.heap.size + 1) w1.heap.size (.slice xa ps.length xc) (.slice (some ⟨rg, 0, none⟩) rs.length rc) ps rs w5) := ⟨hres5, hEm.mem, HBEL.out.trans (hEm.below.mono HBEL.out.size)⟩
        have HROW := hideP hEm.row
        have HLEN := hideP hEm.len
        have HFND := hideP hEm.fnd
        have HCLO := hideP hClo
        have HWU := fun u => hideP (rwithin_step (w.heap.size + 1) w1.heap.size lb (.slice xa ps.length xc) (.slice (some ⟨rg, 0, none⟩) rs.length rc) ps rs l u HFITS.out hEm.len)
        clear hem hEm hClo hres5 HRES HBEL hrl hlbe
        go_wp2_with fail
        go_loopg [12] rs.length (fun m v wr => ∃ i : Nat, m = rs.length - i ∧ v = .int .i64 i ∧ i ≤ rs.length ∧ Hid (LdAt w (w.heap.size + 1) w1.heap.size (.slice xa ps.length xc) (.slice (some ⟨rg, 0, none⟩) rs.length rc) ps rs wr ∧ wr.heap[lb]? = some (boolsO l)) ∧ Hid (∀ t (h : t < g.length), t < i → Thk.someC (unkT (nmOf rs)) g[t].choice = false))
        case atStart => exact ⟨0, by omega, rfl, by omega, ⟨HL5.out, HROW.out⟩, fun t _ ht => by omega⟩
        case round =>
          obtain ⟨i, rfl, rfl, hi, HI, HU⟩ := hrel
          have q := cell_of_block HI.out.1.mem.blk
          have hgbl := HI.out.1.mem.lt
          clear HL5 HROW
          by_cases hlt : i < rs.length
          · have hlt' : (i : Int) < rs.length := by omega
            have hig : i < g.length := by have := HGL.out; omega
            obtain ⟨_, d1⟩ := HI.out.1.mem.ruCells i hlt
            have hcall : Calls Tryz.prog 67 #[.pointer (some ⟨w1.heap.size, 0, none⟩), .int .i64 rs[i].2, .slice (some ⟨lb, 0, none⟩) ps.length ps.length, .bool true] wr fun e w' => e = .returned (.bool (Thk.someC (unkT (nmOf rs)) g[i].choice)) ∧ Below wr.heap.size wr w' := by
              have := wiP (E := []) (fun h => by cases h) (HWU true).out (.group g[i].choice) (den_body HDEN.out hlt hig) (fun h => by cases h)
              simp only [hitP, Bool.false_or, Thk.someP, HT, if_true] at this
              exact this wr HI.out.1.mem HI.out.2
            cases hb : Thk.someC (unkT (nmOf rs)) g[i].choice with
            | true =>
              rw [hb] at hcall
              have HPL : Hid (PLook g (.error (6, i))) := .unknown HFT.out ⟨hig, by rw [← HNAMES.out]; exact hb, fun t ht h2 => by rw [← HNAMES.out]; exact HU.out t ht h2⟩
              clear hb
              go_wp2_with fail
              refine hcall.mono ?_
              rintro _ w6 ⟨rfl, hb6⟩
              have h6 := HI.out.1.go hb6
              have rq := cell_of_block h6.res
              have rf := frozen_of_block h6.res
              have rl := heap_lt' h6.res
              have gq := cell_of_block h6.mem.blk
              have ggl := h6.mem.lt
              have H6 := hideP h6
              clear hcall hb6 h6
              go_wp2_with fail
              refine bodyPost_ret (v := .tuple #[.agg #[.slice xa ps.length xc, .slice (some ⟨rg, 0, none⟩) rs.length rc], .slice none 0 0, .int .i64 6, .int .i64 i]) (by simp [results, Tryz.results39, go_sem, rq, rl]; done) rfl ⟨?_, .error (6, i), .rules HP.out HPL.out, by simp, _, _, _, _, _, _, rfl⟩
              exact (H6.out.below.setCell (p := ⟨w.heap.size, 0, none⟩) (Nat.le_refl _) _).setCell (p := ⟨w.heap.size, 1, none⟩) (Nat.le_refl _) _
            | false =>
              rw [hb] at hcall
              have HU2 : Hid (∀ t (h : t < g.length), t < i + 1 → Thk.someC (unkT (nmOf rs)) g[t].choice = false) := by
                intro t h ht
                by_cases hte : t = i
                · subst hte; exact hb
                · exact HU.out t h (by omega)
              clear hb
              go_wp2_with fail
              refine hcall.mono ?_
              rintro _ w6 ⟨rfl, hb6⟩
              have H6 := hideP (And.intro (HI.out.1.go hb6) ((hb6.block lb (heap_lt' HI.out.2)).trans HI.out.2))
              clear hcall hb6
              go_wp2_with fail
              go_roundg (rs.length - (i + 1))
              case measure => omega
              case rel => exact ⟨i + 1, rfl, by go_num, by omega, H6, HU2⟩
          · have hlt' : ¬ (i : Int) < rs.length := by omega
            have hgi : g.length ≤ i := by have := HGL.out; omega
            have HUN : Hid (∀ t (h : t < g.length), Thk.someC (unkT (nmOf rs)) g[t].choice = false) := fun t h => HU.out t h (by omega)
            obtain ⟨hCl, hLe, hLn⟩ := least_of HDEN.out HCLO.out HFND.out HUN.out
            obtain ⟨E, hE⟩ : ∃ E, E = Eof (bdOf rs) l := ⟨_, rfl⟩
            have HE := hideP hE
            have hLP := lp_of HCLO.out HFND.out hCl
            rw [← hE] at hCl hLe hLn hLP
            have HLP := hideP hLP
            have HCL := hideP hCl
            have HLE := hideP hLe
            have HLN := hideP hLn
            clear hCl hLe hLn hLP hE HU hgi
            go_wp2_with fail
            go_loopg [14] rs.length (fun m v wr => ∃ i : Nat, m = rs.length - i ∧ v = .int .i64 i ∧ i ≤ rs.length ∧ Hid (LdAt w (w.heap.size + 1) w1.heap.size (.slice xa ps.length xc) (.slice (some ⟨rg, 0, none⟩) rs.length rc) ps rs wr ∧ wr.heap[lb]? = some (boolsO l)) ∧ Hid (∀ t (h : t < g.length), t < i → Thk.someC (loopT (Eb (nmOf rs) E)) g[t].choice = false))
            case atStart => exact ⟨0, by omega, rfl, by omega, HI, fun t _ ht => by omega⟩
            case round =>
              obtain ⟨i2, rfl, rfl, hi2, HI2, HV⟩ := hrel
              have q2 := cell_of_block HI2.out.1.mem.blk
              have hgbl2 := HI2.out.1.mem.lt
              clear HI q hgbl
              by_cases hlt2 : i2 < rs.length
              · have hlt2' : (i2 : Int) < rs.length := by omega
                have hig : i2 < g.length := by have := HGL.out; omega
                obtain ⟨_, d1⟩ := HI2.out.1.mem.ruCells i2 hlt2
                have hcall : Calls Tryz.prog 67 #[.pointer (some ⟨w1.heap.size, 0, none⟩), .int .i64 rs[i2].2, .slice (some ⟨lb, 0, none⟩) ps.length ps.length, .bool false] wr fun e w' => e = .returned (.bool (Thk.someC (loopT (Eb (nmOf rs) E)) g[i2].choice)) ∧ Below wr.heap.size wr w' := by
                  have := wiP (fun _ => HLP.out) (HWU false).out (.group g[i2].choice) (den_body HDEN.out hlt2 hig) (fun _ => by simp only [Thk.someP]; exact HUN.out i2 hig)
                  simp only [hitP, Bool.false_or, Thk.someP, HT, Bool.false_eq_true, if_false] at this
                  exact this wr HI2.out.1.mem HI2.out.2
                cases hb : Thk.someC (loopT (Eb (nmOf rs) E)) g[i2].choice with
                | true =>
                  rw [hb] at hcall
                  have HPL : Hid (PLook g (.error (7, i2))) := by
                    have h1 : FirstIs g (Thk.someC (unkT (namesOf g))) none := fun t ht => by rw [← HNAMES.out]; exact HUN.out t ht
                    have h2 := HCL.out
                    have h3 := HLE.out
                    rw [show rs.map (·.1) = namesOf g from HNAMES.out] at h2 h3
                    exact .loop HFT.out h1 HLN.out h2 h3 ⟨hig, by rw [← HNAMES.out]; exact hb, fun t ht h4 => by rw [← HNAMES.out]; exact HV.out t ht h4⟩
                  clear hb
                  go_wp2_with fail
                  refine hcall.mono ?_
                  rintro _ w6 ⟨rfl, hb6⟩
                  have h6 := HI2.out.1.go hb6
                  have rq := cell_of_block h6.res
                  have rf := frozen_of_block h6.res
                  have rl := heap_lt' h6.res
                  have gq := cell_of_block h6.mem.blk
                  have ggl := h6.mem.lt
                  have H6 := hideP h6
                  clear hcall hb6 h6
                  go_wp2_with fail
                  refine bodyPost_ret (v := .tuple #[.agg #[.slice xa ps.length xc, .slice (some ⟨rg, 0, none⟩) rs.length rc], .slice none 0 0, .int .i64 7, .int .i64 i2]) (by simp [results, Tryz.results39, go_sem, rq, rl]; done) rfl ⟨?_, .error (7, i2), .rules HP.out HPL.out, by simp, _, _, _, _, _, _, rfl⟩
                  exact (H6.out.below.setCell (p := ⟨w.heap.size, 0, none⟩) (Nat.le_refl _) _).setCell (p := ⟨w.heap.size, 1, none⟩) (Nat.le_refl _) _
                | false =>
                  rw [hb] at hcall
                  have HV2 : Hid (∀ t (h : t < g.length), t < i2 + 1 → Thk.someC (loopT (Eb (nmOf rs) E)) g[t].choice = false) := by
                    intro t h ht
                    by_cases hte : t = i2
                    · subst hte; exact hb
                    · exact HV.out t h (by omega)
                  clear hb
                  go_wp2_with fail
                  refine hcall.mono ?_
                  rintro _ w6 ⟨rfl, hb6⟩
                  have H6 := hideP (And.intro (HI2.out.1.go hb6) ((hb6.block lb (heap_lt' HI2.out.2)).trans HI2.out.2))
                  clear hcall hb6
                  go_wp2_with fail
                  go_roundg (rs.length - (i2 + 1))
                  case measure => omega
                  case rel => exact ⟨i2 + 1, rfl, by go_num, by omega, H6, HV2⟩
              · have hlt2' : ¬ (i2 : Int) < rs.length := by omega
                have HVN : Hid (∀ t (h : t < g.length), Thk.someC (loopT (Eb (nmOf rs) E)) g[t].choice = false) := fun t h => HV.out t h (by have := HGL.out; omega)
                have HSF := hideP (rfirsts_step (w.heap.size + 1) w1.heap.size lb (.slice xa ps.length xc) (.slice (some ⟨rg, 0, none⟩) rs.length rc) ps rs l HFITS.out HLEN.out)
                have HRETF : Hid (∀ k (hk : k < rs.length), RetF (w.heap.size + 1) w1.heap.size lb (.slice xa ps.length xc) (.slice (some ⟨rg, 0, none⟩) rs.length rc) ps rs l rs[k].2 (nxOf (nmOf rs) E g k)) := by
                  intro k hk
                  have hkg : k < g.length := by have := HGL.out; omega
                  rw [nxOf_at hkg]
                  have := fiP HLP.out HSF.out (.group g[k].choice) (den_body HDEN.out hk hkg) (by simp only [Thk.someP]; exact HUN.out k hkg) (by intro b hb; cases hb) (by simp only [Thk.ncP]; have := HNC.out g[k] (List.getElem_mem hkg); omega)
                  simp only [Thk.firstP] at this
                  exact this
                have hnpos : 0 < (nmOf rs).length := by simpa using hrpos
                have HMM : Hid (∀ k j, k < rs.length → (dirM (nmOf rs) E g k j = true ↔ j ∈ nxOf (nmOf rs) E g k)) := by
                  intro k j hk
                  have hkg : k < g.length := by have := HGL.out; omega
                  rw [nxOf_at hkg]; exact dirM_iff hkg hnpos
                have HNN : Hid (∀ k j, k < rs.length → j ∈ nxOf (nmOf rs) E g k → j < rs.length) := by
                  intro k j _ hj
                  obtain ⟨b, _, rfl⟩ := List.mem_map.1 hj
                  have := idx0_lt b hnpos
                  simpa using this
                have HBB : Hid (∀ k, k < rs.length → (nxOf (nmOf rs) E g k).length ≤ 3000) := by
                  intro k hk
                  have hkg : k < g.length := by have := HGL.out; omega
                  rw [nxOf_at hkg, List.length_map]
                  have h1 := Thk.first_ncC (Eb (nmOf rs) E) g[k].choice
                  have h2 := HNC.out g[k] (List.getElem_mem hkg)
                  omega
                clear HV HWU
                go_wp2_with fail
                go_loopg [16] rs.length (fun m v wr => ∃ i : Nat, m = rs.length - i ∧ v = .int .i64 i ∧ i ≤ rs.length ∧ Hid (LdAt w (w.heap.size + 1) w1.heap.size (.slice xa ps.length xc) (.slice (some ⟨rg, 0, none⟩) rs.length rc) ps rs wr ∧ wr.heap[lb]? = some (boolsO l)) ∧ Hid (∀ t, t < i → Wm (dirM (nmOf rs) E g) rs.length t t = false))
                case atStart => exact ⟨0, by omega, rfl, by omega, HI2, fun t ht => by omega⟩
                case round =>
                  obtain ⟨i3, rfl, rfl, hi3, HI3, HX⟩ := hrel
                  have q3 := cell_of_block HI3.out.1.mem.blk
                  have hgbl3 := HI3.out.1.mem.lt
                  clear HI2 q2 hgbl2
                  by_cases hlt3 : i3 < rs.length
                  · have hlt3' : (i3 : Int) < rs.length := by omega
                    have hig : i3 < g.length := by have := HGL.out; omega
                    have hcall := rleft_any wr _ _ lb _ _ ps rs l (dirM (nmOf rs) E g) (nxOf (nmOf rs) E g) i3 HI3.out.1.mem HI3.out.2 hrle hlt3 HRETF.out HMM.out HNN.out HBB.out
                    cases hb : Wm (dirM (nmOf rs) E g) rs.length i3 i3 with
                    | true =>
                      rw [hb] at hcall
                      have HPL : Hid (PLook g (.error (8, i3))) := by
                        have h1 : FirstIs g (Thk.someC (unkT (namesOf g))) none := fun t ht => by rw [← HNAMES.out]; exact HUN.out t ht
                        have h2 := HCL.out
                        have h3 := HLE.out
                        rw [show rs.map (·.1) = namesOf g from HNAMES.out] at h2 h3
                        refine .left HFT.out h1 HLN.out h2 h3 (fun t ht => by rw [← HNAMES.out]; exact HVN.out t ht) ⟨hig, ?_, fun t ht => ?_⟩
                        · rw [← HNAMES.out, ← HGL.out]; exact hb
                        · rw [← HNAMES.out, ← HGL.out]; exact HX.out t ht
                      clear hb
                      go_wp2_with fail
                      refine hcall.mono ?_
                      rintro _ w6 ⟨rfl, hb6⟩
                      have h6 := HI3.out.1.go hb6
                      have rq := cell_of_block h6.res
                      have rf := frozen_of_block h6.res
                      have rl := heap_lt' h6.res
                      have gq := cell_of_block h6.mem.blk
                      have ggl := h6.mem.lt
                      have H6 := hideP h6
                      clear hcall hb6 h6
                      go_wp2_with fail
                      refine bodyPost_ret (v := .tuple #[.agg #[.slice xa ps.length xc, .slice (some ⟨rg, 0, none⟩) rs.length rc], .slice none 0 0, .int .i64 8, .int .i64 i3]) (by simp [results, Tryz.results39, go_sem, rq, rl]; done) rfl ⟨?_, .error (8, i3), .rules HP.out HPL.out, by simp, _, _, _, _, _, _, rfl⟩
                      exact (H6.out.below.setCell (p := ⟨w.heap.size, 0, none⟩) (Nat.le_refl _) _).setCell (p := ⟨w.heap.size, 1, none⟩) (Nat.le_refl _) _
                    | false =>
                      rw [hb] at hcall
                      have HX2 : Hid (∀ t, t < i3 + 1 → Wm (dirM (nmOf rs) E g) rs.length t t = false) := by
                        intro t ht
                        by_cases hte : t = i3
                        · subst hte; exact hb
                        · exact HX.out t (by omega)
                      clear hb
                      go_wp2_with fail
                      refine hcall.mono ?_
                      rintro _ w6 ⟨rfl, hb6⟩
                      have H6 := hideP (And.intro (HI3.out.1.go hb6) ((hb6.block lb (heap_lt' HI3.out.2)).trans HI3.out.2))
                      clear hcall hb6
                      go_wp2_with fail
                      go_roundg (rs.length - (i3 + 1))
                      case measure => omega
                      case rel => exact ⟨i3 + 1, rfl, by go_num, by omega, H6, HX2⟩
                  · have hlt3' : ¬ (i3 : Int) < rs.length := by omega
                    have HPL : Hid (PLook g (.ok E)) := by
                      have h1 : FirstIs g (Thk.someC (unkT (namesOf g))) none := fun t ht => by rw [← HNAMES.out]; exact HUN.out t ht
                      have h2 := HCL.out
                      have h3 := HLE.out
                      rw [show rs.map (·.1) = namesOf g from HNAMES.out] at h2 h3
                      refine .ok HFT.out h1 HLN.out h2 h3 (fun t ht => by rw [← HNAMES.out]; exact HVN.out t ht) (fun t ht => ?_)
                      rw [← HNAMES.out, ← HGL.out]; exact HX.out t (by have := HGL.out; omega)
                    have rq := cell_of_block HI3.out.1.res
                    have rf := frozen_of_block HI3.out.1.res
                    have rl := heap_lt' HI3.out.1.res
                    clear HRETF HMM HNN HBB HSF
                    go_wp2_with fail
                    refine bodyPost_ret (v := .tuple #[.agg #[.slice xa ps.length xc, .slice (some ⟨rg, 0, none⟩) rs.length rc], .slice (some ⟨lb, 0, none⟩) ps.length ps.length, .int .i64 0, .int .i64 0]) (by simp [results, Tryz.results39, go_sem, rq, rl]; done) rfl ⟨?_, .ok (g, E), .ok HP.out HPL.out, ?_⟩
                    · exact (HI3.out.1.below.setCell (p := ⟨w.heap.size, 0, none⟩) (Nat.le_refl _) _).setCell (p := ⟨w.heap.size, 1, none⟩) (Nat.le_refl _) _
                    · refine ⟨_, _, w1.heap.size, lb, ps, rs, l, rfl, ?_, ?_, HLEN.out, HFITS.out, HDEN.out, HLP.out, HE.out, hrle, hrpos, hple⟩
                      · exact ((HI3.out.1.mem.setLow (by omega) (by omega) _ _).setLow (by omega) (by omega) _ _).mono (by omega)
                      · rw [Below.heap_setCell _ _ _ _ (by show lb ≠ w.heap.size; omega), Below.heap_setCell _ _ _ _ (by show lb ≠ w.heap.size; omega)]; exact HI3.out.2
end Go.Proofs.YtiganlkabilblaaGreatDoor
namespace Go.Proofs.YtiganlkabilblaaGreatDoor
/-- Here a choice may end. -/
structure Stop (d : Nat) (pos : Nat) (tail : List UInt8) : Prop where
  lets : Thk.letN tail = 0
  none : Thk.begins d (TL pos tail) = false
  slash : (Thk.hd (TL pos tail)).kind ≠ .sign 47
  opt : (Thk.hd (TL pos tail)).kind ≠ .sign 63
  star : (Thk.hd (TL pos tail)).kind ≠ .sign 42
  plus : (Thk.hd (TL pos tail)).kind ≠ .sign 43
  arrow : (Thk.hd (TL pos tail)).kind ≠ .arrow
theorem behind_none {ts : List Thk.Tok} (h1 : (Thk.hd ts).kind ≠ .sign 63) (h2 : (Thk.hd ts).kind ≠ .sign 42) (h3 : (Thk.hd ts).kind ≠ .sign 43) : Thk.behindOf ts = (0, ts) := by
  unfold Thk.behindOf
  split
  · rename_i c hc
    rw [hc] at h1 h2 h3
    rw [if_neg]
    rintro (rfl | rfl | rfl)
    · exact h1 rfl
    · exact h2 rfl
    · exact h3 rfl
  · rfl
theorem Stop.behind {d pos : Nat} {tail : List UInt8} (h : Stop d pos tail) : Thk.behindOf (TL pos tail) = (0, TL pos tail) := behind_none h.opt h.star h.plus
end Go.Proofs.YtiganlkabilblaaGreatDoor
namespace Go.Proofs.YtiganlkabilblaaGreatDoor
abbrev nmS : List UInt8 := [115]
abbrev nmNum : List UInt8 := [110, 117, 109]
abbrev nmWord : List UInt8 := [119, 111, 114, 100]
end Go.Proofs.YtiganlkabilblaaGreatDoor
namespace Go.Proofs.YtiganlkabilblaaGreatDoor
theorem PAll.err {l : List UInt8} {res : Except (Nat × Nat) (List Thk.Rule × List Bool)} {x : Nat × Nat} (h : PAll l res) (hl : l.length ≤ 2000) (hg : Thk.PGram 0 (Thk.toks l) (.error x)) : res = .error x := by
  cases h with
  | text h =>
    cases h with
    | long h => omega
    | read _ h => have := hg.det h; cases this; rfl
  | rules h _ =>
    cases h with
    | read _ h => have := hg.det h; cases this
  | ok h _ =>
    cases h with
    | read _ h => have := hg.det h; cases this
abbrev numR : Thk.Rule := ⟨nmNum, [[.mk 0 (.cls [(48, 57)]) 0, .mk 0 (.name nmNum) 63]]⟩
abbrev wordR : Thk.Rule := ⟨nmWord, [[.mk 0 (.lit [97]) 0, .mk 0 (.name nmWord) 0, .mk 0 (.lit [98]) 0], [.mk 0 (.lit [99]) 0, .mk 0 (.lit [97]) 63]]⟩
abbrev g3 (c : Thk.Choice) : List Thk.Rule := [⟨nmS, [[.mk 0 (.group c) 0]]⟩, numR, wordR]
end Go.Proofs.YtiganlkabilblaaGreatDoor
namespace Go.Proofs.YtiganlkabilblaaGreatDoor
open Go.RowKit
attribute [local go_sem ↓] Go.wp_at_zero Go.wp_at_succ
theorem PAll.errNe {l : List UInt8} {er p : Nat} (h : PAll l (.error (er, p))) : er ≠ 0 := by
  cases h with
  | text h => exact read_err0 h
  | rules _ h => cases h <;> simp
end Go.Proofs.YtiganlkabilblaaGreatDoor
namespace Go.Proofs.YtiganlkabilblaaGreatDoor
open Go.RowKit Thk
attribute [local go_sem ↓] Go.wp_at_zero Go.wp_at_succ
theorem Mted.same {w w' : World} {mb : Nat} {N : List Nd} {bx : List (Nat × Nat × Nat)} {rs : List Nat} {vr : Value} {S : Nat → Prop} (h : Mted w mb N bx rs vr S) (hs : w.heap.size ≤ w'.heap.size) (hg : ∀ b, S b → w'.heap[b]? = w.heap[b]?) : Mted w' mb N bx rs vr S :=
  ⟨h.nm, fun b hb => Nat.lt_of_lt_of_le (h.lt b hb) hs, Nat.lt_of_lt_of_le h.mlt hs, fun w2 h2 h3 h4 => h.mde w2 (Nat.le_trans hs h2) (fun b hb => (h3 b hb).trans (hg b hb)) h4⟩
theorem Mted.below {w w' : World} {mb : Nat} {N : List Nd} {bx : List (Nat × Nat × Nat)} {rs : List Nat} {vr : Value} {S : Nat → Prop} (h : Mted w mb N bx rs vr S) (hb : Below w.heap.size w w') : Mted w' mb N bx rs vr S :=
  h.same hb.size (fun b hS => hb.block b (h.lt b hS))
/-- What a matcher takes. -/
theorem mtake_any {w : World} {mb : Nat} {N : List Nd} {bx : List (Nat × Nat × Nat)} {rs : List Nat} {vr : Value} {S : Nat → Prop} {g : List Rule} {s s0 : ByteArray} {tv : Value} (h : Mted w mb N bx rs vr S) (hb : w.heap[mb]? = some (matO vr s0 tv .nilIface)) (hR : DnR N rs g) (hg : 0 < g.length) (hgl : g.length ≤ 20) (hs : s.size ≤ 1000000) (o : Out) (ho : Ev g s.data.toList (.C g[0].choice) 0 o) :
    Calls Tryz.prog 60 #[ptrV mb, .string s] w fun e w' => e = .returned (.tuple #[useV 0 0 o, .bool o.isSome]) ∧ w'.heap[mb]? = some (matO vr ⟨#[]⟩ (.map none) .nilIface) ∧ Mted w' mb N bx rs vr S ∧ KpM [mb] w.heap.size w w' := by
  have hl := hR.1
  have hr0 : 0 < rs.length := by omega
  have hd := hR.2 0 hg hr0
  obtain ⟨f, hf⟩ := (Ev.pgroup ho).simN hR rs[0] hd
  have M := h.mde w (Nat.le_refl _) (fun _ _ => rfl) ⟨_, _, _, hb⟩
  refine (take_any M (by omega) hs w ⟨Nat.le_refl _, fun _ _ _ => rfl, heap_lt hb, hb⟩ f rs[0] o (List.getElem?_eq_getElem hr0) hf).mono ?_
  rintro e w' ⟨h1, h2, h3⟩
  refine ⟨h1, h2.blk, h.same h3.size (fun b hS => ?_), h3⟩
  exact h3.block b (h.lt b hS) (by simp only [List.mem_singleton]; rintro rfl; exact h.nm hS)
/-- What a text has been made into. -/
structure MdOf (B : Nat) (g : List Rule) (w0 w' : World) (mb : Nat) (N : List Nd) (bx : List (Nat × Nat × Nat)) (rs : List Nat) (vr : Value) (S : Nat → Prop) : Prop where
  ted : Mted w' mb N bx rs vr S
  blk : w'.heap[mb]? = some (matO vr ⟨#[]⟩ (.map none) .nilIface)
  dn : DnR N rs g
  mge : B ≤ mb
  gr : ∀ b, S b → B ≤ b ∨ SpanB w0 b
def MadeOf (t : List UInt8) (w : World) (e : Ending) (w' : World) : Prop :=
  Below w.heap.size w w' ∧ ∃ res, PAll t res ∧ match res with
    | .error (er, _) => e = .returned (.tuple #[.pointer none, .int .i64 er])
    | .ok (g, _) => g.length ≤ 20 ∧ ∃ mb N bx rs vr S, e = .returned (.tuple #[ptrV mb, .int .i64 0]) ∧ MdOf w.heap.size g w w' mb N bx rs vr S
set_option maxHeartbeats 8000000 in
set_option maxRecDepth 100000 in
theorem made_any (s : ByteArray) (w : World) (hs : s.size ≤ maxLen) (hg : ErrLaid w) :
    Calls Tryz.prog 58 #[.string s] w fun e w' => MadeOf s.data.toList w e w' := by
  have hrd := readAll_any s w hs
  have HG : Hid (ErrLaid w) := hg
  clear hg
  go_enter Tryz.func58, Tryz.ntmps58
  go_wp2_with fail
  refine hrd.mono ?_
  rintro e w1 ⟨res, hP, hb, hE⟩
  have HB : Hid (Below w.heap.size w w1) := hb
  have hs1 := hb.size
  have HP : Hid (PAll s.data.toList res) := hP
  clear hrd hP hb
  cases res with
  | error x =>
    obtain ⟨er, p⟩ := x
    have htd := fun O => told_fault er p (w1.alloc O) (HG.out.below (HB.out.alloc hs1 O))
    have h0 := HP.out.errNe
    have h1 : ¬ (er : Int) = 0 := by omega
    simp only [faultV] at hE htd
    subst hE
    go_wp2_with fail
    refine (htd _).mono ?_
    rintro e w2 ⟨rfl, hb2⟩
    have HB2 : Hid (Below w.heap.size w w2) := (HB.out.alloc hs1 _).trans (hb2.mono (by simp; omega))
    clear htd hb2
    go_wp2_with fail
    go_ret2
    exact ⟨HB2.out, .error (er, p), HP.out, rfl⟩
  | ok y =>
    obtain ⟨g, E⟩ := y
    obtain ⟨hg0, hgl, a, cp, nb, eb, rfl, hGr, hFa⟩ := hE
    have htd := fun O => told_nil (w1.alloc O)
    have hmk := fun (W : World) (hb : Below w1.heap.size w1 W) => make_any W (w.heap.size ≤ ·) g a cp nb (hGr.kept (sm_below hb)) (hFa.map.below hb) HP.out.gok (fun r hr => (HP.out.ok' r hr).1) hgl
    have HMK := hideP hmk
    clear hg0 hGr hFa hmk
    simp only [factsV]
    go_wp2_with fail
    refine (htd _).mono ?_
    rintro e w2 ⟨rfl, hb2⟩
    have hz2' := hb2.size
    simp at hz2'
    have f0 : w2.cell? ⟨w1.heap.size, 0, none⟩ = some (.map (some nb)) := by rw [hb2.cell (p := ⟨w1.heap.size, 0, none⟩) (by simp)]; exact cell_of_block (heap_alloc_same w1 _) 0
    have HB12 : Hid (Below w1.heap.size w1 w2) := (below_alloc _ _).trans (hb2.mono (by simp))
    have HB2 : Hid (Below w.heap.size w w2) := HB.out.trans (HB12.out.mono hs1)
    clear htd hb2
    go_wp2_with fail
    refine (HMK.out w2 HB12.out).mono ?_
    rintro _ w3 ⟨mb, N, bx, rs, vr, S, rfl, h1, h2, h3, h4, h5, h6⟩
    have HZ : Hid (MadeOf s.data.toList w (.returned (.tuple #[ptrV mb, .int .i64 0])) w3) := hideP ⟨HB2.out.trans (h4.mono HB2.out.size), .ok (g, E), HP.out, hgl, mb, N, bx, rs, vr, S, rfl, h1, h2, h3, Nat.le_trans HB2.out.size h5, fun b hb => by
      rcases h6 b hb with h' | ⟨cu, h'⟩
      · exact .inl (Nat.le_trans HB2.out.size h')
      · rcases Nat.lt_or_ge b w.heap.size with hl | hl
        · exact .inr ⟨cu, by rw [← HB2.out.block b hl]; exact h'⟩
        · exact .inl hl⟩
    clear h1 h2 h3 h4 h5 h6
    go_wp2_with fail
    go_ret2
    exact HZ.out
theorem useV_form (o : Out) : ∃ (c : Int) (nv : Value), useV 0 0 o = .agg #[.int .i64 0, .int .i64 0, .int .i64 c, nv] ∧ (nv = .nilIface ∨ ∃ t v, nv = .iface t v) := by
  cases o with
  | none => exact ⟨0, .nilIface, rfl, .inl rfl⟩
  | some x => exact ⟨x.1, ntV x.2, rfl, nt_form x.2⟩
/-- What take tells. -/
def TakeOf (t : List UInt8) (s : ByteArray) (w : World) (e : Ending) (w' : World) : Prop :=
  Below w.heap.size w w' ∧ ∃ res, PAll t res ∧ match res with
    | .error (er, _) => er ≠ 0 ∧ e = .returned (.tuple #[useV 0 0 none, .bool false, .int .i64 er])
    | .ok (g, _) => if 200 < s.size then e = .returned (.tuple #[useV 0 0 none, .bool false, .int .i64 1]) else ∃ o, (∀ h : 0 < g.length, Ev g s.data.toList (.C g[0].choice) 0 o) ∧ e = .returned (.tuple #[useV 0 0 o, .bool o.isSome, .int .i64 0])
theorem results_cell_tmp2 {fn : Func} {p u u2 : Tmp} {ty : TypeId} (h : fn.results = #[.cell p ty, .tmp u, .tmp u2]) (tmps : Array Value) (P : Program) (w : World) :
    (results fn tmps).run P w =
      ((asAddr (tmps.getD p undef)).run P w).andThen fun a w₁ => ((loadVar ty a).run P w₁).andThen fun v w₂ => .ok (.tuple #[v, tmps.getD u undef, tmps.getD u2 undef]) w₂ := by
  simp only [results, h]
  simp [Sem.run_bind, Result.andThen]
theorem results_row_tmp2 {P : Program} {fn : Func} {p u u2 : Tmp} {ty : TypeId} (h : fn.results = #[.cell p ty, .tmp u, .tmp u2]) (tmps : Array Value) (w : World) (g : Nat) (t : TypeId) (cs : Array Value) (fr : Nat × Nat) (d : TypeDesc)
    (hp : tmps.getD p undef = .pointer (some ⟨g, 0, none⟩)) (hg : w.heap[g]? = some (.cells cs t fr))
    (hu : P.underlying ty = some d) (hd : (match d with | .struct _ | .array _ _ => true | _ => false) = true) (hi : (P.info? ty).map (·.size) = some cs.size) :
    (results fn tmps).run P w = .ok (.tuple #[.agg cs, tmps.getD u undef, tmps.getD u2 undef]) w := by
  rw [results_cell_tmp2 h, hp]
  simp [asAddr, run_loadVar_row w g t ty cs fr d hg hu hd hi, Result.andThen]
set_option maxHeartbeats 8000000 in
set_option maxRecDepth 100000 in
theorem ptake_any (t s : ByteArray) (w : World) (hs : t.size ≤ maxLen) (hs2 : s.size ≤ maxLen) (hg : ErrLaid w) :
    Calls Tryz.prog 55 #[.string t, .string s] w fun e w' => TakeOf t.data.toList s w e w' := by
  unfold maxLen at hs2
  have hmd := made_any t (w.alloc useC) hs (hg.below (below_alloc w useC))
  go_enter Tryz.func55, Tryz.ntmps55
  go_wp2_with fail
  refine hmd.mono ?_
  rintro e w1 ⟨hb, res, hP, hE⟩
  have hz := hb.size
  simp at hz
  have hu1 : w1.heap[w.heap.size]? = some useC := by rw [hb.block _ (by simp)]; exact heap_alloc_same _ _
  have z0 := cell_of_block hu1
  have f0 := frozen_of_block hu1
  have l0 := heap_lt' hu1
  have HU1 := hideP hu1
  have HB : Hid (Below w.heap.size w w1) := (below_alloc w useC).trans (hb.mono (by simp))
  have HP := hideP hP
  clear hmd hb hP hu1
  cases res with
  | error x =>
    obtain ⟨er, p⟩ := x
    simp only [] at hE
    subst hE
    have h0 := HP.out.errNe
    have h1 : ¬ (er : Int) = 0 := by omega
    go_wp2_with fail
    refine bodyPost_ret (results_row_tmp2 rfl _ _ w.heap.size _ _ _ _ rfl (by rw [heap_setCell_at (heap_setCell_at (heap_setCell_at (heap_setCell_at HU1.out _) _) _) _]) Tryz.underlying108 rfl (by kernel_rfl)) rfl ?_
    exact ⟨(((HB.out.setCell (p := ⟨w.heap.size, 0, none⟩) (Nat.le_refl _) _).setCell (p := ⟨w.heap.size, 1, none⟩) (Nat.le_refl _) _).setCell (p := ⟨w.heap.size, 2, none⟩) (Nat.le_refl _) _).setCell (p := ⟨w.heap.size, 3, none⟩) (Nat.le_refl _) _, .error (er, p), HP.out, h0, rfl⟩
  | ok y =>
    obtain ⟨g, E⟩ := y
    obtain ⟨hgl, mb, N, bx, rs, vr, S, rfl, hM⟩ := hE
    by_cases hlong : 200 < s.size
    · have hlong' : (200 : Int) < s.size := by omega
      clear hM
      go_wp2_with fail
      refine bodyPost_ret (results_row_tmp2 rfl _ _ w.heap.size _ _ _ _ rfl (by rw [heap_setCell_at (heap_setCell_at (heap_setCell_at (heap_setCell_at HU1.out _) _) _) _]) Tryz.underlying108 rfl (by kernel_rfl)) rfl ?_
      refine ⟨(((HB.out.setCell (p := ⟨w.heap.size, 0, none⟩) (Nat.le_refl _) _).setCell (p := ⟨w.heap.size, 1, none⟩) (Nat.le_refl _) _).setCell (p := ⟨w.heap.size, 2, none⟩) (Nat.le_refl _) _).setCell (p := ⟨w.heap.size, 3, none⟩) (Nat.le_refl _) _, .ok (g, E), HP.out, ?_⟩
      simp only []
      rw [if_pos hlong]
      rfl
    · have hlong' : ¬ (200 : Int) < s.size := by omega
      have hgp := HP.out.ends.pos
      obtain ⟨o, ho⟩ := tot_first (inp := s.data.toList) HP.out.ends
      have HTK := hideP (mtake_any hM.ted hM.blk hM.dn hgp hgl (by omega) o ho)
      have hmne : w.heap.size ≠ mb := by have := hM.mge; simp at this; omega
      have hmge : w.heap.size ≤ mb := by have := hM.mge; simp at this; omega
      have HO := hideP ho
      clear hM ho
      go_wp2_with fail
      refine HTK.out.mono ?_
      rintro _ w2 ⟨rfl, h2, h3, h4⟩
      have hz4 := h4.size
      have hu2 : w2.heap[w.heap.size]? = some useC := by rw [h4.block _ l0 (by simpa using hmne)]; exact HU1.out
      have HB2 : Hid (Below w.heap.size w w2) := hideP (HB.out.trans (h4.belowOf (by simpa using hmge) (by omega)))
      have z2 := cell_of_block hu2
      have f2 := frozen_of_block hu2
      have l2 := heap_lt' hu2
      have HU2 := hideP hu2
      have HZ : Hid (∀ w', Below w.heap.size w w' → TakeOf t.data.toList s w (.returned (.tuple #[useV 0 0 o, .bool o.isSome, .int .i64 0])) w') := hideP (fun w' hb => by
        refine ⟨hb, .ok (g, E), HP.out, ?_⟩
        simp only []
        rw [if_neg hlong]
        exact ⟨o, fun _ => HO.out, rfl⟩)
      obtain ⟨c, nv, huv, hnv⟩ := useV_form o
      have HUV := hideP huv
      have hfin : ∀ (X : World) (v : Value), X = ((((w2.setCell ⟨w.heap.size, 0, none⟩ (.int .i64 0)).setCell ⟨w.heap.size, 1, none⟩ (.int .i64 0)).setCell ⟨w.heap.size, 2, none⟩ (.int .i64 c)).setCell ⟨w.heap.size, 3, none⟩ v) → Below w.heap.size w X ∧ X.heap[w.heap.size]? = some (.cells #[.int .i64 0, .int .i64 0, .int .i64 c, v] 108 (0, 0)) := by
        rintro X v rfl
        refine ⟨(((HB2.out.setCell (p := ⟨w.heap.size, 0, none⟩) (Nat.le_refl _) _).setCell (p := ⟨w.heap.size, 1, none⟩) (Nat.le_refl _) _).setCell (p := ⟨w.heap.size, 2, none⟩) (Nat.le_refl _) _).setCell (p := ⟨w.heap.size, 3, none⟩) (Nat.le_refl _) _, ?_⟩
        rw [heap_setCell_at (heap_setCell_at (heap_setCell_at (heap_setCell_at HU2.out _) _) _) _]; rfl
      have HFIN := hideP hfin
      clear hfin z0 f0 l0 HU1 h2 h3 h4 hu2 HTK
      rw [huv] at HZ ⊢
      clear huv
      generalize o.isSome = ob at *
      rcases hnv with rfl | ⟨nt, nx, rfl⟩
      · go_wp2_with fail
        have hX := HFIN.out _ .nilIface rfl
        refine bodyPost_ret (results_row_tmp2 rfl _ _ w.heap.size _ _ _ _ rfl (by rw [heap_alloc_old _ _ (heap_lt hX.2)]; exact hX.2) Tryz.underlying108 rfl (by kernel_rfl)) rfl ?_
        exact HZ.out _ (hX.1.alloc hX.1.size _)
      · go_wp2_with fail
        have hX := HFIN.out _ (.iface nt nx) rfl
        refine bodyPost_ret (results_row_tmp2 rfl _ _ w.heap.size _ _ _ _ rfl (by rw [heap_alloc_old _ _ (heap_lt hX.2)]; exact hX.2) Tryz.underlying108 rfl (by kernel_rfl)) rfl ?_
        exact HZ.out _ (hX.1.alloc hX.1.size _)
end Go.Proofs.YtiganlkabilblaaGreatDoor
namespace Go.Proofs.YtiganlkabilblaaGreatDoor
open Go.RowKit
attribute [local go_sem ↓] Go.wp_at_zero Go.wp_at_succ
set_option maxHeartbeats 16000000 in
set_option maxRecDepth 100000 in
/-- What has a sign, but for repetitions. -/
theorem tried_sign {w0 : World} {B gb tb eb ec : Nat} {vx vr : Value} {ps : List (Thk.RE × Value × Value)} {rs : List (Thk.Bytes × Nat)} {s : ByteArray} {rbs : List Nat} (hE : Env w0 B gb vx vr ps rs s rbs) (f : Nat) (hT : TryC w0 tb eb ec vx vr ps rs s rbs f) (w : World) (i k : Nat) (e : Thk.RE) (n : Option Nat) (h : Stt w0 tb eb ec vx vr ps rs s rbs w) (hk : k ≤ s.size) (hx : (xsOf ps)[i]? = some e) (hok : okE (nmOf rs) e = true) (hkd : e.kind = 7 ∨ e.kind = 10 ∨ e.kind = 11) (hn : evS ps rs s f (e.parts.headD 0) k = some n) :
    Calls Tryz.prog 148 #[.pointer (some ⟨tb, 0, none⟩), .int .i64 i, .int .i64 k] w fun e' w' => e' = .returned (.int .i64 (encR (if e.kind = 7 then some (n.getD k) else if e.kind = 10 then (if n.isSome then some k else none) else (if n.isSome then none else some k)))) ∧ Stt w0 tb eb ec vx vr ps rs s rbs w' ∧ KpM rbs w.heap.size w w' := by
  obtain ⟨xg, xc, ia, ic, pa, pc, hi, rfl, hxl, c0, c1, c2, c3, c4, hpn, hpc, hit, hil, _, hp1, hkn⟩ := h.exq hE hx hok
  obtain ⟨htl, hsz, hold, q⟩ := h.cells
  have hpl := hE.ple
  have hsl := hE.sle
  have hil' : (i : Int) < ps.length := by omega
  obtain ⟨p0, hp0⟩ := hp1 (by omega)
  obtain ⟨pg, hpa, hpg, hpcell⟩ := hpc 0 (by rw [hp0]; simp)
  subst hpa
  have hpcell2 : w.cell? ⟨pg, 0, none⟩ = some (.int .i64 p0) := by
    rw [World.cell?_of_block (a := ⟨pg, 0, none⟩) (hold pg hpg), hpcell]
    simp [hp0]
  have hpg2 : pg < w.heap.size := by omega
  rw [hp0] at hn c4
  simp only [List.headD_cons, List.length_singleton] at hn c4
  have hle : ∀ x, n = some x → k ≤ x := by
    intro x hnx
    subst hnx
    exact (evR_le _ _ _ _ hn (show k ≤ s.data.toList.length from hk)).1
  have htry := fun (O : Obj) => hT (w.alloc O) p0 k n (h.below (below_alloc w O)) hk hn
  have HTR := hideP htry
  have HF := hideP h.fresh
  have q0 : w.cell? ⟨tb, 0, none⟩ = some (.slice (some ⟨xg, 0, none⟩) ps.length xc) := q 0
  clear hok hit hpc h hx hE hkn htry hT hn q hold hpcell hp0 hp1
  generalize e.items.length = il at *
  generalize rfE (nmOf rs) e 0 = z at *
  generalize e.text = tx at *
  generalize e.kind = K at *
  rcases hkd with rfl | rfl | rfl
  · cases n with
    | none =>
      go_enter Tryz.func148, Tryz.ntmps148
      go_wp2_with fail
      refine (HTR.out _).mono ?_
      rintro _ w1 ⟨rfl, hs1, hk1⟩
      have ho := hk1.own HF.out
      have qo := cell_of_block ho
      have lo := heap_lt' ho
      have HS1 := hideP hs1
      have HK1 := hideP hk1.alloc
      clear hs1 hk1 ho
      simp only [encR]
      go_wp2_with fail
      go_ret
      exact ⟨by simp [encR]; try omega, HS1.out, HK1.out⟩
    | some x =>
      have hx1 := hle x rfl
      go_enter Tryz.func148, Tryz.ntmps148
      go_wp2_with fail
      refine (HTR.out _).mono ?_
      rintro _ w1 ⟨rfl, hs1, hk1⟩
      have ho := hk1.own HF.out
      have qo := cell_of_block ho
      have lo := heap_lt' ho
      have HS1 := hideP hs1
      have HK1 := hideP hk1.alloc
      clear hs1 hk1 ho
      simp only [encR]
      go_wp2_with fail
      go_ret
      exact ⟨by simp [encR]; try omega, HS1.out, HK1.out⟩
  · cases n with
    | none =>
      go_enter Tryz.func148, Tryz.ntmps148
      go_wp2_with fail
      refine (HTR.out _).mono ?_
      rintro _ w1 ⟨rfl, hs1, hk1⟩
      have ho := hk1.own HF.out
      have qo := cell_of_block ho
      have lo := heap_lt' ho
      have HS1 := hideP hs1
      have HK1 := hideP hk1.alloc
      clear hs1 hk1 ho
      simp only [encR]
      go_wp2_with fail
      go_ret
      exact ⟨by simp [encR], HS1.out, HK1.out⟩
    | some x =>
      have hx0 : ¬ (x : Int) < 0 := by omega
      go_enter Tryz.func148, Tryz.ntmps148
      go_wp2_with fail
      refine (HTR.out _).mono ?_
      rintro _ w1 ⟨rfl, hs1, hk1⟩
      have ho := hk1.own HF.out
      have qo := cell_of_block ho
      have lo := heap_lt' ho
      have HS1 := hideP hs1
      have HK1 := hideP hk1.alloc
      clear hs1 hk1 ho
      simp only [encR]
      go_wp2_with fail
      go_ret
      exact ⟨by simp [encR], HS1.out, HK1.out⟩
  · cases n with
    | none =>
      go_enter Tryz.func148, Tryz.ntmps148
      go_wp2_with fail
      refine (HTR.out _).mono ?_
      rintro _ w1 ⟨rfl, hs1, hk1⟩
      have ho := hk1.own HF.out
      have qo := cell_of_block ho
      have lo := heap_lt' ho
      have HS1 := hideP hs1
      have HK1 := hideP hk1.alloc
      clear hs1 hk1 ho
      simp only [encR]
      go_wp2_with fail
      go_ret
      exact ⟨by simp [encR], HS1.out, HK1.out⟩
    | some x =>
      have hx0 : (0 : Int) ≤ (x : Int) := by omega
      go_enter Tryz.func148, Tryz.ntmps148
      go_wp2_with fail
      refine (HTR.out _).mono ?_
      rintro _ w1 ⟨rfl, hs1, hk1⟩
      have ho := hk1.own HF.out
      have qo := cell_of_block ho
      have lo := heap_lt' ho
      have HS1 := hideP hs1
      have HK1 := hideP hk1.alloc
      clear hs1 hk1 ho
      simp only [encR]
      go_wp2_with fail
      go_ret
      exact ⟨by simp [encR], HS1.out, HK1.out⟩
end Go.Proofs.YtiganlkabilblaaGreatDoor
namespace Go.Proofs.YtiganlkabilblaaGreatDoor
open Go.RowKit
attribute [local go_sem ↓] Go.wp_at_zero Go.wp_at_succ
theorem repR_some {F : REv} {j : Nat} : ∀ {c : Nat} {o : Option Nat} {k : Nat} {v : Option Nat}, repR F j c o k = some v → ∃ e, v = some e
  | 0, _, _, _, h => by simp [repR] at h
  | c + 1, none, k, v, h => by simp [repR] at h; exact ⟨k, h.symm⟩
  | c + 1, some x, k, v, h => by
    simp only [repR] at h
    split at h
    · cases h
    · exact repR_some h
theorem encR_none : encR none = -1 := rfl
theorem encR_some (e : Nat) : encR (some e) = (e : Int) := rfl
/-- What stands in the loop of repetitions. -/
structure RpAt (w : World) (w0 : World) (tb eb ec : Nat) (vx vr : Value) (ps : List (Thk.RE × Value × Value)) (rs : List (Thk.Bytes × Nat)) (s : ByteArray) (rbs : List Nat) (f p0 ee : Nat) (O : Obj) (c : Nat) (o : Option Nat) (kk : Nat) (wr : World) : Prop where
  rep : repR (evS ps rs s f) p0 c o kk = some (some ee)
  st : Stt w0 tb eb ec vx vr ps rs s rbs wr
  kp : KpM rbs w.heap.size w wr
  own : wr.heap[w.heap.size]? = some O
  le : kk ≤ s.size
  lo : ∀ x, o = some x → x ≤ s.size
set_option maxHeartbeats 16000000 in
set_option maxRecDepth 100000 in
/-- Repetitions. -/
theorem tried_many {w0 : World} {B gb tb eb ec : Nat} {vx vr : Value} {ps : List (Thk.RE × Value × Value)} {rs : List (Thk.Bytes × Nat)} {s : ByteArray} {rbs : List Nat} (hE : Env w0 B gb vx vr ps rs s rbs) (f : Nat) (hT : TryC w0 tb eb ec vx vr ps rs s rbs f) (w : World) (i k : Nat) (e : Thk.RE) (n v : Option Nat) (h : Stt w0 tb eb ec vx vr ps rs s rbs w) (hk : k ≤ s.size) (hx : (xsOf ps)[i]? = some e) (hok : okE (nmOf rs) e = true) (hkd : e.kind = 8 ∨ e.kind = 9) (hn : evS ps rs s f (e.parts.headD 0) k = some n) (hv : (if e.kind = 9 ∧ n = none then some none else repR (evS ps rs s f) (e.parts.headD 0) f n k) = some v) :
    Calls Tryz.prog 148 #[.pointer (some ⟨tb, 0, none⟩), .int .i64 i, .int .i64 k] w fun e' w' => e' = .returned (.int .i64 (encR v)) ∧ Stt w0 tb eb ec vx vr ps rs s rbs w' ∧ KpM rbs w.heap.size w w' := by
  obtain ⟨xg, xc, ia, ic, pa, pc, hi, rfl, hxl, c0, c1, c2, c3, c4, hpn, hpc, hit, hil, _, hp1, hkn⟩ := h.exq hE hx hok
  obtain ⟨htl, hsz, hold, q⟩ := h.cells
  have hpl := hE.ple
  have hsl := hE.sle
  have hil' : (i : Int) < ps.length := by omega
  obtain ⟨p0, hp0⟩ := hp1 (by omega)
  obtain ⟨pg, hpa, hpg, hpcell⟩ := hpc 0 (by rw [hp0]; simp)
  subst hpa
  have hpcell2 : w.cell? ⟨pg, 0, none⟩ = some (.int .i64 p0) := by
    rw [World.cell?_of_block (a := ⟨pg, 0, none⟩) (hold pg hpg), hpcell]
    simp [hp0]
  have hpcell0 : w0.cell? ⟨pg, 0, none⟩ = some (.int .i64 p0) := by
    rw [hpcell]
    simp [hp0]
  have hpg2 : pg < w.heap.size := by omega
  rw [hp0] at hn c4 hv
  simp only [List.headD_cons, List.length_singleton] at hn c4 hv
  have hle : ∀ x, n = some x → x ≤ s.size := by
    intro x hnx
    subst hnx
    exact (evR_le _ _ _ _ hn (show k ≤ s.data.toList.length from hk)).2
  have htry := fun (O : Obj) => hT (w.alloc O) p0 k n (h.below (below_alloc w O)) hk hn
  have HTR := hideP htry
  have HTT := hideP hT
  have HF := hideP h.fresh
  have HPC := hideP hpcell0
  have HV := hideP hv
  have q0 : w.cell? ⟨tb, 0, none⟩ = some (.slice (some ⟨xg, 0, none⟩) ps.length xc) := q 0
  clear hok hit hpc h hx hE hkn htry hT hn q hold hpcell hp0 hp1 hpcell0 hv
  generalize e.items.length = il at *
  generalize rfE (nmOf rs) e 0 = z at *
  generalize e.text = tx at *
  generalize e.kind = K at *
  by_cases h9 : K = 9 ∧ n = none
  · obtain ⟨rfl, rfl⟩ := h9
    have hv0 : v = none := by have := HV.out; simpa using this.symm
    subst hv0
    simp only [encR_none] at *
    go_enter Tryz.func148, Tryz.ntmps148
    go_wp2_with fail
    refine (HTR.out _).mono ?_
    rintro _ w1 ⟨rfl, hs1, hk1⟩
    have ho := hk1.own HF.out
    have qo := cell_of_block ho
    have lo := heap_lt' ho
    have HS1 := hideP hs1
    have HK1 := hideP hk1.alloc
    clear hs1 hk1 ho
    go_wp2_with fail
    go_ret
    exact ⟨rfl, HS1.out, HK1.out⟩
  · have hv1 := HV.out
    rw [if_neg h9] at hv1
    obtain ⟨ee, rfl⟩ := repR_some hv1
    have HV1 := hideP hv1
    have hgo : K = 8 ∨ (K = 9 ∧ ∃ x, n = some x) := by
      rcases hkd with h8 | h8
      · exact .inl h8
      · refine .inr ⟨h8, ?_⟩
        cases n with
        | none => exact absurd ⟨h8, rfl⟩ h9
        | some x => exact ⟨x, rfl⟩
    simp only [encR_some]
    clear hv1 HV h9 hkd
    have hgo2 : (K = 8 ∧ n = none) ∨ (K = 8 ∧ ∃ x, n = some x) ∨ (K = 9 ∧ ∃ x, n = some x) := by
      rcases hgo with h8 | h8
      · cases n with
        | none => exact .inl ⟨h8, rfl⟩
        | some x => exact .inr (.inl ⟨h8, x, rfl⟩)
      · exact .inr (.inr h8)
    clear hgo
    rcases hgo2 with ⟨rfl, rfl⟩ | ⟨rfl, x0, rfl⟩ | ⟨rfl, x0, rfl⟩
    · skip
      go_enter Tryz.func148, Tryz.ntmps148
      go_wp2_with fail
      refine (HTR.out _).mono ?_
      rintro _ w1 ⟨rfl, hs1, hk1⟩
      have ho := hk1.own HF.out
      have qo := cell_of_block ho
      have lo := heap_lt' ho
      have HS0 : Hid (RpAt w w0 tb eb ec (.slice (some ⟨xg, 0, none⟩) ps.length xc) vr ps rs s rbs f p0 ee (Obj.cells #[.int .i64 8, .slice ia il ic, .string ⟨tx.toArray⟩, .int .i64 z, .slice (some ⟨pg, 0, none⟩) 1 pc] 149 (0, 0)) f none k w1) := ⟨HV1.out, hs1, hk1.alloc, ho, hk, hle⟩
      clear hs1 hk1 ho
      simp only [encR_none]
      go_wp2_with fail
      go_loopg [2, 11] f (fun m va vn wr => ∃ (c : Nat) (o : Option Nat) (kk : Nat), m = c ∧ va = .int .i64 kk ∧ vn = .int .i64 (encR o) ∧ Hid (RpAt w w0 tb eb ec (.slice (some ⟨xg, 0, none⟩) ps.length xc) vr ps rs s rbs f p0 ee (Obj.cells #[.int .i64 8, .slice ia il ic, .string ⟨tx.toArray⟩, .int .i64 z, .slice (some ⟨pg, 0, none⟩) 1 pc] 149 (0, 0)) c o kk wr))
      case atStart => exact ⟨f, none, k, rfl, rfl, rfl, HS0⟩
      case round =>
        obtain ⟨c, o, kk, hmc, rfl, rfl, HI⟩ := hrel
        cases c with
        | zero => have := HI.out.rep; simp [repR] at this
        | succ c =>
          obtain ⟨htl2, hsz2, hold2, _⟩ := HI.out.st.cells
          have qo2 := cell_of_block HI.out.own
          have lo2 := heap_lt' HI.out.own
          cases o with
          | none =>
            have hee : ee = kk := by
              have hr := HI.out.rep
              simp [repR] at hr
              exact hr.symm
            subst hee
            simp only [encR_none]
            go_wp2_with fail
            go_ret
            exact ⟨rfl, HI.out.st, HI.out.kp⟩
          | some x =>
            have hxle := HI.out.lo x rfl
            have hx1 : (0 : Int) ≤ (x : Int) := by omega
            have hr := HI.out.rep
            simp only [repR] at hr
            obtain ⟨n2, hn2, hr2⟩ : ∃ n2, evS ps rs s f p0 x = some n2 ∧ repR (evS ps rs s f) p0 c n2 x = some (some ee) := by
              cases hF : evS ps rs s f p0 x with
              | none => rw [hF] at hr; cases hr
              | some n2 => rw [hF] at hr; exact ⟨n2, rfl, hr⟩
            have htry2 := HTT.out wr p0 x n2 HI.out.st hxle hn2
            have HR2 := hideP hr2
            have HN2 := hideP hn2
            have hpc2 : wr.cell? ⟨pg, 0, none⟩ = some (.int .i64 p0) := by
              rw [World.cell?_of_block (a := ⟨pg, 0, none⟩) (hold2 pg hpg)]; exact HPC.out
            have hpg3 : pg < wr.heap.size := by omega
            simp only [encR_some]
            clear hr hr2 hn2 hold2
            go_wp2_with fail
            refine htry2.mono ?_
            rintro _ w3 ⟨rfl, hs3, hk3⟩
            have HN : Hid (RpAt w w0 tb eb ec (.slice (some ⟨xg, 0, none⟩) ps.length xc) vr ps rs s rbs f p0 ee (Obj.cells #[.int .i64 8, .slice ia il ic, .string ⟨tx.toArray⟩, .int .i64 z, .slice (some ⟨pg, 0, none⟩) 1 pc] 149 (0, 0)) c n2 x w3) := by
              refine ⟨HR2.out, hs3, KpM.go HI.out.kp hk3, ?_, hxle, ?_⟩
              · rw [hk3.block _ lo2 (fun hb => by have := HF.out _ hb; omega)]; exact HI.out.own
              · intro y hy
                subst hy
                exact (evR_le _ _ _ _ HN2.out (show x ≤ s.data.toList.length from hxle)).2
            clear htry2 hs3 hk3
            go_wp2_with fail
            go_roundg c
            case measure => omega
            case rel => exact ⟨c, n2, x, rfl, rfl, rfl, HN⟩
    · skip
      go_enter Tryz.func148, Tryz.ntmps148
      go_wp2_with fail
      refine (HTR.out _).mono ?_
      rintro _ w1 ⟨rfl, hs1, hk1⟩
      have ho := hk1.own HF.out
      have qo := cell_of_block ho
      have lo := heap_lt' ho
      have HS0 : Hid (RpAt w w0 tb eb ec (.slice (some ⟨xg, 0, none⟩) ps.length xc) vr ps rs s rbs f p0 ee (Obj.cells #[.int .i64 8, .slice ia il ic, .string ⟨tx.toArray⟩, .int .i64 z, .slice (some ⟨pg, 0, none⟩) 1 pc] 149 (0, 0)) f (some x0) k w1) := ⟨HV1.out, hs1, hk1.alloc, ho, hk, hle⟩
      clear hs1 hk1 ho
      have hx0 : ¬ (x0 : Int) < 0 := by omega
      have hx0b : decide ((x0 : Int) < 0) = false := by simp
      simp only [encR_some]
      go_wp2_with fail
      go_loopg [2, 11] f (fun m va vn wr => ∃ (c : Nat) (o : Option Nat) (kk : Nat), m = c ∧ va = .int .i64 kk ∧ vn = .int .i64 (encR o) ∧ Hid (RpAt w w0 tb eb ec (.slice (some ⟨xg, 0, none⟩) ps.length xc) vr ps rs s rbs f p0 ee (Obj.cells #[.int .i64 8, .slice ia il ic, .string ⟨tx.toArray⟩, .int .i64 z, .slice (some ⟨pg, 0, none⟩) 1 pc] 149 (0, 0)) c o kk wr))
      case atStart => exact ⟨f, (some x0), k, rfl, rfl, rfl, HS0⟩
      case round =>
        obtain ⟨c, o, kk, hmc, rfl, rfl, HI⟩ := hrel
        cases c with
        | zero => have := HI.out.rep; simp [repR] at this
        | succ c =>
          obtain ⟨htl2, hsz2, hold2, _⟩ := HI.out.st.cells
          have qo2 := cell_of_block HI.out.own
          have lo2 := heap_lt' HI.out.own
          cases o with
          | none =>
            have hee : ee = kk := by
              have hr := HI.out.rep
              simp [repR] at hr
              exact hr.symm
            subst hee
            simp only [encR_none]
            go_wp2_with fail
            go_ret
            exact ⟨rfl, HI.out.st, HI.out.kp⟩
          | some x =>
            have hxle := HI.out.lo x rfl
            have hx1 : (0 : Int) ≤ (x : Int) := by omega
            have hr := HI.out.rep
            simp only [repR] at hr
            obtain ⟨n2, hn2, hr2⟩ : ∃ n2, evS ps rs s f p0 x = some n2 ∧ repR (evS ps rs s f) p0 c n2 x = some (some ee) := by
              cases hF : evS ps rs s f p0 x with
              | none => rw [hF] at hr; cases hr
              | some n2 => rw [hF] at hr; exact ⟨n2, rfl, hr⟩
            have htry2 := HTT.out wr p0 x n2 HI.out.st hxle hn2
            have HR2 := hideP hr2
            have HN2 := hideP hn2
            have hpc2 : wr.cell? ⟨pg, 0, none⟩ = some (.int .i64 p0) := by
              rw [World.cell?_of_block (a := ⟨pg, 0, none⟩) (hold2 pg hpg)]; exact HPC.out
            have hpg3 : pg < wr.heap.size := by omega
            simp only [encR_some]
            clear hr hr2 hn2 hold2
            go_wp2_with fail
            refine htry2.mono ?_
            rintro _ w3 ⟨rfl, hs3, hk3⟩
            have HN : Hid (RpAt w w0 tb eb ec (.slice (some ⟨xg, 0, none⟩) ps.length xc) vr ps rs s rbs f p0 ee (Obj.cells #[.int .i64 8, .slice ia il ic, .string ⟨tx.toArray⟩, .int .i64 z, .slice (some ⟨pg, 0, none⟩) 1 pc] 149 (0, 0)) c n2 x w3) := by
              refine ⟨HR2.out, hs3, KpM.go HI.out.kp hk3, ?_, hxle, ?_⟩
              · rw [hk3.block _ lo2 (fun hb => by have := HF.out _ hb; omega)]; exact HI.out.own
              · intro y hy
                subst hy
                exact (evR_le _ _ _ _ HN2.out (show x ≤ s.data.toList.length from hxle)).2
            clear htry2 hs3 hk3
            go_wp2_with fail
            go_roundg c
            case measure => omega
            case rel => exact ⟨c, n2, x, rfl, rfl, rfl, HN⟩
    · skip
      go_enter Tryz.func148, Tryz.ntmps148
      go_wp2_with fail
      refine (HTR.out _).mono ?_
      rintro _ w1 ⟨rfl, hs1, hk1⟩
      have ho := hk1.own HF.out
      have qo := cell_of_block ho
      have lo := heap_lt' ho
      have HS0 : Hid (RpAt w w0 tb eb ec (.slice (some ⟨xg, 0, none⟩) ps.length xc) vr ps rs s rbs f p0 ee (Obj.cells #[.int .i64 9, .slice ia il ic, .string ⟨tx.toArray⟩, .int .i64 z, .slice (some ⟨pg, 0, none⟩) 1 pc] 149 (0, 0)) f (some x0) k w1) := ⟨HV1.out, hs1, hk1.alloc, ho, hk, hle⟩
      clear hs1 hk1 ho
      have hx0 : ¬ (x0 : Int) < 0 := by omega
      have hx0b : decide ((x0 : Int) < 0) = false := by simp
      simp only [encR_some]
      go_wp2_with fail
      go_loopg [2, 11] f (fun m va vn wr => ∃ (c : Nat) (o : Option Nat) (kk : Nat), m = c ∧ va = .int .i64 kk ∧ vn = .int .i64 (encR o) ∧ Hid (RpAt w w0 tb eb ec (.slice (some ⟨xg, 0, none⟩) ps.length xc) vr ps rs s rbs f p0 ee (Obj.cells #[.int .i64 9, .slice ia il ic, .string ⟨tx.toArray⟩, .int .i64 z, .slice (some ⟨pg, 0, none⟩) 1 pc] 149 (0, 0)) c o kk wr))
      case atStart => exact ⟨f, (some x0), k, rfl, rfl, rfl, HS0⟩
      case round =>
        obtain ⟨c, o, kk, hmc, rfl, rfl, HI⟩ := hrel
        cases c with
        | zero => have := HI.out.rep; simp [repR] at this
        | succ c =>
          obtain ⟨htl2, hsz2, hold2, _⟩ := HI.out.st.cells
          have qo2 := cell_of_block HI.out.own
          have lo2 := heap_lt' HI.out.own
          cases o with
          | none =>
            have hee : ee = kk := by
              have hr := HI.out.rep
              simp [repR] at hr
              exact hr.symm
            subst hee
            simp only [encR_none]
            go_wp2_with fail
            go_ret
            exact ⟨rfl, HI.out.st, HI.out.kp⟩
          | some x =>
            have hxle := HI.out.lo x rfl
            have hx1 : (0 : Int) ≤ (x : Int) := by omega
            have hr := HI.out.rep
            simp only [repR] at hr
            obtain ⟨n2, hn2, hr2⟩ : ∃ n2, evS ps rs s f p0 x = some n2 ∧ repR (evS ps rs s f) p0 c n2 x = some (some ee) := by
              cases hF : evS ps rs s f p0 x with
              | none => rw [hF] at hr; cases hr
              | some n2 => rw [hF] at hr; exact ⟨n2, rfl, hr⟩
            have htry2 := HTT.out wr p0 x n2 HI.out.st hxle hn2
            have HR2 := hideP hr2
            have HN2 := hideP hn2
            have hpc2 : wr.cell? ⟨pg, 0, none⟩ = some (.int .i64 p0) := by
              rw [World.cell?_of_block (a := ⟨pg, 0, none⟩) (hold2 pg hpg)]; exact HPC.out
            have hpg3 : pg < wr.heap.size := by omega
            simp only [encR_some]
            clear hr hr2 hn2 hold2
            go_wp2_with fail
            refine htry2.mono ?_
            rintro _ w3 ⟨rfl, hs3, hk3⟩
            have HN : Hid (RpAt w w0 tb eb ec (.slice (some ⟨xg, 0, none⟩) ps.length xc) vr ps rs s rbs f p0 ee (Obj.cells #[.int .i64 9, .slice ia il ic, .string ⟨tx.toArray⟩, .int .i64 z, .slice (some ⟨pg, 0, none⟩) 1 pc] 149 (0, 0)) c n2 x w3) := by
              refine ⟨HR2.out, hs3, KpM.go HI.out.kp hk3, ?_, hxle, ?_⟩
              · rw [hk3.block _ lo2 (fun hb => by have := HF.out _ hb; omega)]; exact HI.out.own
              · intro y hy
                subst hy
                exact (evR_le _ _ _ _ HN2.out (show x ≤ s.data.toList.length from hxle)).2
            clear htry2 hs3 hk3
            go_wp2_with fail
            go_roundg c
            case measure => omega
            case rel => exact ⟨c, n2, x, rfl, rfl, rfl, HN⟩
end Go.Proofs.YtiganlkabilblaaGreatDoor
namespace Go.Proofs.YtiganlkabilblaaGreatDoor
open Go.RowKit
attribute [local go_sem ↓] Go.wp_at_zero Go.wp_at_succ
structure SqAt (w : World) (w0 : World) (tb eb ec : Nat) (vx vr : Value) (ps : List (Thk.RE × Value × Value)) (rs : List (Thk.Bytes × Nat)) (s : ByteArray) (rbs : List Nat) (f : Nat) (parts : List Nat) (v : Option Nat) (O : Obj) (j : Nat) (o : Option Nat) (wr : World) : Prop where
  sq : match o with
    | none => v = none
    | some x => seqR (evS ps rs s f) (parts.drop j) x = some v ∧ x ≤ s.size
  st : Stt w0 tb eb ec vx vr ps rs s rbs wr
  kp : KpM rbs w.heap.size w wr
  own : wr.heap[w.heap.size]? = some O
structure ChAt (w : World) (w0 : World) (tb eb ec : Nat) (vx vr : Value) (ps : List (Thk.RE × Value × Value)) (rs : List (Thk.Bytes × Nat)) (s : ByteArray) (rbs : List Nat) (f : Nat) (parts : List Nat) (k : Nat) (v : Option Nat) (O : Obj) (j : Nat) (wr : World) : Prop where
  ch : chR (evS ps rs s f) (parts.drop j) k = some v
  st : Stt w0 tb eb ec vx vr ps rs s rbs wr
  kp : KpM rbs w.heap.size w wr
  own : wr.heap[w.heap.size]? = some O
set_option maxHeartbeats 16000000 in
set_option maxRecDepth 100000 in
theorem tried_seq {w0 : World} {B gb tb eb ec : Nat} {vx vr : Value} {ps : List (Thk.RE × Value × Value)} {rs : List (Thk.Bytes × Nat)} {s : ByteArray} {rbs : List Nat} (hE : Env w0 B gb vx vr ps rs s rbs) (f : Nat) (hT : TryC w0 tb eb ec vx vr ps rs s rbs f) (w : World) (i k : Nat) (e : Thk.RE) (v : Option Nat) (h : Stt w0 tb eb ec vx vr ps rs s rbs w) (hk : k ≤ s.size) (hx : (xsOf ps)[i]? = some e) (hok : okE (nmOf rs) e = true) (hkd : e.kind = 5) (hv : seqR (evS ps rs s f) e.parts k = some v) :
    Calls Tryz.prog 148 #[.pointer (some ⟨tb, 0, none⟩), .int .i64 i, .int .i64 k] w fun e' w' => e' = .returned (.int .i64 (encR v)) ∧ Stt w0 tb eb ec vx vr ps rs s rbs w' ∧ KpM rbs w.heap.size w w' := by
  obtain ⟨xg, xc, ia, ic, pa, pc, hi, rfl, hxl, c0, c1, c2, c3, c4, hpn, hpc, hit, hil, _, hp1, hkn⟩ := h.exq hE hx hok
  obtain ⟨htl, hsz, hold, q⟩ := h.cells
  have hpl := hE.ple
  have hsl := hE.sle
  have hil' : (i : Int) < ps.length := by omega
  have HTT := hideP hT
  have HF := hideP h.fresh
  have HPC := hideP hpc
  have q0 : w.cell? ⟨tb, 0, none⟩ = some (.slice (some ⟨xg, 0, none⟩) ps.length xc) := q 0
  rw [hkd] at c0
  obtain ⟨parts, hparts⟩ : ∃ parts, parts = e.parts := ⟨_, rfl⟩
  rw [← hparts] at c4 hv hpn
  have HPC2 : Hid (∀ j (hj : j < parts.length), ∃ pg, pa = some ⟨pg, 0, none⟩ ∧ pg < w0.heap.size ∧ w0.cell? ⟨pg, j, none⟩ = some (.int .i64 parts[j])) := by rw [hparts]; exact hpc
  clear hpc HPC hit hkn hT q hold hkd hparts
  generalize e.items.length = il at *
  generalize rfE (nmOf rs) e 0 = z at *
  generalize e.text = tx at *
  have HS0 : Hid (SqAt w w0 tb eb ec (.slice (some ⟨xg, 0, none⟩) ps.length xc) vr ps rs s rbs f parts v (Obj.cells #[.int .i64 5, .slice ia il ic, .string ⟨tx.toArray⟩, .int .i64 z, .slice pa parts.length pc] 149 (0, 0)) 0 (some k) (w.alloc (Obj.cells #[.int .i64 5, .slice ia il ic, .string ⟨tx.toArray⟩, .int .i64 z, .slice pa parts.length pc] 149 (0, 0)))) := ⟨⟨hv, hk⟩, h.below (below_alloc _ _), KpM.of_below (below_alloc _ _), heap_alloc_same _ _⟩
  clear h hx hE hv hok
  go_enter Tryz.func148, Tryz.ntmps148
  go_wp2_with fail
  go_loopg [2, 8] (parts.length) (fun m va vj wr => ∃ (j : Nat) (o : Option Nat), m = parts.length - j ∧ va = .int .i64 (encR o) ∧ vj = .int .i64 j ∧ j ≤ parts.length ∧ Hid (SqAt w w0 tb eb ec (.slice (some ⟨xg, 0, none⟩) ps.length xc) vr ps rs s rbs f parts v (Obj.cells #[.int .i64 5, .slice ia il ic, .string ⟨tx.toArray⟩, .int .i64 z, .slice pa parts.length pc] 149 (0, 0)) j o wr))
  case atStart => exact ⟨0, some k, by omega, rfl, rfl, by omega, HS0⟩
  case round =>
    obtain ⟨j, o, rfl, rfl, rfl, hj, HI⟩ := hrel
    obtain ⟨htl2, hsz2, hold2, _⟩ := HI.out.st.cells
    have qo2 := cell_of_block HI.out.own
    have lo2 := heap_lt' HI.out.own
    by_cases hlt : j < parts.length
    · have hlt' : (j : Int) < parts.length := by omega
      cases o with
      | none =>
        have hv0 : v = none := HI.out.sq
        subst hv0
        simp only [encR_none]
        go_wp2_with fail
        go_ret
        exact ⟨rfl, HI.out.st, HI.out.kp⟩
      | some x =>
        obtain ⟨hsq, hxle⟩ := HI.out.sq
        have hx1 : (0 : Int) ≤ (x : Int) := by omega
        obtain ⟨pg, rfl, hpg, hcell⟩ := HPC2.out j hlt
        have hcell2 : wr.cell? ⟨pg, j, none⟩ = some (.int .i64 parts[j]) := by rw [World.cell?_of_block (a := ⟨pg, j, none⟩) (hold2 pg hpg)]; exact hcell
        have hpg3 : pg < wr.heap.size := by omega
        rw [List.drop_eq_getElem_cons hlt] at hsq
        simp only [seqR] at hsq
        obtain ⟨n2, hn2, hr2⟩ : ∃ n2, evS ps rs s f parts[j] x = some n2 ∧ (match n2 with | none => v = none | some y => seqR (evS ps rs s f) (parts.drop (j + 1)) y = some v) := by
          cases hF : evS ps rs s f parts[j] x with
          | none => rw [hF] at hsq; cases hsq
          | some n2 =>
            rw [hF] at hsq
            refine ⟨n2, rfl, ?_⟩
            cases n2 with
            | none => exact (Option.some.inj hsq).symm
            | some y => exact hsq
        have htry2 := HTT.out wr parts[j] x n2 HI.out.st hxle hn2
        have HR2 := hideP hr2
        have HN2 := hideP hn2
        generalize parts[j] = pj at *
        simp only [encR_some]
        clear hsq hr2 hn2 hold2 hcell
        go_wp2_with fail
        refine htry2.mono ?_
        rintro _ w3 ⟨rfl, hs3, hk3⟩
        have HN : Hid (SqAt w w0 tb eb ec (.slice (some ⟨xg, 0, none⟩) ps.length xc) vr ps rs s rbs f parts v (Obj.cells #[.int .i64 5, .slice ia il ic, .string ⟨tx.toArray⟩, .int .i64 z, .slice (some ⟨pg, 0, none⟩) parts.length pc] 149 (0, 0)) (j + 1) n2 w3) := by
          refine ⟨?_, hs3, KpM.go HI.out.kp hk3, ?_⟩
          · cases n2 with
            | none => exact HR2.out
            | some y => exact ⟨HR2.out, (evR_le _ _ _ _ HN2.out (show x ≤ s.data.toList.length from hxle)).2⟩
          · rw [hk3.block _ lo2 (fun hb => by have := HF.out _ hb; omega)]; exact HI.out.own
        clear htry2 hs3 hk3
        go_wp2_with fail
        go_roundg (parts.length - (j + 1))
        case measure => omega
        case rel => exact ⟨j + 1, n2, rfl, rfl, by go_num, by omega, HN⟩
    · have hlt' : ¬ (j : Int) < parts.length := by omega
      have hltd : decide ((j : Int) < parts.length) = false := by simpa using hlt'
      have hvo : v = o := by
        cases o with
        | none => exact HI.out.sq
        | some x =>
          have := HI.out.sq.1
          rw [List.drop_of_length_le (by omega)] at this
          exact (Option.some.inj this).symm
      subst hvo
      go_wp2_with fail
      go_ret
      exact ⟨rfl, HI.out.st, HI.out.kp⟩
set_option maxHeartbeats 16000000 in
set_option maxRecDepth 100000 in
theorem tried_choice {w0 : World} {B gb tb eb ec : Nat} {vx vr : Value} {ps : List (Thk.RE × Value × Value)} {rs : List (Thk.Bytes × Nat)} {s : ByteArray} {rbs : List Nat} (hE : Env w0 B gb vx vr ps rs s rbs) (f : Nat) (hT : TryC w0 tb eb ec vx vr ps rs s rbs f) (w : World) (i k : Nat) (e : Thk.RE) (v : Option Nat) (h : Stt w0 tb eb ec vx vr ps rs s rbs w) (hk : k ≤ s.size) (hx : (xsOf ps)[i]? = some e) (hok : okE (nmOf rs) e = true) (hkd : e.kind = 6) (hv : chR (evS ps rs s f) e.parts k = some v) :
    Calls Tryz.prog 148 #[.pointer (some ⟨tb, 0, none⟩), .int .i64 i, .int .i64 k] w fun e' w' => e' = .returned (.int .i64 (encR v)) ∧ Stt w0 tb eb ec vx vr ps rs s rbs w' ∧ KpM rbs w.heap.size w w' := by
  obtain ⟨xg, xc, ia, ic, pa, pc, hi, rfl, hxl, c0, c1, c2, c3, c4, hpn, hpc, hit, hil, _, hp1, hkn⟩ := h.exq hE hx hok
  obtain ⟨htl, hsz, hold, q⟩ := h.cells
  have hpl := hE.ple
  have hsl := hE.sle
  have hil' : (i : Int) < ps.length := by omega
  have HTT := hideP hT
  have HF := hideP h.fresh
  have HPC := hideP hpc
  have q0 : w.cell? ⟨tb, 0, none⟩ = some (.slice (some ⟨xg, 0, none⟩) ps.length xc) := q 0
  rw [hkd] at c0
  obtain ⟨parts, hparts⟩ : ∃ parts, parts = e.parts := ⟨_, rfl⟩
  rw [← hparts] at c4 hv hpn
  have HPC2 : Hid (∀ j (hj : j < parts.length), ∃ pg, pa = some ⟨pg, 0, none⟩ ∧ pg < w0.heap.size ∧ w0.cell? ⟨pg, j, none⟩ = some (.int .i64 parts[j])) := by rw [hparts]; exact hpc
  clear hpc HPC hit hkn hT q hold hkd hparts
  generalize e.items.length = il at *
  generalize rfE (nmOf rs) e 0 = z at *
  generalize e.text = tx at *
  have HS0 : Hid (ChAt w w0 tb eb ec (.slice (some ⟨xg, 0, none⟩) ps.length xc) vr ps rs s rbs f parts k v (Obj.cells #[.int .i64 6, .slice ia il ic, .string ⟨tx.toArray⟩, .int .i64 z, .slice pa parts.length pc] 149 (0, 0)) 0 (w.alloc (Obj.cells #[.int .i64 6, .slice ia il ic, .string ⟨tx.toArray⟩, .int .i64 z, .slice pa parts.length pc] 149 (0, 0)))) := ⟨hv, h.below (below_alloc _ _), KpM.of_below (below_alloc _ _), heap_alloc_same _ _⟩
  clear h hx hE hv hok
  go_enter Tryz.func148, Tryz.ntmps148
  go_wp2_with fail
  go_loopg [9] (parts.length) (fun m vj wr => ∃ (j : Nat), m = parts.length - j ∧ vj = .int .i64 j ∧ j ≤ parts.length ∧ Hid (ChAt w w0 tb eb ec (.slice (some ⟨xg, 0, none⟩) ps.length xc) vr ps rs s rbs f parts k v (Obj.cells #[.int .i64 6, .slice ia il ic, .string ⟨tx.toArray⟩, .int .i64 z, .slice pa parts.length pc] 149 (0, 0)) j wr))
  case atStart => exact ⟨0, by omega, rfl, by omega, HS0⟩
  case round =>
    obtain ⟨j, rfl, rfl, hj, HI⟩ := hrel
    obtain ⟨htl2, hsz2, hold2, _⟩ := HI.out.st.cells
    have qo2 := cell_of_block HI.out.own
    have lo2 := heap_lt' HI.out.own
    by_cases hlt : j < parts.length
    · have hlt' : (j : Int) < parts.length := by omega
      have hch := HI.out.ch
      obtain ⟨pg, rfl, hpg, hcell⟩ := HPC2.out j hlt
      have hcell2 : wr.cell? ⟨pg, j, none⟩ = some (.int .i64 parts[j]) := by rw [World.cell?_of_block (a := ⟨pg, j, none⟩) (hold2 pg hpg)]; exact hcell
      have hpg3 : pg < wr.heap.size := by omega
      rw [List.drop_eq_getElem_cons hlt] at hch
      simp only [chR] at hch
      obtain ⟨n2, hn2, hr2⟩ : ∃ n2, evS ps rs s f parts[j] k = some n2 ∧ (match n2 with | some y => v = some y | none => chR (evS ps rs s f) (parts.drop (j + 1)) k = some v) := by
        cases hF : evS ps rs s f parts[j] k with
        | none => rw [hF] at hch; cases hch
        | some n2 =>
          rw [hF] at hch
          refine ⟨n2, rfl, ?_⟩
          cases n2 with
          | none => exact hch
          | some y => exact (Option.some.inj hch).symm
      have htry2 := HTT.out wr parts[j] k n2 HI.out.st hk hn2
      have HR2 := hideP hr2
      generalize parts[j] = pj at *
      clear hch hr2 hn2 hold2 hcell
      go_wp2_with fail
      refine htry2.mono ?_
      rintro _ w3 ⟨rfl, hs3, hk3⟩
      have hown3 : w3.heap[w.heap.size]? = some (Obj.cells #[.int .i64 6, .slice ia il ic, .string ⟨tx.toArray⟩, .int .i64 z, .slice (some ⟨pg, 0, none⟩) parts.length pc] 149 (0, 0)) := by
        rw [hk3.block _ lo2 (fun hb => by have := HF.out _ hb; omega)]; exact HI.out.own
      have HS3 := hideP hs3
      have HK3 := hideP (KpM.go HI.out.kp hk3)
      have HO3 := hideP hown3
      clear htry2 hs3 hk3 hown3
      cases n2 with
      | none =>
        simp only [encR_none]
        go_wp2_with fail
        go_roundg (parts.length - (j + 1))
        case measure => omega
        case rel => exact ⟨j + 1, rfl, by go_num, by omega, HR2.out, HS3.out, HK3.out, HO3.out⟩
      | some y =>
        have hvy : v = some y := HR2.out
        subst hvy
        have hy1 : (0 : Int) ≤ (y : Int) := by omega
        simp only [encR_some]
        go_wp2_with fail
        go_ret
        exact ⟨rfl, HS3.out, HK3.out⟩
    · have hlt' : ¬ (j : Int) < parts.length := by omega
      have hvo : v = none := by
        have := HI.out.ch
        rw [List.drop_of_length_le (by omega)] at this
        exact (Option.some.inj this).symm
      subst hvo
      go_wp2_with fail
      go_ret
      exact ⟨rfl, HI.out.st, HI.out.kp⟩
end Go.Proofs.YtiganlkabilblaaGreatDoor
namespace Go.Proofs.YtiganlkabilblaaGreatDoor
open Go.RowKit
attribute [local go_sem ↓] Go.wp_at_zero Go.wp_at_succ
theorem tried_any {w0 : World} {B gb tb eb ec : Nat} {vx vr : Value} {ps : List (Thk.RE × Value × Value)} {rs : List (Thk.Bytes × Nat)} {s : ByteArray} {rbs : List Nat} (hE : Env w0 B gb vx vr ps rs s rbs) (f : Nat) (hT : TryC w0 tb eb ec vx vr ps rs s rbs f) : TriedC w0 tb eb ec vx vr ps rs s rbs (f + 1) := by
  intro w i k v h hk hv
  simp only [evS, evR] at hv
  cases hx : (xsOf ps)[i]? with
  | none => rw [hx] at hv; cases hv
  | some e =>
    rw [hx] at hv
    simp only [] at hv
    split at hv
    rotate_left
    · cases hv
    rename_i hok
    have hke : 1 ≤ e.kind ∧ e.kind ≤ 11 := by
      simp only [okE, Bool.and_eq_true, decide_eq_true_eq] at hok
      exact hok.1.1
    unfold bodyR at hv
    by_cases h3 : e.kind ≤ 3
    · rw [if_pos h3] at hv
      have := tried_bytes hE w i k e h hk hx hok (by omega)
      rw [Option.some.inj hv] at this
      exact this
    rw [if_neg h3] at hv
    by_cases h4 : e.kind = 4
    · rw [if_pos h4] at hv
      exact tried_name hE f hT w i k e v h hk hx hok h4 hv
    rw [if_neg h4] at hv
    by_cases h5 : e.kind = 5
    · rw [if_pos h5] at hv
      exact tried_seq hE f hT w i k e v h hk hx hok h5 hv
    rw [if_neg h5] at hv
    by_cases h6 : e.kind = 6
    · rw [if_pos h6] at hv
      exact tried_choice hE f hT w i k e v h hk hx hok h6 hv
    rw [if_neg h6] at hv
    unfold wrapR at hv
    cases hn : evS ps rs s f (e.parts.headD 0) k with
    | none => rw [show evR (xsOf ps) (nmOf rs) (bdOf rs) s.data.toList f (e.parts.headD 0) k = none from hn] at hv; cases hv
    | some n =>
      rw [show evR (xsOf ps) (nmOf rs) (bdOf rs) s.data.toList f (e.parts.headD 0) k = some n from hn] at hv
      simp only [] at hv
      by_cases h7 : e.kind = 7 ∨ e.kind = 10 ∨ e.kind = 11
      · have := tried_sign hE f hT w i k e n h hk hx hok h7 hn
        have hveq : (if e.kind = 7 then some (n.getD k) else if e.kind = 10 then (if n.isSome then some k else none) else (if n.isSome then none else some k)) = v := by
          rcases h7 with h7 | h7 | h7
          · rw [if_pos h7] at hv ⊢; exact Option.some.inj hv
          · rw [if_neg (by omega), if_pos h7] at hv ⊢; exact Option.some.inj hv
          · rw [if_neg (by omega), if_neg (by omega), if_pos h7] at hv
            rw [if_neg (by omega), if_neg (by omega)]; exact Option.some.inj hv
        rw [hveq] at this
        exact this
      · rw [if_neg (by omega), if_neg (by omega), if_neg (by omega)] at hv
        exact tried_many hE f hT w i k e n v h hk hx hok (by omega) hn hv
set_option maxHeartbeats 16000000 in
set_option maxRecDepth 100000 in
theorem try_step {w0 : World} {B gb tb eb ec : Nat} {vx vr : Value} {ps : List (Thk.RE × Value × Value)} {rs : List (Thk.Bytes × Nat)} {s : ByteArray} {rbs : List Nat} (hE : Env w0 B gb vx vr ps rs s rbs) (f : Nat) (hT : TriedC w0 tb eb ec vx vr ps rs s rbs f) : TryC w0 tb eb ec vx vr ps rs s rbs f := by
  intro w i k v h hk hv
  have hi : i < ps.length := by
    cases f with
    | zero => simp [evS, evR] at hv
    | succ f =>
      simp only [evS, evR] at hv
      cases hx : (xsOf ps)[i]? with
      | none => rw [hx] at hv; cases hv
      | some e => have := (List.getElem?_eq_some_iff.1 hx).1; simpa using this
  have hlen := hE.len
  have hpl := hE.ple
  have hsl := hE.sle
  have hir : i < rbs.length := by omega
  have h' := h
  obtain ⟨M, hA, hS⟩ := h
  have hMk := hS i k (show k ≤ s.data.toList.length from hk)
  have q := cell_of_block hA.blk
  have q3 : w.cell? ⟨tb, 3, none⟩ = some (.slice (some ⟨eb, 0, none⟩) rbs.length ec) := q 3
  have htl := heap_lt hA.blk
  have helt := hA.elt
  have e1 := hA.ends i hir
  have r1 := hA.at i k hir hk
  have rlt := heap_lt (hA.row i hir)
  have hil' : (i : Int) < rbs.length := by omega
  have hkl' : (k : Int) < (s.size : Int) + 1 := by omega
  have hkl2 : (k : Int) < ((s.size + 1 : Nat) : Int) := by omega
  by_cases hm : M i k = -2
  · rw [hm] at r1
    have htd := hT w i k v h' hk hv
    have HV := hideP hv
    have HTD := hideP htd
    clear hT hE hv htd hS h' hA hm hMk q
    generalize hb0 : rbs[i] = rb at *
    go_enter Tryz.func112, Tryz.ntmps112
    go_wp2_with fail
    refine HTD.out.mono ?_
    rintro _ w1 ⟨rfl, hs1, hk1⟩
    obtain ⟨M1, hA1, hS1⟩ := hs1
    have q1 : w1.cell? ⟨tb, 3, none⟩ = some (.slice (some ⟨eb, 0, none⟩) rbs.length ec) := cell_of_block hA1.blk 3
    have htl1 := heap_lt hA1.blk
    have helt1 := hA1.elt
    have e11 := hA1.ends i hir
    have r11 := hA1.at i k hir hk
    have rlt1 := heap_lt (hA1.row i hir)
    have fz1 : w1.frozen? ⟨rbs[i], k, none⟩ = false := frozen_of_block (hA1.row i hir) k
    have hA2 := hA1.set i k hir (encR v)
    have HS2 : Hid (Stt w0 tb eb ec vx vr ps rs s rbs (w1.setCell ⟨rbs[i], k, none⟩ (.int .i64 (encR v)))) := ⟨_, hA2, hS1.set HV.out⟩
    have HK2 : Hid (KpM rbs w.heap.size w (w1.setCell ⟨rbs[i], k, none⟩ (.int .i64 (encR v)))) := hk1.set (List.getElem_mem hir) _
    have q2 : (w1.setCell ⟨rbs[i], k, none⟩ (.int .i64 (encR v))).cell? ⟨tb, 3, none⟩ = some (.slice (some ⟨eb, 0, none⟩) rbs.length ec) := cell_of_block hA2.blk 3
    have e12 := hA2.ends i hir
    have r12 := hA2.at i k hir hk
    simp only [and_self, if_true] at r12
    rw [hb0] at e11 r11 rlt1 fz1 HS2 HK2 q2 e12 r12
    obtain ⟨R, hR⟩ : ∃ R, R = encR v := ⟨_, rfl⟩
    rw [← hR] at HS2 HK2 q2 e12 r12 ⊢
    have HR := hideP hR
    clear hA1 hA2 hk1 hS1 hR
    go_wp2_with fail
    go_ret
    exact ⟨congrArg (fun r => Ending.returned (Value.int .i64 r)) HR.out, HS2.out, HK2.out⟩
  · obtain ⟨f', v', hv', hM'⟩ := hMk.resolve_left hm
    have hvv : v' = v := evR_det hv' hv
    subst hvv
    rw [hM'] at r1
    have hne := encR_ne v'
    have HST := hideP h'
    clear hT hE hv hv' hS h' hA hm hMk q hM'
    generalize rbs[i] = rb at *
    generalize encR v' = R at *
    have hneb : (R == -2) = false := by simpa using hne
    go_enter Tryz.func112, Tryz.ntmps112
    go_wp2_with fail
    go_ret
    exact ⟨rfl, HST.out, KpM.refl _ _ _⟩
theorem try_all {w0 : World} {B gb tb eb ec : Nat} {vx vr : Value} {ps : List (Thk.RE × Value × Value)} {rs : List (Thk.Bytes × Nat)} {s : ByteArray} {rbs : List Nat} (hE : Env w0 B gb vx vr ps rs s rbs) : ∀ f, TryC w0 tb eb ec vx vr ps rs s rbs f
  | 0 => by intro w i k v h hk hv; simp [evS, evR] at hv
  | f + 1 => try_step hE (f + 1) (tried_any hE f (try_all hE f))
end Go.Proofs.YtiganlkabilblaaGreatDoor
namespace Go.Proofs.YtiganlkabilblaaGreatDoor
open Go.RowKit
attribute [local go_sem ↓] Go.wp_at_zero Go.wp_at_succ
theorem Tryz.infoIntsRow : (Tryz.prog.info? 40).map (fun i => (i.zero, i.size, i.bytes)) = some (some (.slice none 0 0), 1, 24) := by kernel_rfl
theorem Tryz.infoInt' : (Tryz.prog.info? 3).map (fun i => (i.zero, i.size, i.bytes)) = some (some (.int .i64 0), 1, 8) := by kernel_rfl
theorem make_ints (n : Nat) (hn : n ≤ 1000000) (w : World) : ∃ cur : Array Value, cur.size = n ∧ (Instr.makeSlice 40 (.int .i64 n) (.int .i64 n)).run Tryz.prog w = .ok (.slice (some ⟨w.heap.size, 0, none⟩) n n) (w.alloc (.cells cur 3)) := by
  obtain ⟨i0, hi, hz0, hz1, hz2⟩ := info_parts Tryz.infoInt'
  refine ⟨madeCells (Value.int .i64 0).cells (((n : Nat) : Int).toNat * i0.size), ?_, ?_⟩
  · rw [size_madeCells, hz1]; simp
  · have h := run_make (P := Tryz.prog) w 40 3 i0 _ Tryz.underlying40 hi hz0 .i64 .i64 (n : Int) (n : Int) (by omega) (by omega) (by rw [hz2]; omega) (by omega)
    simpa using h
theorem make_ints' (n : Nat) (hn : n ≤ 100000) (w : World) : ∃ cur : Array Value, cur.size = n + 1 ∧ (Instr.makeSlice 40 (.int .i64 ((n : Int) + 1)) (.int .i64 ((n : Int) + 1))).run Tryz.prog w = .ok (.slice (some ⟨w.heap.size, 0, none⟩) (n + 1) (n + 1)) (w.alloc (.cells cur 3)) := by
  obtain ⟨cur, h1, h2⟩ := make_ints (n + 1) (by omega) w
  rw [show (((n + 1 : Nat)) : Int) = (n : Int) + 1 from by omega] at h2
  exact ⟨cur, h1, h2⟩
abbrev rowT (n b : Nat) : Value := .slice (some ⟨b, 0, none⟩) n n
/-- What stands while the table is made. -/
structure NtAt (w : World) (vx vr : Value) (s : ByteArray) (rbs : List Nat) (vo : Value) (wr : World) : Prop where
  below : Below w.heap.size w wr
  box : wr.heap[w.heap.size]? = some (gramO vx vr)
  tr : wr.heap[w.heap.size + 1]? = some (.cells #[vx, vr, .string s, vo] 161 (0, 0))
  own : wr.ownsRow w.heap.size 40 1 vo rbs.length (rbs.map (rowT (s.size + 1)))
  row : ∀ j (h : j < rbs.length), wr.heap[rbs[j]]? = some (intsO (rowI (s.size + 1) (fun _ => -2)))
  nodup : rbs.Nodup
  ge : ∀ b ∈ rbs, w.heap.size + 2 ≤ b
/-- The row that is being filled. -/
structure FlAt (n k : Nat) (lb : Nat) (Wm wr : World) : Prop where
  row : ∃ cur : Array Value, wr.heap[lb]? = some (.cells cur 3 (0, 0)) ∧ cur.size = n ∧ ∀ j, j < k → cur[j]? = some (.int .i64 (-2))
  kp : KpM [lb] Wm.heap.size Wm wr
theorem fill_done {n lb : Nat} {Wm wr : World} (h : FlAt n n lb Wm wr) : wr.heap[lb]? = some (intsO (rowI n (fun _ => -2))) := by
  obtain ⟨cur, h1, h2, h3⟩ := h.row
  rw [h1]
  have : cur = ((rowI n (fun _ => -2)).map (Value.int .i64)).toArray := by
    apply Array.ext
    · simp [rowI, h2]
    · intro i hi1 hi2
      have := h3 i (by omega)
      rw [Array.getElem?_eq_getElem hi1] at this
      simp [rowI]
      exact Option.some.inj this
  rw [this]
  rfl
theorem NtAt.kept {w : World} {vx vr : Value} {s : ByteArray} {rbs : List Nat} {vo : Value} {wo wr : World} (h : NtAt w vx vr s rbs vo wo) (hb : Below wo.heap.size wo wr) : NtAt w vx vr s rbs vo wr := by
  have hs := h.below.size
  exact ⟨h.below.trans (hb.mono hs), by rw [hb.block _ (heap_lt h.box)]; exact h.box, by rw [hb.block _ (heap_lt h.tr)]; exact h.tr, own_below h.own hb, fun j hj => by rw [hb.block _ (heap_lt (h.row j hj))]; exact h.row j hj, h.nodup, h.ge⟩
theorem FlAt.below {n k : Nat} {wo Wm wr : World} (hw : Below wo.heap.size wo Wm) (h : FlAt n k wo.heap.size Wm wr) : Below wo.heap.size wo wr := by
  have hz := hw.size
  exact ⟨h.kp.os.trans hw.os, h.kp.tape.trans hw.tape, h.kp.output.trans hw.output, Nat.le_trans hz h.kp.size, fun b hb => (h.kp.block b (by omega) (by simp; omega)).trans (hw.block b hb)⟩
/-- A row more. -/
theorem NtAt.push {w : World} {vx vr : Value} {s : ByteArray} {rbs : List Nat} {vo v' : Value} {wr w5 : World} {O : Obj} {lb : Nat} (h : NtAt w vx vr s rbs vo wr) (hrow : wr.heap[lb]? = some (intsO (rowI (s.size + 1) (fun _ => -2)))) (hn : lb ∉ rbs) (hge : w.heap.size + 2 ≤ lb)
    (hown : w5.ownsRow w.heap.size 40 1 v' (rbs.length + 1) (rbs.map (rowT (s.size + 1)) ++ [rowT (s.size + 1) lb])) (hg : (wr.alloc O).grownBy w5 vo.ownBlock) (hat : v'.ownBlock = vo.ownBlock ∨ v'.ownBlock = some (wr.heap.size + 1)) :
    NtAt w vx vr s (rbs ++ [lb]) v' (w5.setCell ⟨w.heap.size + 1, 3, none⟩ v') := by
  have hs := h.below.size
  have tlt := heap_lt h.tr
  have hz := hg.size
  simp at hz
  have hnt : vo.ownBlock ≠ some (w.heap.size + 1) := own_ty h.own h.tr (by decide)
  have hnb : vo.ownBlock ≠ some w.heap.size := own_ty h.own h.box (by decide)
  have hnr : ∀ b cs, wr.heap[b]? = some (.cells cs 3 (0, 0)) → vo.ownBlock ≠ some b := fun b cs hb => own_ty h.own hb (by decide)
  have keep : ∀ b o, wr.heap[b]? = some o → vo.ownBlock ≠ some b → w5.heap[b]? = some o := by
    intro b o hb hne
    have hbl := heap_lt hb
    rw [hg.block b (by simp; omega) (fun e => hne e.symm), heap_alloc_old _ _ hbl]
    exact hb
  have set : ∀ b o, w5.heap[b]? = some o → b ≠ w.heap.size + 1 → (w5.setCell ⟨w.heap.size + 1, 3, none⟩ v').heap[b]? = some o := fun b o hb hne => by rw [Below.heap_setCell _ _ _ _ hne]; exact hb
  have hv't : v'.ownBlock ≠ some (w.heap.size + 1) := by
    rcases hat with e | e
    · rw [e]; exact hnt
    · rw [e]; simp; omega
  refine ⟨?_, set _ _ (keep _ _ h.box hnb) (by omega), ?_, ?_, ?_, ?_, ?_⟩
  · have hb5 : Below w.heap.size w w5 := below_grown h.below h.own (Below.refl _ _) hg
    exact hb5.setCell (p := ⟨w.heap.size + 1, 3, none⟩) (by show w.heap.size ≤ w.heap.size + 1; omega) _
  · rw [heap_setCell_at (keep _ _ h.tr hnt)]; rfl
  · have := own_set_ne (o := 3) (u := v') hown hv't
    rw [List.length_append, List.map_append]
    exact this
  · intro j hj
    rw [List.length_append, List.length_singleton] at hj
    by_cases hjl : j < rbs.length
    · rw [List.getElem_append_left hjl]
      have hr := h.row j hjl
      refine set _ _ (keep _ _ hr (hnr _ _ hr)) ?_
      have := h.ge _ (List.getElem_mem hjl)
      omega
    · have : j = rbs.length := by omega
      subst this
      rw [List.getElem_append_right (Nat.le_refl _)]
      simp only [Nat.sub_self, List.getElem_cons_zero]
      exact set _ _ (keep _ _ hrow (hnr _ _ hrow)) (by omega)
  · rw [List.nodup_append]
    exact ⟨h.nodup, by simp, fun a ha b hb => by simp at hb; subst hb; exact fun e => hn (e ▸ ha)⟩
  · intro b hb
    rcases List.mem_append.1 hb with hb | hb
    · exact h.ge b hb
    · simp at hb; subst hb; exact hge
set_option maxHeartbeats 16000000 in
set_option maxRecDepth 100000 in
theorem newTrial_any (w : World) (xa : Option Addr) (xn xc : Nat) (vr : Value) (ra : Option Addr) (rn rc : Nat) (hvr : vr = .slice ra rn rc) (s : ByteArray) (hs : s.size ≤ 200) (hx : xn ≤ 10000) (hx0 : 0 < xn) :
    Calls Tryz.prog 111 #[.agg #[.slice xa xn xc, vr], .string s] w fun e w' => ∃ eb ec rbs, rbs.length = xn ∧ e = .returned (.pointer (some ⟨w.heap.size + 1, 0, none⟩)) ∧ TrAt w w' (w.heap.size + 1) eb ec (.slice xa xn xc) vr s rbs (fun _ _ => -2) ∧ Below w.heap.size w w' := by
  subst hvr
  obtain ⟨i0, hi0, hz0, hz1, hz2⟩ := info_parts Tryz.infoIntsRow
  have HS0 : Hid (NtAt w (.slice xa xn xc) (.slice ra rn rc) s [] (.slice none 0 0) ((w.alloc (gramO (.slice xa xn xc) (.slice ra rn rc))).alloc (.cells #[.slice xa xn xc, .slice ra rn rc, .string s, .slice none 0 0] 161))) := by
    refine ⟨(below_alloc _ _).alloc (by simp) _, ?_, ?_, World.ownsRow_nil _ _ _ _, fun j h => by simp at h, by simp, fun b h => by simp at h⟩
    · rw [heap_alloc_old _ _ (by simp)]; exact heap_alloc_same _ _
    · have := heap_alloc_same (w.alloc (gramO (.slice xa xn xc) (.slice ra rn rc))) (.cells #[.slice xa xn xc, .slice ra rn rc, .string s, .slice none 0 0] 161)
      simpa using this
  go_enter Tryz.func111, Tryz.ntmps111
  go_wp2_with fail
  go_loopg [6] xn (fun m vi wr => ∃ (rbs : List Nat) (vo : Value), m = xn - rbs.length ∧ vi = .int .i64 rbs.length ∧ rbs.length ≤ xn ∧ Hid (NtAt w (.slice xa xn xc) (.slice ra rn rc) s rbs vo wr))
  case atStart => exact ⟨[], .slice none 0 0, by simp, rfl, by simp, HS0⟩
  case round =>
    obtain ⟨rbs, vo, rfl, rfl, hi, HI⟩ := hrel
    obtain ⟨wo, hwo⟩ : ∃ wo, wo = wr := ⟨_, rfl⟩
    subst hwo
    have qb := cell_of_block HI.out.box
    have lb0 := heap_lt' HI.out.box
    have qt := cell_of_block HI.out.tr
    have lt0 := heap_lt' HI.out.tr
    obtain ⟨oa, oc, hvo⟩ := own_form HI.out.own
    subst hvo
    by_cases hlt : rbs.length < xn
    · have hlt' : (rbs.length : Int) < xn := by omega
      obtain ⟨cur, hcs, hmk⟩ := make_ints' s.size (by omega) wo
      obtain ⟨Wm, hWm⟩ : ∃ Wm, Wm = wo.alloc (.cells cur 3) := ⟨_, rfl⟩
      have hWo : Wm.heap[wo.heap.size]? = some (.cells cur 3 (0, 0)) := by rw [hWm]; exact heap_alloc_same _ _
      have hWs : Wm.heap.size = wo.heap.size + 1 := by rw [hWm]; simp
      have hWb : Below wo.heap.size wo Wm := by rw [hWm]; exact below_alloc _ _
      have HF0 : Hid (FlAt (s.size + 1) 0 wo.heap.size Wm Wm) := ⟨⟨cur, hWo, hcs, fun j hj => by omega⟩, KpM.refl _ _ _⟩
      have HWB := hideP hWb
      rw [← hWm] at hmk
      clear hWm hWo hWb
      go_wp2_with fail
      go_loopg [8] (s.size + 1) (fun m v wr => ∃ k : Nat, m = s.size + 1 - k ∧ v = .int .i64 k ∧ k ≤ s.size + 1 ∧ Hid (FlAt (s.size + 1) k wo.heap.size Wm wr))
      case atStart => exact ⟨0, by omega, rfl, by omega, HF0⟩
      case round =>
        obtain ⟨k, rfl, rfl, hk, HK⟩ := hrel
        obtain ⟨cu, hcu, hcz, hcn⟩ := HK.out.row
        have hcl := heap_lt' hcu
        have hkz := HK.out.kp.size
        by_cases hkl : k < s.size + 1
        · have hkl' : (k : Int) < (s.size : Int) + 1 := by omega
          have hkc : k < cu.size := by omega
          have hce : wr.cell? ⟨wo.heap.size, k, none⟩ = some cu[k] := by rw [cell_of_block hcu]; exact Array.getElem?_eq_getElem hkc
          have hfz : wr.frozen? ⟨wo.heap.size, k, none⟩ = false := frozen_of_block hcu k
          have HN : Hid (FlAt (s.size + 1) (k + 1) wo.heap.size Wm (wr.setCell ⟨wo.heap.size, k, none⟩ (.int .i64 (-2)))) := by
            refine ⟨⟨cu.setIfInBounds k (.int .i64 (-2)), heap_setCell_at hcu _, by simpa using hcz, ?_⟩, HK.out.kp.set (by simp) _⟩
            intro j hj
            rw [Array.getElem?_setIfInBounds]
            by_cases e : k = j
            · subst e; simp [hkc]
            · rw [if_neg e]; exact hcn j (by omega)
          clear hcn
          go_wp2_with fail
          go_roundg (s.size + 1 - (k + 1))
          case measure => omega
          case rel => exact ⟨k + 1, rfl, by go_num, by omega, HN⟩
        · have hkl' : ¬ (k : Int) < (s.size : Int) + 1 := by omega
          have hke : k = s.size + 1 := by omega
          subst hke
          have hrow := fill_done HK.out
          have hbw := HK.out.below HWB.out
          have hnt := HI.out.kept hbw
          have qt2 := cell_of_block hnt.tr
          have lt2 := heap_lt' hnt.tr
          have hown1 := hnt.own
          have hbs := hbw.size
          have hws := HI.out.below.size
          have HNT := hideP hnt
          have HROW := hideP hrow
          have hnm : wo.heap.size ∉ rbs := by
            intro hb
            obtain ⟨j, hj, he⟩ := List.getElem_of_mem hb
            have := heap_lt (HI.out.row j hj)
            omega
          clear hcn hcu hrow hnt qt qb
          go_wp2_with (first | (at_builtin; refine wpList_append_own_at _ rfl _ _ 159 rfl (w.heap.size) 40 i0 _ 1 24 Tryz.underlying159 hi0 hz0 hz1 hz2 rfl (by decide) _ _ _ rfl (hown1.alloc _) ⟨wr.heap.size, 0, none⟩ 1 1 [rowT (s.size + 1) wo.heap.size] rfl rfl ?c1 ?c2 ?c3 ?c4 ?c5 ?_))
          case c2 => rfl
          case c3 => unfold maxLen; omega
          case c4 => omega
          case c5 => omega
          intro v' w5 hown' hgrow _ hat
          have HP := hideP (HNT.out.push HROW.out hnm (by omega) hown' hgrow hat)
          obtain ⟨va, vc, hv⟩ := own_form hown'
          subst hv
          have hnt5 : (Value.slice oa rbs.length oc).ownBlock ≠ some (w.heap.size + 1) := own_ty hown1 HNT.out.tr (by decide)
          have ht5 : w5.heap[w.heap.size + 1]? = some (.cells #[.slice xa xn xc, .slice ra rn rc, .string s, .slice oa rbs.length oc] 161 (0, 0)) := by
            rw [hgrow.block _ (by simp; omega) (fun e => hnt5 e.symm), heap_alloc_old _ _ lt2]; exact HNT.out.tr
          have q5 := cell_of_block ht5
          have f5 := frozen_of_block ht5 3
          have l5 := heap_lt' ht5
          clear hown' hgrow hat hown1 hnt5 ht5
          go_wp2_with fail
          go_roundg (xn - (rbs ++ [wo.heap.size]).length)
          case measure => rw [List.length_append, List.length_singleton]; omega
          case rel => exact ⟨rbs ++ [wo.heap.size], _, rfl, by rw [List.length_append, List.length_singleton]; go_num, by rw [List.length_append, List.length_singleton]; omega, HP⟩
    · have hlt' : ¬ (rbs.length : Int) < xn := by omega
      have hlen : rbs.length = xn := by omega
      have hpos : 0 < rbs.length := by omega
      obtain ⟨eb, heb, hcs, hel⟩ := own_at HI.out.own hpos
      subst heb
      have HT : Hid (TrAt w wo (w.heap.size + 1) eb oc (.slice xa xn xc) (.slice ra rn rc) s rbs (fun _ _ => -2)) := by
        have hne1 : ∀ b ∈ rbs, w.heap.size ≤ b := fun b hb => by have := HI.out.ge b hb; omega
        refine ⟨HI.out.below.size, HI.out.below.block, HI.out.tr, hel, ?_, HI.out.row, HI.out.nodup, hne1, ?_, ?_⟩
        · intro i hi2
          rw [hcs i (by omega), List.getElem?_map, List.getElem?_eq_getElem hi2]
          rfl
        · intro hb
          have := HI.out.ge _ hb
          omega
        · intro hb
          obtain ⟨j, hj, he⟩ := List.getElem_of_mem hb
          have := own_ty HI.out.own (HI.out.row j hj) (by decide)
          exact this (by rw [he]; rfl)
      clear hcs
      go_wp2_with fail
      go_ret
      exact ⟨eb, oc, rbs, hlen, rfl, HT.out, HI.out.below⟩
end Go.Proofs.YtiganlkabilblaaGreatDoor
namespace Go.Proofs.YtiganlkabilblaaGreatDoor
open Go.RowKit
attribute [local go_sem ↓] Go.wp_at_zero Go.wp_at_succ
/-- A trial that has begun, and where it ended. -/
structure BgOk (w w' : World) (g : List Thk.Rule) (s : ByteArray) (tb : Nat) (n : Option Nat) : Prop where
  ex : ∃ (w0 : World) (B gb eb ec : Nat) (vx vr : Value) (ps : List (Thk.RE × Value × Value)) (rs : List (Thk.Bytes × Nat)) (rbs : List Nat), w.heap.size ≤ w0.heap.size ∧ Env w0 B gb vx vr ps rs s rbs ∧ Stt w0 tb eb ec vx vr ps rs s rbs w' ∧ Thk.DenR (xsOf ps) rs g
  val : ∀ o, (∀ h : 0 < g.length, Ev g s.data.toList (.C g[0].choice) 0 o) → n = fin o
def BegunPost (t : List UInt8) (s : ByteArray) (w : World) (e : Ending) (w' : World) : Prop :=
  Below w.heap.size w w' ∧ ∃ res, PAll t res ∧ match res with
    | .error (er, _) => er ≠ 0 ∧ e = .returned (.tuple #[.pointer none, .int .i64 0, .int .i64 er])
    | .ok (g, _) => if 200 < s.size then e = .returned (.tuple #[.pointer none, .int .i64 0, .int .i64 1]) else ∃ tb n, e = .returned (.tuple #[.pointer (some ⟨tb, 0, none⟩), .int .i64 (encR n), .int .i64 0]) ∧ BgOk w w' g s tb n
theorem KpM.below {rbs : List Nat} {B : Nat} {w w' : World} (h : KpM rbs w.heap.size w w') (hr : ∀ b ∈ rbs, B ≤ b) (hB : B ≤ w.heap.size) : Below B w w' := ⟨h.os, h.tape, h.output, h.size, fun k hk => h.block k (by omega) (fun hb => by have := hr k hb; omega)⟩
set_option maxHeartbeats 16000000 in
set_option maxRecDepth 100000 in
theorem rbegun_any (t s : ByteArray) (w : World) (hs : t.size ≤ maxLen) (hs2 : s.size ≤ maxLen) (r : Except (Nat × Nat) (List Thk.Rule)) (hP : PRead t.data.toList r) :
    Calls Tryz.prog 75 #[.string t, .string s] w fun e w' => BegunPost t.data.toList s w e w' := by
  have hld := rload_any t w hs r hP
  unfold maxLen at hs2
  clear hP
  go_enter Tryz.func75, Tryz.ntmps75
  go_wp2_with fail
  refine hld.mono ?_
  rintro e w1 ⟨hb, res, hP, hE⟩
  have HB := hideP hb
  have HP := hideP hP
  have hz := hb.size
  clear hld hb hP
  cases res with
  | error x =>
    obtain ⟨er, p⟩ := x
    obtain ⟨h0, xa, xn, xc, ra, rn, rc, rfl⟩ := hE
    have h1 : ¬ (er : Int) = 0 := by omega
    go_wp2_with fail
    go_ret3
    exact ⟨HB.out.alloc hz _, .error (er, p), HP.out, h0, rfl⟩
  | ok x =>
    obtain ⟨g, E⟩ := x
    obtain ⟨vx, vr, gb, lb, ps, rs, l, rfl, hok⟩ := hE
    obtain ⟨xa, xc, hvx⟩ := own_form hok.mem.ex
    rw [List.length_map] at hvx
    obtain ⟨rg, rc, hvr, _, hrgl⟩ := hok.mem.ruAt hok.rpos
    subst hvx
    subst hvr
    by_cases hlong : 200 < s.size
    · have hlong' : (200 : Int) < s.size := by omega
      clear hok
      go_wp2_with fail
      go_ret3
      refine ⟨HB.out.alloc hz _, .ok (g, E), HP.out, ?_⟩
      simp only []
      rw [if_pos hlong]
      rfl
    · have hlong' : ¬ (200 : Int) < s.size := by omega
      have hple := hok.ple
      have hrle := hok.rle
      have hrpos := hok.rpos
      have hppos : 0 < ps.length := by
        have := hok.fits.ru rs[0] (List.getElem_mem hrpos)
        omega
      obtain ⟨W, hW⟩ : ∃ W, W = w1.alloc (gramO (.slice xa ps.length xc) (.slice (some ⟨rg, 0, none⟩) rs.length rc)) := ⟨_, rfl⟩
      have hWb : Below w1.heap.size w1 W := by rw [hW]; exact below_alloc _ _
      have hWg : W.heap[w1.heap.size]? = some (gramO (.slice xa ps.length xc) (.slice (some ⟨rg, 0, none⟩) rs.length rc)) := by rw [hW]; exact heap_alloc_same _ _
      have hWs : W.heap.size = w1.heap.size + 1 := by rw [hW]; simp
      have hGW : GM W w.heap.size w1.heap.size (.slice xa ps.length xc) (.slice (some ⟨rg, 0, none⟩) rs.length rc) (ps.map (ruled (nmOf rs))) rs := by
        have := hok.mem.below hWb
        exact ⟨hWg, this.ex, this.ru, this.items, this.parts⟩
      have hnt := newTrial_any W xa ps.length xc (.slice (some ⟨rg, 0, none⟩) rs.length rc) (some ⟨rg, 0, none⟩) rs.length rc rfl s (by omega) hple hppos
      have d1 := (hGW.ruCells 0 hrpos).2
      have hq1 : W.cell? ⟨w1.heap.size, 1, none⟩ = some (.slice (some ⟨rg, 0, none⟩) rs.length rc) := cell_of_block hWg 1
      have hden := hok.den
      have hgl : 0 < g.length := HP.out.ends.pos
      have hdb := den_body hden hrpos hgl
      obtain ⟨o, ho⟩ := tot_first (inp := s.data.toList) HP.out.ends
      obtain ⟨f, hf⟩ := (Ev.pgroup ho).sim hden _ hdb
      have HOK := hideP hok
      have HGW := hideP hGW
      have HNT := hideP hnt
      have HF := hideP hf
      have HDB := hideP hdb
      have HWB := hideP hWb
      have hrgl2 : rg < W.heap.size := by omega
      have HWS := hideP hWs
      clear hok hWb hWg hGW hnt hden hdb hf ho hWs
      go_wp2_with fail
      rw [← hW]
      clear hW
      refine HNT.out.mono ?_
      rintro _ w2 ⟨eb, ec, rbs, hlen, rfl, hTr, hb2⟩
      have hEnv : Env W w.heap.size w1.heap.size (.slice xa ps.length xc) (.slice (some ⟨rg, 0, none⟩) rs.length rc) ps rs s rbs := ⟨HGW.out, HOK.out.fits, hrpos, hrle, hple, by omega, hlen⟩
      have hSt : Stt W (W.heap.size + 1) eb ec (.slice xa ps.length xc) (.slice (some ⟨rg, 0, none⟩) rs.length rc) ps rs s rbs w2 := ⟨fun _ _ => -2, hTr, fun i k hk => .inl rfl⟩
      have htr := try_all hEnv f w2 rs[0].2 0 (fin o) hSt (by omega) HF.out
      have hq2 : w2.cell? ⟨w1.heap.size, 1, none⟩ = some (.slice (some ⟨rg, 0, none⟩) rs.length rc) := by rw [hb2.cell (p := ⟨w1.heap.size, 1, none⟩) (by show w1.heap.size < _; have := HWS.out; omega)]; exact hq1
      have d2 : w2.cell? ⟨rg, 1, none⟩ = some (.int .i64 rs[0].2) := by rw [hb2.cell (p := ⟨rg, 1, none⟩) hrgl2]; simpa using d1
      have hz2 := hb2.size
      have hrp' : (0 : Int) < rs.length := by omega
      have HRG := hideP hTr.rge
      have HEN := hideP hEnv
      have HB2 := hideP ((HB.out.trans (HWB.out.mono hz)).trans (hb2.mono (by have := HWS.out; omega)))
      have HTR := hideP htr
      generalize rs[0].2 = b0 at *
      have HLEN := hideP hlen
      clear hTr hSt hEnv htr d1 hq1 hb2 hlen
      go_wp2_with fail
      refine HTR.out.mono ?_
      rintro _ w3 ⟨rfl, hs3, hk3⟩
      have HS3 := hideP hs3
      have HB3 := hideP (HB2.out.trans (hk3.below (B := w.heap.size) (fun b hb => by have := HRG.out b hb; have := HWS.out; omega) HB2.out.size))
      clear hs3 hk3
      go_wp2_with fail
      go_ret3
      refine ⟨HB3.out, .ok (g, E), HP.out, ?_⟩
      simp only []
      rw [if_neg hlong]
      refine ⟨_, fin o, rfl, ⟨W, _, _, eb, ec, _, _, ps, rs, rbs, by have := HWS.out; omega, HEN.out, HS3.out, HOK.out.den⟩, ?_⟩
      intro o' ho'
      obtain ⟨f', hf'⟩ := (Ev.pgroup (ho' hgl)).sim HOK.out.den _ HDB.out
      exact evR_det HF.out hf'
end Go.Proofs.YtiganlkabilblaaGreatDoor
namespace Go.Proofs.YtiganlkabilblaaGreatDoor
open Go.RowKit
attribute [local go_sem ↓] Go.wp_at_zero Go.wp_at_succ
/-- What Match tells of a grammar's answer. -/
def tookV (n : Option Nat) : Value := .tuple #[.int .i64 (n.getD 0 : Nat), .bool n.isSome, .int .i64 0]
def MatchPost (t : List UInt8) (s : ByteArray) (w : World) (e : Ending) (w' : World) : Prop :=
  Below w.heap.size w w' ∧ ∃ res, PAll t res ∧ match res with
    | .error (er, _) => e = .returned (.tuple #[.int .i64 0, .bool false, .int .i64 er])
    | .ok (g, _) => if 200 < s.size then e = .returned (.tuple #[.int .i64 0, .bool false, .int .i64 1]) else ∃ n, e = .returned (tookV n) ∧ ∀ o, (∀ h : 0 < g.length, Ev g s.data.toList (.C g[0].choice) 0 o) → n = fin o
set_option maxHeartbeats 8000000 in
set_option maxRecDepth 100000 in
theorem rmatch_any (t s : ByteArray) (w : World) (hs : t.size ≤ maxLen) (hs2 : s.size ≤ maxLen) (r : Except (Nat × Nat) (List Thk.Rule)) (hP : PRead t.data.toList r) :
    Calls Tryz.prog 46 #[.string t, .string s] w fun e w' => MatchPost t.data.toList s w e w' := by
  have hbg := rbegun_any t s w hs hs2 r hP
  clear hP
  go_enter Tryz.func46, Tryz.ntmps46
  go_wp2_with fail
  refine hbg.mono ?_
  rintro e w1 ⟨hb, res, hP, hE⟩
  have HB := hideP hb
  have HP := hideP hP
  clear hbg hb hP
  cases res with
  | error x =>
    obtain ⟨er, p⟩ := x
    obtain ⟨h0, rfl⟩ := hE
    have h1 : ¬ (er : Int) = 0 := by omega
    go_wp2_with fail
    go_ret3
    exact ⟨HB.out, .error (er, p), HP.out, rfl⟩
  | ok x =>
    obtain ⟨g, E⟩ := x
    simp only [] at hE
    by_cases hlong : 200 < s.size
    · rw [if_pos hlong] at hE
      subst hE
      go_wp2_with fail
      go_ret3
      refine ⟨HB.out, .ok (g, E), HP.out, ?_⟩
      simp only []
      rw [if_pos hlong]
      rfl
    · rw [if_neg hlong] at hE
      obtain ⟨tb, n, rfl, hok⟩ := hE
      have HV := hideP hok.val
      clear hok
      cases n with
      | none =>
        simp only [encR_none]
        go_wp2_with fail
        go_ret3
        refine ⟨HB.out, .ok (g, E), HP.out, ?_⟩
        simp only []
        rw [if_neg hlong]
        exact ⟨none, rfl, HV.out⟩
      | some x =>
        have hx0 : ¬ (x : Int) < 0 := by omega
        have hx1 : decide ((x : Int) < 0) = false := by simp
        simp only [encR_some]
        go_wp2_with fail
        go_ret3
        refine ⟨HB.out, .ok (g, E), HP.out, ?_⟩
        simp only []
        rw [if_neg hlong]
        exact ⟨some x, rfl, HV.out⟩
end Go.Proofs.YtiganlkabilblaaGreatDoor
namespace Go.Proofs.YtiganlkabilblaaGreatDoor
open Thk
/-- What comes of an expression is one. -/
theorem Ev.det {g : List Rule} {inp : Bytes} {x : Ex} {k : Nat} {r : Out} (h : Ev g inp x k r) : ∀ r2, Ev g inp x k r2 → r = r2 := by
  induction h with
  | cnil => intro r2 h2; cases h2; rfl
  | chit _ ih =>
    intro r2 h2
    cases h2 with
    | chit a => exact ih _ a
    | cmiss a _ => exact absurd (ih _ a) (by simp)
  | cmiss _ _ ih1 ih2 =>
    intro r2 h2
    cases h2 with
    | chit a => exact absurd (ih1 _ a) (by simp)
    | cmiss _ b => exact ih2 _ b
  | snil => intro r2 h2; cases h2; rfl
  | sfail _ ih =>
    intro r2 h2
    cases h2 with
    | sfail _ => rfl
    | sstep a _ => exact absurd (ih _ a) (by simp)
  | sstep _ _ ih1 ih2 =>
    intro r2 h2
    cases h2 with
    | sfail a => exact absurd (ih1 _ a) (by simp)
    | sstep a b =>
      have e := ih1 _ a
      simp only [Option.some.injEq, Prod.mk.injEq] at e
      obtain ⟨rfl, rfl⟩ := e
      exact ih2 _ b
  | tplain _ ih => intro r2 h2; cases h2 with | tplain a => exact ih _ a
  | tand _ ih => intro r2 h2; cases h2 with | tand a => rw [ih _ a]
  | tnot _ ih => intro r2 h2; cases h2 with | tnot a => rw [ih _ a]
  | iplain _ ih => intro r2 h2; cases h2 with | iplain a => exact ih _ a
  | imaybe _ ih => intro r2 h2; cases h2 with | imaybe a => rw [ih _ a]
  | istar _ ih => intro r2 h2; cases h2 with | istar a => rw [ih _ a]
  | iplus _ ih => intro r2 h2; cases h2 with | iplus a => exact ih _ a
  | qno _ ih =>
    intro r2 h2
    cases h2 with
    | qno _ => rfl
    | qlast a _ => exact absurd (ih _ a) (by simp)
    | qmore a _ => exact absurd (ih _ a) (by simp)
  | qlast _ _ ih1 ih2 =>
    intro r2 h2
    cases h2 with
    | qno a => exact absurd (ih1 _ a) (by simp)
    | qlast a _ => exact ih1 _ a
    | qmore a b =>
      have e := ih1 _ a
      simp only [Option.some.injEq, Prod.mk.injEq] at e
      obtain ⟨rfl, rfl⟩ := e
      exact absurd (ih2 _ b) (by simp)
  | qmore _ _ ih1 ih2 =>
    intro r2 h2
    cases h2 with
    | qno a => exact absurd (ih1 _ a) (by simp)
    | qlast a b =>
      have e := ih1 _ a
      simp only [Option.some.injEq, Prod.mk.injEq] at e
      obtain ⟨rfl, rfl⟩ := e
      exact absurd (ih2 _ b) (by simp)
    | qmore a b =>
      have e := ih1 _ a
      simp only [Option.some.injEq, Prod.mk.injEq] at e
      obtain ⟨rfl, rfl⟩ := e
      have e2 := ih2 _ b
      simp only [Option.some.injEq, Prod.mk.injEq] at e2
      obtain ⟨rfl, rfl⟩ := e2
      rfl
  | pname _ _ _ ih => intro r2 h2; cases h2 with | pname _ _ a => rw [ih _ a]
  | plit _ => intro r2 h2; cases h2; rfl
  | pcls _ => intro r2 h2; cases h2; rfl
  | pany => intro r2 h2; cases h2; rfl
  | pgroup _ ih => intro r2 h2; cases h2 with | pgroup a => exact ih _ a
end Go.Proofs.YtiganlkabilblaaGreatDoor
namespace Go.Proofs.YtiganlkabilblaaGreatDoor
open Go.RowKit Thk
attribute [local go_sem ↓] Go.wp_at_zero Go.wp_at_succ
theorem taken_any' (o : Out) (hn : endO o ≤ 1000000) (w : World) : Calls Tryz.prog 56 #[useV 0 0 o] w fun e w' => e = .returned (.int .i64 (endO o)) ∧ Below w.heap.size w w' := by
  cases o with
  | none =>
    simp only [useV, endO]
    go_enter Tryz.func56, Tryz.ntmps56
    go_wp2_with fail
    go_ret
    exact ⟨rfl, below_alloc _ _⟩
  | some x =>
    simp only [useV, endO] at hn ⊢
    have hf := nt_form x.2
    generalize ntV x.2 = nv at *
    generalize x.1 = n at *
    rcases hf with rfl | ⟨t, v, rfl⟩
    · go_enter Tryz.func56, Tryz.ntmps56
      go_wp2_with fail
      go_ret
      exact ⟨by go_num, below_alloc _ _⟩
    · go_enter Tryz.func56, Tryz.ntmps56
      go_wp2_with fail
      go_ret
      exact ⟨by go_num, below_alloc _ _⟩
set_option maxHeartbeats 8000000 in
set_option maxRecDepth 100000 in
theorem pmatch_any (t s : ByteArray) (w : World) (hs : t.size ≤ maxLen) (hs2 : s.size ≤ maxLen) (hg : ErrLaid w) :
    Calls Tryz.prog 28 #[.string t, .string s] w fun e w' => MatchPost t.data.toList s w e w' := by
  have htk := ptake_any t s w hs hs2 hg
  go_enter Tryz.func28, Tryz.ntmps28
  go_wp2_with fail
  refine htk.mono ?_
  rintro e w1 ⟨hb, res, hP, hE⟩
  have hz := hb.size
  have HB := hideP hb
  have HP := hideP hP
  clear htk hb hP
  have hfin : ∀ (n : Int) (o : Out) (b : Bool) (er : Int), endO o ≤ 1000000 → n = endO o → Calls Tryz.prog 56 #[useV 0 0 o] (w1.alloc (.cells (match useV 0 0 o with | .agg c => c | _ => #[]) 108)) fun e w' => e = .returned (.int .i64 n) ∧ Below w.heap.size w w' := by
    intro n o b er ho hn
    subst hn
    refine (taken_any' o ho _).mono ?_
    rintro e w' ⟨h1, h2⟩
    exact ⟨h1, (HB.out.alloc hz _).trans (h2.mono (by simp; omega))⟩
  cases res with
  | error x =>
    obtain ⟨er, p⟩ := x
    obtain ⟨h0, rfl⟩ := hE
    have HF := hideP (hfin 0 none false er (Nat.zero_le _) rfl)
    simp only [useV] at HF ⊢
    clear hfin
    go_wp2_with fail
    refine HF.out.mono ?_
    rintro _ w2 ⟨rfl, hb2⟩
    have HB2 := hideP hb2
    clear hb2
    go_wp2_with fail
    go_ret3
    exact ⟨HB2.out, .error (er, p), HP.out, rfl⟩
  | ok y =>
    obtain ⟨g, E⟩ := y
    simp only [] at hE
    by_cases hlong : 200 < s.size
    · rw [if_pos hlong] at hE
      subst hE
      have HF := hideP (hfin 0 none false 1 (Nat.zero_le _) rfl)
      simp only [useV] at HF ⊢
      clear hfin
      go_wp2_with fail
      refine HF.out.mono ?_
      rintro _ w2 ⟨rfl, hb2⟩
      have HB2 := hideP hb2
      clear hb2
      go_wp2_with fail
      go_ret3
      refine ⟨HB2.out, .ok (g, E), HP.out, ?_⟩
      simp only []
      rw [if_pos hlong]
      rfl
    · rw [if_neg hlong] at hE
      obtain ⟨o, ho, rfl⟩ := hE
      have hgp := HP.out.ends.pos
      have hev := ho hgp
      have hle : endO o ≤ 1000000 := by
        cases o with
        | none => exact Nat.zero_le _
        | some x =>
          have h1 := (hev.le (Nat.zero_le _) x.1 x.2 rfl).2
          have h2 : s.data.toList.length = s.size := rfl
          simp only [endO]; omega
      have HF := hideP (hfin (endO o) o o.isSome 0 hle rfl)
      have HZ : Hid (∀ w', Below w.heap.size w w' → MatchPost t.data.toList s w (.returned (.tuple #[.int .i64 (endO o), .bool o.isSome, .int .i64 0])) w') := hideP (fun w' hb => by
        refine ⟨hb, .ok (g, E), HP.out, ?_⟩
        simp only []
        rw [if_neg hlong]
        refine ⟨fin o, ?_, fun o' h' => by rw [hev.det _ (h' hgp)]⟩
        cases o <;> rfl)
      obtain ⟨c, nv, huv, hnv⟩ := useV_form o
      rw [huv] at HF ⊢
      simp only [] at HF
      clear hfin hev ho huv hle
      generalize o.isSome = ob at *
      generalize endO o = oe at *
      rcases hnv with rfl | ⟨nt, nx, rfl⟩
      · go_wp2_with fail
        refine HF.out.mono ?_
        rintro _ w2 ⟨rfl, hb2⟩
        have HB2 := hideP hb2
        clear hb2
        go_wp2_with fail
        go_ret3
        exact HZ.out _ HB2.out
      · go_wp2_with fail
        refine HF.out.mono ?_
        rintro _ w2 ⟨rfl, hb2⟩
        have HB2 := hideP hb2
        clear hb2
        go_wp2_with fail
        go_ret3
        exact HZ.out _ HB2.out
end Go.Proofs.YtiganlkabilblaaGreatDoor
namespace Go.Proofs.YtiganlkabilblaaGreatDoor
open Go.RowKit Thk
attribute [local go_sem ↓] Go.wp_at_zero Go.wp_at_succ
theorem PAll.pread {l : List UInt8} {res : Except (Nat × Nat) (List Rule × List Bool)} (hP : PAll l res) : ∃ r, PRead l r := by
  cases hP with
  | text h => exact ⟨_, h⟩
  | rules h _ => exact ⟨_, h⟩
  | ok h _ => exact ⟨_, h⟩
/-- What Match tells, whoever tells it. -/
def MatchIs (t : List UInt8) (s : ByteArray) (a b c : Value) : Prop := ∃ res, PAll t res ∧ match res with
    | .error (er, _) => a = .int .i64 0 ∧ b = .bool false ∧ c = .int .i64 er
    | .ok (g, _) => if 200 < s.size then a = .int .i64 0 ∧ b = .bool false ∧ c = .int .i64 1 else ∃ o, (∀ h : 0 < g.length, Ev g s.data.toList (.C g[0].choice) 0 o) ∧ a = .int .i64 ((fin o).getD 0 : Nat) ∧ b = .bool (fin o).isSome ∧ c = .int .i64 0
theorem MatchPost.is {t : List UInt8} {s : ByteArray} {w w' : World} {e : Ending} (h : MatchPost t s w e w') : Below w.heap.size w w' ∧ ∃ a b c, e = .returned (.tuple #[a, b, c]) ∧ MatchIs t s a b c := by
  obtain ⟨hb, res, hP, hE⟩ := h
  refine ⟨hb, ?_⟩
  cases res with
  | error x =>
    obtain ⟨er, p⟩ := x
    exact ⟨_, _, _, hE, .error (er, p), hP, rfl, rfl, rfl⟩
  | ok y =>
    obtain ⟨g, E⟩ := y
    simp only [] at hE
    by_cases hlong : 200 < s.size
    · rw [if_pos hlong] at hE
      refine ⟨_, _, _, hE, .ok (g, E), hP, ?_⟩
      simp only []
      rw [if_pos hlong]
      simp
    · rw [if_neg hlong] at hE
      obtain ⟨n, rfl, hn⟩ := hE
      obtain ⟨o, ho⟩ := tot_first (inp := s.data.toList) hP.ends
      have := hn o (fun _ => ho)
      subst this
      refine ⟨_, _, _, rfl, .ok (g, E), hP, ?_⟩
      simp only []
      rw [if_neg hlong]
      exact ⟨o, fun _ => ho, by simp⟩
theorem MatchIs.form {t : List UInt8} {s : ByteArray} {a b c : Value} (h : MatchIs t s a b c) : ∃ (x : Int) (y : Bool) (z : Int), a = .int .i64 x ∧ b = .bool y ∧ c = .int .i64 z := by
  obtain ⟨res, hP, hE⟩ := h
  cases res with
  | error x => exact ⟨_, _, _, hE⟩
  | ok y =>
    simp only [] at hE
    split at hE
    · exact ⟨_, _, _, hE⟩
    · obtain ⟨o, _, h⟩ := hE
      exact ⟨_, _, _, h⟩
theorem MatchIs.det {t : List UInt8} {s : ByteArray} {a b c a' b' c' : Value} (h : MatchIs t s a b c) (h' : MatchIs t s a' b' c') : a = a' ∧ b = b' ∧ c = c' := by
  obtain ⟨res, hP, hE⟩ := h
  obtain ⟨res', hP', hE'⟩ := h'
  have := hP.det hP'
  subst this
  cases res with
  | error x =>
    obtain ⟨rfl, rfl, rfl⟩ := hE
    obtain ⟨rfl, rfl, rfl⟩ := hE'
    exact ⟨rfl, rfl, rfl⟩
  | ok y =>
    obtain ⟨g, E⟩ := y
    simp only [] at hE hE'
    by_cases hlong : 200 < s.size
    · rw [if_pos hlong] at hE hE'
      obtain ⟨rfl, rfl, rfl⟩ := hE
      obtain ⟨rfl, rfl, rfl⟩ := hE'
      exact ⟨rfl, rfl, rfl⟩
    · rw [if_neg hlong] at hE hE'
      obtain ⟨o, ho, rfl, rfl, rfl⟩ := hE
      obtain ⟨o', ho', rfl, rfl, rfl⟩ := hE'
      have := (ho hP.ends.pos).det _ (ho' hP.ends.pos)
      subst this
      exact ⟨rfl, rfl, rfl⟩
set_option maxHeartbeats 8000000 in
set_option maxRecDepth 100000 in
theorem matched_any (t s : ByteArray) (w : World) (hs : t.size ≤ maxLen) (hs2 : s.size ≤ maxLen) (hg : ErrLaid w) :
    Calls Tryz.prog 20 #[.string t, .string s] w fun e w' => e = .returned (.bool true) ∧ Below w.heap.size w w' := by
  have hpm := pmatch_any t s w hs hs2 hg
  clear hg
  go_enter Tryz.func20, Tryz.ntmps20
  go_wp2_with fail
  refine hpm.mono ?_
  intro e w1 h1
  obtain ⟨hb1, a, b, c, rfl, hI⟩ := h1.is
  obtain ⟨x, y, z, rfl, rfl, rfl⟩ := hI.form
  obtain ⟨r, hr⟩ : ∃ r, PRead t.data.toList r := by obtain ⟨res, hP, _⟩ := hI; exact hP.pread
  have hrm := hideP (rmatch_any t s w1 hs hs2 r hr)
  have HB1 := hideP hb1
  have HI := hideP hI
  clear hpm h1 hb1 hI hr
  go_wp2_with fail
  refine hrm.out.mono ?_
  intro e w2 h2
  obtain ⟨hb2, a, b, c, rfl, hI2⟩ := h2.is
  obtain ⟨ha, hb, hc⟩ := HI.out.det hI2
  subst ha
  subst hb
  subst hc
  have HB2 := hideP (HB1.out.trans (hb2.mono HB1.out.size))
  clear h2 hb2 hI2 hrm
  go_wp2_with fail
  all_goals
    go_ret
    exact ⟨by simp, HB2.out⟩
abbrev gram0 : ByteArray := ⟨#[97, 32, 60, 45, 32, 39, 120, 39, 32, 97, 32, 47, 32, 39, 121, 39]⟩
abbrev inp0 : ByteArray := ⟨#[120, 120, 121, 122]⟩
set_option maxHeartbeats 8000000 in
set_option maxRecDepth 100000 in
theorem matches_any (t s : ByteArray) (w : World) (hs : t.size ≤ maxLen) (hs2 : s.size ≤ maxLen) (hg : ErrLaid w) :
    Calls Tryz.prog 6 #[.string t, .string s] w fun e w' => e = .returned (.bool true) ∧ Below w.heap.size w w' := by
  have h0 := matched_any gram0 inp0 w (by decide) (by decide) hg
  go_enter Tryz.func6, Tryz.ntmps6
  go_wp2_with fail
  refine h0.mono ?_
  rintro _ w1 ⟨rfl, hb1⟩
  have HT := hideP (matched_any t s w1 hs hs2 (hg.below hb1))
  have HB1 := hideP hb1
  clear h0 hb1 hg
  go_wp2_with fail
  refine HT.out.mono ?_
  rintro _ w2 ⟨rfl, hb2⟩
  have HB2 := hideP (HB1.out.trans (hb2.mono HB1.out.size))
  clear HT hb2
  go_wp2_with fail
  go_ret
  exact ⟨rfl, HB2.out⟩
end Go.Proofs.YtiganlkabilblaaGreatDoor
namespace Go.Proofs.YtiganlkabilblaaGreatDoor
open Go.ChangeShapes Go.WideShapes Go.ChangeAt Go.RowKit
theorem matchz_own : ownKnob Tryz.prog.godebug = none := by kernel_rfl
theorem matchz_et : Tryz.prog.globalNamed "errors.errorType" = some 0 := by kernel_rfl
theorem matchz_rt : (Tryz.prog.cutTypes.find? (·.1 == "internal/reflectlite.rtype")).map (·.2) = some 259 := by kernel_rfl
theorem matchz_size : Tryz.prog.types.size = 376 := by kernel_rfl
theorem matchz_oneRow : ((List.range 376).filter fun t => Tryz.prog.rowNamed t [101, 114, 114, 111, 114]) = [78] := by kernel_rfl
abbrev matchzLaid : List (String × DataW Unit) := [("errors.errorType", Rows.laid_errors_errorType)]
/-- What the condition gives the walk: the variable's one cell. -/
theorem errLaidM_of {W : World} (h : laidMetH Tryz.prog matchzLaid W) : ErrLaid W := by
  have h' : laidMet Tryz.prog [] W ∧ handlesMet Tryz.prog matchzLaid W := h
  obtain ⟨name, u, ty, e1, e2, e3, e4, e5⟩ := h'.2 _ (List.mem_singleton.2 rfl)
  have en : name = [101, 114, 114, 111, 114] := (Option.some.inj e1).symm
  subst en
  obtain rfl := Option.some.inj (matchz_rt.symm.trans e2)
  have hm : ty ∈ (List.range 376).filter fun t => Tryz.prog.rowNamed t [101, 114, 114, 111, 114] := List.mem_filter.2 ⟨List.mem_range.2 (by rw [← matchz_size]; exact e3), e4⟩
  rw [matchz_oneRow] at hm
  obtain rfl := List.mem_singleton.1 hm
  have hh : typeHandle Tryz.prog 78 = .pointer (some ⟨2, 78, none⟩) := by kernel_rfl
  rw [hh] at e5
  unfold ErrLaid
  simpa using World.var?_cell matchz_et e5 0
set_option maxRecDepth 100000 in
theorem matches_lifted (os : Os) (started : os.Started) (H : Type) (enc : TypeId × Value → H) :
    ReturnsInHanded {} Tryz.checked os 6 .any (fun w args => (Rows.matchesSpec.pre enc Tryz.prog Tryz.f6 [] false w args ∧ laidMetH Tryz.prog matchzLaid w) ∧ sizedMet enc Tryz.prog Tryz.f6 (OpenSpec.ofChange Rows.matchesSpec) false w args)
      (Rows.matchesSpec.post enc Tryz.prog Tryz.f6 false true false false) := by
  refine returnsInHanded_of_change_and (C := Tryz.checked) (X := fun w _ => laidMetH Tryz.prog matchzLaid w) (fun _ _ _ hh h => h.of_heap hh) matchz_own started (by kernel_rfl) Tryz.func6
    (ChangeSpec.witness_at (enc := enc) (C := Tryz.checked) (os := os) (X := fun w _ => laidMetH Tryz.prog matchzLaid w) false
      { World.holding Tryz.prog os ⟨#[], #[], []⟩ with heap := (World.holding Tryz.prog os ⟨#[], #[], []⟩).heap.modify 0 fun
          | .cells _ t frozen => .cells #[.iface 259 (.agg #[.pointer (some ⟨2, 78, none⟩)])] t frozen
          | o => o }
      #[.string ⟨#[]⟩, .string ⟨#[]⟩] 8 rfl (by kernel_rfl) (by kernel_rfl) (by kernel_rfl) (by kernel_rfl) (by kernel_rfl) (laidMetH_of_parts (laidMet_nil _ _) (by kernel_rfl))) ?_
  intro W base args ds gs before hval0 hW _ _ hL _
  have hval : ∀ (j : Nat) t v, Tryz.f6.params[j]? = some t → args[j]? = some v → Value.okWide Tryz.prog W .any base t v := hval0
  have hW' := hW
  obtain ⟨p, q, hA0, hV0, rfl, hfz, hnd⟩ := hW
  have hA : DataW.TrodAll enc Tryz.prog W 0 (fun _ => true) true Tryz.f6.params.toList args.toList ds p := hA0
  have hV : DataW.TrodVars enc Tryz.prog W (fun _ => true) [] gs q := hV0
  rw [Tryz.params6] at hA hval
  obtain ⟨v0, vs0, d0, ds0, p0, q0, hargs, rfl, rfl, h0, r0⟩ := trodAll_cons hA
  obtain ⟨v1, vs1, d1, ds1, p1, q1, rfl, rfl, rfl, h1, r1⟩ := trodAll_cons r0
  obtain ⟨rfl, rfl, rfl⟩ := trodAll_nil r1
  obtain rfl : args = #[v0, v1] := by cases args; simp_all
  obtain ⟨rfl, rfl⟩ : gs = [] ∧ q = [] := by
    cases gs with
    | nil => exact ⟨rfl, hV⟩
    | cons g r => exact absurd hV (by intro h; cases h)
  obtain ⟨s0, rfl, rfl, rfl, w0⟩ := Go.ChangeMaps.open_string Tryz.underlying9 (hval 0 9 v0 rfl rfl) h0
  obtain ⟨s1, rfl, rfl, rfl, w1⟩ := Go.ChangeMaps.open_string Tryz.underlying9 (hval 1 9 v1 rfl rfl) h1
  refine (matches_any s0 s1 W w0 w1 (errLaidM_of hL)).mono fun e W' ⟨he, bel⟩ => ?_
  subst he
  exact ⟨_, rfl, _, _, _, [], _, [], hW', trodAll_mk1 (shut_bool Tryz.underlying4 _), trodAll_mk2 (Go.ChangeMaps.shut_string Tryz.underlying9 w0) (Go.ChangeMaps.shut_string Tryz.underlying9 w1), rfl, bel.frame _, fun h => by cases h⟩
theorem matches_holds : Rows.MatchesSaid :=
  OpenClaim.holds_of_wide 6 Tryz.f6 rfl rfl rfl rfl rfl rfl rfl ⟨rfl, rfl, rfl, rfl, rfl⟩ rfl rfl rfl rfl rfl (by kernel_rfl) Tryz.func6 (by kernel_rfl)
    (of_decide_eq_true (by kernel_rfl)) (by unfold Func.isWrapper; first | (rw [if_pos (by decide +kernel)]; kernel_rfl) | (rw [if_neg (by decide +kernel)]; exact ⟨rfl, rfl⟩))
    (fun os started H enc _ => matches_lifted os started H enc)
end Go.Proofs.YtiganlkabilblaaGreatDoor
namespace Go.Proofs.YtiganlkabilblaaGreatDoor
open Go
/-- The row's tie, out of the program's. -/
theorem matches_tie : Rows.matchesRow.laidByTextAt .later Tryz.pinned [.handle] true :=
  OpenClaim.laidByTextAt_later rfl rfl tie (by kernel_rfl)
/-- The tied card. -/
theorem matches_card : Rows.MatchesCardSaid :=
  Claim7.holds_tied_plain_at .later [] [.handle] true (true, Rows.matchesCard.stood.harness.2) true
    matches_holds (fun _ h => by cases h) (by kernel_rfl) (fun _ h => by cases h) matches_tie rfl ⟨rfl, rfl⟩ (by kernel_rfl) rfl
    (fun f fn hf hfn => by
      obtain rfl : f = 6 := Option.some.inj ((show Tryz.prog.funcNamed Rows.matchesRow.func = some 6 by kernel_rfl).symm.trans hf) |>.symm
      obtain rfl : fn = Tryz.f6 := (Option.some.inj (Tryz.func6.symm.trans hfn)).symm
      exact ⟨by kernel_rfl, fun j t ht => by
        rw [Tryz.params6] at ht
        have h3 : t = 9 := by
          rcases j with _ | _ | j
          · simpa using ht.symm
          · simpa using ht.symm
          · simp at ht
        subst h3
        exact (show Tryz.prog.wantsStandIn 9 = false by kernel_rfl)⟩)
    (by kernel_rfl)
#print axioms matches_card
end Go.Proofs.YtiganlkabilblaaGreatDoor
