import Derived.Test.YtjmcdklhaieldaaGreatDoorP9
import Derived.Test.YtjmcdklhaieldaaGreatDoorPD
import Derived.Test.YtjmcdklhaieldaaGreatDoorP12
import Derived.Test.YtjmcdklhaieldaaGreatDoorTE
import Derived.Deep.RegionHeld
set_option linter.all false
namespace Go.Proofs.YtjmcdklhaieldaaGreatDoor
open Go.RowKit

theorem steps_ref (B gb : Nat) (vx vr : Value) (ps : List (Thk.RE × Value × Value)) (rs : List (Thk.Bytes × Nat)) : StepsP (xsOf ps) (RetP B gb vx vr ps rs) (RetI B gb vx vr ps rs) (RetT B gb vx vr ps rs) (RetC B gb vx vr ps rs) where
  name := fun k b sg hx => ppiece_name B gb vx vr ps rs k b sg hx
  lit := fun k b sg hx hb => ppiece_lit B gb vx vr ps rs k b sg hx hb
  cls := fun k l sg hx hb => ppiece_cls B gb vx vr ps rs k l sg hx hb
  any := fun k sg hx => ppiece_any B gb vx vr ps rs k sg hx
  brk := fun k q qs ks sg s hx hs hm hl hC => ppiece_brk B gb vx vr ps rs k q qs ks sg s hx hs hm hl hC
  unit := fun k q sg hx hs => ppiece_unit B gb vx vr ps rs k q sg hx hs
  thru := fun k q t e sg s hx hs ht he hP => ppiece_thru B gb vx vr ps rs k q t e sg s hx hs ht he hP
  sgn := fun k q t e sg s hx hs ht h1 h2 hl hP => ppiece_sgn B gb vx vr ps rs k q t e sg s hx hs ht h1 h2 hl hP
  item := fun k e sg s hx hk hP => pitem_plain B gb vx vr ps rs k e sg s hx hk hP
  itemS := fun k j b sg s hx hb hl hP => pitem_sign B gb vx vr ps rs k j b sg s hx hb hl hP
  term := fun k e s hx hk hI => pterm_plain B gb vx vr ps rs k e s hx hk hI
  termS := fun k i a s hx ha hl hI => pterm_sign B gb vx vr ps rs k i a s hx ha hl hI
  choice := fun k qs sss hx hall hl => pchoice_any B gb vx vr ps rs k qs sss hx hall hl

/-- The plain form of a rule, of a grammar. -/
def prR (r : Thk.Rule) : Thk.Bytes := ((r.name ++ [32, 60, 45, 32]) ++ Thk.prC r.choice) ++ [10]
def prG (g : List Thk.Rule) : Thk.Bytes := g.flatMap prR

def GOk (g : List Thk.Rule) : Prop := ∀ r ∈ g, Thk.wtC r.choice ≤ 500000 ∧ r.name.length ≤ 20

theorem PAll.gok {l : List UInt8} {g : List Thk.Rule} {E : List Bool} (h : PAll l (.ok (g, E))) : GOk g := by
  cases h with
  | ok h _ =>
    cases h with
    | read hl hg => exact Thk.gram_wt hg hl

theorem prR_len {r : Thk.Rule} (h : Thk.wtC r.choice ≤ 500000 ∧ r.name.length ≤ 20) : (prR r).length ≤ 500030 ∧ (Thk.prC r.choice).length ≤ 500000 := by
  have := Thk.prC_len r.choice
  unfold prR
  simp only [List.length_append, List.length_cons, List.length_nil]
  omega
theorem prG_len {g : List Thk.Rule} (h : GOk g) : (prG g).length ≤ 500030 * g.length := by
  unfold prG
  induction g with
  | nil => simp
  | cons r g ih =>
    have h1 := (prR_len (h r (by simp))).1
    have h2 := ih (fun x hx => h x (by simp [hx]))
    rw [List.flatMap_cons, List.length_append, List.length_cons]
    omega
theorem prG_take {g : List Thk.Rule} (h : GOk g) (hl : g.length ≤ 20) (i : Nat) : (prG (g.take i)).length ≤ 10000600 := by
  have h1 := prG_len (g := g.take i) (fun r hr => h r (List.mem_of_mem_take hr))
  have h2 : (g.take i).length ≤ 20 := by rw [List.length_take]; omega
  have : 500030 * (g.take i).length ≤ 500030 * 20 := Nat.mul_le_mul_left _ h2
  omega
theorem prG_snoc {g : List Thk.Rule} {i : Nat} (h : i < g.length) : prG (g.take (i + 1)) = prG (g.take i) ++ prR g[i] := by
  unfold prG
  rw [List.take_succ_eq_append_getElem h, List.flatMap_append]
  simp

theorem bcat (a b : Thk.Bytes) (h : a.length + b.length ≤ 200000000) (W : World) : (Op.stringOp .add ⟨a.toArray⟩ ⟨b.toArray⟩).run Tryz.prog W = .ok (.string ⟨(a ++ b).toArray⟩) W := by
  rw [run_string_add_sum W _ _ (by show a.toArray.size + b.toArray.size ≤ _; simp; omega)]
  exact congrArg (fun b => Result.ok (Value.string b) W) (bs_app a b)
end Go.Proofs.YtjmcdklhaieldaaGreatDoor
namespace Go.Proofs.YtjmcdklhaieldaaGreatDoor
open Go.RowKit
attribute [local go_sem ↓] Go.wp_at_zero Go.wp_at_succ

set_option maxHeartbeats 16000000 in
set_option maxRecDepth 100000 in
theorem rprint_any (s : ByteArray) (w : World) (hs : s.size ≤ maxLen) (r : Except (Nat × Nat) (List Thk.Rule)) (hP : PRead s.data.toList r) :
    Calls Tryz.prog 15 #[.string s] w fun e w' => Below w.heap.size w w' ∧ ∃ res, PAll s.data.toList res ∧ match res with
      | .ok (g, _) => e = .returned (.tuple #[.string ⟨(prG g).toArray⟩, .int .i64 0])
      | .error (er, _) => er ≠ 0 ∧ e = .returned (.tuple #[.string ⟨#[]⟩, .int .i64 er]) := by
  have hld := rload_any s w hs r hP
  clear hP
  go_enter Tryz.func15, Tryz.ntmps15
  go_wp2_with fail
  refine hld.mono ?_
  rintro e w1 ⟨hb, res, hP, hE⟩
  have HB := hideP hb
  have HP := hideP hP
  have hz := hb.size
  clear hld hb hP
  cases res with
  | error x =>
    obtain ⟨er, p⟩ := x
    obtain ⟨h0, xa, xn, xc, ra, rn, rc, rfl⟩ := hE
    have h1 : ¬ (er : Int) = 0 := by omega
    go_wp2_with fail
    go_ret2
    exact ⟨HB.out.alloc hz _, .error (er, p), HP.out, h0, rfl⟩
  | ok x =>
    obtain ⟨g, E⟩ := x
    obtain ⟨vx, vr, gb, lb, ps, rs, l, rfl, hok⟩ := hE
    obtain ⟨xa, xc, hvx⟩ := own_form hok.mem.ex
    rw [List.length_map] at hvx
    obtain ⟨rg, rc, hvr, _, hrgl⟩ := hok.mem.ruAt hok.rpos
    subst hvx
    subst hvr
    have hrle := hok.rle
    have hdl := DenR.get rs g hok.den
    have hgl0 : rs.length = g.length := hdl.1
    have HGOK := hideP HP.out.gok
    obtain ⟨W, hW⟩ : ∃ W, W = w1.alloc (gramO (.slice xa ps.length xc) (.slice (some ⟨rg, 0, none⟩) rs.length rc)) := ⟨_, rfl⟩
    have hWb : Below w1.heap.size w1 W := by rw [hW]; exact below_alloc _ _
    have hWg : W.heap[w1.heap.size]? = some (gramO (.slice xa ps.length xc) (.slice (some ⟨rg, 0, none⟩) rs.length rc)) := by rw [hW]; exact heap_alloc_same _ _
    have hWs : W.heap.size = w1.heap.size + 1 := by rw [hW]; simp
    have hGW : GM W w.heap.size w1.heap.size (.slice xa ps.length xc) (.slice (some ⟨rg, 0, none⟩) rs.length rc) (ps.map (ruled (nmOf rs))) rs := by
      have := hok.mem.below hWb
      exact ⟨hWg, this.ex, this.ru, this.items, this.parts⟩
    have HOK := hideP hok
    have HWB := hideP hWb
    have HWG := hideP hWg
    have HGW := hideP hGW
    have HGL := hideP hgl0
    clear hok hWb hWg hGW hdl hgl0
    go_wp2_with fail
    rw [← hW]
    clear hW
    go_loopg [8, 9] rs.length (fun m vo vi wr => ∃ i : Nat, m = rs.length - i ∧ vo = .string ⟨(prG (g.take i)).toArray⟩ ∧ vi = .int .i64 i ∧ i ≤ rs.length ∧ Hid (Below W.heap.size W wr))
    case atStart => exact ⟨0, by omega, rfl, rfl, by omega, Below.refl _ _⟩
    case round =>
      obtain ⟨i, rfl, rfl, rfl, hi, HI⟩ := hrel
      have hgr : wr.heap[w1.heap.size]? = some (gramO (.slice xa ps.length xc) (.slice (some ⟨rg, 0, none⟩) rs.length rc)) := by rw [HI.out.block _ (by omega)]; exact HWG.out
      have q := cell_of_block hgr
      have hgl := heap_lt' hgr
      have hsz := HI.out.size
      obtain ⟨P, hPr⟩ : ∃ P, P = prG (g.take i) := ⟨_, rfl⟩
      rw [← hPr]
      by_cases hlt : i < rs.length
      · have hlt' : (i : Int) < rs.length := by omega
        have hig : i < g.length := by have := HGL.out; omega
        have hmem := HGW.out.below HI.out
        obtain ⟨d0, d1⟩ := hmem.ruCells i hlt
        have hr1 : rs[i].1 = g[i].name := by
          have := ((DenR.get rs g HOK.out.den).2 i hig).1
          rw [List.getD_eq_getElem?_getD, List.getElem?_map, List.getElem?_eq_getElem hlt] at this
          exact this
        have hden := den_body HOK.out.den hlt hig
        have hgi := HGOK.out g[i] (List.getElem_mem hig)
        have hC := ppBody (steps_ref w.heap.size w1.heap.size (.slice xa ps.length xc) (.slice (some ⟨rg, 0, none⟩) rs.length rc) ps rs) hden hgi.1
        have hbr : rg < wr.heap.size := by omega
        obtain ⟨nm, hnm⟩ : ∃ nm, nm = g[i].name := ⟨_, rfl⟩
        obtain ⟨bd, hbd⟩ : ∃ bd, bd = Thk.prC g[i].choice := ⟨_, rfl⟩
        obtain ⟨kb, hkb⟩ : ∃ kb, kb = rs[i].2 := ⟨_, rfl⟩
        have hl1 := prR_len hgi
        have hl2 := prG_take HGOK.out (by have := HGL.out; omega) i
        have hsn := prG_snoc hig
        rw [hr1, ← hnm] at d0
        rw [← hkb] at d1 hC
        rw [← hbd] at hC hl1
        rw [← hPr] at hl2 hsn
        have hnl : nm.length ≤ 20 := by rw [hnm]; exact hgi.2
        have hsn2 : prG (g.take (i + 1)) = (((P ++ nm) ++ [32, 60, 45, 32]) ++ bd) ++ [10] := by
          rw [hsn]; unfold prR; rw [← hnm, ← hbd]; simp
        have a1 : ∀ W : World, (Op.stringOp .add ⟨P.toArray⟩ ⟨nm.toArray⟩).run Tryz.prog W = .ok (.string ⟨(P ++ nm).toArray⟩) W := fun W => bcat P nm (by omega) W
        have a2 : ∀ W : World, (Op.stringOp .add ⟨(P ++ nm).toArray⟩ ⟨#[32, 60, 45, 32]⟩).run Tryz.prog W = .ok (.string ⟨((P ++ nm) ++ [32, 60, 45, 32]).toArray⟩) W := fun W => bcat (P ++ nm) [32, 60, 45, 32] (by simp; omega) W
        have a3 : ∀ W : World, (Op.stringOp .add ⟨((P ++ nm) ++ [32, 60, 45, 32]).toArray⟩ ⟨bd.toArray⟩).run Tryz.prog W = .ok (.string ⟨(((P ++ nm) ++ [32, 60, 45, 32]) ++ bd).toArray⟩) W := fun W => bcat _ bd (by simp; omega) W
        have a4 : ∀ W : World, (Op.stringOp .add ⟨(((P ++ nm) ++ [32, 60, 45, 32]) ++ bd).toArray⟩ ⟨#[10]⟩).run Tryz.prog W = .ok (.string ⟨((((P ++ nm) ++ [32, 60, 45, 32]) ++ bd) ++ [10]).toArray⟩) W := fun W => bcat _ [10] (by simp; omega) W
        have HSN := hideP hsn2
        generalize (((P ++ nm) ++ [32, 60, 45, 32]) ++ bd) ++ [10] = P4 at *
        generalize ((P ++ nm) ++ [32, 60, 45, 32]) ++ bd = P3 at *
        generalize (P ++ nm) ++ [32, 60, 45, 32] = P2 at *
        generalize P ++ nm = P1 at *
        have HCH := hideP (fun (W : World) hb => hC W (hmem.below (w' := W) hb))
        have HQ := hideP (q 1)
        have HD0 := hideP d0
        have HD1 := hideP d1
        have HLL := hideP (And.intro hgl hbr)
        have hq1 : wr.cell? ⟨w1.heap.size, 1, none⟩ = some (.slice (some ⟨rg, 0, none⟩) rs.length rc) := q 1
        clear hPr hnm hbd hkb hl1 hl2 hsn hsn2 hnl hr1 hden hgi hC hmem hgr q
        go_wp2_with fail
        go_region_held (fun w' => w'.cell? ⟨w1.heap.size, 1, none⟩ = some (.slice (some ⟨rg, 0, none⟩) rs.length rc) ∧ w'.cell? ⟨rg, i * 2, none⟩ = some (.string ⟨nm.toArray⟩) ∧ w'.cell? ⟨rg, i * 2 + 1, none⟩ = some (.int .i64 kb)) (go_keep)
          (first
            | (go_at_call 31; refine (HCH.out wr.drew (below_drewN (Below.refl _ wr) 1)).mono ?_; rintro _ w5 ⟨rfl, hb5⟩; have s1 := (hb5.cell (p := ⟨w1.heap.size, 1, none⟩) HLL.out.1).trans HQ.out; have s2 := (hb5.cell (p := ⟨rg, i * 2, none⟩) HLL.out.2).trans HD0.out; have s3 := (hb5.cell (p := ⟨rg, i * 2 + 1, none⟩) HLL.out.2).trans HD1.out; have HB5 := hideP ((below_drewN HI.out 1).trans (hb5.mono (show W.heap.size ≤ wr.heap.size from hsz))); clear hb5))
        all_goals go_wp2_with fail
        all_goals
          go_roundg (rs.length - (i + 1))
          case measure => omega
          case rel => exact ⟨i + 1, rfl, congrArg (fun l => Value.string ⟨List.toArray l⟩) HSN.out.symm, by go_num, by omega, HB5⟩
      · have hlt' : ¬ (i : Int) < rs.length := by omega
        have hfin : P = prG g := by rw [hPr, List.take_of_length_le (by have := HGL.out; omega)]
        have HF := hideP hfin
        have HBF : Hid (Below w.heap.size w wr) := (HB.out.trans (HWB.out.mono hz)).trans (HI.out.mono (by omega))
        clear hfin hPr
        go_wp2_with fail
        go_ret2
        exact ⟨HBF.out, .ok (g, E), HP.out, congrArg (fun l => Ending.returned (.tuple #[.string ⟨List.toArray l⟩, .int .i64 0])) HF.out⟩
end Go.Proofs.YtjmcdklhaieldaaGreatDoor
