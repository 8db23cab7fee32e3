import Derived.Test.YtjmcdklhaieldaaGreatDoorQA
import Derived.Deep.RegionHeld
import Derived.Test.YtjmcdklhaieldaaGreatDoorPE
set_option linter.all false
namespace Go.Proofs.YtjmcdklhaieldaaGreatDoor
open Go.RowKit
attribute [local go_sem ↓] Go.wp_at_zero Go.wp_at_succ

def PlP (k : Nat) : Prop := ∀ (w : World) (A : Nat → Prop) (p : Thk.Piece) (v : Value) (sg : Bool), RPiece w A p v → depP p ≤ k → Thk.wtP p ≤ 500000 →
  Calls Tryz.prog 147 #[v, .bool sg] w fun e w' => e = .returned (.string ⟨(Thk.prP p sg).toArray⟩) ∧ Below w.heap.size w w'
def PlT (k : Nat) : Prop := ∀ (w : World) (A : Nat → Prop) (t : Thk.Term) (v : Value), RTerm w A t v → depT t ≤ k → Thk.wtT t ≤ 500000 →
  Calls Tryz.prog 123 #[termV t v] w fun e w' => e = .returned (.string ⟨(Thk.prT t).toArray⟩) ∧ Below w.heap.size w w'
def PlC (k : Nat) : Prop := ∀ (w : World) (A : Nat → Prop) (c : Thk.Choice) (u : Value), RChoice w A c u → depC c ≤ k → Thk.wtC c ≤ 500000 →
  Calls Tryz.prog 56 #[u] w fun e w' => e = .returned (.string ⟨(Thk.prC c).toArray⟩) ∧ Below w.heap.size w w'
def PlG (k : Nat) : Prop := ∀ (w : World) (A : Nat → Prop) (c : Thk.Choice) (u : Value) (sg : Bool), RChoice w A c u → depC c ≤ k → Thk.wtC c ≤ 500000 →
  Calls Tryz.prog 166 #[u, .bool sg] w fun e w' => e = .returned (.string ⟨(Thk.prP (.group c) sg).toArray⟩) ∧ Below w.heap.size w w'

theorem asLitLit (x : Value) (w : World) : (Instr.typeAssert (.iface 292 x) 217 292 true).run Tryz.prog w = .ok (.tuple #[x, .bool true]) w := by kernel_rfl
theorem asClsLit (x : Value) (w : World) : (Instr.typeAssert (.iface 294 x) 217 292 true).run Tryz.prog w = .ok (.tuple #[.agg #[.string ⟨#[]⟩], .bool false]) w := by kernel_rfl
theorem asClsCls (x : Value) (w : World) : (Instr.typeAssert (.iface 294 x) 217 294 true).run Tryz.prog w = .ok (.tuple #[x, .bool true]) w := by kernel_rfl
theorem asAnyLit (x : Value) (w : World) : (Instr.typeAssert (.iface 318 x) 217 292 true).run Tryz.prog w = .ok (.tuple #[.agg #[.string ⟨#[]⟩], .bool false]) w := by kernel_rfl
theorem asAnyCls (x : Value) (w : World) : (Instr.typeAssert (.iface 318 x) 217 294 true).run Tryz.prog w = .ok (.tuple #[.agg #[.slice none 0 0], .bool false]) w := by kernel_rfl
theorem asGroupLit (x : Value) (w : World) : (Instr.typeAssert (.iface 268 x) 217 292 true).run Tryz.prog w = .ok (.tuple #[.agg #[.string ⟨#[]⟩], .bool false]) w := by kernel_rfl
theorem asGroupCls (x : Value) (w : World) : (Instr.typeAssert (.iface 268 x) 217 294 true).run Tryz.prog w = .ok (.tuple #[.agg #[.slice none 0 0], .bool false]) w := by kernel_rfl

set_option maxHeartbeats 8000000 in
set_option maxRecDepth 100000 in
theorem pieceText_step (k : Nat) (hG : ∀ k', k' < k → PlG k') : PlP k := by
  intro w A p v sg hp hk hw
  cases p with
  | name b =>
    simp only [RPiece] at hp
    obtain ⟨rfl, hbl⟩ := hp
    simp only [Thk.prP]
    have a1 := asNameName
    clear hk hw hG
    go_enter Tryz.func147, Tryz.ntmps147
    go_wp2_with fail
    go_ret
    exact ⟨rfl, below_alloc _ _⟩
  | lit b =>
    simp only [RPiece] at hp
    subst hp
    simp only [Thk.wtP] at hw
    have a1 := asLitName
    have a2 := asLitLit
    have hlt := fun O => literalText_any ⟨b.toArray⟩ (w.alloc O) (by rw [mk_size]; omega)
    simp only [Thk.prP]
    rw [show (ByteArray.mk b.toArray).data.toList = b from by simp] at hlt
    clear hk hw hG
    go_enter Tryz.func147, Tryz.ntmps147
    go_wp2_with fail
    refine (hlt _).mono ?_
    rintro _ w1 ⟨rfl, hb⟩
    clear hlt
    go_wp2_with fail
    go_ret
    exact ⟨rfl, (below_alloc _ _).trans (hb.mono (by simp))⟩
  | cls l =>
    simp only [RPiece] at hp
    obtain ⟨u, rfl, hs⟩ := hp
    obtain ⟨ua, uc, rfl⟩ := own_form hs
    simp only [Thk.wtP] at hw
    have a1 := asClsName
    have a2 := asClsLit
    have a3 := asClsCls
    have hct := fun O => classText_any (w.alloc O) (.slice ua l.length uc) l (own_below hs (below_alloc w O)) (by omega)
    simp only [Thk.prP]
    generalize l.length = n at *
    clear hk hw hG hs
    go_enter Tryz.func147, Tryz.ntmps147
    go_wp2_with fail
    refine (hct _).mono ?_
    rintro _ w1 ⟨rfl, hb⟩
    clear hct
    go_wp2_with fail
    go_ret
    exact ⟨rfl, (below_alloc _ _).trans (hb.mono (by simp))⟩
  | any =>
    simp only [RPiece] at hp
    subst hp
    have a1 := asAnyName
    have a2 := asAnyLit
    have a3 := asAnyCls
    have a4 := asAnyGroup
    simp only [Thk.prP]
    clear hk hw hG
    go_enter Tryz.func147, Tryz.ntmps147
    go_wp2_with fail
    go_ret
    exact ⟨rfl, Below.refl _ _⟩
  | group c =>
    simp only [RPiece] at hp
    obtain ⟨u, us, rfl, hrow, hseqs⟩ := hp
    obtain ⟨ua, uc, rfl⟩ := own_form hrow.1
    have hdep : depC c < k := by simp only [depP] at hk; omega
    simp only [Thk.wtP] at hw
    have hgt := fun O => hG _ hdep (w.alloc O) A c (.slice ua c.length uc) sg (RChoice.kept (sm_below (below_alloc w O)) ⟨us, hrow, hseqs⟩) (Nat.le_refl _) (by omega)
    have a1 := asGroupName
    have a2 := asGroupLit
    have a3 := asGroupCls
    have a4 := asGroupGroup
    generalize Thk.prP (.group c) sg = R at *
    generalize c.length = n at *
    clear hk hw hG hrow hseqs hdep
    go_enter Tryz.func147, Tryz.ntmps147
    go_wp2_with fail
    refine (hgt _).mono ?_
    rintro _ w1 ⟨rfl, hb⟩
    clear hgt
    go_wp2_with fail
    go_ret
    exact ⟨rfl, (below_alloc _ _).trans (hb.mono (by simp))⟩
end Go.Proofs.YtjmcdklhaieldaaGreatDoor
namespace Go.Proofs.YtjmcdklhaieldaaGreatDoor
open Go.RowKit
attribute [local go_sem ↓] Go.wp_at_zero Go.wp_at_succ

abbrev termO (a b : UInt8) (vt : TypeId) (vx : Value) : Obj := .cells #[.int .u8 a.toNat, .iface vt vx, .int .u8 b.toNat] 219 (0, 0)

set_option maxHeartbeats 16000000 in
set_option maxRecDepth 100000 in
theorem termText_step (k : Nat) (hP : PlP k) : PlT k := by
  intro w A t v ht hk hw
  obtain ⟨a, p, b⟩ := t
  simp only [RTerm] at ht
  simp only [depT] at hk
  simp only [Thk.wtT] at hw
  obtain ⟨vt, vx, rfl⟩ := RPiece.oneCell ht
  simp only [Thk.prT, termV, Thk.Term.ahead, Thk.Term.behind]
  have hpc := fun (W : World) (hb : Below w.heap.size w W) => hP W A p (.iface vt vx) (a != 0 || b != 0) (RPiece.kept (sm_below hb) p _ ht) hk (by omega)
  have hsa := fun W => signText_any a W
  have hsb := fun W => signText_any b W
  have hsd := fun W => signed_any a b vt vx W
  have hlp := Thk.prP_len p (a != 0 || b != 0)
  have hla := Thk.sgn_len a
  have hlb := Thk.sgn_len b
  generalize Thk.prP p (a != 0 || b != 0) = R at *
  generalize Thk.sgnB a = SA at *
  generalize Thk.sgnB b = SB at *
  have a1 : ∀ W : World, (Op.stringOp .add ⟨SA.toArray⟩ ⟨R.toArray⟩).run Tryz.prog W = .ok (.string ⟨(SA ++ R).toArray⟩) W := fun W => bcat SA R (by omega) W
  have a2 : ∀ W : World, (Op.stringOp .add ⟨(SA ++ R).toArray⟩ ⟨SB.toArray⟩).run Tryz.prog W = .ok (.string ⟨((SA ++ R) ++ SB).toArray⟩) W := fun W => bcat _ SB (by simp; omega) W
  have HEQ : Hid ((SA ++ R) ++ SB = SA ++ (R ++ SB)) := List.append_assoc _ _ _
  generalize (SA ++ R) ++ SB = Z at *
  generalize SA ++ R = Y at *
  generalize (a != 0 || b != 0) = sg at *
  obtain ⟨X, hX⟩ : ∃ X, X = w.alloc (.cells #[.int .u8 a.toNat, .iface vt vx, .int .u8 b.toNat] 219) := ⟨_, rfl⟩
  have hBX : Below w.heap.size w X := by rw [hX]; exact below_alloc _ _
  have hXo : X.heap[w.heap.size]? = some (termO a b vt vx) := by rw [hX]; exact heap_alloc_same _ _
  have hXl := heap_lt' hXo
  have s0 : X.cell? ⟨w.heap.size, 0, none⟩ = some (.int .u8 a.toNat) := cell_of_block hXo 0
  have s1 : X.cell? ⟨w.heap.size, 1, none⟩ = some (.iface vt vx) := cell_of_block hXo 1
  have s2 : X.cell? ⟨w.heap.size, 2, none⟩ = some (.int .u8 b.toNat) := cell_of_block hXo 2
  have HB := hideP hBX
  have HPC := hideP hpc
  have HSA := hideP hsa
  have HSB := hideP hsb
  have HSD := hideP hsd
  clear hP ht hk hw hpc hsa hsb hsd hlp hla hlb hBX hXo
  go_enter Tryz.func123, Tryz.ntmps123
  go_wp2_with fail
  rw [← hX]
  clear hX
  go_region_held (fun w' => w'.cell? ⟨w.heap.size, 0, none⟩ = some (.int .u8 a.toNat) ∧ w'.cell? ⟨w.heap.size, 1, none⟩ = some (.iface vt vx) ∧ w'.cell? ⟨w.heap.size, 2, none⟩ = some (.int .u8 b.toNat)) (go_keep)
    (first
      | (go_at_call 146; refine (HSA.out _).mono ?_; rintro _ wn ⟨rfl, hb⟩; replace s0 := (hb.cell (p := ⟨w.heap.size, 0, none⟩) hXl).trans s0; replace s1 := (hb.cell (p := ⟨w.heap.size, 1, none⟩) hXl).trans s1; replace s2 := (hb.cell (p := ⟨w.heap.size, 2, none⟩) hXl).trans s2; replace HB := hideP (HB.out.drew.trans (hb.mono (Nat.le_of_lt hXl))); replace hXl := Nat.lt_of_lt_of_le hXl hb.size; clear hb)
      | (go_at_call 146; refine (HSA.out _).mono ?_; rintro _ wn ⟨rfl, hb⟩; replace s0 := (hb.cell (p := ⟨w.heap.size, 0, none⟩) hXl).trans s0; replace s1 := (hb.cell (p := ⟨w.heap.size, 1, none⟩) hXl).trans s1; replace s2 := (hb.cell (p := ⟨w.heap.size, 2, none⟩) hXl).trans s2; replace HB := hideP (HB.out.trans (hb.mono (Nat.le_of_lt hXl))); replace hXl := Nat.lt_of_lt_of_le hXl hb.size; clear hb)
      | (go_at_call 146; refine (HSB.out _).mono ?_; rintro _ wn ⟨rfl, hb⟩; replace s0 := (hb.cell (p := ⟨w.heap.size, 0, none⟩) hXl).trans s0; replace s1 := (hb.cell (p := ⟨w.heap.size, 1, none⟩) hXl).trans s1; replace s2 := (hb.cell (p := ⟨w.heap.size, 2, none⟩) hXl).trans s2; replace HB := hideP (HB.out.trans (hb.mono (Nat.le_of_lt hXl))); replace hXl := Nat.lt_of_lt_of_le hXl hb.size; clear hb)
      | (go_at_call 148; refine (HSD.out _).mono ?_; rintro _ wn ⟨rfl, hb⟩; replace s0 := (hb.cell (p := ⟨w.heap.size, 0, none⟩) hXl).trans s0; replace s1 := (hb.cell (p := ⟨w.heap.size, 1, none⟩) hXl).trans s1; replace s2 := (hb.cell (p := ⟨w.heap.size, 2, none⟩) hXl).trans s2; replace HB := hideP (HB.out.trans (hb.mono (Nat.le_of_lt hXl))); replace hXl := Nat.lt_of_lt_of_le hXl hb.size; clear hb)
      | (go_at_call 147; refine (HPC.out _ HB.out).mono ?_; rintro _ wn ⟨rfl, hb⟩; replace s0 := (hb.cell (p := ⟨w.heap.size, 0, none⟩) hXl).trans s0; replace s1 := (hb.cell (p := ⟨w.heap.size, 1, none⟩) hXl).trans s1; replace s2 := (hb.cell (p := ⟨w.heap.size, 2, none⟩) hXl).trans s2; replace HB := hideP (HB.out.trans (hb.mono (Nat.le_of_lt hXl))); replace hXl := Nat.lt_of_lt_of_le hXl hb.size; clear hb))
  all_goals go_wp2_with fail
  all_goals
    go_ret
    exact ⟨congrArg (fun l => Ending.returned (Value.string ⟨List.toArray l⟩)) HEQ.out, HB.out⟩
end Go.Proofs.YtjmcdklhaieldaaGreatDoor
