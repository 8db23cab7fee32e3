import Derived.Test.YtgfejacimdmkpaaDoorG5
import Derived.Defers
set_option linter.all false
namespace Go.Proofs.YtgfejacimdmkpaaDoor
open Go.RowKit

/-- What is asked at an end with an error: zero is the other result. -/
def EndErr (rb tb tc : Nat) (ps : List (Thk.Tok × Value)) (d : Nat) (zero : Value) (er p : Nat) (e : Ending) (w' : World) : Prop :=
  e = .returned (.tuple #[zero, faultV er p]) ∧ ∃ n', Rd w' rb tb tc ps n' d

def PieceEnd (w : World) (rb tb tc : Nat) (ps : List (Thk.Tok × Value)) (n d : Nat) (e : Ending) (w' : World) : Thk.Res Thk.Piece → Prop
  | .ok p rest => ∃ n' v, rest = tsOf ps n' ∧ n < n' ∧ n' < ps.length ∧ e = .returned (.tuple #[v, .nilIface]) ∧ RPiece w' (w.heap.size ≤ ·) p v ∧ Rd w' rb tb tc ps n' d
  | .err er p => EndErr rb tb tc ps d .nilIface er p e w'

def PiecePost (w : World) (rb tb tc : Nat) (ps : List (Thk.Tok × Value)) (n d : Nat) (e : Ending) (w' : World) : Prop :=
  ∃ res, Thk.PPiece d (tsOf ps n) res ∧ Kp rb w.heap.size w w' ∧ PieceEnd w rb tb tc ps n d e w' res

def ChoiceEnd (w : World) (rb tb tc : Nat) (ps : List (Thk.Tok × Value)) (n d : Nat) (e : Ending) (w' : World) : Thk.Res Thk.Choice → Prop
  | .ok c rest => ∃ n' a l cp, rest = tsOf ps n' ∧ n ≤ n' ∧ n' < ps.length ∧ e = .returned (.tuple #[.slice a l cp, .nilIface]) ∧ RChoice w' (w.heap.size ≤ ·) c (.slice a l cp) ∧ Rd w' rb tb tc ps n' d
  | .err er p => EndErr rb tb tc ps d (.slice none 0 0) er p e w'

def ChoicePost (w : World) (rb tb tc : Nat) (ps : List (Thk.Tok × Value)) (n d : Nat) (e : Ending) (w' : World) : Prop :=
  ∃ res, Thk.PChoice d (tsOf ps n) res ∧ Kp rb w.heap.size w w' ∧ ChoiceEnd w rb tb tc ps n d e w' res

/-- The contract of choice, for so many tokens to come. -/
def ChoiceC (rb tb tc : Nat) (ps : List (Thk.Tok × Value)) (R : Nat) : Prop :=
  ∀ (w : World) (n d : Nat), Rd w rb tb tc ps n d → n < ps.length → ps.length - n ≤ R → d ≤ 6 →
    Calls Tryd.prog 54 #[.pointer (some ⟨rb, 0, none⟩)] w fun e w' => ChoicePost w rb tb tc ps n d e w'

theorem group1_any (bb rb : Nat) (u : FrameMode) (w : World) (d : Nat) (hc : w.cell? ⟨bb, 0, none⟩ = some (.pointer (some ⟨rb, 0, none⟩))) (hr : w.cell? ⟨rb, 2, none⟩ = some (.int .i64 ↑(d + 1))) (hz : w.frozen? ⟨rb, 2, none⟩ = false) (hd : d ≤ 6) :
    CallsD Tryd.prog 72 #[.pointer (some ⟨bb, 0, none⟩)] u w fun e u' w' => u' = u ∧ (e = .returned (.tuple #[]) ∧ w' = w.setCell ⟨rb, 2, none⟩ (.int .i64 d)) := by
  have hr' : w.cell? ⟨rb, 2, none⟩ = some (.int .i64 (d + 1)) := hr
  clear hr
  go_enter_d Tryd.func72, Tryd.ntmps72
  go_wp2
  go_end0
  exact ⟨rfl, rfl⟩

set_option maxHeartbeats 2000000 in
set_option maxRecDepth 100000 in
theorem group_deep (w : World) (rb tb tc : Nat) (ps : List (Thk.Tok × Value)) (n : Nat) (h : Rd w rb tb tc ps n 6) (hn : n < ps.length) :
    Calls Tryd.prog 71 #[.pointer (some ⟨rb, 0, none⟩)] w fun e w' => e = .returned (.tuple #[.nilIface, faultV 3 ps[n].1.place]) ∧ Rd w' rb tb tc ps n 6 ∧ Kp rb w.heap.size w w' := by
  have hmf : ∀ (fn : Fn) (first cap : Array Value) (w : World), (Instr.makeFunc fn first cap).run Tryd.prog w = .ok (.func fn first cap) w := fun _ _ _ _ => rfl
  obtain ⟨c0, c1, c2, fz⟩ := h.cells
  have hrl := h.lt
  have hB : Below w.heap.size w (w.alloc (.cells #[.pointer (some ⟨rb, 0, none⟩)] 57)) := below_alloc _ _
  have hre := refuse_any _ rb tb tc ps n 6 (h.below hB) hn 3
  have H : Hid (Rd w rb tb tc ps n 6) := h
  clear h hB
  go_enter_defers Tryd.func71, Tryd.ntmps71
  go_wp2_with (first | (go_at_call 53; refine hre.mono ?_; rintro e w1 ⟨rfl, q, rfl⟩))
  exact ⟨_, results_tmp2 rfl _ _ _, rfl, (H.out.below (below_alloc _ _)).drewN _, ((Kp.refl _ _ _).alloc (Nat.le_refl _) _).drewN _⟩

/-- The box that the deferred closure holds. -/
abbrev boxR (rb : Nat) : Obj := .cells #[.pointer (some ⟨rb, 0, none⟩)] 57

theorem kp_cell {rb : Nat} {W w1 : World} (hb : Kp rb W.heap.size W w1) {b : Nat} (h1 : b < W.heap.size) (h2 : b ≠ rb) (o : Nat) : w1.cell? ⟨b, o, none⟩ = W.cell? ⟨b, o, none⟩ :=
  World.cell?_of_block (w := W) (a := ⟨b, o, none⟩) (hb.block b h1 h2)

theorem sm_kp {A : Nat → Prop} {rb : Nat} {w w' : World} {cs : Array Value} {fr : Nat × Nat} (hr : w.heap[rb]? = some (.cells cs 61 fr)) (hk : Kp rb w.heap.size w w') (hA : ∀ g, A g → g ≠ rb) : Sm A w w' :=
  ⟨fun _ _ h => own_kp h hr (by decide) hk, fun g hg ha => hk.block g hg (hA g ha)⟩

theorem kindI_close {k : Thk.TK} (hk : okKind k) (h : k ≠ .sign 41) : kindI k ≠ 41 := by
  cases k with
  | sign c => intro e; apply h; simp only [kindI] at e; congr 1; apply UInt8.toNat_inj.1; rw [show (41 : UInt8).toNat = 41 from rfl]; omega
  | _ => simp [kindI]

set_option maxHeartbeats 2000000 in
set_option maxRecDepth 100000 in
theorem group_any (w : World) (rb tb tc : Nat) (ps : List (Thk.Tok × Value)) (n d : Nat) (h : Rd w rb tb tc ps n d) (hg : GoodP ps) (hn : n < ps.length) (hd : d ≤ 6) (hk : ps[n].1.kind = .sign 40)
    (hC : ChoiceC rb tb tc ps (ps.length - n - 1)) :
    Calls Tryd.prog 71 #[.pointer (some ⟨rb, 0, none⟩)] w fun e w' => PiecePost w rb tb tc ps n d e w' := by
  by_cases h6 : d = 6
  · subst h6
    refine (group_deep w rb tb tc ps n h hn).mono ?_
    rintro e w' ⟨rfl, hr, hkp⟩
    exact ⟨.err 3 ps[n].1.place, by rw [← hd_tsOf hn]; exact .deep (by rw [hd_tsOf hn]; exact hk), hkp, rfl, n, hr⟩
  have hn1 : n + 1 < ps.length := (hg n hn).2 (by rw [hk]; rfl)
  have t6 : ((d : Int) == 6) = false := beq_eq_false_iff_ne.2 (by omega)
  have hmf : ∀ (fn : Fn) (first cap : Array Value) (w : World), (Instr.makeFunc fn first cap).run Tryd.prog w = .ok (.func fn first cap) w := fun _ _ _ _ => rfl
  obtain ⟨c0, c1, c2, fz⟩ := h.cells
  have hrl := h.lt
  have hl := h.2.2.1
  have hR1 : Rd (((w.setCell ⟨rb, 1, none⟩ (.int .i64 ((n : Int) + 1))).setCell ⟨rb, 2, none⟩ (.int .i64 ((d : Int) + 1))).alloc (boxR rb)) rb tb tc ps (n + 1) (d + 1) := ((h.set1 (n + 1)).set2 (d + 1)).below (below_alloc _ _)
  have hch := hC _ (n + 1) (d + 1) hR1 hn1 (by omega) (by omega)
  have hks : (Thk.hd (tsOf ps n)).kind = .sign 40 := by rw [hd_tsOf hn]; exact hk
  have hK1 : Kp rb w.heap.size w (((w.setCell ⟨rb, 1, none⟩ (.int .i64 ((n : Int) + 1))).setCell ⟨rb, 2, none⟩ (.int .i64 ((d : Int) + 1))).alloc (boxR rb)) := (((Kp.refl _ _ _).setRb _ _).setRb _ _).alloc (by simp) _
  have hsz1 : (((w.setCell ⟨rb, 1, none⟩ (.int .i64 ((n : Int) + 1))).setCell ⟨rb, 2, none⟩ (.int .i64 ((d : Int) + 1))).alloc (boxR rb)).heap.size = w.heap.size + 1 := by simp
  have hbx : (((w.setCell ⟨rb, 1, none⟩ (.int .i64 ((n : Int) + 1))).setCell ⟨rb, 2, none⟩ (.int .i64 ((d : Int) + 1))).alloc (boxR rb)).cell? ⟨w.heap.size, 0, none⟩ = some (.pointer (some ⟨rb, 0, none⟩)) := by
    rw [show w.heap.size = ((w.setCell ⟨rb, 1, none⟩ (.int .i64 ((n : Int) + 1))).setCell ⟨rb, 2, none⟩ (.int .i64 ((d : Int) + 1))).heap.size from by simp, World.cell?_alloc_mark]; rfl
  have HK1 := (show Hid _ from hK1)
  clear hK1
  clear hR1 h hC
  go_enter_defers Tryd.func71, Tryd.ntmps71
  go_wp2_with fail
  refine hch.mono ?_
  rintro e w2 ⟨res, hP, hKp, hE⟩
  have hbx2 : w2.cell? ⟨w.heap.size, 0, none⟩ = some (.pointer (some ⟨rb, 0, none⟩)) := by
    rw [kp_cell hKp (by rw [hsz1]; omega) (by omega)]; exact hbx
  have hsz2 := hKp.size
  rw [hsz1] at hsz2
  have hK2 : Kp rb w.heap.size w w2 := HK1.out.trans (hKp.mono (by rw [hsz1]; omega))
  have HKp := (show Hid _ from hKp)
  have HK2 := (show Hid _ from hK2)
  have HP := (show Hid _ from hP)
  clear hKp hK2 hbx hch HK1 hP
  cases res with
  | err er p =>
    obtain ⟨rfl, n', hR⟩ := hE
    obtain ⟨r0, r1, r2, rf⟩ := hR.cells
    have H : Hid (Rd w2 rb tb tc ps n' (d + 1)) := hR
    clear hR
    simp only [faultV]
    go_wp2_with fail
    refine leaves_cons (f := 72) (args := #[.pointer (some ⟨w.heap.size, 0, none⟩)]) (by simp) (by simp [go_sem]) ?_
    refine (group1_any w.heap.size rb .returning _ d hbx2 r2 (rf 2) hd).mono ?_
    rintro e u' w'' ⟨rfl, rfl, rfl⟩
    refine ⟨_, results_tmp2 rfl _ _ _, .err er p, ?_, HK2.out.setRb _ _, rfl, n', H.out.set2 d⟩
    exact .inner hks h6 (by rw [tl_tsOf hn]; exact HP.out)
  | ok c rest =>
    obtain ⟨n', a, l, cp, rfl, hle, hn', rfl, hRC, hR⟩ := hE
    have hok' := (hg n' hn').1
    by_cases hcl : ps[n'].1.kind = .sign 41
    · have hex := expect_yes w2 rb tb tc ps n' (d + 1) hR hn' 41 (by rw [hcl]; rfl)
      have hn1' : n' + 1 < ps.length := (hg n' hn').2 (by rw [hcl]; rfl)
      obtain ⟨a0, b0, e0⟩ := own_form (hR.2.1.2 ps[n'] (List.getElem_mem hn'))
      have HRC : Hid (RChoice w2 ((((w.setCell ⟨rb, 1, none⟩ (.int .i64 ((n : Int) + 1))).setCell ⟨rb, 2, none⟩ (.int .i64 ((d : Int) + 1))).alloc (boxR rb)).heap.size ≤ ·) c (.slice a l cp)) := hRC
      have HR : Hid (Rd w2 rb tb tc ps n' (d + 1)) := hR
      have hrl2 := hR.lt
      simp only [tokV, e0] at hex
      clear hRC hR e0
      go_wp2_with fail
      refine hex.mono ?_
      rintro e w3 ⟨rfl, hR3, hK3⟩
      have hbx3 : w3.cell? ⟨w.heap.size, 0, none⟩ = some (.pointer (some ⟨rb, 0, none⟩)) := by
        rw [kp_cell hK3 (by omega) (by omega)]; exact hbx2
      have hsz3 := hK3.size
      obtain ⟨r0, r1, r2, rf⟩ := hR3.cells
      have H : Hid (Rd w3 rb tb tc ps (n' + 1) (d + 1)) := hR3
      have HK3 : Hid (Kp rb w2.heap.size w2 w3) := hK3
      clear hR3 hK3 hex
      go_wp2_with fail
      refine leaves_cons (f := 72) (args := #[.pointer (some ⟨w.heap.size, 0, none⟩)]) (by simp) (by simp [go_sem]) ?_
      refine (group1_any w.heap.size rb .returning _ d ?_ ?_ ?_ hd).mono ?_
      · rw [World.cell?_alloc_lt _ _ _ (by simp only []; omega)]; exact hbx3
      · rw [World.cell?_alloc_lt _ _ _ (by simp only []; omega)]; exact r2
      · rw [World.frozen?_alloc_old _ _ _ (by simp only []; omega)]; exact rf 2
      rintro e u' w'' ⟨rfl, rfl, rfl⟩
      refine ⟨_, results_tmp2 rfl _ _ _, .ok (.group c) (tsOf ps (n' + 1)), ?_, ?_, n' + 1, _, rfl, by omega, hn1', rfl, ?_, ?_⟩
      · rw [← tl_tsOf hn']
        exact .group hks h6 (by rw [tl_tsOf hn]; exact HP.out) (by rw [hd_tsOf hn']; exact hcl)
      · exact ((HK2.out.trans (HK3.out.mono (by omega))).alloc (by omega) _).setRb _ _
      · have hA := HRC.out
        have hK4 : Kp rb w2.heap.size w2 ((w3.alloc (.cells #[Value.int IntKind.u8 (kindI ps[n'].1.kind), Value.int IntKind.i64 ↑ps[n'].1.place, Value.string ⟨List.toArray ps[n'].1.text⟩, Value.slice a0 ps[n'].1.spans.length b0] 84)).setCell ⟨rb, 2, none⟩ (Value.int IntKind.i64 ↑d)) := (HK3.out.alloc (by omega) _).setRb _ _
        rw [hcl] at hK4
        have hC4 := (hA.kept (sm_kp HR.out.1 hK4 (fun g hg => by simp at hg; omega))).mono (A' := (w.heap.size ≤ ·)) (fun g _ hg => by simp at hg; omega)
        obtain ⟨us, hRow, hSeqs⟩ := hC4
        simp only [RPiece]
        exact ⟨_, us, rfl, hRow, hSeqs⟩
      · exact (H.out.below (below_alloc _ _)).set2 d
    · have hex := expect_no w2 rb tb tc ps n' (d + 1) hR hn' 41 (kindI_close hok' hcl)
      obtain ⟨a0, b0, e0⟩ := own_form (hR.2.1.2 ps[n'] (List.getElem_mem hn'))
      have hrl2 := hR.lt
      simp only [tokV, e0] at hex
      clear hRC hR e0
      go_wp2_with fail
      refine hex.mono ?_
      rintro e w3 ⟨rfl, hR3, hK3⟩
      have hbx3 : w3.cell? ⟨w.heap.size, 0, none⟩ = some (.pointer (some ⟨rb, 0, none⟩)) := by
        rw [kp_cell hK3 (by omega) (by omega)]; exact hbx2
      have hsz3 := hK3.size
      obtain ⟨r0, r1, r2, rf⟩ := hR3.cells
      have H : Hid (Rd w3 rb tb tc ps n' (d + 1)) := hR3
      have HK3 : Hid (Kp rb w2.heap.size w2 w3) := hK3
      clear hR3 hK3 hex
      go_wp2_with fail
      refine leaves_cons (f := 72) (args := #[.pointer (some ⟨w.heap.size, 0, none⟩)]) (by simp) (by simp [go_sem]) ?_
      refine (group1_any w.heap.size rb .returning _ d ?_ ?_ ?_ hd).mono ?_
      · rw [World.cell?_alloc_lt _ _ _ (by simp only []; omega)]; exact hbx3
      · rw [World.cell?_alloc_lt _ _ _ (by simp only []; omega)]; exact r2
      · rw [World.frozen?_alloc_old _ _ _ (by simp only []; omega)]; exact rf 2
      rintro e u' w'' ⟨rfl, rfl, rfl⟩
      refine ⟨_, results_tmp2 rfl _ _ _, .err 2 ps[n'].1.place, ?_, ?_, rfl, n', ?_⟩
      · rw [← hd_tsOf hn']
        exact .unclosed hks h6 (by rw [tl_tsOf hn]; exact HP.out) (by rw [hd_tsOf hn']; exact hcl)
      · exact ((HK2.out.trans (HK3.out.mono (by omega))).alloc (by omega) _).setRb _ _
      · exact (H.out.below (below_alloc _ _)).set2 d
end Go.Proofs.YtgfejacimdmkpaaDoor
