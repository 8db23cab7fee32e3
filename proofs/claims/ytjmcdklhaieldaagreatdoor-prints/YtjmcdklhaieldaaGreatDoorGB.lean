import Derived.Test.YtjmcdklhaieldaaGreatDoorGA
import Derived.Defers
set_option linter.all false
namespace Go.Proofs.YtjmcdklhaieldaaGreatDoor
open Go.RowKit

/-- What is asked at an end with an error: zero is the other result. -/
def EndErr (rb tb tc : Nat) (ps : List (Thk.Tok × Value)) (d : Nat) (zero : Value) (er p : Nat) (e : Ending) (w' : World) : Prop :=
  e = .returned (.tuple #[zero, faultV er p]) ∧ ∃ n', Rd w' rb tb tc ps n' d

def PieceEnd (w : World) (rb tb tc : Nat) (ps : List (Thk.Tok × Value)) (n d : Nat) (e : Ending) (w' : World) : Thk.Res Thk.Piece → Prop
  | .ok p rest => ∃ n' v, rest = tsOf ps n' ∧ n < n' ∧ n' < ps.length ∧ e = .returned (.tuple #[v, .nilIface]) ∧ RPiece w' (w.heap.size ≤ ·) p v ∧ Rd w' rb tb tc ps n' d
  | .err er p => EndErr rb tb tc ps d .nilIface er p e w'

def PiecePost (w : World) (rb tb tc : Nat) (ps : List (Thk.Tok × Value)) (n d : Nat) (e : Ending) (w' : World) : Prop :=
  ∃ res, Thk.PPiece d (tsOf ps n) res ∧ Kp rb w.heap.size w w' ∧ PieceEnd w rb tb tc ps n d e w' res

def ChoiceEnd (w : World) (rb tb tc : Nat) (ps : List (Thk.Tok × Value)) (n d : Nat) (e : Ending) (w' : World) : Thk.Res Thk.Choice → Prop
  | .ok c rest => ∃ n' a l cp, rest = tsOf ps n' ∧ n ≤ n' ∧ n' < ps.length ∧ e = .returned (.tuple #[.slice a l cp, .nilIface]) ∧ RChoice w' (w.heap.size ≤ ·) c (.slice a l cp) ∧ Rd w' rb tb tc ps n' d
  | .err er p => EndErr rb tb tc ps d (.slice none 0 0) er p e w'

def ChoicePost (w : World) (rb tb tc : Nat) (ps : List (Thk.Tok × Value)) (n d : Nat) (e : Ending) (w' : World) : Prop :=
  ∃ res, Thk.PChoice d (tsOf ps n) res ∧ Kp rb w.heap.size w w' ∧ ChoiceEnd w rb tb tc ps n d e w' res

/-- The contract of choice, for so many tokens to come. -/
def ChoiceC (rb tb tc : Nat) (ps : List (Thk.Tok × Value)) (R : Nat) : Prop :=
  ∀ (w : World) (n d : Nat), Rd w rb tb tc ps n d → n < ps.length → ps.length - n ≤ R → d ≤ 6 →
    Calls Tryz.prog 141 #[.pointer (some ⟨rb, 0, none⟩)] w fun e w' => ChoicePost w rb tb tc ps n d e w'

theorem group1_any (bb rb : Nat) (u : FrameMode) (w : World) (d : Nat) (hc : w.cell? ⟨bb, 0, none⟩ = some (.pointer (some ⟨rb, 0, none⟩))) (hr : w.cell? ⟨rb, 2, none⟩ = some (.int .i64 ↑(d + 1))) (hz : w.frozen? ⟨rb, 2, none⟩ = false) (hd : d ≤ 6) :
    CallsD Tryz.prog 200 #[.pointer (some ⟨bb, 0, none⟩)] u w fun e u' w' => u' = u ∧ (e = .returned (.tuple #[]) ∧ w' = w.setCell ⟨rb, 2, none⟩ (.int .i64 d)) := by
  have hr' : w.cell? ⟨rb, 2, none⟩ = some (.int .i64 (d + 1)) := hr
  clear hr
  go_enter_d Tryz.func200, Tryz.ntmps200
  go_wp2
  go_end0
  exact ⟨rfl, rfl⟩

set_option maxHeartbeats 2000000 in
set_option maxRecDepth 100000 in
theorem group_deep (w : World) (rb tb tc : Nat) (ps : List (Thk.Tok × Value)) (n : Nat) (h : Rd w rb tb tc ps n 6) (hn : n < ps.length) :
    Calls Tryz.prog 193 #[.pointer (some ⟨rb, 0, none⟩)] w fun e w' => e = .returned (.tuple #[.nilIface, faultV 3 ps[n].1.place]) ∧ Rd w' rb tb tc ps n 6 ∧ Kp rb w.heap.size w w' := by
  have hmf : ∀ (fn : Fn) (first cap : Array Value) (w : World), (Instr.makeFunc fn first cap).run Tryz.prog w = .ok (.func fn first cap) w := fun _ _ _ _ => rfl
  obtain ⟨c0, c1, c2, fz⟩ := h.cells
  have hrl := h.lt
  have hB : Below w.heap.size w (w.alloc (.cells #[.pointer (some ⟨rb, 0, none⟩)] 150)) := below_alloc _ _
  have hre := refuse_any _ rb tb tc ps n 6 (h.below hB) hn 3
  have H : Hid (Rd w rb tb tc ps n 6) := h
  clear h hB
  go_enter_defers Tryz.func193, Tryz.ntmps193
  go_wp2_with (first | (go_at_call 140; refine hre.mono ?_; rintro e w1 ⟨rfl, q, rfl⟩))
  exact ⟨_, results_tmp2 rfl _ _ _, rfl, (H.out.below (below_alloc _ _)).drewN _, ((Kp.refl _ _ _).alloc (Nat.le_refl _) _).drewN _⟩

/-- The box that the deferred closure holds. -/
abbrev boxR (rb : Nat) : Obj := .cells #[.pointer (some ⟨rb, 0, none⟩)] 150

theorem kp_cell {rb : Nat} {W w1 : World} (hb : Kp rb W.heap.size W w1) {b : Nat} (h1 : b < W.heap.size) (h2 : b ≠ rb) (o : Nat) : w1.cell? ⟨b, o, none⟩ = W.cell? ⟨b, o, none⟩ :=
  World.cell?_of_block (w := W) (a := ⟨b, o, none⟩) (hb.block b h1 h2)

theorem sm_kp {A : Nat → Prop} {rb : Nat} {w w' : World} {cs : Array Value} {fr : Nat × Nat} (hr : w.heap[rb]? = some (.cells cs 154 fr)) (hk : Kp rb w.heap.size w w') (hA : ∀ g, A g → g ≠ rb) : Sm A w w' :=
  ⟨fun _ _ h => own_kp h hr (by decide) hk, fun g hg ha => hk.block g hg (hA g ha)⟩

theorem kindI_close {k : Thk.TK} (hk : okKind k) (h : k ≠ .sign 41) : kindI k ≠ 41 := by
  cases k with
  | sign c => intro e; apply h; simp only [kindI] at e; congr 1; apply UInt8.toNat_inj.1; rw [show (41 : UInt8).toNat = 41 from rfl]; omega
  | _ => simp [kindI]

set_option maxHeartbeats 2000000 in
set_option maxRecDepth 100000 in
theorem group_any (w : World) (rb tb tc : Nat) (ps : List (Thk.Tok × Value)) (n d : Nat) (h : Rd w rb tb tc ps n d) (hg : GoodP ps) (hn : n < ps.length) (hd : d ≤ 6) (hk : ps[n].1.kind = .sign 40)
    (hC : ChoiceC rb tb tc ps (ps.length - n - 1)) :
    Calls Tryz.prog 193 #[.pointer (some ⟨rb, 0, none⟩)] w fun e w' => PiecePost w rb tb tc ps n d e w' := by
  by_cases h6 : d = 6
  · subst h6
    refine (group_deep w rb tb tc ps n h hn).mono ?_
    rintro e w' ⟨rfl, hr, hkp⟩
    exact ⟨.err 3 ps[n].1.place, by rw [← hd_tsOf hn]; exact .deep (by rw [hd_tsOf hn]; exact hk), hkp, rfl, n, hr⟩
  have hn1 : n + 1 < ps.length := (hg n hn).2 (by rw [hk]; rfl)
  have t6 : ((d : Int) == 6) = false := beq_eq_false_iff_ne.2 (by omega)
  have hmf : ∀ (fn : Fn) (first cap : Array Value) (w : World), (Instr.makeFunc fn first cap).run Tryz.prog w = .ok (.func fn first cap) w := fun _ _ _ _ => rfl
  obtain ⟨c0, c1, c2, fz⟩ := h.cells
  have hrl := h.lt
  have hl := h.2.2.1
  have hR1 : Rd (((w.setCell ⟨rb, 1, none⟩ (.int .i64 ((n : Int) + 1))).setCell ⟨rb, 2, none⟩ (.int .i64 ((d : Int) + 1))).alloc (boxR rb)) rb tb tc ps (n + 1) (d + 1) := ((h.set1 (n + 1)).set2 (d + 1)).below (below_alloc _ _)
  have hch := hC _ (n + 1) (d + 1) hR1 hn1 (by omega) (by omega)
  have hks : (Thk.hd (tsOf ps n)).kind = .sign 40 := by rw [hd_tsOf hn]; exact hk
  have hK1 : Kp rb w.heap.size w (((w.setCell ⟨rb, 1, none⟩ (.int .i64 ((n : Int) + 1))).setCell ⟨rb, 2, none⟩ (.int .i64 ((d : Int) + 1))).alloc (boxR rb)) := (((Kp.refl _ _ _).setRb _ _).setRb _ _).alloc (by simp) _
  have hsz1 : (((w.setCell ⟨rb, 1, none⟩ (.int .i64 ((n : Int) + 1))).setCell ⟨rb, 2, none⟩ (.int .i64 ((d : Int) + 1))).alloc (boxR rb)).heap.size = w.heap.size + 1 := by simp
  have hbx : (((w.setCell ⟨rb, 1, none⟩ (.int .i64 ((n : Int) + 1))).setCell ⟨rb, 2, none⟩ (.int .i64 ((d : Int) + 1))).alloc (boxR rb)).cell? ⟨w.heap.size, 0, none⟩ = some (.pointer (some ⟨rb, 0, none⟩)) := by
    rw [show w.heap.size = ((w.setCell ⟨rb, 1, none⟩ (.int .i64 ((n : Int) + 1))).setCell ⟨rb, 2, none⟩ (.int .i64 ((d : Int) + 1))).heap.size from by simp, World.cell?_alloc_mark]; rfl
  have HK1 := (show Hid _ from hK1)
  clear hK1
  clear hR1 h hC
  go_enter_defers Tryz.func193, Tryz.ntmps193
  go_wp2_with fail
  refine hch.mono ?_
  rintro e w2 ⟨res, hP, hKp, hE⟩
  have hbx2 : w2.cell? ⟨w.heap.size, 0, none⟩ = some (.pointer (some ⟨rb, 0, none⟩)) := by
    rw [kp_cell hKp (by rw [hsz1]; omega) (by omega)]; exact hbx
  have hsz2 := hKp.size
  rw [hsz1] at hsz2
  have hK2 : Kp rb w.heap.size w w2 := HK1.out.trans (hKp.mono (by rw [hsz1]; omega))
  have HKp := (show Hid _ from hKp)
  have HK2 := (show Hid _ from hK2)
  have HP := (show Hid _ from hP)
  clear hKp hK2 hbx hch HK1 hP
  cases res with
  | err er p =>
    obtain ⟨rfl, n', hR⟩ := hE
    obtain ⟨r0, r1, r2, rf⟩ := hR.cells
    have H : Hid (Rd w2 rb tb tc ps n' (d + 1)) := hR
    clear hR
    simp only [faultV]
    go_wp2_with fail
    refine leaves_cons (f := 200) (args := #[.pointer (some ⟨w.heap.size, 0, none⟩)]) (by simp) (by simp [go_sem]) ?_
    refine (group1_any w.heap.size rb .returning _ d hbx2 r2 (rf 2) hd).mono ?_
    rintro e u' w'' ⟨rfl, rfl, rfl⟩
    refine ⟨_, results_tmp2 rfl _ _ _, .err er p, ?_, HK2.out.setRb _ _, rfl, n', H.out.set2 d⟩
    exact .inner hks h6 (by rw [tl_tsOf hn]; exact HP.out)
  | ok c rest =>
    obtain ⟨n', a, l, cp, rfl, hle, hn', rfl, hRC, hR⟩ := hE
    have hok' := (hg n' hn').1
    by_cases hcl : ps[n'].1.kind = .sign 41
    · have hex := expect_yes w2 rb tb tc ps n' (d + 1) hR hn' 41 (by rw [hcl]; rfl)
      have hn1' : n' + 1 < ps.length := (hg n' hn').2 (by rw [hcl]; rfl)
      obtain ⟨a0, b0, e0⟩ := own_form (hR.2.1.2 ps[n'] (List.getElem_mem hn'))
      have HRC : Hid (RChoice w2 ((((w.setCell ⟨rb, 1, none⟩ (.int .i64 ((n : Int) + 1))).setCell ⟨rb, 2, none⟩ (.int .i64 ((d : Int) + 1))).alloc (boxR rb)).heap.size ≤ ·) c (.slice a l cp)) := hRC
      have HR : Hid (Rd w2 rb tb tc ps n' (d + 1)) := hR
      have hrl2 := hR.lt
      simp only [tokV, e0] at hex
      clear hRC hR e0
      go_wp2_with fail
      refine hex.mono ?_
      rintro e w3 ⟨rfl, hR3, hK3⟩
      have hbx3 : w3.cell? ⟨w.heap.size, 0, none⟩ = some (.pointer (some ⟨rb, 0, none⟩)) := by
        rw [kp_cell hK3 (by omega) (by omega)]; exact hbx2
      have hsz3 := hK3.size
      obtain ⟨r0, r1, r2, rf⟩ := hR3.cells
      have H : Hid (Rd w3 rb tb tc ps (n' + 1) (d + 1)) := hR3
      have HK3 : Hid (Kp rb w2.heap.size w2 w3) := hK3
      clear hR3 hK3 hex
      go_wp2_with fail
      refine leaves_cons (f := 200) (args := #[.pointer (some ⟨w.heap.size, 0, none⟩)]) (by simp) (by simp [go_sem]) ?_
      refine (group1_any w.heap.size rb .returning _ d ?_ ?_ ?_ hd).mono ?_
      · rw [World.cell?_alloc_lt _ _ _ (by simp only []; omega)]; exact hbx3
      · rw [World.cell?_alloc_lt _ _ _ (by simp only []; omega)]; exact r2
      · rw [World.frozen?_alloc_old _ _ _ (by simp only []; omega)]; exact rf 2
      rintro e u' w'' ⟨rfl, rfl, rfl⟩
      refine ⟨_, results_tmp2 rfl _ _ _, .ok (.group c) (tsOf ps (n' + 1)), ?_, ?_, n' + 1, _, rfl, by omega, hn1', rfl, ?_, ?_⟩
      · rw [← tl_tsOf hn']
        exact .group hks h6 (by rw [tl_tsOf hn]; exact HP.out) (by rw [hd_tsOf hn']; exact hcl)
      · exact ((HK2.out.trans (HK3.out.mono (by omega))).alloc (by omega) _).setRb _ _
      · have hA := HRC.out
        have hK4 : Kp rb w2.heap.size w2 ((w3.alloc (.cells #[Value.int IntKind.u8 (kindI ps[n'].1.kind), Value.int IntKind.i64 ↑ps[n'].1.place, Value.string ⟨List.toArray ps[n'].1.text⟩, Value.slice a0 ps[n'].1.spans.length b0] 207)).setCell ⟨rb, 2, none⟩ (Value.int IntKind.i64 ↑d)) := (HK3.out.alloc (by omega) _).setRb _ _
        rw [hcl] at hK4
        have hC4 := (hA.kept (sm_kp HR.out.1 hK4 (fun g hg => by simp at hg; omega))).mono (A' := (w.heap.size ≤ ·)) (fun g _ hg => by simp at hg; omega)
        obtain ⟨us, hRow, hSeqs⟩ := hC4
        simp only [RPiece]
        exact ⟨_, us, rfl, hRow, hSeqs⟩
      · exact (H.out.below (below_alloc _ _)).set2 d
    · have hex := expect_no w2 rb tb tc ps n' (d + 1) hR hn' 41 (kindI_close hok' hcl)
      obtain ⟨a0, b0, e0⟩ := own_form (hR.2.1.2 ps[n'] (List.getElem_mem hn'))
      have hrl2 := hR.lt
      simp only [tokV, e0] at hex
      clear hRC hR e0
      go_wp2_with fail
      refine hex.mono ?_
      rintro e w3 ⟨rfl, hR3, hK3⟩
      have hbx3 : w3.cell? ⟨w.heap.size, 0, none⟩ = some (.pointer (some ⟨rb, 0, none⟩)) := by
        rw [kp_cell hK3 (by omega) (by omega)]; exact hbx2
      have hsz3 := hK3.size
      obtain ⟨r0, r1, r2, rf⟩ := hR3.cells
      have H : Hid (Rd w3 rb tb tc ps n' (d + 1)) := hR3
      have HK3 : Hid (Kp rb w2.heap.size w2 w3) := hK3
      clear hR3 hK3 hex
      go_wp2_with fail
      refine leaves_cons (f := 200) (args := #[.pointer (some ⟨w.heap.size, 0, none⟩)]) (by simp) (by simp [go_sem]) ?_
      refine (group1_any w.heap.size rb .returning _ d ?_ ?_ ?_ hd).mono ?_
      · rw [World.cell?_alloc_lt _ _ _ (by simp only []; omega)]; exact hbx3
      · rw [World.cell?_alloc_lt _ _ _ (by simp only []; omega)]; exact r2
      · rw [World.frozen?_alloc_old _ _ _ (by simp only []; omega)]; exact rf 2
      rintro e u' w'' ⟨rfl, rfl, rfl⟩
      refine ⟨_, results_tmp2 rfl _ _ _, .err 2 ps[n'].1.place, ?_, ?_, rfl, n', ?_⟩
      · rw [← hd_tsOf hn']
        exact .unclosed hks h6 (by rw [tl_tsOf hn]; exact HP.out) (by rw [hd_tsOf hn']; exact hcl)
      · exact ((HK2.out.trans (HK3.out.mono (by omega))).alloc (by omega) _).setRb _ _
      · exact (H.out.below (below_alloc _ _)).set2 d
end Go.Proofs.YtjmcdklhaieldaaGreatDoor
namespace Go.Proofs.YtjmcdklhaieldaaGreatDoor
open Go.RowKit

set_option maxHeartbeats 4000000 in
set_option maxRecDepth 100000 in
/-- piece, where no group begins. -/
theorem piece_plain (w : World) (rb tb tc : Nat) (ps : List (Thk.Tok × Value)) (n d : Nat) (h : Rd w rb tb tc ps n d) (hg : GoodP ps) (hn : n < ps.length) (pc : Thk.Piece) (hp : Thk.plainPiece ps[n].1 = some pc) :
    Calls Tryz.prog 185 #[.pointer (some ⟨rb, 0, none⟩)] w fun e w' => PiecePost w rb tb tc ps n d e w' := by
  have hPP : Thk.PPiece d (tsOf ps n) (.ok pc (tsOf ps (n + 1))) := by rw [← tl_tsOf hn]; exact .plain (by rw [hd_tsOf hn]; exact hp)
  obtain ⟨c0, c1, c2, fz⟩ := h.cells
  obtain ⟨k0, k1, k2, k3⟩ := h.tok' n hn
  have hl := h.2.2.1
  have hn' : (n : Int) < (ps.length : Int) := by omega
  have hsp := h.2.1.2 ps[n] (List.getElem_mem hn)
  obtain ⟨a0, b0, e0⟩ := own_form hsp
  have hrl := h.lt
  have HTX : Hid (ps[n].1.text.length ≤ 2000) := h.2.2.2 ps[n] (List.getElem_mem hn)
  have htl : tb < w.heap.size := ((h.2.1.1.lt tb rfl).2)
  have hnl : ps[n].1.kind.last = false := by
    unfold Thk.plainPiece at hp
    cases hk : ps[n].1.kind with
    | fin => rw [hk] at hp; cases hp
    | bad => rw [hk] at hp; cases hp
    | _ => rfl
  have hn1 : n + 1 < ps.length := (hg n hn).2 hnl
  rw [e0] at k3 hsp
  have H : Hid (Rd w rb tb tc ps n d) := h
  have HSP : Hid (Spans w 0 (.slice a0 ps[n].1.spans.length b0) ps[n].1.spans) := hsp
  have HPP : Hid (Thk.PPiece d (tsOf ps n) (.ok pc (tsOf ps (n + 1)))) := hPP
  have fin : ∀ (w' : World) (v : Value), Kp rb w.heap.size w w' → Rd w' rb tb tc ps (n + 1) d → RPiece w' (w.heap.size ≤ ·) pc v → PiecePost w rb tb tc ps n d (.returned (.tuple #[v, .nilIface])) w' :=
    fun w' v h1 h2 h3 => ⟨_, hPP, h1, n + 1, v, rfl, by omega, hn1, rfl, h3, h2⟩
  have FIN : Hid _ := fin
  clear h hPP hsp fin
  unfold Thk.plainPiece at hp
  cases hk : ps[n].1.kind with
  | name =>
    rw [hk] at hp k0
    simp only [Option.some.injEq] at hp
    subst hp
    simp only [kindI] at k0
    go_enter Tryz.func185, Tryz.ntmps185
    go_wp2_with fail
    go_region
    go_wp2_with fail
    go_ret2
    refine FIN.out _ _ ?_ ?_ ?_
    · exact ((((Kp.refl _ _ _).setRb _ _).alloc (by simp) _)).drew
    · exact (H.out.set1 (n + 1)).below (below_alloc _ _).drew
    · simp only [RPiece]; exact ⟨rfl, HTX.out⟩
  | lit =>
    rw [hk] at hp k0
    simp only [Option.some.injEq] at hp
    subst hp
    simp only [kindI] at k0
    go_enter Tryz.func185, Tryz.ntmps185
    go_wp2_with fail
    go_region
    go_wp2_with fail
    go_ret2
    refine FIN.out _ _ ?_ ?_ ?_
    · exact ((((Kp.refl _ _ _).setRb _ _).alloc (by simp) _)).drew
    · exact (H.out.set1 (n + 1)).below (below_alloc _ _).drew
    · simp only [RPiece]; rfl
  | cls =>
    rw [hk] at hp k0
    simp only [Option.some.injEq] at hp
    subst hp
    simp only [kindI] at k0
    go_enter Tryz.func185, Tryz.ntmps185
    go_wp2_with fail
    go_region
    go_wp2_with fail
    go_ret2
    have hK : Kp rb w.heap.size w ((((w.setCell ⟨rb, 1, none⟩ (.int .i64 ((n : Int) + 1))).alloc (.cells #[.int .u8 5, .int .i64 ↑ps[n].1.place, .string ⟨List.toArray ps[n].1.text⟩, .slice a0 ps[n].1.spans.length b0] 207))).drew) := ((((Kp.refl _ _ _).setRb _ _).alloc (by simp) _)).drew
    refine FIN.out _ _ hK ?_ ?_
    · exact (H.out.set1 (n + 1)).below (below_alloc _ _).drew
    · simp only [RPiece]
      exact ⟨_, rfl, own_kp HSP.out H.out.1 (by decide) hK⟩
  | sign c =>
    rw [hk] at hp k0
    simp only [] at hp
    split at hp
    · rename_i hc
      subst hc
      simp only [Option.some.injEq] at hp
      subst hp
      simp only [kindI] at k0
      simp at k0
      go_enter Tryz.func185, Tryz.ntmps185
      go_wp2_with fail
      go_region
      go_wp2_with fail
      go_ret2
      refine FIN.out _ _ ?_ ?_ ?_
      · exact ((((Kp.refl _ _ _).setRb _ _).alloc (by simp) _)).drew
      · exact (H.out.set1 (n + 1)).below (below_alloc _ _).drew
      · simp only [RPiece]; rfl
    · cases hp
  | fin => rw [hk] at hp; cases hp
  | bad => rw [hk] at hp; cases hp
  | arrow => rw [hk] at hp; cases hp
end Go.Proofs.YtjmcdklhaieldaaGreatDoor
namespace Go.Proofs.YtjmcdklhaieldaaGreatDoor
open Go.RowKit

set_option maxHeartbeats 4000000 in
set_option maxRecDepth 100000 in
theorem piece_group (w : World) (rb tb tc : Nat) (ps : List (Thk.Tok × Value)) (n d : Nat) (h : Rd w rb tb tc ps n d) (hg : GoodP ps) (hn : n < ps.length) (hd : d ≤ 6) (hk : ps[n].1.kind = .sign 40)
    (hC : ChoiceC rb tb tc ps (ps.length - n - 1)) :
    Calls Tryz.prog 185 #[.pointer (some ⟨rb, 0, none⟩)] w fun e w' => PiecePost w rb tb tc ps n d e w' := by
  obtain ⟨c0, c1, c2, fz⟩ := h.cells
  obtain ⟨k0, k1, k2, k3⟩ := h.tok' n hn
  have hl := h.2.2.1
  have hn' : (n : Int) < (ps.length : Int) := by omega
  obtain ⟨a0, b0, e0⟩ := own_form (h.2.1.2 ps[n] (List.getElem_mem hn))
  have hrl := h.lt
  have htl : tb < w.heap.size := ((h.2.1.1.lt tb rfl).2)
  rw [e0] at k3
  rw [hk] at k0
  simp [kindI] at k0
  have H : Hid (Rd w rb tb tc ps n d) := h
  have hgr := fun w' (hR : Rd w' rb tb tc ps n d) => group_any w' rb tb tc ps n d hR hg hn hd hk hC
  clear h
  go_enter Tryz.func185, Tryz.ntmps185
  go_wp2_with fail
  go_region
  go_wp2_with fail
  have hB : Below w.heap.size w (w.alloc (.cells #[.int .u8 40, .int .i64 ↑ps[n].1.place, .string ⟨List.toArray ps[n].1.text⟩, .slice a0 ps[n].1.spans.length b0] 207)).drew := (below_alloc _ _).drew
  have hsz : (w.alloc (.cells #[.int .u8 40, .int .i64 ↑ps[n].1.place, .string ⟨List.toArray ps[n].1.text⟩, .slice a0 ps[n].1.spans.length b0] 207)).drew.heap.size = w.heap.size + 1 := by simp
  refine (hgr _ (H.out.below hB)).mono ?_
  rintro e w2 ⟨res, hP, hKp, hE⟩
  rw [hsz] at hKp
  have hK2 : Kp rb w.heap.size w w2 := (Kp.of hB).trans (hKp.mono (by omega))
  clear hgr hKp hB
  cases res with
  | err er p =>
    obtain ⟨rfl, n', hR⟩ := hE
    simp only [faultV]
    clear hC
    go_wp2_with fail
    go_ret2
    exact ⟨_, hP, hK2, rfl, n', hR⟩
  | ok pc rest =>
    obtain ⟨n', v, rfl, hlt, hn2, rfl, hRP, hR⟩ := hE
    have hRP2 : RPiece w2 (w.heap.size ≤ ·) pc v := RPiece.mono (fun g _ hg => by rw [hsz] at hg; omega) pc v hRP
    clear hC hRP
    go_wp2_with fail
    go_ret2
    exact ⟨_, hP, hK2, n', v, rfl, hlt, hn2, rfl, hRP2, hR⟩

theorem plain_none {t : Thk.Tok} (hk : okKind t.kind) (h : Thk.plainPiece t = none) (h40 : t.kind ≠ .sign 40) :
    (kindI t.kind == 2) = false ∧ (kindI t.kind == 4) = false ∧ (kindI t.kind == 5) = false ∧ (kindI t.kind == 46) = false ∧ (kindI t.kind == 40) = false := by
  unfold Thk.plainPiece at h
  cases hkk : t.kind with
  | name => rw [hkk] at h; cases h
  | lit => rw [hkk] at h; cases h
  | cls => rw [hkk] at h; cases h
  | sign c =>
    rw [hkk] at h hk h40
    simp only [] at h
    have h46 : c ≠ 46 := by intro e; rw [if_pos e] at h; cases h
    have hc40 : c ≠ 40 := by intro e; apply h40; rw [e]
    have hge := signB_ge hk
    refine ⟨?_, ?_, ?_, ?_, ?_⟩ <;> simp only [kindI] <;> apply beq_eq_false_iff_ne.2
    · omega
    · omega
    · omega
    · intro e; apply h46; apply UInt8.toNat_inj.1; rw [show (46 : UInt8).toNat = 46 from rfl]; omega
    · intro e; apply hc40; apply UInt8.toNat_inj.1; rw [show (40 : UInt8).toNat = 40 from rfl]; omega
  | _ => simp [kindI]

set_option maxHeartbeats 4000000 in
set_option maxRecDepth 100000 in
theorem piece_bad (w : World) (rb tb tc : Nat) (ps : List (Thk.Tok × Value)) (n d : Nat) (h : Rd w rb tb tc ps n d) (hg : GoodP ps) (hn : n < ps.length) (hp : Thk.plainPiece ps[n].1 = none) (hk : ps[n].1.kind ≠ .sign 40) :
    Calls Tryz.prog 185 #[.pointer (some ⟨rb, 0, none⟩)] w fun e w' => PiecePost w rb tb tc ps n d e w' := by
  obtain ⟨c0, c1, c2, fz⟩ := h.cells
  obtain ⟨k0, k1, k2, k3⟩ := h.tok' n hn
  have hl := h.2.2.1
  have hn' : (n : Int) < (ps.length : Int) := by omega
  obtain ⟨a0, b0, e0⟩ := own_form (h.2.1.2 ps[n] (List.getElem_mem hn))
  have hrl := h.lt
  have htl : tb < w.heap.size := ((h.2.1.1.lt tb rfl).2)
  rw [e0] at k3
  obtain ⟨t1, t2, t3, t4, t5⟩ := plain_none (hg n hn).1 hp hk
  have H : Hid (Rd w rb tb tc ps n d) := h
  have HPP : Hid (Thk.PPiece d (tsOf ps n) (.err 2 ps[n].1.place)) := by
    show Thk.PPiece d (tsOf ps n) (.err 2 ps[n].1.place)
    rw [← hd_tsOf hn]; exact .bad (by rw [hd_tsOf hn]; exact hp) (by rw [hd_tsOf hn]; exact hk)
  have hre := fun w' (hR : Rd w' rb tb tc ps n d) => refuse_any w' rb tb tc ps n d hR hn 2
  clear h hp hk
  generalize kindI ps[n].1.kind = K at *
  go_enter Tryz.func185, Tryz.ntmps185
  go_wp2_with fail
  go_region
  go_wp2_with fail
  have hB : Below w.heap.size w (w.alloc (.cells #[.int .u8 K, .int .i64 ↑ps[n].1.place, .string ⟨List.toArray ps[n].1.text⟩, .slice a0 ps[n].1.spans.length b0] 207)).drew := (below_alloc _ _).drew
  refine (hre _ (H.out.below hB)).mono ?_
  rintro e w2 ⟨rfl, q, rfl⟩
  clear hre
  go_wp2_with fail
  go_ret2
  exact ⟨_, HPP.out, (Kp.of (below_alloc _ _)).drewN _, rfl, n, (H.out.below (below_alloc _ _)).drewN _⟩

theorem piece_any (w : World) (rb tb tc : Nat) (ps : List (Thk.Tok × Value)) (n d : Nat) (h : Rd w rb tb tc ps n d) (hg : GoodP ps) (hn : n < ps.length) (hd : d ≤ 6)
    (hC : ChoiceC rb tb tc ps (ps.length - n - 1)) :
    Calls Tryz.prog 185 #[.pointer (some ⟨rb, 0, none⟩)] w fun e w' => PiecePost w rb tb tc ps n d e w' := by
  cases hp : Thk.plainPiece ps[n].1 with
  | some pc => exact piece_plain w rb tb tc ps n d h hg hn pc hp
  | none =>
    by_cases hk : ps[n].1.kind = .sign 40
    · exact piece_group w rb tb tc ps n d h hg hn hd hk hC
    · exact piece_bad w rb tb tc ps n d h hg hn hp hk
end Go.Proofs.YtjmcdklhaieldaaGreatDoor
namespace Go.Proofs.YtjmcdklhaieldaaGreatDoor
open Go.RowKit

theorem kindI_sign {k : Thk.TK} (hk : okKind k) {c : UInt8} (hc : 33 ≤ c.toNat) (h : (c.toNat : Int) = kindI k) : k = .sign c := by
  cases k with
  | sign b => congr 1; apply UInt8.toNat_inj.1; simp only [kindI] at h; omega
  | _ => simp only [kindI] at h; omega

theorem hit_ahead {ps : List (Thk.Tok × Value)} {n : Nat} (hn : n < ps.length) (hg : GoodP ps) :
    (hitK [38, 33] (kindI ps[n].1.kind) = true → ∃ a : UInt8, kindI ps[n].1.kind = a.toNat ∧ Thk.aheadOf (tsOf ps n) = (a, tsOf ps (n + 1)) ∧ n + 1 < ps.length) ∧
    (hitK [38, 33] (kindI ps[n].1.kind) = false → Thk.aheadOf (tsOf ps n) = (0, tsOf ps n)) := by
  obtain ⟨hok, hnx⟩ := hg n hn
  constructor
  · intro h
    simp only [hitK, List.any_cons, List.any_nil, Bool.or_false, Bool.or_eq_true, beq_iff_eq] at h
    rcases h with h | h
    · have hk := kindI_sign hok (by decide) h
      refine ⟨38, h.symm, ?_, hnx (by rw [hk]; rfl)⟩
      unfold Thk.aheadOf; rw [hd_tsOf hn, hk, tl_tsOf hn]; rfl
    · have hk := kindI_sign hok (by decide) h
      refine ⟨33, h.symm, ?_, hnx (by rw [hk]; rfl)⟩
      unfold Thk.aheadOf; rw [hd_tsOf hn, hk, tl_tsOf hn]; rfl
  · intro h
    simp only [hitK, List.any_cons, List.any_nil, Bool.or_false, Bool.or_eq_false_iff, beq_eq_false_iff_ne] at h
    unfold Thk.aheadOf
    rw [hd_tsOf hn]
    cases hk : ps[n].1.kind with
    | sign c =>
      rw [hk] at h
      simp only [kindI] at h
      simp only []
      rw [if_neg]
      rintro (rfl | rfl)
      · exact h.1 rfl
      · exact h.2 rfl
    | _ => rfl

theorem hit_behind {ps : List (Thk.Tok × Value)} {n : Nat} (hn : n < ps.length) (hg : GoodP ps) :
    (hitK [63, 42, 43] (kindI ps[n].1.kind) = true → ∃ a : UInt8, kindI ps[n].1.kind = a.toNat ∧ Thk.behindOf (tsOf ps n) = (a, tsOf ps (n + 1)) ∧ n + 1 < ps.length) ∧
    (hitK [63, 42, 43] (kindI ps[n].1.kind) = false → Thk.behindOf (tsOf ps n) = (0, tsOf ps n)) := by
  obtain ⟨hok, hnx⟩ := hg n hn
  constructor
  · intro h
    simp only [hitK, List.any_cons, List.any_nil, Bool.or_false, Bool.or_eq_true, beq_iff_eq] at h
    rcases h with h | h | h
    · have hk := kindI_sign hok (by decide) h
      refine ⟨63, h.symm, ?_, hnx (by rw [hk]; rfl)⟩
      unfold Thk.behindOf; rw [hd_tsOf hn, hk, tl_tsOf hn]; rfl
    · have hk := kindI_sign hok (by decide) h
      refine ⟨42, h.symm, ?_, hnx (by rw [hk]; rfl)⟩
      unfold Thk.behindOf; rw [hd_tsOf hn, hk, tl_tsOf hn]; rfl
    · have hk := kindI_sign hok (by decide) h
      refine ⟨43, h.symm, ?_, hnx (by rw [hk]; rfl)⟩
      unfold Thk.behindOf; rw [hd_tsOf hn, hk, tl_tsOf hn]; rfl
  · intro h
    simp only [hitK, List.any_cons, List.any_nil, Bool.or_false, Bool.or_eq_false_iff, beq_eq_false_iff_ne] at h
    unfold Thk.behindOf
    rw [hd_tsOf hn]
    cases hk : ps[n].1.kind with
    | sign c =>
      rw [hk] at h
      simp only [kindI] at h
      simp only []
      rw [if_neg]
      rintro (rfl | rfl | rfl)
      · exact h.1 rfl
      · exact h.2.1 rfl
      · exact h.2.2 rfl
    | _ => rfl

/-- What a call of sign leaves. -/
def SignPost (f : List Thk.Tok → UInt8 × List Thk.Tok) (w : World) (rb tb tc : Nat) (ps : List (Thk.Tok × Value)) (n d : Nat) (e : Ending) (w' : World) : Prop :=
  ∃ (a : UInt8) (n1 : Nat), e = .returned (.int .u8 a.toNat) ∧ f (tsOf ps n) = (a, tsOf ps n1) ∧ n ≤ n1 ∧ n1 < ps.length ∧ Rd w' rb tb tc ps n1 d ∧ Kp rb w.heap.size w w'

theorem sign_ahead (w : World) (rb tb tc : Nat) (ps : List (Thk.Tok × Value)) (n d : Nat) (h : Rd w rb tb tc ps n d) (hg : GoodP ps) (hn : n < ps.length) (kb : Nat)
    (h0 : w.cell? ⟨kb, 0, none⟩ = some (.int .u8 38)) (h1 : w.cell? ⟨kb, 1, none⟩ = some (.int .u8 33)) :
    Calls Tryz.prog 184 #[.pointer (some ⟨rb, 0, none⟩), .slice (some ⟨kb, 0, none⟩) 2 2] w fun e w' => SignPost Thk.aheadOf w rb tb tc ps n d e w' := by
  refine (sign_any w rb tb tc ps n d h hn _ rfl [38, 33] kb (by decide) ?_).mono ?_
  · intro i hi
    match i, hi with
    | 0, _ => exact h0
    | 1, _ => exact h1
  rintro e w' ⟨hy, hno, hk⟩
  obtain ⟨ha, hb⟩ := hit_ahead hn hg
  cases hx : hitK [38, 33] (kindI ps[n].1.kind) with
  | true =>
    obtain ⟨a, e1, e2, e3⟩ := ha hx
    obtain ⟨rfl, hR⟩ := hy hx
    exact ⟨a, n + 1, by rw [e1], e2, by omega, e3, hR, hk⟩
  | false =>
    obtain ⟨rfl, hR⟩ := hno hx
    exact ⟨0, n, rfl, hb hx, by omega, hn, hR, hk⟩

theorem sign_behind (w : World) (rb tb tc : Nat) (ps : List (Thk.Tok × Value)) (n d : Nat) (h : Rd w rb tb tc ps n d) (hg : GoodP ps) (hn : n < ps.length) (kb : Nat)
    (h0 : w.cell? ⟨kb, 0, none⟩ = some (.int .u8 63)) (h1 : w.cell? ⟨kb, 1, none⟩ = some (.int .u8 42)) (h2 : w.cell? ⟨kb, 2, none⟩ = some (.int .u8 43)) :
    Calls Tryz.prog 184 #[.pointer (some ⟨rb, 0, none⟩), .slice (some ⟨kb, 0, none⟩) 3 3] w fun e w' => SignPost Thk.behindOf w rb tb tc ps n d e w' := by
  refine (sign_any w rb tb tc ps n d h hn _ rfl [63, 42, 43] kb (by decide) ?_).mono ?_
  · intro i hi
    match i, hi with
    | 0, _ => exact h0
    | 1, _ => exact h1
    | 2, _ => exact h2
  rintro e w' ⟨hy, hno, hk⟩
  obtain ⟨ha, hb⟩ := hit_behind hn hg
  cases hx : hitK [63, 42, 43] (kindI ps[n].1.kind) with
  | true =>
    obtain ⟨a, e1, e2, e3⟩ := ha hx
    obtain ⟨rfl, hR⟩ := hy hx
    exact ⟨a, n + 1, by rw [e1], e2, by omega, e3, hR, hk⟩
  | false =>
    obtain ⟨rfl, hR⟩ := hno hx
    exact ⟨0, n, rfl, hb hx, by omega, hn, hR, hk⟩

abbrev zTerm : Value := .agg #[.int .u8 0, .nilIface, .int .u8 0]

def TermEnd (w : World) (rb tb tc : Nat) (ps : List (Thk.Tok × Value)) (n d : Nat) (e : Ending) (w' : World) : Thk.Res Thk.Term → Prop
  | .ok (.mk a p b) rest => ∃ n' v, rest = tsOf ps n' ∧ n < n' ∧ n' < ps.length ∧ e = .returned (.tuple #[.agg #[.int .u8 a.toNat, v, .int .u8 b.toNat], .nilIface]) ∧ RPiece w' (w.heap.size ≤ ·) p v ∧ Rd w' rb tb tc ps n' d
  | .err er p => EndErr rb tb tc ps d zTerm er p e w'

def TermPost (w : World) (rb tb tc : Nat) (ps : List (Thk.Tok × Value)) (n d : Nat) (e : Ending) (w' : World) : Prop :=
  ∃ res, Thk.PTerm d (tsOf ps n) res ∧ Kp rb w.heap.size w w' ∧ TermEnd w rb tb tc ps n d e w' res

theorem RPiece.oneCell {w : World} {A : Nat → Prop} {p : Thk.Piece} {v : Value} (h : RPiece w A p v) : ∃ t x, v = .iface t x := by
  cases p <;> simp only [RPiece] at h
  · exact ⟨_, _, h.1⟩
  · exact ⟨_, _, h⟩
  · obtain ⟨_, h, _⟩ := h; exact ⟨_, _, h⟩
  · exact ⟨_, _, h⟩
  · obtain ⟨_, _, h, _⟩ := h; exact ⟨_, _, h⟩

/-- Rows of another type than a block's stay while that block is written. -/
theorem own_other {w w' : World} {base b : Nat} {e e' : TypeId} {size : Nat} {v : Value} {n : Nat} {xs : List Value} {cs : Array Value} {fr : Nat × Nat} (h : w.ownsRow base e size v n xs)
    (hb : ∀ g, g ≠ b → g < w.heap.size → w'.heap[g]? = w.heap[g]?) (ht : w.heap[b]? = some (.cells cs e' fr)) (he : e ≠ e') : w'.ownsRow base e size v n xs := by
  refine own_blocks h (fun g hg => hb g ?_ (h.lt g hg).2)
  intro e1
  subst e1
  rcases h.2 with ⟨rfl, _⟩ | ⟨g', cap, cur, rfl, _, hc, _⟩
  · simp [Value.ownBlock] at hg
  · simp [Value.ownBlock] at hg
    subst hg
    rw [hc] at ht
    simp at ht
    exact he ht.2.1

theorem Rd.other {w w' : World} {rb tb tc b : Nat} {ps : List (Thk.Tok × Value)} {n d : Nat} {cs : Array Value} {fr : Nat × Nat} {e' : TypeId} (h : Rd w rb tb tc ps n d)
    (hb : ∀ g, g ≠ b → g < w.heap.size → w'.heap[g]? = w.heap[g]?) (ht : w.heap[b]? = some (.cells cs e' fr)) (h1 : 154 ≠ e') (h2 : 207 ≠ e') (h3 : 286 ≠ e') : Rd w' rb tb tc ps n d := by
  refine ⟨?_, ⟨own_other h.2.1.1 hb ht h2, fun p hp => own_other (h.2.1.2 p hp) hb ht h3⟩, h.2.2⟩
  rw [hb rb ?_ h.lt]
  · exact h.1
  · intro e; subst e
    have := h.1
    rw [ht] at this
    simp at this
    exact h1 this.2.1.symm

theorem heap_alloc_same (w : World) (o : Obj) : (w.alloc o).heap[w.heap.size]? = some o := by
  show (w.heap.push o)[w.heap.size]? = _
  simp
theorem heap_alloc_old (w : World) (o : Obj) {b : Nat} (h : b < w.heap.size) : (w.alloc o).heap[b]? = w.heap[b]? := Below.heap_alloc w o b h

abbrev zTermO : Obj := .cells #[.int .u8 0, .nilIface, .int .u8 0] 219
abbrev aheadO : Obj := .cells #[.int .u8 38, .int .u8 33] 204
abbrev behindO : Obj := .cells #[.int .u8 63, .int .u8 42, .int .u8 43] 204

theorem PieceEnd.form {w : World} {rb tb tc : Nat} {ps : List (Thk.Tok × Value)} {n d : Nat} {e : Ending} {w' : World} {pc : Thk.Piece} {rest : List Thk.Tok} (h : PieceEnd w rb tb tc ps n d e w' (.ok pc rest)) :
    ∃ n' t x, rest = tsOf ps n' ∧ n < n' ∧ n' < ps.length ∧ e = .returned (.tuple #[.iface t x, .nilIface]) ∧ RPiece w' (w.heap.size ≤ ·) pc (.iface t x) ∧ Rd w' rb tb tc ps n' d := by
  obtain ⟨n', v, h1, h2, h3, h4, h5, h6⟩ := h
  obtain ⟨t, x, rfl⟩ := RPiece.oneCell h5
  exact ⟨n', t, x, h1, h2, h3, h4, h5, h6⟩

set_option maxHeartbeats 4000000 in
set_option maxRecDepth 100000 in
theorem term_any (w : World) (rb tb tc : Nat) (ps : List (Thk.Tok × Value)) (n d : Nat) (h : Rd w rb tb tc ps n d) (hg : GoodP ps) (hn : n < ps.length) (hd : d ≤ 6)
    (R : Nat) (hR : ps.length - n ≤ R) (hC : ∀ R', R' < R → ChoiceC rb tb tc ps R') :
    Calls Tryz.prog 175 #[.pointer (some ⟨rb, 0, none⟩)] w fun e w' => TermPost w rb tb tc ps n d e w' := by
  have hrl := h.lt
  have hB1 : Below w.heap.size w ((w.alloc zTermO).alloc aheadO) := (below_alloc _ _).alloc (by simp) _
  have hsg := sign_ahead _ rb tb tc ps n d (h.below hB1) hg hn (w.heap.size + 1) (by simp) (by simp)
  have HB1 : Hid (Below w.heap.size w ((w.alloc zTermO).alloc aheadO)) := hB1
  have hsz1 : ((w.alloc zTermO).alloc aheadO).heap.size = w.heap.size + 2 := by simp
  have hrc1 : ((w.alloc zTermO).alloc aheadO).heap[w.heap.size]? = some zTermO := by
    rw [heap_alloc_old _ _ (by simp)]; exact heap_alloc_same _ _
  have hpc : ∀ w' n1, Rd w' rb tb tc ps n1 d → n ≤ n1 → n1 < ps.length → Calls Tryz.prog 185 #[.pointer (some ⟨rb, 0, none⟩)] w' fun e w'' => PiecePost w' rb tb tc ps n1 d e w'' :=
    fun w' n1 hr h1 h2 => piece_any w' rb tb tc ps n1 d hr hg h2 hd (hC _ (by omega))
  clear h hB1 hC
  go_enter Tryz.func175, Tryz.ntmps175
  go_wp2_with fail
  refine hsg.mono ?_
  rintro e w2 ⟨a, n1, rfl, ha, hle1, hn1, hR2, hK2⟩
  have hrc2 : w2.heap[w.heap.size]? = some zTermO := by rw [hK2.block _ (by rw [hsz1]; omega) (by omega)]; exact hrc1
  have hsz2 := hK2.size
  rw [hsz1] at hsz2
  have hKw2 : Kp rb w.heap.size w w2 := (Kp.of HB1.out).trans (hK2.mono (by rw [hsz1]; omega))
  have hp2 := hpc w2 n1 hR2 hle1 hn1
  have HR2 : Hid (Rd w2 rb tb tc ps n1 d) := hR2
  have HKw2 : Hid (Kp rb w.heap.size w w2) := hKw2
  have HA : Hid (Thk.aheadOf (tsOf ps n) = (a, tsOf ps n1)) := ha
  clear hK2 hrc1 hsg hpc HB1 hR2 hKw2 ha
  go_wp2_with fail
  refine hp2.mono ?_
  rintro e w3 ⟨res, hP, hK3, hE⟩
  have hrc3 : w3.heap[w.heap.size]? = some zTermO := by rw [hK3.block _ (by omega) (by omega)]; exact hrc2
  have hsz3 := hK3.size
  have hKw3 : Kp rb w.heap.size w w3 := HKw2.out.trans (hK3.mono (by omega))
  clear hp2 hrc2 hK3
  have q3 := cell_of_block hrc3
  have f3 := frozen_of_block hrc3
  have hlt3 : w.heap.size < w3.heap.size := by omega
  have HP : Hid (Thk.PPiece d (tsOf ps n1) res) := hP
  have HK3 : Hid (Kp rb w.heap.size w w3) := hKw3
  have HRC3 : Hid (w3.heap[w.heap.size]? = some zTermO) := hrc3
  clear hP hKw3 hrc3
  cases res with
  | err er p =>
    obtain ⟨rfl, n', hR⟩ := hE
    simp only [faultV]
    have H : Hid (Rd w3 rb tb tc ps n' d) := hR
    clear hR
    go_wp2_with fail
    refine bodyPost_ret (v := .tuple #[zTerm, faultV er p]) (by simp [results, Tryz.results175, go_sem, faultV, q3]) rfl ?_
    refine ⟨.err er p, .err (by rw [HA.out]; exact HP.out), ((HK3.out.setCell (Nat.le_refl _) _).setCell (Nat.le_refl _) _).setCell (Nat.le_refl _) _, rfl, n', ?_⟩
    refine H.out.other (b := w.heap.size) (fun g hg _ => ?_) HRC3.out (by decide) (by decide) (by decide)
    rw [Below.heap_setCell _ _ _ _ hg, Below.heap_setCell _ _ _ _ hg, Below.heap_setCell _ _ _ _ hg]
  | ok pc rest =>
    obtain ⟨n', t, x, rfl, hlt, hn2, rfl, hRP, hR⟩ := hE.form
    clear hE
    have hB4 : Below w3.heap.size w3 (w3.alloc behindO) := below_alloc _ _
    have hsz4 : (w3.alloc behindO).heap.size = w3.heap.size + 1 := by simp
    have hsg := sign_behind (w3.alloc behindO) rb tb tc ps n' d (hR.below hB4) hg hn2 w3.heap.size (by simp) (by simp) (by simp)
    have HRP : Hid (RPiece w3 (w2.heap.size ≤ ·) pc (.iface t x)) := hRP
    have H3 : Hid (Rd w3 rb tb tc ps n' d) := hR
    clear hRP hR
    go_wp2_with fail
    refine hsg.mono ?_
    rintro e w4 ⟨b, n4, rfl, hb, hle4, hn4, hR4, hK4⟩
    rw [hsz4] at hK4
    have hrc4 : w4.heap[w.heap.size]? = some zTermO := by
      rw [hK4.block _ (by omega) (by omega), heap_alloc_old _ _ hlt3]; exact HRC3.out
    have hsz5 := hK4.size
    rw [hsz4] at hsz5
    have hKw4 : Kp rb w.heap.size w w4 := (HK3.out.alloc (by omega) behindO).trans (hK4.mono (by omega))
    have q4 := cell_of_block hrc4
    have f4 := frozen_of_block hrc4
    have hlt4 : w.heap.size < w4.heap.size := by omega
    have HK34 : Hid (Kp rb w3.heap.size w3 w4) := (Kp.of hB4).trans (hK4.mono (by omega))
    have HB : Hid (Thk.behindOf (tsOf ps n') = (b, tsOf ps n4)) := hb
    have H4 : Hid (Rd w4 rb tb tc ps n4 d) := hR4
    have HKw4 : Hid (Kp rb w.heap.size w w4) := hKw4
    have HRC4 : Hid (w4.heap[w.heap.size]? = some zTermO) := hrc4
    clear hb hR4 hKw4 hrc4 hsg hB4 hK4 q3 f3
    go_wp2_with fail
    refine bodyPost_ret (v := .tuple #[.agg #[.int .u8 a.toNat, .iface t x, .int .u8 b.toNat], .nilIface]) (by simp [results, Tryz.results175, go_sem, q4]) rfl ?_
    have hot : ∀ g, g ≠ w.heap.size → g < w4.heap.size → (((w4.setCell ⟨w.heap.size, 0, none⟩ (.int .u8 a.toNat)).setCell ⟨w.heap.size, 1, none⟩ (.iface t x)).setCell ⟨w.heap.size, 2, none⟩ (.int .u8 b.toNat)).heap[g]? = w4.heap[g]? := by
      intro g hg _
      rw [Below.heap_setCell _ _ _ _ hg, Below.heap_setCell _ _ _ _ hg, Below.heap_setCell _ _ _ _ hg]
    have hPT : Thk.PTerm d (tsOf ps n) (.ok (.mk a pc b) (tsOf ps n4)) := by
      have := Thk.PTerm.ok (d := d) (ts := tsOf ps n) (p := pc) (rest := tsOf ps n') (by rw [HA.out]; exact HP.out)
      rw [HA.out, HB.out] at this
      exact this
    refine ⟨_, hPT, ((HKw4.out.setCell (Nat.le_refl _) _).setCell (Nat.le_refl _) _).setCell (Nat.le_refl _) _, n4, _, rfl, by omega, hn4, rfl, ?_, ?_⟩
    · have h34 := RPiece.kept (sm_kp H3.out.1 HK34.out (fun g hg => by omega)) pc _ HRP.out
      have hs : Sm (w2.heap.size ≤ ·) w4 _ := ⟨fun u l hl => own_other hl hot HRC4.out (by decide), fun g hg ha => hot g (by omega) hg⟩
      exact RPiece.mono (fun g _ hg => by omega) pc _ (RPiece.kept hs pc _ h34)
    · exact H4.out.other (b := w.heap.size) hot HRC4.out (by decide) (by decide) (by decide)
end Go.Proofs.YtjmcdklhaieldaaGreatDoor
