import Derived.Test.YtkbepcjgadkfaaaGreatDoorU5
set_option linter.all false
namespace Go.Proofs.YtkbepcjgadkfaaaGreatDoor
open Go.RowKit
attribute [local go_sem ↓] Go.wp_at_zero Go.wp_at_succ

theorem mark0_any (w : World) : Calls Tryz.prog 53 #[.int .i64 0] w fun e w' => e = .returned (.string ⟨#[40, 109, 105, 110, 101, 32, 48]⟩) ∧ w' = w := by
  go_enter Tryz.func53, Tryz.ntmps53
  go_wp2_with fail
  go_loopg [0, 3] 1 (fun m v0 v3 wr => m = 1 ∧ v0 = .int .i64 0 ∧ v3 = .string ⟨#[40, 109, 105, 110, 101, 32]⟩ ∧ wr = w)
  case atStart => exact ⟨rfl, rfl, rfl, rfl⟩
  case round =>
    obtain ⟨rfl, rfl, rfl, rfl⟩ := hrel
    go_wp2_with fail
    go_ret
    exact ⟨rfl, rfl⟩

theorem step_append_lst {w : World} {ops : Array Oper} {o : Oper} {a : Act} {K : Act → World → Prop} {Q : Exit → Act → World → Prop} {E : Prop} (hgd : o.guard = none) (s x : Operand)
    (ho : o.op = .call { callee := .builtin .append, args := #[s, x], argTypes := #[76, 76] }) {B : Nat} {Bad : Nat → Prop} {ao : Option Addr} {b off n cap : Nat} {olds : List Value} (h : Lst w B Bad ao b off n cap olds) (hs : a.eval s = .slice ao n cap)
    (p k c : Nat) (cs : Array Value) (t : TypeId) (fr : Nat × Nat) (hx : a.eval x = .slice (some ⟨p, 0, none⟩) k c) (hp : w.heap[p]? = some (.cells cs t fr)) (hl : cs.toList.length = k * 2) (h1 : ∀ u ∈ cs.toList, u.oneCell' = true) (hk : 0 < k) (hb : n + k ≤ 100000) (hB : B ≤ w.heap.size) (hBad : ∀ x, Bad x → x < w.heap.size)
    (hK : ∀ ao' cap' w', Room2 w' B Bad (.slice ao' (n + k) cap') (n + k) → Ev w w' → Lst w' B Bad ao b off n cap olds → Gr w w' (fun x => x = b ∧ 0 < cap) → K (a.put o.dst (.slice ao' (n + k) cap')) w') :
    if Region.wanted o (yielded ops a.tmps) = true then Oper.wp Tryz.prog o a w K Q else E := by
  have hw : Region.wanted o (yielded ops a.tmps) = true := by simp [Region.wanted, hgd]
  rw [if_pos hw]
  obtain ⟨ao', cap', w', hrun, r1, r2, r3, r4⟩ := run_append_lst o.type h (.slice (some ⟨p, 0, none⟩) k c) k cs.toList (Src.ofSlice w Tryz.underlying76 ⟨p, 0, none⟩ k c _ hl (World.news_of_block hp) h1) hk hb hB hBad
  unfold Oper.wp
  simp [execOp, ho, resolve, invoke, builtin, hs, hx, hrun, Result.andThen]
  exact hK ao' cap' w' r1 r2 r3 r4

abbrev playO : Obj := .cells #[.slice none 0 0, .slice none 0 0, .slice none 0 0] 36 (0, 0)

/-- What holds of the world while the lists are made. -/
structure RS (w0 : World) (B yb zb : Nat) (ao : Option Addr) (b off n cap : Nat) (olds : List Value) (w : World) : Prop where
  lst : Lst w B (fun x => x = yb ∨ x = zb) ao b off n cap olds
  hB : B ≤ w.heap.size
  y : yb < w.heap.size
  z : zb < w.heap.size
  below : Below B w0 w
  yk : w.heap[yb]? = some playO
  zf : w.heap[zb]? = some (.cells #[.string ⟨#[40, 109, 105, 110, 101, 32, 48]⟩, .bool false] 122 (0, 0))

theorem RS.alloc {w0 : World} {B yb zb : Nat} {ao : Option Addr} {b off n cap : Nat} {olds : List Value} {w : World} (h : RS w0 B yb zb ao b off n cap olds w) (o : Obj) : RS w0 B yb zb ao b off n cap olds (w.alloc o) :=
  ⟨h.lst.ev (Ev.alloc _ _) (by simp) (fun j u hu => by
    have h1 := h.lst.came.olds j u hu
    rw [World.cell?_alloc_lt _ _ _ (World.block_lt_of_cell? w _ h1)]; exact h1), by have := h.hB; simp; omega, by have := h.y; simp; omega, by have := h.z; simp; omega, h.below.alloc h.hB o, by rw [heap_alloc_old _ _ h.y]; exact h.yk, by rw [heap_alloc_old _ _ h.z]; exact h.zf⟩

theorem keep_alloc {w0 : World} {B yb zb : Nat} {ao : Option Addr} {b off n cap : Nat} {olds : List Value} {w : World} {u0 u1 : Value} (h : w.cell? ⟨zb, 0, none⟩ = some u0 ∧ w.cell? ⟨zb, 1, none⟩ = some u1 ∧ RS w0 B yb zb ao b off n cap olds w) (o : Obj) : (w.alloc o).cell? ⟨zb, 0, none⟩ = some u0 ∧ (w.alloc o).cell? ⟨zb, 1, none⟩ = some u1 ∧ RS w0 B yb zb ao b off n cap olds (w.alloc o) :=
  ⟨by rw [World.cell?_alloc_lt _ _ _ (World.block_lt_of_cell? w _ h.1)]; exact h.1, by rw [World.cell?_alloc_lt _ _ _ (World.block_lt_of_cell? w _ h.2.1)]; exact h.2.1, h.2.2.alloc o⟩

theorem step_append_S {w : World} {ops : Array Oper} {o : Oper} {a : Act} {K : Act → World → Prop} {Q : Exit → Act → World → Prop} {E : Prop} (hgd : o.guard = none) (s x : Operand)
    (ho : o.op = .call { callee := .builtin .append, args := #[s, x], argTypes := #[76, 76] }) {w0 : World} {B yb zb : Nat} {ao : Option Addr} {b off n cap : Nat} {olds : List Value} {u0 u1 : Value} (h : w.cell? ⟨zb, 0, none⟩ = some u0 ∧ w.cell? ⟨zb, 1, none⟩ = some u1 ∧ RS w0 B yb zb ao b off n cap olds w) (hs : a.eval s = .slice ao n cap)
    (p k c : Nat) (cs : Array Value) (t : TypeId) (fr : Nat × Nat) (hx : a.eval x = .slice (some ⟨p, 0, none⟩) k c) (hp : w.heap[p]? = some (.cells cs t fr)) (hl : cs.toList.length = k * 2) (h1 : cs.toList.all (·.oneCell') = true) (hk : 0 < k) (hb : n + k ≤ 100000)
    (hK : ∀ ao' cap' w', Room2 w' B (fun x => x = yb ∨ x = zb) (.slice ao' (n + k) cap') (n + k) → Ev w w' → (w'.cell? ⟨zb, 0, none⟩ = some u0 ∧ w'.cell? ⟨zb, 1, none⟩ = some u1 ∧ RS w0 B yb zb ao b off n cap olds w') → Gr w w' (fun x => x = b ∧ 0 < cap) → K (a.put o.dst (.slice ao' (n + k) cap')) w') :
    if Region.wanted o (yielded ops a.tmps) = true then Oper.wp Tryz.prog o a w K Q else E := by
  refine step_append_lst hgd s x ho h.2.2.lst hs p k c cs t fr hx hp hl (List.all_eq_true.1 h1) hk hb h.2.2.hB (fun x hx => ?_) (fun ao' cap' w' r1 r2 r3 r4 => hK ao' cap' w' r1 r2 ⟨?_, ?_, r3, ?_, ?_, ?_, ?_, ?_, ?_⟩ r4)
  · rcases hx with rfl | rfl
    · exact h.2.2.y
    · exact h.2.2.z
  · have hne : ¬ (zb = b ∧ 0 < cap) := fun ⟨e, hc⟩ => (h.2.2.lst.ge hc).2 (.inr e.symm)
    rw [World.cell?_of_block (a := ⟨zb, 0, none⟩) (r4.block zb h.2.2.z hne)]; exact h.1
  · have hne : ¬ (zb = b ∧ 0 < cap) := fun ⟨e, hc⟩ => (h.2.2.lst.ge hc).2 (.inr e.symm)
    rw [World.cell?_of_block (a := ⟨zb, 1, none⟩) (r4.block zb h.2.2.z hne)]; exact h.2.1
  · have := r4.size; have := h.2.2.hB; omega
  · have := r4.size; have := h.2.2.y; omega
  · have := r4.size; have := h.2.2.z; omega
  · refine ⟨r4.os.trans h.2.2.below.os, r4.tape.trans h.2.2.below.tape, r4.output.trans h.2.2.below.output, Nat.le_trans h.2.2.below.size r4.size, fun x hx => ?_⟩
    rw [r4.block x (by have := h.2.2.hB; omega) (fun ⟨e, hc⟩ => by have := (h.2.2.lst.ge hc).1; omega)]
    exact h.2.2.below.block x hx
  · rw [r4.block yb h.2.2.y (fun ⟨e, hc⟩ => (h.2.2.lst.ge hc).2 (.inl e.symm))]; exact h.2.2.yk
  · rw [r4.block zb h.2.2.z (fun ⟨e, hc⟩ => (h.2.2.lst.ge hc).2 (.inr e.symm))]; exact h.2.2.zf

theorem Gr.look {w w' : World} {b cap : Nat} {O : Option Obj} {k : Nat} (h : Gr w w' (fun x => x = b ∧ 0 < cap)) (hk : k < w.heap.size) (hb : ¬ (k = b ∧ 0 < cap)) (ho : w.heap[k]? = O) : w'.heap[k]? = O := (h.block k hk hb).trans ho

/-- So many of the mark's rules in a row. -/
def srcC : Nat → Array Value
  | 1 => #[.string ⟨#[40, 109, 105, 110, 101, 32, 48]⟩, .bool false]
  | 2 => #[.string ⟨#[40, 109, 105, 110, 101, 32, 48]⟩, .bool false, .string ⟨#[40, 109, 105, 110, 101, 32, 48]⟩, .bool false]
  | _ => #[.string ⟨#[40, 109, 105, 110, 101, 32, 48]⟩, .bool false, .string ⟨#[40, 109, 105, 110, 101, 32, 48]⟩, .bool false, .string ⟨#[40, 109, 105, 110, 101, 32, 48]⟩, .bool false]

theorem step_append_Z {w : World} {ops : Array Oper} {o : Oper} {a : Act} {K : Act → World → Prop} {Q : Exit → Act → World → Prop} {E : Prop} (hgd : o.guard = none) (s x : Operand)
    (ho : o.op = .call { callee := .builtin .append, args := #[s, x], argTypes := #[76, 76] }) {w0 : World} {B yb zb : Nat} {ao : Option Addr} {b off n cap : Nat} {olds : List Value} {u0 u1 : Value} (h : w.cell? ⟨zb, 0, none⟩ = some u0 ∧ w.cell? ⟨zb, 1, none⟩ = some u1 ∧ RS w0 B yb zb ao b off n cap olds w) (hs : a.eval s = .slice ao n cap)
    (p k c : Nat) (hx : a.eval x = .slice (some ⟨p, 0, none⟩) k c) (hk : k = 1 ∨ k = 2 ∨ k = 3) (hp : w.heap[p]? = some (.cells (srcC k) 122 (0, 0))) (hb : n ≤ 20)
    (hK : ∀ ao' cap' w', Room2 w' B (fun x => x = yb ∨ x = zb) (.slice ao' (n + k) cap') (n + k) → Ev w w' → (w'.cell? ⟨zb, 0, none⟩ = some u0 ∧ w'.cell? ⟨zb, 1, none⟩ = some u1 ∧ RS w0 B yb zb ao b off n cap olds w') → Gr w w' (fun x => x = b ∧ 0 < cap) → K (a.put o.dst (.slice ao' (n + k) cap')) w') :
    if Region.wanted o (yielded ops a.tmps) = true then Oper.wp Tryz.prog o a w K Q else E := by
  refine step_append_S hgd s x ho h hs p k c (srcC k) 122 (0, 0) hx hp ?_ ?_ (by omega) (by omega) hK
  · rcases hk with rfl | rfl | rfl <;> rfl
  · rcases hk with rfl | rfl | rfl <;> rfl

theorem drew_heap (w : World) : w.drew.heap = w.heap := rfl

abbrev zC : List Value := [.string ⟨#[40, 109, 105, 110, 101, 32, 48]⟩, .bool false]

/-- The four lists, while they are written full. -/
structure FinW (w0 : World) (B yb zb nb n : Nat) (A : Nat → Option Addr) (C : Nat → Nat) (w : World) : Prop where
  below : Below B w0 w
  yk : w.heap[yb]? = some playO
  zf : w.heap[zb]? = some (.cells #[.string ⟨#[40, 109, 105, 110, 101, 32, 48]⟩, .bool false] 122 (0, 0))
  nk : w.heap[nb]? = some (.cells #[.slice (A 0) (n + 0) (C 0), .slice (A 1) (n + 1) (C 1), .slice (A 2) (n + 2) (C 2), .slice (A 3) (n + 3) (C 3)] 76 (0, 0))
  hB : B ≤ nb
  rooms : ∀ k, k < 4 → Room2 w B (fun x => x = yb ∨ x = zb ∨ x = nb) (.slice (A k) (n + k) (C k)) (n + k)

theorem Room2.evAlloc {w : World} {B : Nat} {Bad : Nat → Prop} {v : Value} {n : Nat} {o : Obj} (h : Room2 w B Bad v n) : Room2 (w.alloc o) B Bad v n := h.ev (Ev.alloc _ _) (by simp)
theorem Room2.evGr {w w' : World} {B : Nat} {Bad : Nat → Prop} {v : Value} {n : Nat} {row : Nat → Prop} (he : Ev w w') (hg : Gr w w' row) (h : Room2 w B Bad v n) : Room2 w' B Bad v n := h.ev he hg.size
theorem Room2.drew {w : World} {B : Nat} {Bad : Nat → Prop} {v : Value} {n : Nat} (h : Room2 w B Bad v n) : Room2 w.drew B Bad v n := h.ev (fun a ha => ⟨ha, rfl⟩) (Nat.le_refl _)

theorem Room2.fresh {w : World} {B yb zb : Nat} {v : Value} {n : Nat} (o : Obj) (h : Room2 w B (fun x => x = yb ∨ x = zb) v n) : Room2 (w.alloc o) B (fun x => x = yb ∨ x = zb ∨ x = w.heap.size) v n := by
  obtain ⟨ao, b, off, cap, h1, h2, h3, h4⟩ := h.evAlloc (o := o)
  obtain ⟨ao', b', off', cap', k1, k2, k3, k4⟩ := h
  subst h1
  cases k1
  refine ⟨_, b', off', cap, rfl, fun hn => ?_, h3, fun j hj => ?_⟩
  · obtain ⟨a1, a2, a3, a4⟩ := k2 hn
    exact ⟨a1, a2, by simp; omega, fun hx => by
      rcases hx with hx | hx | hx
      · exact a4 (.inl hx)
      · exact a4 (.inr hx)
      · omega⟩
  · obtain ⟨u, hu⟩ := k4 j hj
    have := Ev.alloc w o _ u
    exact ⟨this.1, this.2.trans hu⟩

/-- A rule of a list is written over. -/
theorem FinW.store {w0 w : World} {B yb zb nb n : Nat} {A : Nat → Option Addr} {C : Nat → Nat} (h : FinW w0 B yb zb nb n A C w) {x o : Nat} (hx : B ≤ x) (hb : ¬ (x = yb ∨ x = zb ∨ x = nb)) (u0 u1 : Value) : FinW w0 B yb zb nb n A C ((w.setCell ⟨x, o, none⟩ u0).setCell ⟨x, o + 1, none⟩ u1) := by
  have hev : ∀ (w : World) (p : Addr) (u : Value), Ev w (w.setCell p u) := by
    intro w p u a ha
    refine ⟨?_, World.frozen?_setCell _ _ _ _⟩
    by_cases hp : p = a
    · subst hp
      rw [World.cell?_setCell_same' _ _ _ ha]; rfl
    · rw [World.cell?_setCell_other _ _ _ _ hp]; exact ha
  have he := (hev w ⟨x, o, none⟩ u0).trans (hev (w.setCell ⟨x, o, none⟩ u0) ⟨x, o + 1, none⟩ u1)
  have hbk : ∀ k, k ≠ x → ((w.setCell ⟨x, o, none⟩ u0).setCell ⟨x, o + 1, none⟩ u1).heap[k]? = w.heap[k]? := by
    intro k hk
    rw [Below.heap_setCell _ _ _ _ hk, Below.heap_setCell _ _ _ _ hk]
  refine ⟨(h.below.setCell (p := ⟨x, o, none⟩) hx u0).setCell (p := ⟨x, o + 1, none⟩) hx u1, ?_, ?_, ?_, h.hB, fun k hk => (h.rooms k hk).ev he (by simp)⟩
  · rw [hbk yb (fun e => hb (.inl e.symm))]; exact h.yk
  · rw [hbk zb (fun e => hb (.inr (.inl e.symm)))]; exact h.zf
  · rw [hbk nb (fun e => hb (.inr (.inr e.symm)))]; exact h.nk

theorem FinW.drewN1 {w0 w : World} {B yb zb nb n : Nat} {A : Nat → Option Addr} {C : Nat → Nat} (h : FinW w0 B yb zb nb n A C w) : FinW w0 B yb zb nb n A C w.drew :=
  ⟨h.below.drew, h.yk, h.zf, h.nk, h.hB, fun k hk => (h.rooms k hk).drew⟩

theorem finW_of {w0 w : World} {B yb zb : Nat} {ao : Option Addr} {b off n cap : Nat} {olds : List Value} {u0 u1 : Value} (h : w.cell? ⟨zb, 0, none⟩ = some u0 ∧ w.cell? ⟨zb, 1, none⟩ = some u1 ∧ RS w0 B yb zb ao b off n cap olds w) {a1 a2 a3 : Option Addr} {c1 c2 c3 : Nat}
    (r1 : Room2 w B (fun x => x = yb ∨ x = zb) (.slice a1 (n + 1) c1) (n + 1)) (r2 : Room2 w B (fun x => x = yb ∨ x = zb) (.slice a2 (n + 2) c2) (n + 2)) (r3 : Room2 w B (fun x => x = yb ∨ x = zb) (.slice a3 (n + 3) c3) (n + 3)) :
    ∃ (nb : Nat) (A : Nat → Option Addr) (C : Nat → Nat), Value.slice (some ⟨w.heap.size, 0, none⟩) 4 4 = .slice (some ⟨nb, 0, none⟩) 4 4 ∧ FinW w0 B yb zb nb n A C (w.alloc (.cells #[.slice ao n cap, .slice a1 (n + 1) c1, .slice a2 (n + 2) c2, .slice a3 (n + 3) c3] 76)) := by
  refine ⟨w.heap.size, fun k => if k = 0 then ao else if k = 1 then a1 else if k = 2 then a2 else a3, fun k => if k = 0 then cap else if k = 1 then c1 else if k = 2 then c2 else c3, rfl, (h.2.2.alloc _).below, (h.2.2.alloc _).yk, (h.2.2.alloc _).zf, heap_alloc_same _ _, h.2.2.hB, fun k hk => ?_⟩
  have hk4 : k = 0 ∨ k = 1 ∨ k = 2 ∨ k = 3 := by omega
  rcases hk4 with rfl | rfl | rfl | rfl
  · exact h.2.2.lst.room.fresh _
  · exact r1.fresh _
  · exact r2.fresh _
  · exact r3.fresh _

set_option maxHeartbeats 64000000 in
set_option maxRecDepth 100000 in
theorem brules_any (w : World) (yb B : Nat) (ao : Option Addr) (b off n cap : Nat) (olds : List Value) (hy : w.heap[yb]? = some (.cells #[.slice none 0 0, .slice none 0 0, .slice none 0 0] 36 (0, 0))) (hL : Lst w B (fun x => x = yb) ao b off n cap olds) (hyB : B ≤ yb) (hn : n ≤ 20) :
    Calls Tryz.prog 32 #[.pointer (some ⟨yb, 1, none⟩), .slice ao n cap] w fun e w' => e = .returned (.tuple #[]) ∧ Below B w w' := by
  have hmk := mark0_any w
  have q := cell_of_block hy
  have hyl := heap_lt' hy
  have HL := hideP hL
  have HY := hideP hy
  clear hL hy
  go_enter Tryz.func32, Tryz.ntmps32
  go_wp2_with fail
  refine hmk.mono ?_
  rintro _ w1 ⟨rfl, hw1⟩
  replace hw1 := hw1.symm
  subst hw1
  clear hmk
  obtain ⟨X, hX⟩ : ∃ X, X = w.alloc (.cells #[.string ⟨#[40, 109, 105, 110, 101, 32, 48]⟩, .bool false] 122) := ⟨_, rfl⟩
  have hXs : X.heap.size = w.heap.size + 1 := by rw [hX]; simp
  have hXz : X.heap[w.heap.size]? = some (.cells #[.string ⟨#[40, 109, 105, 110, 101, 32, 48]⟩, .bool false] 122 (0, 0)) := by rw [hX]; exact heap_alloc_same _ _
  have hS0 : X.drew.cell? ⟨w.heap.size, 0, none⟩ = some (.string ⟨#[40, 109, 105, 110, 101, 32, 48]⟩) ∧ X.drew.cell? ⟨w.heap.size, 1, none⟩ = some (.bool false) ∧ RS w B yb w.heap.size ao b off n cap olds X.drew := by
    refine ⟨cell_of_block hXz 0, cell_of_block hXz 1, ?_, ?_, ?_, ?_, ?_, ?_, hXz⟩
    · have h1 : Lst w B (fun x => x = yb ∨ x = w.heap.size) ao b off n cap olds := ⟨HL.out.came, fun hc => ⟨(HL.out.ge hc).1, fun hx => by
        rcases hx with hx | hx
        · exact (HL.out.ge hc).2 hx
        · have := HL.out.came.lt hc; omega⟩, HL.out.max, HL.out.fz⟩
      have hev : Ev w X.drew := by rw [hX]; exact Ev.alloc w _
      refine h1.ev hev (by show _ ≤ X.heap.size; omega) (fun j u hu => ?_)
      have h2 := HL.out.came.olds j u hu
      rw [hX]
      show (w.alloc _).cell? _ = _
      rw [World.cell?_alloc_lt _ _ _ (World.block_lt_of_cell? w _ h2)]; exact h2
    · show _ ≤ X.heap.size; omega
    · show _ < X.heap.size; omega
    · show _ < X.heap.size; omega
    · rw [hX]; exact (((Below.refl B w).alloc (by omega) _)).drew
    · show X.heap[yb]? = _
      rw [hX, heap_alloc_old _ _ hyl]; exact HY.out
  have hbl : 0 < cap → b < w.heap.size := HL.out.came.lt
  have HBL := hideP hbl
  clear hbl hXz
  go_wp2_with fail
  rw [← hX]
  have HX := hideP hX
  clear hX
  go_cut [5] from 15 to 63 (fun v5 wx => ∃ (nb : Nat) (A : Nat → Option Addr) (C : Nat → Nat), v5 = .slice (some ⟨nb, 0, none⟩) 4 4 ∧ FinW w B yb w.heap.size nb n A C wx)
  case first =>
    go_region_held_law (fun w' => w'.cell? ⟨w.heap.size, 0, none⟩ = some (.string ⟨#[40, 109, 105, 110, 101, 32, 48]⟩) ∧ w'.cell? ⟨w.heap.size, 1, none⟩ = some (.bool false) ∧ RS w B yb w.heap.size ao b off n cap olds w') (first | assumption | exact keep_alloc (by assumption) _)
      ((refine step_append_Z (by rfl) _ _ (by rfl) (by assumption) (by rfl) _ _ _ (by rfl) (by decide) (by
        (try rw [drew_heap])
        repeat' (first
          | (refine heap_alloc_at _ _ _ ?_; simp [hXs]; done)
          | (refine heap_alloc_at _ _ _ ?_; simp; done)
          | (refine (heap_alloc_old _ _ ?_).trans ?_
             · first | omega | (simp [hXs]; done) | (simp [hXs]; omega) | (simp; omega))
          | (refine Gr.look (by assumption) ?_ ?_ ?_
             · first | omega | (rw [drew_heap]; simp [hXs]; done) | (rw [drew_heap]; simp [hXs]; omega) | (simp; done) | (simp [hXs]; done) | (simp; omega) | (simp [hXs]; omega)
             · intro h
               obtain ⟨e, hc⟩ := h
               have := HBL.out hc
               omega
             (try rw [drew_heap])))) hn ?_; intro ao' cap' w' hR hE hS hG; have hz := hG.size; (try rw [drew_heap] at hz); (try simp [hXs] at hz); (first | replace hR1 := Room2.evGr hE hG hR1 | replace hR1 := Room2.evGr hE hG hR1.evAlloc | replace hR1 := Room2.evGr hE hG hR1.evAlloc.evAlloc | skip); (first | replace hR2 := Room2.evGr hE hG hR2 | replace hR2 := Room2.evGr hE hG hR2.evAlloc | replace hR2 := Room2.evGr hE hG hR2.evAlloc.evAlloc | skip); (first | replace hR3 := Room2.evGr hE hG hR3 | replace hR3 := Room2.evGr hE hG hR3.evAlloc | replace hR3 := Room2.evGr hE hG hR3.evAlloc.evAlloc | skip); (first | (have hR1 : Room2 _ _ _ _ (n + 1) := hR) | (have hR2 : Room2 _ _ _ _ (n + 2) := hR) | (have hR3 : Room2 _ _ _ _ (n + 3) := hR)); clear hR hE))
    all_goals (try go_wp2_with fail)
    all_goals go_meet
    all_goals exact finW_of hS hR1 hR2 hR3
  case rest =>
    obtain ⟨nb, A, C, rfl, hF⟩ := hcut
    have HF := hideP hF
    clear hF hS0 HBL HX HL HY q
    go_wp2_with fail
    go_loopg [6] 4 (fun m v wr => ∃ k : Nat, m = 4 - k ∧ v = .int .i64 k ∧ k ≤ 4 ∧ Hid (FinW w B yb w.heap.size nb n A C wr))
    case atStart => exact ⟨0, by omega, rfl, by omega, HF⟩
    case round =>
      obtain ⟨k, rfl, rfl, hk, HI⟩ := hrel
      have hnq := cell_of_block HI.out.nk
      have hnl := heap_lt' HI.out.nk
      by_cases hlt : k < 4
      · have hlt' : (k : Int) < 4 := by omega
        have hnk : wr.cell? ⟨nb, k, none⟩ = some (.slice (A k) (n + k) (C k)) := by
          rw [hnq]
          have hk4 : k = 0 ∨ k = 1 ∨ k = 2 ∨ k = 3 := by omega
          rcases hk4 with rfl | rfl | rfl | rfl <;> rfl
        clear HF hnq
        go_wp2_with fail
        go_loopg [7] (n + k) (fun m v wr => ∃ i : Nat, m = n + k - i ∧ v = .int .i64 i ∧ i ≤ n + k ∧ Hid (FinW w B yb w.heap.size nb n A C wr))
        case atStart => exact ⟨0, by omega, rfl, by omega, HI⟩
        case round =>
          obtain ⟨i, rfl, rfl, hi, HJ⟩ := hrel
          have hnq2 := cell_of_block HJ.out.nk
          have hnl2 := heap_lt' HJ.out.nk
          have hnk2 : wr.cell? ⟨nb, k, none⟩ = some (.slice (A k) (n + k) (C k)) := by
            rw [hnq2]
            have hk4 : k = 0 ∨ k = 1 ∨ k = 2 ∨ k = 3 := by omega
            rcases hk4 with rfl | rfl | rfl | rfl <;> rfl
          clear hnq2
          by_cases hli : i < n + k
          · have hli' : (i : Int) < (n + k : Nat) := by omega
            obtain ⟨ao', b', off', cap', e1, h2, h3, h4⟩ := HJ.out.rooms k hlt
            cases e1
            obtain ⟨a1, a2, a3, a4⟩ := h2 (by omega)
            have f0 := h4 (i * 2) (by omega)
            have f1 := h4 (i * 2 + 1) (by omega)
            rw [← Nat.add_assoc] at f1
            have z0 := cell_of_block HJ.out.zf 0
            have z1 := cell_of_block HJ.out.zf 1
            obtain ⟨x0, hx0⟩ := Option.isSome_iff_exists.1 f0.1
            obtain ⟨x1, hx1⟩ := Option.isSome_iff_exists.1 f1.1
            have g0 := f0.2
            have g1 := f1.2
            have HST := hideP (fun u0 u1 => HJ.out.drewN1.store (x := b') (o := off' + i * 2) a2 a4 u0 u1)
            have hne1 : b' ≠ nb := fun e => a4 (.inr (.inr e))
            have hne2 : b' ≠ w.heap.size := fun e => a4 (.inr (.inl e))
            have hne3 : ¬ nb = b' := fun e => hne1 e.symm
            have hne4 : ¬ w.heap.size = b' := fun e => hne2 e.symm
            rw [a1] at hnk2
            clear f0 f1 h2 h4 hnk
            go_wp2_with fail
            go_region_held (fun w' => w'.cell? ⟨nb, k, none⟩ = some (.slice (some ⟨b', off', none⟩) (n + k) (C k)) ∧ w'.cell? ⟨w.heap.size, 0, none⟩ = some (.string ⟨#[40, 109, 105, 110, 101, 32, 48]⟩) ∧ w'.cell? ⟨w.heap.size, 1, none⟩ = some (.bool false)) (go_keep) (fail)
            all_goals go_wp2_with fail
            all_goals
              go_roundg (n + k - (i + 1))
              case measure => omega
              case rel => exact ⟨i + 1, rfl, by go_num, by omega, HST.out _ _⟩
          · have hli' : ¬ (i : Int) < (n + k : Nat) := by omega
            have hli2 : ¬ (i : Int) < (n : Int) + k := by omega
            go_wp2_with fail
            go_roundg (4 - (k + 1))
            case measure => omega
            case rel => exact ⟨k + 1, rfl, by go_num, by omega, HJ⟩
      · have hlt' : ¬ (k : Int) < 4 := by omega
        have hyq := cell_of_block HI.out.yk
        have hyf := frozen_of_block HI.out.yk
        have hyl2 := heap_lt' HI.out.yk
        clear HF hnq
        go_wp2_with fail
        go_end0
        exact ⟨rfl, (((HI.out.below.setCell (p := ⟨yb, 2, none⟩) hyB _).alloc (by simp; omega) _).alloc (by simp; omega) _).drew⟩
end Go.Proofs.YtkbepcjgadkfaaaGreatDoor
