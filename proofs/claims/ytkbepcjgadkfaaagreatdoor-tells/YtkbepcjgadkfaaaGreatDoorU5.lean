import Derived.Test.YtkbepcjgadkfaaaGreatDoorU4
set_option linter.all false
namespace Go.Proofs.YtkbepcjgadkfaaaGreatDoor
open Go.RowKit
attribute [local go_sem ↓] Go.wp_at_zero Go.wp_at_succ

/-- No cell has gone, and none has been frozen. -/
def Ev (w w' : World) : Prop := ∀ a : Addr, (w.cell? a).isSome = true → (w'.cell? a).isSome = true ∧ w'.frozen? a = w.frozen? a

theorem Ev.refl (w : World) : Ev w w := fun _ h => ⟨h, rfl⟩
theorem Ev.trans {a b c : World} (h : Ev a b) (k : Ev b c) : Ev a c := fun x hx => ⟨(k x (h x hx).1).1, ((k x (h x hx).1).2).trans (h x hx).2⟩
theorem Ev.alloc (w : World) (o : Obj) : Ev w (w.alloc o) := fun a ha => by
  obtain ⟨u, hu⟩ := Option.isSome_iff_exists.1 ha
  have hlt := World.block_lt_of_cell? w a hu
  exact ⟨by rw [World.cell?_alloc_lt _ _ _ hlt]; exact ha, World.frozen?_alloc_old _ _ _ (by omega)⟩
theorem Ev.setCells (b : Nat) : ∀ (vs : List Value) (o : Nat) (w : World), (∀ j, j < vs.length → (w.cell? ⟨b, o + j, none⟩).isSome = true) → Ev w (w.setCells b o vs) := by
  intro vs o w hs a ha
  refine ⟨?_, World.frozen?_setCells b vs o w a⟩
  by_cases h : a.block = b ∧ a.spot = none ∧ o ≤ a.off ∧ a.off < o + vs.length
  · obtain ⟨h1, h2, h3, h4⟩ := h
    obtain ⟨j, hj⟩ : ∃ j, a.off = o + j := ⟨a.off - o, by omega⟩
    have e : a = ⟨b, o + j, none⟩ := by cases a; simp_all
    rw [e, World.cell?_setCells_in b vs o w hs j (by omega)]; rfl
  · rw [World.cell?_setCells_out b vs o w a (fun e1 e2 => by
      by_cases h3 : a.off < o
      · exact .inl h3
      · exact .inr (by
          by_cases h4 : a.off < o + vs.length
          · exact absurd ⟨e1, e2, by omega, h4⟩ h
          · omega))]
    exact ha

/-- A row of rules that can be written. -/
def Room2 (w : World) (B : Nat) (Bad : Nat → Prop) (v : Value) (n : Nat) : Prop := ∃ ao b off cap, v = .slice ao n cap ∧ (0 < n → ao = some ⟨b, off, none⟩ ∧ B ≤ b ∧ b < w.heap.size ∧ ¬ Bad b) ∧ n ≤ maxLen ∧ ∀ j, j < n * 2 → (w.cell? ⟨b, off + j, none⟩).isSome = true ∧ w.frozen? ⟨b, off + j, none⟩ = false

theorem Room2.ev {w w' : World} {B : Nat} {Bad : Nat → Prop} {v : Value} {n : Nat} (h : Room2 w B Bad v n) (he : Ev w w') (hs : w.heap.size ≤ w'.heap.size) : Room2 w' B Bad v n := by
  obtain ⟨ao, b, off, cap, h1, h2, h3, h4⟩ := h
  refine ⟨ao, b, off, cap, h1, fun hn => ?_, h3, fun j hj => ?_⟩
  · obtain ⟨a1, a2, a3, a4⟩ := h2 hn
    exact ⟨a1, a2, by omega, a4⟩
  · obtain ⟨a1, a2⟩ := h4 j hj
    obtain ⟨b1, b2⟩ := he _ a1
    exact ⟨b1, b2.trans a2⟩

/-- The list that came out, and its spare room. -/
structure Lst (w : World) (B : Nat) (Bad : Nat → Prop) (ao : Option Addr) (b off n cap : Nat) (olds : List Value) : Prop where
  came : Came w 2 ao b off n cap olds
  ge : 0 < cap → B ≤ b ∧ ¬ Bad b
  max : cap ≤ maxLen
  fz : ∀ j, j < n * 2 → w.frozen? ⟨b, off + j, none⟩ = false

theorem Lst.room {w : World} {B : Nat} {Bad : Nat → Prop} {ao : Option Addr} {b off n cap : Nat} {olds : List Value} (h : Lst w B Bad ao b off n cap olds) : Room2 w B Bad (.slice ao n cap) n := by
  have hle := h.came.le
  refine ⟨ao, b, off, cap, rfl, fun hn => ?_, by have := h.max; omega, fun j hj => ⟨?_, h.fz j hj⟩⟩
  · have := h.ge (by omega)
    exact ⟨h.came.addr (by omega), this.1, h.came.lt (by omega), this.2⟩
  · have ho := h.came.oldsLen
    obtain ⟨u, hu⟩ : ∃ u, olds[j]? = some u := ⟨_, List.getElem?_eq_getElem (by omega)⟩
    rw [h.came.olds j u hu]; rfl

structure Gr (w w' : World) (row : Nat → Prop) : Prop where
  os : w'.os = w.os
  tape : w'.tape = w.tape
  output : w'.output = w.output
  size : w.heap.size ≤ w'.heap.size
  block : ∀ k, k < w.heap.size → ¬ row k → w'.heap[k]? = w.heap[k]?

theorem Lst.ev {w w' : World} {B : Nat} {Bad : Nat → Prop} {ao : Option Addr} {b off n cap : Nat} {olds : List Value} (h : Lst w B Bad ao b off n cap olds) (he : Ev w w') (hs : w.heap.size ≤ w'.heap.size) (ho : ∀ j u, olds[j]? = some u → w'.cell? ⟨b, off + j, none⟩ = some u) : Lst w' B Bad ao b off n cap olds := by
  have hc := h.came
  refine ⟨⟨hc.le, hc.addr, fun h => Nat.lt_of_lt_of_le (hc.lt h) hs, hc.oldsLen, ho, fun j hj => ?_⟩, h.ge, h.max, fun j hj => ?_⟩
  · have := hc.spare j hj
    have h2 := he _ this.1
    exact ⟨h2.1, h2.2.trans this.2⟩
  · obtain ⟨u, hu⟩ : ∃ u, olds[j]? = some u := ⟨_, List.getElem?_eq_getElem (by rw [hc.oldsLen]; exact hj)⟩
    have h2 := he ⟨b, off + j, none⟩ (by rw [hc.olds j u hu]; rfl)
    exact h2.2.trans (h.fz j hj)

/-- Some rules behind the list: in its spare room, or in a new row. -/
theorem run_append_lst {w : World} {B : Nat} {Bad : Nat → Prop} {ao : Option Addr} {b off n cap : Nat} {olds : List Value} (ty : TypeId) (h : Lst w B Bad ao b off n cap olds) (xv : Value) (k : Nat) (news : List Value) (hs : Src Tryz.prog 2 76 xv k news w) (hk : 0 < k) (hb : n + k ≤ 100000) (hB : B ≤ w.heap.size) (hBad : ∀ x, Bad x → x < w.heap.size) :
    ∃ ao' cap' w', (Builtin.append_ #[76, 76] ty #[.slice ao n cap, xv]).run Tryz.prog w = .ok (.slice ao' (n + k) cap') w' ∧ Room2 w' B Bad (.slice ao' (n + k) cap') (n + k) ∧ Ev w w' ∧ Lst w' B Bad ao b off n cap olds ∧ Gr w w' (fun x => x = b ∧ 0 < cap) := by
  obtain ⟨i0, hi, hz0, hz1, hz2⟩ := info_parts Tryz.infoARule
  have hc := h.came
  have hle := hc.le
  have hnl := hs.newsLen
  rw [← hz1] at hs
  by_cases hfit : n + k ≤ cap
  · have hcap : 0 < cap := by omega
    have hao := hc.addr hcap
    subst hao
    have hsp : ∀ j, j < news.length → (w.cell? ⟨b, off + n * i0.size + j, none⟩).isSome = true ∧ w.frozen? ⟨b, off + n * i0.size + j, none⟩ = false := by
      intro j hj
      rw [hz1]; exact hc.spare j (by omega)
    have hrun := run_append_room_src (P := Tryz.prog) w 76 76 ty 122 i0 Tryz.underlying76 hi b off n cap xv k news hs hfit (fun j hj => (hsp j hj).1) (fun j hj => (hsp j hj).2)
    obtain ⟨ht, hsz⟩ := setCells_tape b news (off + n * i0.size) w
    have hev := Ev.setCells b news (off + n * i0.size) w (fun j hj => (hsp j hj).1)
    have hge := h.ge hcap
    have holds : ∀ j u, olds[j]? = some u → (w.setCells b (off + n * i0.size) news).cell? ⟨b, off + j, none⟩ = some u := by
      intro j u hu
      have hj : j < n * 2 := by
        have := (List.getElem?_eq_some_iff.1 hu).1
        rw [hc.oldsLen] at this; exact this
      rw [World.cell?_setCells_out b _ _ _ _ (fun _ _ => Or.inl (by show off + j < _; rw [hz1]; omega))]
      exact hc.olds j u hu
    refine ⟨_, _, _, hrun, ⟨_, b, off, cap, rfl, fun _ => ⟨rfl, hge.1, by rw [hsz]; exact hc.lt hcap, hge.2⟩, by unfold maxLen; omega, fun j hj => ?_⟩, hev, h.ev hev (by rw [hsz]; exact Nat.le_refl _) holds, ⟨World.os_setCells _ _ _ _, ht, World.output_setCells _ _ _ _, by rw [hsz]; exact Nat.le_refl _, fun x hx hr => World.heap_setCells_other _ _ _ _ hx (fun e => hr ⟨e, hcap⟩)⟩⟩
    by_cases hj2 : j < n * 2
    · obtain ⟨u, hu⟩ : ∃ u, olds[j]? = some u := ⟨_, List.getElem?_eq_getElem (by rw [hc.oldsLen]; exact hj2)⟩
      have h1 := hc.olds j u hu
      have h2 := hev ⟨b, off + j, none⟩ (by rw [h1]; rfl)
      exact ⟨h2.1, h2.2.trans (h.fz j hj2)⟩
    · have := hsp (j - n * 2) (by omega)
      rw [hz1, show off + n * 2 + (j - n * 2) = off + j from by omega] at this
      have h2 := hev _ this.1
      exact ⟨h2.1, h2.2.trans this.2⟩
  · have hg : cap < n + k := by omega
    have hol := hc.oldsLen
    have hold : (Builtin.firstCells i0.size n (.slice ao n cap)).run Tryz.prog w.drew = .ok olds.toArray w.drew := by
      rcases Nat.eq_zero_or_pos cap with h0 | hcap
      · have e0 : n = 0 := by omega
        subst e0
        have e1 : olds = [] := List.length_eq_zero_iff.1 (by omega)
        subst e1
        cases ao with
        | none => exact run_firstCells_none w.drew i0.size 0 0 cap
        | some a => exact run_firstCells_some w.drew i0.size 0 a 0 cap [] (by simp) (by simp)
      · have hao := hc.addr hcap
        subst hao
        refine run_firstCells_some w.drew i0.size n ⟨b, off, none⟩ _ _ _ (by rw [hz1]; exact hol) ?_
        intro j u hu
        rw [Addr.add_lit]
        exact hc.olds j u hu
    have hby : (n + k) * i0.bytes ≤ 140737488355328 := by rw [hz2]; omega
    have hrun := run_append_grow_src (P := Tryz.prog) w 76 76 ty 122 i0 _ Tryz.underlying76 hi hz0 ao n cap olds hold xv k news hs hg (by omega) (growslice_fits hg hby)
    have hge := grownCap_ge w (n + k) cap 122
    have hcm := grownCap_le_maxLen w (n + k) cap 122 (by unfold maxLen; omega)
    have hevd : Ev w w.drew := fun a ha => ⟨ha, rfl⟩
    obtain ⟨C, hC⟩ : ∃ C, C = ((olds ++ news).toArray ++ Builtin.zeroCells (Value.agg #[.string ⟨#[]⟩, .bool false]).cells (grownCap w (n + k) cap 122 - (n + k))) := ⟨_, rfl⟩
    have hCs : (n + k) * 2 ≤ C.size := by rw [hC, Array.size_append, List.size_toArray, List.length_append, hol, hnl]; omega
    rw [← hC] at hrun
    have hev : Ev w (w.drew.alloc (.cells C 122)) := hevd.trans (Ev.alloc _ _)
    refine ⟨_, _, _, hrun, ⟨_, w.heap.size, 0, _, rfl, fun _ => ⟨rfl, hB, by simp, fun hx => Nat.lt_irrefl _ (hBad _ hx)⟩, by unfold maxLen; omega, fun j hj => ⟨?_, World.frozen?_alloc_new w.drew _ _ _⟩⟩, hev, h.ev hev (by simp) (fun j u hu => ?_), ⟨rfl, rfl, rfl, by simp, fun x hx _ => Below.heap_alloc w.drew _ x hx⟩⟩
    · have e1 : (w.drew.alloc (.cells C 122)).cell? ⟨w.heap.size, 0 + j, none⟩ = _ := World.cell?_alloc_new w.drew _ _ (0 + j)
      rw [e1, Array.getElem?_eq_getElem (by omega)]; rfl
    · have h1 := hc.olds j u hu
      rw [World.cell?_alloc_lt _ _ _ (World.block_lt_of_cell? w.drew _ h1)]; exact h1
end Go.Proofs.YtkbepcjgadkfaaaGreatDoor
