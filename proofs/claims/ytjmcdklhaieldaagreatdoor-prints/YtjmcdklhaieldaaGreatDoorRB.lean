import Derived.Test.YtjmcdklhaieldaaGreatDoorR4
import Derived.Test.YtjmcdklhaieldaaGreatDoorPA
import Derived.Deep.RegionHeldLaw
import Derived.Deep.RegionLaw
import Derived.Deep.DrawnRows
set_option linter.all false
namespace Go.Proofs.YtjmcdklhaieldaaGreatDoor
open Go.RowKit
attribute [local go_sem ↓] Go.wp_at_zero Go.wp_at_succ

theorem Tryz.infoExpr : (Tryz.prog.info? 126).map (fun i => (i.zero, i.size, i.bytes)) = some (some (.agg #[.int .i64 0, .slice none 0 0, .string ⟨#[]⟩, .int .i64 0, .slice none 0 0]), 5, 80) := by kernel_rfl

def exC (p : Thk.RE × Value × Value) : List Value := [.int .i64 p.1.kind, p.2.1, .string ⟨p.1.text.toArray⟩, .int .i64 p.1.rule, p.2.2]
def ruC (r : Thk.Bytes × Nat) : List Value := [.string ⟨r.1.toArray⟩, .int .i64 r.2]
def opC (p : Thk.OP × Value × Value) : List Value := [p.2.1, p.2.2, .string ⟨p.1.sign.toArray⟩]
def intV (n : Nat) : Value := .int .i64 n
def Ints (w : World) (B : Nat) (v : Value) (ns : List Nat) : Prop := w.ownsRow B 3 1 v ns.length (ns.map intV)

abbrev rdO (vx vr vo : Value) (sg : Thk.Bytes) (may : Bool) : Obj := .cells #[vx, vr, vo, .string ⟨sg.toArray⟩, .bool may] 175 (0, 0)

/-- What add asks and gives. -/
structure AddEnd (w : World) (B rb : Nat) (vx vr vo : Value) (sg : Thk.Bytes) (may : Bool) (cs news : List Value) (n : Nat) (w' : World) (g cap : Nat) : Prop where
  blk : w'.heap[rb]? = some (rdO (.slice (some ⟨g, 0, none⟩) (n + 1) cap) vr vo sg may)
  own : w'.ownsRow B 126 5 (.slice (some ⟨g, 0, none⟩) (n + 1) cap) (n + 1) (cs ++ news)
  at_ : vx.ownBlock = some g ∨ w.heap.size ≤ g
  size : w.heap.size ≤ w'.heap.size
  same : ∀ k, k < w.heap.size → k ≠ rb → some k ≠ vx.ownBlock → w'.heap[k]? = w.heap[k]?
  os : w'.os = w.os
  tape : w'.tape = w.tape
  output : w'.output = w.output

theorem own_set_ne {w : World} {b o : Nat} {u : Value} {base : Nat} {e : TypeId} {size : Nat} {v : Value} {n : Nat} {xs : List Value} (h : w.ownsRow base e size v n xs) (hb : v.ownBlock ≠ some b) : (w.setCell ⟨b, o, none⟩ u).ownsRow base e size v n xs :=
  own_blocks h (fun g hg => Below.heap_setCell _ _ _ _ (fun e => hb (by rw [hg, e])))

theorem addEnd_of {w : World} {B rb : Nat} {xa : Option Addr} {xc n : Nat} {vr vo : Value} {sg : Thk.Bytes} {may : Bool} {cs news : List Value} {O1 O2 : Obj} {w1 : World} {g cap : Nat}
    (hr : w.heap[rb]? = some (rdO (.slice xa n xc) vr vo sg may)) (hne : ∀ g, (Value.slice xa n xc).ownBlock = some g → g ≠ rb)
    (ho : w1.ownsRow B 126 5 (.slice (some ⟨g, 0, none⟩) (n + 1) cap) (n + 1) (cs ++ news)) (hg : ((w.alloc O1).alloc O2).drew.grownBy w1 (Value.slice xa n xc).ownBlock)
    (hat : (Value.slice xa n xc).ownBlock = some g ∨ g = w.heap.size + 2) :
    AddEnd w B rb (.slice xa n xc) vr vo sg may cs news n (w1.setCell ⟨rb, 0, none⟩ (.slice (some ⟨g, 0, none⟩) (n + 1) cap)) g cap := by
  have hrl := heap_lt' hr
  have hsz := hg.size
  rw [show (((w.alloc O1).alloc O2).drew).heap.size = w.heap.size + 2 from by show ((w.alloc O1).alloc O2).heap.size = _; simp] at hsz
  have hgr : g ≠ rb := by rcases hat with h | h
                          · exact hne g h
                          · omega
  have hold : ∀ k, k < w.heap.size → some k ≠ (Value.slice xa n xc).ownBlock → w1.heap[k]? = w.heap[k]? := by
    intro k hk hk2
    rw [hg.block k (by show k < ((w.alloc O1).alloc O2).heap.size; simp; omega) hk2]
    show ((w.alloc O1).alloc O2).heap[k]? = _
    rw [heap_alloc_old _ _ (by simp; omega), heap_alloc_old _ _ hk]
  have hr1 : w1.heap[rb]? = some (rdO (.slice xa n xc) vr vo sg may) := by rw [hold rb hrl (fun e => hne rb e.symm rfl)]; exact hr
  refine ⟨?_, ?_, ?_, by simp; omega, ?_, hg.os, hg.tape, hg.output⟩
  · rw [setCell_block hr1]; rfl
  · exact own_set_ne ho (by simpa [Value.ownBlock] using hgr)
  · rcases hat with h | h
    · exact .inl h
    · right; omega
  · intro k hk h1 h2
    rw [Below.heap_setCell _ _ _ _ h1]; exact hold k hk h2

set_option maxHeartbeats 4000000 in
set_option maxRecDepth 100000 in
theorem radd_any (w : World) (B rb : Nat) (xa : Option Addr) (xc n : Nat) (vr vo : Value) (sg : Thk.Bytes) (may : Bool) (cs : List Value) (k : Nat) (ia : Option Addr) (il ic : Nat) (t : ByteArray) (r : Int) (pa : Option Addr) (pl pc : Nat)
    (hr : w.heap[rb]? = some (rdO (.slice xa n xc) vr vo sg may)) (hown : w.ownsRow B 126 5 (.slice xa n xc) n cs) (hn : n ≤ 100000) (hB : B ≤ rb) :
    Calls Tryz.prog 84 #[.pointer (some ⟨rb, 0, none⟩), .agg #[.int .i64 k, .slice ia il ic, .string t, .int .i64 r, .slice pa pl pc]] w fun e w' =>
      ∃ g cap, e = .returned (.int .i64 n) ∧ AddEnd w B rb (.slice xa n xc) vr vo sg may cs [.int .i64 k, .slice ia il ic, .string t, .int .i64 r, .slice pa pl pc] n w' g cap := by
  obtain ⟨i0, hi, hz0, hz1, hz2⟩ := info_parts Tryz.infoExpr
  have hq := cell_of_block hr
  have hf := frozen_of_block hr
  have hrl := heap_lt' hr
  have c0 := hq 0
  have hlt := fun g e => (hown.lt g e).2
  have hge := fun g e => (hown.lt g e).1
  have hne : ∀ g, (Value.slice xa n xc).ownBlock = some g → g ≠ rb := by
    intro g hg e
    subst e
    rcases hown.2 with ⟨hv, _⟩ | ⟨g', cap', cur, hv, _, hg', _⟩
    · rw [hv] at hg; simp [Value.ownBlock] at hg
    · rw [hv] at hg; simp [Value.ownBlock] at hg; subst hg; rw [hr] at hg'; simp at hg'
  have n1 : some rb ≠ (Value.slice xa n xc).ownBlock := fun e => hne _ e.symm rfl
  have n2 : some w.heap.size ≠ (Value.slice xa n xc).ownBlock := fun e => Nat.lt_irrefl _ (hlt _ e.symm)
  have hnb : (((w.alloc (.cells #[.int .i64 k, .slice ia il ic, .string t, .int .i64 r, .slice pa pl pc] 126)).alloc (.cells #[.int .i64 k, .slice ia il ic, .string t, .int .i64 r, .slice pa pl pc] 126)).drew).heap[w.heap.size + 1]? = some (.cells #[.int .i64 k, .slice ia il ic, .string t, .int .i64 r, .slice pa pl pc] 126 (0, 0)) := by
    show ((w.alloc _).alloc _).heap[_]? = _
    rw [show w.heap.size + 1 = (w.alloc (.cells #[.int .i64 k, .slice ia il ic, .string t, .int .i64 r, .slice pa pl pc] 126)).heap.size from by simp]; exact heap_alloc_new _ _
  have HNB := (show Hid _ from hnb)
  have z1 : (w.alloc (.cells #[.int .i64 k, .slice ia il ic, .string t, .int .i64 r, .slice pa pl pc] 126)).frozen? ⟨rb, 0, none⟩ = false := by rw [World.frozen?_alloc_old _ _ _ (by simp only []; omega)]; exact hf 0
  have z2 : ((w.alloc (.cells #[.int .i64 k, .slice ia il ic, .string t, .int .i64 r, .slice pa pl pc] 126)).alloc (.cells #[.int .i64 k, .slice ia il ic, .string t, .int .i64 r, .slice pa pl pc] 126)).frozen? ⟨rb, 0, none⟩ = false := by rw [World.frozen?_alloc_old _ _ _ (by simp; omega)]; exact z1
  have H1 : Hid (∀ u ∈ [Value.int .i64 k, .slice ia il ic, .string t, .int .i64 r, .slice pa pl pc], u.oneCell' = true) := by
    intro u hu
    simp at hu
    rcases hu with rfl | rfl | rfl | rfl | rfl <;> rfl
  have HNE : Hid (∀ g, (Value.slice xa n xc).ownBlock = some g → g ≠ rb) := hne
  have z3 : (((w.alloc (.cells #[.int .i64 k, .slice ia il ic, .string t, .int .i64 r, .slice pa pl pc] 126)).alloc (.cells #[.int .i64 k, .slice ia il ic, .string t, .int .i64 r, .slice pa pl pc] 126)).drew).cell? ⟨rb, 0, none⟩ = some (.slice xa n xc) := by
    show ((w.alloc _).alloc _).cell? _ = _
    rw [World.cell?_alloc_lt _ _ _ (by simp; omega), World.cell?_alloc_lt _ _ _ (by simp only []; omega)]; exact c0
  have HR : Hid (w.heap[rb]? = some (rdO (.slice xa n xc) vr vo sg may)) := hr
  have HOWN : Hid (w.ownsRow B 126 5 (.slice xa n xc) n cs) := hown
  have HM : Hid (n + 1 ≤ maxLen) := by show _ ≤ _; unfold maxLen; omega
  clear hne hr hown hlt hge hq hnb
  go_enter Tryz.func84, Tryz.ntmps84
  go_wp2_with fail
  go_region_law
    ((refine step_append_lies _ (by rfl) _ _ _ (by rfl) B 126 i0 _ 5 80 Tryz.underlying70 hi hz0 hz1 hz2 (by rfl) (by decide) _ _ _ (by rfl) ((HOWN.out.alloc _).alloc _) ⟨w.heap.size + 1, 0, none⟩ 1 1 [.int .i64 k, .slice ia il ic, .string t, .int .i64 r, .slice pa pl pc] (by rfl) (by rfl) (World.news_of_block HNB.out) H1.out (by decide) HM.out (by omega) (by simp; omega) (w.heap.size + 2) (by simp) ?_; intro g cap w1 hown1 hgrow hat hlt; have y1 := (hgrow.frozen_far ⟨rb, 0, none⟩ (by simp; omega) n1).trans z2; have y2 : w1.cell? ⟨rb, 0, none⟩ = some (.slice xa n xc) := (hgrow.cell_far ⟨rb, 0, none⟩ (by simp; omega) n1).trans z3; have HA := addEnd_of HR.out HNE.out hown1 hgrow hat; clear hown1 hgrow hat))
  all_goals go_wp2_with fail
  all_goals
    go_ret
    exact ⟨_, _, by simp, HA⟩
end Go.Proofs.YtjmcdklhaieldaaGreatDoor
namespace Go.Proofs.YtjmcdklhaieldaaGreatDoor
open Go.RowKit

/-- All blocks but b are as they were. -/
structure Chg (b : Nat) (w w' : World) : Prop where
  os : w'.os = w.os
  tape : w'.tape = w.tape
  output : w'.output = w.output
  size : w.heap.size ≤ w'.heap.size
  same : ∀ k, k < w.heap.size → k ≠ b → w'.heap[k]? = w.heap[k]?

theorem Chg.set (b o : Nat) (u : Value) (w : World) : Chg b w (w.setCell ⟨b, o, none⟩ u) := ⟨rfl, rfl, rfl, by simp, fun k _ h => Below.heap_setCell _ _ _ _ h⟩
theorem Chg.grown {b : Nat} {w w' : World} {row : Option Nat} (h : w.grownBy w' row) (hr : ∀ k, row = some k → k = b) : Chg b w w' :=
  ⟨h.os, h.tape, h.output, h.size, fun k hk hb => h.block k hk (fun e => hb (hr k e.symm))⟩
theorem Chg.of_below {b : Nat} {w w' : World} (h : Below w.heap.size w w') : Chg b w w' := ⟨h.os, h.tape, h.output, h.size, fun k hk _ => h.block k hk⟩

theorem own_keep {b : Nat} {w w' : World} (c : Chg b w w') {base : Nat} {e : TypeId} {size : Nat} {v : Value} {n : Nat} {xs : List Value} (h : w.ownsRow base e size v n xs) (hb : v.ownBlock ≠ some b) : w'.ownsRow base e size v n xs :=
  own_blocks h (fun g hg => c.same g (h.lt g hg).2 (fun e => hb (by rw [hg, e])))

theorem own_ty {w : World} {base : Nat} {e : TypeId} {size : Nat} {v : Value} {n : Nat} {xs : List Value} (h : w.ownsRow base e size v n xs) {b : Nat} {cs : Array Value} {t : TypeId} {fr : Nat × Nat} (hb : w.heap[b]? = some (.cells cs t fr)) (ht : e ≠ t) : v.ownBlock ≠ some b := by
  intro hv
  rcases h.2 with ⟨rfl, _⟩ | ⟨g, cap, cur, rfl, _, hg, _⟩
  · simp [Value.ownBlock] at hv
  · simp [Value.ownBlock] at hv; subst hv; rw [hg] at hb; simp at hb; exact ht hb.2.1
theorem own_blk {w : World} {base : Nat} {e : TypeId} {size : Nat} {v : Value} {n : Nat} {xs : List Value} (h : w.ownsRow base e size v n xs) {b : Nat} (hv : v.ownBlock = some b) : ∃ cs, w.heap[b]? = some (.cells cs e (0, 0)) := by
  rcases h.2 with ⟨rfl, _⟩ | ⟨g, cap, cur, rfl, _, hg, _⟩
  · simp [Value.ownBlock] at hv
  · simp [Value.ownBlock] at hv; subst hv; exact ⟨_, hg⟩
theorem own_ty2 {w : World} {base : Nat} {e : TypeId} {size : Nat} {v : Value} {n : Nat} {xs : List Value} (h : w.ownsRow base e size v n xs) {base' : Nat} {e' : TypeId} {size' : Nat} {v' : Value} {n' : Nat} {xs' : List Value} (h' : w.ownsRow base' e' size' v' n' xs') (ht : e ≠ e') {b : Nat} (hv : v'.ownBlock = some b) : v.ownBlock ≠ some b := by
  obtain ⟨cs, hb⟩ := own_blk h' hv
  exact own_ty h hb ht

/-- What a call on the reading leaves as it was: what lies below B, and the blocks of other types. -/
def rdTys : List TypeId := [175, 126, 78, 180, 3]
structure KT (B : Nat) (w w' : World) : Prop where
  os : w'.os = w.os
  tape : w'.tape = w.tape
  output : w'.output = w.output
  size : w.heap.size ≤ w'.heap.size
  low : ∀ k, k < B → w'.heap[k]? = w.heap[k]?
  ty : ∀ (k : Nat) (cs : Array Value) (t : TypeId) (fr : Nat × Nat), w.heap[k]? = some (Obj.cells cs t fr) → t ∉ rdTys → w'.heap[k]? = w.heap[k]?

theorem KT.refl (B : Nat) (w : World) : KT B w w := ⟨rfl, rfl, rfl, Nat.le_refl _, fun _ _ => rfl, fun _ _ _ _ _ _ => rfl⟩
theorem KT.trans {B : Nat} {a b c : World} (h : KT B a b) (k : KT B b c) : KT B a c :=
  ⟨k.os.trans h.os, k.tape.trans h.tape, k.output.trans h.output, Nat.le_trans h.size k.size, fun i hi => (k.low i hi).trans (h.low i hi), fun i cs t fr hi ht => (k.ty i cs t fr ((h.ty i cs t fr hi ht).trans hi) ht).trans (h.ty i cs t fr hi ht)⟩
theorem KT.alloc (B : Nat) (w : World) (hB : B ≤ w.heap.size) (o : Obj) : KT B w (w.alloc o) :=
  ⟨rfl, rfl, rfl, by simp, fun k hk => heap_alloc_old _ _ (by omega), fun k cs t fr hk _ => heap_alloc_old _ _ (heap_lt' hk)⟩
theorem KT.drew {B : Nat} {a w : World} (h : KT B a w) : KT B a w.drew := ⟨h.os, h.tape, h.output, h.size, h.low, h.ty⟩
theorem KT.drewN {B : Nat} {a w : World} (h : KT B a w) (q : Nat) : KT B a (w.drewN q) := ⟨h.os, h.tape, h.output, h.size, h.low, h.ty⟩
theorem KT.chg {B b : Nat} {w w' : World} (c : Chg b w w') (hs : B ≤ w.heap.size) (hB : B ≤ b) (ht : ∀ (cs : Array Value) (t : TypeId) (fr : Nat × Nat), w.heap[b]? = some (Obj.cells cs t fr) → t ∈ rdTys) : KT B w w' :=
  ⟨c.os, c.tape, c.output, c.size, fun k hk => c.same k (by omega) (by omega), fun k cs t fr hk htt => c.same k (heap_lt' hk) (fun e => by subst e; exact htt (ht cs t fr hk))⟩

/-- What lies in memory: the rows' values, with the reading's state. -/
structure MV where
  vx : Value
  vr : Value
  vo : Value
  xs : List (Thk.RE × Value × Value)
  rs : List (Thk.Bytes × Nat)
  os : List (Thk.OP × Value × Value)
  sign : Thk.Bytes
  may : Bool

def MV.st (M : MV) : Thk.ST := ⟨M.xs.map (·.1), M.rs, M.os.map (·.1), M.sign, M.may⟩

def Lab (lab : Nat → Nat) (v : Value) (l : Nat) : Prop := ∀ g, v.ownBlock = some g → lab g = l

structure Mem (w : World) (B rb : Nat) (M : MV) (lab : Nat → Nat) (P : Nat → Prop) : Prop where
  ge : B ≤ rb
  blk : w.heap[rb]? = some (rdO M.vx M.vr M.vo M.sign M.may)
  ex : w.ownsRow B 126 5 M.vx M.xs.length (M.xs.flatMap exC)
  ru : w.ownsRow B 78 2 M.vr M.rs.length (M.rs.flatMap ruC)
  op : w.ownsRow B 180 3 M.vo M.os.length (M.os.flatMap opC)
  items : ∀ p ∈ M.xs, Items w B p.2.1 p.1.items
  parts : ∀ p ∈ M.xs, Ints w B p.2.2 p.1.parts ∧ ∀ g, p.2.2.ownBlock = some g → P (lab g)
  opens : ∀ k (h : k < M.os.length), Ints w B M.os[k].2.1 M.os[k].1.seqs ∧ Lab lab M.os[k].2.1 (2 * k + 1) ∧ Ints w B M.os[k].2.2 M.os[k].1.terms ∧ Lab lab M.os[k].2.2 (2 * k + 2)

theorem Mem.lt {w : World} {B rb : Nat} {M : MV} {lab : Nat → Nat} {P : Nat → Prop} (h : Mem w B rb M lab P) : rb < w.heap.size := heap_lt' h.blk

/-- All old blocks as they were: new labels may be given to new blocks. -/
theorem Mem.below {w w' : World} {B rb : Nat} {M : MV} {lab lab' : Nat → Nat} {P : Nat → Prop} (h : Mem w B rb M lab P) (hb : Below w.heap.size w w') (hl : ∀ g, g < w.heap.size → lab' g = lab g) : Mem w' B rb M lab' P := by
  refine ⟨h.ge, by rw [hb.block rb h.lt]; exact h.blk, own_below h.ex hb, own_below h.ru hb, own_below h.op hb, fun p hp => own_below (h.items p hp) hb, ?_, ?_⟩
  · intro p hp
    obtain ⟨h1, h2⟩ := h.parts p hp
    exact ⟨own_below h1 hb, fun g hg => by rw [hl g (h1.lt g hg).2]; exact h2 g hg⟩
  · intro k hk
    obtain ⟨h1, h2, h3, h4⟩ := h.opens k hk
    exact ⟨own_below h1 hb, fun g hg => by rw [hl g (h1.lt g hg).2]; exact h2 g hg, own_below h3 hb, fun g hg => by rw [hl g (h3.lt g hg).2]; exact h4 g hg⟩

/-- One expression more. -/
theorem Mem.add {w w' : World} {B rb : Nat} {M : MV} {lab : Nat → Nat} {P : Nat → Prop} (h : Mem w B rb M lab P) {g cap : Nat} {re : Thk.RE} {iv pv : Value} (he : AddEnd w B rb M.vx M.vr M.vo M.sign M.may (M.xs.flatMap exC) (exC (re, iv, pv)) M.xs.length w' g cap)
    (hi : Items w B iv re.items) (hp : Ints w B pv re.parts) (hl : ∀ b, pv.ownBlock = some b → P (lab b)) :
    Mem w' B rb { M with vx := .slice (some ⟨g, 0, none⟩) (M.xs.length + 1) cap, xs := M.xs ++ [(re, iv, pv)] } lab P ∧ KT B w w' := by
  have hk : ∀ {e : TypeId} {sz : Nat} {u : Value} {n : Nat} {cs : List Value}, w.ownsRow B e sz u n cs → e ≠ 126 → e ≠ 175 → w'.ownsRow B e sz u n cs := by
    intro e sz u n cs hu h1 h2
    refine own_blocks hu (fun b hb => he.same b (hu.lt b hb).2 ?_ ?_)
    · intro e1; subst e1; exact own_ty hu h.blk h2 hb
    · intro e1; exact own_ty2 hu h.ex h1 e1.symm hb
  have hB := h.ge
  have hr := h.lt
  refine ⟨⟨h.ge, he.blk, by simpa using he.own, hk h.ru (by decide) (by decide), hk h.op (by decide) (by decide), ?_, ?_, ?_⟩, ⟨he.os, he.tape, he.output, he.size, ?_, ?_⟩⟩
  · intro p hpm
    rcases List.mem_append.1 hpm with hpm | hpm
    · exact hk (h.items p hpm) (by decide) (by decide)
    · simp at hpm; subst hpm; exact hk hi (by decide) (by decide)
  · intro p hpm
    rcases List.mem_append.1 hpm with hpm | hpm
    · obtain ⟨h1, h2⟩ := h.parts p hpm
      exact ⟨hk h1 (by decide) (by decide), h2⟩
    · simp at hpm; subst hpm; exact ⟨hk hp (by decide) (by decide), hl⟩
  · intro k hk'
    obtain ⟨h1, h2, h3, h4⟩ := h.opens k hk'
    exact ⟨hk h1 (by decide) (by decide), h2, hk h3 (by decide) (by decide), h4⟩
  · intro k hk'
    refine he.same k (by omega) (by omega) (fun e => ?_)
    have := (h.ex.lt k e.symm).1
    omega
  · intro k cs t fr hk' ht
    refine he.same k (heap_lt' hk') ?_ ?_
    · intro e; subst e; rw [h.blk] at hk'; simp at hk'; rw [← hk'.2.1] at ht; exact ht (by decide)
    · intro e
      obtain ⟨cs', hc⟩ := own_blk h.ex e.symm
      rw [hk'] at hc; simp at hc; rw [hc.2.1] at ht; exact ht (by decide)

/-- A cell of the reading itself that is no row. -/
theorem Mem.setSign {w : World} {B rb : Nat} {M : MV} {lab : Nat → Nat} {P : Nat → Prop} (h : Mem w B rb M lab P) (s : Thk.Bytes) : Mem (w.setCell ⟨rb, 3, none⟩ (.string ⟨s.toArray⟩)) B rb { M with sign := s } lab P ∧ KT B w (w.setCell ⟨rb, 3, none⟩ (.string ⟨s.toArray⟩)) := by
  have c := Chg.set rb 3 (.string ⟨s.toArray⟩) w
  refine ⟨⟨h.ge, by rw [setCell_block h.blk]; rfl, own_keep c h.ex (own_ty h.ex h.blk (by decide)), own_keep c h.ru (own_ty h.ru h.blk (by decide)), own_keep c h.op (own_ty h.op h.blk (by decide)), fun p hp => own_keep c (h.items p hp) (own_ty (h.items p hp) h.blk (by decide)), fun p hp => ⟨own_keep c (h.parts p hp).1 (own_ty (h.parts p hp).1 h.blk (by decide)), (h.parts p hp).2⟩, ?_⟩, KT.chg c (by have := h.lt; have := h.ge; omega) h.ge (fun cs t fr hb => by rw [h.blk] at hb; simp at hb; rw [← hb.2.1]; decide)⟩
  intro k hk
  obtain ⟨h1, h2, h3, h4⟩ := h.opens k hk
  exact ⟨own_keep c h1 (own_ty h1 h.blk (by decide)), h2, own_keep c h3 (own_ty h3 h.blk (by decide)), h4⟩
theorem Mem.setMay {w : World} {B rb : Nat} {M : MV} {lab : Nat → Nat} {P : Nat → Prop} (h : Mem w B rb M lab P) (s : Bool) : Mem (w.setCell ⟨rb, 4, none⟩ (.bool s)) B rb { M with may := s } lab P ∧ KT B w (w.setCell ⟨rb, 4, none⟩ (.bool s)) := by
  have c := Chg.set rb 4 (.bool s) w
  refine ⟨⟨h.ge, by rw [setCell_block h.blk]; rfl, own_keep c h.ex (own_ty h.ex h.blk (by decide)), own_keep c h.ru (own_ty h.ru h.blk (by decide)), own_keep c h.op (own_ty h.op h.blk (by decide)), fun p hp => own_keep c (h.items p hp) (own_ty (h.items p hp) h.blk (by decide)), fun p hp => ⟨own_keep c (h.parts p hp).1 (own_ty (h.parts p hp).1 h.blk (by decide)), (h.parts p hp).2⟩, ?_⟩, KT.chg c (by have := h.lt; have := h.ge; omega) h.ge (fun cs t fr hb => by rw [h.blk] at hb; simp at hb; rw [← hb.2.1]; decide)⟩
  intro k hk
  obtain ⟨h1, h2, h3, h4⟩ := h.opens k hk
  exact ⟨own_keep c h1 (own_ty h1 h.blk (by decide)), h2, own_keep c h3 (own_ty h3 h.blk (by decide)), h4⟩

theorem opC_len (ps : List (Thk.OP × Value × Value)) : (ps.flatMap opC).length = ps.length * 3 := by
  induction ps with
  | nil => rfl
  | cons x xs ih => simp [opC, ih] at *; omega
theorem exC_len (ps : List (Thk.RE × Value × Value)) : (ps.flatMap exC).length = ps.length * 5 := by
  induction ps with
  | nil => rfl
  | cons x xs ih => simp [exC, ih] at *; omega
theorem ruC_len (ps : List (Thk.Bytes × Nat)) : (ps.flatMap ruC).length = ps.length * 2 := by
  induction ps with
  | nil => rfl
  | cons x xs ih => simp [ruC, ih] at *; omega

/-- The open row's block; its innermost's cells. -/
theorem Mem.topAt {w : World} {B rb : Nat} {M : MV} {lab : Nat → Nat} {P : Nat → Prop} (h : Mem w B rb M lab P) {mr : List (Thk.OP × Value × Value)} {m : Thk.OP × Value × Value} (ho : M.os = mr ++ [m]) :
    ∃ og oc, M.vo = .slice (some ⟨og, 0, none⟩) (mr.length + 1) oc ∧ B ≤ og ∧ og < w.heap.size ∧ og ≠ rb ∧ w.cell? ⟨og, mr.length * 3, none⟩ = some m.2.1 ∧ w.cell? ⟨og, mr.length * 3 + 1, none⟩ = some m.2.2 ∧ w.cell? ⟨og, mr.length * 3 + 2, none⟩ = some (.string ⟨m.1.sign.toArray⟩) ∧ ∀ o, w.frozen? ⟨og, o, none⟩ = false := by
  have hop := h.op
  have hl : M.os.length = mr.length + 1 := by rw [ho]; simp
  rw [hl] at hop
  obtain ⟨og, oc, hv, hb, hlt⟩ := hop.form (by omega)
  rw [hv] at hop
  have hg : ∀ j, j < 3 → w.cell? ⟨og, mr.length * 3 + j, none⟩ = (opC m)[j]? := by
    intro j hj
    rw [hop.cellAt _ (by omega), ho, List.flatMap_append, List.getElem?_append_right (by rw [opC_len]; omega), opC_len, show mr.length * 3 + j - mr.length * 3 = j from by omega]
    simp
  refine ⟨og, oc, hv, hb, hlt, ?_, hg 0 (by decide), hg 1 (by decide), hg 2 (by decide), fun o => hop.frozenAt o⟩
  intro e; subst e
  have := own_ty hop h.blk (by decide)
  simp [Value.ownBlock] at this

theorem opC_set (mr : List (Thk.OP × Value × Value)) (m : Thk.OP × Value × Value) (j : Nat) (hj : j < 3) (u : Value) : ((mr ++ [m]).flatMap opC).set (mr.length * 3 + j) u = mr.flatMap opC ++ (opC m).set j u := by
  rw [List.flatMap_append, List.set_append_right _ _ (by rw [opC_len]; omega), opC_len, show mr.length * 3 + j - mr.length * 3 = j from by omega]
  simp

/-- A cell of the innermost that is being read is set: its row is given. -/
theorem Mem.setTop {w : World} {B rb : Nat} {M : MV} {lab : Nat → Nat} {P : Nat → Prop} (h : Mem w B rb M lab P) {mr : List (Thk.OP × Value × Value)} {m m' : Thk.OP × Value × Value} (ho : M.os = mr ++ [m]) {og oc : Nat} (hv : M.vo = .slice (some ⟨og, 0, none⟩) (mr.length + 1) oc)
    (j : Nat) (hj : j < 3) (u : Value) (hm : (opC m).set j u = opC m') (lab' : Nat → Nat) (P' : Nat → Prop)
    (hparts : ∀ p ∈ M.xs, ∀ g, p.2.2.ownBlock = some g → g < w.heap.size → P' (lab' g)) (hlab : ∀ k (hk : k < mr.length), Lab lab' mr[k].2.1 (2 * k + 1) ∧ Lab lab' mr[k].2.2 (2 * k + 2))
    (hs : Ints w B m'.2.1 m'.1.seqs ∧ Lab lab' m'.2.1 (2 * mr.length + 1)) (ht : Ints w B m'.2.2 m'.1.terms ∧ Lab lab' m'.2.2 (2 * mr.length + 2)) :
    Mem (w.setCell ⟨og, mr.length * 3 + j, none⟩ u) B rb { M with os := mr ++ [m'] } lab' P' ∧ KT B w (w.setCell ⟨og, mr.length * 3 + j, none⟩ u) := by
  have c := Chg.set og (mr.length * 3 + j) u w
  have hop := h.op
  have hl : M.os.length = mr.length + 1 := by rw [ho]; simp
  rw [hl, hv] at hop
  obtain ⟨cs, hob⟩ := own_blk hop (b := og) rfl
  have hnr : rb ≠ og := by
    intro e; subst e
    have := own_ty hop h.blk (by decide)
    simp [Value.ownBlock] at this
  have hst := (hop.stored (mr.length * 3 + j) u).1
  refine ⟨⟨h.ge, by rw [c.same rb h.lt hnr]; exact h.blk, own_keep c h.ex (own_ty h.ex hob (by decide)), own_keep c h.ru (own_ty h.ru hob (by decide)), ?_, fun p hp => own_keep c (h.items p hp) (own_ty (h.items p hp) hob (by decide)), fun p hp => ⟨own_keep c (h.parts p hp).1 (own_ty (h.parts p hp).1 hob (by decide)), fun g hg => hparts p hp g hg ((h.parts p hp).1.lt g hg).2⟩, ?_⟩, KT.chg c (by have := h.lt; have := h.ge; omega) (hop.lt og rfl).1 (fun cs' t fr hb => by rw [hob] at hb; simp at hb; rw [← hb.2.1]; decide)⟩
  · simp only [hv, List.length_append, List.length_singleton]
    rw [ho, opC_set mr m j hj u, hm] at hst
    simpa using hst
  · intro k hk
    simp only [] at hk ⊢
    by_cases hkm : k < mr.length
    · rw [List.getElem_append_left hkm]
      obtain ⟨h1, _, h3, _⟩ := h.opens k (by rw [hl]; omega)
      simp only [ho, List.getElem_append_left hkm] at h1 h3
      exact ⟨own_keep c h1 (own_ty h1 hob (by decide)), (hlab k hkm).1, own_keep c h3 (own_ty h3 hob (by decide)), (hlab k hkm).2⟩
    · have hke : k = mr.length := by simp at hk; omega
      subst hke
      rw [List.getElem_append_right (Nat.le_refl _)]
      simp only [Nat.sub_self, List.getElem_cons_zero]
      exact ⟨own_keep c hs.1 (own_ty hs.1 hob (by decide)), hs.2, own_keep c ht.1 (own_ty ht.1 hob (by decide)), ht.2⟩
end Go.Proofs.YtjmcdklhaieldaaGreatDoor
