import Derived.Test.YtjmcdklhaieldaaGreatDoorWC
import Derived.Test.YtjmcdklhaieldaaGreatDoorPA
import Derived.Test.YtjmcdklhaieldaaGreatDoorSB
import Derived.Test.YtjmcdklhaieldaaGreatDoorEB
set_option linter.all false
namespace Go.Proofs.YtjmcdklhaieldaaGreatDoor

theorem TL_skip (b tail : List UInt8) (pos : Nat) (h : Thk.blk false (b ++ tail) = b.length + Thk.blk false tail) : TL pos (b ++ tail) = TL (pos + b.length) tail := by
  have hd : (b ++ tail).drop (Thk.blk false (b ++ tail)) = tail.drop (Thk.blk false tail) := by
    rw [h, List.drop_append]; simp
  have ht : tokAt pos (b ++ tail) = tokAt (pos + b.length) tail := by
    unfold tokAt; rw [hd, h]; simp [Nat.add_assoc]
  rw [TL_eq, TL_eq (pos + b.length) tail, ht, h]
  congr 2
  rw [Nat.add_assoc, List.drop_append, List.drop_eq_nil_of_le (by omega), List.nil_append]
  simp

theorem TL_tok (x tail : List UInt8) (pos : Nat) (t : Thk.Tok) (hb : Thk.blk false (x ++ tail) = 0) (ht : Thk.tokL (x ++ tail) = t) (hl : t.kind.last = false) (hs : t.size = x.length) :
    TL pos (x ++ tail) = { t with place := pos } :: TL (pos + x.length) tail := by
  have h1 : tokAt pos (x ++ tail) = { t with place := pos } := by
    unfold tokAt; rw [hb]; simp only [List.drop_zero, Nat.add_zero, ht]
  rw [TL_eq, h1]
  simp only [hl, hs, hb, Bool.false_eq_true, if_false, Nat.zero_add]
  rw [List.drop_left]

theorem blk_sign (c : UInt8) (t : List UInt8) (h1 : Thk.isBlank c = false) (h2 : c ≠ 35) : Thk.blk false (c :: t) = 0 := by
  simp [Thk.blk, h1, h2]

theorem TL_sign (c : UInt8) (tail : List UInt8) (pos : Nat) (hs : Thk.signB c = true) : TL pos (c :: tail) = ⟨.sign c, pos, 1, [], []⟩ :: TL (pos + 1) tail := by
  have hc : c = 47 ∨ c = 38 ∨ c = 33 ∨ c = 63 ∨ c = 42 ∨ c = 43 ∨ c = 40 ∨ c = 41 ∨ c = 46 := by
    simpa [Thk.signB] using hs
  have ht : Thk.tokL (c :: tail) = ⟨.sign c, 0, 1, [], []⟩ := by
    rcases hc with rfl | rfl | rfl | rfl | rfl | rfl | rfl | rfl | rfl <;> simp [Thk.tokL, Thk.isLet, Thk.signB]
  have hb : Thk.blk false (c :: tail) = 0 := by
    rcases hc with rfl | rfl | rfl | rfl | rfl | rfl | rfl | rfl | rfl <;> exact blk_sign _ _ (by decide) (by decide)
  exact TL_tok [c] tail pos _ hb ht rfl rfl

theorem TL_nil (pos : Nat) : TL pos [] = [⟨.fin, pos, 0, [], []⟩] := rfl

theorem TL_blank (c : UInt8) (tail : List UInt8) (pos : Nat) (hs : Thk.isBlank c = true) : TL pos (c :: tail) = TL (pos + 1) tail :=
  TL_skip [c] tail pos (by simp [Thk.blk, hs]; omega)

/-- The blanks between brackets. -/
def blanksK : List (List UInt8) := [[], [32], [10, 9], [32, 35, 32, 111, 114, 10]]

theorem TL_blanks (b tail : List UInt8) (pos : Nat) (hb : b ∈ blanksK) : TL pos (b ++ tail) = TL (pos + b.length) tail := by
  apply TL_skip
  simp only [blanksK, List.mem_cons, List.not_mem_nil, or_false] at hb
  rcases hb with rfl | rfl | rfl | rfl
  · simp
  · simp [Thk.blk, Thk.isBlank]; omega
  · simp [Thk.blk, Thk.isBlank]; omega
  · simp [Thk.blk, Thk.isBlank]; omega

/-- Here a choice may end. -/
structure Stop (d : Nat) (pos : Nat) (tail : List UInt8) : Prop where
  lets : Thk.letN tail = 0
  none : Thk.begins d (TL pos tail) = false
  slash : (Thk.hd (TL pos tail)).kind ≠ .sign 47
  opt : (Thk.hd (TL pos tail)).kind ≠ .sign 63
  star : (Thk.hd (TL pos tail)).kind ≠ .sign 42
  plus : (Thk.hd (TL pos tail)).kind ≠ .sign 43
  arrow : (Thk.hd (TL pos tail)).kind ≠ .arrow

theorem behind_none {ts : List Thk.Tok} (h1 : (Thk.hd ts).kind ≠ .sign 63) (h2 : (Thk.hd ts).kind ≠ .sign 42) (h3 : (Thk.hd ts).kind ≠ .sign 43) : Thk.behindOf ts = (0, ts) := by
  unfold Thk.behindOf
  split
  · rename_i c hc
    rw [hc] at h1 h2 h3
    rw [if_neg]
    rintro (rfl | rfl | rfl)
    · exact h1 rfl
    · exact h2 rfl
    · exact h3 rfl
  · rfl

theorem Stop.behind {d pos : Nat} {tail : List UInt8} (h : Stop d pos tail) : Thk.behindOf (TL pos tail) = (0, TL pos tail) := behind_none h.opt h.star h.plus

/-- A text that reads as a choice, with so many brackets in each other. -/
def Px (x : List UInt8) (dep : Nat) (c : Thk.Choice) : Prop :=
  ∀ d pos tail, d + dep ≤ 6 → Stop d (pos + x.length) tail → Thk.PChoice d (TL pos (x ++ tail)) (.ok c (TL (pos + x.length) tail))

/-- One that reads as a term. -/
theorem Px_one {x : List UInt8} {dep : Nat} {t : Thk.Term} (h : ∀ d pos tail, d + dep ≤ 6 → Stop d (pos + x.length) tail → Thk.begins d (TL pos (x ++ tail)) = true ∧ Thk.PTerm d (TL pos (x ++ tail)) (.ok t (TL (pos + x.length) tail))) :
    Px x dep [[t]] := by
  intro d pos tail hd hs
  obtain ⟨h1, h2⟩ := h d pos tail hd hs
  exact .last (.cons h1 h2 (.nil hs.none)) hs.slash

/-- In brackets: a piece, whatever stands behind. -/
def brk (b x : List UInt8) : List UInt8 := 40 :: (b ++ (x ++ (b ++ [41])))

theorem brk_len (b x : List UInt8) : (brk b x).length = x.length + 2 * b.length + 2 := by simp [brk]; omega

theorem brk_app (b x tail : List UInt8) : brk b x ++ tail = 40 :: (b ++ (x ++ (b ++ 41 :: tail))) := by simp [brk]

theorem letN_blanks (b tail : List UInt8) (hb : b ∈ blanksK) : Thk.letN (b ++ 41 :: tail) = 0 := by
  simp only [blanksK, List.mem_cons, List.not_mem_nil, or_false] at hb
  rcases hb with rfl | rfl | rfl | rfl <;> simp [Thk.letN, Thk.isLet]

theorem stop_close (d pos : Nat) (b tail : List UInt8) (hb : b ∈ blanksK) : Stop d pos (b ++ 41 :: tail) := by
  have h : TL pos (b ++ 41 :: tail) = ⟨.sign 41, pos + b.length, 1, [], []⟩ :: TL (pos + b.length + 1) tail := by
    rw [TL_blanks _ _ _ hb, TL_sign _ _ _ (by decide)]
  refine ⟨letN_blanks b tail hb, ?_, ?_, ?_, ?_, ?_, ?_⟩ <;> simp [h, Thk.begins, Thk.hd]

theorem brk_piece {b x : List UInt8} {dep : Nat} {c : Thk.Choice} (hb : b ∈ blanksK) (hx : Px x dep c) (d pos : Nat) (tail : List UInt8) (hd : d + dep + 1 ≤ 6) :
    (Thk.hd (TL pos (brk b x ++ tail))).kind = .sign 40 ∧ Thk.PPiece d (TL pos (brk b x ++ tail)) (.ok (.group c) (TL (pos + (brk b x).length) tail)) := by
  rw [brk_app, TL_sign _ _ _ (by decide), TL_blanks _ _ _ hb]
  have h1 := hx (d + 1) (pos + 1 + b.length) (b ++ 41 :: tail) (by omega) (stop_close _ _ _ _ hb)
  have h2 : TL (pos + 1 + b.length + x.length) (b ++ 41 :: tail) = ⟨.sign 41, pos + 1 + b.length + x.length + b.length, 1, [], []⟩ :: TL (pos + (brk b x).length) tail := by
    rw [TL_blanks _ _ _ hb, TL_sign _ _ _ (by decide), brk_len]
    congr 2; omega
  refine ⟨rfl, ?_⟩
  have h3 := Thk.PPiece.group (d := d) (ts := ⟨.sign 40, pos, 1, [], []⟩ :: TL (pos + 1 + b.length) (x ++ (b ++ 41 :: tail))) rfl (by omega) h1 (by rw [h2]; rfl)
  rw [h2] at h3
  exact h3

theorem ahead_brk {ts : List Thk.Tok} (h : (Thk.hd ts).kind = .sign 40) : Thk.aheadOf ts = (0, ts) := by
  unfold Thk.aheadOf; rw [h]; rfl

theorem begins_brk {d : Nat} {ts : List Thk.Tok} (h : (Thk.hd ts).kind = .sign 40) : Thk.begins d ts = true := by
  unfold Thk.begins; rw [h]; rfl

/-- A term in brackets with no sign. -/
theorem brk_term {b x : List UInt8} {dep : Nat} {c : Thk.Choice} (hb : b ∈ blanksK) (hx : Px x dep c) (d pos : Nat) (tail : List UInt8) (hd : d + dep + 1 ≤ 6) (hbe : Thk.behindOf (TL (pos + (brk b x).length) tail) = (0, TL (pos + (brk b x).length) tail)) :
    Thk.begins d (TL pos (brk b x ++ tail)) = true ∧ Thk.PTerm d (TL pos (brk b x ++ tail)) (.ok (.mk 0 (.group c) 0) (TL (pos + (brk b x).length) tail)) := by
  obtain ⟨h1, h2⟩ := brk_piece hb hx d pos tail hd
  refine ⟨begins_brk h1, ?_⟩
  have ha := ahead_brk h1
  have h3 := Thk.PTerm.ok (d := d) (ts := TL pos (brk b x ++ tail)) (p := .group c) (rest := TL (pos + (brk b x).length) tail) (by rw [ha]; exact h2)
  rw [ha, hbe] at h3
  exact h3

theorem Px_brk {b x : List UInt8} {dep : Nat} {c : Thk.Choice} (hb : b ∈ blanksK) (hx : Px x dep c) : Px (brk b x) (dep + 1) [[.mk 0 (.group c) 0]] :=
  Px_one fun d pos tail hd hs => brk_term hb hx d pos tail (by omega) hs.behind

theorem Px_behind {b x : List UInt8} {dep : Nat} {c : Thk.Choice} (k : UInt8) (hk : k = 63 ∨ k = 42 ∨ k = 43) (hb : b ∈ blanksK) (hx : Px x dep c) : Px (brk b x ++ [k]) (dep + 1) [[.mk 0 (.group c) k]] := by
  apply Px_one
  intro d pos tail hd hs
  rw [List.append_assoc]
  obtain ⟨h1, h2⟩ := brk_piece hb hx d pos ([k] ++ tail) (by omega)
  refine ⟨begins_brk h1, ?_⟩
  have ha := ahead_brk h1
  have hr : TL (pos + (brk b x).length) ([k] ++ tail) = ⟨.sign k, pos + (brk b x).length, 1, [], []⟩ :: TL (pos + (brk b x ++ [k]).length) tail := by
    rw [List.singleton_append, TL_sign _ _ _ (by rcases hk with rfl | rfl | rfl <;> decide)]
    simp [Nat.add_assoc]
  have hbe : Thk.behindOf (TL (pos + (brk b x).length) ([k] ++ tail)) = (k, TL (pos + (brk b x ++ [k]).length) tail) := by
    rw [hr]; rcases hk with rfl | rfl | rfl <;> rfl
  have h3 := Thk.PTerm.ok (d := d) (ts := TL pos (brk b x ++ ([k] ++ tail))) (p := .group c) (rest := TL (pos + (brk b x).length) ([k] ++ tail)) (by rw [ha]; exact h2)
  rw [ha, hbe] at h3
  exact h3

theorem Px_ahead {b x : List UInt8} {dep : Nat} {c : Thk.Choice} (k : UInt8) (hk : k = 38 ∨ k = 33) (hb : b ∈ blanksK) (hx : Px x dep c) : Px (k :: brk b x) (dep + 1) [[.mk k (.group c) 0]] := by
  apply Px_one
  intro d pos tail hd hs
  rw [List.cons_append]
  have e : pos + 1 + (brk b x).length = pos + (k :: brk b x).length := by simp; omega
  obtain ⟨h1, h2⟩ := brk_piece hb hx d (pos + 1) tail (by omega)
  rw [e] at h2
  have ha : Thk.aheadOf (TL pos (k :: (brk b x ++ tail))) = (k, TL (pos + 1) (brk b x ++ tail)) := by
    rw [TL_sign _ _ _ (by rcases hk with rfl | rfl <;> decide)]
    rcases hk with rfl | rfl <;> rfl
  have hbg : Thk.begins d (TL pos (k :: (brk b x ++ tail))) = true := by
    rw [TL_sign _ _ _ (by rcases hk with rfl | rfl <;> decide)]
    rcases hk with rfl | rfl <;> rfl
  refine ⟨hbg, ?_⟩
  have h3 := Thk.PTerm.ok (d := d) (ts := TL pos (k :: (brk b x ++ tail))) (p := .group c) (rest := TL (pos + (k :: brk b x).length) tail) (by rw [ha]; exact h2)
  rw [ha, hs.behind] at h3
  exact h3

theorem Px_or {b x b' y : List UInt8} {d1 d2 : Nat} {c c' : Thk.Choice} (hb : b ∈ blanksK) (hb' : b' ∈ blanksK) (hx : Px x d1 c) (hy : Px y d2 c') : Px (brk b x ++ [47] ++ brk b' y) (max (d1 + 1) (d2 + 1)) [[.mk 0 (.group c) 0], [.mk 0 (.group c') 0]] := by
  intro d pos tail hd hs
  have e1 : brk b x ++ [47] ++ brk b' y ++ tail = brk b x ++ (47 :: (brk b' y ++ tail)) := by simp
  have e2 : pos + (brk b x ++ [47] ++ brk b' y).length = pos + (brk b x).length + 1 + (brk b' y).length := by simp; omega
  rw [e2] at hs ⊢
  rw [e1]
  have hr := TL_sign 47 (brk b' y ++ tail) (pos + (brk b x).length) (by decide)
  obtain ⟨h1, h2⟩ := brk_term hb hx d pos (47 :: (brk b' y ++ tail)) (by omega) (by rw [hr]; rfl)
  have h3 := brk_term hb' hy d (pos + (brk b x).length + 1) tail (by omega) hs.behind
  refine .more (.cons h1 h2 (.nil (by rw [hr]; rfl))) (by rw [hr]; rfl) ?_
  rw [hr]
  exact .last (.cons h3.1 h3.2 (.nil hs.none)) hs.slash

theorem Px_and {b x b' y : List UInt8} {d1 d2 : Nat} {c c' : Thk.Choice} (hb : b ∈ blanksK) (hb' : b' ∈ blanksK) (hx : Px x d1 c) (hy : Px y d2 c') : Px (brk b x ++ [32] ++ brk b' y) (max (d1 + 1) (d2 + 1)) [[.mk 0 (.group c) 0, .mk 0 (.group c') 0]] := by
  intro d pos tail hd hs
  have e1 : brk b x ++ [32] ++ brk b' y ++ tail = brk b x ++ (32 :: (brk b' y ++ tail)) := by simp
  have e2 : pos + (brk b x ++ [32] ++ brk b' y).length = pos + (brk b x).length + 1 + (brk b' y).length := by simp; omega
  rw [e2] at hs ⊢
  rw [e1]
  have hr := TL_blank 32 (brk b' y ++ tail) (pos + (brk b x).length) (by decide)
  have h3 := brk_term hb' hy d (pos + (brk b x).length + 1) tail (by omega) hs.behind
  have hk := (brk_piece hb' hy d (pos + (brk b x).length + 1) tail (by omega)).1
  obtain ⟨h1, h2⟩ := brk_term hb hx d pos (32 :: (brk b' y ++ tail)) (by omega) (by rw [hr]; exact behind_none (by rw [hk]; simp) (by rw [hk]; simp) (by rw [hk]; simp))
  rw [hr] at h2
  exact .last (.cons h1 h2 (.cons h3.1 h3.2 (.nil hs.none))) hs.slash

end Go.Proofs.YtjmcdklhaieldaaGreatDoor
namespace Go.Proofs.YtjmcdklhaieldaaGreatDoor

theorem Px_tok {x : List UInt8} {t : Thk.Tok} {p : Thk.Piece} (h : ∀ tail, Thk.letN tail = 0 → Thk.blk false (x ++ tail) = 0 ∧ Thk.tokL (x ++ tail) = t) (hl : t.kind.last = false) (hs : t.size = x.length) (hp : Thk.plainPiece t = some p) : Px x 0 [[.mk 0 p 0]] := by
  apply Px_one
  intro d pos tail hd hst
  obtain ⟨h1, h2⟩ := h tail hst.lets
  have hT := TL_tok x tail pos t h1 h2 hl hs
  have hpp : Thk.plainPiece { t with place := pos } = some p := hp
  have ha : Thk.aheadOf (TL pos (x ++ tail)) = (0, TL pos (x ++ tail)) := by
    rw [hT]; unfold Thk.aheadOf
    simp only [Thk.hd, List.headD_cons]
    split
    · rename_i c hc
      rw [if_neg]
      rintro (rfl | rfl) <;> simp [Thk.plainPiece, hc] at hp
    · rfl
  have hbg : Thk.begins d (TL pos (x ++ tail)) = true := by
    have har := hst.arrow
    rw [hT]; unfold Thk.begins
    simp only [Thk.hd, List.headD_cons, List.tail_cons] at har ⊢
    cases hk : t.kind with
    | name =>
      simp only []
      have h0 : (Thk.hd (TL (pos + x.length) tail)).kind.isArrow = false := by
        cases hq : (Thk.hd (TL (pos + x.length) tail)).kind with
        | arrow => exact absurd hq har
        | _ => rfl
      simp only [Thk.hd] at h0
      simp only [h0, Bool.and_false, Bool.not_false]
    | sign c => by_cases hc : c = 46 <;> simp_all [Thk.plainPiece]
    | lit => rfl
    | cls => rfl
    | fin => simp [hk, Thk.TK.last] at hl
    | bad => simp [hk, Thk.TK.last] at hl
    | arrow => simp [hk, Thk.plainPiece] at hp
  refine ⟨hbg, ?_⟩
  have h3 := Thk.PTerm.ok (d := d) (ts := TL pos (x ++ tail)) (p := p) (rest := TL (pos + x.length) tail) (by
    rw [ha, hT]; exact .plain hpp)
  rw [ha, hst.behind] at h3
  exact h3

abbrev nmS : List UInt8 := [115]
abbrev nmNum : List UInt8 := [110, 117, 109]
abbrev nmWord : List UInt8 := [119, 111, 114, 100]
abbrev names3 : List (List UInt8) := [nmS, nmNum, nmWord]

/-- What is held of an expression that was made: its text, whether it may take nothing, how many brackets lie in each other. -/
def Gx (x : List UInt8) (e : Bool) (dep : Nat) : Prop :=
  ∃ c : Thk.Choice, Px x dep c ∧ Thk.someC (unkT names3) c = false ∧
    ∀ E : List UInt8 → Bool, E nmNum = false → E nmWord = false → Thk.emptyC E c = e ∧ Thk.someC (loopT E) c = false ∧ ∀ b ∈ Thk.firstC E c, b = nmNum ∨ b = nmWord

def aTexts : List (List UInt8) := [[39, 97, 39], [39, 98, 39], [39, 97, 98, 39], [91, 97, 45, 99, 93], [46], nmNum, nmWord, [91, 48, 45, 57, 92, 45, 120, 93], [39, 92, 39, 39], [40, 41]]

theorem Gx_tok {x : List UInt8} {t : Thk.Tok} {p : Thk.Piece} (h : ∀ tail, Thk.letN tail = 0 → Thk.blk false (x ++ tail) = 0 ∧ Thk.tokL (x ++ tail) = t) (hl : t.kind.last = false) (hs : t.size = x.length) (hp : Thk.plainPiece t = some p)
    (hq : p = .name nmNum ∨ p = .name nmWord ∨ (∃ b, p = .lit b) ∨ (∃ b, p = .cls b) ∨ p = .any) : Gx x false 0 := by
  refine ⟨_, Px_tok h hl hs hp, ?_, ?_⟩
  · rcases hq with rfl | rfl | ⟨b, rfl⟩ | ⟨b, rfl⟩ | rfl <;> simp [Thk.someC, Thk.someS, Thk.someT, Thk.someP, unkT, Thk.Term.piece]
  · intro E h1 h2
    rcases hq with rfl | rfl | ⟨b, rfl⟩ | ⟨b, rfl⟩ | rfl <;> simp [Thk.emptyC, Thk.emptyS, Thk.emptyT, Thk.emptyP, Thk.someC, Thk.someS, Thk.someT, Thk.someP, loopT, Thk.Term.piece, Thk.Term.behind, Thk.firstC, Thk.firstS, Thk.firstT, Thk.firstP, h1, h2]

theorem Gx_lit1 (a : UInt8) (h1 : a ≠ 92) (h2 : a ≠ 10) (h3 : a ≠ 39) : Gx [39, a, 39] false 0 := by
  refine Gx_tok (t := ⟨.lit, 0, 3, [a], []⟩) (p := .lit [a]) ?_ rfl rfl rfl (.inr (.inr (.inl ⟨_, rfl⟩)))
  intro tail _
  refine ⟨blk_sign _ _ (by decide) (by decide), ?_⟩
  simp [Thk.tokL, Thk.isLet, Thk.litT, Thk.charsL, Thk.charsF, Thk.charL, Thk.closesL, h1, h2, h3]

theorem Gx_atom (k : Nat) (hk : k < 9) : Gx (aTexts.getD k []) false 0 := by
  have : k = 0 ∨ k = 1 ∨ k = 2 ∨ k = 3 ∨ k = 4 ∨ k = 5 ∨ k = 6 ∨ k = 7 ∨ k = 8 := by omega
  rcases this with rfl | rfl | rfl | rfl | rfl | rfl | rfl | rfl | rfl
  · exact Gx_lit1 97 (by decide) (by decide) (by decide)
  · exact Gx_lit1 98 (by decide) (by decide) (by decide)
  · refine Gx_tok (t := ⟨.lit, 0, 4, [97, 98], []⟩) (p := .lit [97, 98]) ?_ rfl rfl rfl (.inr (.inr (.inl ⟨_, rfl⟩)))
    intro tail _
    refine ⟨blk_sign _ _ (by decide) (by decide), ?_⟩
    simp [aTexts, Thk.tokL, Thk.isLet, Thk.litT, Thk.charsL, Thk.charsF, Thk.charL, Thk.closesL]
  · refine Gx_tok (t := ⟨.cls, 0, 5, [], [(97, 99)]⟩) (p := .cls [(97, 99)]) ?_ rfl rfl rfl (.inr (.inr (.inr (.inl ⟨_, rfl⟩))))
    intro tail _
    refine ⟨blk_sign _ _ (by decide) (by decide), ?_⟩
    simp [aTexts, Thk.tokL, Thk.isLet, Thk.clsT, Thk.spansL, Thk.spansF, Thk.spanL, Thk.charL, Thk.closesL]
  · refine Gx_tok (t := ⟨.sign 46, 0, 1, [], []⟩) (p := .any) ?_ rfl rfl rfl (.inr (.inr (.inr (.inr rfl))))
    intro tail _
    exact ⟨blk_sign _ _ (by decide) (by decide), by simp [aTexts, Thk.tokL, Thk.isLet, Thk.signB]⟩
  · refine Gx_tok (t := ⟨.name, 0, 3, nmNum, []⟩) (p := .name nmNum) ?_ rfl rfl rfl (.inl rfl)
    intro tail ht
    refine ⟨blk_sign _ _ (by decide) (by decide), ?_⟩
    simp [aTexts, Thk.tokL, Thk.isLet, Thk.nameT, Thk.letN, ht]
  · refine Gx_tok (t := ⟨.name, 0, 4, nmWord, []⟩) (p := .name nmWord) ?_ rfl rfl rfl (.inr (.inl rfl))
    intro tail ht
    refine ⟨blk_sign _ _ (by decide) (by decide), ?_⟩
    simp [aTexts, Thk.tokL, Thk.isLet, Thk.nameT, Thk.letN, ht]
  · refine Gx_tok (t := ⟨.cls, 0, 8, [], [(48, 57), (45, 45), (120, 120)]⟩) (p := .cls [(48, 57), (45, 45), (120, 120)]) ?_ rfl rfl rfl (.inr (.inr (.inr (.inl ⟨_, rfl⟩))))
    intro tail _
    refine ⟨blk_sign _ _ (by decide) (by decide), ?_⟩
    simp [aTexts, Thk.tokL, Thk.isLet, Thk.clsT, Thk.spansL, Thk.spansF, Thk.spanL, Thk.charL, Thk.escL, Thk.closesL]
  · refine Gx_tok (t := ⟨.lit, 0, 4, [39], []⟩) (p := .lit [39]) ?_ rfl rfl rfl (.inr (.inr (.inl ⟨_, rfl⟩)))
    intro tail _
    refine ⟨blk_sign _ _ (by decide) (by decide), ?_⟩
    simp [aTexts, Thk.tokL, Thk.isLet, Thk.litT, Thk.charsL, Thk.charsF, Thk.charL, Thk.escL, Thk.closesL]

theorem Px_nil : Px [] 0 [[]] := fun _ _ _ _ hs => .last (.nil hs.none) hs.slash

theorem Gx_brackets : Gx [40, 41] true 1 := by
  refine ⟨_, Px_brk (b := []) (by simp [blanksK]) Px_nil, ?_, ?_⟩
  · simp [Thk.someC, Thk.someS, Thk.someT, Thk.someP, unkT, Thk.Term.piece]
  · intro E _ _
    simp [Thk.emptyC, Thk.emptyS, Thk.emptyT, Thk.emptyP, Thk.someC, Thk.someS, Thk.someT, Thk.someP, loopT, Thk.Term.piece, Thk.Term.behind, Thk.firstC, Thk.firstS, Thk.firstT, Thk.firstP]

theorem Gx_or {b x b' y : List UInt8} {e e' : Bool} {d1 d2 : Nat} (hb : b ∈ blanksK) (hb' : b' ∈ blanksK) (hx : Gx x e d1) (hy : Gx y e' d2) : Gx (brk b x ++ [47] ++ brk b' y) (e || e') (max (d1 + 1) (d2 + 1)) := by
  obtain ⟨c, h1, h2, h3⟩ := hx
  obtain ⟨c', h1', h2', h3'⟩ := hy
  refine ⟨_, Px_or hb hb' h1 h1', ?_, ?_⟩
  · simp [Thk.someC, Thk.someS, Thk.someT, Thk.someP, unkT, Thk.Term.piece] at h2 h2' ⊢
    exact ⟨h2, h2'⟩
  · intro E hE hF
    obtain ⟨q1, q2, q3⟩ := h3 E hE hF
    obtain ⟨r1, r2, r3⟩ := h3' E hE hF
    refine ⟨?_, ?_, ?_⟩
    · simp [Thk.emptyC, Thk.emptyS, Thk.emptyT, Thk.emptyP, q1, r1]
    · simp [Thk.someC, Thk.someS, Thk.someT, Thk.someP, loopT, Thk.Term.piece, Thk.Term.behind] at q2 r2 ⊢
      exact ⟨q2, r2⟩
    · intro b hb
      simp [Thk.firstC, Thk.firstS, Thk.firstT, Thk.firstP] at hb
      rcases hb with hb | hb
      · exact q3 b hb
      · exact r3 b hb

theorem Gx_and {b x b' y : List UInt8} {e e' : Bool} {d1 d2 : Nat} (hb : b ∈ blanksK) (hb' : b' ∈ blanksK) (hx : Gx x e d1) (hy : Gx y e' d2) : Gx (brk b x ++ [32] ++ brk b' y) (e && e') (max (d1 + 1) (d2 + 1)) := by
  obtain ⟨c, h1, h2, h3⟩ := hx
  obtain ⟨c', h1', h2', h3'⟩ := hy
  refine ⟨_, Px_and hb hb' h1 h1', ?_, ?_⟩
  · simp [Thk.someC, Thk.someS, Thk.someT, Thk.someP, unkT, Thk.Term.piece] at h2 h2' ⊢
    exact ⟨h2, h2'⟩
  · intro E hE hF
    obtain ⟨q1, q2, q3⟩ := h3 E hE hF
    obtain ⟨r1, r2, r3⟩ := h3' E hE hF
    refine ⟨?_, ?_, ?_⟩
    · simp [Thk.emptyC, Thk.emptyS, Thk.emptyT, Thk.emptyP, q1, r1]
    · simp [Thk.someC, Thk.someS, Thk.someT, Thk.someP, loopT, Thk.Term.piece, Thk.Term.behind] at q2 r2 ⊢
      exact ⟨q2, r2⟩
    · intro b hb
      simp [Thk.firstC, Thk.firstS, Thk.firstT, Thk.firstP] at hb
      rcases hb with hb | ⟨_, hb⟩
      · exact q3 b hb
      · exact r3 b hb

theorem Gx_one {x : List UInt8} {e e1 : Bool} {d1 d2 : Nat} {a k : UInt8} {c : Thk.Choice} (hP : Px x d2 [[.mk a (.group c) k]]) (h2 : Thk.someC (unkT names3) c = false)
    (h3 : ∀ E : List UInt8 → Bool, E nmNum = false → E nmWord = false → Thk.emptyC E c = e ∧ Thk.someC (loopT E) c = false ∧ ∀ b ∈ Thk.firstC E c, b = nmNum ∨ b = nmWord)
    (hl : e = true → k ≠ 42 ∧ k ≠ 43) (he : ((a != 0 || k == 63 || k == 42) || e) = e1) : Gx x e1 d2 := by
  refine ⟨_, hP, ?_, ?_⟩
  · simp [Thk.someC, Thk.someS, Thk.someT, Thk.someP, unkT, Thk.Term.piece] at h2 ⊢
    exact h2
  · intro E hE hF
    obtain ⟨q1, q2, q3⟩ := h3 E hE hF
    refine ⟨?_, ?_, ?_⟩
    · simp [Thk.emptyC, Thk.emptyS, Thk.emptyT, Thk.emptyP, q1] at he ⊢; exact he
    · simp only [Thk.someC, Thk.someS, Thk.someT, Thk.someP, Bool.or_false, q2]
      simp only [loopT, Thk.Term.piece, Thk.Term.behind, Thk.emptyP, q1]
      cases e with
      | false => simp
      | true => obtain ⟨g1, g2⟩ := hl rfl; simp [g1, g2]
    · intro b hb
      simp [Thk.firstC, Thk.firstS, Thk.firstT, Thk.firstP] at hb
      exact q3 b hb

theorem Gx_behind {b x : List UInt8} {e : Bool} {d1 : Nat} (k : UInt8) (hk : k = 63 ∨ k = 42 ∨ k = 43) (hb : b ∈ blanksK) (hx : Gx x e d1) (hl : e = true → k = 63) : Gx (brk b x ++ [k]) (k != 43) (d1 + 1) := by
  obtain ⟨c, h1, h2, h3⟩ := hx
  refine Gx_one (d1 := d1) (Px_behind k hk hb h1) h2 h3 ?_ ?_
  · intro h; rw [hl h]; decide
  · rcases hk with rfl | rfl | rfl
    · simp
    · simp
    · cases e with
      | false => simp
      | true => exact absurd (hl rfl) (by decide)

theorem Gx_ahead {b x : List UInt8} {e : Bool} {d1 : Nat} (k : UInt8) (hk : k = 38 ∨ k = 33) (hb : b ∈ blanksK) (hx : Gx x e d1) : Gx (k :: brk b x) true (d1 + 1) := by
  obtain ⟨c, h1, h2, h3⟩ := hx
  refine Gx_one (d1 := d1) (Px_ahead k hk hb h1) h2 h3 ?_ ?_
  · intro _; decide
  · rcases hk with rfl | rfl <;> simp

end Go.Proofs.YtjmcdklhaieldaaGreatDoor
namespace Go.Proofs.YtjmcdklhaieldaaGreatDoor

theorem PAll.err {l : List UInt8} {res : Except (Nat × Nat) (List Thk.Rule × List Bool)} {x : Nat × Nat} (h : PAll l res) (hl : l.length ≤ 2000) (hg : Thk.PGram 0 (Thk.toks l) (.error x)) : res = .error x := by
  cases h with
  | text h =>
    cases h with
    | long h => omega
    | read _ h => have := hg.det h; cases this; rfl
  | rules h _ =>
    cases h with
    | read _ h => have := hg.det h; cases this
  | ok h _ =>
    cases h with
    | read _ h => have := hg.det h; cases this

theorem PAll.fine {l : List UInt8} {res : Except (Nat × Nat) (List Thk.Rule × List Bool)} {g : List Thk.Rule} (h : PAll l res) (hl : l.length ≤ 2000) (hg : Thk.PGram 0 (Thk.toks l) (.ok g)) (hn : ∀ x, ¬ PLook g (.error x)) : ∃ y, res = .ok y := by
  cases h with
  | text h =>
    cases h with
    | long h => omega
    | read _ h => have := hg.det h; cases this
  | rules h h' =>
    cases h with
    | read _ h => have := hg.det h; cases this; exact absurd h' (hn _)
  | ok h _ => exact ⟨_, rfl⟩

abbrev hdB : List UInt8 := [115, 32, 60, 45, 32]

theorem TL_head (rest : List UInt8) : TL 0 (hdB ++ rest) = ⟨.name, 0, 1, nmS, []⟩ :: ⟨.arrow, 2, 2, [], []⟩ :: TL 5 rest := by
  have h1 := TL_tok [115] ([32, 60, 45, 32] ++ rest) 0 ⟨.name, 0, 1, nmS, []⟩ (by simp [Thk.blk, Thk.isBlank]) (by simp [Thk.tokL, Thk.isLet, Thk.nameT, Thk.letN]) rfl rfl
  have h2 := TL_blank 32 ([60, 45, 32] ++ rest) 1 (by decide)
  have h3 := TL_tok [60, 45] (32 :: rest) 2 ⟨.arrow, 0, 2, [], []⟩ (by simp [Thk.blk, Thk.isBlank]) (by simp [Thk.tokL, Thk.isLet]) rfl rfl
  have h4 := TL_blank 32 rest 4 (by decide)
  simp only [List.cons_append, List.nil_append, List.length_cons, List.length_nil] at h1 h2 h3 h4 ⊢
  rw [h1, h2, h3, h4]

theorem gram_err {rest : List UInt8} {e p : Nat} (h : Thk.PChoice 0 (TL 5 rest) (.err e p)) : Thk.PGram 0 (Thk.toks (hdB ++ rest)) (.error (e, p)) := by
  rw [toks_TL, TL_head]
  exact .err (.err rfl rfl (by decide) h)

/-- The end of the brackets is missed. -/
theorem ends_a {x : List UInt8} {dep : Nat} {c : Thk.Choice} (hx : Px x dep c) (hd : dep ≤ 4) : Thk.PGram 0 (Thk.toks (hdB ++ (40 :: brk [] x))) (.error (2, x.length + 8)) := by
  apply gram_err
  have hfin := TL_nil (6 + (brk [] x).length)
  obtain ⟨h1, h2⟩ := brk_term (b := []) (by simp [blanksK]) hx 1 6 [] (by omega) (by rw [hfin]; rfl)
  rw [List.append_nil] at h1 h2
  have h3 : Thk.PChoice 1 (TL 6 (brk [] x)) (.ok [[.mk 0 (.group c) 0]] (TL (6 + (brk [] x).length) [])) := .last (.cons h1 h2 (.nil (by rw [hfin]; rfl))) (by rw [hfin]; simp [Thk.hd])
  have h4 := Thk.PPiece.unclosed (d := 0) (ts := ⟨.sign 40, 5, 1, [], []⟩ :: TL 6 (brk [] x)) rfl (by decide) h3 (by rw [hfin]; simp [Thk.hd])
  rw [hfin] at h4
  have e : (Thk.hd [(⟨.fin, 6 + (brk [] x).length, 0, [], []⟩ : Thk.Tok)]).place = x.length + 8 := by rw [brk_len]; simp [Thk.hd]; omega
  rw [e] at h4
  rw [TL_sign 40 _ _ (by decide)]
  exact .err (.err rfl (.err h4))

theorem choice_brk {x : List UInt8} {dep : Nat} {c : Thk.Choice} (hx : Px x dep c) (hd : dep ≤ 4) {tail : List UInt8} (hs : Stop 0 (5 + (brk [] x).length) tail) : Thk.PChoice 0 (TL 5 (brk [] x ++ tail)) (.ok [[.mk 0 (.group c) 0]] (TL (5 + (brk [] x).length) tail)) := by
  obtain ⟨h1, h2⟩ := brk_term (b := []) (by simp [blanksK]) hx 0 5 tail (by omega) hs.behind
  exact .last (.cons h1 h2 (.nil hs.none)) hs.slash

/-- A bracket too many. -/
theorem ends_b {x : List UInt8} {dep : Nat} {c : Thk.Choice} (hx : Px x dep c) (hd : dep ≤ 4) : Thk.PGram 0 (Thk.toks (hdB ++ (brk [] x ++ [32, 41]))) (.error (2, x.length + 8)) := by
  have h1 := choice_brk hx hd (tail := [32, 41]) (stop_close 0 _ [32] [] (by simp [blanksK]))
  have hr : TL (5 + (brk [] x).length) [32, 41] = [⟨.sign 41, x.length + 8, 1, [], []⟩, ⟨.fin, x.length + 9, 0, [], []⟩] := by
    rw [TL_blank 32 _ _ (by decide), TL_sign 41 _ _ (by decide), TL_nil, brk_len]; simp; omega
  rw [toks_TL, TL_head]
  rw [hr] at h1
  refine .later (.ok rfl rfl (by decide) h1) (by simp [Thk.hd]) ?_
  exact .err (.noName (by simp [Thk.hd]))

/-- A sign too many. -/
theorem ends_c {x : List UInt8} {dep : Nat} {c : Thk.Choice} (hx : Px x dep c) (hd : dep ≤ 4) (p q : UInt8) (hp : p = 38 ∨ p = 33) (hq : q = 42 ∨ q = 63 ∨ q = 43 ∨ q = 47 ∨ q = 38) : Thk.PGram 0 (Thk.toks (hdB ++ (brk [] x ++ [32, p, q]))) (.error (2, x.length + 9)) := by
  apply gram_err
  have hr : TL (5 + (brk [] x).length) [32, p, q] = [⟨.sign p, x.length + 8, 1, [], []⟩, ⟨.sign q, x.length + 9, 1, [], []⟩, ⟨.fin, x.length + 10, 0, [], []⟩] := by
    rw [TL_blank 32 _ _ (by decide), TL_sign p _ _ (by rcases hp with rfl | rfl <;> decide), TL_sign q _ _ (by rcases hq with rfl | rfl | rfl | rfl | rfl <;> decide), TL_nil, brk_len]; simp; omega
  obtain ⟨h1, h2⟩ := brk_term (b := []) (by simp [blanksK]) hx 0 5 [32, p, q] (by omega) (by rw [hr]; rcases hp with rfl | rfl <;> rfl)
  rw [hr] at h2
  refine .err (.later h1 h2 (.err ?_ (.err ?_)))
  · rcases hp with rfl | rfl <;> rfl
  · have e : (Thk.aheadOf [(⟨.sign p, x.length + 8, 1, [], []⟩ : Thk.Tok), ⟨.sign q, x.length + 9, 1, [], []⟩, ⟨.fin, x.length + 10, 0, [], []⟩]).2 = [⟨.sign q, x.length + 9, 1, [], []⟩, ⟨.fin, x.length + 10, 0, [], []⟩] := by
      rcases hp with rfl | rfl <;> rfl
    rw [e]
    refine .bad (ts := [⟨.sign q, x.length + 9, 1, [], []⟩, ⟨.fin, x.length + 10, 0, [], []⟩]) ?_ ?_
    · rcases hq with rfl | rfl | rfl | rfl | rfl <;> rfl
    · rcases hq with rfl | rfl | rfl | rfl | rfl <;> simp [Thk.hd]

abbrev rulesB : List UInt8 := [32, 110, 117, 109, 32, 60, 45, 32, 91, 48, 45, 57, 93, 32, 110, 117, 109, 63, 32, 119, 111, 114, 100, 32, 60, 45, 32, 39, 97, 39, 32, 119, 111, 114, 100, 32, 39, 98, 39, 32, 47, 32, 39, 99, 39, 32, 39, 97, 39, 63]

def rulesT (pos : Nat) : List Thk.Tok := [⟨.name, pos + 1, 3, nmNum, []⟩, ⟨.arrow, pos + 5, 2, [], []⟩, ⟨.cls, pos + 8, 5, [], [(48, 57)]⟩, ⟨.name, pos + 14, 3, nmNum, []⟩, ⟨.sign 63, pos + 17, 1, [], []⟩,
  ⟨.name, pos + 19, 4, nmWord, []⟩, ⟨.arrow, pos + 24, 2, [], []⟩, ⟨.lit, pos + 27, 3, [97], []⟩, ⟨.name, pos + 31, 4, nmWord, []⟩, ⟨.lit, pos + 36, 3, [98], []⟩, ⟨.sign 47, pos + 40, 1, [], []⟩, ⟨.lit, pos + 42, 3, [99], []⟩, ⟨.lit, pos + 46, 3, [97], []⟩, ⟨.sign 63, pos + 49, 1, [], []⟩, ⟨.fin, pos + 50, 0, [], []⟩]

set_option maxRecDepth 100000 in
theorem TL_rules (pos : Nat) : TL pos rulesB = rulesT pos := by rfl

theorem stop_rules (pos : Nat) : Stop 0 pos rulesB := by
  refine ⟨by decide, ?_, ?_, ?_, ?_, ?_, ?_⟩ <;> simp [TL_rules, rulesT, Thk.begins, Thk.hd, Thk.TK.isArrow]

theorem term_plain {d : Nat} {t : Thk.Tok} {ts : List Thk.Tok} {p : Thk.Piece} (hp : Thk.plainPiece t = some p) (ha : Thk.aheadOf (t :: ts) = (0, t :: ts)) (hb : Thk.behindOf ts = (0, ts)) : Thk.PTerm d (t :: ts) (.ok (.mk 0 p 0) ts) := by
  have h := Thk.PTerm.ok (d := d) (ts := t :: ts) (p := p) (rest := ts) (by rw [ha]; exact .plain hp)
  rw [ha, hb] at h; exact h

theorem term_opt {d : Nat} {t : Thk.Tok} {pl : Nat} {ts : List Thk.Tok} {p : Thk.Piece} (hp : Thk.plainPiece t = some p) (ha : ∀ ts, Thk.aheadOf (t :: ts) = (0, t :: ts)) : Thk.PTerm d (t :: ⟨.sign 63, pl, 1, [], []⟩ :: ts) (.ok (.mk 0 p 63) ts) := by
  have h := Thk.PTerm.ok (d := d) (ts := t :: ⟨.sign 63, pl, 1, [], []⟩ :: ts) (p := p) (rest := ⟨.sign 63, pl, 1, [], []⟩ :: ts) (by rw [ha]; exact .plain hp)
  rw [ha] at h; exact h

abbrev numR : Thk.Rule := ⟨nmNum, [[.mk 0 (.cls [(48, 57)]) 0, .mk 0 (.name nmNum) 63]]⟩
abbrev wordR : Thk.Rule := ⟨nmWord, [[.mk 0 (.lit [97]) 0, .mk 0 (.name nmWord) 0, .mk 0 (.lit [98]) 0], [.mk 0 (.lit [99]) 0, .mk 0 (.lit [97]) 63]]⟩

theorem rules_read (pos : Nat) : Thk.PGram 1 (rulesT pos) (.ok [numR, wordR]) := by
  unfold rulesT
  refine .more (.ok rfl rfl (by decide) (.last (.cons rfl (term_plain rfl rfl rfl) (.cons rfl (term_opt rfl (fun _ => rfl)) (.nil rfl))) (by simp [Thk.hd]))) (by simp [Thk.hd]) (.last (.ok rfl rfl (by decide) (.more (.cons rfl (term_plain rfl rfl rfl) (.cons rfl (term_plain rfl rfl rfl) (.cons rfl (term_plain rfl rfl rfl) (.nil rfl)))) rfl (.last (.cons rfl (term_plain rfl rfl rfl) (.cons rfl (term_opt rfl (fun _ => rfl)) (.nil rfl))) (by simp [Thk.hd])))) rfl)

abbrev g3 (c : Thk.Choice) : List Thk.Rule := [⟨nmS, [[.mk 0 (.group c) 0]]⟩, numR, wordR]

theorem ends_d {x : List UInt8} {dep : Nat} {c : Thk.Choice} (hx : Px x dep c) (hd : dep ≤ 4) : Thk.PGram 0 (Thk.toks (hdB ++ (brk [] x ++ rulesB))) (.ok (g3 c)) := by
  rw [toks_TL, TL_head]
  have h1 := choice_brk hx hd (stop_rules _)
  rw [TL_rules] at h1
  exact .more (.ok rfl rfl (by decide) h1) (by simp [rulesT, Thk.hd]) (rules_read _)

theorem lt3 {i : Nat} (h : i < 3) : i = 0 ∨ i = 1 ∨ i = 2 := by omega

theorem Wm3 (M : Mat) (h1 : ∀ j, M 1 j = false) (h2 : ∀ j, M 2 j = false) (h0 : ∀ i, M i 0 = false) (i : Nat) (hi : i < 3) : Wm M 3 i i = false := by
  rcases lt3 hi with rfl | rfl | rfl <;> simp [Wm, h1, h2, h0]

theorem mark_none (names : List Thk.Bytes) (l : List Thk.Bytes) : ∀ (B : List Bool) (j : Nat), (∀ b ∈ l, idx0 names b ≠ j) → (markL names B l).getD j false = B.getD j false := by
  induction l with
  | nil => intro B j _; rfl
  | cons b l ih =>
    intro B j h
    show (markL names (B.set (idx0 names b) true) l).getD j false = _
    rw [ih _ _ (fun x hx => h x (List.mem_cons_of_mem _ hx))]
    have := h b (List.mem_cons_self ..)
    simp [List.getD_eq_getElem?_getD, List.getElem?_set, this]

theorem rep3 (j : Nat) : (List.replicate names3.length false).getD j false = false :=
  match j with
  | 0 => rfl
  | 1 => rfl
  | 2 => rfl
  | _ + 3 => rfl

theorem look_fine {c : Thk.Choice} {e : Bool} (hu : Thk.someC (unkT names3) c = false)
    (h3 : ∀ E : List UInt8 → Bool, E nmNum = false → E nmWord = false → Thk.emptyC E c = e ∧ Thk.someC (loopT E) c = false ∧ ∀ b ∈ Thk.firstC E c, b = nmNum ∨ b = nmWord) (x : Nat × Nat) : ¬ PLook (g3 c) (.error x) := by
  have hn : namesOf (g3 c) = names3 := rfl
  have hE0 : ∀ E, Least names3 (g3 c) E → Eb names3 E nmNum = false ∧ Eb names3 E nmWord = false := by
    intro E hE
    have hc : Closed names3 (g3 c) [e, false, false] := by
      intro i hi
      rcases lt3 hi with rfl | rfl | rfl
      · intro h
        have := (h3 (Eb names3 [e, false, false]) rfl rfl).1
        simp [Thk.emptyC, Thk.emptyS, Thk.emptyT, Thk.emptyP, this] at h
        simp [h]
      · intro h; simp [Thk.emptyC, Thk.emptyS, Thk.emptyT, Thk.emptyP] at h
      · intro h; simp [Thk.emptyC, Thk.emptyS, Thk.emptyT, Thk.emptyP] at h
    constructor
    · have := hE _ hc 1
      show E.getD 1 false = false
      cases h : E.getD 1 false with
      | false => rfl
      | true => exact absurd (this h) (by simp)
    · have := hE _ hc 2
      show E.getD 2 false = false
      cases h : E.getD 2 false with
      | false => rfl
      | true => exact absurd (this h) (by simp)
  intro h
  cases h with
  | twice h =>
    obtain ⟨h1, h2, _⟩ := h
    rcases lt3 h1 with rfl | rfl | rfl <;> exact absurd h2 (by rw [hn]; decide)
  | unknown _ h =>
    obtain ⟨h1, h2, _⟩ := h
    rw [hn] at h2
    rcases lt3 h1 with rfl | rfl | rfl
    · simp [Thk.someC, Thk.someS, Thk.someT, Thk.someP, unkT, Thk.Term.piece] at h2 hu
      rw [hu] at h2; cases h2
    · simp [Thk.someC, Thk.someS, Thk.someT, Thk.someP, unkT, Thk.Term.piece] at h2
    · simp [Thk.someC, Thk.someS, Thk.someT, Thk.someP, unkT, Thk.Term.piece] at h2
  | loop _ _ _ _ hl h =>
    rw [hn] at hl h
    obtain ⟨h1, h2, _⟩ := h
    obtain ⟨q1, q2⟩ := hE0 _ hl
    obtain ⟨_, q3, _⟩ := h3 _ q1 q2
    rcases lt3 h1 with rfl | rfl | rfl
    · simp only [List.getElem_cons_zero, Thk.someC, Thk.someS, Thk.someT, Thk.someP, q3] at h2
      simp [loopT, Thk.Term.piece, Thk.Term.behind] at h2
    · simp [Thk.someC, Thk.someS, Thk.someT, Thk.someP, loopT, Thk.Term.piece, Thk.Term.behind] at h2
    · simp [Thk.someC, Thk.someS, Thk.someT, Thk.someP, loopT, Thk.Term.piece, Thk.Term.behind] at h2
  | left a1 a2 a3 a4 hl a6 h =>
    rename_i E i
    rw [hn] at hl h
    obtain ⟨h1, h2, _⟩ := h
    obtain ⟨q1, q2⟩ := hE0 _ hl
    obtain ⟨_, _, q3⟩ := h3 _ q1 q2
    have r1 : ∀ j, dirM names3 E (g3 c) 1 j = false := by
      intro j
      show (markL names3 _ (Thk.firstC (Eb names3 E) numR.choice)).getD j false = false
      rw [mark_none _ _ _ _ (by simp [Thk.firstC, Thk.firstS, Thk.firstT, Thk.firstP, Thk.emptyT, Thk.emptyP])]
      exact rep3 j
    have r2 : ∀ j, dirM names3 E (g3 c) 2 j = false := by
      intro j
      show (markL names3 _ (Thk.firstC (Eb names3 E) wordR.choice)).getD j false = false
      rw [mark_none _ _ _ _ (by simp [Thk.firstC, Thk.firstS, Thk.firstT, Thk.firstP, Thk.emptyT, Thk.emptyP])]
      exact rep3 j
    have r0 : ∀ i, dirM names3 E (g3 c) i 0 = false := by
      intro i
      match i with
      | 1 => exact r1 0
      | 2 => exact r2 0
      | 0 =>
        show (markL names3 _ (Thk.firstC (Eb names3 E) [[.mk 0 (.group c) 0]])).getD 0 false = false
        rw [mark_none]
        · rfl
        · intro b hb
          simp [Thk.firstC, Thk.firstS, Thk.firstT, Thk.firstP] at hb
          rcases q3 b hb with rfl | rfl <;> decide
      | n + 3 => rfl
    have := Wm3 _ r1 r2 r0 i h1
    rw [show (g3 c).length = 3 from rfl] at h2
    rw [this] at h2; cases h2

/-- What Check tells of the four texts. -/
theorem Gx_a {x : List UInt8} {e : Bool} {dep : Nat} (hx : Gx x e dep) (hd : dep ≤ 4) (hl : x.length ≤ 1000) {res : Except (Nat × Nat) (List Thk.Rule × List Bool)} (h : PAll (hdB ++ (40 :: brk [] x)) res) : res = .error (2, x.length + 8) := by
  obtain ⟨c, hc, _⟩ := hx
  exact h.err (by simp [brk_len]; omega) (ends_a hc hd)
theorem Gx_b {x : List UInt8} {e : Bool} {dep : Nat} (hx : Gx x e dep) (hd : dep ≤ 4) (hl : x.length ≤ 1000) {res : Except (Nat × Nat) (List Thk.Rule × List Bool)} (h : PAll (hdB ++ (brk [] x ++ [32, 41])) res) : res = .error (2, x.length + 8) := by
  obtain ⟨c, hc, _⟩ := hx
  exact h.err (by simp [brk_len]; omega) (ends_b hc hd)
theorem Gx_c {x : List UInt8} {e : Bool} {dep : Nat} (hx : Gx x e dep) (hd : dep ≤ 4) (hl : x.length ≤ 1000) {p q : UInt8} (hp : p = 38 ∨ p = 33) (hq : q = 42 ∨ q = 63 ∨ q = 43 ∨ q = 47 ∨ q = 38) {res : Except (Nat × Nat) (List Thk.Rule × List Bool)} (h : PAll (hdB ++ (brk [] x ++ [32, p, q])) res) : res = .error (2, x.length + 9) := by
  obtain ⟨c, hc, _⟩ := hx
  exact h.err (by simp [brk_len]; omega) (ends_c hc hd p q hp hq)
theorem Gx_d {x : List UInt8} {e : Bool} {dep : Nat} (hx : Gx x e dep) (hd : dep ≤ 4) (hl : x.length ≤ 1000) {res : Except (Nat × Nat) (List Thk.Rule × List Bool)} (h : PAll (hdB ++ (brk [] x ++ rulesB)) res) : ∃ y, res = .ok y := by
  obtain ⟨c, hc, hu, h3⟩ := hx
  exact h.fine (by simp [brk_len]; omega) (ends_d hc hd) (look_fine hu h3)

end Go.Proofs.YtjmcdklhaieldaaGreatDoor
