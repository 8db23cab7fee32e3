import Derived.Test.YtiganlkabilblaaGreatDoorProg
import Derived.WalkKit
import Derived.WalkLawsBesides
import Derived.WalkSpells
import Derived.Lib.Bytealg
import Derived.Maps.AppendAt
import Derived.Deep.QuietTactic
import Derived.BigQuiet
import Derived.RegionTactic
import Derived.BigRegion
import Derived.Deep.RegionWith
import Derived.Defers
set_option linter.all false
namespace Thk
abbrev Bytes := List UInt8
def isLet (c : UInt8) : Bool := 97 ≤ c && c ≤ 122
def isBlank (c : UInt8) : Bool := c == 32 || c == 9 || c == 10 || c == 13
/-- How many bytes there are up to the line's end. -/
def lineN : Bytes → Nat
  | [] => 0
  | c :: t => if c = 10 then 0 else lineN t + 1
/-- How many bytes of blanks (comments too) there are; the flag: within a comment? -/
def blk : Bool → Bytes → Nat
  | _, [] => 0
  | true, c :: t => if c = 10 then blk false t + 1 else blk true t + 1
  | false, c :: t => if isBlank c then blk false t + 1 else if c = 35 then blk true t + 1 else 0
def letN : Bytes → Nat
  | [] => 0
  | c :: t => if isLet c then letN t + 1 else 0
def escL (m : Bytes) : Bytes → Option (UInt8 × Nat)
  | [] => none
  | d :: _ => if d = 110 then some (10, 2) else if d = 116 then some (9, 2) else if d = 92 || m.contains d then some (d, 2) else none
def charL (m : Bytes) : Bytes → Option (UInt8 × Nat)
  | [] => none
  | c :: t => if c = 92 then escL m t else if c = 10 || m.contains c then none else some (c, 1)
def charsF (m : Bytes) : Nat → Bytes → Bytes × Nat
  | 0, _ => ([], 0)
  | f + 1, l => match charL m l with
    | none => ([], 0)
    | some (c, n) => (c :: (charsF m f (l.drop n)).1, n + (charsF m f (l.drop n)).2)
def charsL (m : Bytes) (l : Bytes) : Bytes × Nat := charsF m l.length l
abbrev Span := UInt8 × UInt8
def spanL (l : Bytes) : Option (Span × Nat) :=
  match charL [93, 45] l with
  | none => none
  | some (lo, n) =>
    if l[n]? = some 45 then
      match charL [93, 45] (l.drop (n + 1)) with
      | none => none
      | some (hi, k) => if lo ≤ hi then some ((lo, hi), n + 1 + k) else none
    else some ((lo, lo), n)
def spansF : Nat → Bytes → List Span × Nat
  | 0, _ => ([], 0)
  | f + 1, l => match spanL l with
    | none => ([], 0)
    | some (c, n) => (c :: (spansF f (l.drop n)).1, n + (spansF f (l.drop n)).2)
def spansL (l : Bytes) : List Span × Nat := spansF l.length l
inductive TK where
  | fin | bad | name | arrow | lit | cls | sign (c : UInt8)
structure Tok where
  kind : TK
  place : Nat
  size : Nat
  text : Bytes
  spans : List Span
def signB (c : UInt8) : Bool := [47, 38, 33, 63, 42, 43, 40, 41, 46].contains c
def badT : Tok := ⟨.bad, 0, 0, [], []⟩
def closesL (l : Bytes) (n : Nat) (mark : UInt8) (items : Nat) : Bool := l[n]? == some mark && decide (1 ≤ items) && decide (items ≤ 20)
def nameT (l : Bytes) : Tok := if 12 < letN l then badT else ⟨.name, 0, letN l, l.take (letN l), []⟩
def litT (t : Bytes) : Tok :=
  if closesL t (charsL [39] t).2 39 (charsL [39] t).1.length then ⟨.lit, 0, (charsL [39] t).2 + 2, (charsL [39] t).1, []⟩ else badT
def clsT (t : Bytes) : Tok :=
  if closesL t (spansL t).2 93 (spansL t).1.length then ⟨.cls, 0, (spansL t).2 + 2, [], (spansL t).1⟩ else badT
/-- The token at the beginning (no blanks ahead). -/
def tokL : Bytes → Tok
  | [] => ⟨.fin, 0, 0, [], []⟩
  | c :: t =>
    if isLet c then nameT (c :: t)
    else if c = 60 ∧ t.head? = some 45 then ⟨.arrow, 0, 2, [], []⟩
    else if c = 39 then litT t
    else if c = 91 then clsT t
    else if signB c then ⟨.sign c, 0, 1, [], []⟩
    else badT
def TK.isArrow : TK → Bool
  | .arrow => true
  | _ => false
def TK.last : TK → Bool
  | .fin => true
  | .bad => true
  | _ => false
def toksF : Nat → Nat → Bytes → List Tok
  | 0, _, _ => []
  | f + 1, pos, l =>
    { tokL (l.drop (blk false l)) with place := pos + blk false l } ::
      (if (tokL (l.drop (blk false l))).kind.last then []
       else toksF f (pos + blk false l + (tokL (l.drop (blk false l))).size) ((l.drop (blk false l)).drop (tokL (l.drop (blk false l))).size))
def toks (l : Bytes) : List Tok := toksF (l.length + 1) 0 l
mutual
inductive Piece where
  | name (b : Bytes)
  | lit (b : Bytes)
  | cls (l : List Span)
  | any
  | group (c : List (List Term))
inductive Term where
  | mk (ahead : UInt8) (p : Piece) (behind : UInt8)
 end
abbrev Seq := List Term
abbrev Choice := List Seq
inductive Res (α : Type) where
  | ok (a : α) (rest : List Tok)
  | err (e p : Nat)
def Res.map {α β : Type} (f : α → β) : Res α → Res β
  | .ok a rest => .ok (f a) rest
  | .err e p => .err e p
def hd (ts : List Tok) : Tok := ts.headD badT
/-- Does a term begin here, within so many brackets? -/
def begins (d : Nat) (ts : List Tok) : Bool :=
  match (hd ts).kind with
  | .name => !(d == 0 && (hd ts.tail).kind.isArrow)
  | .lit => true
  | .cls => true
  | .sign c => c == 38 || c == 33 || c == 46 || c == 40
  | _ => false
def aheadOf (ts : List Tok) : UInt8 × List Tok :=
  match (hd ts).kind with
  | .sign c => if c = 38 ∨ c = 33 then (c, ts.tail) else (0, ts)
  | _ => (0, ts)
def behindOf (ts : List Tok) : UInt8 × List Tok :=
  match (hd ts).kind with
  | .sign c => if c = 63 ∨ c = 42 ∨ c = 43 then (c, ts.tail) else (0, ts)
  | _ => (0, ts)
/-- A piece that is no group. -/
def plainPiece (t : Tok) : Option Piece :=
  match t.kind with
  | .name => some (.name t.text)
  | .lit => some (.lit t.text)
  | .cls => some (.cls t.spans)
  | .sign c => if c = 46 then some .any else none
  | _ => none
mutual
inductive PPiece : Nat → List Tok → Res Piece → Prop
  | plain {d ts p} : plainPiece (hd ts) = some p → PPiece d ts (.ok p ts.tail)
  | bad {d ts} : plainPiece (hd ts) = none → (hd ts).kind ≠ .sign 40 → PPiece d ts (.err 2 (hd ts).place)
  | deep {ts} : (hd ts).kind = .sign 40 → PPiece 6 ts (.err 3 (hd ts).place)
  | group {d ts c rest} : (hd ts).kind = .sign 40 → d ≠ 6 → PChoice (d + 1) ts.tail (.ok c rest) → (hd rest).kind = .sign 41 → PPiece d ts (.ok (.group c) rest.tail)
  | unclosed {d ts c rest} : (hd ts).kind = .sign 40 → d ≠ 6 → PChoice (d + 1) ts.tail (.ok c rest) → (hd rest).kind ≠ .sign 41 → PPiece d ts (.err 2 (hd rest).place)
  | inner {d ts e p} : (hd ts).kind = .sign 40 → d ≠ 6 → PChoice (d + 1) ts.tail (.err e p) → PPiece d ts (.err e p)
inductive PTerm : Nat → List Tok → Res Term → Prop
  | ok {d ts p rest} : PPiece d (aheadOf ts).2 (.ok p rest) → PTerm d ts (.ok (.mk (aheadOf ts).1 p (behindOf rest).1) (behindOf rest).2)
  | err {d ts e p} : PPiece d (aheadOf ts).2 (.err e p) → PTerm d ts (.err e p)
inductive PSeq : Nat → List Tok → Res Seq → Prop
  | nil {d ts} : begins d ts = false → PSeq d ts (.ok [] ts)
  | cons {d ts t rest s rest'} : begins d ts = true → PTerm d ts (.ok t rest) → PSeq d rest (.ok s rest') → PSeq d ts (.ok (t :: s) rest')
  | err {d ts e p} : begins d ts = true → PTerm d ts (.err e p) → PSeq d ts (.err e p)
  | later {d ts t rest e p} : begins d ts = true → PTerm d ts (.ok t rest) → PSeq d rest (.err e p) → PSeq d ts (.err e p)
inductive PChoice : Nat → List Tok → Res Choice → Prop
  | last {d ts s rest} : PSeq d ts (.ok s rest) → (hd rest).kind ≠ .sign 47 → PChoice d ts (.ok [s] rest)
  | more {d ts s rest c rest'} : PSeq d ts (.ok s rest) → (hd rest).kind = .sign 47 → PChoice d rest.tail (.ok c rest') → PChoice d ts (.ok (s :: c) rest')
  | err {d ts e p} : PSeq d ts (.err e p) → PChoice d ts (.err e p)
  | later {d ts s rest e p} : PSeq d ts (.ok s rest) → (hd rest).kind = .sign 47 → PChoice d rest.tail (.err e p) → PChoice d ts (.err e p)
 end
structure Rule where
  name : Bytes
  choice : Choice
inductive PRule : Nat → List Tok → Res Rule → Prop
  | noName {n ts} : (hd ts).kind ≠ .name → PRule n ts (.err 2 (hd ts).place)
  | many {ts} : (hd ts).kind = .name → (hd ts.tail).kind = .arrow → PRule 20 ts (.err 4 (hd ts.tail).place)
  | noArrow {n ts} : (hd ts).kind = .name → (hd ts.tail).kind ≠ .arrow → PRule n ts (.err 2 (hd ts.tail).place)
  | ok {n ts c rest} : (hd ts).kind = .name → (hd ts.tail).kind = .arrow → n ≠ 20 → PChoice 0 ts.tail.tail (.ok c rest) → PRule n ts (.ok ⟨(hd ts).text, c⟩ rest)
  | err {n ts e p} : (hd ts).kind = .name → (hd ts.tail).kind = .arrow → n ≠ 20 → PChoice 0 ts.tail.tail (.err e p) → PRule n ts (.err e p)
/-- The rules from number n on. -/
inductive PGram : Nat → List Tok → Except (Nat × Nat) (List Rule) → Prop
  | last {n ts r rest} : PRule n ts (.ok r rest) → (hd rest).kind = .fin → PGram n ts (.ok [r])
  | more {n ts r rest g} : PRule n ts (.ok r rest) → (hd rest).kind ≠ .fin → PGram (n + 1) rest (.ok g) → PGram n ts (.ok (r :: g))
  | err {n ts e p} : PRule n ts (.err e p) → PGram n ts (.error (e, p))
  | later {n ts r rest x} : PRule n ts (.ok r rest) → (hd rest).kind ≠ .fin → PGram (n + 1) rest (.error x) → PGram n ts (.error x)
end Thk
namespace Thk
def Term.ahead : Term → UInt8 | .mk a _ _ => a
def Term.piece : Term → Piece | .mk _ p _ => p
def Term.behind : Term → UInt8 | .mk _ _ b => b
mutual
def emptyP (E : Bytes → Bool) : Piece → Bool
  | .name b => E b
  | .group c => emptyC E c
  | _ => false
def emptyT (E : Bytes → Bool) : Term → Bool
  | .mk a p b => (a != 0 || b == 63 || b == 42) || emptyP E p
def emptyS (E : Bytes → Bool) : List Term → Bool
  | [] => true
  | t :: s => emptyT E t && emptyS E s
def emptyC (E : Bytes → Bool) : List (List Term) → Bool
  | [] => false
  | s :: c => emptyS E s || emptyC E c
 end
mutual
def someP (H : Term → Bool) : Piece → Bool
  | .group c => someC H c
  | _ => false
def someT (H : Term → Bool) : Term → Bool
  | .mk a p b => H (.mk a p b) || someP H p
def someS (H : Term → Bool) : List Term → Bool
  | [] => false
  | t :: s => someT H t || someS H s
def someC (H : Term → Bool) : List (List Term) → Bool
  | [] => false
  | s :: c => someS H s || someC H c
 end
mutual
/-- The names that come first, those that are known to be empty passed over. -/
def firstP (E : Bytes → Bool) : Piece → List Bytes
  | .name b => [b]
  | .group c => firstC E c
  | _ => []
def firstT (E : Bytes → Bool) : Term → List Bytes
  | .mk _ p _ => firstP E p
def firstS (E : Bytes → Bool) : List Term → List Bytes
  | [] => []
  | t :: s => firstT E t ++ (if emptyT E t then firstS E s else [])
def firstC (E : Bytes → Bool) : List (List Term) → List Bytes
  | [] => []
  | s :: c => firstS E s ++ firstC E c
 end
end Thk
namespace Thk
/-- An expression of the reference. -/
structure RE where
  kind : Nat
  items : List Span
  text : Bytes
  rule : Int
  parts : List Nat
/-- A choice that is being read. -/
structure OP where
  seqs : List Nat
  terms : List Nat
  sign : Bytes
structure ST where
  xs : List RE
  rs : List (Bytes × Nat)
  os : List OP
  sign : Bytes
  may : Bool
def sgnKind (b : Bytes) : Nat := if b = [63] then 7 else if b = [42] then 8 else if b = [43] then 9 else if b = [38] then 10 else 11
def wrapE (k e : Nat) : RE := ⟨k, [], [], 0, [e]⟩
def ST.add (S : ST) (e : RE) : ST := { S with xs := S.xs ++ [e] }
def ST.top (S : ST) : OP := S.os.getLastD ⟨[], [], []⟩
def ST.setTop (S : ST) (o : OP) : ST := { S with os := S.os.dropLast ++ [o] }
def ST.push (S : ST) (e : Nat) : ST := { S.setTop { S.top with terms := S.top.terms ++ [e] } with may := true }
def ST.term (S : ST) (e : Nat) (sign : Bytes) : ST := if sign = [] then S.push e else (S.add (wrapE (sgnKind sign) e)).push S.xs.length
def RE.z : RE := ⟨0, [], [], 0, []⟩
def ST.behind (S : ST) (sign : Bytes) : ST :=
  let k := S.top.terms.getLastD 0
  let x := S.xs.getD k RE.z
  if x.kind = 10 ∨ x.kind = 11 then
    { S with xs := (S.xs ++ [wrapE (sgnKind sign) (x.parts.headD 0)]).set k { x with parts := [S.xs.length] }, may := false }
  else { (S.add (wrapE (sgnKind sign) k)).setTop { S.top with terms := S.top.terms.dropLast ++ [S.xs.length] } with may := false }
def ST.slash (S : ST) : ST := (S.add ⟨5, [], [], 0, S.top.terms⟩).setTop ⟨S.top.seqs ++ [S.xs.length], [], S.top.sign⟩
def ST.closed (S : ST) : ST := ({ S.slash with os := S.os.dropLast } : ST).add ⟨6, [], [], 0, S.top.seqs ++ [S.xs.length]⟩
end Thk
namespace Thk
def exprOf (t : Tok) : RE :=
  match t.kind with
  | .name => ⟨4, [], t.text, 0, []⟩
  | .lit => ⟨1, t.text.map (fun c => (c, c)), [], 0, []⟩
  | .cls => ⟨2, t.spans, [], 0, []⟩
  | _ => ⟨3, [], [], 0, []⟩
def ST.rule (S : ST) : ST := if S.rs = [] then S else { S.closed with rs := S.rs.dropLast ++ [((S.rs.getLastD ([], 0)).1, S.xs.length + 1)] }
/-- A piece that is no group is laid. -/
def ST.lay (S : ST) (e : RE) : ST := (({ S with sign := [] } : ST).add e).term S.xs.length S.sign
def ST.signs (S : ST) (c : UInt8) : Except Nat ST :=
  if c = 47 then (if S.sign = [] then .ok { S.slash with may := false } else .error 2)
  else if c = 38 ∨ c = 33 then (if S.sign = [] then .ok { S with sign := [c], may := false } else .error 2)
  else if c = 63 ∨ c = 42 ∨ c = 43 then (if S.may = true then .ok (S.behind [c]) else .error 2)
  else if c = 40 then (if 6 < S.os.length then .error 3 else .ok { S with os := S.os ++ [⟨[], [], S.sign⟩], sign := [], may := false })
  else if c = 41 then (if S.sign = [] ∧ 2 ≤ S.os.length then .ok (S.closed.term (S.xs.length + 1) S.top.sign) else .error 2)
  else .ok (S.lay ⟨3, [], [], 0, []⟩)
def ST.begin (S : ST) (b : Bytes) : ST := { S.rule with rs := S.rule.rs ++ [(b, 0)], os := S.rule.os ++ [⟨[], [], []⟩], may := false }
/-- The reference's reading of tokens. -/
def run : List Tok → ST → Except (Nat × Nat) ST
  | [], _ => .error (0, 0)
  | t :: rest, S =>
    match t.kind with
    | .bad => .error (2, t.place)
    | .fin => if S.rs = [] ∨ S.sign ≠ [] ∨ 1 < S.os.length then .error (2, t.place) else .ok S.rule
    | .arrow => .error (2, t.place)
    | .sign c => if S.rs = [] then .error (2, t.place) else
      match S.signs c with
      | .error e => .error (e, t.place)
      | .ok S' => run rest S'
    | .lit => if S.rs = [] then .error (2, t.place) else run rest (S.lay (exprOf t))
    | .cls => if S.rs = [] then .error (2, t.place) else run rest (S.lay (exprOf t))
    | .name =>
      match rest with
      | [] => .error (0, 0)
      | m :: rest' =>
        if m.kind.isArrow then
          (if S.sign ≠ [] ∨ 1 < S.os.length then .error (2, m.place) else if 20 ≤ S.rs.length then .error (4, m.place) else run rest' (S.begin t.text))
        else if S.rs = [] then .error (2, m.place) else run (m :: rest') (S.lay (exprOf t))
theorem run_bad {t : Tok} {rest : List Tok} {S : ST} (h : t.kind = .bad) : run (t :: rest) S = .error (2, t.place) := by
  unfold run; simp only [h]
theorem run_fin {t : Tok} {rest : List Tok} {S : ST} (h : t.kind = .fin) : run (t :: rest) S = if S.rs = [] ∨ S.sign ≠ [] ∨ 1 < S.os.length then .error (2, t.place) else .ok S.rule := by
  unfold run; simp only [h]
theorem run_arrow {t : Tok} {rest : List Tok} {S : ST} (h : t.kind = .arrow) : run (t :: rest) S = .error (2, t.place) := by
  unfold run; simp only [h]
theorem run_sign {t : Tok} {rest : List Tok} {S : ST} {c : UInt8} (h : t.kind = .sign c) (hr : S.rs ≠ []) : run (t :: rest) S = match S.signs c with
      | .error e => .error (e, t.place)
      | .ok S' => run rest S' := by
  rw [run.eq_def]; simp only [h, if_neg hr]
theorem run_lit {t : Tok} {rest : List Tok} {S : ST} (h : t.kind = .lit) (hr : S.rs ≠ []) : run (t :: rest) S = run rest (S.lay (exprOf t)) := by
  rw [run.eq_def]; simp only [h, if_neg hr]
theorem run_cls {t : Tok} {rest : List Tok} {S : ST} (h : t.kind = .cls) (hr : S.rs ≠ []) : run (t :: rest) S = run rest (S.lay (exprOf t)) := by
  rw [run.eq_def]; simp only [h, if_neg hr]
theorem run_name {t m : Tok} {rest : List Tok} {S : ST} (h : t.kind = .name) (hr : S.rs ≠ []) (ha : m.kind.isArrow = false) : run (t :: m :: rest) S = run (m :: rest) (S.lay (exprOf t)) := by
  rw [run]; simp only [h, ha, if_neg hr, Bool.false_eq_true, if_false]
theorem run_begin {t m : Tok} {rest : List Tok} {S : ST} (h : t.kind = .name) (ha : m.kind.isArrow = true) : run (t :: m :: rest) S = if S.sign ≠ [] ∨ 1 < S.os.length then .error (2, m.place) else if 20 ≤ S.rs.length then .error (4, m.place) else run rest (S.begin t.text) := by
  rw [run]; simp only [h, ha, if_true]
/-- A row of tokens that ends with the one that is none. -/
def Wf : List Tok → Prop
  | [] => False
  | t :: r => (∀ c, t.kind = .sign c → signB c = true) ∧ if t.kind.last then r = [] else Wf r
theorem Wf.form {ts : List Tok} (h : Wf ts) : ∃ t r, ts = t :: r ∧ (∀ c, t.kind = .sign c → signB c = true) ∧ (t.kind.last = false → Wf r) := by
  cases ts with
  | nil => exact h.elim
  | cons t r => exact ⟨t, r, rfl, h.1, fun hl => by have := h.2; rw [if_neg (by simp [hl])] at this; exact this⟩
def behindTok (ts : List Tok) : Prop := (hd ts).kind = .sign 63 ∨ (hd ts).kind = .sign 42 ∨ (hd ts).kind = .sign 43
mutual
def DenP (xs : List RE) (k : Nat) : Piece → Prop
  | .name b => xs[k]? = some ⟨4, [], b, 0, []⟩
  | .lit b => xs[k]? = some ⟨1, b.map (fun c => (c, c)), [], 0, []⟩
  | .cls l => xs[k]? = some ⟨2, l, [], 0, []⟩
  | .any => xs[k]? = some ⟨3, [], [], 0, []⟩
  | .group c => ∃ qs, xs[k]? = some ⟨6, [], [], 0, qs⟩ ∧ DenC xs qs c
def DenT (xs : List RE) (k : Nat) : Term → Prop
  | .mk a p b => ∃ i j, (if a = 0 then k = i else xs[k]? = some (wrapE (sgnKind [a]) i)) ∧ (if b = 0 then i = j else xs[i]? = some (wrapE (sgnKind [b]) j)) ∧ DenP xs j p ∧ (b = 0 ∨ b = 63 ∨ b = 42 ∨ b = 43) ∧ (a = 0 ∨ a = 38 ∨ a = 33)
def DenS (xs : List RE) : List Nat → List Term → Prop
  | ks, [] => ks = []
  | ks, t :: s => ∃ k ks', ks = k :: ks' ∧ DenT xs k t ∧ DenS xs ks' s
def DenC (xs : List RE) : List Nat → List (List Term) → Prop
  | qs, [] => qs = []
  | qs, s :: c => ∃ q qs' ks, qs = q :: qs' ∧ xs[q]? = some ⟨5, [], [], 0, ks⟩ ∧ DenS xs ks s ∧ DenC xs qs' c
 end
theorem pre_get {xs ys : List RE} (h : xs <+: ys) {k : Nat} {e : RE} (hk : xs[k]? = some e) : ys[k]? = some e := by
  obtain ⟨zs, rfl⟩ := h
  rw [List.getElem?_append_left (List.getElem?_eq_some_iff.1 hk).1]; exact hk
mutual
theorem DenP.mono {xs ys : List RE} (h : xs <+: ys) {k : Nat} : ∀ p : Piece, DenP xs k p → DenP ys k p
  | .name b => by simp only [DenP]; exact pre_get h
  | .lit b => by simp only [DenP]; exact pre_get h
  | .cls l => by simp only [DenP]; exact pre_get h
  | .any => by simp only [DenP]; exact pre_get h
  | .group c => by
    simp only [DenP]
    rintro ⟨qs, h1, h2⟩
    exact ⟨qs, pre_get h h1, DenC.mono h c h2⟩
theorem DenT.mono {xs ys : List RE} (h : xs <+: ys) {k : Nat} : ∀ t : Term, DenT xs k t → DenT ys k t
  | .mk a p b => by
    simp only [DenT]
    rintro ⟨i, j, h1, h2, h3, h4⟩
    refine ⟨i, j, ?_, ?_, DenP.mono h p h3, h4⟩
    · split
      · rename_i ha; rw [if_pos ha] at h1; exact h1
      · rename_i ha; rw [if_neg ha] at h1; exact pre_get h h1
    · split
      · rename_i ha; rw [if_pos ha] at h2; exact h2
      · rename_i ha; rw [if_neg ha] at h2; exact pre_get h h2
theorem DenS.mono {xs ys : List RE} (h : xs <+: ys) : ∀ {ks : List Nat} (s : List Term), DenS xs ks s → DenS ys ks s
  | ks, [] => by simp only [DenS]; exact id
  | ks, t :: s => by
    simp only [DenS]
    rintro ⟨k, ks', h1, h2, h3⟩
    exact ⟨k, ks', h1, DenT.mono h t h2, DenS.mono h s h3⟩
theorem DenC.mono {xs ys : List RE} (h : xs <+: ys) : ∀ {qs : List Nat} (c : List (List Term)), DenC xs qs c → DenC ys qs c
  | qs, [] => by simp only [DenC]; exact id
  | qs, s :: c => by
    simp only [DenC]
    rintro ⟨q, qs', ks, h1, h2, h3, h4⟩
    exact ⟨q, qs', ks, h1, pre_get h h2, DenS.mono h s h3, DenC.mono h c h4⟩
 end
end Thk
namespace Thk
theorem term_xs (T : ST) (j : Nat) (sg : Bytes) : (T.term j sg).xs = if sg = [] then T.xs else T.xs ++ [wrapE (sgnKind sg) j] := by
  unfold ST.term; split <;> simp [ST.push, ST.setTop, ST.add]
theorem term_os (T : ST) (j : Nat) (sg : Bytes) {pre : List OP} {o : OP} (h : T.os = pre ++ [o]) : (T.term j sg).os = pre ++ [{ o with terms := o.terms ++ [if sg = [] then j else T.xs.length] }] := by
  unfold ST.term; split
  · rename_i hs; simp [ST.push, ST.setTop, ST.top, h, List.getLastD_concat, hs]
  · rename_i hs; simp [ST.push, ST.setTop, ST.top, ST.add, h, List.getLastD_concat]
theorem term_rs (T : ST) (j : Nat) (sg : Bytes) : (T.term j sg).rs = T.rs := by
  unfold ST.term; split <;> simp [ST.push, ST.setTop, ST.add]
theorem term_sign (T : ST) (j : Nat) (sg : Bytes) : (T.term j sg).sign = T.sign := by
  unfold ST.term; split <;> simp [ST.push, ST.setTop, ST.add]
theorem term_may (T : ST) (j : Nat) (sg : Bytes) : (T.term j sg).may = true := by
  unfold ST.term; split <;> simp [ST.push]
/-- A piece has been laid, with the sign ahead of it. -/
structure Laid (S : ST) (pre : List OP) (o : OP) (pc : Piece) (S' : ST) (xs1 : List RE) (j : Nat) : Prop where
  ext : S.xs <+: xs1
  den : DenP xs1 j pc
  xs : S'.xs = if S.sign = [] then xs1 else xs1 ++ [wrapE (sgnKind S.sign) j]
  os : S'.os = pre ++ [{ o with terms := o.terms ++ [if S.sign = [] then j else xs1.length] }]
  rs : S'.rs = S.rs
  sign : S'.sign = []
  may : S'.may = true
/-- Where a piece may stand. -/
structure PcAt (d : Nat) (ts : List Tok) (S : ST) (pre : List OP) (o : OP) : Prop where
  wf : Wf ts
  os : S.os = pre ++ [o]
  len : pre.length = d
  rs : S.rs ≠ []
  deep : d ≤ 6
  sg : S.sign = [] ∨ ((S.sign = [38] ∨ S.sign = [33]) ∧ S.may = false)
  here : S.sign = [] → begins d ts = true ∧ (hd ts).kind ≠ .sign 38 ∧ (hd ts).kind ≠ .sign 33
def MPc (d : Nat) (ts : List Tok) (r : Res Piece) : Prop := ∀ S pre o, PcAt d ts S pre o →
  match r with
  | .err e p => run ts S = .error (e, p)
  | .ok pc rest => Wf rest ∧ ∃ S' xs1 j, run ts S = run rest S' ∧ Laid S pre o pc S' xs1 j
/-- Where a term or a sequence may stand. -/
structure SqAt (d : Nat) (ts : List Tok) (S : ST) (pre : List OP) (o : OP) : Prop where
  wf : Wf ts
  os : S.os = pre ++ [o]
  len : pre.length = d
  rs : S.rs ≠ []
  deep : d ≤ 6
  sign : S.sign = []
  may : S.may = true → ¬ behindTok ts
def MTm (d : Nat) (ts : List Tok) (r : Res Term) : Prop := ∀ S pre o, SqAt d ts S pre o → begins d ts = true →
  match r with
  | .err e p => run ts S = .error (e, p)
  | .ok t rest => ∃ S' k, run ts S = run rest S' ∧ S'.rs = S.rs ∧ SqAt d rest S' pre { o with terms := o.terms ++ [k] } ∧ S.xs <+: S'.xs ∧ DenT S'.xs k t
def MSq (d : Nat) (ts : List Tok) (r : Res Seq) : Prop := ∀ S pre o, SqAt d ts S pre o →
  match r with
  | .err e p => run ts S = .error (e, p)
  | .ok s rest => begins d rest = false ∧ ∃ S' ks, run ts S = run rest S' ∧ S'.rs = S.rs ∧ SqAt d rest S' pre { o with terms := o.terms ++ ks } ∧ S.xs <+: S'.xs ∧ DenS S'.xs ks s
def MCh (d : Nat) (ts : List Tok) (r : Res Choice) : Prop := ∀ S pre o, SqAt d ts S pre o → o.terms = [] →
  match r with
  | .err e p => run ts S = .error (e, p)
  | .ok c rest => begins d rest = false ∧ (hd rest).kind ≠ .sign 47 ∧ ∃ S' qs ks c0 s, run ts S = run rest S' ∧ S'.rs = S.rs ∧ SqAt d rest S' pre ⟨o.seqs ++ qs, ks, o.sign⟩ ∧ S.xs <+: S'.xs ∧ c = c0 ++ [s] ∧ DenC S'.xs qs c0 ∧ DenS S'.xs ks s
theorem lay_laid {d : Nat} {ts : List Tok} {S : ST} {pre : List OP} {o : OP} (h : PcAt d ts S pre o) {e : RE} {pc : Piece} (hd : DenP (S.xs ++ [e]) S.xs.length pc) : Laid S pre o pc (S.lay e) (S.xs ++ [e]) S.xs.length := by
  have e1 : (({ S with sign := [] } : ST).add e).xs = S.xs ++ [e] := rfl
  have e2 : (({ S with sign := [] } : ST).add e).os = pre ++ [o] := h.os
  refine ⟨⟨[e], rfl⟩, hd, ?_, ?_, ?_, ?_, ?_⟩
  · unfold ST.lay; rw [term_xs, e1]
  · unfold ST.lay; rw [term_os _ _ _ e2, e1]
  · unfold ST.lay; rw [term_rs]; rfl
  · unfold ST.lay; rw [term_sign]; rfl
  · unfold ST.lay; rw [term_may]
theorem get_last {xs : List RE} {e : RE} : (xs ++ [e])[xs.length]? = some e := by simp
theorem m_plain {d : Nat} {ts : List Tok} {p : Piece} (hp : plainPiece (hd ts) = some p) : MPc d ts (.ok p ts.tail) := by
  intro S pre o h
  obtain ⟨t, r, rfl, hok, hr⟩ := h.wf.form
  simp only [hd, List.headD_cons] at hp
  simp only [List.tail_cons]
  have hos : S.os.length = d + 1 := by rw [h.os]; simp [h.len]
  have hrs := h.rs
  cases hk : t.kind with
  | name =>
    simp only [plainPiece, hk, Option.some.injEq] at hp
    subst hp
    have hw := hr (by rw [hk]; rfl)
    have hE : DenP (S.xs ++ [exprOf t]) S.xs.length (.name t.text) := by
      simp only [DenP, get_last, exprOf, hk]
    refine ⟨hw, S.lay (exprOf t), S.xs ++ [exprOf t], S.xs.length, ?_, lay_laid h hE⟩
    obtain ⟨m, r', rfl, _⟩ := hw.form
    by_cases ha : m.kind.isArrow = true
    · have hka : m.kind = .arrow := by
        cases hm : m.kind <;> simp [hm, TK.isArrow] at ha ⊢
      have h2 : S.sign ≠ [] ∨ 1 < S.os.length := by
        by_cases hs : S.sign = []
        · right
          have hb := (h.here hs).1
          simp only [begins, hd, List.headD_cons, hk, List.tail_cons, ha] at hb
          have : d ≠ 0 := by
            intro e; subst e; simp at hb
          omega
        · exact .inl hs
      rw [run_begin hk ha, if_pos h2, run_arrow hka]
    · exact run_name hk hrs (by simpa using ha)
  | lit =>
    simp only [plainPiece, hk, Option.some.injEq] at hp
    subst hp
    have hE : DenP (S.xs ++ [exprOf t]) S.xs.length (.lit t.text) := by simp only [DenP, get_last, exprOf, hk]
    refine ⟨hr (by rw [hk]; rfl), S.lay (exprOf t), S.xs ++ [exprOf t], S.xs.length, run_lit hk hrs, lay_laid h hE⟩
  | cls =>
    simp only [plainPiece, hk, Option.some.injEq] at hp
    subst hp
    have hE : DenP (S.xs ++ [exprOf t]) S.xs.length (.cls t.spans) := by simp only [DenP, get_last, exprOf, hk]
    refine ⟨hr (by rw [hk]; rfl), S.lay (exprOf t), S.xs ++ [exprOf t], S.xs.length, run_cls hk hrs, lay_laid h hE⟩
  | sign c =>
    simp only [plainPiece, hk] at hp
    split at hp
    · rename_i hc
      subst hc
      simp only [Option.some.injEq] at hp
      subst hp
      have hE : DenP (S.xs ++ [⟨3, [], [], 0, []⟩]) S.xs.length .any := by simp only [DenP, get_last]
      refine ⟨hr (by rw [hk]; rfl), S.lay ⟨3, [], [], 0, []⟩, S.xs ++ [⟨3, [], [], 0, []⟩], S.xs.length, ?_, lay_laid h hE⟩
      rw [run_sign hk hrs]; simp [ST.signs]
    · cases hp
  | fin => simp [plainPiece, hk] at hp
  | bad => simp [plainPiece, hk] at hp
  | arrow => simp [plainPiece, hk] at hp
theorem sign9 {c : UInt8} (h : signB c = true) : c = 47 ∨ c = 38 ∨ c = 33 ∨ c = 63 ∨ c = 42 ∨ c = 43 ∨ c = 40 ∨ c = 41 ∨ c = 46 := by
  simpa [signB] using h
theorem m_bad {d : Nat} {ts : List Tok} (hn : plainPiece (hd ts) = none) (hk4 : (hd ts).kind ≠ .sign 40) : MPc d ts (.err 2 (hd ts).place) := by
  intro S pre o h
  obtain ⟨t, r, rfl, hok, hr⟩ := h.wf.form
  simp only [hd, List.headD_cons] at hn hk4 ⊢
  have hrs := h.rs
  have hs : S.sign ≠ [] ∧ S.may = false := by
    rcases h.sg with hs | ⟨hs, hm⟩
    · exfalso
      obtain ⟨hb, h38, h33⟩ := h.here hs
      simp only [hd, List.headD_cons] at h38 h33
      simp only [begins, hd, List.headD_cons] at hb
      cases hk : t.kind with
      | sign c =>
        simp only [hk] at hb hk4 h38 h33
        simp only [plainPiece, hk] at hn
        have h1 : c ≠ 46 := by intro e; subst e; simp at hn
        have h2 : c ≠ 40 := by intro e; subst e; exact hk4 rfl
        have h3 : c ≠ 38 := by intro e; subst e; exact h38 rfl
        have h4 : c ≠ 33 := by intro e; subst e; exact h33 rfl
        simp [h1, h2, h3, h4] at hb
      | name => simp [plainPiece, hk] at hn
      | lit => simp [plainPiece, hk] at hn
      | cls => simp [plainPiece, hk] at hn
      | fin => simp [hk] at hb
      | bad => simp [hk] at hb
      | arrow => simp [hk] at hb
    · exact ⟨by rcases hs with hs | hs <;> rw [hs] <;> simp, hm⟩
  obtain ⟨hs, hm⟩ := hs
  cases hk : t.kind with
  | sign c =>
    simp only [plainPiece, hk] at hn
    have h1 : c ≠ 46 := by intro e; subst e; simp at hn
    have h2 : c ≠ 40 := by intro e; subst e; exact hk4 hk
    rw [run_sign hk hrs]
    rcases sign9 (hok c hk) with rfl | rfl | rfl | rfl | rfl | rfl | rfl | rfl | rfl <;> simp [ST.signs, hs, hm] at h1 h2 ⊢
  | name => simp [plainPiece, hk] at hn
  | lit => simp [plainPiece, hk] at hn
  | cls => simp [plainPiece, hk] at hn
  | fin => rw [run_fin hk]; simp [hs]
  | bad => rw [run_bad hk]
  | arrow => rw [run_arrow hk]
theorem m_deep {ts : List Tok} (hk : (hd ts).kind = .sign 40) : MPc 6 ts (.err 3 (hd ts).place) := by
  intro S pre o h
  obtain ⟨t, r, rfl, hok, hr⟩ := h.wf.form
  simp only [hd, List.headD_cons] at hk ⊢
  have hos : S.os.length = 7 := by rw [h.os]; simp [h.len]
  rw [run_sign hk h.rs]; simp [ST.signs, hos]
/-- What stands where no choice goes on, within brackets. -/
theorem end_err {d : Nat} {ts : List Tok} {S : ST} {pre : List OP} {o : OP} (h : SqAt d ts S pre o) (hd0 : d ≠ 0) (hb : begins d ts = false) (h47 : (hd ts).kind ≠ .sign 47) (h41 : (hd ts).kind ≠ .sign 41) : run ts S = .error (2, (hd ts).place) := by
  obtain ⟨t, r, rfl, hok, hr⟩ := h.wf.form
  have hmay := h.may
  simp only [hd, List.headD_cons, behindTok] at hb h47 h41 hmay ⊢
  have hrs := h.rs
  have hos : 1 < S.os.length := by rw [h.os]; simp [h.len]; omega
  simp only [begins, hd, List.headD_cons] at hb
  cases hk : t.kind with
  | sign c =>
    simp only [hk] at hb h47 h41 hmay
    rw [run_sign hk hrs]
    rcases sign9 (hok c hk) with rfl | rfl | rfl | rfl | rfl | rfl | rfl | rfl | rfl <;> simp [ST.signs] at hb h47 h41 hmay ⊢ <;> simp [hmay]
  | name => simp [hk, hd0] at hb
  | lit => simp [hk] at hb
  | cls => simp [hk] at hb
  | fin => rw [run_fin hk]; simp [hos]
  | bad => rw [run_bad hk]
  | arrow => rw [run_arrow hk]
theorem group_start {d : Nat} {ts : List Tok} {S : ST} {pre : List OP} {o : OP} (h : PcAt d ts S pre o) (hk : (hd ts).kind = .sign 40) (hd6 : d ≠ 6) :
    run ts S = run ts.tail { S with os := S.os ++ [⟨[], [], S.sign⟩], sign := [], may := false } ∧ SqAt (d + 1) ts.tail { S with os := S.os ++ [⟨[], [], S.sign⟩], sign := [], may := false } (pre ++ [o]) ⟨[], [], S.sign⟩ := by
  obtain ⟨t, r, rfl, hok, hr⟩ := h.wf.form
  simp only [hd, List.headD_cons] at hk
  have hos : S.os.length = d + 1 := by rw [h.os]; simp [h.len]
  have hdp := h.deep
  refine ⟨?_, ⟨hr (by rw [hk]; rfl), by simp [h.os], by simp [h.len], h.rs, by omega, rfl, by simp⟩⟩
  have : ¬ 6 < S.os.length := by omega
  simp only [List.tail_cons]
  rw [run_sign hk h.rs]; simp [ST.signs, this]
theorem slash_os {S : ST} {pre : List OP} {o : OP} (h : S.os = pre ++ [o]) : S.slash.os = pre ++ [⟨o.seqs ++ [S.xs.length], [], o.sign⟩] ∧ S.slash.xs = S.xs ++ [⟨5, [], [], 0, o.terms⟩] ∧ S.slash.rs = S.rs ∧ S.slash.sign = S.sign := by
  simp [ST.slash, ST.setTop, ST.add, ST.top, h, List.getLastD_concat]
theorem closed_os {S : ST} {pre : List OP} {o : OP} (h : S.os = pre ++ [o]) : S.closed.os = pre ∧ S.closed.xs = S.xs ++ [⟨5, [], [], 0, o.terms⟩] ++ [⟨6, [], [], 0, o.seqs ++ [S.xs.length]⟩] ∧ S.closed.rs = S.rs ∧ S.closed.sign = S.sign := by
  obtain ⟨h1, h2, h3, h4⟩ := slash_os h
  simp [ST.closed, ST.add, h2, h3, h4, ST.top, h, List.getLastD_concat]
theorem DenC.snoc {xs : List RE} : ∀ {qs : List Nat} (c : List (List Term)) {q : Nat} {ks : List Nat} {s : List Term}, DenC xs qs c → xs[q]? = some ⟨5, [], [], 0, ks⟩ → DenS xs ks s → DenC xs (qs ++ [q]) (c ++ [s])
  | qs, [], q, ks, s => by
    intro h h1 h2
    simp only [DenC] at h
    subst h
    simp only [List.nil_append, DenC]
    exact ⟨q, [], ks, rfl, h1, h2, rfl⟩
  | qs, s0 :: c, q, ks, s => by
    intro h h1 h2
    simp only [DenC] at h
    obtain ⟨q0, qs', ks', rfl, g1, g2, g3⟩ := h
    simp only [List.cons_append, DenC]
    exact ⟨q0, qs' ++ [q], ks', rfl, g1, g2, DenC.snoc c g3 h1 h2⟩
theorem m_group {d : Nat} {ts : List Tok} {c : Choice} {rest : List Tok} (hk : (hd ts).kind = .sign 40) (hd6 : d ≠ 6) (hcl : (hd rest).kind = .sign 41) (ih : MCh (d + 1) ts.tail (.ok c rest)) : MPc d ts (.ok (.group c) rest.tail) := by
  intro S pre o h
  obtain ⟨h1, h2⟩ := group_start h hk hd6
  obtain ⟨_, _, S', qs, ks, c0, s, e1, er, e2, e3, rfl, e5, e6⟩ := ih _ _ _ h2 rfl
  obtain ⟨t, r, rfl, hok, hr⟩ := e2.wf.form
  simp only [hd, List.headD_cons] at hcl
  simp only [List.nil_append] at e2
  obtain ⟨f1, f2, f3, f4⟩ := closed_os e2.os
  have hos : 2 ≤ S'.os.length := by rw [e2.os]; simp
  have htop : S'.top.sign = S.sign := by simp [ST.top, e2.os, List.getLastD_concat]
  have hxs1 : S'.xs <+: S'.closed.xs := by rw [f2]; exact ⟨[⟨5, [], [], 0, ks⟩, ⟨6, [], [], 0, qs ++ [S'.xs.length]⟩], by simp⟩
  refine ⟨hr (by rw [hcl]; rfl), S'.closed.term (S'.xs.length + 1) S.sign, S'.closed.xs, S'.xs.length + 1, ?_, ?_⟩
  · rw [h1, e1]
    rw [run_sign hcl e2.rs]; simp [ST.signs, e2.sign, hos, htop]
  · refine ⟨e3.trans hxs1, ?_, term_xs _ _ _, term_os _ _ _ f1, ?_, ?_, term_may _ _ _⟩
    · simp only [DenP]
      refine ⟨qs ++ [S'.xs.length], by rw [f2]; simp, DenC.snoc c0 (DenC.mono hxs1 c0 e5) (ks := ks) (by rw [f2]; simp) (DenS.mono hxs1 s e6)⟩
    · rw [term_rs, f3, er]
    · rw [term_sign, f4]; exact e2.sign
end Thk
namespace Thk
theorem m_unclosed {d : Nat} {ts : List Tok} {c : Choice} {rest : List Tok} (hk : (hd ts).kind = .sign 40) (hd6 : d ≠ 6) (hcl : (hd rest).kind ≠ .sign 41) (ih : MCh (d + 1) ts.tail (.ok c rest)) : MPc d ts (.err 2 (hd rest).place) := by
  intro S pre o h
  obtain ⟨h1, h2⟩ := group_start h hk hd6
  obtain ⟨hb, h47, S', qs, ks, c0, s, e1, er, e2, _⟩ := ih _ _ _ h2 rfl
  show run ts S = _
  rw [h1, e1]
  exact end_err e2 (by omega) hb h47 hcl
theorem m_inner {d : Nat} {ts : List Tok} {e p : Nat} (hk : (hd ts).kind = .sign 40) (hd6 : d ≠ 6) (ih : MCh (d + 1) ts.tail (.err e p)) : MPc d ts (.err e p) := by
  intro S pre o h
  obtain ⟨h1, h2⟩ := group_start h hk hd6
  show run ts S = _
  rw [h1]
  exact ih _ _ _ h2 rfl
theorem DenP.kind {xs : List RE} {j : Nat} {p : Piece} (h : DenP xs j p) : ∃ x, xs[j]? = some x ∧ ¬ (x.kind = 10 ∨ x.kind = 11) := by
  cases p with
  | name b => simp only [DenP] at h; exact ⟨_, h, by simp⟩
  | lit b => simp only [DenP] at h; exact ⟨_, h, by simp⟩
  | cls l => simp only [DenP] at h; exact ⟨_, h, by simp⟩
  | any => simp only [DenP] at h; exact ⟨_, h, by simp⟩
  | group c => simp only [DenP] at h; obtain ⟨qs, h, _⟩ := h; exact ⟨_, h, by simp⟩
theorem behindOf_some {t : Tok} {r : List Tok} {b : UInt8} (hk : t.kind = .sign b) (hb : b = 63 ∨ b = 42 ∨ b = 43) : behindOf (t :: r) = (b, r) := by
  unfold behindOf; simp only [hd, List.headD_cons, hk]
  rw [if_pos hb]; rfl
theorem behindOf_none {ts : List Tok} (h : ¬ behindTok ts) : behindOf ts = (0, ts) := by
  unfold behindOf
  split
  · rename_i c hc
    rw [if_neg]
    rintro (rfl | rfl | rfl)
    · exact h (.inl hc)
    · exact h (.inr (.inl hc))
    · exact h (.inr (.inr hc))
  · rfl
/-- The sign behind. -/
theorem behind_part {d : Nat} {S : ST} {pre : List OP} {o : OP} {pc : Piece} {S' : ST} {xs1 : List RE} {j : Nat} {rest : List Tok} {a : UInt8} (h : Laid S pre o pc S' xs1 j) (hw : Wf rest) (hlen : pre.length = d) (hrs : S.rs ≠ []) (hdp : d ≤ 6)
    (ha : (a = 0 ∧ S.sign = []) ∨ (S.sign = [a] ∧ (a = 38 ∨ a = 33))) :
    ∃ S2 k, run rest S' = run (behindOf rest).2 S2 ∧ S2.rs = S.rs ∧ SqAt d (behindOf rest).2 S2 pre { o with terms := o.terms ++ [k] } ∧ S.xs <+: S2.xs ∧ DenT S2.xs k (.mk a pc (behindOf rest).1) := by
  obtain ⟨x, hx1, hx2⟩ := h.den.kind
  have hjl : j < xs1.length := (List.getElem?_eq_some_iff.1 hx1).1
  by_cases hbt : behindTok rest
  · obtain ⟨t, r, rfl, hok, hr⟩ := hw.form
    obtain ⟨b, hk, hb⟩ : ∃ b, t.kind = .sign b ∧ (b = 63 ∨ b = 42 ∨ b = 43) := by
      simp only [behindTok, hd, List.headD_cons] at hbt
      rcases hbt with hk | hk | hk
      · exact ⟨63, hk, .inl rfl⟩
      · exact ⟨42, hk, .inr (.inl rfl)⟩
      · exact ⟨43, hk, .inr (.inr rfl)⟩
    have hb0 : b ≠ 0 := by rcases hb with rfl | rfl | rfl <;> decide
    rw [behindOf_some hk hb]
    have hrun : run (t :: r) S' = run r (S'.behind [b]) := by
      rw [run_sign hk (by rw [h.rs]; exact hrs)]
      rcases hb with rfl | rfl | rfl <;> simp [ST.signs, h.may]
    have htop : S'.top = { o with terms := o.terms ++ [if S.sign = [] then j else xs1.length] } := by simp [ST.top, h.os, List.getLastD_concat]
    have hlast : S'.top.terms.getLastD 0 = if S.sign = [] then j else xs1.length := by rw [htop]; simp [List.getLastD_concat]
    rcases ha with ⟨rfl, hs⟩ | ⟨hs, ha⟩
    · -- no sign ahead
      rw [if_pos hs] at hlast
      have hxs : S'.xs = xs1 := by rw [h.xs, if_pos hs]
      have hgd : S'.xs.getD j RE.z = x := by rw [hxs, List.getD_eq_getElem?_getD, hx1]; rfl
      have hbe : S'.behind [b] = { (S'.add (wrapE (sgnKind [b]) j)).setTop { S'.top with terms := S'.top.terms.dropLast ++ [S'.xs.length] } with may := false } := by
        unfold ST.behind; simp only [hlast, hgd, if_neg hx2]
      refine ⟨S'.behind [b], xs1.length, hrun, ?_, ⟨hr (by rw [hk]; rfl), ?_, hlen, ?_, hdp, ?_, ?_⟩, ?_, ?_⟩
      · rw [hbe]; exact h.rs
      · rw [hbe]; simp [ST.setTop, ST.add, htop, h.os, hs, hxs]
      · rw [hbe]; simp [ST.setTop, ST.add, h.rs, hrs]
      · rw [hbe]; simp [ST.setTop, ST.add, h.sign]
      · rw [hbe]; simp
      · rw [hbe]; simp only [ST.setTop, ST.add, hxs]; exact h.ext.trans ⟨[wrapE (sgnKind [b]) j], rfl⟩
      · rw [hbe]; simp only [ST.setTop, ST.add, hxs, DenT]
        refine ⟨xs1.length, j, by simp, ?_, DenP.mono ⟨[wrapE (sgnKind [b]) j], rfl⟩ _ h.den, .inr hb, .inl (by trivial)⟩
        rw [if_neg hb0]; exact get_last
    · -- a sign ahead
      have hs0 : S.sign ≠ [] := by rw [hs]; simp
      have ha0 : a ≠ 0 := by rcases ha with rfl | rfl <;> decide
      rw [if_neg hs0] at hlast
      have hxs : S'.xs = xs1 ++ [wrapE (sgnKind [a]) j] := by rw [h.xs, if_neg hs0, hs]
      have hgd : S'.xs.getD xs1.length RE.z = wrapE (sgnKind [a]) j := by rw [hxs, List.getD_eq_getElem?_getD, get_last]; rfl
      have hak : (wrapE (sgnKind [a]) j).kind = 10 ∨ (wrapE (sgnKind [a]) j).kind = 11 := by
        rcases ha with rfl | rfl
        · left; rfl
        · right; rfl
      have hbe : S'.behind [b] = { S' with xs := (S'.xs ++ [wrapE (sgnKind [b]) j]).set xs1.length (wrapE (sgnKind [a]) S'.xs.length), may := false } := by
        unfold ST.behind; simp only [hlast, hgd, if_pos hak]; rfl
      have hx' : (S'.xs ++ [wrapE (sgnKind [b]) j]).set xs1.length (wrapE (sgnKind [a]) S'.xs.length) = xs1 ++ [wrapE (sgnKind [a]) (xs1.length + 1), wrapE (sgnKind [b]) j] := by
        rw [hxs]; simp
      refine ⟨S'.behind [b], xs1.length, hrun, ?_, ⟨hr (by rw [hk]; rfl), ?_, hlen, ?_, hdp, ?_, ?_⟩, ?_, ?_⟩
      · rw [hbe]; exact h.rs
      · rw [hbe]; simp [h.os, hs0]
      · rw [hbe]; simp [h.rs, hrs]
      · rw [hbe]; simp [h.sign]
      · rw [hbe]; simp
      · rw [hbe]; simp only [hx']; exact h.ext.trans ⟨_, rfl⟩
      · rw [hbe]; simp only [hx', DenT]
        refine ⟨xs1.length + 1, j, ?_, ?_, DenP.mono ⟨_, rfl⟩ _ h.den, .inr hb, .inr ha⟩
        · rw [if_neg ha0]; simp
        · rw [if_neg hb0]; simp
  · rw [behindOf_none hbt]
    rcases ha with ⟨rfl, hs⟩ | ⟨hs, ha⟩
    · have hxs : S'.xs = xs1 := by rw [h.xs, if_pos hs]
      refine ⟨S', j, rfl, h.rs, ⟨hw, by rw [h.os, if_pos hs], hlen, by rw [h.rs]; exact hrs, hdp, h.sign, fun _ => hbt⟩, by rw [hxs]; exact h.ext, ?_⟩
      simp only [DenT]
      exact ⟨j, j, by simp, by simp, by rw [hxs]; exact h.den, .inl (by trivial), .inl (by trivial)⟩
    · have hs0 : S.sign ≠ [] := by rw [hs]; simp
      have ha0 : a ≠ 0 := by rcases ha with rfl | rfl <;> decide
      have hxs : S'.xs = xs1 ++ [wrapE (sgnKind [a]) j] := by rw [h.xs, if_neg hs0, hs]
      refine ⟨S', xs1.length, rfl, h.rs, ⟨hw, by rw [h.os, if_neg hs0], hlen, by rw [h.rs]; exact hrs, hdp, h.sign, fun _ => hbt⟩, by rw [hxs]; exact h.ext.trans ⟨_, rfl⟩, ?_⟩
      simp only [DenT]
      refine ⟨j, j, ?_, by simp, by rw [hxs]; exact DenP.mono ⟨_, rfl⟩ _ h.den, .inl (by trivial), .inr ha⟩
      rw [if_neg ha0, hxs]; exact get_last
theorem ahead_part {d : Nat} {ts : List Tok} {S : ST} {pre : List OP} {o : OP} (h : SqAt d ts S pre o) (hb : begins d ts = true) :
    ∃ S1, run ts S = run (aheadOf ts).2 S1 ∧ S1.xs = S.xs ∧ S1.rs = S.rs ∧ PcAt d (aheadOf ts).2 S1 pre o ∧ (((aheadOf ts).1 = 0 ∧ S1.sign = []) ∨ (S1.sign = [(aheadOf ts).1] ∧ ((aheadOf ts).1 = 38 ∨ (aheadOf ts).1 = 33))) := by
  obtain ⟨t, r, rfl, hok, hr⟩ := h.wf.form
  by_cases hc : ∃ c, t.kind = .sign c ∧ (c = 38 ∨ c = 33)
  · obtain ⟨c, hk, hc⟩ := hc
    have e : aheadOf (t :: r) = (c, r) := by
      unfold aheadOf; simp only [hd, List.headD_cons, hk]; rw [if_pos hc]; rfl
    rw [e]
    refine ⟨{ S with sign := [c], may := false }, ?_, rfl, rfl, ⟨hr (by rw [hk]; rfl), h.os, h.len, h.rs, h.deep, .inr ⟨by rcases hc with rfl | rfl <;> simp, rfl⟩, fun he => by simp at he⟩, .inr ⟨rfl, hc⟩⟩
    rw [run_sign hk h.rs]
    rcases hc with rfl | rfl <;> simp [ST.signs, h.sign]
  · have e : aheadOf (t :: r) = (0, t :: r) := by
      unfold aheadOf; simp only [hd, List.headD_cons]
      split
      · rename_i c hk
        rw [if_neg]
        intro h'
        exact hc ⟨c, hk, h'⟩
      · rfl
    rw [e]
    refine ⟨S, rfl, rfl, rfl, ⟨h.wf, h.os, h.len, h.rs, h.deep, .inl h.sign, fun _ => ⟨hb, ?_, ?_⟩⟩, .inl ⟨rfl, h.sign⟩⟩
    · intro hk; exact hc ⟨38, hk, .inl rfl⟩
    · intro hk; exact hc ⟨33, hk, .inr rfl⟩
theorem m_termOk {d : Nat} {ts : List Tok} {p : Piece} {rest : List Tok} (ih : MPc d (aheadOf ts).2 (.ok p rest)) : MTm d ts (.ok (.mk (aheadOf ts).1 p (behindOf rest).1) (behindOf rest).2) := by
  intro S pre o h hb
  obtain ⟨S1, h1, h2, h3, h4, h5⟩ := ahead_part h hb
  obtain ⟨hw, S', xs1, j, g1, g2⟩ := ih S1 pre o h4
  obtain ⟨S2, k, k1, k2, k3, k4, k5⟩ := behind_part g2 hw h4.len h4.rs h4.deep h5
  exact ⟨S2, k, by rw [h1, g1, k1], by rw [k2, h3], k3, by rw [← h2]; exact k4, k5⟩
theorem m_termErr {d : Nat} {ts : List Tok} {e p : Nat} (ih : MPc d (aheadOf ts).2 (.err e p)) : MTm d ts (.err e p) := by
  intro S pre o h hb
  obtain ⟨S1, h1, h2, h3, h4, h5⟩ := ahead_part h hb
  show run ts S = _
  rw [h1]; exact ih S1 pre o h4
theorem m_seqNil {d : Nat} {ts : List Tok} (hb : begins d ts = false) : MSq d ts (.ok [] ts) := by
  intro S pre o h
  refine ⟨hb, S, [], rfl, rfl, ?_, List.prefix_refl _, by simp [DenS]⟩
  simpa using h
theorem m_seqCons {d : Nat} {ts : List Tok} {t : Term} {rest : List Tok} {s : Seq} {rest' : List Tok} (hb : begins d ts = true) (iht : MTm d ts (.ok t rest)) (ihs : MSq d rest (.ok s rest')) : MSq d ts (.ok (t :: s) rest') := by
  intro S pre o h
  obtain ⟨S1, k, h1, h2, h3, h4, h5⟩ := iht S pre o h hb
  obtain ⟨hb', S2, ks, g1, g2, g3, g4, g5⟩ := ihs S1 pre _ h3
  refine ⟨hb', S2, k :: ks, by rw [h1, g1], by rw [g2, h2], by simpa using g3, h4.trans g4, ?_⟩
  simp only [DenS]
  exact ⟨k, ks, rfl, DenT.mono g4 t h5, g5⟩
theorem m_seqErr {d : Nat} {ts : List Tok} {e p : Nat} (hb : begins d ts = true) (iht : MTm d ts (.err e p)) : MSq d ts (.err e p) := fun S pre o h => iht S pre o h hb
theorem m_seqLater {d : Nat} {ts : List Tok} {t : Term} {rest : List Tok} {e p : Nat} (hb : begins d ts = true) (iht : MTm d ts (.ok t rest)) (ihs : MSq d rest (.err e p)) : MSq d ts (.err e p) := by
  intro S pre o h
  obtain ⟨S1, k, h1, h2, h3, h4, h5⟩ := iht S pre o h hb
  show run ts S = _
  rw [h1]; exact ihs S1 pre _ h3
theorem m_chLast {d : Nat} {ts : List Tok} {s : Seq} {rest : List Tok} (hk : (hd rest).kind ≠ .sign 47) (ihs : MSq d ts (.ok s rest)) : MCh d ts (.ok [s] rest) := by
  intro S pre o h ho
  obtain ⟨hb, S1, ks, h1, h2, h3, h4, h5⟩ := ihs S pre o h
  refine ⟨hb, hk, S1, [], ks, [], s, h1, h2, ?_, h4, rfl, by simp [DenC], h5⟩
  rw [ho] at h3; simpa using h3
theorem slash_part {d : Nat} {ts : List Tok} {S : ST} {pre : List OP} {o : OP} (h : SqAt d ts S pre o) (hk : (hd ts).kind = .sign 47) :
    run ts S = run ts.tail { S.slash with may := false } ∧ SqAt d ts.tail { S.slash with may := false } pre ⟨o.seqs ++ [S.xs.length], [], o.sign⟩ := by
  obtain ⟨t, r, rfl, hok, hr⟩ := h.wf.form
  simp only [hd, List.headD_cons] at hk
  obtain ⟨h1, h2, h3, h4⟩ := slash_os h.os
  refine ⟨?_, ⟨hr (by rw [hk]; rfl), h1, h.len, by simp only [h3]; exact h.rs, h.deep, by simp only [h4]; exact h.sign, by simp⟩⟩
  rw [run_sign hk h.rs]; simp [ST.signs, h.sign]
theorem m_chMore {d : Nat} {ts : List Tok} {s : Seq} {rest : List Tok} {c : Choice} {rest' : List Tok} (hk : (hd rest).kind = .sign 47) (ihs : MSq d ts (.ok s rest)) (ihc : MCh d rest.tail (.ok c rest')) : MCh d ts (.ok (s :: c) rest') := by
  intro S pre o h ho
  obtain ⟨_, S1, ks, h1, h2, h3, h4, h5⟩ := ihs S pre o h
  obtain ⟨g1, g2⟩ := slash_part h3 hk
  obtain ⟨_, f2, f3, _⟩ := slash_os h3.os
  obtain ⟨hb, h47, S2, qs, ks2, c0, s2, e1, er, e2, e3, rfl, e5, e6⟩ := ihc _ _ _ g2 rfl
  have e3' : S1.xs ++ [⟨5, [], [], 0, o.terms ++ ks⟩] <+: S2.xs := by
    have : ({ S1.slash with may := false } : ST).xs = S1.xs ++ [⟨5, [], [], 0, o.terms ++ ks⟩] := f2
    rw [← this]; exact e3
  rw [ho, List.nil_append] at e3'
  have hS1 : S1.xs <+: S2.xs := (List.prefix_append _ _).trans e3'
  refine ⟨hb, h47, S2, S1.xs.length :: qs, ks2, s :: c0, s2, by rw [h1, g1, e1], ?_, ?_, h4.trans hS1, rfl, ?_, e6⟩
  · rw [er]; show S1.slash.rs = _; rw [f3, h2]
  · simpa using e2
  · simp only [DenC]
    exact ⟨S1.xs.length, qs, ks, rfl, pre_get e3' get_last, DenS.mono hS1 s h5, e5⟩
theorem m_chErr {d : Nat} {ts : List Tok} {e p : Nat} (ihs : MSq d ts (.err e p)) : MCh d ts (.err e p) := fun S pre o h _ => ihs S pre o h
theorem m_chLater {d : Nat} {ts : List Tok} {s : Seq} {rest : List Tok} {e p : Nat} (hk : (hd rest).kind = .sign 47) (ihs : MSq d ts (.ok s rest)) (ihc : MCh d rest.tail (.err e p)) : MCh d ts (.err e p) := by
  intro S pre o h ho
  obtain ⟨_, S1, ks, h1, h2, h3, h4, h5⟩ := ihs S pre o h
  obtain ⟨g1, g2⟩ := slash_part h3 hk
  show run ts S = _
  rw [h1, g1]; exact ihc _ _ _ g2 rfl
theorem choice_sim {d : Nat} {ts : List Tok} {r : Res Choice} (h : PChoice d ts r) : MCh d ts r := by
  refine PChoice.rec (motive_1 := fun d ts r _ => MPc d ts r) (motive_2 := fun d ts r _ => MTm d ts r) (motive_3 := fun d ts r _ => MSq d ts r) (motive_4 := fun d ts r _ => MCh d ts r) ?_ ?_ ?_ ?_ ?_ ?_ ?_ ?_ ?_ ?_ ?_ ?_ ?_ ?_ ?_ ?_ h
  · intro d ts p hp; exact m_plain hp
  · intro d ts hn hk; exact m_bad hn hk
  · intro ts hk; exact m_deep hk
  · intro d ts c rest hk hd _ hcl ih; exact m_group hk hd hcl ih
  · intro d ts c rest hk hd _ hcl ih; exact m_unclosed hk hd hcl ih
  · intro d ts e p hk hd _ ih; exact m_inner hk hd ih
  · intro d ts p rest _ ih; exact m_termOk ih
  · intro d ts e p _ ih; exact m_termErr ih
  · intro d ts hb; exact m_seqNil hb
  · intro d ts t rest s rest' hb _ _ iht ihs; exact m_seqCons hb iht ihs
  · intro d ts e p hb _ iht; exact m_seqErr hb iht
  · intro d ts t rest e p hb _ _ iht ihs; exact m_seqLater hb iht ihs
  · intro d ts s rest _ hk ihs; exact m_chLast hk ihs
  · intro d ts s rest c rest' _ hk _ ihs ihc; exact m_chMore hk ihs ihc
  · intro d ts e p _ ihs; exact m_chErr ihs
  · intro d ts s rest e p _ hk _ ihs ihc; exact m_chLater hk ihs ihc
end Thk
namespace Thk
def DenR (xs : List RE) : List (Bytes × Nat) → List Rule → Prop
  | [], [] => True
  | x :: rs, r :: g => x.1 = r.name ∧ DenP xs x.2 (.group r.choice) ∧ DenR xs rs g
  | _, _ => False
theorem DenR.mono {xs ys : List RE} (h : xs <+: ys) : ∀ (rs : List (Bytes × Nat)) (g : List Rule), DenR xs rs g → DenR ys rs g
  | [], [] => id
  | x :: rs, r :: g => fun ⟨h1, h2, h3⟩ => ⟨h1, DenP.mono h _ h2, DenR.mono h rs g h3⟩
  | [], _ :: _ => fun h => h.elim
  | _ :: _, [] => fun h => h.elim
theorem DenR.snoc {xs : List RE} : ∀ (rs : List (Bytes × Nat)) (g : List Rule) {b : Bytes} {k : Nat} {r : Rule}, DenR xs rs g → b = r.name → DenP xs k (.group r.choice) → DenR xs (rs ++ [(b, k)]) (g ++ [r])
  | [], [], _, _, _ => fun _ h1 h2 => ⟨h1, h2, trivial⟩
  | x :: rs, r0 :: g, _, _, _ => fun ⟨h0, h1, h2⟩ h3 h4 => ⟨h0, h1, DenR.snoc rs g h2 h3 h4⟩
  | [], _ :: _, _, _, _ => fun h => h.elim
  | _ :: _, [], _, _, _ => fun h => h.elim
def S0 : ST := ⟨[], [], [], [], false⟩
/-- Behind a rule: the next one has not begun. -/
structure Btw (n : Nat) (ts : List Tok) (S : ST) (g0 : List Rule) : Prop where
  at0 : ∃ o, SqAt 0 ts S [] o ∧ ∃ rr nm c0 s gg, g0 = gg ++ [⟨nm, c0 ++ [s]⟩] ∧ S.rs = rr ++ [(nm, 0)] ∧ rr.length + 1 = n ∧ DenR S.xs rr gg ∧ DenC S.xs o.seqs c0 ∧ DenS S.xs o.terms s
  none : begins 0 ts = false
  slash : (hd ts).kind ≠ .sign 47
def Start (n : Nat) (ts : List Tok) (S : ST) (g0 : List Rule) : Prop := (n = 0 ∧ S = S0 ∧ g0 = [] ∧ Wf ts) ∨ Btw n ts S g0
theorem Start.wf {n : Nat} {ts : List Tok} {S : ST} {g0 : List Rule} (h : Start n ts S g0) : Wf ts := by
  rcases h with ⟨_, _, _, h⟩ | h
  · exact h
  · obtain ⟨o, h1, _⟩ := h.at0; exact h1.wf
/-- The rule that is being read ends. -/
theorem rule_part {n : Nat} {ts : List Tok} {S : ST} {g0 : List Rule} (h : Start n ts S g0) : S.rule.os = [] ∧ S.rule.rs.length = n ∧ S.rule.sign = [] ∧ DenR S.rule.xs S.rule.rs g0 ∧ S.sign = [] ∧ S.os.length ≤ 1 ∧ S.rs.length = n := by
  rcases h with ⟨rfl, rfl, rfl, _⟩ | h
  · simp [ST.rule, S0, DenR]
  · obtain ⟨o, h1, rr, nm, c0, s, gg, rfl, h3, h4, h5, h6, h7⟩ := h.at0
    have hos : S.os = [] ++ [o] := h1.os
    obtain ⟨f1, f2, f3, f4⟩ := closed_os hos
    have hrs : S.rs ≠ [] := h1.rs
    have e : S.rule = { S.closed with rs := rr ++ [(nm, S.xs.length + 1)] } := by
      unfold ST.rule; rw [if_neg hrs, h3]; simp [List.getLastD_concat]
    have hx : S.xs <+: S.closed.xs := by rw [f2, List.append_assoc]; exact List.prefix_append _ _
    rw [e]
    refine ⟨f1, by simp [h4], by simp only [f4]; exact h1.sign, ?_, h1.sign, by rw [hos]; simp, by rw [h3]; simp [h4]⟩
    refine DenR.snoc rr gg (DenR.mono hx _ _ h5) rfl ?_
    simp only [DenP]
    refine ⟨o.seqs ++ [S.xs.length], by rw [f2]; simp, DenC.snoc c0 (DenC.mono hx c0 h6) (ks := o.terms) (by rw [f2]; simp) (DenS.mono hx s h7)⟩
theorem begin_part {n : Nat} {t m : Tok} {r : List Tok} {S : ST} {g0 : List Rule} (h : Start n (t :: m :: r) S g0) (hk : t.kind = .name) (ha : m.kind = .arrow) (hn : n < 20) :
    run (t :: m :: r) S = run r (S.begin t.text) ∧ SqAt 0 r (S.begin t.text) [] ⟨[], [], []⟩ ∧ (S.begin t.text).rs = S.rule.rs ++ [(t.text, 0)] ∧ DenR (S.begin t.text).xs S.rule.rs g0 ∧ S.rule.rs.length = n := by
  obtain ⟨h1, h2, h3, h4, h5, h6, h7⟩ := rule_part h
  have hw := h.wf
  have hw1 : Wf (m :: r) := by
    have := hw.2; rw [if_neg (by simp [hk, TK.last])] at this; exact this
  have hw2 : Wf r := by
    have := hw1.2; rw [if_neg (by simp [ha, TK.last])] at this; exact this
  refine ⟨?_, ⟨hw2, by simp [ST.begin, h1], rfl, by simp [ST.begin], by omega, by simpa [ST.begin] using h3, by simp [ST.begin]⟩, rfl, h4, h2⟩
  rw [run_begin hk (by rw [ha]; rfl), if_neg (by rintro (h' | h'); exact h' h5; omega), if_neg (by omega)]
/-- A rule's choice was read. -/
theorem rule_btw {n : Nat} {t m : Tok} {r : List Tok} {S : ST} {g0 : List Rule} {c : Choice} {rest : List Tok} (h : Start n (t :: m :: r) S g0) (hk : t.kind = .name) (ha : m.kind = .arrow) (hn : n < 20) (hc : PChoice 0 r (.ok c rest)) :
    ∃ S', run (t :: m :: r) S = run rest S' ∧ Btw (n + 1) rest S' (g0 ++ [⟨t.text, c⟩]) := by
  obtain ⟨h1, h2, h3, h4, h5⟩ := begin_part h hk ha hn
  obtain ⟨hb, h47, S', qs, ks, c0, s, e1, er, e2, e3, rfl, e5, e6⟩ := choice_sim hc _ _ _ h2 rfl
  refine ⟨S', by rw [h1, e1], ⟨⟨_, e2, S.rule.rs, t.text, c0, s, g0, rfl, by rw [er, h3], by rw [h5], DenR.mono e3 _ _ h4, ?_, e6⟩, hb, h47⟩⟩
  simpa using e5
theorem rule_err {n : Nat} {t m : Tok} {r : List Tok} {S : ST} {g0 : List Rule} {e p : Nat} (h : Start n (t :: m :: r) S g0) (hk : t.kind = .name) (ha : m.kind = .arrow) (hn : n < 20) (hc : PChoice 0 r (.err e p)) : run (t :: m :: r) S = .error (e, p) := by
  obtain ⟨h1, h2, _⟩ := begin_part h hk ha hn
  rw [h1]; exact choice_sim hc _ _ _ h2 rfl
theorem no_name {n : Nat} {ts : List Tok} {S : ST} {g0 : List Rule} (h : Start n ts S g0) (hk : (hd ts).kind ≠ .name) (hf : n ≠ 0 → (hd ts).kind ≠ .fin) : run ts S = .error (2, (hd ts).place) := by
  obtain ⟨t, r, rfl, hok, hr⟩ := h.wf.form
  simp only [hd, List.headD_cons] at hk hf ⊢
  rcases h with ⟨rfl, rfl, rfl, _⟩ | h
  · cases hq : t.kind with
    | name => exact absurd hq hk
    | bad => rw [run_bad hq]
    | arrow => rw [run_arrow hq]
    | fin => rw [run_fin hq]; simp [S0]
    | sign c => rw [run.eq_def]; simp [hq, S0]
    | lit => rw [run.eq_def]; simp [hq, S0]
    | cls => rw [run.eq_def]; simp [hq, S0]
  · have hb := h.none
    have h47 := h.slash
    obtain ⟨o, h1, rr, nm, c0, s, gg, _, h3, h4, _⟩ := h.at0
    have hmay := h1.may
    have hos : S.os = [] ++ [o] := h1.os
    have hol : ¬ 2 ≤ S.os.length := by rw [hos]; simp
    simp only [begins, hd, List.headD_cons] at hb
    simp only [hd, List.headD_cons, behindTok] at h47 hmay
    cases hq : t.kind with
    | name => exact absurd hq hk
    | bad => rw [run_bad hq]
    | arrow => rw [run_arrow hq]
    | fin => exact absurd hq (hf (by omega))
    | lit => simp [hq] at hb
    | cls => simp [hq] at hb
    | sign c =>
      simp only [hq] at hb h47 hmay
      rw [run_sign hq h1.rs]
      rcases sign9 (hok c hq) with rfl | rfl | rfl | rfl | rfl | rfl | rfl | rfl | rfl <;> simp [ST.signs, hol] at hb h47 hmay ⊢ <;> simp [hmay]
theorem no_arrow {n : Nat} {ts : List Tok} {S : ST} {g0 : List Rule} (h : Start n ts S g0) (hk : (hd ts).kind = .name) (ha : (hd ts.tail).kind ≠ .arrow) : run ts S = .error (2, (hd ts.tail).place) := by
  obtain ⟨t, r, rfl, hok, hr⟩ := h.wf.form
  simp only [hd, List.headD_cons] at hk
  obtain ⟨m, r', rfl, _⟩ := (hr (by rw [hk]; rfl)).form
  simp only [hd, List.headD_cons, List.tail_cons] at ha ⊢
  have ha' : m.kind.isArrow = false := by
    cases hm : m.kind with
    | arrow => exact absurd hm ha
    | _ => rfl
  rcases h with ⟨rfl, rfl, rfl, _⟩ | h
  · rw [run.eq_def]; simp [hk, ha', S0]
  · have hb := h.none
    simp [begins, hd, hk, ha'] at hb
theorem many_rules {ts : List Tok} {S : ST} {g0 : List Rule} (h : Start 20 ts S g0) (hk : (hd ts).kind = .name) (ha : (hd ts.tail).kind = .arrow) : run ts S = .error (4, (hd ts.tail).place) := by
  obtain ⟨t, r, rfl, hok, hr⟩ := h.wf.form
  simp only [hd, List.headD_cons] at hk
  obtain ⟨m, r', rfl, _⟩ := (hr (by rw [hk]; rfl)).form
  simp only [hd, List.headD_cons, List.tail_cons] at ha ⊢
  obtain ⟨h1, h2, h3, h4, h5, h6, h7⟩ := rule_part h
  rw [run_begin hk (by rw [ha]; rfl), if_neg (by rintro (h' | h'); exact h' h5; omega), if_pos (by omega)]
/-- What a rule's reading comes to. -/
theorem rule_sim {n : Nat} {ts : List Tok} {r : Res Rule} (hp : PRule n ts r) {S : ST} {g0 : List Rule} (h : Start n ts S g0) (hn : n ≤ 20) (hf : n ≠ 0 → (hd ts).kind ≠ .fin) :
    match r with
    | .err e p => run ts S = .error (e, p)
    | .ok ru rest => ∃ S', run ts S = run rest S' ∧ Btw (n + 1) rest S' (g0 ++ [ru]) := by
  cases hp with
  | noName hk => exact no_name h hk hf
  | many hk ha => exact many_rules h hk ha
  | noArrow hk ha => exact no_arrow h hk ha
  | ok hk ha hn' hc =>
    obtain ⟨t, r, rfl, hok, hr⟩ := h.wf.form
    simp only [hd, List.headD_cons] at hk
    obtain ⟨m, r', rfl, _⟩ := (hr (by rw [hk]; rfl)).form
    exact rule_btw h hk ha (by omega) hc
  | err hk ha hn' hc =>
    obtain ⟨t, r, rfl, hok, hr⟩ := h.wf.form
    simp only [hd, List.headD_cons] at hk
    obtain ⟨m, r', rfl, _⟩ := (hr (by rw [hk]; rfl)).form
    exact rule_err h hk ha (by omega) hc
/-- THE MACHINE COMES TO WHAT THE PARSE COMES TO. -/
theorem gram_sim {n : Nat} {ts : List Tok} {res : Except (Nat × Nat) (List Rule)} (hp : PGram n ts res) : ∀ (S : ST) (g0 : List Rule), Start n ts S g0 → n ≤ 20 → (n ≠ 0 → (hd ts).kind ≠ .fin) →
    match res with
    | .error x => run ts S = .error x
    | .ok g => ∃ S', run ts S = .ok S' ∧ DenR S'.xs S'.rs (g0 ++ g) := by
  induction hp with
  | last hr hk =>
    intro S g0 h hn hf
    obtain ⟨S', h1, h2⟩ := rule_sim hr h hn hf
    obtain ⟨f1, f2, f3, f4, f5, f6, f7⟩ := rule_part (.inr h2)
    refine ⟨S'.rule, ?_, f4⟩
    obtain ⟨o, hq, _⟩ := h2.at0
    obtain ⟨t, r, rfl, _⟩ := hq.wf.form
    have hk' : t.kind = .fin := hk
    rw [h1, run_fin hk', if_neg]
    rintro (h' | h' | h')
    · exact hq.rs h'
    · exact h' f5
    · omega
  | more hr hk _ ih =>
    intro S g0 h hn hf
    rename_i n' _ _ _ _ _
    obtain ⟨S', h1, h2⟩ := rule_sim hr h hn hf
    have hn1 : n' + 1 ≤ 20 := by
      have hne : n' ≠ 20 := by
        cases hr with
        | ok _ _ h' _ => exact h'
      omega
    obtain ⟨S2, h3, h4⟩ := ih S' _ (.inr h2) hn1 (fun _ => hk)
    exact ⟨S2, by rw [h1, h3], by simpa using h4⟩
  | err hr =>
    intro S g0 h hn hf
    exact rule_sim hr h hn hf
  | later hr hk _ ih =>
    intro S g0 h hn hf
    rename_i n' _ _ _ _ _
    obtain ⟨S', h1, h2⟩ := rule_sim hr h hn hf
    have hn1 : n' + 1 ≤ 20 := by
      have hne : n' ≠ 20 := by
        cases hr with
        | ok _ _ h' _ => exact h'
      omega
    show run _ S = _
    rw [h1]
    exact ih S' _ (.inr h2) hn1 (fun _ => hk)
end Thk
namespace Go.Proofs.YtiganlkabilblaaGreatDoor
open Go.RowKit
theorem isLet_eq (c : UInt8) : Thk.isLet c = (decide ((97 : Int) ≤ c.toNat) && decide ((c.toNat : Int) ≤ 122)) := by
  unfold Thk.isLet
  rw [Bool.eq_iff_iff]
  simp [UInt8.le_iff_toNat_le]
  omega
theorem isLetter_any (c : UInt8) (w : World) :
    Calls Tryz.prog 154 #[.int .u8 c.toNat] w fun e w' => e = .returned (.bool (Thk.isLet c)) ∧ w' = w := by
  rw [isLet_eq]
  go_enter Tryz.func154, Tryz.ntmps154
  go_wp2
  all_goals go_ret
  · have h : (97 : Int) ≤ c.toNat := by assumption
    exact ⟨by simp [h], rfl⟩
  · have h : ¬ (97 : Int) ≤ c.toNat := by omega
    exact ⟨by simp [h], rfl⟩
theorem indexByte_any (s : ByteArray) (c : Int) (w : World) :
    Calls Tryz.prog 159 #[.string s, .int .u8 c] w fun e w' => e = .returned (.int .i64 (Lib.indexByte s.data.toList c.toNat.toUInt8)) ∧ w' = w := by
  have h6 := @run_callFunc_extern Tryz.prog 194 _ Extern.BytealgIndexByte.indexByte Tryz.func194 (by kernel_rfl) (by kernel_rfl) (by kernel_rfl) (by kernel_rfl)
  have h7 := @Lib.run_indexByteString Tryz.prog
  go_enter Tryz.func159, Tryz.ntmps159
  go_wp2
  go_ret
  exact ⟨rfl, rfl⟩
theorem indexByte_of (s : ByteArray) (c : Int) (w : World) (j : Int) (h : Lib.indexByte s.data.toList c.toNat.toUInt8 = j) :
    Calls Tryz.prog 159 #[.string s, .int .u8 c] w fun e w' => e = .returned (.int .i64 j) ∧ w' = w := h ▸ indexByte_any s c w
theorem indexByte_line (l : List UInt8) : (Lib.indexByte l 10 = -1 ∧ Thk.lineN l = l.length) ∨ (Lib.indexByte l 10 = Thk.lineN l ∧ Thk.lineN l < l.length) := by
  induction l with
  | nil => left; simp [Lib.indexByte, Thk.lineN]
  | cons b l ih =>
    by_cases hb : b = 10
    · right; simp [Lib.indexByte, Thk.lineN, hb]
    · rcases ih with ⟨h1, h2⟩ | ⟨h1, h2⟩
      · left; simp [Lib.indexByte, Thk.lineN, hb, h1, h2]
      · right
        have : ¬ ((Thk.lineN l : Int) = -1) := by omega
        simp [Lib.indexByte, Thk.lineN, hb, h1, h2, this]
theorem extract_drop (s : ByteArray) (k : Nat) : (s.extract k s.size).data.toList = s.data.toList.drop k := by
  rw [ByteArray.data_extract, Array.toList_extract, List.extract_eq_take_drop]
  exact List.take_of_length_le (by rw [List.length_drop]; exact Nat.le_refl _)
theorem lineEnd_any (s : ByteArray) (k : Nat) (w : World) (hk : k ≤ s.size) (hs : s.size ≤ 2000) :
    Calls Tryz.prog 153 #[.string s, .int .i64 k] w fun e w' => e = .returned (.int .i64 ↑(k + Thk.lineN (s.data.toList.drop k))) ∧ w' = w := by
  have hx := extract_drop s k
  have hl : (s.data.toList.drop k).length = s.size - k := List.length_drop
  rcases indexByte_line (s.data.toList.drop k) with ⟨h1, h2⟩ | ⟨h1, h2⟩
  · rw [hl] at h2
    have hc := indexByte_of (s.extract k s.size) 10 w (-1) (by rw [hx]; exact h1)
    have he : ((k + Thk.lineN (s.data.toList.drop k) : Nat) : Int) = s.size := by omega
    rw [he]
    clear hx hl h1 h2 he
    go_enter Tryz.func153, Tryz.ntmps153
    go_wp2_with (go_at_call 159; refine hc.mono ?_; rintro e w' ⟨rfl, rfl⟩)
    go_ret
    exact ⟨rfl, rfl⟩
  · rw [hl] at h2
    generalize Thk.lineN (s.data.toList.drop k) = n at *
    have hc := indexByte_of (s.extract k s.size) 10 w n (by rw [hx]; exact h1)
    clear hx hl h1
    go_enter Tryz.func153, Tryz.ntmps153
    go_wp2_with (go_at_call 159; refine hc.mono ?_; rintro e w' ⟨rfl, rfl⟩)
    go_ret
    exact ⟨by simp, rfl⟩
theorem drop_cons (s : ByteArray) (k : Nat) (h : k < s.size) : s.data.toList.drop k = s[k] :: s.data.toList.drop (k + 1) := by
  have hl : k < s.data.toList.length := h
  rw [List.drop_eq_getElem_cons hl]
  rfl
theorem drop_end (s : ByteArray) (k : Nat) (h : s.size ≤ k) : s.data.toList.drop k = [] := List.drop_of_length_le h
theorem blk_line (l : List UInt8) : Thk.blk true l = Thk.lineN l + Thk.blk false (l.drop (Thk.lineN l)) := by
  induction l with
  | nil => simp [Thk.blk, Thk.lineN]
  | cons c t ih =>
    by_cases hc : c = 10
    · simp [Thk.blk, Thk.lineN, hc, Thk.isBlank]
    · simp [Thk.blk, Thk.lineN, hc, ih]; omega
theorem lineN_le (l : List UInt8) : Thk.lineN l ≤ l.length := by
  induction l with
  | nil => simp [Thk.lineN]
  | cons c t ih => simp only [Thk.lineN, List.length_cons]; split <;> omega
theorem blk_le (b : Bool) (l : List UInt8) : Thk.blk b l ≤ l.length := by
  induction l generalizing b with
  | nil => cases b <;> simp [Thk.blk]
  | cons c t ih =>
    cases b <;> simp only [Thk.blk, List.length_cons]
    · have h1 := ih false; have h2 := ih true
      split
      · omega
      · split <;> omega
    · have h1 := ih false; have h2 := ih true
      split <;> omega
theorem u8_true {c : UInt8} {n : Int} (h : ((c.toNat : Int) == n) = true) : c = UInt8.ofNat n.toNat := by
  have h := beq_iff_eq.1 h
  apply UInt8.toNat_inj.1
  have := c.toNat_lt
  rw [← h]
  simp
theorem u8_false {c : UInt8} {n : Int} (m : UInt8) (hm : (m.toNat : Int) = n) (h : ((c.toNat : Int) == n) = false) : c ≠ m := by
  intro e; subst e; rw [hm] at h; simp at h
theorem blk_blank {s : ByteArray} {j r : Nat} (hj : j < s.size) (hb : Thk.isBlank s[j] = true) (H : Hid (j + Thk.blk false (s.data.toList.drop j) = r)) :
    Hid ((j + 1) + Thk.blk false (s.data.toList.drop (j + 1)) = r) := by
  have H := H.out
  rw [drop_cons s j hj] at H
  simp only [Thk.blk, hb, if_true] at H
  show _ = _
  omega
theorem blk_comment {s : ByteArray} {j r : Nat} (hj : j < s.size) (hb : s[j] = 35) (H : Hid (j + Thk.blk false (s.data.toList.drop j) = r)) :
    j + Thk.lineN (s.data.toList.drop j) ≤ s.size ∧ 0 < Thk.lineN (s.data.toList.drop j) ∧
    Hid ((j + Thk.lineN (s.data.toList.drop j)) + Thk.blk false (s.data.toList.drop (j + Thk.lineN (s.data.toList.drop j))) = r) := by
  have H := H.out
  have hle := lineN_le (s.data.toList.drop j)
  rw [List.length_drop] at hle
  have hlen : s.data.toList.length = s.size := rfl
  rw [drop_cons s j hj] at H hle ⊢
  have e1 : Thk.lineN (s[j] :: s.data.toList.drop (j + 1)) = Thk.lineN (s.data.toList.drop (j + 1)) + 1 := by rw [hb]; simp [Thk.lineN]
  have e2 : Thk.blk false (s[j] :: s.data.toList.drop (j + 1)) = Thk.blk true (s.data.toList.drop (j + 1)) + 1 := by rw [hb]; simp [Thk.blk, Thk.isBlank]
  rw [e1] at hle ⊢
  rw [e2, blk_line, List.drop_drop] at H
  refine ⟨by omega, by omega, ?_⟩
  show _ = _
  rw [show j + (Thk.lineN (s.data.toList.drop (j + 1)) + 1) = (j + 1) + Thk.lineN (s.data.toList.drop (j + 1)) from by omega]
  omega
theorem blk_none {s : ByteArray} {j r : Nat} (hj : j < s.size) (hb : Thk.isBlank s[j] = false) (hc : s[j] ≠ 35) (H : Hid (j + Thk.blk false (s.data.toList.drop j) = r)) : j = r := by
  have H := H.out
  rw [drop_cons s j hj] at H
  simp [Thk.blk, hb, hc] at H
  exact H
theorem blank_false {c : UInt8} (h1 : ((c.toNat : Int) == 32) = false) (h2 : ((c.toNat : Int) == 9) = false) (h3 : ((c.toNat : Int) == 10) = false) (h4 : ((c.toNat : Int) == 13) = false) : Thk.isBlank c = false := by
  simp [Thk.isBlank, u8_false 32 rfl h1, u8_false 9 rfl h2, u8_false 10 rfl h3, u8_false 13 rfl h4]
set_option maxHeartbeats 400000 in
theorem skipBlanks_of (s : ByteArray) (k r : Nat) (w : World) (hk : k ≤ s.size) (hs : s.size ≤ 2000) (hr : Hid (k + Thk.blk false (s.data.toList.drop k) = r)) :
    Calls Tryz.prog 121 #[.string s, .int .i64 k] w fun e w' => e = .returned (.int .i64 r) ∧ w' = w := by
  go_enter Tryz.func121, Tryz.ntmps121
  go_wp2
  go_loop [1] (fun i => ∃ j : Nat, j ≤ s.size ∧ i = .int .i64 j ∧ Hid (j + Thk.blk false (s.data.toList.drop j) = r)) (fun i => s.size - (intOf i).toNat)
  case atStart => exact ⟨k, hk, rfl, hr⟩
  case round =>
    obtain ⟨j, hj, rfl, hH⟩ := hrel
    by_cases hlt : j < s.size
    · go_wp2_with (go_at_call 153; refine (lineEnd_any _ _ _ (by omega) (by omega)).mono ?_; rintro e w' ⟨rfl, rfl⟩)
      · have h := blk_blank hlt (by rw [u8_true ‹((s[j].toNat : Int) == 32) = true›]; rfl) hH
        go_round
        case rel => exact ⟨j + 1, by omega, by go_num, h⟩
        case measure => simp [intOf]; omega
      · have h := blk_blank hlt (by rw [u8_true ‹((s[j].toNat : Int) == 9) = true›]; rfl) hH
        go_round
        case rel => exact ⟨j + 1, by omega, by go_num, h⟩
        case measure => simp [intOf]; omega
      · have h := blk_blank hlt (by rw [u8_true ‹((s[j].toNat : Int) == 10) = true›]; rfl) hH
        go_round
        case rel => exact ⟨j + 1, by omega, by go_num, h⟩
        case measure => simp [intOf]; omega
      · have h := blk_blank hlt (by rw [u8_true ‹((s[j].toNat : Int) == 13) = true›]; rfl) hH
        go_round
        case rel => exact ⟨j + 1, by omega, by go_num, h⟩
        case measure => simp [intOf]; omega
      · have h := blk_comment hlt (u8_true ‹((s[j].toNat : Int) == 35) = true›) hH
        go_round
        case rel => exact ⟨j + Thk.lineN (s.data.toList.drop j), h.1, by go_num, h.2.2⟩
        case measure => simp [intOf]; omega
      · go_ret
        have h := blk_none hlt (blank_false (by assumption) (by assumption) (by assumption) (by assumption)) (u8_false 35 rfl (by assumption)) hH
        exact ⟨by rw [← h]; rfl, rfl⟩
    · have h : j = r := by have := hH.out; rw [drop_end s j (by omega)] at this; simpa [Thk.blk] using this
      have hh : Hid (j = r) := h
      clear h
      go_wp2
      go_ret
      exact ⟨by rw [← hh.out]; rfl, rfl⟩
end Go.Proofs.YtiganlkabilblaaGreatDoor
namespace Go.Proofs.YtiganlkabilblaaGreatDoor
open Go.RowKit
def chv : Option (UInt8 × Nat) → Value
  | none => .tuple #[.int .u8 0, .int .i64 0]
  | some (c, n) => .tuple #[.int .u8 c.toNat, .int .i64 n]
theorem toU8 (c : UInt8) : (c.toNat : Int).toNat.toUInt8 = c := by simp
theorem indexByte_mem (l : List UInt8) (c : UInt8) : (l.contains c = true ∧ 0 ≤ Lib.indexByte l c) ∨ (l.contains c = false ∧ Lib.indexByte l c = -1) := by
  induction l with
  | nil => right; simp [Lib.indexByte]
  | cons b l ih =>
    by_cases hb : b = c
    · left; simp [Lib.indexByte, hb]
    · have hb' : ¬ c = b := fun h => hb h.symm
      rcases ih with ⟨h1, h2⟩ | ⟨h1, h2⟩
      · left
        have : ¬ Lib.indexByte l c = -1 := by omega
        simp only [List.contains_eq_mem, List.mem_cons, decide_eq_true_eq] at h1 ⊢
        refine ⟨Or.inr h1, ?_⟩
        simp [Lib.indexByte, hb, this]; omega
      · right
        simp only [List.contains_eq_mem, List.mem_cons, decide_eq_false_iff_not] at h1 ⊢
        simp [Lib.indexByte, hb, hb', h1, h2]
theorem indexByte_yes (m : ByteArray) (c : UInt8) (w : World) (h : m.data.toList.contains c = true) :
    Calls Tryz.prog 159 #[.string m, .int .u8 c.toNat] w fun e w' => ∃ j : Int, 0 ≤ j ∧ e = .returned (.int .i64 j) ∧ w' = w := by
  refine (indexByte_any m c.toNat w).mono ?_
  rintro e w' ⟨rfl, rfl⟩
  rw [toU8]
  rcases indexByte_mem m.data.toList c with ⟨_, h2⟩ | ⟨h1, _⟩
  · exact ⟨_, h2, rfl, rfl⟩
  · rw [h] at h1; cases h1
theorem indexByte_no (m : ByteArray) (c : UInt8) (w : World) (h : m.data.toList.contains c = false) :
    Calls Tryz.prog 159 #[.string m, .int .u8 c.toNat] w fun e w' => e = .returned (.int .i64 (-1)) ∧ w' = w := by
  refine (indexByte_any m c.toNat w).mono ?_
  rintro e w' ⟨rfl, rfl⟩
  rw [toU8]
  rcases indexByte_mem m.data.toList c with ⟨h1, _⟩ | ⟨_, h2⟩
  · rw [h] at h1; cases h1
  · exact ⟨by rw [h2], rfl⟩
theorem u8_beq_false {c m : UInt8} (h : c ≠ m) (n : Int) (hn : (m.toNat : Int) = n) : ((c.toNat : Int) == n) = false := by
  rw [beq_eq_false_iff_ne]; intro e; apply h; apply UInt8.toNat_inj.1; omega
theorem u8_beq_true {c m : UInt8} (h : c = m) (n : Int) (hn : (m.toNat : Int) = n) : ((c.toNat : Int) == n) = true := by
  subst h; rw [hn]; simp
set_option maxHeartbeats 1000000 in
theorem escapedAt_any (s mk : ByteArray) (k : Nat) (w : World) (hk : k ≤ s.size) (hs : s.size ≤ 2000) :
    Calls Tryz.prog 193 #[.string s, .int .i64 k, .string mk] w fun e w' => e = .returned (chv (Thk.escL mk.data.toList (s.data.toList.drop k))) ∧ w' = w := by
  by_cases hlt : k < s.size
  · rw [drop_cons s k hlt]
    simp only [Thk.escL]
    by_cases h1 : s[k] = 110
    · have t1 := u8_beq_true h1 110 rfl
      rw [if_pos h1]
      clear h1
      go_enter Tryz.func193, Tryz.ntmps193
      go_wp2
      go_ret2
      exact ⟨rfl, rfl⟩
    rw [if_neg h1]
    have t1 := u8_beq_false h1 110 rfl
    clear h1
    by_cases h2 : s[k] = 116
    · have t2 := u8_beq_true h2 116 rfl
      rw [if_pos h2]
      clear h2
      go_enter Tryz.func193, Tryz.ntmps193
      go_wp2
      go_ret2
      exact ⟨rfl, rfl⟩
    rw [if_neg h2]
    have t2 := u8_beq_false h2 116 rfl
    clear h2
    by_cases h3 : s[k] = 92
    · have t3 := u8_beq_true h3 92 rfl
      rw [if_pos (by simp [h3])]
      clear h3
      go_enter Tryz.func193, Tryz.ntmps193
      go_wp2
      go_ret2
      exact ⟨rfl, rfl⟩
    have t3 := u8_beq_false h3 92 rfl
    by_cases h4 : mk.data.toList.contains s[k] = true
    · rw [if_pos (by simp only [h4, Bool.or_true])]
      clear h3
      have hc := indexByte_yes mk s[k] w h4
      clear h4
      go_enter Tryz.func193, Tryz.ntmps193
      go_wp2_with (go_at_call 159; refine hc.mono ?_; rintro e w' ⟨j, hj, rfl, rfl⟩)
      go_ret2
      exact ⟨rfl, rfl⟩
    · rw [if_neg (by simp only [h3, h4]; simp)]
      clear h3
      have h4 : mk.data.toList.contains s[k] = false := by simpa using h4
      have hc := indexByte_no mk s[k] w h4
      clear h4
      go_enter Tryz.func193, Tryz.ntmps193
      go_wp2_with (go_at_call 159; refine hc.mono ?_; rintro e w' ⟨rfl, rfl⟩)
      go_ret2
      exact ⟨rfl, rfl⟩
  · rw [drop_end s k (by omega)]
    go_enter Tryz.func193, Tryz.ntmps193
    go_wp2
    go_ret2
    exact ⟨rfl, rfl⟩
theorem chv_form (o : Option (UInt8 × Nat)) : ∃ (c : UInt8) (n : Nat), chv o = .tuple #[.int .u8 c.toNat, .int .i64 n] := by
  cases o with
  | none => exact ⟨0, 0, rfl⟩
  | some p => exact ⟨p.1, p.2, rfl⟩
set_option maxHeartbeats 1000000 in
theorem characterAt_any (s mk : ByteArray) (k : Nat) (w : World) (hk : k ≤ s.size) (hs : s.size ≤ 2000) :
    Calls Tryz.prog 180 #[.string s, .int .i64 k, .string mk] w fun e w' => e = .returned (chv (Thk.charL mk.data.toList (s.data.toList.drop k))) ∧ w' = w := by
  by_cases hlt : k < s.size
  · rw [drop_cons s k hlt]
    simp only [Thk.charL]
    by_cases h1 : s[k] = 92
    · have t1 := u8_beq_true h1 92 rfl
      rw [if_pos h1]
      clear h1
      have he := escapedAt_any s mk (k + 1) w (by omega) hs
      obtain ⟨c, n, hcn⟩ := chv_form (Thk.escL mk.data.toList (s.data.toList.drop (k + 1)))
      rw [hcn] at he ⊢
      clear hcn
      go_enter Tryz.func180, Tryz.ntmps180
      go_wp2_with (go_at_call 193; refine he.mono ?_; rintro e w' ⟨rfl, rfl⟩)
      go_ret2
      exact ⟨rfl, rfl⟩
    rw [if_neg h1]
    have t1 := u8_beq_false h1 92 rfl
    clear h1
    by_cases h3 : s[k] = 10
    · have t3 := u8_beq_true h3 10 rfl
      rw [if_pos (by simp [h3])]
      clear h3
      go_enter Tryz.func180, Tryz.ntmps180
      go_wp2
      go_ret2
      exact ⟨rfl, rfl⟩
    have t3 := u8_beq_false h3 10 rfl
    by_cases h4 : mk.data.toList.contains s[k] = true
    · rw [if_pos (by simp only [h4, Bool.or_true])]
      clear h3
      have hc := indexByte_yes mk s[k] w h4
      clear h4
      go_enter Tryz.func180, Tryz.ntmps180
      go_wp2_with (go_at_call 159; refine hc.mono ?_; rintro e w' ⟨j, hj, rfl, rfl⟩)
      go_ret2
      exact ⟨rfl, rfl⟩
    · rw [if_neg (by simp only [h3, h4]; simp)]
      clear h3
      have h4 : mk.data.toList.contains s[k] = false := by simpa using h4
      have hc := indexByte_no mk s[k] w h4
      clear h4
      go_enter Tryz.func180, Tryz.ntmps180
      go_wp2_with (go_at_call 159; refine hc.mono ?_; rintro e w' ⟨rfl, rfl⟩)
      go_ret2
      exact ⟨rfl, rfl⟩
  · rw [drop_end s k (by omega)]
    go_enter Tryz.func180, Tryz.ntmps180
    go_wp2
    go_ret2
    exact ⟨rfl, rfl⟩
end Go.Proofs.YtiganlkabilblaaGreatDoor
namespace Go.Proofs.YtiganlkabilblaaGreatDoor
open Go.RowKit
def kindI : Thk.TK → Int
  | .fin => 0
  | .bad => 1
  | .name => 2
  | .arrow => 3
  | .lit => 4
  | .cls => 5
  | .sign c => c.toNat
/-- A token's cells: its spans' slice is v. -/
def tokV (t : Thk.Tok) (v : Value) : Value := .agg #[.int .u8 (kindI t.kind), .int .i64 t.place, .string ⟨t.text.toArray⟩, v]
theorem bcell {W w1 : World} (hb : Below W.heap.size W w1) : (∀ b o, b < W.heap.size → w1.cell? ⟨b, o, none⟩ = W.cell? ⟨b, o, none⟩) ∧ (∀ b o, b < W.heap.size → w1.frozen? ⟨b, o, none⟩ = W.frozen? ⟨b, o, none⟩) :=
  ⟨fun b o h => hb.cell (p := ⟨b, o, none⟩) h, fun b o h => hb.frozen (p := ⟨b, o, none⟩) h⟩
set_option maxHeartbeats 400000 in
theorem bad_any (w : World) :
    Calls Tryz.prog 160 #[] w fun e w' => e = .returned (.tuple #[tokV Thk.badT (.slice none 0 0), .int .i64 0]) ∧ Below w.heap.size w w' := by
  go_enter Tryz.func160, Tryz.ntmps160
  go_wp2
  refine bodyPost_ret (v := .tuple #[tokV Thk.badT (.slice none 0 0), .int .i64 0]) (by simp [results, Tryz.results160, go_sem, tokV, kindI, Thk.badT]) rfl ⟨rfl, ?_⟩
  exact (Below.refl _ _).alloc (Nat.le_refl _) _
theorem getElem?_drop' (s : ByteArray) (k n : Nat) (h : k + n < s.size) : (s.data.toList.drop k)[n]? = some s[k + n] := by
  rw [List.getElem?_drop]
  have hl : k + n < s.data.toList.length := h
  rw [List.getElem?_eq_getElem hl]
  rfl
theorem getElem?_drop_end (s : ByteArray) (k n : Nat) (h : s.size ≤ k + n) : (s.data.toList.drop k)[n]? = none := by
  rw [List.getElem?_drop]
  exact List.getElem?_eq_none h
set_option maxHeartbeats 1000000 in
theorem closes_any (s : ByteArray) (k n m : Nat) (mark : UInt8) (w : World) (hs : s.size ≤ 2000) (hm : m ≤ 2000) (hk : k + n ≤ s.size) :
    Calls Tryz.prog 181 #[.string s, .int .i64 ↑(k + n), .int .u8 mark.toNat, .int .i64 m] w fun e w' =>
      e = .returned (.bool (Thk.closesL (s.data.toList.drop k) n mark m)) ∧ w' = w := by
  unfold Thk.closesL
  by_cases h1 : k + n < s.size
  · rw [getElem?_drop' s k n h1]
    generalize k + n = j at *
    by_cases h2 : s[j] = mark
    · have t2 : ((s[j].toNat : Int) == (mark.toNat : Int)) = true := by rw [h2]; simp
      rw [show (some s[j] == some mark) = true from by rw [h2]; simp]
      clear h2
      by_cases h3 : 1 ≤ m
      · rw [decide_eq_true h3]
        go_enter Tryz.func181, Tryz.ntmps181
        go_wp2
        go_ret
        refine ⟨?_, rfl⟩
        simp
        omega
      · rw [decide_eq_false h3]
        go_enter Tryz.func181, Tryz.ntmps181
        go_wp2
        go_ret
        exact ⟨rfl, rfl⟩
    · have t2 : ((s[j].toNat : Int) == (mark.toNat : Int)) = false := by
        rw [beq_eq_false_iff_ne]; intro e; apply h2; apply UInt8.toNat_inj.1; omega
      rw [show (some s[j] == some mark) = false from by simp [h2]]
      clear h2
      go_enter Tryz.func181, Tryz.ntmps181
      go_wp2
      go_ret
      exact ⟨rfl, rfl⟩
  · rw [getElem?_drop_end s k n (by omega)]
    generalize k + n = j at *
    go_enter Tryz.func181, Tryz.ntmps181
    go_wp2
    go_ret
    exact ⟨rfl, rfl⟩
theorem letN_le (l : List UInt8) : Thk.letN l ≤ l.length := by
  induction l with
  | nil => simp [Thk.letN]
  | cons c t ih => simp only [Thk.letN, List.length_cons]; split <;> omega
theorem extract_take (s : ByteArray) (k n : Nat) : s.extract k (k + n) = ⟨((s.data.toList.drop k).take n).toArray⟩ := by
  apply ByteArray.ext
  rw [ByteArray.data_extract]
  apply Array.toList_inj.1
  rw [Array.toList_extract, List.extract_eq_take_drop]
  simp
set_option maxHeartbeats 1000000 in
theorem nameAt_any (s : ByteArray) (k : Nat) (w : World) (hs : s.size ≤ 2000) (hk : k ≤ s.size) :
    Calls Tryz.prog 155 #[.string s, .int .i64 k] w fun e w' =>
      e = .returned (.tuple #[tokV (Thk.nameT (s.data.toList.drop k)) (.slice none 0 0), .int .i64 (Thk.nameT (s.data.toList.drop k)).size]) ∧ Below w.heap.size w w' := by
  have hle := letN_le (s.data.toList.drop k)
  have hx := extract_take s k (Thk.letN (s.data.toList.drop k))
  rw [List.length_drop, show s.data.toList.length = s.size from rfl] at hle
  obtain ⟨N, hN⟩ : ∃ N, N = Thk.letN (s.data.toList.drop k) := ⟨_, rfl⟩
  obtain ⟨T, hT⟩ : ∃ T, T = Thk.nameT (s.data.toList.drop k) := ⟨_, rfl⟩
  rw [← hT]
  have hT1 : 12 < N → T = Thk.badT := by intro h; rw [hT]; unfold Thk.nameT; rw [← hN, if_pos h]
  have hT2 : N ≤ 12 → T = ⟨.name, 0, N, (s.data.toList.drop k).take N, []⟩ := by intro h; rw [hT]; unfold Thk.nameT; rw [← hN, if_neg (by omega)]
  rw [← hN] at hle hx
  have HT1 : Hid (12 < N → T = Thk.badT) := hT1
  have HT2 : Hid (N ≤ 12 → T = ⟨.name, 0, N, (s.data.toList.drop k).take N, []⟩) := hT2
  have HN : Hid (N = Thk.letN (s.data.toList.drop k)) := hN
  have HX : Hid (s.extract k (k + N) = ⟨((s.data.toList.drop k).take N).toArray⟩) := hx
  clear hN hx hT hT1 hT2
  go_enter Tryz.func155, Tryz.ntmps155
  go_wp2
  go_loop [6] (fun i => ∃ j : Nat, j ≤ N ∧ i = .int .i64 j ∧ Hid (N = j + Thk.letN (s.data.toList.drop (k + j)))) (fun i => N - (intOf i).toNat)
  case atStart => exact ⟨0, Nat.zero_le _, rfl, by rw [Nat.zero_add, Nat.add_zero]; exact HN⟩
  case round =>
    obtain ⟨j, hj, rfl, hH⟩ := hrel
    by_cases hc : ∃ hlt : k + j < s.size, Thk.isLet s[k + j] = true
    · obtain ⟨hlt, hc⟩ := hc
      have h1 : j + 1 ≤ N ∧ Hid (N = (j + 1) + Thk.letN (s.data.toList.drop (k + (j + 1)))) := by
          have h := hH.out
          rw [drop_cons s (k + j) hlt] at h
          simp only [Thk.letN, hc, if_true] at h
          exact ⟨by omega, show _ = _ by rw [show k + (j + 1) = k + j + 1 from rfl]; omega⟩
      go_wp2_with (go_at_call 154; refine (isLetter_any _ _).mono ?_; rintro e w' ⟨rfl, rfl⟩; rw [hc])
      go_round
      case rel => exact ⟨j + 1, h1.1, by go_num, h1.2⟩
      case measure => simp [intOf]; omega
    · have h1 : j = N := by
        have h := hH.out
        by_cases hlt : k + j < s.size
        · have hc' : Thk.isLet s[k + j] = false := by
            cases hx : Thk.isLet s[k + j] with
            | false => rfl
            | true => exact absurd ⟨hlt, hx⟩ hc
          rw [drop_cons s (k + j) hlt] at h
          simp [Thk.letN, hc'] at h
          exact h.symm
        · rw [drop_end s (k + j) (by omega)] at h
          simpa [Thk.letN] using h.symm
      have hc' : ∀ hlt : k + j < s.size, Thk.isLet s[k + j] = false := by
        intro hlt
        cases hx : Thk.isLet s[k + j] with
        | false => rfl
        | true => exact absurd ⟨hlt, hx⟩ hc
      clear hc hH
      subst h1
      by_cases h12 : 12 < j
      · have e1 := HT1.out h12
        subst e1
        clear HT1 HT2 HX HN
        by_cases hlt : k + j < s.size
        · have hc' := hc' hlt
          go_wp2_with (first | (go_at_call 154; refine (isLetter_any _ _).mono ?_; rintro e w' ⟨rfl, rfl⟩; rw [hc']) | (go_at_call 160; refine (bad_any _).mono ?_; rintro e w1 ⟨rfl, hb⟩; obtain ⟨hc1, hf1⟩ := bcell hb; have hz : w.heap.size < w1.heap.size := (by have := hb.size; simp at this; omega); simp only [tokV, Thk.badT, kindI]))
          refine bodyPost_ret (v := .tuple #[tokV Thk.badT (.slice none 0 0), .int .i64 0]) (by simp [results, Tryz.results155, go_sem, tokV, kindI, Thk.badT, hc1, hz]) rfl ⟨rfl, ?_⟩
          exact ((((((Below.refl _ _).alloc (Nat.le_refl _) _).trans (hb.mono (by simp))).setCell (Nat.le_refl _) _).setCell (Nat.le_refl _) _).setCell (Nat.le_refl _) _).setCell (Nat.le_refl _) _
        · clear hc'
          go_wp2_with (first | (go_at_call 160; refine (bad_any _).mono ?_; rintro e w1 ⟨rfl, hb⟩; obtain ⟨hc1, hf1⟩ := bcell hb; have hz : w.heap.size < w1.heap.size := (by have := hb.size; simp at this; omega); simp only [tokV, Thk.badT, kindI]))
          refine bodyPost_ret (v := .tuple #[tokV Thk.badT (.slice none 0 0), .int .i64 0]) (by simp [results, Tryz.results155, go_sem, tokV, kindI, Thk.badT, hc1, hz]) rfl ⟨rfl, ?_⟩
          exact ((((((Below.refl _ _).alloc (Nat.le_refl _) _).trans (hb.mono (by simp))).setCell (Nat.le_refl _) _).setCell (Nat.le_refl _) _).setCell (Nat.le_refl _) _).setCell (Nat.le_refl _) _
      · have e1 := HT2.out (by omega)
        subst e1
        have hkj : k + j ≤ s.size := by omega
        by_cases hlt : k + j < s.size
        · have hc' := hc' hlt
          go_wp2_with (first | (go_at_call 154; refine (isLetter_any _ _).mono ?_; rintro e w' ⟨rfl, rfl⟩; rw [hc']))
          refine bodyPost_ret (v := .tuple #[.agg #[.int .u8 2, .int .i64 0, .string (s.extract k (k + j)), .slice none 0 0], .int .i64 j]) (by simp [results, Tryz.results155, go_sem]) rfl ⟨by rw [HX.out]; rfl, ?_⟩
          exact (Below.refl _ _).alloc (Nat.le_refl _) _
        · clear hc'
          go_wp2_with fail
          refine bodyPost_ret (v := .tuple #[.agg #[.int .u8 2, .int .i64 0, .string (s.extract k (k + j)), .slice none 0 0], .int .i64 j]) (by simp [results, Tryz.results155, go_sem]) rfl ⟨by rw [HX.out]; rfl, ?_⟩
          exact (Below.refl _ _).alloc (Nat.le_refl _) _
end Go.Proofs.YtiganlkabilblaaGreatDoor
namespace Go.Proofs.YtiganlkabilblaaGreatDoor
open Go.RowKit
theorem Tryz.infoU8 : (Tryz.prog.info? 5).map (fun i => (i.zero, i.size, i.bytes)) = some (some (.int .u8 0), 1, 1) := by kernel_rfl
theorem escL_le {m l : List UInt8} {c : UInt8} {n : Nat} (h : Thk.escL m l = some (c, n)) : n = 2 ∧ 1 ≤ l.length := by
  cases l with
  | nil => simp [Thk.escL] at h
  | cons d t =>
    refine ⟨?_, by simp⟩
    simp only [Thk.escL] at h
    split at h
    · simp at h; omega
    · split at h
      · simp at h; omega
      · split at h
        · simp at h; omega
        · cases h
theorem charL_le {m l : List UInt8} {c : UInt8} {n : Nat} (h : Thk.charL m l = some (c, n)) : 1 ≤ n ∧ n ≤ l.length := by
  cases l with
  | nil => simp [Thk.charL] at h
  | cons d t =>
    simp only [Thk.charL] at h
    split at h
    · have := escL_le h; simp; omega
    · split at h
      · cases h
      · simp at h; simp; omega
theorem charsF_more (m : List UInt8) : ∀ (f g : Nat) (l : List UInt8), l.length ≤ f → l.length ≤ g → Thk.charsF m f l = Thk.charsF m g l
  | 0, 0, _, _, _ => rfl
  | 0, g + 1, l, hf, _ => by
    have : l = [] := List.length_eq_zero_iff.1 (by omega)
    subst this; simp [Thk.charsF, Thk.charL]
  | f + 1, 0, l, _, hg => by
    have : l = [] := List.length_eq_zero_iff.1 (by omega)
    subst this; simp [Thk.charsF, Thk.charL]
  | f + 1, g + 1, l, hf, hg => by
    simp only [Thk.charsF]
    cases hc : Thk.charL m l with
    | none => rfl
    | some p =>
      obtain ⟨c, n⟩ := p
      have := charL_le hc
      have hd : (l.drop n).length = l.length - n := List.length_drop
      simp only []
      rw [charsF_more m f g (l.drop n) (by omega) (by omega)]
theorem charsL_none {m l : List UInt8} (h : Thk.charL m l = none) : Thk.charsL m l = ([], 0) := by
  unfold Thk.charsL
  cases hl : l.length with
  | zero => rfl
  | succ f => simp [Thk.charsF, h]
theorem charsL_some {m l : List UInt8} {c : UInt8} {n : Nat} (h : Thk.charL m l = some (c, n)) :
    Thk.charsL m l = (c :: (Thk.charsL m (l.drop n)).1, n + (Thk.charsL m (l.drop n)).2) := by
  have hle := charL_le h
  unfold Thk.charsL
  cases hl : l.length with
  | zero => omega
  | succ f =>
    have hd : (l.drop n).length = l.length - n := List.length_drop
    rw [hd, hl]
    simp only [Thk.charsF, h]
    rw [charsF_more m f (f + 1 - n) (l.drop n) (by omega) (by omega)]
theorem charsL_le (m l : List UInt8) : (Thk.charsL m l).2 ≤ l.length ∧ (Thk.charsL m l).1.length ≤ (Thk.charsL m l).2 := by
  generalize hn : l.length = N
  induction N using Nat.strongRecOn generalizing l with
  | ind N ih =>
    cases hc : Thk.charL m l with
    | none => rw [charsL_none hc]; simp
    | some p =>
      obtain ⟨c, n⟩ := p
      have := charL_le hc
      rw [charsL_some hc]
      have hd : (l.drop n).length = l.length - n := List.length_drop
      have := ih (N - n) (by omega) (l.drop n) (by omega)
      simp
      omega
def byteV (c : UInt8) : Value := .int .u8 c.toNat
/-- What the loop of literalAt keeps. -/
def LitRel (s : ByteArray) (k0 : Nat) (X : Thk.Bytes × Nat) (B : Nat) (w0 : World) (j : Nat) (xs : List UInt8) (v : Value) (wr : World) : Prop :=
  k0 + j ≤ s.size ∧ xs.length ≤ j ∧ wr.ownsRow B 5 1 v xs.length (xs.map byteV) ∧ Below B w0 wr ∧ B ≤ wr.heap.size ∧
  X = (xs ++ (Thk.charsL [39] (s.data.toList.drop (k0 + j))).1, j + (Thk.charsL [39] (s.data.toList.drop (k0 + j))).2)
theorem LitRel.next {s : ByteArray} {k0 : Nat} {X : Thk.Bytes × Nat} {B : Nat} {w0 : World} {j : Nat} {xs : List UInt8} {v : Value} {wr : World} (h : LitRel s k0 X B w0 j xs v wr)
    {c : UInt8} {n : Nat} (hc : Thk.charL [39] (s.data.toList.drop (k0 + j)) = some (c, n)) {v' : Value} {w' : World} {O : Obj}
    (ho : w'.ownsRow B 5 1 v' (xs.length + 1) (xs.map byteV ++ [byteV c])) (hg : (wr.alloc O).grownBy w' v.ownBlock) : LitRel s k0 X B w0 (j + n) (xs ++ [c]) v' w' := by
  obtain ⟨h1, h2, h3, h4, h5, h6⟩ := h
  have hle := charL_le hc
  rw [List.length_drop, show s.data.toList.length = s.size from rfl] at hle
  have hs := hg.size
  rw [show (wr.alloc O).heap.size = wr.heap.size + 1 from by simp] at hs
  refine ⟨by omega, by simp; omega, by simpa using ho, ?_, by omega, ?_⟩
  · exact (h4.alloc h5 O).grown hg (by simp; omega) (fun g hg' => (h3.lt g hg').1)
  · rw [h6, charsL_some hc, List.drop_drop, show k0 + j + n = k0 + (j + n) from by omega]
    simp
    omega
theorem LitRel.done {s : ByteArray} {k0 : Nat} {X : Thk.Bytes × Nat} {B : Nat} {w0 : World} {j : Nat} {xs : List UInt8} {v : Value} {wr : World} (h : LitRel s k0 X B w0 j xs v wr)
    (hc : Thk.charL [39] (s.data.toList.drop (k0 + j)) = none) : X = (xs, j) := by
  obtain ⟨_, _, _, _, _, h6⟩ := h
  rw [h6, charsL_none hc]
  simp
end Go.Proofs.YtiganlkabilblaaGreatDoor
namespace Go.Proofs.YtiganlkabilblaaGreatDoor
open Go.RowKit
theorem chv_some {c : UInt8} {n : Nat} : chv (some (c, n)) = .tuple #[.int .u8 c.toNat, .int .i64 n] := rfl
theorem chv_none : chv none = .tuple #[.int .u8 0, .int .i64 0] := rfl
theorem charAt_of (s mk : ByteArray) (k : Nat) (w : World) (hk : k ≤ s.size) (hs : s.size ≤ 2000) {o : Option (UInt8 × Nat)} (h : Thk.charL mk.data.toList (s.data.toList.drop k) = o) :
    Calls Tryz.prog 180 #[.string s, .int .i64 k, .string mk] w fun e w' => e = .returned (chv o) ∧ w' = w := h ▸ characterAt_any s mk k w hk hs
theorem conv_nil (w : World) : (convert 117 9 (.slice none 0 0)).run Tryz.prog w = .ok (.string ⟨#[]⟩) w := by kernel_rfl
theorem own_form {w : World} {B : Nat} {e : TypeId} {sz : Nat} {v : Value} {n : Nat} {xs : List Value} (h : w.ownsRow B e sz v n xs) : ∃ a c, v = .slice a n c := by
  rcases h.2 with ⟨rfl, rfl⟩ | ⟨g, cap, cur, rfl, _⟩
  · exact ⟨_, _, rfl⟩
  · exact ⟨_, _, rfl⟩
set_option maxHeartbeats 1000000 in
set_option maxRecDepth 100000 in
theorem literalAt_any (s : ByteArray) (k : Nat) (w : World) (hs : s.size ≤ 2000) (hk : k < s.size) :
    Calls Tryz.prog 157 #[.string s, .int .i64 k] w fun e w' =>
      e = .returned (.tuple #[tokV (Thk.litT (s.data.toList.drop (k + 1))) (.slice none 0 0), .int .i64 (Thk.litT (s.data.toList.drop (k + 1))).size]) ∧ Below w.heap.size w w' := by
  obtain ⟨X, hX⟩ : ∃ X, X = Thk.charsL [39] (s.data.toList.drop (k + 1)) := ⟨_, rfl⟩
  obtain ⟨T, hT⟩ : ∃ T, T = Thk.litT (s.data.toList.drop (k + 1)) := ⟨_, rfl⟩
  obtain ⟨C, hC⟩ : ∃ C, C = Thk.closesL (s.data.toList.drop (k + 1)) X.2 39 X.1.length := ⟨_, rfl⟩
  rw [← hT]
  have HT : Hid (T = if C then ⟨.lit, 0, X.2 + 2, X.1, []⟩ else Thk.badT) := by rw [hC, hX]; exact hT
  have HX : Hid (X = Thk.charsL [39] (s.data.toList.drop (k + 1))) := hX
  have HC : Hid (C = Thk.closesL (s.data.toList.drop (k + 1)) X.2 39 X.1.length) := hC
  clear hX hT hC
  obtain ⟨i0, hi, hz0, hz1, hz2⟩ := info_parts Tryz.infoU8
  go_enter Tryz.func157, Tryz.ntmps157
  go_wp2_with fail
  go_loopw [6, 7] (fun v i wr => ∃ (j : Nat) (xs : List UInt8), i = .int .i64 ↑(k + 1 + j) ∧ LitRel s (k + 1) X (w.heap.size + 1) (w.alloc (.cells #[.int .u8 0, .int .i64 0, .string ⟨#[]⟩, .slice none 0 0] 237)) j xs v wr) (fun _ i _ => s.size - (intOf i).toNat)
  case atStart =>
    refine ⟨0, [], by go_num, by omega, by simp, World.ownsRow_nil _ _ _ _, Below.refl _ _, by simp, ?_⟩
    rw [HX.out]; simp
  case round =>
    obtain ⟨j, xs, rfl, hR⟩ := hrel
    have hR1 := hR.1
    cases hc : Thk.charL [39] (s.data.toList.drop (k + 1 + j)) with
    | some p =>
      obtain ⟨c, n⟩ := p
      have HCC : Hid (Thk.charL [39] (s.data.toList.drop (k + 1 + j)) = some (c, n)) := hc
      have hcall := charAt_of s ⟨#[39]⟩ (k + 1 + j) wr (by omega) hs hc
      rw [chv_some] at hcall
      clear hc
      have hpos := (charL_le HCC.out).1
      have hle := (charL_le HCC.out).2
      rw [List.length_drop, show s.data.toList.length = s.size from rfl] at hle
      have ht : ((n : Int) == 0) = false := beq_eq_false_iff_ne.2 (by omega)
      have hown := hR.2.2.1
      have hxl := hR.2.1
      have hB := hR.2.2.2.2.1
      go_wp2_with (first | (go_at_call 180; refine hcall.mono ?_; rintro e w' ⟨rfl, rfl⟩) | (at_builtin; refine wpList_append_own _ rfl _ _ 117 rfl (w.heap.size + 1) 5 i0 (.int .u8 0) 1 1 Tryz.underlying117 hi hz0 hz1 hz2 rfl (by decide) _ _ _ rfl (hown.alloc _) ⟨w'.heap.size, 0, none⟩ 1 1 [byteV c] rfl rfl ?c1 ?c2 ?c3 ?c4 ?c5 ?_))
      case c1 => exact cell_one_new _ _ _
      case c2 => intro u hu; simp at hu; subst hu; rfl
      case c3 => unfold maxLen; omega
      case c4 => omega
      case c5 => simp; omega
      intro v' w1 hown' hgrow _
      have hN := hR.next HCC.out hown' hgrow
      clear hown' hgrow hown hB hxl hR hcall
      go_wp2
      go_roundw
      case rel => exact ⟨j + n, xs ++ [c], by go_num, hN⟩
      case measure => simp [intOf]; omega
    | none =>
      have hcall := charAt_of s ⟨#[39]⟩ (k + 1 + j) wr (by omega) hs hc
      rw [chv_none] at hcall
      have hD := hR.done hc
      clear hc
      subst hD
      have hown := hR.2.2.1
      have hxl := hR.2.1
      have hB := hR.2.2.2.2.1
      have hBl := hR.2.2.2.1
      have hcl := closes_any s (k + 1) j xs.length 39 wr hs (by omega) hR1
      rw [← HC.out] at hcl
      obtain ⟨a0, cp, hv⟩ := own_form hown
      subst hv
      obtain ⟨hc0, hf0⟩ := bcell (W := w.alloc (.cells #[.int .u8 0, .int .i64 0, .string ⟨#[]⟩, .slice none 0 0] 237)) (w1 := wr) (hBl.mono (by simp))
      have hlt : w.heap.size < wr.heap.size := by omega
      cases hCC : C with
      | true =>
        subst hCC
        simp only [if_true] at HT
        have e1 := HT.out
        subst e1
        clear HT HX
        have hconv : (convert 117 9 (.slice a0 xs.length cp)).run Tryz.prog wr = .ok (.string ⟨xs.toArray⟩) wr := by
          rcases hown.2 with ⟨hv, hn⟩ | ⟨g, cap, cur, hv, _⟩
          · have : xs = [] := List.length_eq_zero_iff.1 hn
            subst this
            simp only [Value.slice.injEq] at hv
            obtain ⟨rfl, _, rfl⟩ := hv
            exact conv_nil _
          · simp only [Value.slice.injEq] at hv
            obtain ⟨rfl, _, rfl⟩ := hv
            refine run_convert_bytes_back wr _ _ 5 _ _ xs Tryz.underlying117 Tryz.underlying5 Tryz.underlying9 ?_
            intro t ht
            exact hown.cells rfl t _ (by simp [byteV, List.getElem?_eq_getElem ht])
        clear hR hown
        go_wp2_with (first | (go_at_call 180; refine hcall.mono ?_; rintro e w' ⟨rfl, rfl⟩) | (go_at_call 181; refine hcl.mono ?_; rintro e w' ⟨rfl, rfl⟩))
        refine bodyPost_ret (v := .tuple #[.agg #[.int .u8 4, .int .i64 0, .string ⟨xs.toArray⟩, .slice none 0 0], .int .i64 (↑k + 1 + ↑j + 1 - ↑k)]) (by simp [results, Tryz.results157, go_sem, hc0, hlt]) rfl ⟨by rw [show ((k : Int) + 1 + j + 1 - k) = ((j + 2 : Nat) : Int) from by omega]; rfl, ?_⟩
        exact ((((((Below.refl _ _).alloc (Nat.le_refl _) _).trans (hBl.mono (by simp))).setCell (Nat.le_refl _) _).setCell (Nat.le_refl _) _).setCell (Nat.le_refl _) _).setCell (Nat.le_refl _) _
      | false =>
        subst hCC
        have e1 := HT.out
        simp at e1
        subst e1
        clear HT HX hown hR
        go_wp2_with (first | (go_at_call 180; refine hcall.mono ?_; rintro e w' ⟨rfl, rfl⟩) | (go_at_call 181; refine hcl.mono ?_; rintro e w' ⟨rfl, rfl⟩) | (go_at_call 160; refine (bad_any _).mono ?_; rintro e w1 ⟨rfl, hb⟩; obtain ⟨hc1, hf1⟩ := bcell hb; have hz := hb.size; simp only [tokV, Thk.badT, kindI]))
        refine bodyPost_ret (v := .tuple #[tokV Thk.badT (.slice none 0 0), .int .i64 0]) (by simp [results, Tryz.results157, go_sem, tokV, kindI, Thk.badT, hc1, hc0, hlt, show w.heap.size < w1.heap.size from by omega]) rfl ⟨rfl, ?_⟩
        exact ((((((((Below.refl _ _).alloc (Nat.le_refl _) _).trans (hBl.mono (by simp))).trans (hb.mono (by omega)))).setCell (Nat.le_refl _) _).setCell (Nat.le_refl _) _).setCell (Nat.le_refl _) _).setCell (Nat.le_refl _) _
end Go.Proofs.YtiganlkabilblaaGreatDoor
namespace Go.Proofs.YtiganlkabilblaaGreatDoor
open Go.RowKit
def spv : Option (Thk.Span × Nat) → Value
  | none => .tuple #[.agg #[.int .u8 0, .int .u8 0], .int .i64 0]
  | some (p, n) => .tuple #[.agg #[.int .u8 p.1.toNat, .int .u8 p.2.toNat], .int .i64 n]
theorem below_alloc (w : World) (o : Obj) : Below w.heap.size w (w.alloc o) := (Below.refl _ _).alloc (Nat.le_refl _) _
set_option maxHeartbeats 1000000 in
set_option maxRecDepth 100000 in
theorem spanAt_any (s : ByteArray) (k : Nat) (w : World) (hs : s.size ≤ 2000) (hk : k ≤ s.size) :
    Calls Tryz.prog 182 #[.string s, .int .i64 k] w fun e w' => e = .returned (spv (Thk.spanL (s.data.toList.drop k))) ∧ Below w.heap.size w w' := by
  unfold Thk.spanL
  cases hc : Thk.charL [93, 45] (s.data.toList.drop k) with
  | none =>
    have hcall := fun w => charAt_of s ⟨#[93, 45]⟩ k w hk hs hc
    rw [chv_none] at hcall
    clear hc
    go_enter Tryz.func182, Tryz.ntmps182
    go_wp2_with (go_at_call 180; refine (hcall _).mono ?_; rintro e w' ⟨rfl, rfl⟩)
    refine bodyPost_ret (v := spv none) (by simp [results, Tryz.results182, go_sem, spv]) rfl ⟨rfl, below_alloc _ _⟩
  | some p =>
    obtain ⟨lo, n⟩ := p
    have hcall := fun w => charAt_of s ⟨#[93, 45]⟩ k w hk hs hc
    rw [chv_some] at hcall
    have hle := charL_le hc
    rw [List.length_drop, show s.data.toList.length = s.size from rfl] at hle
    obtain ⟨hn1, hn2⟩ := hle
    have ht : ((n : Int) == 0) = false := beq_eq_false_iff_ne.2 (by omega)
    clear hc
    simp only []
    by_cases h1 : k + n < s.size
    · rw [getElem?_drop' s k n h1]
      have t1 : ((k : Int) + n == s.size) = false := beq_eq_false_iff_ne.2 (by omega)
      by_cases h2 : s[k + n] = 45
      · rw [if_pos (by rw [h2])]
        have t2 : ((s[k + n].toNat : Int) != 45) = false := by rw [h2]; rfl
        clear h2
        rw [List.drop_drop]
        cases hc : Thk.charL [93, 45] (s.data.toList.drop (k + (n + 1))) with
        | none =>
          have hcall2 := fun w => charAt_of s ⟨#[93, 45]⟩ (k + (n + 1)) w (by omega) hs hc
          rw [chv_none] at hcall2
          simp only [show ((k + (n + 1) : Nat) : Int) = (k : Int) + n + 1 from by omega] at hcall2
          clear hc
          go_enter Tryz.func182, Tryz.ntmps182
          go_wp2_with fail
          refine (hcall _).mono ?_
          rintro e w' ⟨rfl, rfl⟩
          go_wp2_with fail
          refine (hcall2 _).mono ?_
          rintro e w' ⟨rfl, rfl⟩
          go_wp2_with fail
          refine bodyPost_ret (v := spv none) (by simp [results, Tryz.results182, go_sem, spv]) rfl ⟨rfl, below_alloc _ _⟩
        | some p =>
          obtain ⟨hi, m⟩ := p
          have hcall2 := fun w => charAt_of s ⟨#[93, 45]⟩ (k + (n + 1)) w (by omega) hs hc
          rw [chv_some] at hcall2
          have hle := charL_le hc
          rw [List.length_drop, show s.data.toList.length = s.size from rfl] at hle
          obtain ⟨hm1, hm2⟩ := hle
          simp only [show ((k + (n + 1) : Nat) : Int) = (k : Int) + n + 1 from by omega] at hcall2
          clear hc
          have t3 : ((m : Int) == 0) = false := beq_eq_false_iff_ne.2 (by omega)
          simp only []
          by_cases h4 : lo ≤ hi
          · rw [if_pos h4]
            have t4 : (lo.toNat : Int) ≤ hi.toNat := by rw [UInt8.le_iff_toNat_le] at h4; omega
            clear h4
            go_enter Tryz.func182, Tryz.ntmps182
            go_wp2_with fail
            refine (hcall _).mono ?_
            rintro e w' ⟨rfl, rfl⟩
            go_wp2_with fail
            refine (hcall2 _).mono ?_
            rintro e w' ⟨rfl, rfl⟩
            go_wp2_with fail
            refine bodyPost_ret (v := spv (some ((lo, hi), n + 1 + m))) (by simp [results, Tryz.results182, go_sem, spv]) rfl ⟨rfl, below_alloc _ _⟩
          · rw [if_neg h4]
            have t4 : ¬ (lo.toNat : Int) ≤ hi.toNat := by rw [UInt8.le_iff_toNat_le] at h4; omega
            clear h4
            go_enter Tryz.func182, Tryz.ntmps182
            go_wp2_with fail
            refine (hcall _).mono ?_
            rintro e w' ⟨rfl, rfl⟩
            go_wp2_with fail
            refine (hcall2 _).mono ?_
            rintro e w' ⟨rfl, rfl⟩
            go_wp2_with fail
            refine bodyPost_ret (v := spv none) (by simp [results, Tryz.results182, go_sem, spv]) rfl ⟨rfl, below_alloc _ _⟩
      · rw [if_neg (by simpa using h2)]
        have t2 : ((s[k + n].toNat : Int) != 45) = true := by rw [bne_iff_ne]; intro e; apply h2; apply UInt8.toNat_inj.1; rw [show (45 : UInt8).toNat = 45 from rfl]; omega
        clear h2
        go_enter Tryz.func182, Tryz.ntmps182
        go_wp2_with (go_at_call 180; refine (hcall _).mono ?_; rintro e w' ⟨rfl, rfl⟩)
        refine bodyPost_ret (v := spv (some ((lo, lo), n))) (by simp [results, Tryz.results182, go_sem, spv]) rfl ⟨rfl, below_alloc _ _⟩
    · rw [getElem?_drop_end s k n (by omega)]
      have t1 : ((k : Int) + n == s.size) = true := beq_iff_eq.2 (by omega)
      rw [if_neg (by simp)]
      go_enter Tryz.func182, Tryz.ntmps182
      go_wp2_with (go_at_call 180; refine (hcall _).mono ?_; rintro e w' ⟨rfl, rfl⟩)
      refine bodyPost_ret (v := spv (some ((lo, lo), n))) (by simp [results, Tryz.results182, go_sem, spv]) rfl ⟨rfl, below_alloc _ _⟩
end Go.Proofs.YtiganlkabilblaaGreatDoor
namespace Go.Proofs.YtiganlkabilblaaGreatDoor
open Go.RowKit
theorem Tryz.infoSpan : (Tryz.prog.info? 313).map (fun i => (i.zero, i.size, i.bytes)) = some (some (.agg #[.int .u8 0, .int .u8 0]), 2, 2) := by kernel_rfl
theorem spanL_le {l : List UInt8} {c : Thk.Span} {n : Nat} (h : Thk.spanL l = some (c, n)) : 1 ≤ n ∧ n ≤ l.length := by
  unfold Thk.spanL at h
  cases hc : Thk.charL [93, 45] l with
  | none => rw [hc] at h; cases h
  | some p =>
    obtain ⟨lo, m⟩ := p
    have h1 := charL_le hc
    rw [hc] at h
    simp only [] at h
    split at h
    · cases hd : Thk.charL [93, 45] (l.drop (m + 1)) with
      | none => rw [hd] at h; cases h
      | some q =>
        obtain ⟨hi, r⟩ := q
        have h2 := charL_le hd
        rw [hd] at h
        simp only [] at h
        have hl : (l.drop (m + 1)).length = l.length - (m + 1) := List.length_drop
        split at h
        · simp at h; omega
        · cases h
    · simp at h; omega
theorem spansF_more : ∀ (f g : Nat) (l : List UInt8), l.length ≤ f → l.length ≤ g → Thk.spansF f l = Thk.spansF g l
  | 0, 0, _, _, _ => rfl
  | 0, g + 1, l, hf, _ => by
    have : l = [] := List.length_eq_zero_iff.1 (by omega)
    subst this; simp [Thk.spansF, Thk.spanL, Thk.charL]
  | f + 1, 0, l, _, hg => by
    have : l = [] := List.length_eq_zero_iff.1 (by omega)
    subst this; simp [Thk.spansF, Thk.spanL, Thk.charL]
  | f + 1, g + 1, l, hf, hg => by
    simp only [Thk.spansF]
    cases hc : Thk.spanL l with
    | none => rfl
    | some p =>
      obtain ⟨c, n⟩ := p
      have := spanL_le hc
      have hd : (l.drop n).length = l.length - n := List.length_drop
      simp only []
      rw [spansF_more f g (l.drop n) (by omega) (by omega)]
theorem spansL_none {l : List UInt8} (h : Thk.spanL l = none) : Thk.spansL l = ([], 0) := by
  unfold Thk.spansL
  cases hl : l.length with
  | zero => rfl
  | succ f => simp [Thk.spansF, h]
theorem spansL_some {l : List UInt8} {c : Thk.Span} {n : Nat} (h : Thk.spanL l = some (c, n)) :
    Thk.spansL l = (c :: (Thk.spansL (l.drop n)).1, n + (Thk.spansL (l.drop n)).2) := by
  have hle := spanL_le h
  unfold Thk.spansL
  cases hl : l.length with
  | zero => omega
  | succ f =>
    have hd : (l.drop n).length = l.length - n := List.length_drop
    rw [hd, hl]
    simp only [Thk.spansF, h]
    rw [spansF_more f (f + 1 - n) (l.drop n) (by omega) (by omega)]
def spanC (p : Thk.Span) : List Value := [.int .u8 p.1.toNat, .int .u8 p.2.toNat]
/-- The slice v holds the spans. -/
def Spans (w : World) (B : Nat) (v : Value) (xs : List Thk.Span) : Prop := w.ownsRow B 313 2 v xs.length (xs.flatMap spanC)
/-- What the loop of classAt keeps. -/
def ClsRel (s : ByteArray) (k0 : Nat) (X : List Thk.Span × Nat) (B : Nat) (w0 : World) (j : Nat) (xs : List Thk.Span) (v : Value) (wr : World) : Prop :=
  k0 + j ≤ s.size ∧ xs.length ≤ j ∧ Spans wr B v xs ∧ Below B w0 wr ∧ B ≤ wr.heap.size ∧
  X = (xs ++ (Thk.spansL (s.data.toList.drop (k0 + j))).1, j + (Thk.spansL (s.data.toList.drop (k0 + j))).2)
/-- A row that is owned stays so behind what leaves all old blocks as they are. -/
theorem own_below {w w' : World} {base : Nat} {e : TypeId} {size : Nat} {v : Value} {n : Nat} {xs : List Value} (h : w.ownsRow base e size v n xs) (hb : Below w.heap.size w w') : w'.ownsRow base e size v n xs := by
  obtain ⟨h1, h2⟩ := h
  refine ⟨h1, ?_⟩
  rcases h2 with h2 | ⟨g, cap, cur, hv, hg, hh, r⟩
  · exact Or.inl h2
  · refine Or.inr ⟨g, cap, cur, hv, hg, ?_, r⟩
    rw [hb.block g ?_]; exact hh
    rcases Nat.lt_or_ge g w.heap.size with h | h
    · exact h
    · rw [Array.getElem?_eq_none h] at hh; cases hh
theorem own_mono {w : World} {base base' : Nat} {e : TypeId} {size : Nat} {v : Value} {n : Nat} {xs : List Value} (h : w.ownsRow base e size v n xs) (hb : base' ≤ base) : w.ownsRow base' e size v n xs := by
  obtain ⟨h1, h2⟩ := h
  refine ⟨h1, ?_⟩
  rcases h2 with h2 | ⟨g, cap, cur, hv, hg, r⟩
  · exact Or.inl h2
  · exact Or.inr ⟨g, cap, cur, hv, Nat.le_trans hb hg, r⟩
theorem ClsRel.next {s : ByteArray} {k0 : Nat} {X : List Thk.Span × Nat} {B : Nat} {w0 : World} {j : Nat} {xs : List Thk.Span} {v : Value} {wr : World} (h : ClsRel s k0 X B w0 j xs v wr)
    {c : Thk.Span} {n : Nat} (hc : Thk.spanL (s.data.toList.drop (k0 + j)) = some (c, n)) {v' : Value} {w1 w' : World} (hb : Below wr.heap.size wr w1)
    (ho : w'.ownsRow B 313 2 v' (xs.length + 1) (xs.flatMap spanC ++ spanC c)) (hg : w1.grownBy w' v.ownBlock) : ClsRel s k0 X B w0 (j + n) (xs ++ [c]) v' w' := by
  obtain ⟨h1, h2, h3, h4, h5, h6⟩ := h
  have hle := spanL_le hc
  rw [List.length_drop, show s.data.toList.length = s.size from rfl] at hle
  have hs := hg.size
  have hs1 := hb.size
  refine ⟨by omega, by simp; omega, by simpa [Spans] using ho, ?_, by omega, ?_⟩
  · exact (h4.trans (hb.mono h5)).grown hg (by omega) (fun g hg' => (h3.lt g hg').1)
  · rw [h6, spansL_some hc, List.drop_drop, show k0 + j + n = k0 + (j + n) from by omega]
    simp
    omega
theorem ClsRel.done {s : ByteArray} {k0 : Nat} {X : List Thk.Span × Nat} {B : Nat} {w0 : World} {j : Nat} {xs : List Thk.Span} {v : Value} {wr : World} (h : ClsRel s k0 X B w0 j xs v wr)
    (hc : Thk.spanL (s.data.toList.drop (k0 + j)) = none) : X = (xs, j) := by
  obtain ⟨_, _, _, _, _, h6⟩ := h
  rw [h6, spansL_none hc]
  simp
theorem spanAt_of (s : ByteArray) (k : Nat) (w : World) (hs : s.size ≤ 2000) (hk : k ≤ s.size) {o : Option (Thk.Span × Nat)} (h : Thk.spanL (s.data.toList.drop k) = o) :
    Calls Tryz.prog 182 #[.string s, .int .i64 k] w fun e w' => e = .returned (spv o) ∧ Below w.heap.size w w' := h ▸ spanAt_any s k w hs hk
theorem cell_two_new' (w : World) (x y : Value) (t : TypeId) : ∀ j u, [x, y][j]? = some u → (w.alloc (.cells #[x, y] t)).cell? ((⟨w.heap.size, 0, none⟩ : Addr).add j) = some u := by
  intro j u hj
  match j, hj with
  | 0, hj => simp at hj; subst hj; simp [Addr.add]
  | 1, hj => simp at hj; subst hj; simp [Addr.add]
set_option maxHeartbeats 1000000 in
set_option maxRecDepth 100000 in
theorem classAt_any (s : ByteArray) (k : Nat) (w : World) (hs : s.size ≤ 2000) (hk : k < s.size) :
    Calls Tryz.prog 158 #[.string s, .int .i64 k] w fun e w' => ∃ v,
      e = .returned (.tuple #[tokV (Thk.clsT (s.data.toList.drop (k + 1))) v, .int .i64 (Thk.clsT (s.data.toList.drop (k + 1))).size]) ∧ Below w.heap.size w w' ∧ Spans w' w.heap.size v (Thk.clsT (s.data.toList.drop (k + 1))).spans := by
  obtain ⟨X, hX⟩ : ∃ X, X = Thk.spansL (s.data.toList.drop (k + 1)) := ⟨_, rfl⟩
  obtain ⟨T, hT⟩ : ∃ T, T = Thk.clsT (s.data.toList.drop (k + 1)) := ⟨_, rfl⟩
  obtain ⟨C, hC⟩ : ∃ C, C = Thk.closesL (s.data.toList.drop (k + 1)) X.2 93 X.1.length := ⟨_, rfl⟩
  rw [← hT]
  have HT : Hid (T = if C then ⟨.cls, 0, X.2 + 2, [], X.1⟩ else Thk.badT) := by rw [hC, hX]; exact hT
  have HX : Hid (X = Thk.spansL (s.data.toList.drop (k + 1))) := hX
  have HC : Hid (C = Thk.closesL (s.data.toList.drop (k + 1)) X.2 93 X.1.length) := hC
  clear hX hT hC
  obtain ⟨i0, hi, hz0, hz1, hz2⟩ := info_parts Tryz.infoSpan
  go_enter Tryz.func158, Tryz.ntmps158
  go_wp2_with fail
  go_loopw [6, 7] (fun v i wr => ∃ (j : Nat) (xs : List Thk.Span), i = .int .i64 ↑(k + 1 + j) ∧ ClsRel s (k + 1) X (w.heap.size + 1) (w.alloc (.cells #[.int .u8 0, .int .i64 0, .string ⟨#[]⟩, .slice none 0 0] 237)) j xs v wr) (fun _ i _ => s.size - (intOf i).toNat)
  case atStart =>
    refine ⟨0, [], by go_num, by omega, by simp, World.ownsRow_nil _ _ _ _, Below.refl _ _, by simp, ?_⟩
    rw [HX.out]; simp
  case round =>
    obtain ⟨j, xs, rfl, hR⟩ := hrel
    have hR1 := hR.1
    cases hc : Thk.spanL (s.data.toList.drop (k + 1 + j)) with
    | some p =>
      obtain ⟨c, n⟩ := p
      have HCC : Hid (Thk.spanL (s.data.toList.drop (k + 1 + j)) = some (c, n)) := hc
      have hcall := spanAt_of s (k + 1 + j) wr hs (by omega) hc
      simp only [spv] at hcall
      clear hc
      have hpos := (spanL_le HCC.out).1
      have hle := (spanL_le HCC.out).2
      rw [List.length_drop, show s.data.toList.length = s.size from rfl] at hle
      have ht : ((n : Int) == 0) = false := beq_eq_false_iff_ne.2 (by omega)
      have hown : wr.ownsRow (w.heap.size + 1) 313 2 u6 xs.length (xs.flatMap spanC) := hR.2.2.1
      have hxl := hR.2.1
      have hB := hR.2.2.2.2.1
      go_wp2_with (first | (go_at_call 182; refine hcall.mono ?_; rintro e w1 ⟨rfl, hb1⟩; have hown1 := own_below hown hb1; have hsz1 := hb1.size) | (at_builtin; refine wpList_append_own _ rfl _ _ 235 rfl (w.heap.size + 1) 313 i0 _ 2 2 Tryz.underlying235 hi hz0 hz1 hz2 rfl (by decide) _ _ _ rfl ((hown1.alloc _).alloc _) ⟨w1.heap.size + 1, 0, none⟩ 1 1 (spanC c) rfl rfl ?c1 ?c2 ?c3 ?c4 ?c5 ?_))
      case c1 => rw [← World.size_alloc w1 (Obj.cells #[Value.int IntKind.u8 ↑c.fst.toNat, Value.int IntKind.u8 ↑c.snd.toNat] 313)]; exact cell_two_new' _ _ _ _
      case c2 => intro u hu; simp [spanC] at hu; rcases hu with rfl | rfl <;> rfl
      case c3 => unfold maxLen; omega
      case c4 => omega
      case c5 => simp; omega
      intro v' w2 hown' hgrow _
      have hN := hR.next HCC.out ((hb1.alloc hsz1 _).alloc (by simp; omega) _) hown' hgrow
      clear hown' hgrow hown hB hxl hR hcall hown1 hb1
      go_wp2
      go_roundw
      case rel => exact ⟨j + n, xs ++ [c], by go_num, hN⟩
      case measure => simp [intOf]; omega
    | none =>
      have hcall := spanAt_of s (k + 1 + j) wr hs (by omega) hc
      simp only [spv] at hcall
      have hD := hR.done hc
      clear hc
      subst hD
      have hown : wr.ownsRow (w.heap.size + 1) 313 2 u6 xs.length (xs.flatMap spanC) := hR.2.2.1
      have hxl := hR.2.1
      have hB := hR.2.2.2.2.1
      have hBl := hR.2.2.2.1
      have hcl := fun w => closes_any s (k + 1) j xs.length 93 w hs (by omega) hR1
      simp only [← HC.out] at hcl
      obtain ⟨a0, cp, hv⟩ := own_form hown
      subst hv
      have hlt : w.heap.size < wr.heap.size := by omega
      cases hCC : C with
      | true =>
        subst hCC
        simp only [if_true] at HT
        have e1 := HT.out
        subst e1
        clear HT HX
        have HOWN : Hid (wr.ownsRow (w.heap.size + 1) 313 2 (.slice a0 xs.length cp) xs.length (xs.flatMap spanC)) := hown
        clear hR hown
        go_wp2_with (first | (go_at_call 182; refine hcall.mono ?_; rintro e w1 ⟨rfl, hb1⟩; obtain ⟨hc0, hf0⟩ := bcell ((Below.mono (B' := (w.alloc (.cells #[.int .u8 0, .int .i64 0, .string ⟨#[]⟩, .slice none 0 0] 237)).heap.size) hBl (by simp)).trans (hb1.mono (by simp; omega))); have hsz1 := hb1.size; have hlt1 : w.heap.size < w1.heap.size := (by omega)) | (go_at_call 181; refine (hcl _).mono ?_; rintro e w' ⟨rfl, rfl⟩))
        refine bodyPost_ret (v := .tuple #[.agg #[.int .u8 5, .int .i64 0, .string ⟨#[]⟩, .slice a0 xs.length cp], .int .i64 (↑k + 1 + ↑j + 1 - ↑k)]) (by simp [results, Tryz.results158, go_sem, hc0, hlt1]) rfl ⟨.slice a0 xs.length cp, by rw [show ((k : Int) + 1 + j + 1 - k) = ((j + 2 : Nat) : Int) from by omega]; rfl, ?_, ?_⟩
        · exact (((((((((Below.refl _ _).alloc (Nat.le_refl _) _).trans (hBl.mono (by simp))).trans (hb1.mono (by omega)))).setCell (Nat.le_refl _) _).setCell (Nat.le_refl _) _).setCell (Nat.le_refl _) _).setCell (Nat.le_refl _) _).alloc (by simp; omega) _
        · exact own_mono ((ownsRow_setCell_below (ownsRow_setCell_below (ownsRow_setCell_below (ownsRow_setCell_below (own_below HOWN.out hb1) (Nat.lt_succ_self _) _) (Nat.lt_succ_self _) _) (Nat.lt_succ_self _) _) (Nat.lt_succ_self _) _).alloc _) (Nat.le_succ _)
      | false =>
        subst hCC
        have e1 := HT.out
        simp at e1
        subst e1
        clear HT HX hown hR
        go_wp2_with (first | (go_at_call 182; refine hcall.mono ?_; rintro e w1 ⟨rfl, hb1⟩; obtain ⟨hc0, hf0⟩ := bcell ((Below.mono (B' := (w.alloc (.cells #[.int .u8 0, .int .i64 0, .string ⟨#[]⟩, .slice none 0 0] 237)).heap.size) hBl (by simp)).trans (hb1.mono (by simp; omega))); have hsz1 := hb1.size; have hlt1 : w.heap.size < w1.heap.size := (by omega)) | (go_at_call 181; refine (hcl _).mono ?_; rintro e w' ⟨rfl, rfl⟩) | (go_at_call 160; refine (bad_any _).mono ?_; rintro e w2 ⟨rfl, hb⟩; obtain ⟨hc1, hf1⟩ := bcell hb; have hz := hb.size; simp only [tokV, Thk.badT, kindI]))
        have q : ∀ o, w2.cell? ⟨w.heap.size, o, none⟩ = (#[.int .u8 0, .int .i64 0, .string ⟨#[]⟩, .slice none 0 0] : Array Value)[o]? := fun o => by
          rw [hc1 _ _ (by simp; omega), World.cell?_alloc_lt _ _ _ hlt1, hc0 _ _ (by simp)]; simp
        clear hc1 hc0
        refine bodyPost_ret (v := .tuple #[tokV Thk.badT (.slice none 0 0), .int .i64 0]) (by simp [results, Tryz.results158, go_sem, tokV, kindI, Thk.badT, q]) rfl ⟨_, rfl, ?_, World.ownsRow_nil _ _ _ _⟩
        exact ((((((((((Below.refl _ _).alloc (Nat.le_refl _) _).trans (hBl.mono (by simp))).trans (hb1.mono (by omega))).alloc (by omega) _).trans (hb.mono (by simp; omega)))).setCell (Nat.le_refl _) _).setCell (Nat.le_refl _) _).setCell (Nat.le_refl _) _).setCell (Nat.le_refl _) _
end Go.Proofs.YtiganlkabilblaaGreatDoor
namespace Go.Proofs.YtiganlkabilblaaGreatDoor
open Go.RowKit
set_option maxHeartbeats 400000 in
theorem prefix_any (s : ByteArray) (w : World) (hs : s.size ≤ 2000) :
    Calls Tryz.prog 156 #[.string s, .string ⟨#[60, 45]⟩] w fun e w' => e = .returned (.bool (s.data.toList.take 2 == [60, 45])) ∧ w' = w := by
  by_cases h : 2 ≤ s.size
  · go_enter Tryz.func156, Tryz.ntmps156
    go_wp2
    go_ret
    refine ⟨?_, rfl⟩
    have e1 : (s.extract 0 2).toList = s.data.toList.take 2 := by
      rw [show (2 : Nat) = 0 + 2 from rfl, extract_take]; simp
    show Ending.returned (Value.bool ((s.extract 0 2).toList == [60, 45])) = _
    rw [e1]
  · have e1 : (s.data.toList.take 2 == [60, 45]) = false := by
      rw [beq_eq_false_iff_ne]; intro hh
      have := congrArg List.length hh
      have hl : s.data.toList.length = s.size := rfl
      simp [hl] at this
      omega
    rw [e1]
    have hd : ¬ (2 : Int) ≤ s.size := by omega
    go_enter Tryz.func156, Tryz.ntmps156
    go_wp2
    go_ret
    exact ⟨rfl, rfl⟩
/-- What a call that hands back a token leaves. -/
def TokPost (w : World) (t : Thk.Tok) (e : Ending) (w' : World) : Prop :=
  ∃ v, e = .returned (.tuple #[tokV t v, .int .i64 t.size]) ∧ Below w.heap.size w w' ∧ Spans w' w.heap.size v t.spans
theorem nameT_spans (l : List UInt8) : (Thk.nameT l).spans = [] := by unfold Thk.nameT; split <;> rfl
theorem litT_spans (l : List UInt8) : (Thk.litT l).spans = [] := by unfold Thk.litT; split <;> rfl
theorem nameAt_tok (s : ByteArray) (k : Nat) (w : World) (hs : s.size ≤ 2000) (hk : k ≤ s.size) :
    Calls Tryz.prog 155 #[.string s, .int .i64 k] w (TokPost w (Thk.nameT (s.data.toList.drop k))) := by
  refine (nameAt_any s k w hs hk).mono ?_
  rintro e w' ⟨rfl, hb⟩
  exact ⟨_, rfl, hb, by rw [nameT_spans]; exact World.ownsRow_nil _ _ _ _⟩
theorem literalAt_tok (s : ByteArray) (k : Nat) (w : World) (hs : s.size ≤ 2000) (hk : k < s.size) :
    Calls Tryz.prog 157 #[.string s, .int .i64 k] w (TokPost w (Thk.litT (s.data.toList.drop (k + 1)))) := by
  refine (literalAt_any s k w hs hk).mono ?_
  rintro e w' ⟨rfl, hb⟩
  exact ⟨_, rfl, hb, by rw [litT_spans]; exact World.ownsRow_nil _ _ _ _⟩
theorem classAt_tok (s : ByteArray) (k : Nat) (w : World) (hs : s.size ≤ 2000) (hk : k < s.size) :
    Calls Tryz.prog 158 #[.string s, .int .i64 k] w (TokPost w (Thk.clsT (s.data.toList.drop (k + 1)))) := classAt_any s k w hs hk
theorem bad_tok (w : World) : Calls Tryz.prog 160 #[] w (TokPost w Thk.badT) := by
  refine (bad_any w).mono ?_
  rintro e w' ⟨rfl, hb⟩
  exact ⟨_, rfl, hb, World.ownsRow_nil _ _ _ _⟩
abbrev zTok : Obj := .cells #[.int .u8 0, .int .i64 0, .string ⟨#[]⟩, .slice none 0 0] 237
/-- Behind a call, the token's cells are stored into the result's block: what is left is what is asked. -/
theorem tok_end {w w1 : World} {v : Value} {xs : List Thk.Span} (a b c d : Value) (hb : Below (w.alloc zTok).heap.size (w.alloc zTok) w1) (hv : Spans w1 (w.alloc zTok).heap.size v xs) :
    Below w.heap.size w ((((w1.setCell ⟨w.heap.size, 0, none⟩ a).setCell ⟨w.heap.size, 1, none⟩ b).setCell ⟨w.heap.size, 2, none⟩ c).setCell ⟨w.heap.size, 3, none⟩ d) ∧
    Spans ((((w1.setCell ⟨w.heap.size, 0, none⟩ a).setCell ⟨w.heap.size, 1, none⟩ b).setCell ⟨w.heap.size, 2, none⟩ c).setCell ⟨w.heap.size, 3, none⟩ d) w.heap.size v xs := by
  refine ⟨((((((Below.refl _ _).alloc (Nat.le_refl _) _).trans (hb.mono (by simp))).setCell (Nat.le_refl _) _).setCell (Nat.le_refl _) _).setCell (Nat.le_refl _) _).setCell (Nat.le_refl _) _, ?_⟩
  rw [show (w.alloc zTok).heap.size = w.heap.size + 1 from by simp] at hv
  exact own_mono (ownsRow_setCell_below (ownsRow_setCell_below (ownsRow_setCell_below (ownsRow_setCell_below hv (Nat.lt_succ_self _) _) (Nat.lt_succ_self _) _) (Nat.lt_succ_self _) _) (Nat.lt_succ_self _) _) (Nat.le_succ _)
theorem tok_cells {w w1 : World} (hb : Below (w.alloc zTok).heap.size (w.alloc zTok) w1) :
    (∀ o, w1.cell? ⟨w.heap.size, o, none⟩ = (#[.int .u8 0, .int .i64 0, .string ⟨#[]⟩, .slice none 0 0] : Array Value)[o]?) ∧ (∀ o, w1.frozen? ⟨w.heap.size, o, none⟩ = false) ∧ w.heap.size < w1.heap.size := by
  obtain ⟨h1, h2⟩ := bcell hb
  refine ⟨fun o => ?_, fun o => ?_, ?_⟩
  · rw [h1 _ _ (by simp)]; simp
  · rw [h2 _ _ (by simp)]; simp
  · have := hb.size; simp at this; omega
theorem take2 (s : ByteArray) (k : Nat) (h : k < s.size) : ((s.extract k s.size).data.toList.take 2 == [60, 45]) = decide (s[k] = 60 ∧ (s.data.toList.drop (k + 1)).head? = some 45) := by
  rw [extract_drop, drop_cons s k h]
  rw [Bool.eq_iff_iff]
  cases s.data.toList.drop (k + 1) with
  | nil => simp
  | cons d t => simp
theorem size_extract' (s : ByteArray) (k : Nat) : (s.extract k s.size).size ≤ s.size := by
  have : (s.extract k s.size).data.toList.length = s.data.toList.length - k := by rw [extract_drop, List.length_drop]
  have e1 : (s.extract k s.size).data.toList.length = (s.extract k s.size).size := rfl
  have e2 : s.data.toList.length = s.size := rfl
  omega
set_option maxHeartbeats 2000000 in
set_option maxRecDepth 100000 in
theorem tokenAt_any (s : ByteArray) (k : Nat) (w : World) (hs : s.size ≤ 2000) (hk : k ≤ s.size) :
    Calls Tryz.prog 122 #[.string s, .int .i64 k] w fun e w' => TokPost w (Thk.tokL (s.data.toList.drop k)) e w' := by
  by_cases hlt : k < s.size
  · have t0 : ((k : Int) == s.size) = false := beq_eq_false_iff_ne.2 (by omega)
    have hn := fun w => nameAt_tok s k w hs hk
    have hl := fun w => literalAt_tok s k w hs hlt
    have hcl := fun w => classAt_tok s k w hs hlt
    have hp := fun w => prefix_any (s.extract k s.size) w (by have := size_extract' s k; omega)
    rw [take2 s k hlt] at hp
    rw [drop_cons s k hlt] at hn ⊢
    simp only [Thk.tokL]
    by_cases h1 : Thk.isLet s[k] = true
    · rw [if_pos h1]
      generalize Thk.nameT (s[k] :: s.data.toList.drop (k + 1)) = T at *
      clear hl hcl hp
      go_enter Tryz.func122, Tryz.ntmps122
      go_wp2_with (first | (go_at_call 154; refine (isLetter_any _ _).mono ?_; rintro e w' ⟨rfl, rfl⟩; rw [h1]) | (go_at_call 155; refine (hn _).mono ?_; rintro e w1 ⟨v, rfl, hb, hv⟩; obtain ⟨a0, c0, rfl⟩ := own_form hv; obtain ⟨q1, q2, q3⟩ := tok_cells hb; simp only [tokV]))
      refine bodyPost_ret (v := .tuple #[tokV T (.slice a0 T.spans.length c0), .int .i64 T.size]) (by simp [results, Tryz.results122, go_sem, tokV, q1]) rfl ⟨_, rfl, ?_⟩
      exact tok_end _ _ _ _ hb hv
    rw [if_neg h1]
    have h1' : Thk.isLet s[k] = false := by simpa using h1
    clear h1 hn
    by_cases h2 : s[k] = 60 ∧ (s.data.toList.drop (k + 1)).head? = some 45
    · rw [decide_eq_true h2] at hp
      rw [if_pos h2]
      clear h2 hl hcl
      go_enter Tryz.func122, Tryz.ntmps122
      go_wp2_with (first | (go_at_call 154; refine (isLetter_any _ _).mono ?_; rintro e w' ⟨rfl, rfl⟩; rw [h1']) | (go_at_call 156; refine (hp _).mono ?_; rintro e w' ⟨rfl, rfl⟩))
      refine bodyPost_ret (v := .tuple #[tokV ⟨.arrow, 0, 2, [], []⟩ (.slice none 0 0), .int .i64 2]) (by simp [results, Tryz.results122, go_sem, tokV, kindI]) rfl ⟨_, rfl, below_alloc _ _, World.ownsRow_nil _ _ _ _⟩
    rw [decide_eq_false h2] at hp
    rw [if_neg h2]
    clear h2
    by_cases h3 : s[k] = 39
    · rw [if_pos h3]
      have t3 := u8_beq_true h3 39 rfl
      clear h3 hcl
      generalize Thk.litT (s.data.toList.drop (k + 1)) = T at *
      go_enter Tryz.func122, Tryz.ntmps122
      go_wp2_with (first | (go_at_call 154; refine (isLetter_any _ _).mono ?_; rintro e w' ⟨rfl, rfl⟩; rw [h1']) | (go_at_call 156; refine (hp _).mono ?_; rintro e w' ⟨rfl, rfl⟩) | (go_at_call 157; refine (hl _).mono ?_; rintro e w1 ⟨v, rfl, hb, hv⟩; obtain ⟨a0, c0, rfl⟩ := own_form hv; obtain ⟨q1, q2, q3⟩ := tok_cells hb; simp only [tokV]))
      refine bodyPost_ret (v := .tuple #[tokV T (.slice a0 T.spans.length c0), .int .i64 T.size]) (by simp [results, Tryz.results122, go_sem, tokV, q1]) rfl ⟨_, rfl, ?_⟩
      exact tok_end _ _ _ _ hb hv
    rw [if_neg h3]
    have t3 := u8_beq_false h3 39 rfl
    clear h3 hl
    by_cases h4 : s[k] = 91
    · rw [if_pos h4]
      have t4 := u8_beq_true h4 91 rfl
      clear h4
      generalize Thk.clsT (s.data.toList.drop (k + 1)) = T at *
      go_enter Tryz.func122, Tryz.ntmps122
      go_wp2_with (first | (go_at_call 154; refine (isLetter_any _ _).mono ?_; rintro e w' ⟨rfl, rfl⟩; rw [h1']) | (go_at_call 156; refine (hp _).mono ?_; rintro e w' ⟨rfl, rfl⟩) | (go_at_call 158; refine (hcl _).mono ?_; rintro e w1 ⟨v, rfl, hb, hv⟩; obtain ⟨a0, c0, rfl⟩ := own_form hv; obtain ⟨q1, q2, q3⟩ := tok_cells hb; simp only [tokV]))
      refine bodyPost_ret (v := .tuple #[tokV T (.slice a0 T.spans.length c0), .int .i64 T.size]) (by simp [results, Tryz.results122, go_sem, tokV, q1]) rfl ⟨_, rfl, ?_⟩
      exact tok_end _ _ _ _ hb hv
    rw [if_neg h4]
    have t4 := u8_beq_false h4 91 rfl
    clear h4 hcl
    by_cases h5 : Thk.signB s[k] = true
    · rw [if_pos h5]
      have hi := fun w => indexByte_yes ⟨#[47, 38, 33, 63, 42, 43, 40, 41, 46]⟩ s[k] w h5
      clear h5
      go_enter Tryz.func122, Tryz.ntmps122
      go_wp2_with (first | (go_at_call 154; refine (isLetter_any _ _).mono ?_; rintro e w' ⟨rfl, rfl⟩; rw [h1']) | (go_at_call 156; refine (hp _).mono ?_; rintro e w' ⟨rfl, rfl⟩) | (go_at_call 159; refine (hi _).mono ?_; rintro e w' ⟨j, hj, rfl, rfl⟩))
      refine bodyPost_ret (v := .tuple #[tokV ⟨.sign s[k], 0, 1, [], []⟩ (.slice none 0 0), .int .i64 1]) (by simp [results, Tryz.results122, go_sem, tokV, kindI]) rfl ⟨_, rfl, below_alloc _ _, World.ownsRow_nil _ _ _ _⟩
    rw [if_neg h5]
    have hi := fun w => indexByte_no ⟨#[47, 38, 33, 63, 42, 43, 40, 41, 46]⟩ s[k] w (by simpa [Thk.signB] using h5)
    clear h5
    go_enter Tryz.func122, Tryz.ntmps122
    go_wp2_with (first | (go_at_call 154; refine (isLetter_any _ _).mono ?_; rintro e w' ⟨rfl, rfl⟩; rw [h1']) | (go_at_call 156; refine (hp _).mono ?_; rintro e w' ⟨rfl, rfl⟩) | (go_at_call 159; refine (hi _).mono ?_; rintro e w' ⟨rfl, rfl⟩) | (go_at_call 160; refine (bad_tok _).mono ?_; rintro e w1 ⟨v, rfl, hb, hv⟩; obtain ⟨a0, c0, rfl⟩ := own_form hv; obtain ⟨q1, q2, q3⟩ := tok_cells hb; simp only [tokV]))
    refine bodyPost_ret (v := .tuple #[tokV Thk.badT (.slice a0 Thk.badT.spans.length c0), .int .i64 Thk.badT.size]) (by simp [results, Tryz.results122, go_sem, tokV, q1]) rfl ⟨_, rfl, ?_⟩
    exact tok_end _ _ _ _ hb hv
  · have t0 : ((k : Int) == s.size) = true := beq_iff_eq.2 (by omega)
    rw [drop_end s k (by omega)]
    go_enter Tryz.func122, Tryz.ntmps122
    go_wp2_with fail
    refine bodyPost_ret (v := .tuple #[tokV ⟨.fin, 0, 0, [], []⟩ (.slice none 0 0), .int .i64 0]) (by simp [results, Tryz.results122, go_sem, tokV, kindI]) rfl ⟨_, rfl, below_alloc _ _, World.ownsRow_nil _ _ _ _⟩
end Go.Proofs.YtiganlkabilblaaGreatDoor
namespace Go.Proofs.YtiganlkabilblaaGreatDoor
open Go.RowKit
theorem Tryz.infoTok : (Tryz.prog.info? 237).map (fun i => (i.zero, i.size, i.bytes)) = some (some (.agg #[.int .u8 0, .int .i64 0, .string ⟨#[]⟩, .slice none 0 0]), 4, 56) := by kernel_rfl
theorem closesL_lt {l : List UInt8} {n : Nat} {m : UInt8} {k : Nat} (h : Thk.closesL l n m k = true) : n < l.length := by
  unfold Thk.closesL at h
  simp only [Bool.and_eq_true, beq_iff_eq] at h
  exact (List.getElem?_eq_some_iff.1 h.1.1).1
theorem tokL_size (l : List UInt8) (h : (Thk.tokL l).kind.last = false) : 1 ≤ (Thk.tokL l).size ∧ (Thk.tokL l).size ≤ l.length := by
  cases l with
  | nil => simp [Thk.tokL, Thk.TK.last] at h
  | cons c t =>
    simp only [Thk.tokL] at h ⊢
    split
    · rename_i h1
      rw [if_pos h1] at h
      unfold Thk.nameT at h ⊢
      split
      · rename_i h2; rw [if_pos h2] at h; cases h
      · have := letN_le (c :: t)
        have : Thk.letN (c :: t) = Thk.letN t + 1 := by simp [Thk.letN, h1]
        simp only []; omega
    · rename_i h1
      rw [if_neg h1] at h
      split
      · rename_i h2
        simp only [List.length_cons]
        cases t with
        | nil => simp at h2
        | cons d t => simp
      · rename_i h2
        rw [if_neg h2] at h
        split
        · rename_i h3
          rw [if_pos h3] at h
          unfold Thk.litT at h ⊢
          split
          · rename_i h4
            have := closesL_lt h4
            simp only [List.length_cons]; omega
          · rename_i h4; rw [if_neg h4] at h; cases h
        · rename_i h3
          rw [if_neg h3] at h
          split
          · rename_i h4
            rw [if_pos h4] at h
            unfold Thk.clsT at h ⊢
            split
            · rename_i h5
              have := closesL_lt h5
              simp only [List.length_cons]; omega
            · rename_i h5; rw [if_neg h5] at h; cases h
          · rename_i h4
            rw [if_neg h4] at h
            split
            · simp
            · rename_i h5; rw [if_neg h5] at h; cases h
/-- The token behind the blanks, with its place. -/
def tokAt (pos : Nat) (l : List UInt8) : Thk.Tok := { Thk.tokL (l.drop (Thk.blk false l)) with place := pos + Thk.blk false l }
theorem toksF_succ (f pos : Nat) (l : List UInt8) : Thk.toksF (f + 1) pos l = tokAt pos l ::
    (if (tokAt pos l).kind.last then [] else Thk.toksF f ((tokAt pos l).place + (tokAt pos l).size) (l.drop (Thk.blk false l + (tokAt pos l).size))) := by
  simp only [Thk.toksF, tokAt, List.drop_drop]
  rfl
theorem toksF_more : ∀ (f g pos : Nat) (l : List UInt8), l.length < f → l.length < g → Thk.toksF f pos l = Thk.toksF g pos l
  | 0, _, _, _, h, _ => by omega
  | _ + 1, 0, _, _, _, h => by omega
  | f + 1, g + 1, pos, l, hf, hg => by
    rw [toksF_succ, toksF_succ]
    cases hk : (tokAt pos l).kind.last with
    | true => rfl
    | false =>
      have hs := tokL_size (l.drop (Thk.blk false l)) hk
      have hb := blk_le false l
      rw [List.length_drop] at hs
      have hd : (l.drop (Thk.blk false l + (tokAt pos l).size)).length = l.length - (Thk.blk false l + (tokAt pos l).size) := List.length_drop
      have e : (tokAt pos l).size = (Thk.tokL (l.drop (Thk.blk false l))).size := rfl
      simp only [Bool.false_eq_true, if_false]
      rw [toksF_more f g _ _ (by omega) (by omega)]
def TL (pos : Nat) (l : List UInt8) : List Thk.Tok := Thk.toksF (l.length + 1) pos l
theorem TL_eq (pos : Nat) (l : List UInt8) : TL pos l = tokAt pos l :: (if (tokAt pos l).kind.last then [] else TL ((tokAt pos l).place + (tokAt pos l).size) (l.drop (Thk.blk false l + (tokAt pos l).size))) := by
  unfold TL
  rw [toksF_succ]
  cases hk : (tokAt pos l).kind.last with
  | true => rfl
  | false =>
    have hs := tokL_size (l.drop (Thk.blk false l)) hk
    have hb := blk_le false l
    rw [List.length_drop] at hs
    have hd : (l.drop (Thk.blk false l + (tokAt pos l).size)).length = l.length - (Thk.blk false l + (tokAt pos l).size) := List.length_drop
    have e : (tokAt pos l).size = (Thk.tokL (l.drop (Thk.blk false l))).size := rfl
    simp only [Bool.false_eq_true, if_false]
    rw [toksF_more l.length _ _ _ (by omega) (Nat.lt_succ_self _)]
theorem toks_TL (l : List UInt8) : Thk.toks l = TL 0 l := rfl
def tokC (p : Thk.Tok × Value) : List Value := [.int .u8 (kindI p.1.kind), .int .i64 p.1.place, .string ⟨p.1.text.toArray⟩, p.2]
/-- The slice v holds the tokens (each with its spans' slice). -/
def Toks (w : World) (B : Nat) (v : Value) (ps : List (Thk.Tok × Value)) : Prop :=
  w.ownsRow B 237 4 v ps.length (ps.flatMap tokC) ∧ ∀ p ∈ ps, Spans w B p.2 p.1.spans
theorem Toks.below {w w' : World} {B : Nat} {v : Value} {ps : List (Thk.Tok × Value)} (h : Toks w B v ps) (hb : Below w.heap.size w w') : Toks w' B v ps :=
  ⟨own_below h.1 hb, fun p hp => own_below (h.2 p hp) hb⟩
/-- What the loop of Cut keeps. -/
def CutRel (s : ByteArray) (B : Nat) (w0 : World) (j : Nat) (ps : List (Thk.Tok × Value)) (v : Value) (wr : World) : Prop :=
  j ≤ s.size ∧ ps.length ≤ j ∧ Toks wr B v ps ∧ Below B w0 wr ∧ B ≤ wr.heap.size ∧ (∀ p ∈ ps, p.1.kind.last = false) ∧
  Thk.toks s.data.toList = ps.map (·.1) ++ TL j (s.data.toList.drop j)
theorem tokAt_drop (s : ByteArray) (j : Nat) : tokAt j (s.data.toList.drop j) = { Thk.tokL (s.data.toList.drop (j + Thk.blk false (s.data.toList.drop j))) with place := j + Thk.blk false (s.data.toList.drop j) } := by
  unfold tokAt; rw [List.drop_drop]
theorem cell_four_new (w : World) (x y z u : Value) (t : TypeId) : ∀ j q, [x, y, z, u][j]? = some q → (w.alloc (.cells #[x, y, z, u] t)).cell? ((⟨w.heap.size, 0, none⟩ : Addr).add j) = some q := by
  intro j q hj
  match j, hj with
  | 0, hj => simp at hj; subst hj; simp [Addr.add]
  | 1, hj => simp at hj; subst hj; simp [Addr.add]
  | 2, hj => simp at hj; subst hj; simp [Addr.add]
  | 3, hj => simp at hj; subst hj; simp [Addr.add]
theorem nameT_kind (l : List UInt8) : (Thk.nameT l).kind = .bad ∨ (Thk.nameT l).kind = .name := by unfold Thk.nameT; split <;> simp [Thk.badT]
theorem litT_kind (l : List UInt8) : (Thk.litT l).kind = .bad ∨ (Thk.litT l).kind = .lit := by unfold Thk.litT; split <;> simp [Thk.badT]
theorem clsT_kind (l : List UInt8) : (Thk.clsT l).kind = .bad ∨ (Thk.clsT l).kind = .cls := by unfold Thk.clsT; split <;> simp [Thk.badT]
/-- A sign that a token may be. -/
def okKind : Thk.TK → Prop
  | .sign c => Thk.signB c = true
  | _ => True
theorem tokL_ok (l : List UInt8) : okKind (Thk.tokL l).kind := by
  cases l with
  | nil => simp [Thk.tokL, okKind]
  | cons c t =>
    simp only [Thk.tokL]
    split
    · rcases nameT_kind (c :: t) with h | h <;> simp [h, okKind]
    · split
      · simp [okKind]
      · split
        · rcases litT_kind t with h | h <;> simp [h, okKind]
        · split
          · rcases clsT_kind t with h | h <;> simp [h, okKind]
          · split
            · assumption
            · simp [Thk.badT, okKind]
theorem signB_ge {c : UInt8} (h : Thk.signB c = true) : 33 ≤ c.toNat := by
  simp [Thk.signB] at h
  rcases h with rfl | rfl | rfl | rfl | rfl | rfl | rfl | rfl | rfl <;> decide
theorem kindI_last {k : Thk.TK} (hk : okKind k) : (k.last = true ∧ (kindI k = 0 ∨ kindI k = 1)) ∨ (k.last = false ∧ (kindI k == 0) = false ∧ (kindI k == 1) = false) := by
  cases k with
  | fin => left; simp [Thk.TK.last, kindI]
  | bad => left; simp [Thk.TK.last, kindI]
  | sign c =>
    right
    have := signB_ge hk
    refine ⟨rfl, beq_eq_false_iff_ne.2 ?_, beq_eq_false_iff_ne.2 ?_⟩ <;> simp only [kindI] <;> omega
  | _ => right; simp [Thk.TK.last, kindI]
/-- One token more. -/
theorem CutRel.push {s : ByteArray} {B : Nat} {w0 : World} {j : Nat} {ps : List (Thk.Tok × Value)} {v : Value} {wr : World} (h : CutRel s B w0 j ps v wr)
    {T : Thk.Tok} {sv : Value} {w1 w2 : World} {v' : Value} (hb : Below wr.heap.size wr w1) (hsv : Spans w1 wr.heap.size sv T.spans) {O1 O2 : Obj}
    (ho : w2.ownsRow B 237 4 v' (ps.length + 1) (ps.flatMap tokC ++ tokC (T, sv))) (hg : ((w1.alloc O1).alloc O2).grownBy w2 v.ownBlock) :
    Toks w2 B v' (ps ++ [(T, sv)]) ∧ Below B w0 w2 ∧ B ≤ w2.heap.size := by
  obtain ⟨h1, h2, h3, h4, h5, h6⟩ := h
  have hs := hg.size
  have hs1 := hb.size
  simp at hs
  have hK : ∀ {e : TypeId} {sz : Nat} {u : Value} {n : Nat} {xs : List Value}, w1.ownsRow B e sz u n xs → e ≠ 237 → w2.ownsRow B e sz u n xs := by
    intro e sz u n xs hu he
    refine ((hu.alloc O1).alloc O2).kept hg ?_
    rcases hu.2 with ⟨rfl, _⟩ | ⟨g, cap, cur, rfl, _, hc, _⟩
    · left; rfl
    · right
      intro hx
      rcases (own_below h3.1 hb).2 with ⟨rfl, _⟩ | ⟨g', cap', cur', rfl, _, hc', _⟩
      · simp [Value.ownBlock] at hx
      · simp [Value.ownBlock] at hx
        subst hx
        rw [hc] at hc'
        simp at hc'
        exact he hc'.2
  refine ⟨⟨by simpa using ho, ?_⟩, ?_, by omega⟩
  · intro p hp
    rcases List.mem_append.1 hp with hp | hp
    · exact hK (own_below (h3.2 p hp) hb) (by decide)
    · simp at hp; subst hp
      exact hK (own_mono hsv h5) (by decide)
  · exact (((h4.trans (hb.mono h5)).alloc (by omega) O1).alloc (by simp; omega) O2).grown hg (by simp; omega) (fun g hg' => (h3.1.lt g hg').1)
set_option maxHeartbeats 2000000 in
set_option maxRecDepth 100000 in
theorem cut_any (s : ByteArray) (w : World) (hs : s.size ≤ 2000) :
    Calls Tryz.prog 85 #[.string s] w fun e w' => ∃ a c ps, e = .returned (.slice (some a) (Thk.toks s.data.toList).length c) ∧ Below w.heap.size w w' ∧
      ps.map (·.1) = Thk.toks s.data.toList ∧ Toks w' w.heap.size (.slice (some a) (Thk.toks s.data.toList).length c) ps := by
  obtain ⟨i0, hi, hz0, hz1, hz2⟩ := info_parts Tryz.infoTok
  go_enter Tryz.func85, Tryz.ntmps85
  go_wp2_with fail
  go_loopw [3, 4] (fun v i wr => ∃ (j : Nat) (ps : List (Thk.Tok × Value)), i = .int .i64 j ∧ CutRel s w.heap.size w j ps v wr) (fun _ i _ => s.size - (intOf i).toNat)
  case atStart =>
    refine ⟨0, [], rfl, by omega, by simp, ⟨World.ownsRow_nil _ _ _ _, by simp⟩, Below.refl _ _, Nat.le_refl _, by simp, ?_⟩
    rw [toks_TL]; simp
  case round =>
    obtain ⟨j, ps, rfl, hR⟩ := hrel
    have hj := hR.1
    have hbl := blk_le false (s.data.toList.drop j)
    rw [List.length_drop, show s.data.toList.length = s.size from rfl] at hbl
    obtain ⟨T, hT⟩ : ∃ T, T = Thk.tokL (s.data.toList.drop (j + Thk.blk false (s.data.toList.drop j))) := ⟨_, rfl⟩
    obtain ⟨r, hr⟩ : ∃ r, r = j + Thk.blk false (s.data.toList.drop j) := ⟨_, rfl⟩
    have hrs : r ≤ s.size := by omega
    have hsk := fun w => skipBlanks_of s j r w hj hs hr.symm
    have htk := fun w => tokenAt_any s r w hs hrs
    rw [← hr] at hT
    rw [← hT] at htk
    have HT : Hid (tokAt j (s.data.toList.drop j) = { T with place := r }) := by rw [tokAt_drop, ← hr, ← hT]; rfl
    have HR : Hid (r = j + Thk.blk false (s.data.toList.drop j)) := hr
    have HTT : Hid (T = Thk.tokL (s.data.toList.drop r)) := hT
    clear hr hT hbl
    have hown := hR.2.2.1.1
    have hxl := hR.2.1
    have hB := hR.2.2.2.2.1
    go_wp2_with (first | (go_at_call 121; refine (hsk _).mono ?_; rintro e w' ⟨rfl, rfl⟩) | (go_at_call 122; refine (htk _).mono ?_; rintro e w1 ⟨v, rfl, hb1, hv⟩; obtain ⟨a0, c0, rfl⟩ := own_form hv; have hown1 := own_below hown hb1; have hsz1 := hb1.size; simp only [tokV]) | (at_builtin; refine wpList_append_own _ rfl _ _ 180 rfl (w.heap.size) 237 i0 _ 4 56 Tryz.underlying180 hi hz0 hz1 hz2 rfl (by decide) _ _ _ rfl ((hown1.alloc _).alloc _) ⟨w1.heap.size + 1, 0, none⟩ 1 1 (tokC ({ T with place := r }, .slice a0 T.spans.length c0)) rfl rfl ?c1 ?c2 ?c3 ?c4 ?c5 ?_))
    case c1 => rw [← World.size_alloc w1 (Obj.cells #[Value.int IntKind.u8 (kindI T.kind), Value.int IntKind.i64 ↑r, Value.string ⟨List.toArray T.text⟩, Value.slice a0 T.spans.length c0] 237)]; exact cell_four_new _ _ _ _ _ _
    case c2 => intro u hu; simp [tokC] at hu; rcases hu with rfl | rfl | rfl | rfl <;> rfl
    case c3 => unfold maxLen; omega
    case c4 => omega
    case c5 => simp; omega
    intro v' w2 hown' hgrow hnn
    have hP := hR.push (T := { T with place := r }) (sv := .slice a0 T.spans.length c0) hb1 hv hown' hgrow
    have hcell : w2.cell? ⟨w1.heap.size, 0, none⟩ = some (.int .u8 (kindI T.kind)) := by
      refine hgrow.cell ?_ ?_
      · rw [World.cell?_alloc_lt _ _ _ (by simp)]; simp
      · intro hx
        have := (hown1.lt _ hx.symm)
        simp at this
    have hTok : okKind T.kind := by rw [HTT.out]; exact tokL_ok _
    have hTL := TL_eq j (s.data.toList.drop j)
    rw [HT.out] at hTL
    have HTL : Hid (TL j (s.data.toList.drop j) = _) := hTL
    have hall := hR.2.2.2.2.2.2
    have hpl := hR.2.2.2.2.2.1
    have HALL : Hid (Thk.toks s.data.toList = ps.map (·.1) ++ TL j (s.data.toList.drop j)) := hall
    clear hTL hall hR hown hown1 hown' hgrow hv hb1 hsk htk
    rcases kindI_last hTok with ⟨hl, hk⟩ | ⟨hl, hk0, hk1⟩
    · have hD : ps.map (·.1) ++ [{ T with place := r }] = Thk.toks s.data.toList := by
        rw [HALL.out, HTL.out, if_pos hl]
      have hLen : (Thk.toks s.data.toList).length = ps.length + 1 := by rw [← hD]; simp
      obtain ⟨hP1, hP2, hP3⟩ := hP
      have hvf : ∃ a c, v' = .slice (some a) (ps.length + 1) c := by
        rcases hP1.1.2 with ⟨h, _⟩ | ⟨g, cap, cur, h, _⟩
        · exact absurd h hnn
        · exact ⟨_, _, by simpa using h⟩
      obtain ⟨a, c, rfl⟩ := hvf
      have hfin : ∃ a1 c1 ps1, Ending.returned (.slice (some a) (ps.length + 1) c) = .returned (.slice (some a1) (Thk.toks s.data.toList).length c1) ∧ Below w.heap.size w w2 ∧
          ps1.map (·.1) = Thk.toks s.data.toList ∧ Toks w2 w.heap.size (.slice (some a1) (Thk.toks s.data.toList).length c1) ps1 :=
        ⟨a, c, ps ++ [({ T with place := r }, .slice a0 T.spans.length c0)], by rw [hLen], hP2, by rw [← hD]; simp, by rw [hLen]; exact hP1⟩
      have HF : Hid _ := hfin
      clear hfin hP1 hP2 hP3 hLen hD HALL HTL HT HTT
      have hk' : (kindI T.kind == 0) = true ∨ ((kindI T.kind == 0) = false ∧ (kindI T.kind == 1) = true) := by
        rcases hk with h | h <;> rw [h]
        · left; rfl
        · right; exact ⟨rfl, rfl⟩
      rcases hk' with hk0 | ⟨hk0, hk1⟩
      · go_wp2
        go_ret
        exact HF.out
      · go_wp2
        go_ret
        exact HF.out
    · have hs1 := tokL_size (s.data.toList.drop r) (by rw [← HTT.out]; exact hl)
      rw [← HTT.out, List.length_drop, show s.data.toList.length = s.size from rfl] at hs1
      obtain ⟨hs1, hs2⟩ := hs1
      have hN : CutRel s w.heap.size w (r + T.size) (ps ++ [({ T with place := r }, .slice a0 T.spans.length c0)]) v' w2 := by
        refine ⟨by omega, by have := HR.out; simp; omega, hP.1, hP.2.1, hP.2.2, ?_, ?_⟩
        · intro p hp
          rcases List.mem_append.1 hp with hp | hp
          · exact hpl p hp
          · simp at hp; subst hp; exact hl
        · rw [HALL.out, HTL.out, if_neg (by simp [hl])]
          have e : j + (Thk.blk false (s.data.toList.drop j) + T.size) = r + T.size := by have := HR.out; omega
          simp only [List.drop_drop, e, List.map_append, List.map_cons, List.map_nil, List.append_assoc, List.cons_append, List.nil_append]
      clear hP hpl HALL HTL HT
      go_wp2
      go_roundw
      case rel => exact ⟨r + T.size, _, by go_num, hN⟩
      case measure => have := HR.out; simp [intOf]; omega
end Go.Proofs.YtiganlkabilblaaGreatDoor
namespace Go.Proofs.YtiganlkabilblaaGreatDoor
open Go.RowKit
/-- The reader: its block, the tokens' row, the place, the depth. -/
def Rd (w : World) (rb tb tc : Nat) (ps : List (Thk.Tok × Value)) (n d : Nat) : Prop :=
  w.heap[rb]? = some (.cells #[.slice (some ⟨tb, 0, none⟩) ps.length tc, .int .i64 n, .int .i64 d] 183 (0, 0)) ∧
  Toks w 0 (.slice (some ⟨tb, 0, none⟩) ps.length tc) ps ∧ ps.length ≤ 2001 ∧ ∀ p ∈ ps, p.1.text.length ≤ 2000
theorem cell_of_block {w : World} {b : Nat} {cs : Array Value} {e : TypeId} {fr : Nat × Nat} (h : w.heap[b]? = some (.cells cs e fr)) (o : Nat) : w.cell? ⟨b, o, none⟩ = cs[o]? := by
  simp [World.cell?, h]
theorem frozen_of_block {w : World} {b : Nat} {cs : Array Value} {e : TypeId} (h : w.heap[b]? = some (.cells cs e (0, 0))) (o : Nat) : w.frozen? ⟨b, o, none⟩ = false := by
  simp [World.frozen?, h]
theorem flatMap_get (ps : List (Thk.Tok × Value)) (i j : Nat) (hi : i < ps.length) (hj : j < 4) : (ps.flatMap tokC)[i * 4 + j]? = (tokC ps[i])[j]? := by
  induction ps generalizing i with
  | nil => simp at hi
  | cons p ps ih =>
    have hl : (tokC p).length = 4 := rfl
    cases i with
    | zero =>
      simp only [List.flatMap_cons, Nat.zero_mul, Nat.zero_add, List.getElem_cons_zero]
      rw [List.getElem?_append_left (by omega)]
    | succ i =>
      simp only [List.flatMap_cons, List.getElem_cons_succ]
      rw [List.getElem?_append_right (by omega), hl, show (i + 1) * 4 + j - 4 = i * 4 + j from by omega]
      exact ih i (by simpa using hi)
theorem Rd.tok {w : World} {rb tb tc : Nat} {ps : List (Thk.Tok × Value)} {n d : Nat} (h : Rd w rb tb tc ps n d) (i j : Nat) (hi : i < ps.length) (hj : j < 4) :
    w.cell? ⟨tb, i * 4 + j, none⟩ = (tokC ps[i])[j]? := by
  rw [h.2.1.1.cellAt (i * 4 + j) (by omega)]
  exact flatMap_get ps i j hi hj
theorem Rd.tok' {w : World} {rb tb tc : Nat} {ps : List (Thk.Tok × Value)} {n d : Nat} (h : Rd w rb tb tc ps n d) (i : Nat) (hi : i < ps.length) :
    w.cell? ⟨tb, i * 4, none⟩ = some (.int .u8 (kindI ps[i].1.kind)) ∧ w.cell? ⟨tb, i * 4 + 1, none⟩ = some (.int .i64 ps[i].1.place) ∧
    w.cell? ⟨tb, i * 4 + 2, none⟩ = some (.string ⟨ps[i].1.text.toArray⟩) ∧ w.cell? ⟨tb, i * 4 + 3, none⟩ = some ps[i].2 :=
  ⟨h.tok i 0 hi (by decide), h.tok i 1 hi (by decide), h.tok i 2 hi (by decide), h.tok i 3 hi (by decide)⟩
theorem Rd.cells {w : World} {rb tb tc : Nat} {ps : List (Thk.Tok × Value)} {n d : Nat} (h : Rd w rb tb tc ps n d) :
    w.cell? ⟨rb, 0, none⟩ = some (.slice (some ⟨tb, 0, none⟩) ps.length tc) ∧ w.cell? ⟨rb, 1, none⟩ = some (.int .i64 n) ∧ w.cell? ⟨rb, 2, none⟩ = some (.int .i64 d) ∧ ∀ o, w.frozen? ⟨rb, o, none⟩ = false :=
  ⟨cell_of_block h.1 0, cell_of_block h.1 1, cell_of_block h.1 2, frozen_of_block h.1⟩
set_option maxHeartbeats 1000000 in
theorem kind_any (w : World) (rb tb tc : Nat) (ps : List (Thk.Tok × Value)) (n d : Nat) (h : Rd w rb tb tc ps n d) (hn : n < ps.length) :
    Calls Tryz.prog 124 #[.pointer (some ⟨rb, 0, none⟩)] w fun e w' => e = .returned (.int .u8 (kindI ps[n].1.kind)) ∧ ∃ q, w' = w.drewN q := by
  obtain ⟨c0, c1, c2, fz⟩ := h.cells
  obtain ⟨k0, k1, k2, k3⟩ := h.tok' n hn
  have hl := h.2.2.1
  have hn' : (n : Int) < (ps.length : Int) := by omega
  clear h k1 k2 k3 c2 fz
  go_enter Tryz.func124, Tryz.ntmps124
  go_wp2_with fail
  go_quiet (fail)
  go_wp2_with fail
  go_ret
  exact ⟨rfl, _, rfl⟩
set_option maxHeartbeats 1000000 in
theorem refuse_any (w : World) (rb tb tc : Nat) (ps : List (Thk.Tok × Value)) (n d : Nat) (h : Rd w rb tb tc ps n d) (hn : n < ps.length) (er : Int) :
    Calls Tryz.prog 162 #[.pointer (some ⟨rb, 0, none⟩), .int .i64 er] w fun e w' => e = .returned (.iface 128 (.agg #[.int .i64 er, .int .i64 ps[n].1.place])) ∧ ∃ q, w' = w.drewN q := by
  obtain ⟨c0, c1, c2, fz⟩ := h.cells
  obtain ⟨k0, k1, k2, k3⟩ := h.tok' n hn
  have hl := h.2.2.1
  have hn' : (n : Int) < (ps.length : Int) := by omega
  clear h k0 k2 k3 c2 fz
  go_enter Tryz.func162, Tryz.ntmps162
  go_wp2_with fail
  go_quiet (fail)
  go_wp2_with fail
  go_ret
  exact ⟨rfl, _, rfl⟩
end Go.Proofs.YtiganlkabilblaaGreatDoor
namespace Go.Proofs.YtiganlkabilblaaGreatDoor
open Go.RowKit
/-- Below block B, block rb aside, the world is as it was. -/
structure Kp (rb B : Nat) (w w' : World) : Prop where
  os : w'.os = w.os
  tape : w'.tape = w.tape
  output : w'.output = w.output
  size : w.heap.size ≤ w'.heap.size
  block : ∀ k, k < B → k ≠ rb → w'.heap[k]? = w.heap[k]?
theorem Kp.refl (rb B : Nat) (w : World) : Kp rb B w w := ⟨rfl, rfl, rfl, Nat.le_refl _, fun _ _ _ => rfl⟩
theorem Kp.trans {rb B : Nat} {a b c : World} (h : Kp rb B a b) (k : Kp rb B b c) : Kp rb B a c :=
  ⟨k.os.trans h.os, k.tape.trans h.tape, k.output.trans h.output, Nat.le_trans h.size k.size, fun i hi hr => (k.block i hi hr).trans (h.block i hi hr)⟩
theorem Kp.mono {rb B B' : Nat} {w w' : World} (h : Kp rb B w w') (hB : B' ≤ B) : Kp rb B' w w' := ⟨h.os, h.tape, h.output, h.size, fun k hk hr => h.block k (Nat.lt_of_lt_of_le hk hB) hr⟩
theorem Kp.of {rb B : Nat} {w w' : World} (h : Below B w w') : Kp rb B w w' := ⟨h.os, h.tape, h.output, h.size, fun k hk _ => h.block k hk⟩
theorem Kp.drewN {rb B : Nat} {a w : World} (h : Kp rb B a w) (q : Nat) : Kp rb B a (w.drewN q) := ⟨h.os, h.tape, h.output, h.size, h.block⟩
theorem Kp.drew {rb B : Nat} {a w : World} (h : Kp rb B a w) : Kp rb B a w.drew := ⟨h.os, h.tape, h.output, h.size, h.block⟩
theorem Kp.alloc {rb B : Nat} {a w : World} (h : Kp rb B a w) (hB : B ≤ w.heap.size) (o : Obj) : Kp rb B a (w.alloc o) := h.trans (.of ((Below.refl _ _).alloc hB o))
theorem Kp.setRb {rb B : Nat} {a w : World} (h : Kp rb B a w) (o : Nat) (u : Value) : Kp rb B a (w.setCell ⟨rb, o, none⟩ u) :=
  h.trans ⟨rfl, rfl, rfl, by simp [World.setCell], fun k _ hr => Below.heap_setCell _ _ _ _ hr⟩
theorem Kp.setCell {rb B : Nat} {a w : World} (h : Kp rb B a w) {p : Addr} (hp : B ≤ p.block) (u : Value) : Kp rb B a (w.setCell p u) := h.trans (.of ((Below.refl _ _).setCell hp u))
theorem Kp.grown {rb B : Nat} {a w w' : World} {row : Option Nat} (h : Kp rb B a w) (hg : w.grownBy w' row) (hB : B ≤ w.heap.size) (hr : ∀ k, row = some k → B ≤ k) : Kp rb B a w' :=
  h.trans (.of ((Below.refl _ _).grown hg hB hr))
/-- A row that is owned, of another type than the reader's, stays so where all but the reader's block is kept. -/
theorem own_kp {w w' : World} {rb base : Nat} {e : TypeId} {size : Nat} {v : Value} {n : Nat} {xs : List Value} (h : w.ownsRow base e size v n xs) {cs : Array Value} {fr : Nat × Nat} {t : TypeId} (hr : w.heap[rb]? = some (.cells cs t fr)) (he : e ≠ t)
    (hb : Kp rb w.heap.size w w') : w'.ownsRow base e size v n xs := by
  obtain ⟨h1, h2⟩ := h
  refine ⟨h1, ?_⟩
  rcases h2 with h2 | ⟨g, cap, cur, hv, hg, hh, r⟩
  · exact Or.inl h2
  · refine Or.inr ⟨g, cap, cur, hv, hg, ?_, r⟩
    rw [hb.block g ?_ ?_]; exact hh
    · rcases Nat.lt_or_ge g w.heap.size with h | h
      · exact h
      · rw [Array.getElem?_eq_none h] at hh; cases hh
    · intro e; subst e; rw [hr] at hh; simp at hh; exact he hh.2.1.symm
theorem Rd.lt {w : World} {rb tb tc : Nat} {ps : List (Thk.Tok × Value)} {n d : Nat} (h : Rd w rb tb tc ps n d) : rb < w.heap.size := by
  rcases Nat.lt_or_ge rb w.heap.size with h' | h'
  · exact h'
  · have := h.1; rw [Array.getElem?_eq_none h'] at this; cases this
theorem Rd.kp {w w' : World} {rb tb tc : Nat} {ps : List (Thk.Tok × Value)} {n d n' d' : Nat} (h : Rd w rb tb tc ps n d) (hk : Kp rb w.heap.size w w')
    (hb : w'.heap[rb]? = some (.cells #[.slice (some ⟨tb, 0, none⟩) ps.length tc, .int .i64 n', .int .i64 d'] 183 (0, 0))) : Rd w' rb tb tc ps n' d' :=
  ⟨hb, ⟨own_kp h.2.1.1 h.1 (by decide) hk, fun p hp => own_kp (h.2.1.2 p hp) h.1 (by decide) hk⟩, h.2.2⟩
theorem Rd.below {w w' : World} {rb tb tc : Nat} {ps : List (Thk.Tok × Value)} {n d : Nat} (h : Rd w rb tb tc ps n d) (hb : Below w.heap.size w w') : Rd w' rb tb tc ps n d :=
  h.kp (.of hb) (by rw [hb.block rb h.lt]; exact h.1)
theorem Rd.drewN {w : World} {rb tb tc : Nat} {ps : List (Thk.Tok × Value)} {n d : Nat} (h : Rd w rb tb tc ps n d) (q : Nat) : Rd (w.drewN q) rb tb tc ps n d := h
theorem heap_setCell_at {w : World} {b o : Nat} {cs : Array Value} {e : TypeId} {fr : Nat × Nat} (h : w.heap[b]? = some (.cells cs e fr)) (u : Value) : (w.setCell ⟨b, o, none⟩ u).heap[b]? = some (.cells (cs.setIfInBounds o u) e fr) := by
  simp [World.setCell, Array.getElem?_modify, h]
theorem Rd.set1 {w : World} {rb tb tc : Nat} {ps : List (Thk.Tok × Value)} {n d : Nat} (h : Rd w rb tb tc ps n d) (m : Nat) : Rd (w.setCell ⟨rb, 1, none⟩ (.int .i64 m)) rb tb tc ps m d :=
  h.kp ((Kp.refl _ _ _).setRb _ _) (by rw [heap_setCell_at h.1]; rfl)
theorem Rd.set2 {w : World} {rb tb tc : Nat} {ps : List (Thk.Tok × Value)} {n d : Nat} (h : Rd w rb tb tc ps n d) (m : Nat) : Rd (w.setCell ⟨rb, 2, none⟩ (.int .i64 m)) rb tb tc ps n m :=
  h.kp ((Kp.refl _ _ _).setRb _ _) (by rw [heap_setCell_at h.1]; rfl)
set_option maxHeartbeats 1000000 in
theorem beginsRule_any (w : World) (rb tb tc : Nat) (ps : List (Thk.Tok × Value)) (n d : Nat) (h : Rd w rb tb tc ps n d) (hn : n + 1 < ps.length) (hd : d ≤ 6) :
    Calls Tryz.prog 204 #[.pointer (some ⟨rb, 0, none⟩)] w fun e w' => e = .returned (.bool (decide (d = 0) && (kindI ps[n + 1].1.kind == 3))) ∧ ∃ q, w' = w.drewN q := by
  obtain ⟨c0, c1, c2, fz⟩ := h.cells
  obtain ⟨k0, k1, k2, k3⟩ := h.tok' (n + 1) hn
  have hl := h.2.2.1
  have hn' : (n : Int) + 1 < (ps.length : Int) := by omega
  clear h k1 k2 k3 fz
  by_cases h0 : d = 0
  · subst h0
    go_enter Tryz.func204, Tryz.ntmps204
    go_wp2_with fail
    go_quiet (fail)
    go_wp2_with fail
    go_ret
    exact ⟨by simp, _, rfl⟩
  · have t0 : ((d : Int) == 0) = false := beq_eq_false_iff_ne.2 (by omega)
    rw [decide_eq_false h0]
    go_enter Tryz.func204, Tryz.ntmps204
    go_wp2_with fail
    go_quiet (fail)
    go_wp2_with fail
    go_ret
    exact ⟨by simp, _, rfl⟩
set_option maxHeartbeats 1000000 in
theorem expect_yes (w : World) (rb tb tc : Nat) (ps : List (Thk.Tok × Value)) (n d : Nat) (h : Rd w rb tb tc ps n d) (hn : n < ps.length) (K : Int) (hK : kindI ps[n].1.kind = K) :
    Calls Tryz.prog 161 #[.pointer (some ⟨rb, 0, none⟩), .int .u8 K] w fun e w' => e = .returned (.tuple #[tokV ps[n].1 ps[n].2, .nilIface]) ∧ Rd w' rb tb tc ps (n + 1) d ∧ Kp rb w.heap.size w w' := by
  obtain ⟨c0, c1, c2, fz⟩ := h.cells
  obtain ⟨k0, k1, k2, k3⟩ := h.tok' n hn
  have hl := h.2.2.1
  have hn' : (n : Int) < (ps.length : Int) := by omega
  obtain ⟨a0, b0, e0⟩ := own_form (h.2.1.2 ps[n] (List.getElem_mem hn))
  have tK : (kindI ps[n].1.kind != K) = false := by rw [hK]; simp
  have HK : Hid (kindI ps[n].1.kind = K) := hK
  have hrl := h.lt
  have htl : tb < w.heap.size := ((h.2.1.1.lt tb rfl).2)
  rw [e0] at k3
  have H : Hid (Rd w rb tb tc ps n d) := h
  clear h hK
  go_enter Tryz.func161, Tryz.ntmps161
  go_wp2_with fail
  go_region
  go_wp2_with fail
  refine bodyPost_ret (v := .tuple #[tokV ps[n].1 ps[n].2, .nilIface]) (by simp [results, Tryz.results161, go_sem, tokV, e0]) rfl ⟨rfl, ?_, ?_⟩
  · exact (H.out.set1 (n + 1)).below (((Below.refl _ _).alloc (Nat.le_refl _) _).alloc (by simp) _).drew
  · exact ((((Kp.refl _ _ _).setRb _ _).alloc (by simp) _).alloc (by simp) _).drew
set_option maxHeartbeats 1000000 in
theorem expect_no (w : World) (rb tb tc : Nat) (ps : List (Thk.Tok × Value)) (n d : Nat) (h : Rd w rb tb tc ps n d) (hn : n < ps.length) (K : Int) (hK : kindI ps[n].1.kind ≠ K) :
    Calls Tryz.prog 161 #[.pointer (some ⟨rb, 0, none⟩), .int .u8 K] w fun e w' => e = .returned (.tuple #[tokV ps[n].1 ps[n].2, .iface 128 (.agg #[.int .i64 2, .int .i64 ps[n].1.place])]) ∧ Rd w' rb tb tc ps n d ∧ Kp rb w.heap.size w w' := by
  obtain ⟨c0, c1, c2, fz⟩ := h.cells
  obtain ⟨k0, k1, k2, k3⟩ := h.tok' n hn
  have hl := h.2.2.1
  have hn' : (n : Int) < (ps.length : Int) := by omega
  obtain ⟨a0, b0, e0⟩ := own_form (h.2.1.2 ps[n] (List.getElem_mem hn))
  have tK : (kindI ps[n].1.kind != K) = true := by rw [bne_iff_ne]; exact hK
  have hrl := h.lt
  have htl : tb < w.heap.size := ((h.2.1.1.lt tb rfl).2)
  rw [e0] at k3
  have H : Hid (Rd w rb tb tc ps n d) := h
  clear h hK
  go_enter Tryz.func161, Tryz.ntmps161
  go_wp2_with fail
  go_region
  go_wp2_with fail
  go_region_with (go_at_call 162; refine (refuse_any _ rb tb tc ps n d (by refine H.out.below ?_; repeat (first | exact Below.refl _ _ | refine Below.drew ?_ | refine Below.setCell ?_ (by simp) _ | refine Below.alloc ?_ (by simp; try omega) _)) hn _).mono ?_; rintro e w1 ⟨rfl, q, rfl⟩)
  all_goals go_wp2_with fail
  all_goals
    refine bodyPost_ret (v := .tuple #[tokV ps[n].1 ps[n].2, .iface 128 (.agg #[.int .i64 2, .int .i64 ps[n].1.place])]) (by simp [results, Tryz.results161, go_sem, tokV, e0]) rfl ⟨rfl, ?_, ?_⟩
    · refine H.out.below ?_
      repeat (first | exact Below.refl _ _ | refine Below.drew ?_ | refine below_drewN ?_ _ | refine Below.setCell ?_ (by simp) _ | refine Below.alloc ?_ (by simp; try omega) _)
    · refine Kp.of ?_
      repeat (first | exact Below.refl _ _ | refine Below.drew ?_ | refine below_drewN ?_ _ | refine Below.setCell ?_ (by simp) _ | refine Below.alloc ?_ (by simp; try omega) _)
end Go.Proofs.YtiganlkabilblaaGreatDoor
namespace Go.Proofs.YtiganlkabilblaaGreatDoor
open Go.RowKit
/-- The tokens from place n on. -/
def tsOf (ps : List (Thk.Tok × Value)) (n : Nat) : List Thk.Tok := (ps.map (·.1)).drop n
def GoodP (ps : List (Thk.Tok × Value)) : Prop := ∀ i (h : i < ps.length), okKind ps[i].1.kind ∧ (ps[i].1.kind.last = false → i + 1 < ps.length)
theorem tsOf_cons {ps : List (Thk.Tok × Value)} {n : Nat} (h : n < ps.length) : tsOf ps n = ps[n].1 :: tsOf ps (n + 1) := by
  unfold tsOf
  rw [List.drop_eq_getElem_cons (by simpa using h)]
  simp
theorem hd_tsOf {ps : List (Thk.Tok × Value)} {n : Nat} (h : n < ps.length) : Thk.hd (tsOf ps n) = ps[n].1 := by rw [tsOf_cons h]; rfl
theorem tl_tsOf {ps : List (Thk.Tok × Value)} {n : Nat} (h : n < ps.length) : (tsOf ps n).tail = tsOf ps (n + 1) := by rw [tsOf_cons h]; rfl
theorem kindI_arrow {k : Thk.TK} (hk : okKind k) : (kindI k == 3) = k.isArrow := by
  cases k with
  | sign c =>
    have := signB_ge hk
    rw [beq_eq_false_iff_ne.2 (by simp only [kindI]; omega)]
    rfl
  | _ => rfl
/-- The nine signs. -/
theorem sign_cases {c : UInt8} (h : Thk.signB c = true) : c = 47 ∨ c = 38 ∨ c = 33 ∨ c = 63 ∨ c = 42 ∨ c = 43 ∨ c = 40 ∨ c = 41 ∨ c = 46 := by
  simpa [Thk.signB] using h
theorem kind_of (w : World) (rb tb tc : Nat) (ps : List (Thk.Tok × Value)) (n d : Nat) (h : Rd w rb tb tc ps n d) (hn : n < ps.length) (K : Int) (hK : kindI ps[n].1.kind = K) :
    Calls Tryz.prog 124 #[.pointer (some ⟨rb, 0, none⟩)] w fun e w' => e = .returned (.int .u8 K) ∧ ∃ q, w' = w.drewN q := hK ▸ kind_any w rb tb tc ps n d h hn
set_option maxHeartbeats 2000000 in
theorem beginsTerm_any (w : World) (rb tb tc : Nat) (ps : List (Thk.Tok × Value)) (n d : Nat) (h : Rd w rb tb tc ps n d) (hg : GoodP ps) (hn : n < ps.length) (hd : d ≤ 6) :
    Calls Tryz.prog 195 #[.pointer (some ⟨rb, 0, none⟩)] w fun e w' => e = .returned (.bool (Thk.begins d (tsOf ps n))) ∧ ∃ q, w' = w.drewN q := by
  obtain ⟨hok, hnx⟩ := hg n hn
  cases hk : ps[n].1.kind with
  | name =>
    have hn1 := hnx (by rw [hk]; rfl)
    have e : Thk.begins d (tsOf ps n) = !(decide (d = 0) && (kindI ps[n + 1].1.kind == 3)) := by
      unfold Thk.begins
      rw [hd_tsOf hn, tl_tsOf hn, hd_tsOf hn1, hk, kindI_arrow (hg (n + 1) hn1).1]
      simp only []
      rfl
    rw [e]
    have hc := kind_of w rb tb tc ps n d h hn 2 (by rw [hk]; rfl)
    have hb := fun q => beginsRule_any (w.drewN q) rb tb tc ps n d (h.drewN q) hn1 hd
    clear e
    generalize (decide (d = 0) && (kindI ps[n + 1].1.kind == 3)) = b at *
    go_enter Tryz.func195, Tryz.ntmps195
    go_wp2_with (first | (go_at_call 124; refine hc.mono ?_; rintro e w1 ⟨rfl, q, rfl⟩) | (go_at_call 204; refine (hb _).mono ?_; rintro e w1 ⟨rfl, q, rfl⟩))
    go_ret
    exact ⟨rfl, _, rfl⟩
  | fin =>
    have e : Thk.begins d (tsOf ps n) = false := by unfold Thk.begins; rw [hd_tsOf hn, hk]
    rw [e]
    have hc := kind_of w rb tb tc ps n d h hn 0 (by rw [hk]; rfl)
    go_enter Tryz.func195, Tryz.ntmps195
    go_wp2_with (first | (go_at_call 124; refine hc.mono ?_; rintro e w1 ⟨rfl, q, rfl⟩))
    go_ret
    exact ⟨rfl, _, rfl⟩
  | bad =>
    have e : Thk.begins d (tsOf ps n) = false := by unfold Thk.begins; rw [hd_tsOf hn, hk]
    rw [e]
    have hc := kind_of w rb tb tc ps n d h hn 1 (by rw [hk]; rfl)
    go_enter Tryz.func195, Tryz.ntmps195
    go_wp2_with (first | (go_at_call 124; refine hc.mono ?_; rintro e w1 ⟨rfl, q, rfl⟩))
    go_ret
    exact ⟨rfl, _, rfl⟩
  | arrow =>
    have e : Thk.begins d (tsOf ps n) = false := by unfold Thk.begins; rw [hd_tsOf hn, hk]
    rw [e]
    have hc := kind_of w rb tb tc ps n d h hn 3 (by rw [hk]; rfl)
    go_enter Tryz.func195, Tryz.ntmps195
    go_wp2_with (first | (go_at_call 124; refine hc.mono ?_; rintro e w1 ⟨rfl, q, rfl⟩))
    go_ret
    exact ⟨rfl, _, rfl⟩
  | lit =>
    have e : Thk.begins d (tsOf ps n) = true := by unfold Thk.begins; rw [hd_tsOf hn, hk]
    rw [e]
    have hc := kind_of w rb tb tc ps n d h hn 4 (by rw [hk]; rfl)
    go_enter Tryz.func195, Tryz.ntmps195
    go_wp2_with (first | (go_at_call 124; refine hc.mono ?_; rintro e w1 ⟨rfl, q, rfl⟩))
    go_ret
    exact ⟨rfl, _, rfl⟩
  | cls =>
    have e : Thk.begins d (tsOf ps n) = true := by unfold Thk.begins; rw [hd_tsOf hn, hk]
    rw [e]
    have hc := kind_of w rb tb tc ps n d h hn 5 (by rw [hk]; rfl)
    go_enter Tryz.func195, Tryz.ntmps195
    go_wp2_with (first | (go_at_call 124; refine hc.mono ?_; rintro e w1 ⟨rfl, q, rfl⟩))
    go_ret
    exact ⟨rfl, _, rfl⟩
  | sign c =>
    rw [hk] at hok
    have e : Thk.begins d (tsOf ps n) = (c == 38 || c == 33 || c == 46 || c == 40) := by unfold Thk.begins; rw [hd_tsOf hn, hk]
    rw [e]
    have hc := kind_of w rb tb tc ps n d h hn c.toNat (by rw [hk]; rfl)
    clear hk e hnx
    rcases sign_cases hok with rfl | rfl | rfl | rfl | rfl | rfl | rfl | rfl | rfl
    all_goals
      simp at hc
      clear hok
      go_enter Tryz.func195, Tryz.ntmps195
      go_wp2_with (first | (go_at_call 124; refine hc.mono ?_; rintro e w1 ⟨rfl, q, rfl⟩))
      go_ret
      exact ⟨rfl, _, rfl⟩
end Go.Proofs.YtiganlkabilblaaGreatDoor
namespace Go.Proofs.YtiganlkabilblaaGreatDoor
open Go.RowKit
def hitK (ks : List UInt8) (K : Int) : Bool := ks.any fun c => (c.toNat : Int) == K
set_option maxHeartbeats 2000000 in
set_option maxRecDepth 100000 in
theorem sign_any (w : World) (rb tb tc : Nat) (ps : List (Thk.Tok × Value)) (n d : Nat) (h : Rd w rb tb tc ps n d) (hn : n < ps.length) (K : Int) (hK : kindI ps[n].1.kind = K)
    (ks : List UInt8) (kb : Nat) (hks : ks.length ≤ 3) (hcs : ∀ i (hi : i < ks.length), w.cell? ⟨kb, i, none⟩ = some (.int .u8 ks[i].toNat)) :
    Calls Tryz.prog 205 #[.pointer (some ⟨rb, 0, none⟩), .slice (some ⟨kb, 0, none⟩) ks.length ks.length] w fun e w' =>
      (hitK ks K = true → e = .returned (.int .u8 K) ∧ Rd w' rb tb tc ps (n + 1) d) ∧ (hitK ks K = false → e = .returned (.int .u8 0) ∧ Rd w' rb tb tc ps n d) ∧ Kp rb w.heap.size w w' := by
  have hc := fun q => kind_of (w.drewN q) rb tb tc ps n d (h.drewN q) hn K hK
  obtain ⟨c0, c1, c2, fz⟩ := h.cells
  have hl := h.2.2.1
  have H : Hid (Rd w rb tb tc ps n d) := h
  have HC : Hid (∀ i (hi : i < ks.length), w.cell? ⟨kb, i, none⟩ = some (.int .u8 ks[i].toNat)) := hcs
  clear h hK hcs
  go_enter Tryz.func205, Tryz.ntmps205
  go_wp2_with fail
  go_loopw [9] (fun i wr => ∃ (j q : Nat), j ≤ ks.length ∧ i = .int .i64 j ∧ wr = w.drewN q ∧ Hid (∀ t (ht : t < ks.length), t < j → ((ks[t].toNat : Int) == K) = false)) (fun i _ => ks.length - (intOf i).toNat)
  case atStart => exact ⟨0, 0, Nat.zero_le _, rfl, rfl, fun t _ ht => by omega⟩
  case round =>
    obtain ⟨j, q, hj, rfl, rfl, hN⟩ := hrel
    by_cases hlt : j < ks.length
    · have hcj := HC.out j hlt
      have hlt' : (j : Int) < ks.length := by omega
      by_cases hm : K = ks[j].toNat
      · have tm : (K == (ks[j].toNat : Int)) = true := by rw [hm]; simp
        have hhit : hitK ks K = true := by
          unfold hitK; rw [List.any_eq_true]; exact ⟨ks[j], List.getElem_mem hlt, by rw [hm]; simp⟩
        have HF : Hid (hitK ks K = true) := hhit
        have HM : Hid (K = ks[j].toNat) := hm
        clear hm hhit
        go_wp2_with (first | (go_at_call 124; refine (hc _).mono ?_; rintro e w1 ⟨rfl, q, rfl⟩))
        go_ret
        refine ⟨fun _ => ⟨?_, ?_⟩, fun h => ?_, ?_⟩
        · show Ending.returned (Value.int IntKind.u8 _) = _
          rw [HM.out]
        · exact (H.out.set1 (n + 1)).below (below_drewN (Below.refl _ _) _)
        · rw [HF.out] at h; cases h
        · exact ((Kp.refl _ _ _).setRb _ _).drewN _
      · have tm : (K == (ks[j].toNat : Int)) = false := beq_eq_false_iff_ne.2 hm
        have hN' : Hid (∀ t (ht : t < ks.length), t < j + 1 → ((ks[t].toNat : Int) == K) = false) := by
          intro t ht h1
          by_cases e : t = j
          · subst e; exact beq_eq_false_iff_ne.2 (fun e => hm e.symm)
          · exact hN.out t ht (by omega)
        clear hm hN
        go_wp2_with (first | (go_at_call 124; refine (hc _).mono ?_; rintro e w1 ⟨rfl, q, rfl⟩))
        go_roundw
        case rel => exact ⟨j + 1, _, by omega, by go_num, rfl, hN'⟩
        case measure => simp [intOf]; omega
    · have hno : hitK ks K = false := by
        unfold hitK
        rw [List.any_eq_false]
        intro c hc
        obtain ⟨t, ht, rfl⟩ := List.getElem_of_mem hc
        rw [hN.out t ht (by omega)]; simp
      have HF : Hid (hitK ks K = false) := hno
      clear hno hN
      go_wp2_with fail
      go_ret
      refine ⟨fun h => ?_, fun _ => ⟨rfl, ?_⟩, ?_⟩
      · rw [HF.out] at h; cases h
      · exact H.out.drewN _
      · exact (Kp.refl _ _ _).drewN _
end Go.Proofs.YtiganlkabilblaaGreatDoor
namespace Go.Proofs.YtiganlkabilblaaGreatDoor
open Go.RowKit
def faultV (er p : Nat) : Value := .iface 128 (.agg #[.int .i64 er, .int .i64 p])
/-- A row of cells, in a block that may be. -/
def Row (w : World) (A : Nat → Prop) (e : TypeId) (sz : Nat) (v : Value) (n : Nat) (xs : List Value) : Prop := w.ownsRow 0 e sz v n xs ∧ ∀ g, v.ownBlock = some g → A g
theorem Row.mono {w : World} {A A' : Nat → Prop} {e : TypeId} {sz : Nat} {v : Value} {n : Nat} {xs : List Value} (h : Row w A e sz v n xs) (hA : ∀ g, g < w.heap.size → A g → A' g) : Row w A' e sz v n xs :=
  ⟨h.1, fun g hg => hA g (h.1.lt g hg).2 (h.2 g hg)⟩
theorem own_blocks {w w' : World} {base : Nat} {e : TypeId} {size : Nat} {v : Value} {n : Nat} {xs : List Value} (h : w.ownsRow base e size v n xs) (hb : ∀ g, v.ownBlock = some g → w'.heap[g]? = w.heap[g]?) : w'.ownsRow base e size v n xs := by
  obtain ⟨h1, h2⟩ := h
  refine ⟨h1, ?_⟩
  rcases h2 with h2 | ⟨g, cap, cur, hv, hg, hh, r⟩
  · exact Or.inl h2
  · refine Or.inr ⟨g, cap, cur, hv, hg, ?_, r⟩
    rw [hb g (by rw [hv]; rfl)]; exact hh
theorem Row.kept {w w' : World} {A : Nat → Prop} {e : TypeId} {sz : Nat} {v : Value} {n : Nat} {xs : List Value} (h : Row w A e sz v n xs) (hb : ∀ g, g < w.heap.size → A g → w'.heap[g]? = w.heap[g]?) : Row w' A e sz v n xs :=
  ⟨own_blocks h.1 (fun g hg => hb g (h.1.lt g hg).2 (h.2 g hg)), h.2⟩
def termC : List Thk.Term → List Value → List Value
  | .mk a _ b :: s, v :: vs => .int .u8 a.toNat :: v :: .int .u8 b.toNat :: termC s vs
  | _, _ => []
mutual
def RPiece (w : World) (A : Nat → Prop) : Thk.Piece → Value → Prop
  | .name b, v => v = .iface 251 (.agg #[.string ⟨b.toArray⟩]) ∧ b.length ≤ 2000
  | .lit b, v => v = .iface 319 (.agg #[.string ⟨b.toArray⟩])
  | .cls l, v => ∃ u, v = .iface 321 (.agg #[u]) ∧ Spans w 0 u l
  | .any, v => v = .iface 345 (.agg #[])
  | .group c, v => ∃ u us, v = .iface 296 (.agg #[u]) ∧ Row w A 215 1 u c.length us ∧ RSeqs w A c us
def RTerm (w : World) (A : Nat → Prop) : Thk.Term → Value → Prop
  | .mk _ p _, v => RPiece w A p v
def RTerms (w : World) (A : Nat → Prop) : List Thk.Term → List Value → Prop
  | [], vs => vs = []
  | t :: s, vs => ∃ v vs', vs = v :: vs' ∧ RTerm w A t v ∧ RTerms w A s vs'
def RSeqs (w : World) (A : Nat → Prop) : List (List Thk.Term) → List Value → Prop
  | [], us => us = []
  | s :: c, us => ∃ u us', us = u :: us' ∧ (∃ vs, Row w A 249 3 u s.length (termC s vs) ∧ RTerms w A s vs) ∧ RSeqs w A c us'
 end
def RSeq (w : World) (A : Nat → Prop) (s : Thk.Seq) (u : Value) : Prop := ∃ vs, Row w A 249 3 u s.length (termC s vs) ∧ RTerms w A s vs
def RChoice (w : World) (A : Nat → Prop) (c : Thk.Choice) (u : Value) : Prop := ∃ us, Row w A 215 1 u c.length us ∧ RSeqs w A c us
/-- What is asked of a world that stands for another: the spans' rows, and the blocks that may be, are as they were. -/
structure Sm (A : Nat → Prop) (w w' : World) : Prop where
  spans : ∀ u l, Spans w 0 u l → Spans w' 0 u l
  blocks : ∀ g, g < w.heap.size → A g → w'.heap[g]? = w.heap[g]?
mutual
theorem RPiece.kept {w w' : World} {A : Nat → Prop} (h : Sm A w w') : ∀ (p : Thk.Piece) (v : Value), RPiece w A p v → RPiece w' A p v
  | .name _, _, hp => by simp only [RPiece] at hp ⊢; exact hp
  | .lit _, _, hp => by simp only [RPiece] at hp ⊢; exact hp
  | .cls _, _, hp => by
    simp only [RPiece] at hp ⊢
    obtain ⟨u, hv, hs⟩ := hp
    exact ⟨u, hv, h.spans _ _ hs⟩
  | .any, _, hp => by simp only [RPiece] at hp ⊢; exact hp
  | .group c, _, hp => by
    simp only [RPiece] at hp ⊢
    obtain ⟨u, us, hv, hr, hc⟩ := hp
    exact ⟨u, us, hv, hr.kept h.blocks, RSeqs.kept h c us hc⟩
theorem RTerm.kept {w w' : World} {A : Nat → Prop} (h : Sm A w w') : ∀ (t : Thk.Term) (v : Value), RTerm w A t v → RTerm w' A t v
  | .mk _ p _, v, ht => by simp only [RTerm] at ht ⊢; exact RPiece.kept h p v ht
theorem RTerms.kept {w w' : World} {A : Nat → Prop} (h : Sm A w w') : ∀ (s : List Thk.Term) (vs : List Value), RTerms w A s vs → RTerms w' A s vs
  | [], _, hs => by simp only [RTerms] at hs ⊢; exact hs
  | t :: s, _, hs => by
    simp only [RTerms] at hs ⊢
    obtain ⟨v, vs', hv, ht, hs⟩ := hs
    exact ⟨v, vs', hv, RTerm.kept h t v ht, RTerms.kept h s vs' hs⟩
theorem RSeqs.kept {w w' : World} {A : Nat → Prop} (h : Sm A w w') : ∀ (c : List (List Thk.Term)) (us : List Value), RSeqs w A c us → RSeqs w' A c us
  | [], _, hs => by simp only [RSeqs] at hs ⊢; exact hs
  | s :: c, _, hs => by
    simp only [RSeqs] at hs ⊢
    obtain ⟨u, us', hu, ⟨vs, hr, ht⟩, hc⟩ := hs
    exact ⟨u, us', hu, ⟨vs, hr.kept h.blocks, RTerms.kept h s vs ht⟩, RSeqs.kept h c us' hc⟩
 end
mutual
theorem RPiece.mono {w : World} {A A' : Nat → Prop} (h : ∀ g, g < w.heap.size → A g → A' g) : ∀ (p : Thk.Piece) (v : Value), RPiece w A p v → RPiece w A' p v
  | .name _, _, hp => by simp only [RPiece] at hp ⊢; exact hp
  | .lit _, _, hp => by simp only [RPiece] at hp ⊢; exact hp
  | .cls _, _, hp => by simp only [RPiece] at hp ⊢; exact hp
  | .any, _, hp => by simp only [RPiece] at hp ⊢; exact hp
  | .group c, _, hp => by
    simp only [RPiece] at hp ⊢
    obtain ⟨u, us, hv, hr, hc⟩ := hp
    exact ⟨u, us, hv, hr.mono h, RSeqs.mono h c us hc⟩
theorem RTerm.mono {w : World} {A A' : Nat → Prop} (h : ∀ g, g < w.heap.size → A g → A' g) : ∀ (t : Thk.Term) (v : Value), RTerm w A t v → RTerm w A' t v
  | .mk _ p _, v, ht => by simp only [RTerm] at ht ⊢; exact RPiece.mono h p v ht
theorem RTerms.mono {w : World} {A A' : Nat → Prop} (h : ∀ g, g < w.heap.size → A g → A' g) : ∀ (s : List Thk.Term) (vs : List Value), RTerms w A s vs → RTerms w A' s vs
  | [], _, hs => by simp only [RTerms] at hs ⊢; exact hs
  | t :: s, _, hs => by
    simp only [RTerms] at hs ⊢
    obtain ⟨v, vs', hv, ht, hs⟩ := hs
    exact ⟨v, vs', hv, RTerm.mono h t v ht, RTerms.mono h s vs' hs⟩
theorem RSeqs.mono {w : World} {A A' : Nat → Prop} (h : ∀ g, g < w.heap.size → A g → A' g) : ∀ (c : List (List Thk.Term)) (us : List Value), RSeqs w A c us → RSeqs w A' c us
  | [], _, hs => by simp only [RSeqs] at hs ⊢; exact hs
  | s :: c, _, hs => by
    simp only [RSeqs] at hs ⊢
    obtain ⟨u, us', hu, ⟨vs, hr, ht⟩, hc⟩ := hs
    exact ⟨u, us', hu, ⟨vs, hr.mono h, RTerms.mono h s vs ht⟩, RSeqs.mono h c us' hc⟩
 end
theorem RChoice.kept {w w' : World} {A : Nat → Prop} (h : Sm A w w') {c : Thk.Choice} {u : Value} (hc : RChoice w A c u) : RChoice w' A c u := by
  obtain ⟨us, hr, hs⟩ := hc
  exact ⟨us, hr.kept h.blocks, RSeqs.kept h c us hs⟩
theorem RChoice.mono {w : World} {A A' : Nat → Prop} (h : ∀ g, g < w.heap.size → A g → A' g) {c : Thk.Choice} {u : Value} (hc : RChoice w A c u) : RChoice w A' c u := by
  obtain ⟨us, hr, hs⟩ := hc
  exact ⟨us, hr.mono h, RSeqs.mono h c us hs⟩
theorem RSeq.kept {w w' : World} {A : Nat → Prop} (h : Sm A w w') {c : Thk.Seq} {u : Value} (hc : RSeq w A c u) : RSeq w' A c u := by
  obtain ⟨us, hr, hs⟩ := hc
  exact ⟨us, hr.kept h.blocks, RTerms.kept h c us hs⟩
theorem RSeq.mono {w : World} {A A' : Nat → Prop} (h : ∀ g, g < w.heap.size → A g → A' g) {c : Thk.Seq} {u : Value} (hc : RSeq w A c u) : RSeq w A' c u := by
  obtain ⟨us, hr, hs⟩ := hc
  exact ⟨us, hr.mono h, RTerms.mono h c us hs⟩
theorem termC_append (s : List Thk.Term) (vs : List Value) (h : s.length = vs.length) (a b : UInt8) (p : Thk.Piece) (v : Value) :
    termC (s ++ [.mk a p b]) (vs ++ [v]) = termC s vs ++ [.int .u8 a.toNat, v, .int .u8 b.toNat] := by
  induction s generalizing vs with
  | nil => cases vs with
    | nil => rfl
    | cons _ _ => simp at h
  | cons t s ih => cases vs with
    | nil => simp at h
    | cons u vs =>
      cases t with
      | mk a' p' b' =>
        simp only [List.cons_append, termC]
        rw [ih vs (by simpa using h)]
theorem RTerms.length {w : World} {A : Nat → Prop} : ∀ {s : List Thk.Term} {vs : List Value}, RTerms w A s vs → s.length = vs.length
  | [], _, h => by simp only [RTerms] at h; subst h; rfl
  | t :: s, _, h => by
    simp only [RTerms] at h
    obtain ⟨v, vs', rfl, _, hs⟩ := h
    simp [RTerms.length hs]
theorem RSeqs.length {w : World} {A : Nat → Prop} : ∀ {s : List (List Thk.Term)} {vs : List Value}, RSeqs w A s vs → s.length = vs.length
  | [], _, h => by simp only [RSeqs] at h; subst h; rfl
  | t :: s, _, h => by
    simp only [RSeqs] at h
    obtain ⟨v, vs', rfl, _, hs⟩ := h
    simp [RSeqs.length hs]
theorem RTerms.snoc {w : World} {A : Nat → Prop} {t : Thk.Term} {v : Value} (ht : RTerm w A t v) : ∀ {s : List Thk.Term} {vs : List Value}, RTerms w A s vs → RTerms w A (s ++ [t]) (vs ++ [v])
  | [], _, h => by simp only [RTerms] at h; subst h; simp [RTerms, ht]
  | t' :: s, _, h => by
    simp only [RTerms] at h
    obtain ⟨v', vs', rfl, h1, hs⟩ := h
    simp only [List.cons_append, RTerms]
    exact ⟨v', vs' ++ [v], rfl, h1, RTerms.snoc ht hs⟩
theorem RSeqs.snoc {w : World} {A : Nat → Prop} {t : Thk.Seq} {v : Value} (ht : RSeq w A t v) : ∀ {s : List (List Thk.Term)} {vs : List Value}, RSeqs w A s vs → RSeqs w A (s ++ [t]) (vs ++ [v])
  | [], _, h => by
    simp only [RSeqs] at h; subst h
    simp only [List.nil_append, RSeqs]
    exact ⟨v, [], rfl, ht, rfl⟩
  | t' :: s, _, h => by
    simp only [RSeqs] at h
    obtain ⟨v', vs', rfl, h1, hs⟩ := h
    simp only [List.cons_append, RSeqs]
    exact ⟨v', vs' ++ [v], rfl, h1, RSeqs.snoc ht hs⟩
end Go.Proofs.YtiganlkabilblaaGreatDoor
namespace Go.Proofs.YtiganlkabilblaaGreatDoor
open Go.RowKit
/-- What is asked at an end with an error: zero is the other result. -/
def EndErr (rb tb tc : Nat) (ps : List (Thk.Tok × Value)) (d : Nat) (zero : Value) (er p : Nat) (e : Ending) (w' : World) : Prop :=
  e = .returned (.tuple #[zero, faultV er p]) ∧ ∃ n', Rd w' rb tb tc ps n' d
def PieceEnd (w : World) (rb tb tc : Nat) (ps : List (Thk.Tok × Value)) (n d : Nat) (e : Ending) (w' : World) : Thk.Res Thk.Piece → Prop
  | .ok p rest => ∃ n' v, rest = tsOf ps n' ∧ n < n' ∧ n' < ps.length ∧ e = .returned (.tuple #[v, .nilIface]) ∧ RPiece w' (w.heap.size ≤ ·) p v ∧ Rd w' rb tb tc ps n' d
  | .err er p => EndErr rb tb tc ps d .nilIface er p e w'
def PiecePost (w : World) (rb tb tc : Nat) (ps : List (Thk.Tok × Value)) (n d : Nat) (e : Ending) (w' : World) : Prop :=
  ∃ res, Thk.PPiece d (tsOf ps n) res ∧ Kp rb w.heap.size w w' ∧ PieceEnd w rb tb tc ps n d e w' res
def ChoiceEnd (w : World) (rb tb tc : Nat) (ps : List (Thk.Tok × Value)) (n d : Nat) (e : Ending) (w' : World) : Thk.Res Thk.Choice → Prop
  | .ok c rest => ∃ n' a l cp, rest = tsOf ps n' ∧ n ≤ n' ∧ n' < ps.length ∧ e = .returned (.tuple #[.slice a l cp, .nilIface]) ∧ RChoice w' (w.heap.size ≤ ·) c (.slice a l cp) ∧ Rd w' rb tb tc ps n' d
  | .err er p => EndErr rb tb tc ps d (.slice none 0 0) er p e w'
def ChoicePost (w : World) (rb tb tc : Nat) (ps : List (Thk.Tok × Value)) (n d : Nat) (e : Ending) (w' : World) : Prop :=
  ∃ res, Thk.PChoice d (tsOf ps n) res ∧ Kp rb w.heap.size w w' ∧ ChoiceEnd w rb tb tc ps n d e w' res
/-- The contract of choice, for so many tokens to come. -/
def ChoiceC (rb tb tc : Nat) (ps : List (Thk.Tok × Value)) (R : Nat) : Prop :=
  ∀ (w : World) (n d : Nat), Rd w rb tb tc ps n d → n < ps.length → ps.length - n ≤ R → d ≤ 6 →
    Calls Tryz.prog 163 #[.pointer (some ⟨rb, 0, none⟩)] w fun e w' => ChoicePost w rb tb tc ps n d e w'
theorem group1_any (bb rb : Nat) (u : FrameMode) (w : World) (d : Nat) (hc : w.cell? ⟨bb, 0, none⟩ = some (.pointer (some ⟨rb, 0, none⟩))) (hr : w.cell? ⟨rb, 2, none⟩ = some (.int .i64 ↑(d + 1))) (hz : w.frozen? ⟨rb, 2, none⟩ = false) (hd : d ≤ 6) :
    CallsD Tryz.prog 221 #[.pointer (some ⟨bb, 0, none⟩)] u w fun e u' w' => u' = u ∧ (e = .returned (.tuple #[]) ∧ w' = w.setCell ⟨rb, 2, none⟩ (.int .i64 d)) := by
  have hr' : w.cell? ⟨rb, 2, none⟩ = some (.int .i64 (d + 1)) := hr
  clear hr
  go_enter_d Tryz.func221, Tryz.ntmps221
  go_wp2
  go_end0
  exact ⟨rfl, rfl⟩
set_option maxHeartbeats 2000000 in
set_option maxRecDepth 100000 in
theorem group_deep (w : World) (rb tb tc : Nat) (ps : List (Thk.Tok × Value)) (n : Nat) (h : Rd w rb tb tc ps n 6) (hn : n < ps.length) :
    Calls Tryz.prog 214 #[.pointer (some ⟨rb, 0, none⟩)] w fun e w' => e = .returned (.tuple #[.nilIface, faultV 3 ps[n].1.place]) ∧ Rd w' rb tb tc ps n 6 ∧ Kp rb w.heap.size w w' := by
  have hmf : ∀ (fn : Fn) (first cap : Array Value) (w : World), (Instr.makeFunc fn first cap).run Tryz.prog w = .ok (.func fn first cap) w := fun _ _ _ _ => rfl
  obtain ⟨c0, c1, c2, fz⟩ := h.cells
  have hrl := h.lt
  have hB : Below w.heap.size w (w.alloc (.cells #[.pointer (some ⟨rb, 0, none⟩)] 179)) := below_alloc _ _
  have hre := refuse_any _ rb tb tc ps n 6 (h.below hB) hn 3
  have H : Hid (Rd w rb tb tc ps n 6) := h
  clear h hB
  go_enter_defers Tryz.func214, Tryz.ntmps214
  go_wp2_with (first | (go_at_call 162; refine hre.mono ?_; rintro e w1 ⟨rfl, q, rfl⟩))
  exact ⟨_, results_tmp2 rfl _ _ _, rfl, (H.out.below (below_alloc _ _)).drewN _, ((Kp.refl _ _ _).alloc (Nat.le_refl _) _).drewN _⟩
/-- The box that the deferred closure holds. -/
abbrev boxR (rb : Nat) : Obj := .cells #[.pointer (some ⟨rb, 0, none⟩)] 179
theorem kp_cell {rb : Nat} {W w1 : World} (hb : Kp rb W.heap.size W w1) {b : Nat} (h1 : b < W.heap.size) (h2 : b ≠ rb) (o : Nat) : w1.cell? ⟨b, o, none⟩ = W.cell? ⟨b, o, none⟩ :=
  World.cell?_of_block (w := W) (a := ⟨b, o, none⟩) (hb.block b h1 h2)
theorem sm_kp {A : Nat → Prop} {rb : Nat} {w w' : World} {cs : Array Value} {fr : Nat × Nat} (hr : w.heap[rb]? = some (.cells cs 183 fr)) (hk : Kp rb w.heap.size w w') (hA : ∀ g, A g → g ≠ rb) : Sm A w w' :=
  ⟨fun _ _ h => own_kp h hr (by decide) hk, fun g hg ha => hk.block g hg (hA g ha)⟩
theorem kindI_close {k : Thk.TK} (hk : okKind k) (h : k ≠ .sign 41) : kindI k ≠ 41 := by
  cases k with
  | sign c => intro e; apply h; simp only [kindI] at e; congr 1; apply UInt8.toNat_inj.1; rw [show (41 : UInt8).toNat = 41 from rfl]; omega
  | _ => simp [kindI]
set_option maxHeartbeats 2000000 in
set_option maxRecDepth 100000 in
theorem group_any (w : World) (rb tb tc : Nat) (ps : List (Thk.Tok × Value)) (n d : Nat) (h : Rd w rb tb tc ps n d) (hg : GoodP ps) (hn : n < ps.length) (hd : d ≤ 6) (hk : ps[n].1.kind = .sign 40)
    (hC : ChoiceC rb tb tc ps (ps.length - n - 1)) :
    Calls Tryz.prog 214 #[.pointer (some ⟨rb, 0, none⟩)] w fun e w' => PiecePost w rb tb tc ps n d e w' := by
  by_cases h6 : d = 6
  · subst h6
    refine (group_deep w rb tb tc ps n h hn).mono ?_
    rintro e w' ⟨rfl, hr, hkp⟩
    exact ⟨.err 3 ps[n].1.place, by rw [← hd_tsOf hn]; exact .deep (by rw [hd_tsOf hn]; exact hk), hkp, rfl, n, hr⟩
  have hn1 : n + 1 < ps.length := (hg n hn).2 (by rw [hk]; rfl)
  have t6 : ((d : Int) == 6) = false := beq_eq_false_iff_ne.2 (by omega)
  have hmf : ∀ (fn : Fn) (first cap : Array Value) (w : World), (Instr.makeFunc fn first cap).run Tryz.prog w = .ok (.func fn first cap) w := fun _ _ _ _ => rfl
  obtain ⟨c0, c1, c2, fz⟩ := h.cells
  have hrl := h.lt
  have hl := h.2.2.1
  have hR1 : Rd (((w.setCell ⟨rb, 1, none⟩ (.int .i64 ((n : Int) + 1))).setCell ⟨rb, 2, none⟩ (.int .i64 ((d : Int) + 1))).alloc (boxR rb)) rb tb tc ps (n + 1) (d + 1) := ((h.set1 (n + 1)).set2 (d + 1)).below (below_alloc _ _)
  have hch := hC _ (n + 1) (d + 1) hR1 hn1 (by omega) (by omega)
  have hks : (Thk.hd (tsOf ps n)).kind = .sign 40 := by rw [hd_tsOf hn]; exact hk
  have hK1 : Kp rb w.heap.size w (((w.setCell ⟨rb, 1, none⟩ (.int .i64 ((n : Int) + 1))).setCell ⟨rb, 2, none⟩ (.int .i64 ((d : Int) + 1))).alloc (boxR rb)) := (((Kp.refl _ _ _).setRb _ _).setRb _ _).alloc (by simp) _
  have hsz1 : (((w.setCell ⟨rb, 1, none⟩ (.int .i64 ((n : Int) + 1))).setCell ⟨rb, 2, none⟩ (.int .i64 ((d : Int) + 1))).alloc (boxR rb)).heap.size = w.heap.size + 1 := by simp
  have hbx : (((w.setCell ⟨rb, 1, none⟩ (.int .i64 ((n : Int) + 1))).setCell ⟨rb, 2, none⟩ (.int .i64 ((d : Int) + 1))).alloc (boxR rb)).cell? ⟨w.heap.size, 0, none⟩ = some (.pointer (some ⟨rb, 0, none⟩)) := by
    rw [show w.heap.size = ((w.setCell ⟨rb, 1, none⟩ (.int .i64 ((n : Int) + 1))).setCell ⟨rb, 2, none⟩ (.int .i64 ((d : Int) + 1))).heap.size from by simp, World.cell?_alloc_mark]; rfl
  have HK1 := (show Hid _ from hK1)
  clear hK1
  clear hR1 h hC
  go_enter_defers Tryz.func214, Tryz.ntmps214
  go_wp2_with fail
  refine hch.mono ?_
  rintro e w2 ⟨res, hP, hKp, hE⟩
  have hbx2 : w2.cell? ⟨w.heap.size, 0, none⟩ = some (.pointer (some ⟨rb, 0, none⟩)) := by
    rw [kp_cell hKp (by rw [hsz1]; omega) (by omega)]; exact hbx
  have hsz2 := hKp.size
  rw [hsz1] at hsz2
  have hK2 : Kp rb w.heap.size w w2 := HK1.out.trans (hKp.mono (by rw [hsz1]; omega))
  have HKp := (show Hid _ from hKp)
  have HK2 := (show Hid _ from hK2)
  have HP := (show Hid _ from hP)
  clear hKp hK2 hbx hch HK1 hP
  cases res with
  | err er p =>
    obtain ⟨rfl, n', hR⟩ := hE
    obtain ⟨r0, r1, r2, rf⟩ := hR.cells
    have H : Hid (Rd w2 rb tb tc ps n' (d + 1)) := hR
    clear hR
    simp only [faultV]
    go_wp2_with fail
    refine leaves_cons (f := 221) (args := #[.pointer (some ⟨w.heap.size, 0, none⟩)]) (by simp) (by simp [go_sem]) ?_
    refine (group1_any w.heap.size rb .returning _ d hbx2 r2 (rf 2) hd).mono ?_
    rintro e u' w'' ⟨rfl, rfl, rfl⟩
    refine ⟨_, results_tmp2 rfl _ _ _, .err er p, ?_, HK2.out.setRb _ _, rfl, n', H.out.set2 d⟩
    exact .inner hks h6 (by rw [tl_tsOf hn]; exact HP.out)
  | ok c rest =>
    obtain ⟨n', a, l, cp, rfl, hle, hn', rfl, hRC, hR⟩ := hE
    have hok' := (hg n' hn').1
    by_cases hcl : ps[n'].1.kind = .sign 41
    · have hex := expect_yes w2 rb tb tc ps n' (d + 1) hR hn' 41 (by rw [hcl]; rfl)
      have hn1' : n' + 1 < ps.length := (hg n' hn').2 (by rw [hcl]; rfl)
      obtain ⟨a0, b0, e0⟩ := own_form (hR.2.1.2 ps[n'] (List.getElem_mem hn'))
      have HRC : Hid (RChoice w2 ((((w.setCell ⟨rb, 1, none⟩ (.int .i64 ((n : Int) + 1))).setCell ⟨rb, 2, none⟩ (.int .i64 ((d : Int) + 1))).alloc (boxR rb)).heap.size ≤ ·) c (.slice a l cp)) := hRC
      have HR : Hid (Rd w2 rb tb tc ps n' (d + 1)) := hR
      have hrl2 := hR.lt
      simp only [tokV, e0] at hex
      clear hRC hR e0
      go_wp2_with fail
      refine hex.mono ?_
      rintro e w3 ⟨rfl, hR3, hK3⟩
      have hbx3 : w3.cell? ⟨w.heap.size, 0, none⟩ = some (.pointer (some ⟨rb, 0, none⟩)) := by
        rw [kp_cell hK3 (by omega) (by omega)]; exact hbx2
      have hsz3 := hK3.size
      obtain ⟨r0, r1, r2, rf⟩ := hR3.cells
      have H : Hid (Rd w3 rb tb tc ps (n' + 1) (d + 1)) := hR3
      have HK3 : Hid (Kp rb w2.heap.size w2 w3) := hK3
      clear hR3 hK3 hex
      go_wp2_with fail
      refine leaves_cons (f := 221) (args := #[.pointer (some ⟨w.heap.size, 0, none⟩)]) (by simp) (by simp [go_sem]) ?_
      refine (group1_any w.heap.size rb .returning _ d ?_ ?_ ?_ hd).mono ?_
      · rw [World.cell?_alloc_lt _ _ _ (by simp only []; omega)]; exact hbx3
      · rw [World.cell?_alloc_lt _ _ _ (by simp only []; omega)]; exact r2
      · rw [World.frozen?_alloc_old _ _ _ (by simp only []; omega)]; exact rf 2
      rintro e u' w'' ⟨rfl, rfl, rfl⟩
      refine ⟨_, results_tmp2 rfl _ _ _, .ok (.group c) (tsOf ps (n' + 1)), ?_, ?_, n' + 1, _, rfl, by omega, hn1', rfl, ?_, ?_⟩
      · rw [← tl_tsOf hn']
        exact .group hks h6 (by rw [tl_tsOf hn]; exact HP.out) (by rw [hd_tsOf hn']; exact hcl)
      · exact ((HK2.out.trans (HK3.out.mono (by omega))).alloc (by omega) _).setRb _ _
      · have hA := HRC.out
        have hK4 : Kp rb w2.heap.size w2 ((w3.alloc (.cells #[Value.int IntKind.u8 (kindI ps[n'].1.kind), Value.int IntKind.i64 ↑ps[n'].1.place, Value.string ⟨List.toArray ps[n'].1.text⟩, Value.slice a0 ps[n'].1.spans.length b0] 237)).setCell ⟨rb, 2, none⟩ (Value.int IntKind.i64 ↑d)) := (HK3.out.alloc (by omega) _).setRb _ _
        rw [hcl] at hK4
        have hC4 := (hA.kept (sm_kp HR.out.1 hK4 (fun g hg => by simp at hg; omega))).mono (A' := (w.heap.size ≤ ·)) (fun g _ hg => by simp at hg; omega)
        obtain ⟨us, hRow, hSeqs⟩ := hC4
        simp only [RPiece]
        exact ⟨_, us, rfl, hRow, hSeqs⟩
      · exact (H.out.below (below_alloc _ _)).set2 d
    · have hex := expect_no w2 rb tb tc ps n' (d + 1) hR hn' 41 (kindI_close hok' hcl)
      obtain ⟨a0, b0, e0⟩ := own_form (hR.2.1.2 ps[n'] (List.getElem_mem hn'))
      have hrl2 := hR.lt
      simp only [tokV, e0] at hex
      clear hRC hR e0
      go_wp2_with fail
      refine hex.mono ?_
      rintro e w3 ⟨rfl, hR3, hK3⟩
      have hbx3 : w3.cell? ⟨w.heap.size, 0, none⟩ = some (.pointer (some ⟨rb, 0, none⟩)) := by
        rw [kp_cell hK3 (by omega) (by omega)]; exact hbx2
      have hsz3 := hK3.size
      obtain ⟨r0, r1, r2, rf⟩ := hR3.cells
      have H : Hid (Rd w3 rb tb tc ps n' (d + 1)) := hR3
      have HK3 : Hid (Kp rb w2.heap.size w2 w3) := hK3
      clear hR3 hK3 hex
      go_wp2_with fail
      refine leaves_cons (f := 221) (args := #[.pointer (some ⟨w.heap.size, 0, none⟩)]) (by simp) (by simp [go_sem]) ?_
      refine (group1_any w.heap.size rb .returning _ d ?_ ?_ ?_ hd).mono ?_
      · rw [World.cell?_alloc_lt _ _ _ (by simp only []; omega)]; exact hbx3
      · rw [World.cell?_alloc_lt _ _ _ (by simp only []; omega)]; exact r2
      · rw [World.frozen?_alloc_old _ _ _ (by simp only []; omega)]; exact rf 2
      rintro e u' w'' ⟨rfl, rfl, rfl⟩
      refine ⟨_, results_tmp2 rfl _ _ _, .err 2 ps[n'].1.place, ?_, ?_, rfl, n', ?_⟩
      · rw [← hd_tsOf hn']
        exact .unclosed hks h6 (by rw [tl_tsOf hn]; exact HP.out) (by rw [hd_tsOf hn']; exact hcl)
      · exact ((HK2.out.trans (HK3.out.mono (by omega))).alloc (by omega) _).setRb _ _
      · exact (H.out.below (below_alloc _ _)).set2 d
end Go.Proofs.YtiganlkabilblaaGreatDoor
namespace Go.Proofs.YtiganlkabilblaaGreatDoor
open Go.RowKit
set_option maxHeartbeats 4000000 in
set_option maxRecDepth 100000 in
/-- piece, where no group begins. -/
theorem piece_plain (w : World) (rb tb tc : Nat) (ps : List (Thk.Tok × Value)) (n d : Nat) (h : Rd w rb tb tc ps n d) (hg : GoodP ps) (hn : n < ps.length) (pc : Thk.Piece) (hp : Thk.plainPiece ps[n].1 = some pc) :
    Calls Tryz.prog 206 #[.pointer (some ⟨rb, 0, none⟩)] w fun e w' => PiecePost w rb tb tc ps n d e w' := by
  have hPP : Thk.PPiece d (tsOf ps n) (.ok pc (tsOf ps (n + 1))) := by rw [← tl_tsOf hn]; exact .plain (by rw [hd_tsOf hn]; exact hp)
  obtain ⟨c0, c1, c2, fz⟩ := h.cells
  obtain ⟨k0, k1, k2, k3⟩ := h.tok' n hn
  have hl := h.2.2.1
  have hn' : (n : Int) < (ps.length : Int) := by omega
  have hsp := h.2.1.2 ps[n] (List.getElem_mem hn)
  obtain ⟨a0, b0, e0⟩ := own_form hsp
  have hrl := h.lt
  have HTX : Hid (ps[n].1.text.length ≤ 2000) := h.2.2.2 ps[n] (List.getElem_mem hn)
  have htl : tb < w.heap.size := ((h.2.1.1.lt tb rfl).2)
  have hnl : ps[n].1.kind.last = false := by
    unfold Thk.plainPiece at hp
    cases hk : ps[n].1.kind with
    | fin => rw [hk] at hp; cases hp
    | bad => rw [hk] at hp; cases hp
    | _ => rfl
  have hn1 : n + 1 < ps.length := (hg n hn).2 hnl
  rw [e0] at k3 hsp
  have H : Hid (Rd w rb tb tc ps n d) := h
  have HSP : Hid (Spans w 0 (.slice a0 ps[n].1.spans.length b0) ps[n].1.spans) := hsp
  have HPP : Hid (Thk.PPiece d (tsOf ps n) (.ok pc (tsOf ps (n + 1)))) := hPP
  have fin : ∀ (w' : World) (v : Value), Kp rb w.heap.size w w' → Rd w' rb tb tc ps (n + 1) d → RPiece w' (w.heap.size ≤ ·) pc v → PiecePost w rb tb tc ps n d (.returned (.tuple #[v, .nilIface])) w' :=
    fun w' v h1 h2 h3 => ⟨_, hPP, h1, n + 1, v, rfl, by omega, hn1, rfl, h3, h2⟩
  have FIN : Hid _ := fin
  clear h hPP hsp fin
  unfold Thk.plainPiece at hp
  cases hk : ps[n].1.kind with
  | name =>
    rw [hk] at hp k0
    simp only [Option.some.injEq] at hp
    subst hp
    simp only [kindI] at k0
    go_enter Tryz.func206, Tryz.ntmps206
    go_wp2_with fail
    go_region
    go_wp2_with fail
    go_ret2
    refine FIN.out _ _ ?_ ?_ ?_
    · exact ((((Kp.refl _ _ _).setRb _ _).alloc (by simp) _)).drew
    · exact (H.out.set1 (n + 1)).below (below_alloc _ _).drew
    · simp only [RPiece]; exact ⟨rfl, HTX.out⟩
  | lit =>
    rw [hk] at hp k0
    simp only [Option.some.injEq] at hp
    subst hp
    simp only [kindI] at k0
    go_enter Tryz.func206, Tryz.ntmps206
    go_wp2_with fail
    go_region
    go_wp2_with fail
    go_ret2
    refine FIN.out _ _ ?_ ?_ ?_
    · exact ((((Kp.refl _ _ _).setRb _ _).alloc (by simp) _)).drew
    · exact (H.out.set1 (n + 1)).below (below_alloc _ _).drew
    · simp only [RPiece]; rfl
  | cls =>
    rw [hk] at hp k0
    simp only [Option.some.injEq] at hp
    subst hp
    simp only [kindI] at k0
    go_enter Tryz.func206, Tryz.ntmps206
    go_wp2_with fail
    go_region
    go_wp2_with fail
    go_ret2
    have hK : Kp rb w.heap.size w ((((w.setCell ⟨rb, 1, none⟩ (.int .i64 ((n : Int) + 1))).alloc (.cells #[.int .u8 5, .int .i64 ↑ps[n].1.place, .string ⟨List.toArray ps[n].1.text⟩, .slice a0 ps[n].1.spans.length b0] 237))).drew) := ((((Kp.refl _ _ _).setRb _ _).alloc (by simp) _)).drew
    refine FIN.out _ _ hK ?_ ?_
    · exact (H.out.set1 (n + 1)).below (below_alloc _ _).drew
    · simp only [RPiece]
      exact ⟨_, rfl, own_kp HSP.out H.out.1 (by decide) hK⟩
  | sign c =>
    rw [hk] at hp k0
    simp only [] at hp
    split at hp
    · rename_i hc
      subst hc
      simp only [Option.some.injEq] at hp
      subst hp
      simp only [kindI] at k0
      simp at k0
      go_enter Tryz.func206, Tryz.ntmps206
      go_wp2_with fail
      go_region
      go_wp2_with fail
      go_ret2
      refine FIN.out _ _ ?_ ?_ ?_
      · exact ((((Kp.refl _ _ _).setRb _ _).alloc (by simp) _)).drew
      · exact (H.out.set1 (n + 1)).below (below_alloc _ _).drew
      · simp only [RPiece]; rfl
    · cases hp
  | fin => rw [hk] at hp; cases hp
  | bad => rw [hk] at hp; cases hp
  | arrow => rw [hk] at hp; cases hp
end Go.Proofs.YtiganlkabilblaaGreatDoor
namespace Go.Proofs.YtiganlkabilblaaGreatDoor
open Go.RowKit
set_option maxHeartbeats 4000000 in
set_option maxRecDepth 100000 in
theorem piece_group (w : World) (rb tb tc : Nat) (ps : List (Thk.Tok × Value)) (n d : Nat) (h : Rd w rb tb tc ps n d) (hg : GoodP ps) (hn : n < ps.length) (hd : d ≤ 6) (hk : ps[n].1.kind = .sign 40)
    (hC : ChoiceC rb tb tc ps (ps.length - n - 1)) :
    Calls Tryz.prog 206 #[.pointer (some ⟨rb, 0, none⟩)] w fun e w' => PiecePost w rb tb tc ps n d e w' := by
  obtain ⟨c0, c1, c2, fz⟩ := h.cells
  obtain ⟨k0, k1, k2, k3⟩ := h.tok' n hn
  have hl := h.2.2.1
  have hn' : (n : Int) < (ps.length : Int) := by omega
  obtain ⟨a0, b0, e0⟩ := own_form (h.2.1.2 ps[n] (List.getElem_mem hn))
  have hrl := h.lt
  have htl : tb < w.heap.size := ((h.2.1.1.lt tb rfl).2)
  rw [e0] at k3
  rw [hk] at k0
  simp [kindI] at k0
  have H : Hid (Rd w rb tb tc ps n d) := h
  have hgr := fun w' (hR : Rd w' rb tb tc ps n d) => group_any w' rb tb tc ps n d hR hg hn hd hk hC
  clear h
  go_enter Tryz.func206, Tryz.ntmps206
  go_wp2_with fail
  go_region
  go_wp2_with fail
  have hB : Below w.heap.size w (w.alloc (.cells #[.int .u8 40, .int .i64 ↑ps[n].1.place, .string ⟨List.toArray ps[n].1.text⟩, .slice a0 ps[n].1.spans.length b0] 237)).drew := (below_alloc _ _).drew
  have hsz : (w.alloc (.cells #[.int .u8 40, .int .i64 ↑ps[n].1.place, .string ⟨List.toArray ps[n].1.text⟩, .slice a0 ps[n].1.spans.length b0] 237)).drew.heap.size = w.heap.size + 1 := by simp
  refine (hgr _ (H.out.below hB)).mono ?_
  rintro e w2 ⟨res, hP, hKp, hE⟩
  rw [hsz] at hKp
  have hK2 : Kp rb w.heap.size w w2 := (Kp.of hB).trans (hKp.mono (by omega))
  clear hgr hKp hB
  cases res with
  | err er p =>
    obtain ⟨rfl, n', hR⟩ := hE
    simp only [faultV]
    clear hC
    go_wp2_with fail
    go_ret2
    exact ⟨_, hP, hK2, rfl, n', hR⟩
  | ok pc rest =>
    obtain ⟨n', v, rfl, hlt, hn2, rfl, hRP, hR⟩ := hE
    have hRP2 : RPiece w2 (w.heap.size ≤ ·) pc v := RPiece.mono (fun g _ hg => by rw [hsz] at hg; omega) pc v hRP
    clear hC hRP
    go_wp2_with fail
    go_ret2
    exact ⟨_, hP, hK2, n', v, rfl, hlt, hn2, rfl, hRP2, hR⟩
theorem plain_none {t : Thk.Tok} (hk : okKind t.kind) (h : Thk.plainPiece t = none) (h40 : t.kind ≠ .sign 40) :
    (kindI t.kind == 2) = false ∧ (kindI t.kind == 4) = false ∧ (kindI t.kind == 5) = false ∧ (kindI t.kind == 46) = false ∧ (kindI t.kind == 40) = false := by
  unfold Thk.plainPiece at h
  cases hkk : t.kind with
  | name => rw [hkk] at h; cases h
  | lit => rw [hkk] at h; cases h
  | cls => rw [hkk] at h; cases h
  | sign c =>
    rw [hkk] at h hk h40
    simp only [] at h
    have h46 : c ≠ 46 := by intro e; rw [if_pos e] at h; cases h
    have hc40 : c ≠ 40 := by intro e; apply h40; rw [e]
    have hge := signB_ge hk
    refine ⟨?_, ?_, ?_, ?_, ?_⟩ <;> simp only [kindI] <;> apply beq_eq_false_iff_ne.2
    · omega
    · omega
    · omega
    · intro e; apply h46; apply UInt8.toNat_inj.1; rw [show (46 : UInt8).toNat = 46 from rfl]; omega
    · intro e; apply hc40; apply UInt8.toNat_inj.1; rw [show (40 : UInt8).toNat = 40 from rfl]; omega
  | _ => simp [kindI]
set_option maxHeartbeats 4000000 in
set_option maxRecDepth 100000 in
theorem piece_bad (w : World) (rb tb tc : Nat) (ps : List (Thk.Tok × Value)) (n d : Nat) (h : Rd w rb tb tc ps n d) (hg : GoodP ps) (hn : n < ps.length) (hp : Thk.plainPiece ps[n].1 = none) (hk : ps[n].1.kind ≠ .sign 40) :
    Calls Tryz.prog 206 #[.pointer (some ⟨rb, 0, none⟩)] w fun e w' => PiecePost w rb tb tc ps n d e w' := by
  obtain ⟨c0, c1, c2, fz⟩ := h.cells
  obtain ⟨k0, k1, k2, k3⟩ := h.tok' n hn
  have hl := h.2.2.1
  have hn' : (n : Int) < (ps.length : Int) := by omega
  obtain ⟨a0, b0, e0⟩ := own_form (h.2.1.2 ps[n] (List.getElem_mem hn))
  have hrl := h.lt
  have htl : tb < w.heap.size := ((h.2.1.1.lt tb rfl).2)
  rw [e0] at k3
  obtain ⟨t1, t2, t3, t4, t5⟩ := plain_none (hg n hn).1 hp hk
  have H : Hid (Rd w rb tb tc ps n d) := h
  have HPP : Hid (Thk.PPiece d (tsOf ps n) (.err 2 ps[n].1.place)) := by
    show Thk.PPiece d (tsOf ps n) (.err 2 ps[n].1.place)
    rw [← hd_tsOf hn]; exact .bad (by rw [hd_tsOf hn]; exact hp) (by rw [hd_tsOf hn]; exact hk)
  have hre := fun w' (hR : Rd w' rb tb tc ps n d) => refuse_any w' rb tb tc ps n d hR hn 2
  clear h hp hk
  generalize kindI ps[n].1.kind = K at *
  go_enter Tryz.func206, Tryz.ntmps206
  go_wp2_with fail
  go_region
  go_wp2_with fail
  have hB : Below w.heap.size w (w.alloc (.cells #[.int .u8 K, .int .i64 ↑ps[n].1.place, .string ⟨List.toArray ps[n].1.text⟩, .slice a0 ps[n].1.spans.length b0] 237)).drew := (below_alloc _ _).drew
  refine (hre _ (H.out.below hB)).mono ?_
  rintro e w2 ⟨rfl, q, rfl⟩
  clear hre
  go_wp2_with fail
  go_ret2
  exact ⟨_, HPP.out, (Kp.of (below_alloc _ _)).drewN _, rfl, n, (H.out.below (below_alloc _ _)).drewN _⟩
theorem piece_any (w : World) (rb tb tc : Nat) (ps : List (Thk.Tok × Value)) (n d : Nat) (h : Rd w rb tb tc ps n d) (hg : GoodP ps) (hn : n < ps.length) (hd : d ≤ 6)
    (hC : ChoiceC rb tb tc ps (ps.length - n - 1)) :
    Calls Tryz.prog 206 #[.pointer (some ⟨rb, 0, none⟩)] w fun e w' => PiecePost w rb tb tc ps n d e w' := by
  cases hp : Thk.plainPiece ps[n].1 with
  | some pc => exact piece_plain w rb tb tc ps n d h hg hn pc hp
  | none =>
    by_cases hk : ps[n].1.kind = .sign 40
    · exact piece_group w rb tb tc ps n d h hg hn hd hk hC
    · exact piece_bad w rb tb tc ps n d h hg hn hp hk
end Go.Proofs.YtiganlkabilblaaGreatDoor
namespace Go.Proofs.YtiganlkabilblaaGreatDoor
open Go.RowKit
theorem kindI_sign {k : Thk.TK} (hk : okKind k) {c : UInt8} (hc : 33 ≤ c.toNat) (h : (c.toNat : Int) = kindI k) : k = .sign c := by
  cases k with
  | sign b => congr 1; apply UInt8.toNat_inj.1; simp only [kindI] at h; omega
  | _ => simp only [kindI] at h; omega
theorem hit_ahead {ps : List (Thk.Tok × Value)} {n : Nat} (hn : n < ps.length) (hg : GoodP ps) :
    (hitK [38, 33] (kindI ps[n].1.kind) = true → ∃ a : UInt8, kindI ps[n].1.kind = a.toNat ∧ Thk.aheadOf (tsOf ps n) = (a, tsOf ps (n + 1)) ∧ n + 1 < ps.length) ∧
    (hitK [38, 33] (kindI ps[n].1.kind) = false → Thk.aheadOf (tsOf ps n) = (0, tsOf ps n)) := by
  obtain ⟨hok, hnx⟩ := hg n hn
  constructor
  · intro h
    simp only [hitK, List.any_cons, List.any_nil, Bool.or_false, Bool.or_eq_true, beq_iff_eq] at h
    rcases h with h | h
    · have hk := kindI_sign hok (by decide) h
      refine ⟨38, h.symm, ?_, hnx (by rw [hk]; rfl)⟩
      unfold Thk.aheadOf; rw [hd_tsOf hn, hk, tl_tsOf hn]; rfl
    · have hk := kindI_sign hok (by decide) h
      refine ⟨33, h.symm, ?_, hnx (by rw [hk]; rfl)⟩
      unfold Thk.aheadOf; rw [hd_tsOf hn, hk, tl_tsOf hn]; rfl
  · intro h
    simp only [hitK, List.any_cons, List.any_nil, Bool.or_false, Bool.or_eq_false_iff, beq_eq_false_iff_ne] at h
    unfold Thk.aheadOf
    rw [hd_tsOf hn]
    cases hk : ps[n].1.kind with
    | sign c =>
      rw [hk] at h
      simp only [kindI] at h
      simp only []
      rw [if_neg]
      rintro (rfl | rfl)
      · exact h.1 rfl
      · exact h.2 rfl
    | _ => rfl
theorem hit_behind {ps : List (Thk.Tok × Value)} {n : Nat} (hn : n < ps.length) (hg : GoodP ps) :
    (hitK [63, 42, 43] (kindI ps[n].1.kind) = true → ∃ a : UInt8, kindI ps[n].1.kind = a.toNat ∧ Thk.behindOf (tsOf ps n) = (a, tsOf ps (n + 1)) ∧ n + 1 < ps.length) ∧
    (hitK [63, 42, 43] (kindI ps[n].1.kind) = false → Thk.behindOf (tsOf ps n) = (0, tsOf ps n)) := by
  obtain ⟨hok, hnx⟩ := hg n hn
  constructor
  · intro h
    simp only [hitK, List.any_cons, List.any_nil, Bool.or_false, Bool.or_eq_true, beq_iff_eq] at h
    rcases h with h | h | h
    · have hk := kindI_sign hok (by decide) h
      refine ⟨63, h.symm, ?_, hnx (by rw [hk]; rfl)⟩
      unfold Thk.behindOf; rw [hd_tsOf hn, hk, tl_tsOf hn]; rfl
    · have hk := kindI_sign hok (by decide) h
      refine ⟨42, h.symm, ?_, hnx (by rw [hk]; rfl)⟩
      unfold Thk.behindOf; rw [hd_tsOf hn, hk, tl_tsOf hn]; rfl
    · have hk := kindI_sign hok (by decide) h
      refine ⟨43, h.symm, ?_, hnx (by rw [hk]; rfl)⟩
      unfold Thk.behindOf; rw [hd_tsOf hn, hk, tl_tsOf hn]; rfl
  · intro h
    simp only [hitK, List.any_cons, List.any_nil, Bool.or_false, Bool.or_eq_false_iff, beq_eq_false_iff_ne] at h
    unfold Thk.behindOf
    rw [hd_tsOf hn]
    cases hk : ps[n].1.kind with
    | sign c =>
      rw [hk] at h
      simp only [kindI] at h
      simp only []
      rw [if_neg]
      rintro (rfl | rfl | rfl)
      · exact h.1 rfl
      · exact h.2.1 rfl
      · exact h.2.2 rfl
    | _ => rfl
/-- What a call of sign leaves. -/
def SignPost (f : List Thk.Tok → UInt8 × List Thk.Tok) (w : World) (rb tb tc : Nat) (ps : List (Thk.Tok × Value)) (n d : Nat) (e : Ending) (w' : World) : Prop :=
  ∃ (a : UInt8) (n1 : Nat), e = .returned (.int .u8 a.toNat) ∧ f (tsOf ps n) = (a, tsOf ps n1) ∧ n ≤ n1 ∧ n1 < ps.length ∧ Rd w' rb tb tc ps n1 d ∧ Kp rb w.heap.size w w'
theorem sign_ahead (w : World) (rb tb tc : Nat) (ps : List (Thk.Tok × Value)) (n d : Nat) (h : Rd w rb tb tc ps n d) (hg : GoodP ps) (hn : n < ps.length) (kb : Nat)
    (h0 : w.cell? ⟨kb, 0, none⟩ = some (.int .u8 38)) (h1 : w.cell? ⟨kb, 1, none⟩ = some (.int .u8 33)) :
    Calls Tryz.prog 205 #[.pointer (some ⟨rb, 0, none⟩), .slice (some ⟨kb, 0, none⟩) 2 2] w fun e w' => SignPost Thk.aheadOf w rb tb tc ps n d e w' := by
  refine (sign_any w rb tb tc ps n d h hn _ rfl [38, 33] kb (by decide) ?_).mono ?_
  · intro i hi
    match i, hi with
    | 0, _ => exact h0
    | 1, _ => exact h1
  rintro e w' ⟨hy, hno, hk⟩
  obtain ⟨ha, hb⟩ := hit_ahead hn hg
  cases hx : hitK [38, 33] (kindI ps[n].1.kind) with
  | true =>
    obtain ⟨a, e1, e2, e3⟩ := ha hx
    obtain ⟨rfl, hR⟩ := hy hx
    exact ⟨a, n + 1, by rw [e1], e2, by omega, e3, hR, hk⟩
  | false =>
    obtain ⟨rfl, hR⟩ := hno hx
    exact ⟨0, n, rfl, hb hx, by omega, hn, hR, hk⟩
theorem sign_behind (w : World) (rb tb tc : Nat) (ps : List (Thk.Tok × Value)) (n d : Nat) (h : Rd w rb tb tc ps n d) (hg : GoodP ps) (hn : n < ps.length) (kb : Nat)
    (h0 : w.cell? ⟨kb, 0, none⟩ = some (.int .u8 63)) (h1 : w.cell? ⟨kb, 1, none⟩ = some (.int .u8 42)) (h2 : w.cell? ⟨kb, 2, none⟩ = some (.int .u8 43)) :
    Calls Tryz.prog 205 #[.pointer (some ⟨rb, 0, none⟩), .slice (some ⟨kb, 0, none⟩) 3 3] w fun e w' => SignPost Thk.behindOf w rb tb tc ps n d e w' := by
  refine (sign_any w rb tb tc ps n d h hn _ rfl [63, 42, 43] kb (by decide) ?_).mono ?_
  · intro i hi
    match i, hi with
    | 0, _ => exact h0
    | 1, _ => exact h1
    | 2, _ => exact h2
  rintro e w' ⟨hy, hno, hk⟩
  obtain ⟨ha, hb⟩ := hit_behind hn hg
  cases hx : hitK [63, 42, 43] (kindI ps[n].1.kind) with
  | true =>
    obtain ⟨a, e1, e2, e3⟩ := ha hx
    obtain ⟨rfl, hR⟩ := hy hx
    exact ⟨a, n + 1, by rw [e1], e2, by omega, e3, hR, hk⟩
  | false =>
    obtain ⟨rfl, hR⟩ := hno hx
    exact ⟨0, n, rfl, hb hx, by omega, hn, hR, hk⟩
abbrev zTerm : Value := .agg #[.int .u8 0, .nilIface, .int .u8 0]
def TermEnd (w : World) (rb tb tc : Nat) (ps : List (Thk.Tok × Value)) (n d : Nat) (e : Ending) (w' : World) : Thk.Res Thk.Term → Prop
  | .ok (.mk a p b) rest => ∃ n' v, rest = tsOf ps n' ∧ n < n' ∧ n' < ps.length ∧ e = .returned (.tuple #[.agg #[.int .u8 a.toNat, v, .int .u8 b.toNat], .nilIface]) ∧ RPiece w' (w.heap.size ≤ ·) p v ∧ Rd w' rb tb tc ps n' d
  | .err er p => EndErr rb tb tc ps d zTerm er p e w'
def TermPost (w : World) (rb tb tc : Nat) (ps : List (Thk.Tok × Value)) (n d : Nat) (e : Ending) (w' : World) : Prop :=
  ∃ res, Thk.PTerm d (tsOf ps n) res ∧ Kp rb w.heap.size w w' ∧ TermEnd w rb tb tc ps n d e w' res
theorem RPiece.oneCell {w : World} {A : Nat → Prop} {p : Thk.Piece} {v : Value} (h : RPiece w A p v) : ∃ t x, v = .iface t x := by
  cases p <;> simp only [RPiece] at h
  · exact ⟨_, _, h.1⟩
  · exact ⟨_, _, h⟩
  · obtain ⟨_, h, _⟩ := h; exact ⟨_, _, h⟩
  · exact ⟨_, _, h⟩
  · obtain ⟨_, _, h, _⟩ := h; exact ⟨_, _, h⟩
/-- Rows of another type than a block's stay while that block is written. -/
theorem own_other {w w' : World} {base b : Nat} {e e' : TypeId} {size : Nat} {v : Value} {n : Nat} {xs : List Value} {cs : Array Value} {fr : Nat × Nat} (h : w.ownsRow base e size v n xs)
    (hb : ∀ g, g ≠ b → g < w.heap.size → w'.heap[g]? = w.heap[g]?) (ht : w.heap[b]? = some (.cells cs e' fr)) (he : e ≠ e') : w'.ownsRow base e size v n xs := by
  refine own_blocks h (fun g hg => hb g ?_ (h.lt g hg).2)
  intro e1
  subst e1
  rcases h.2 with ⟨rfl, _⟩ | ⟨g', cap, cur, rfl, _, hc, _⟩
  · simp [Value.ownBlock] at hg
  · simp [Value.ownBlock] at hg
    subst hg
    rw [hc] at ht
    simp at ht
    exact he ht.2.1
theorem Rd.other {w w' : World} {rb tb tc b : Nat} {ps : List (Thk.Tok × Value)} {n d : Nat} {cs : Array Value} {fr : Nat × Nat} {e' : TypeId} (h : Rd w rb tb tc ps n d)
    (hb : ∀ g, g ≠ b → g < w.heap.size → w'.heap[g]? = w.heap[g]?) (ht : w.heap[b]? = some (.cells cs e' fr)) (h1 : 183 ≠ e') (h2 : 237 ≠ e') (h3 : 313 ≠ e') : Rd w' rb tb tc ps n d := by
  refine ⟨?_, ⟨own_other h.2.1.1 hb ht h2, fun p hp => own_other (h.2.1.2 p hp) hb ht h3⟩, h.2.2⟩
  rw [hb rb ?_ h.lt]
  · exact h.1
  · intro e; subst e
    have := h.1
    rw [ht] at this
    simp at this
    exact h1 this.2.1.symm
theorem heap_alloc_same (w : World) (o : Obj) : (w.alloc o).heap[w.heap.size]? = some o := by
  show (w.heap.push o)[w.heap.size]? = _
  simp
theorem heap_alloc_old (w : World) (o : Obj) {b : Nat} (h : b < w.heap.size) : (w.alloc o).heap[b]? = w.heap[b]? := Below.heap_alloc w o b h
abbrev zTermO : Obj := .cells #[.int .u8 0, .nilIface, .int .u8 0] 249
abbrev aheadO : Obj := .cells #[.int .u8 38, .int .u8 33] 234
abbrev behindO : Obj := .cells #[.int .u8 63, .int .u8 42, .int .u8 43] 234
theorem PieceEnd.form {w : World} {rb tb tc : Nat} {ps : List (Thk.Tok × Value)} {n d : Nat} {e : Ending} {w' : World} {pc : Thk.Piece} {rest : List Thk.Tok} (h : PieceEnd w rb tb tc ps n d e w' (.ok pc rest)) :
    ∃ n' t x, rest = tsOf ps n' ∧ n < n' ∧ n' < ps.length ∧ e = .returned (.tuple #[.iface t x, .nilIface]) ∧ RPiece w' (w.heap.size ≤ ·) pc (.iface t x) ∧ Rd w' rb tb tc ps n' d := by
  obtain ⟨n', v, h1, h2, h3, h4, h5, h6⟩ := h
  obtain ⟨t, x, rfl⟩ := RPiece.oneCell h5
  exact ⟨n', t, x, h1, h2, h3, h4, h5, h6⟩
set_option maxHeartbeats 4000000 in
set_option maxRecDepth 100000 in
theorem term_any (w : World) (rb tb tc : Nat) (ps : List (Thk.Tok × Value)) (n d : Nat) (h : Rd w rb tb tc ps n d) (hg : GoodP ps) (hn : n < ps.length) (hd : d ≤ 6)
    (R : Nat) (hR : ps.length - n ≤ R) (hC : ∀ R', R' < R → ChoiceC rb tb tc ps R') :
    Calls Tryz.prog 196 #[.pointer (some ⟨rb, 0, none⟩)] w fun e w' => TermPost w rb tb tc ps n d e w' := by
  have hrl := h.lt
  have hB1 : Below w.heap.size w ((w.alloc zTermO).alloc aheadO) := (below_alloc _ _).alloc (by simp) _
  have hsg := sign_ahead _ rb tb tc ps n d (h.below hB1) hg hn (w.heap.size + 1) (by simp) (by simp)
  have HB1 : Hid (Below w.heap.size w ((w.alloc zTermO).alloc aheadO)) := hB1
  have hsz1 : ((w.alloc zTermO).alloc aheadO).heap.size = w.heap.size + 2 := by simp
  have hrc1 : ((w.alloc zTermO).alloc aheadO).heap[w.heap.size]? = some zTermO := by
    rw [heap_alloc_old _ _ (by simp)]; exact heap_alloc_same _ _
  have hpc : ∀ w' n1, Rd w' rb tb tc ps n1 d → n ≤ n1 → n1 < ps.length → Calls Tryz.prog 206 #[.pointer (some ⟨rb, 0, none⟩)] w' fun e w'' => PiecePost w' rb tb tc ps n1 d e w'' :=
    fun w' n1 hr h1 h2 => piece_any w' rb tb tc ps n1 d hr hg h2 hd (hC _ (by omega))
  clear h hB1 hC
  go_enter Tryz.func196, Tryz.ntmps196
  go_wp2_with fail
  refine hsg.mono ?_
  rintro e w2 ⟨a, n1, rfl, ha, hle1, hn1, hR2, hK2⟩
  have hrc2 : w2.heap[w.heap.size]? = some zTermO := by rw [hK2.block _ (by rw [hsz1]; omega) (by omega)]; exact hrc1
  have hsz2 := hK2.size
  rw [hsz1] at hsz2
  have hKw2 : Kp rb w.heap.size w w2 := (Kp.of HB1.out).trans (hK2.mono (by rw [hsz1]; omega))
  have hp2 := hpc w2 n1 hR2 hle1 hn1
  have HR2 : Hid (Rd w2 rb tb tc ps n1 d) := hR2
  have HKw2 : Hid (Kp rb w.heap.size w w2) := hKw2
  have HA : Hid (Thk.aheadOf (tsOf ps n) = (a, tsOf ps n1)) := ha
  clear hK2 hrc1 hsg hpc HB1 hR2 hKw2 ha
  go_wp2_with fail
  refine hp2.mono ?_
  rintro e w3 ⟨res, hP, hK3, hE⟩
  have hrc3 : w3.heap[w.heap.size]? = some zTermO := by rw [hK3.block _ (by omega) (by omega)]; exact hrc2
  have hsz3 := hK3.size
  have hKw3 : Kp rb w.heap.size w w3 := HKw2.out.trans (hK3.mono (by omega))
  clear hp2 hrc2 hK3
  have q3 := cell_of_block hrc3
  have f3 := frozen_of_block hrc3
  have hlt3 : w.heap.size < w3.heap.size := by omega
  have HP : Hid (Thk.PPiece d (tsOf ps n1) res) := hP
  have HK3 : Hid (Kp rb w.heap.size w w3) := hKw3
  have HRC3 : Hid (w3.heap[w.heap.size]? = some zTermO) := hrc3
  clear hP hKw3 hrc3
  cases res with
  | err er p =>
    obtain ⟨rfl, n', hR⟩ := hE
    simp only [faultV]
    have H : Hid (Rd w3 rb tb tc ps n' d) := hR
    clear hR
    go_wp2_with fail
    refine bodyPost_ret (v := .tuple #[zTerm, faultV er p]) (by simp [results, Tryz.results196, go_sem, faultV, q3]) rfl ?_
    refine ⟨.err er p, .err (by rw [HA.out]; exact HP.out), ((HK3.out.setCell (Nat.le_refl _) _).setCell (Nat.le_refl _) _).setCell (Nat.le_refl _) _, rfl, n', ?_⟩
    refine H.out.other (b := w.heap.size) (fun g hg _ => ?_) HRC3.out (by decide) (by decide) (by decide)
    rw [Below.heap_setCell _ _ _ _ hg, Below.heap_setCell _ _ _ _ hg, Below.heap_setCell _ _ _ _ hg]
  | ok pc rest =>
    obtain ⟨n', t, x, rfl, hlt, hn2, rfl, hRP, hR⟩ := hE.form
    clear hE
    have hB4 : Below w3.heap.size w3 (w3.alloc behindO) := below_alloc _ _
    have hsz4 : (w3.alloc behindO).heap.size = w3.heap.size + 1 := by simp
    have hsg := sign_behind (w3.alloc behindO) rb tb tc ps n' d (hR.below hB4) hg hn2 w3.heap.size (by simp) (by simp) (by simp)
    have HRP : Hid (RPiece w3 (w2.heap.size ≤ ·) pc (.iface t x)) := hRP
    have H3 : Hid (Rd w3 rb tb tc ps n' d) := hR
    clear hRP hR
    go_wp2_with fail
    refine hsg.mono ?_
    rintro e w4 ⟨b, n4, rfl, hb, hle4, hn4, hR4, hK4⟩
    rw [hsz4] at hK4
    have hrc4 : w4.heap[w.heap.size]? = some zTermO := by
      rw [hK4.block _ (by omega) (by omega), heap_alloc_old _ _ hlt3]; exact HRC3.out
    have hsz5 := hK4.size
    rw [hsz4] at hsz5
    have hKw4 : Kp rb w.heap.size w w4 := (HK3.out.alloc (by omega) behindO).trans (hK4.mono (by omega))
    have q4 := cell_of_block hrc4
    have f4 := frozen_of_block hrc4
    have hlt4 : w.heap.size < w4.heap.size := by omega
    have HK34 : Hid (Kp rb w3.heap.size w3 w4) := (Kp.of hB4).trans (hK4.mono (by omega))
    have HB : Hid (Thk.behindOf (tsOf ps n') = (b, tsOf ps n4)) := hb
    have H4 : Hid (Rd w4 rb tb tc ps n4 d) := hR4
    have HKw4 : Hid (Kp rb w.heap.size w w4) := hKw4
    have HRC4 : Hid (w4.heap[w.heap.size]? = some zTermO) := hrc4
    clear hb hR4 hKw4 hrc4 hsg hB4 hK4 q3 f3
    go_wp2_with fail
    refine bodyPost_ret (v := .tuple #[.agg #[.int .u8 a.toNat, .iface t x, .int .u8 b.toNat], .nilIface]) (by simp [results, Tryz.results196, go_sem, q4]) rfl ?_
    have hot : ∀ g, g ≠ w.heap.size → g < w4.heap.size → (((w4.setCell ⟨w.heap.size, 0, none⟩ (.int .u8 a.toNat)).setCell ⟨w.heap.size, 1, none⟩ (.iface t x)).setCell ⟨w.heap.size, 2, none⟩ (.int .u8 b.toNat)).heap[g]? = w4.heap[g]? := by
      intro g hg _
      rw [Below.heap_setCell _ _ _ _ hg, Below.heap_setCell _ _ _ _ hg, Below.heap_setCell _ _ _ _ hg]
    have hPT : Thk.PTerm d (tsOf ps n) (.ok (.mk a pc b) (tsOf ps n4)) := by
      have := Thk.PTerm.ok (d := d) (ts := tsOf ps n) (p := pc) (rest := tsOf ps n') (by rw [HA.out]; exact HP.out)
      rw [HA.out, HB.out] at this
      exact this
    refine ⟨_, hPT, ((HKw4.out.setCell (Nat.le_refl _) _).setCell (Nat.le_refl _) _).setCell (Nat.le_refl _) _, n4, _, rfl, by omega, hn4, rfl, ?_, ?_⟩
    · have h34 := RPiece.kept (sm_kp H3.out.1 HK34.out (fun g hg => by omega)) pc _ HRP.out
      have hs : Sm (w2.heap.size ≤ ·) w4 _ := ⟨fun u l hl => own_other hl hot HRC4.out (by decide), fun g hg ha => hot g (by omega) hg⟩
      exact RPiece.mono (fun g _ hg => by omega) pc _ (RPiece.kept hs pc _ h34)
    · exact H4.out.other (b := w.heap.size) hot HRC4.out (by decide) (by decide) (by decide)
end Go.Proofs.YtiganlkabilblaaGreatDoor
