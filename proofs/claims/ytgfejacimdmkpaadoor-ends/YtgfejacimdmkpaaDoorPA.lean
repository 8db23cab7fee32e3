set_option linter.all false
namespace Thk

abbrev Bytes := List UInt8

def isLet (c : UInt8) : Bool := 97 ≤ c && c ≤ 122
def isBlank (c : UInt8) : Bool := c == 32 || c == 9 || c == 10 || c == 13

/-- How many bytes there are up to the line's end. -/
def lineN : Bytes → Nat
  | [] => 0
  | c :: t => if c = 10 then 0 else lineN t + 1

/-- How many bytes of blanks (comments too) there are; the flag: within a comment? -/
def blk : Bool → Bytes → Nat
  | _, [] => 0
  | true, c :: t => if c = 10 then blk false t + 1 else blk true t + 1
  | false, c :: t => if isBlank c then blk false t + 1 else if c = 35 then blk true t + 1 else 0

def letN : Bytes → Nat
  | [] => 0
  | c :: t => if isLet c then letN t + 1 else 0

def escL (m : Bytes) : Bytes → Option (UInt8 × Nat)
  | [] => none
  | d :: _ => if d = 110 then some (10, 2) else if d = 116 then some (9, 2) else if d = 92 || m.contains d then some (d, 2) else none

def charL (m : Bytes) : Bytes → Option (UInt8 × Nat)
  | [] => none
  | c :: t => if c = 92 then escL m t else if c = 10 || m.contains c then none else some (c, 1)

def charsF (m : Bytes) : Nat → Bytes → Bytes × Nat
  | 0, _ => ([], 0)
  | f + 1, l => match charL m l with
    | none => ([], 0)
    | some (c, n) => (c :: (charsF m f (l.drop n)).1, n + (charsF m f (l.drop n)).2)

def charsL (m : Bytes) (l : Bytes) : Bytes × Nat := charsF m l.length l

abbrev Span := UInt8 × UInt8

def spanL (l : Bytes) : Option (Span × Nat) :=
  match charL [93, 45] l with
  | none => none
  | some (lo, n) =>
    if l[n]? = some 45 then
      match charL [93, 45] (l.drop (n + 1)) with
      | none => none
      | some (hi, k) => if lo ≤ hi then some ((lo, hi), n + 1 + k) else none
    else some ((lo, lo), n)

def spansF : Nat → Bytes → List Span × Nat
  | 0, _ => ([], 0)
  | f + 1, l => match spanL l with
    | none => ([], 0)
    | some (c, n) => (c :: (spansF f (l.drop n)).1, n + (spansF f (l.drop n)).2)

def spansL (l : Bytes) : List Span × Nat := spansF l.length l

inductive TK where
  | fin | bad | name | arrow | lit | cls | sign (c : UInt8)

structure Tok where
  kind : TK
  place : Nat
  size : Nat
  text : Bytes
  spans : List Span

def signB (c : UInt8) : Bool := [47, 38, 33, 63, 42, 43, 40, 41, 46].contains c

def badT : Tok := ⟨.bad, 0, 0, [], []⟩

def closesL (l : Bytes) (n : Nat) (mark : UInt8) (items : Nat) : Bool := l[n]? == some mark && decide (1 ≤ items) && decide (items ≤ 20)

def nameT (l : Bytes) : Tok := if 12 < letN l then badT else ⟨.name, 0, letN l, l.take (letN l), []⟩
def litT (t : Bytes) : Tok :=
  if closesL t (charsL [39] t).2 39 (charsL [39] t).1.length then ⟨.lit, 0, (charsL [39] t).2 + 2, (charsL [39] t).1, []⟩ else badT
def clsT (t : Bytes) : Tok :=
  if closesL t (spansL t).2 93 (spansL t).1.length then ⟨.cls, 0, (spansL t).2 + 2, [], (spansL t).1⟩ else badT

/-- The token at the beginning (no blanks ahead). -/
def tokL : Bytes → Tok
  | [] => ⟨.fin, 0, 0, [], []⟩
  | c :: t =>
    if isLet c then nameT (c :: t)
    else if c = 60 ∧ t.head? = some 45 then ⟨.arrow, 0, 2, [], []⟩
    else if c = 39 then litT t
    else if c = 91 then clsT t
    else if signB c then ⟨.sign c, 0, 1, [], []⟩
    else badT

def TK.isArrow : TK → Bool
  | .arrow => true
  | _ => false

def TK.last : TK → Bool
  | .fin => true
  | .bad => true
  | _ => false

def toksF : Nat → Nat → Bytes → List Tok
  | 0, _, _ => []
  | f + 1, pos, l =>
    { tokL (l.drop (blk false l)) with place := pos + blk false l } ::
      (if (tokL (l.drop (blk false l))).kind.last then []
       else toksF f (pos + blk false l + (tokL (l.drop (blk false l))).size) ((l.drop (blk false l)).drop (tokL (l.drop (blk false l))).size))

def toks (l : Bytes) : List Tok := toksF (l.length + 1) 0 l



mutual
inductive Piece where
  | name (b : Bytes)
  | lit (b : Bytes)
  | cls (l : List Span)
  | any
  | group (c : List (List Term))
inductive Term where
  | mk (ahead : UInt8) (p : Piece) (behind : UInt8)
 end

abbrev Seq := List Term
abbrev Choice := List Seq

inductive Res (α : Type) where
  | ok (a : α) (rest : List Tok)
  | err (e p : Nat)

def Res.map {α β : Type} (f : α → β) : Res α → Res β
  | .ok a rest => .ok (f a) rest
  | .err e p => .err e p

def hd (ts : List Tok) : Tok := ts.headD badT

/-- Does a term begin here, within so many brackets? -/
def begins (d : Nat) (ts : List Tok) : Bool :=
  match (hd ts).kind with
  | .name => !(d == 0 && (hd ts.tail).kind.isArrow)
  | .lit => true
  | .cls => true
  | .sign c => c == 38 || c == 33 || c == 46 || c == 40
  | _ => false

def aheadOf (ts : List Tok) : UInt8 × List Tok :=
  match (hd ts).kind with
  | .sign c => if c = 38 ∨ c = 33 then (c, ts.tail) else (0, ts)
  | _ => (0, ts)

def behindOf (ts : List Tok) : UInt8 × List Tok :=
  match (hd ts).kind with
  | .sign c => if c = 63 ∨ c = 42 ∨ c = 43 then (c, ts.tail) else (0, ts)
  | _ => (0, ts)

/-- A piece that is no group. -/
def plainPiece (t : Tok) : Option Piece :=
  match t.kind with
  | .name => some (.name t.text)
  | .lit => some (.lit t.text)
  | .cls => some (.cls t.spans)
  | .sign c => if c = 46 then some .any else none
  | _ => none

mutual
inductive PPiece : Nat → List Tok → Res Piece → Prop
  | plain {d ts p} : plainPiece (hd ts) = some p → PPiece d ts (.ok p ts.tail)
  | bad {d ts} : plainPiece (hd ts) = none → (hd ts).kind ≠ .sign 40 → PPiece d ts (.err 2 (hd ts).place)
  | deep {ts} : (hd ts).kind = .sign 40 → PPiece 6 ts (.err 3 (hd ts).place)
  | group {d ts c rest} : (hd ts).kind = .sign 40 → d ≠ 6 → PChoice (d + 1) ts.tail (.ok c rest) → (hd rest).kind = .sign 41 → PPiece d ts (.ok (.group c) rest.tail)
  | unclosed {d ts c rest} : (hd ts).kind = .sign 40 → d ≠ 6 → PChoice (d + 1) ts.tail (.ok c rest) → (hd rest).kind ≠ .sign 41 → PPiece d ts (.err 2 (hd rest).place)
  | inner {d ts e p} : (hd ts).kind = .sign 40 → d ≠ 6 → PChoice (d + 1) ts.tail (.err e p) → PPiece d ts (.err e p)
inductive PTerm : Nat → List Tok → Res Term → Prop
  | ok {d ts p rest} : PPiece d (aheadOf ts).2 (.ok p rest) → PTerm d ts (.ok (.mk (aheadOf ts).1 p (behindOf rest).1) (behindOf rest).2)
  | err {d ts e p} : PPiece d (aheadOf ts).2 (.err e p) → PTerm d ts (.err e p)
inductive PSeq : Nat → List Tok → Res Seq → Prop
  | nil {d ts} : begins d ts = false → PSeq d ts (.ok [] ts)
  | cons {d ts t rest s rest'} : begins d ts = true → PTerm d ts (.ok t rest) → PSeq d rest (.ok s rest') → PSeq d ts (.ok (t :: s) rest')
  | err {d ts e p} : begins d ts = true → PTerm d ts (.err e p) → PSeq d ts (.err e p)
  | later {d ts t rest e p} : begins d ts = true → PTerm d ts (.ok t rest) → PSeq d rest (.err e p) → PSeq d ts (.err e p)
inductive PChoice : Nat → List Tok → Res Choice → Prop
  | last {d ts s rest} : PSeq d ts (.ok s rest) → (hd rest).kind ≠ .sign 47 → PChoice d ts (.ok [s] rest)
  | more {d ts s rest c rest'} : PSeq d ts (.ok s rest) → (hd rest).kind = .sign 47 → PChoice d rest.tail (.ok c rest') → PChoice d ts (.ok (s :: c) rest')
  | err {d ts e p} : PSeq d ts (.err e p) → PChoice d ts (.err e p)
  | later {d ts s rest e p} : PSeq d ts (.ok s rest) → (hd rest).kind = .sign 47 → PChoice d rest.tail (.err e p) → PChoice d ts (.err e p)
 end

structure Rule where
  name : Bytes
  choice : Choice

inductive PRule : Nat → List Tok → Res Rule → Prop
  | noName {n ts} : (hd ts).kind ≠ .name → PRule n ts (.err 2 (hd ts).place)
  | many {ts} : (hd ts).kind = .name → (hd ts.tail).kind = .arrow → PRule 20 ts (.err 4 (hd ts.tail).place)
  | noArrow {n ts} : (hd ts).kind = .name → (hd ts.tail).kind ≠ .arrow → PRule n ts (.err 2 (hd ts.tail).place)
  | ok {n ts c rest} : (hd ts).kind = .name → (hd ts.tail).kind = .arrow → n ≠ 20 → PChoice 0 ts.tail.tail (.ok c rest) → PRule n ts (.ok ⟨(hd ts).text, c⟩ rest)
  | err {n ts e p} : (hd ts).kind = .name → (hd ts.tail).kind = .arrow → n ≠ 20 → PChoice 0 ts.tail.tail (.err e p) → PRule n ts (.err e p)

/-- The rules from number n on. -/
inductive PGram : Nat → List Tok → Except (Nat × Nat) (List Rule) → Prop
  | last {n ts r rest} : PRule n ts (.ok r rest) → (hd rest).kind = .fin → PGram n ts (.ok [r])
  | more {n ts r rest g} : PRule n ts (.ok r rest) → (hd rest).kind ≠ .fin → PGram (n + 1) rest (.ok g) → PGram n ts (.ok (r :: g))
  | err {n ts e p} : PRule n ts (.err e p) → PGram n ts (.error (e, p))
  | later {n ts r rest x} : PRule n ts (.ok r rest) → (hd rest).kind ≠ .fin → PGram (n + 1) rest (.error x) → PGram n ts (.error x)

end Thk
namespace Thk

def Term.ahead : Term → UInt8 | .mk a _ _ => a
def Term.piece : Term → Piece | .mk _ p _ => p
def Term.behind : Term → UInt8 | .mk _ _ b => b

mutual
def emptyP (E : Bytes → Bool) : Piece → Bool
  | .name b => E b
  | .group c => emptyC E c
  | _ => false
def emptyT (E : Bytes → Bool) : Term → Bool
  | .mk a p b => (a != 0 || b == 63 || b == 42) || emptyP E p
def emptyS (E : Bytes → Bool) : List Term → Bool
  | [] => true
  | t :: s => emptyT E t && emptyS E s
def emptyC (E : Bytes → Bool) : List (List Term) → Bool
  | [] => false
  | s :: c => emptyS E s || emptyC E c
 end

mutual
def someP (H : Term → Bool) : Piece → Bool
  | .group c => someC H c
  | _ => false
def someT (H : Term → Bool) : Term → Bool
  | .mk a p b => H (.mk a p b) || someP H p
def someS (H : Term → Bool) : List Term → Bool
  | [] => false
  | t :: s => someT H t || someS H s
def someC (H : Term → Bool) : List (List Term) → Bool
  | [] => false
  | s :: c => someS H s || someC H c
 end

mutual
/-- The names that come first, those that are known to be empty passed over. -/
def firstP (E : Bytes → Bool) : Piece → List Bytes
  | .name b => [b]
  | .group c => firstC E c
  | _ => []
def firstT (E : Bytes → Bool) : Term → List Bytes
  | .mk _ p _ => firstP E p
def firstS (E : Bytes → Bool) : List Term → List Bytes
  | [] => []
  | t :: s => firstT E t ++ (if emptyT E t then firstS E s else [])
def firstC (E : Bytes → Bool) : List (List Term) → List Bytes
  | [] => []
  | s :: c => firstS E s ++ firstC E c
 end

theorem emptyC_cons (E) (s : Seq) (c : Choice) : emptyC E (s :: c) = (emptyS E s || emptyC E c) := by simp [emptyC]
end Thk
namespace Thk

def DPPiece (d : Nat) (ts : List Tok) (r : Res Piece) : Prop := ∀ r', PPiece d ts r' → r = r'
def DPTerm (d : Nat) (ts : List Tok) (r : Res Term) : Prop := ∀ r', PTerm d ts r' → r = r'
def DPSeq (d : Nat) (ts : List Tok) (r : Res Seq) : Prop := ∀ r', PSeq d ts r' → r = r'
def DPChoice (d : Nat) (ts : List Tok) (r : Res Choice) : Prop := ∀ r', PChoice d ts r' → r = r'

theorem d_PPiece_plain {d : Nat} {ts : List Tok} {p : Piece} (hp : plainPiece (hd ts) = some p) : DPPiece d ts (.ok p ts.tail) := by
  intro r' h'
  cases h' with
  | plain hp' => rw [hp] at hp'; cases hp'; rfl
  | bad hn _ => rw [hp] at hn; cases hn
  | deep hk => exact absurd hp (by simp [plainPiece, hk])
  | group hk _ _ _ => exact absurd hp (by simp [plainPiece, hk])
  | unclosed hk _ _ _ => exact absurd hp (by simp [plainPiece, hk])
  | inner hk _ _ => exact absurd hp (by simp [plainPiece, hk])

theorem d_PPiece_bad {d : Nat} {ts : List Tok} (hn : plainPiece (hd ts) = none) (hk : (hd ts).kind ≠ .sign 40) : DPPiece d ts (.err 2 (hd ts).place) := by
  intro r' h'
  cases h' with
  | plain hp' => rw [hn] at hp'; cases hp'
  | bad _ _ => rfl
  | deep hk' => exact absurd hk' hk
  | group hk' _ _ _ => exact absurd hk' hk
  | unclosed hk' _ _ _ => exact absurd hk' hk
  | inner hk' _ _ => exact absurd hk' hk

theorem d_PPiece_deep {ts : List Tok} (hk : (hd ts).kind = .sign 40) : DPPiece 6 ts (.err 3 (hd ts).place) := by
  intro r' h'
  cases h' with
  | plain hp' => exact absurd hp' (by simp [plainPiece, hk])
  | bad _ hk' => exact absurd hk hk'
  | deep _ => rfl
  | group _ hd _ _ => exact absurd rfl hd
  | unclosed _ hd _ _ => exact absurd rfl hd
  | inner _ hd _ => exact absurd rfl hd

theorem d_PPiece_group {d : Nat} {ts : List Tok} {c : Choice} {rest : List Tok} (hk : (hd ts).kind = .sign 40) (hd' : d ≠ 6) (hc : PChoice (d + 1) ts.tail (.ok c rest)) (hcl : (hd rest).kind = .sign 41) (ihc : DPChoice (d + 1) ts.tail (.ok c rest)) : DPPiece d ts (.ok (.group c) rest.tail) := by
  intro r' h'
  cases h' with
  | plain hp' => exact absurd hp' (by simp [plainPiece, hk])
  | bad _ hk' => exact absurd hk hk'
  | deep _ => exact absurd rfl hd'
  | group _ _ hc' _ => have := ihc _ hc'; cases this; rfl
  | unclosed _ _ hc' hcl' => have := ihc _ hc'; cases this; exact absurd hcl hcl'
  | inner _ _ hc' => have := ihc _ hc'; cases this

theorem d_PPiece_unclosed {d : Nat} {ts : List Tok} {c : Choice} {rest : List Tok} (hk : (hd ts).kind = .sign 40) (hd' : d ≠ 6) (hc : PChoice (d + 1) ts.tail (.ok c rest)) (hcl : (hd rest).kind ≠ .sign 41) (ihc : DPChoice (d + 1) ts.tail (.ok c rest)) : DPPiece d ts (.err 2 (hd rest).place) := by
  intro r' h'
  cases h' with
  | plain hp' => exact absurd hp' (by simp [plainPiece, hk])
  | bad _ hk' => exact absurd hk hk'
  | deep _ => exact absurd rfl hd'
  | group _ _ hc' hcl' => have := ihc _ hc'; cases this; exact absurd hcl' hcl
  | unclosed _ _ hc' _ => have := ihc _ hc'; cases this; rfl
  | inner _ _ hc' => have := ihc _ hc'; cases this

theorem d_PPiece_inner {d : Nat} {ts : List Tok} {e p : Nat} (hk : (hd ts).kind = .sign 40) (hd' : d ≠ 6) (hc : PChoice (d + 1) ts.tail (.err e p)) (ihc : DPChoice (d + 1) ts.tail (.err e p)) : DPPiece d ts (.err e p) := by
  intro r' h'
  cases h' with
  | plain hp' => exact absurd hp' (by simp [plainPiece, hk])
  | bad _ hk' => exact absurd hk hk'
  | deep _ => exact absurd rfl hd'
  | group _ _ hc' _ => have := ihc _ hc'; cases this
  | unclosed _ _ hc' _ => have := ihc _ hc'; cases this
  | inner _ _ hc' => have := ihc _ hc'; cases this; rfl

theorem d_PTerm_ok {d : Nat} {ts : List Tok} {p : Piece} {rest : List Tok} (hp : PPiece d (aheadOf ts).2 (.ok p rest)) (ihp : DPPiece d (aheadOf ts).2 (.ok p rest)) : DPTerm d ts (.ok (.mk (aheadOf ts).1 p (behindOf rest).1) (behindOf rest).2) := by
  intro r' h'
  cases h' with
  | ok hp' => have := ihp _ hp'; cases this; rfl
  | err hp' => have := ihp _ hp'; cases this

theorem d_PTerm_err {d : Nat} {ts : List Tok} {e p : Nat} (hp : PPiece d (aheadOf ts).2 (.err e p)) (ihp : DPPiece d (aheadOf ts).2 (.err e p)) : DPTerm d ts (.err e p) := by
  intro r' h'
  cases h' with
  | ok hp' => have := ihp _ hp'; cases this
  | err hp' => have := ihp _ hp'; cases this; rfl

theorem d_PSeq_nil {d : Nat} {ts : List Tok} (hb : begins d ts = false) : DPSeq d ts (.ok [] ts) := by
  intro r' h'
  cases h' with
  | nil _ => rfl
  | cons hb' _ _ => rw [hb] at hb'; cases hb'
  | err hb' _ => rw [hb] at hb'; cases hb'
  | later hb' _ _ => rw [hb] at hb'; cases hb'

theorem d_PSeq_cons {d : Nat} {ts : List Tok} {t : Term} {rest : List Tok} {s : Seq} {rest' : List Tok} (hb : begins d ts = true) (ht : PTerm d ts (.ok t rest)) (hs : PSeq d rest (.ok s rest')) (iht : DPTerm d ts (.ok t rest)) (ihs : DPSeq d rest (.ok s rest')) : DPSeq d ts (.ok (t :: s) rest') := by
  intro r' h'
  cases h' with
  | nil hb' => rw [hb] at hb'; cases hb'
  | cons _ ht' hs' => have := iht _ ht'; cases this; have := ihs _ hs'; cases this; rfl
  | err _ ht' => have := iht _ ht'; cases this
  | later _ ht' hs' => have := iht _ ht'; cases this; have := ihs _ hs'; cases this

theorem d_PSeq_err {d : Nat} {ts : List Tok} {e p : Nat} (hb : begins d ts = true) (ht : PTerm d ts (.err e p)) (iht : DPTerm d ts (.err e p)) : DPSeq d ts (.err e p) := by
  intro r' h'
  cases h' with
  | nil hb' => rw [hb] at hb'; cases hb'
  | cons _ ht' _ => have := iht _ ht'; cases this
  | err _ ht' => have := iht _ ht'; cases this; rfl
  | later _ ht' _ => have := iht _ ht'; cases this

theorem d_PSeq_later {d : Nat} {ts : List Tok} {t : Term} {rest : List Tok} {e p : Nat} (hb : begins d ts = true) (ht : PTerm d ts (.ok t rest)) (hs : PSeq d rest (.err e p)) (iht : DPTerm d ts (.ok t rest)) (ihs : DPSeq d rest (.err e p)) : DPSeq d ts (.err e p) := by
  intro r' h'
  cases h' with
  | nil hb' => rw [hb] at hb'; cases hb'
  | cons _ ht' hs' => have := iht _ ht'; cases this; have := ihs _ hs'; cases this
  | err _ ht' => have := iht _ ht'; cases this
  | later _ ht' hs' => have := iht _ ht'; cases this; have := ihs _ hs'; cases this; rfl

theorem d_PChoice_last {d : Nat} {ts : List Tok} {s : Seq} {rest : List Tok} (hs : PSeq d ts (.ok s rest)) (hk : (hd rest).kind ≠ .sign 47) (ihs : DPSeq d ts (.ok s rest)) : DPChoice d ts (.ok [s] rest) := by
  intro r' h'
  cases h' with
  | last hs' _ => have := ihs _ hs'; cases this; rfl
  | more hs' hk' _ => have := ihs _ hs'; cases this; exact absurd hk' hk
  | err hs' => have := ihs _ hs'; cases this
  | later hs' hk' _ => have := ihs _ hs'; cases this; exact absurd hk' hk

theorem d_PChoice_more {d : Nat} {ts : List Tok} {s : Seq} {rest : List Tok} {c : Choice} {rest' : List Tok} (hs : PSeq d ts (.ok s rest)) (hk : (hd rest).kind = .sign 47) (hc : PChoice d rest.tail (.ok c rest')) (ihs : DPSeq d ts (.ok s rest)) (ihc : DPChoice d rest.tail (.ok c rest')) : DPChoice d ts (.ok (s :: c) rest') := by
  intro r' h'
  cases h' with
  | last hs' hk' => have := ihs _ hs'; cases this; exact absurd hk hk'
  | more hs' _ hc' => have := ihs _ hs'; cases this; have := ihc _ hc'; cases this; rfl
  | err hs' => have := ihs _ hs'; cases this
  | later hs' _ hc' => have := ihs _ hs'; cases this; have := ihc _ hc'; cases this

theorem d_PChoice_err {d : Nat} {ts : List Tok} {e p : Nat} (hs : PSeq d ts (.err e p)) (ihs : DPSeq d ts (.err e p)) : DPChoice d ts (.err e p) := by
  intro r' h'
  cases h' with
  | last hs' _ => have := ihs _ hs'; cases this
  | more hs' _ _ => have := ihs _ hs'; cases this
  | err hs' => have := ihs _ hs'; cases this; rfl
  | later hs' _ _ => have := ihs _ hs'; cases this

theorem d_PChoice_later {d : Nat} {ts : List Tok} {s : Seq} {rest : List Tok} {e p : Nat} (hs : PSeq d ts (.ok s rest)) (hk : (hd rest).kind = .sign 47) (hc : PChoice d rest.tail (.err e p)) (ihs : DPSeq d ts (.ok s rest)) (ihc : DPChoice d rest.tail (.err e p)) : DPChoice d ts (.err e p) := by
  intro r' h'
  cases h' with
  | last hs' hk' => have := ihs _ hs'; cases this; exact absurd hk hk'
  | more hs' _ hc' => have := ihs _ hs'; cases this; have := ihc _ hc'; cases this
  | err hs' => have := ihs _ hs'; cases this
  | later hs' _ hc' => have := ihs _ hs'; cases this; have := ihc _ hc'; cases this; rfl

theorem PPiece.det {d : Nat} {ts : List Tok} {r r' : Res Piece} (h : PPiece d ts r) (h' : PPiece d ts r') : r = r' := by
  refine (PPiece.rec (motive_1 := fun d ts r _ => DPPiece d ts r) (motive_2 := fun d ts r _ => DPTerm d ts r) (motive_3 := fun d ts r _ => DPSeq d ts r) (motive_4 := fun d ts r _ => DPChoice d ts r) ?_ ?_ ?_ ?_ ?_ ?_ ?_ ?_ ?_ ?_ ?_ ?_ ?_ ?_ ?_ ?_ h : DPPiece d ts r) _ h'
  · intros; apply d_PPiece_plain <;> assumption
  · intros; apply d_PPiece_bad <;> assumption
  · intros; apply d_PPiece_deep <;> assumption
  · intros; apply d_PPiece_group <;> assumption
  · intros; apply d_PPiece_unclosed <;> assumption
  · intros; apply d_PPiece_inner <;> assumption
  · intros; apply d_PTerm_ok <;> assumption
  · intros; apply d_PTerm_err <;> assumption
  · intros; apply d_PSeq_nil <;> assumption
  · intros; apply d_PSeq_cons <;> assumption
  · intros; apply d_PSeq_err <;> assumption
  · intros; apply d_PSeq_later <;> assumption
  · intros; apply d_PChoice_last <;> assumption
  · intros; apply d_PChoice_more <;> assumption
  · intros; apply d_PChoice_err <;> assumption
  · intros; apply d_PChoice_later <;> assumption

theorem PTerm.det {d : Nat} {ts : List Tok} {r r' : Res Term} (h : PTerm d ts r) (h' : PTerm d ts r') : r = r' := by
  refine (PTerm.rec (motive_1 := fun d ts r _ => DPPiece d ts r) (motive_2 := fun d ts r _ => DPTerm d ts r) (motive_3 := fun d ts r _ => DPSeq d ts r) (motive_4 := fun d ts r _ => DPChoice d ts r) ?_ ?_ ?_ ?_ ?_ ?_ ?_ ?_ ?_ ?_ ?_ ?_ ?_ ?_ ?_ ?_ h : DPTerm d ts r) _ h'
  · intros; apply d_PPiece_plain <;> assumption
  · intros; apply d_PPiece_bad <;> assumption
  · intros; apply d_PPiece_deep <;> assumption
  · intros; apply d_PPiece_group <;> assumption
  · intros; apply d_PPiece_unclosed <;> assumption
  · intros; apply d_PPiece_inner <;> assumption
  · intros; apply d_PTerm_ok <;> assumption
  · intros; apply d_PTerm_err <;> assumption
  · intros; apply d_PSeq_nil <;> assumption
  · intros; apply d_PSeq_cons <;> assumption
  · intros; apply d_PSeq_err <;> assumption
  · intros; apply d_PSeq_later <;> assumption
  · intros; apply d_PChoice_last <;> assumption
  · intros; apply d_PChoice_more <;> assumption
  · intros; apply d_PChoice_err <;> assumption
  · intros; apply d_PChoice_later <;> assumption

theorem PSeq.det {d : Nat} {ts : List Tok} {r r' : Res Seq} (h : PSeq d ts r) (h' : PSeq d ts r') : r = r' := by
  refine (PSeq.rec (motive_1 := fun d ts r _ => DPPiece d ts r) (motive_2 := fun d ts r _ => DPTerm d ts r) (motive_3 := fun d ts r _ => DPSeq d ts r) (motive_4 := fun d ts r _ => DPChoice d ts r) ?_ ?_ ?_ ?_ ?_ ?_ ?_ ?_ ?_ ?_ ?_ ?_ ?_ ?_ ?_ ?_ h : DPSeq d ts r) _ h'
  · intros; apply d_PPiece_plain <;> assumption
  · intros; apply d_PPiece_bad <;> assumption
  · intros; apply d_PPiece_deep <;> assumption
  · intros; apply d_PPiece_group <;> assumption
  · intros; apply d_PPiece_unclosed <;> assumption
  · intros; apply d_PPiece_inner <;> assumption
  · intros; apply d_PTerm_ok <;> assumption
  · intros; apply d_PTerm_err <;> assumption
  · intros; apply d_PSeq_nil <;> assumption
  · intros; apply d_PSeq_cons <;> assumption
  · intros; apply d_PSeq_err <;> assumption
  · intros; apply d_PSeq_later <;> assumption
  · intros; apply d_PChoice_last <;> assumption
  · intros; apply d_PChoice_more <;> assumption
  · intros; apply d_PChoice_err <;> assumption
  · intros; apply d_PChoice_later <;> assumption

theorem PChoice.det {d : Nat} {ts : List Tok} {r r' : Res Choice} (h : PChoice d ts r) (h' : PChoice d ts r') : r = r' := by
  refine (PChoice.rec (motive_1 := fun d ts r _ => DPPiece d ts r) (motive_2 := fun d ts r _ => DPTerm d ts r) (motive_3 := fun d ts r _ => DPSeq d ts r) (motive_4 := fun d ts r _ => DPChoice d ts r) ?_ ?_ ?_ ?_ ?_ ?_ ?_ ?_ ?_ ?_ ?_ ?_ ?_ ?_ ?_ ?_ h : DPChoice d ts r) _ h'
  · intros; apply d_PPiece_plain <;> assumption
  · intros; apply d_PPiece_bad <;> assumption
  · intros; apply d_PPiece_deep <;> assumption
  · intros; apply d_PPiece_group <;> assumption
  · intros; apply d_PPiece_unclosed <;> assumption
  · intros; apply d_PPiece_inner <;> assumption
  · intros; apply d_PTerm_ok <;> assumption
  · intros; apply d_PTerm_err <;> assumption
  · intros; apply d_PSeq_nil <;> assumption
  · intros; apply d_PSeq_cons <;> assumption
  · intros; apply d_PSeq_err <;> assumption
  · intros; apply d_PSeq_later <;> assumption
  · intros; apply d_PChoice_last <;> assumption
  · intros; apply d_PChoice_more <;> assumption
  · intros; apply d_PChoice_err <;> assumption
  · intros; apply d_PChoice_later <;> assumption

theorem PRule.det {n : Nat} {ts : List Tok} {r r' : Res Rule} (h : PRule n ts r) (h' : PRule n ts r') : r = r' := by
  cases h with
  | noName hk => cases h' <;> first | rfl | contradiction
  | many hk ha => cases h' <;> first | rfl | contradiction
  | noArrow hk ha => cases h' <;> first | rfl | contradiction
  | ok hk ha hn hc =>
    cases h' with
    | noName hk' => exact absurd hk hk'
    | many _ _ => exact absurd rfl hn
    | noArrow _ ha' => exact absurd ha ha'
    | ok _ _ _ hc' => have := hc.det hc'; cases this; rfl
    | err _ _ _ hc' => have := hc.det hc'; cases this
  | err hk ha hn hc =>
    cases h' with
    | noName hk' => exact absurd hk hk'
    | many _ _ => exact absurd rfl hn
    | noArrow _ ha' => exact absurd ha ha'
    | ok _ _ _ hc' => have := hc.det hc'; cases this
    | err _ _ _ hc' => have := hc.det hc'; cases this; rfl

theorem PGram.det {n : Nat} {ts : List Tok} {r : Except (Nat × Nat) (List Rule)} (h : PGram n ts r) : ∀ {r'}, PGram n ts r' → r = r' := by
  induction h with
  | last hr hk =>
    intro r' h'
    cases h' with
    | last hr' _ => have := hr.det hr'; cases this; rfl
    | more hr' hk' _ => have := hr.det hr'; cases this; exact absurd hk hk'
    | err hr' => have := hr.det hr'; cases this
    | later hr' hk' _ => have := hr.det hr'; cases this; exact absurd hk hk'
  | more hr hk _ ih =>
    intro r' h'
    cases h' with
    | last hr' hk' => have := hr.det hr'; cases this; exact absurd hk' hk
    | more hr' _ hg' => have := hr.det hr'; cases this; have := ih hg'; cases this; rfl
    | err hr' => have := hr.det hr'; cases this
    | later hr' _ hg' => have := hr.det hr'; cases this; have := ih hg'; cases this
  | err hr =>
    intro r' h'
    cases h' with
    | last hr' _ => have := hr.det hr'; cases this
    | more hr' _ _ => have := hr.det hr'; cases this
    | err hr' => have := hr.det hr'; cases this; rfl
    | later hr' _ _ => have := hr.det hr'; cases this
  | later hr hk _ ih =>
    intro r' h'
    cases h' with
    | last hr' hk' => have := hr.det hr'; cases this; exact absurd hk' hk
    | more hr' _ hg' => have := hr.det hr'; cases this; have := ih hg'; cases this
    | err hr' => have := hr.det hr'; cases this
    | later hr' _ hg' => have := hr.det hr'; cases this; have := ih hg'; cases this; rfl
end Thk
